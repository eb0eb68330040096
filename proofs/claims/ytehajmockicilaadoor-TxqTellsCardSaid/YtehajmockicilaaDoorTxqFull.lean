/-
  The law TxqFull, walked.
-/
import Derived.Test.YtehajmockicilaaDoorTxqSeq
import Derived.Deep.DeepCutAuto
namespace Go.Proofs.YtehajmockicilaaDoor
open Go Go.RowKit

/-- Block b is six raw numbers. -/
def RawAt (w : World) (b : Nat) (r : Raw) : Prop := w.heap[b]? = some (.cells #[.int .i64 r.r0, .int .i64 r.r1, .int .i64 r.r2, .int .i64 r.r3, .int .i64 r.r4, .int .i64 r.r5] 27 (0, 0))
theorem RawAt.new (w : World) (r : Raw) : RawAt (w.alloc (.cells #[.int .i64 r.r0, .int .i64 r.r1, .int .i64 r.r2, .int .i64 r.r3, .int .i64 r.r4, .int .i64 r.r5] 27)) w.heap.size r := heap_alloc_new w _
theorem RawAt.on {w w' : World} {b : Nat} {r : Raw} (h : RawAt w b r) (hb : Below w.heap.size w w') : RawAt w' b r := (hb.block b (Array.getElem?_eq_some_iff.1 h).1).trans h
theorem RawAt.cells {w : World} {b : Nat} {r : Raw} (h : RawAt w b r) : w.cell? ⟨b, 0, none⟩ = some (.int .i64 r.r0) ∧ w.cell? ⟨b, 1, none⟩ = some (.int .i64 r.r1) ∧ w.cell? ⟨b, 2, none⟩ = some (.int .i64 r.r2) ∧ w.cell? ⟨b, 3, none⟩ = some (.int .i64 r.r3) ∧ w.cell? ⟨b, 4, none⟩ = some (.int .i64 r.r4) ∧ w.cell? ⟨b, 5, none⟩ = some (.int .i64 r.r5) :=
  ⟨cell_of h 0, cell_of h 1, cell_of h 2, cell_of h 3, cell_of h 4, cell_of h 5⟩
theorem RawAt.far2 {w : World} {g b : Nat} {r : Raw} (h : RawAt w g r) (hg : g ≠ b) (x y : Value) : RawAt ((w.setCell ⟨b, 0, none⟩ x).setCell ⟨b, 1, none⟩ y) g r := (Go.Proofs.YtehajmockicilaaDoor.far2 w x y hg).trans h
theorem sameQ_self (L : Int) (a : List Msg) : sameQ L L a a = true := by unfold sameQ; rw [(sameL_iff a a).2 rfl]; simp
/-- The same raw numbers, numbered on. -/
def fullF (r : Raw) (i : Nat) : Msg := numM r ((i : Int) + 1)
theorem full_ok {L : Int} {N : Nat} (h1 : 1 ≤ L) (h2 : L ≤ 32) (hN : (N : Int) = L) (r : Raw) : SeqOk L N (fullF r) :=
  ⟨h1, h2, by omega, fun i hi => numM_right _ _ (by omega) (by omega), fun i j hi hj hij => by
    show ((i : Int) + 1) ≠ ((j : Int) + 1)
    omega⟩

end Go.Proofs.YtehajmockicilaaDoor


/-
  The nodes of a vector, told one by one: what vec.nodes hands back.
-/
import Derived.Test.YtplnmkeopdmanaaVecFns
import Derived.RangeFuncBox
import Derived.RangeFuncLeaves
import Derived.Shelf.Abstract
import Derived.OwnWalkIn
import Derived.TacticsInMore
import Derived.LoopNIn
import Derived.LoopIn
import Derived.Maps.AppendAt
namespace Go.Proofs.Ytplnmkeopdmanaa
open Go.RowKit Go.Shelf
attribute [local go_sem] Oper.semAt_some

theorem has_in (m : Nat) (v n : Int) (w : World) : CallsIn Fence.wide m Try.prog 28 #[.int .i64 v, .int .i64 n] w fun e w' => e = .returned (.bool (hasB v n)) ∧ w = w' := callsIn_wide.2 (has_any v n w)

theorem hasB_nat (v : Int) (k : Nat) (h : k < 16) : hasB v (k : Int) = (md v).testBit k := by
  unfold hasB
  rw [nodeB_nat k h, Int.toNat_natCast, Bool.true_and]

/-- One block lies as it lay. -/
def Keeps (b : Nat) (A B : World) : Prop := B.heap[b]? = A.heap[b]?
theorem Keeps.refl (b : Nat) (A : World) : Keeps b A A := rfl
theorem Keeps.trans {b : Nat} {A B C : World} (h : Keeps b A B) (k : Keeps b B C) : Keeps b A C := Eq.trans k h
theorem Keeps.cell {b : Nat} {A B : World} (h : Keeps b A B) : B.cell? ⟨b, 0, none⟩ = A.cell? ⟨b, 0, none⟩ := World.cell?_of_block h
theorem Keeps.setCell {b : Nat} {W : World} {p : Addr} (v : Value) (h : b ≠ p.block) : Keeps b W (W.setCell p v) := Below.heap_setCell W p v b h
theorem Keeps.past {b n : Nat} (hb : b < n) (W : World) (l : Nat) (o o' : Obj) (hl : n ≤ l) (h : W.heap[l]? = some o) (_ : o.isCells = false) (_ : o.isWalk = false) : Keeps b W (W.putObj l o') := by
  have hl2 := (Array.getElem?_eq_some_iff.1 h).1
  refine (grownBy_putObj' W l o').block b (by omega) fun e => ?_
  injection e with e
  omega

end Go.Proofs.Ytplnmkeopdmanaa

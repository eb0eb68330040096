/-
  Plans and spots as values, and as they lie in memory; small calls of layer 8.
-/
import Derived.Test.YtmklabdfalkldaaSchMath
import Derived.Test.YtmklabdfalkldaaSchFloat
import Derived.Test.YtmklabdfalkldaaVecCount
import Derived.WalkLawsBesides
namespace Go.Proofs.Ytmklabdfalkldaa
open Go.RowKit

theorem cell_of {W : World} {b : Nat} {cells : Array Value} {t : TypeId} {x : Nat × Nat} (h : W.heap[b]? = some (.cells cells t x)) (i : Nat) : W.cell? ⟨b, i, none⟩ = cells[i]? := by simp [World.cell?, h]
theorem heap_alloc_new (w : World) (o : Obj) : (w.alloc o).heap[w.heap.size]? = some o := World.alloc_heap_new w o

/-- A slot of a plan, where it lies. -/
def At2 (w : World) (p : Addr) (s : Int × Int) : Prop := w.cell? p = some (.int .i64 s.1) ∧ w.cell? ⟨p.block, p.off + 1, none⟩ = some (.int .i64 s.2)
theorem At2.keep {w w' : World} {p : Addr} {s : Int × Int} (h : At2 w p s) (hk : ∀ q : Addr, q.block = p.block → w'.cell? q = w.cell? q) : At2 w' p s := ⟨(hk p rfl).trans h.1, (hk ⟨p.block, p.off + 1, none⟩ rfl).trans h.2⟩
/-- A plan's slots, below block B. -/
def Sls (w : World) (B : Nat) (A : Option Addr) (l : Pl) : Prop :=
  0 < l.length → ∃ ad, A = some ad ∧ ad.block < B ∧ ∀ j s, l[j]? = some s → At2 w (ad.add (j * 2)) s
theorem Sls.keep {w w' : World} {B : Nat} {A : Option Addr} {l : Pl} (h : Sls w B A l) (hk : ∀ p : Addr, p.block < B → w'.cell? p = w.cell? p) : Sls w' B A l := fun hn => by
  obtain ⟨ad, e, hb, hc⟩ := h hn
  exact ⟨ad, e, hb, fun j m hm => (hc j m hm).keep fun q hq => hk q (by rw [hq, adb]; exact hb)⟩
theorem Sls.below {w w' : World} {B B' : Nat} {A : Option Addr} {l : Pl} (h : Sls w B A l) (hb : Below B' w w') (hB : B ≤ B') : Sls w' B A l :=
  h.keep fun _ hp => hb.cell (Nat.lt_of_lt_of_le hp hB)
theorem Sls.more {w : World} {B B' : Nat} {A : Option Addr} {l : Pl} (h : Sls w B A l) (hB : B ≤ B') : Sls w B' A l := fun hn => by
  obtain ⟨ad, e, hb, hc⟩ := h hn
  exact ⟨ad, e, by omega, hc⟩
theorem Sls.on {w w' : World} {B : Nat} {A : Option Addr} {l : Pl} (h : Sls w B A l) (hb : Below w.heap.size w w') : Sls w' B A l := fun hn => by
  obtain ⟨ad, e, hl, hc⟩ := h hn
  have h0 := World.block_lt_of_cell? w _ (hc 0 _ (List.getElem?_eq_getElem hn)).1
  rw [adb] at h0
  exact ⟨ad, e, hl, fun j m hm => (hc j m hm).keep fun q hq => hb.cell (by rw [hq, adb]; exact h0)⟩
theorem Sls.nil (w : World) (B : Nat) (A : Option Addr) : Sls w B A [] := fun h => absurd h (by simp)

abbrev pv (A : Option Addr) (n : Nat) (k : Nat) (c : Int) : Value := .agg #[.slice A n k, .int .i64 c]
def PlAt (w : World) (b : Nat) (A : Option Addr) (n k : Nat) (c : Int) : Prop := w.heap[b]? = some (.cells #[.slice A n k, .int .i64 c] 25 (0, 0))
theorem PlAt.new (w : World) (A : Option Addr) (n k : Nat) (c : Int) : PlAt (w.alloc (.cells #[.slice A n k, .int .i64 c] 25)) w.heap.size A n k c := heap_alloc_new w _
theorem PlAt.on {w w' : World} {b : Nat} {A : Option Addr} {n k : Nat} {c : Int} (h : PlAt w b A n k c) (hb : Below w.heap.size w w') : PlAt w' b A n k c :=
  (hb.block b (Array.getElem?_eq_some_iff.1 h).1).trans h
theorem PlAt.cells {w : World} {b : Nat} {A : Option Addr} {n k : Nat} {c : Int} (h : PlAt w b A n k c) : w.cell? ⟨b, 0, none⟩ = some (.slice A n k) ∧ w.cell? ⟨b, 1, none⟩ = some (.int .i64 c) := ⟨cell_of h 0, cell_of h 1⟩

abbrev sv (s : Spot) : Value := .agg #[.int .i64 s.cyc, .int .i64 s.rnd, .int .i64 s.slt, .int .i64 s.tck]
def SpAt (w : World) (b : Nat) (s : Spot) : Prop := w.heap[b]? = some (.cells #[.int .i64 s.cyc, .int .i64 s.rnd, .int .i64 s.slt, .int .i64 s.tck] 27 (0, 0))
theorem SpAt.new (w : World) (s : Spot) : SpAt (w.alloc (.cells #[.int .i64 s.cyc, .int .i64 s.rnd, .int .i64 s.slt, .int .i64 s.tck] 27)) w.heap.size s := heap_alloc_new w _
theorem SpAt.on {w w' : World} {b : Nat} {s : Spot} (h : SpAt w b s) (hb : Below w.heap.size w w') : SpAt w' b s := (hb.block b (Array.getElem?_eq_some_iff.1 h).1).trans h
theorem SpAt.cells {w : World} {b : Nat} {s : Spot} (h : SpAt w b s) : w.cell? ⟨b, 0, none⟩ = some (.int .i64 s.cyc) ∧ w.cell? ⟨b, 1, none⟩ = some (.int .i64 s.rnd) ∧ w.cell? ⟨b, 2, none⟩ = some (.int .i64 s.slt) ∧ w.cell? ⟨b, 3, none⟩ = some (.int .i64 s.tck) := ⟨cell_of h 0, cell_of h 1, cell_of h 2, cell_of h 3⟩

def withinB (a b n : Int) : Bool := decide (a ≤ n) && decide (n ≤ b)
theorem withinB_iff (a b n : Int) : withinB a b n = true ↔ a ≤ n ∧ n ≤ b := by unfold withinB; simp
set_option maxRecDepth 100000 in
theorem within_any (a b n : Int) (w : World) :
    Calls Try.prog 29 #[.int .i64 a, .int .i64 b, .int .i64 n] w fun e w' => e = .returned (.bool (withinB a b n)) ∧ w = w' := by
  go_enter Try.func29, Try.ntmps29
  by_cases h1 : a ≤ n
  · go_wp2_with fail
    go_ret
    exact ⟨ret_b (by simp [withinB, h1]), rfl⟩
  · go_wp2_with fail
    go_ret
    exact ⟨ret_b (by unfold withinB; rw [decide_eq_false (by omega)]; rfl), rfl⟩

/-- A turn: a round and a slot, as a complex number. -/
abbrev cx (a b : Int) : Value := .complex .f64 (floatOfInt .f64 a) (floatOfInt .f64 b)
theorem turn_any (a b : Int) (w : World) :
    Calls Try.prog 45 #[.int .i64 a, .int .i64 b] w fun e w' => e = .returned (cx a b) ∧ w = w' := by
  go_enter Try.func45, Try.ntmps45
  go_wp2_with fail
  go_ret
  exact ⟨rfl, rfl⟩
theorem parts_any (a b : Int) (ha : 0 ≤ a ∧ a < 9007199254740992) (hb : 0 ≤ b ∧ b < 9007199254740992) (w : World) :
    Calls Try.prog 46 #[cx a b] w fun e w' => e = .returned (.tuple #[.int .i64 a, .int .i64 b]) ∧ w = w' := by
  have ha := float_trip a ha.1 ha.2
  have hb := float_trip b hb.1 hb.2
  unfold cx
  generalize floatOfInt .f64 a = x at *
  generalize floatOfInt .f64 b = y at *
  have ca := fun W => run_convert_float_int (P := Try.prog) W 71 3 .f64 .i64 x a (by kernel_rfl) Try.underlying3 ha
  have cb := fun W => run_convert_float_int (P := Try.prog) W 71 3 .f64 .i64 y b (by kernel_rfl) Try.underlying3 hb
  clear ha hb
  go_enter Try.func46, Try.ntmps46
  go_wp2_with fail
  go_ret2
  exact ⟨rfl, rfl⟩

end Go.Proofs.Ytmklabdfalkldaa

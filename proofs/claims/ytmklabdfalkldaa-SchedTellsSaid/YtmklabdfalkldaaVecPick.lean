/-
  What the statements' own helpers of layer 3 do: pick and awake.
-/
import Derived.Test.YtmklabdfalkldaaVecRefList
import Derived.OpenShut
import Derived.Lib.SmallJoins
namespace Go.Proofs.Ytmklabdfalkldaa
open Go.RowKit

/-- Which of n things a raw number speaks of. -/
def pickI (c n : Int) : Int := (if c < 0 then -(c + 1) else c) % n
theorem pickI_range (c n : Int) (hn : 0 < n) : 0 ≤ pickI c n ∧ pickI c n < n := ⟨Int.emod_nonneg _ (by omega), Int.emod_lt_of_pos _ hn⟩

theorem pick_neg_value (c n : Int) (hc : (Lit.int .i64 c).wf = true) (h : c < 0) : (wrap64 (-wrap64 (c + 1))).tmod n = pickI c n := by
  have hb := bounds_i64 hc
  rw [w64 (c + 1) (by omega) (by omega), w64 _ (by omega) (by omega), Int.tmod_eq_emod_of_nonneg (by omega)]
  unfold pickI
  rw [if_pos h]
theorem pick_pos_value (c n : Int) (h : ¬ c < 0) : c % n = pickI c n := by
  unfold pickI
  rw [if_neg h]

/-- Two numbers that the caller's own statement laid. -/
theorem Row.two (W : World) (a b : Int) : Row (W.alloc (.cells #[.int .i64 a, .int .i64 b] 3)) (W.heap.size + 1) (some ⟨W.heap.size, 0, none⟩) [a, b] := fun _ =>
  ⟨_, rfl, by show W.heap.size < _; omega, fun j x hx => by
    have hj : j < 2 := (List.getElem?_eq_some_iff.1 hx).1
    rcases (show j = 0 ∨ j = 1 by omega) with rfl | rfl <;> simp at hx <;> subst hx <;> simp [Addr.add, go_sem]⟩

end Go.Proofs.Ytmklabdfalkldaa

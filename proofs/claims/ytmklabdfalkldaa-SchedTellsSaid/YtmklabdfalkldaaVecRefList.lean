/-
  The document's own answers on vectors: List, Count, Of, and the comparison of two lists.
-/
import Derived.Test.YtmklabdfalkldaaVecRef
import Derived.Maps.AppendAt
import Derived.OwnWalk
namespace Go.Proofs.Ytmklabdfalkldaa
open Go.RowKit

theorem below_hit_v (v : Int) (k : Nat) (h : hasB v k = true) (hk : k < 16) : below (md v) (k + 1) = below (md v) k ++ [(k : Int)] := by
  rw [hasB_nat v k hk] at h
  exact below_hit _ _ h
theorem below_miss_v (v : Int) (k : Nat) (h : hasB v k = false) (hk : k < 16) : below (md v) (k + 1) = below (md v) k := by
  rw [hasB_nat v k hk] at h
  exact below_miss _ _ h
theorem below_size (v : Int) (k : Nat) (hk : k ≤ 16) : (below (md v) k).length ≤ 16 := by
  rw [below_length]; exact Nat.le_trans (cb_le _ _) hk

theorem ne_of_at {a b : List Int} {k : Nat} {x y : Int} (hx : a[k]? = some x) (hy : b[k]? = some y) (h : x ≠ y) : false = decide (a = b) := by
  symm
  rw [decide_eq_false_iff_not]
  rintro rfl
  rw [hx] at hy
  injection hy with hy
  exact h hy
theorem same_take {a b : List Int} {k : Nat} {x y : Int} (hx : a[k]? = some x) (hy : b[k]? = some y) (h : a.take k = b.take k) (e : x = y) : a.take (k + 1) = b.take (k + 1) := by
  rw [List.take_add_one, List.take_add_one, hx, hy, h, e]

end Go.Proofs.Ytmklabdfalkldaa

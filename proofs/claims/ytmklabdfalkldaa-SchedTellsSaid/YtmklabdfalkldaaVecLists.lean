/-
  The law VecLists: Of undoes List; with a node, and without it, a vector has it, and has it not, and all others as ahead of that.
-/
import Derived.Test.YtmklabdfalkldaaVecPick
namespace Go.Proofs.Ytmklabdfalkldaa
open Go.RowKit

theorem node_int (p : Int) (h0 : 0 ≤ p) (h1 : p < 16) : nodeB p = true := (nodeB_iff p).2 ⟨h0, by omega⟩
theorem hasB_bit (v : Int) (k : Nat) (h : k < 16) : hasB v (k : Int) = (md v).testBit k := hasB_nat v k h
theorem has_with_other (a p : Int) (k : Nat) (hk : k < 16) (h0 : 0 ≤ p) (h : (k : Int) ≠ p) : hasB (withI a p) k = hasB a k := by
  rw [hasB_nat _ k hk, hasB_nat _ k hk, md_with a p k hk]
  have : decide (k = p.toNat) = false := by rw [decide_eq_false_iff_not]; omega
  rw [this]; simp
theorem has_without_other (a p : Int) (k : Nat) (hk : k < 16) (h0 : 0 ≤ p) (h : (k : Int) ≠ p) : hasB (withoutI a p) k = hasB a k := by
  rw [hasB_nat _ k hk, hasB_nat _ k hk, md_without a p k hk]
  have : decide (k = p.toNat) = false := by rw [decide_eq_false_iff_not]; omega
  rw [this]; simp
theorem has_int (v p : Int) (h0 : 0 ≤ p) (h1 : p < 16) : hasB v p = (md v).testBit p.toNat := by
  unfold hasB; rw [node_int p h0 h1, Bool.true_and]
theorem has_with (a p : Int) (h0 : 0 ≤ p) (h1 : p < 16) : hasB (withI a p) p = true := by
  rw [has_int _ p h0 h1, md_with a p _ (by omega), node_int p h0 h1]; simp
theorem has_without (a p : Int) (h0 : 0 ≤ p) (h1 : p < 16) : hasB (withoutI a p) p = false := by
  rw [has_int _ p h0 h1, md_without a p _ (by omega), node_int p h0 h1]; simp
theorem without_with (a p : Int) (h0 : 0 ≤ p) (h1 : p < 16) : withoutI (withI a p) p = withoutI a p := by
  refine vecI_ext _ _ (withoutI_range _ _).1 (withoutI_range _ _).2 (withoutI_range _ _).1 (withoutI_range _ _).2 fun i hi => ?_
  rw [md_without _ _ i hi, md_with _ _ i hi, md_without _ _ i hi, node_int p h0 h1]
  cases (md a).testBit i <;> cases decide (i = p.toNat) <;> rfl
theorem with_without (a p : Int) (h0 : 0 ≤ p) (h1 : p < 16) : withI (withoutI a p) p = withI a p := by
  refine vecI_ext _ _ (withI_range _ _).1 (withI_range _ _).2 (withI_range _ _).1 (withI_range _ _).2 fun i hi => ?_
  rw [md_with _ _ i hi, md_without _ _ i hi, md_with _ _ i hi, node_int p h0 h1]
  cases (md a).testBit i <;> cases decide (i = p.toNat) <;> rfl
theorem cb_one (b c n k : Nat) (hk : k < n) (hb : b.testBit k = true) (hc : c.testBit k = false) (h : ∀ i, i < n → i ≠ k → b.testBit i = c.testBit i) : cb b n = cb c n + 1 := by
  induction n with
  | zero => omega
  | succ n ih =>
    show cb b n + _ = cb c n + _ + 1
    rcases Nat.eq_or_lt_of_le (Nat.le_of_lt_succ hk) with e | e
    · rw [← e, hb, hc, cb_congr b c k fun i hi => h i (by omega) (by omega)]; rfl
    · rw [ih e fun i hi hn => h i (by omega) hn, h n (by omega) (by omega)]; omega
theorem count_with (a p : Int) (h0 : 0 ≤ p) (h1 : p < 16) : countI (withI a p) = countI (withoutI a p) + 1 := by
  unfold countI
  have e := cb_one (md (withI a p)) (md (withoutI a p)) 16 p.toNat (by omega) (by rw [← has_int _ p h0 h1]; exact has_with a p h0 h1) (by rw [← has_int _ p h0 h1]; exact has_without a p h0 h1) fun i hi hn => by
    rw [md_with _ _ i hi, md_without _ _ i hi]
    have : decide (i = p.toNat) = false := by rw [decide_eq_false_iff_not]; exact hn
    rw [this]; simp
  rw [e]; rfl
theorem of_list (a : Int) (h0 : 0 ≤ a) (h1 : a < 65536) : ofI (listI a) = a := by
  refine vecI_ext _ _ (ofI_range _).1 (ofI_range _).2 h0 h1 fun i hi => ?_
  rw [md_of_list _ i hi, any_list a i hi]

/-- Of a list's numbers each is a node of the vector, and greater than the one ahead of it. -/
theorem list_sorted (m k : Nat) : (below m k).Pairwise (· < ·) := by
  induction k with
  | zero => exact List.Pairwise.nil
  | succ k ih =>
    cases h : m.testBit k
    · rw [below_miss m k h]; exact ih
    · rw [below_hit m k h, List.pairwise_append]
      refine ⟨ih, List.pairwise_singleton _ _, fun x hx y hy => ?_⟩
      obtain ⟨n, hn, _, rfl⟩ := (mem_below m k x).1 hx
      rw [List.mem_singleton] at hy
      omega
theorem list_at (a : Int) (k : Nat) (x y : Int) (hk : 1 ≤ k) (hx : (listI a)[k - 1]? = some x) (hy : (listI a)[k]? = some y) : x < y ∧ hasB a y = true := by
  obtain ⟨h1, e1⟩ := List.getElem?_eq_some_iff.1 hx
  obtain ⟨h2, e2⟩ := List.getElem?_eq_some_iff.1 hy
  refine ⟨?_, ?_⟩
  · have := List.pairwise_iff_getElem.1 (list_sorted (md a) 16) (k - 1) k h1 h2 (by omega)
    rw [← e1, ← e2]; exact this
  · have hm : y ∈ listI a := by rw [← e2]; exact List.getElem_mem h2
    obtain ⟨n, h3, h4, rfl⟩ := (mem_below (md a) 16 y).1 hm
    rw [hasB_nat a n h3]; exact h4

end Go.Proofs.Ytmklabdfalkldaa

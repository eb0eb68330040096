/-
  Who is acknowledged: the mathematics of the law CliqueAcks.
-/
import Derived.Test.YtplnmkeopdmanaaCliAgesL
import Derived.Test.YtplnmkeopdmanaaCliParts
import Derived.Test.YtplnmkeopdmanaaCliApp
namespace Go.Proofs.Ytplnmkeopdmanaa
open Go.RowKit

/-- What node i has heard, by the raw vectors. -/
def rawV (raw : List Int) (i : Nat) : Int := if 0 < raw.length then pickI (wrap64 (raw.getD (i % raw.length) 0 + (i : Int))) 65536 else 0
def hrdV (raw : List Int) (i : Nat) : Int := withoutI (rawV raw i) i
def hrdL (raw : List Int) (k : Nat) : List Int := (List.range k).map (hrdV raw)
theorem hrd_length (raw : List Int) (k : Nat) : (hrdL raw k).length = k := by unfold hrdL; simp
theorem hrd_succ (raw : List Int) (k : Nat) : hrdL raw (k + 1) = hrdL raw k ++ [hrdV raw k] := by unfold hrdL; rw [List.range_succ, List.map_append]; rfl
theorem hrd_at (raw : List Int) (n i : Nat) (h : i < n) : (hrdL raw n)[i]? = some (hrdV raw i) := by
  unfold hrdL; rw [List.getElem?_map, List.getElem?_range h]; rfl
theorem hrd_own (raw : List Int) (i : Nat) (hi : i < 16) : hasB (hrdV raw i) i = false := by
  unfold hrdV
  rw [hasB_nat _ i hi, md_without _ _ i hi, nodeB_nat i hi]
  simp

/-- Whether node i is a, or has heard it. -/
def xB (raw : List Int) (a : Int) (i : Nat) : Bool := ((i : Int) == a) || hasB (hrdV raw i) a
def bothN (raw : List Int) (a b : Int) : Nat → Bool
  | 0 => a == b
  | k + 1 => bothN raw a b k || (xB raw a k && xB raw b k)
theorem ack_cnt (raw : List Int) (a : Int) (k : Nat) : ackN a (hrdL raw k) = cntP (fun i => hasB (hrdV raw i) a) k := by
  induction k with
  | zero => rfl
  | succ k ih =>
    rw [hrd_succ]
    show _ = cntP _ k + _
    rw [← ih]
    unfold ackN
    rw [List.countP_append]
    cases h : hasB (hrdV raw k) a <;> simp [h]
theorem x_cnt (raw : List Int) (a : Nat) (k : Nat) (hk : k ≤ 16) : cntP (xB raw a) k = cntP (fun i => hasB (hrdV raw i) a) k + (decide (a < k)).toNat := by
  induction k with
  | zero => rfl
  | succ k ih =>
    show cntP (xB raw a) k + (xB raw a k).toNat = cntP _ k + (hasB (hrdV raw k) a).toNat + _
    rw [ih (by omega)]
    by_cases e : k = a
    · subst e
      have h1 : xB raw k k = true := by unfold xB; simp
      rw [h1, hrd_own raw k (by omega)]
      simp
    · have h1 : xB raw a k = hasB (hrdV raw k) a := by
        have : ((k : Int) == (a : Int)) = false := by simp; omega
        unfold xB; rw [this, Bool.false_or]
      have h2 : decide (a < k + 1) = decide (a < k) := by rw [decide_eq_decide]; omega
      rw [h1, h2]
      omega
theorem pigeon2 (p q : Nat → Bool) (k : Nat) (h : ∀ i, i < k → ¬ (p i = true ∧ q i = true)) : cntP p k + cntP q k ≤ k := by
  induction k with
  | zero => exact Nat.le_refl _
  | succ k ih =>
    have := ih fun i hi => h i (by omega)
    have h9 := h k (by omega)
    show cntP p k + (p k).toNat + (cntP q k + (q k).toNat) ≤ k + 1
    cases hp : p k <;> cases hq : q k <;> simp <;> first | omega | exact absurd ⟨hp, hq⟩ h9
theorem both_no (raw : List Int) (a b : Int) (k : Nat) (h : bothN raw a b k = false) : ∀ i, i < k → ¬ (xB raw a i = true ∧ xB raw b i = true) := by
  induction k with
  | zero => intro i hi; omega
  | succ k ih =>
    have h : (bothN raw a b k || (xB raw a k && xB raw b k)) = false := h
    rw [Bool.or_eq_false_iff] at h
    intro i hi
    by_cases e : i = k
    · subst e
      rintro ⟨h1, h2⟩
      rw [h1, h2] at h
      cases h.2
    · exact ih h.1 i (by omega)
theorem clear_more2 (raw : List Int) (a : Nat) (n : Nat) (hn : n ≤ 16) (ha : a < n) (h : clearB a n (hrdL raw n) = true) : n < 2 * cntP (xB raw a) n := by
  unfold clearB at h
  rw [Bool.and_eq_true, decide_eq_true_eq] at h
  have h1 := h.2
  rw [ack_cnt] at h1
  have h2 := x_cnt raw a n hn
  have h3 : decide (a < n) = true := by simpa using ha
  rw [h3] at h2
  simp at h2
  omega
/-- Of two that are acknowledged some node has heard both. -/
theorem acks_both (raw : List Int) (a b : Int) (n : Nat) (hn : n ≤ 16) (ha : 0 ≤ a ∧ a < n) (hb : 0 ≤ b ∧ b < n) (h1 : clearB a n (hrdL raw n) = true) (h2 : clearB b n (hrdL raw n) = true) : bothN raw a b n = true := by
  obtain ⟨x, rfl⟩ : ∃ x : Nat, a = x := ⟨a.toNat, by omega⟩
  obtain ⟨y, rfl⟩ : ∃ y : Nat, b = y := ⟨b.toNat, by omega⟩
  cases h : bothN raw x y n
  · have h3 := pigeon2 _ _ n (both_no raw x y n h)
    have h4 := clear_more2 raw x n hn (by omega) h1
    have h5 := clear_more2 raw y n hn (by omega) h2
    omega
  · rfl
theorem has_pow (a : Int) (h : nodeB a = true) : hasB ((2 ^ a.toNat : Nat) : Int) a = true := by
  obtain ⟨h0, h1⟩ := (nodeB_iff a).1 h
  unfold hasB
  rw [h, md_nat _ (two_pow_lt _ (by omega)), Nat.testBit_two_pow_self]; rfl
theorem ack_more (a : Int) (h : nodeB a = true) (l : List Int) : ackN a (l ++ [((2 ^ a.toNat : Nat) : Int)]) = ackN a l + 1 := by
  unfold ackN
  rw [List.countP_append]
  simp only [List.countP_singleton, has_pow a h, if_true]
theorem clear_more (a n : Int) (h : nodeB a = true) (l : List Int) (hc : clearB a n l = true) : clearB a n (l ++ [((2 ^ a.toNat : Nat) : Int)]) = true := by
  unfold clearB at hc ⊢
  rw [ack_more a h]
  rw [Bool.and_eq_true, decide_eq_true_eq] at hc ⊢
  exact ⟨hc.1, by have := hc.2; omega⟩
theorem hrd_rem (i n : Nat) : (i : Int).tmod (n : Int) = ((i % n : Nat) : Int) := by
  rw [Int.tmod_eq_emod_of_nonneg (by omega)]; rfl

end Go.Proofs.Ytplnmkeopdmanaa

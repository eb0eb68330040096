/-
  The laws' mathematics: places, epochs, the next activity, the order of epochs.
-/
import Derived.Test.YtlgbgkiajhcneaaLatRef
namespace Go.Proofs.Ytlgbgkiajhcneaa

def Rt (la lg : Int) : Prop := (1 ≤ la ∧ la ≤ 10000) ∧ 1 ≤ lg ∧ lg ≤ 10000
def Tm (t : Int) : Prop := -1099511627776 ≤ t ∧ t ≤ 1099511627776
theorem may_ok {la lg t : Int} (h : Rt la lg) (ht : Tm t) : mayL la lg t = true := (mayL_iff la lg t).2 ⟨h, ht⟩
theorem err_ok {la lg t : Int} (h : Rt la lg) (ht : Tm t) : errB (mayL la lg t) = 0 := by rw [may_ok h ht]; rfl
theorem ep_ok {la lg t : Int} (h : Rt la lg) (ht : Tm t) : epV la lg t = epI la lg t := ep_of (may_ok h ht)
theorem next_ok {la lg t : Int} (h : Rt la lg) (ht : Tm t) : nextV la lg t = nextI la lg t := next_of (may_ok h ht)
theorem act_ok {la lg t : Int} (h : Rt la lg) (ht : Tm t) : actL la lg t = decide (t % (la + lg) < la) := act_of (may_ok h ht)
theorem beg_ok {la lg k : Int} (h : Rt la lg) (ht : -524289 ≤ k ∧ k ≤ 524289 ∨ Tm (k * (la + lg))) : begV la lg k = k * (la + lg) ∧ errB (begB la lg k) = 0 := by
  obtain ⟨⟨a0, a1⟩, g0, g1⟩ := h
  have hS : 2 ≤ la + lg ∧ la + lg ≤ 20000 := by omega
  have h2 : Tm (k * (la + lg)) := by
    rcases ht with ⟨k0, k1⟩ | h
    · have h1 : k * (la + lg) ≤ 524289 * (la + lg) := Int.mul_le_mul_of_nonneg_right k1 (by omega)
      have h2 : -524289 * (la + lg) ≤ k * (la + lg) := Int.mul_le_mul_of_nonneg_right k0 (by omega)
      constructor <;> omega
    · exact h
  have h3 : Tm k := by
    rcases ht with ⟨k0, k1⟩ | h
    · constructor <;> omega
    · obtain ⟨h0, h1⟩ := h
      constructor
      · rcases Int.lt_or_le k 0 with hk | hk
        · have : k * (la + lg) ≤ k * 1 := Int.mul_le_mul_of_nonpos_left (by omega) (by omega)
          omega
        · omega
      · rcases Int.lt_or_le k 0 with hk | hk
        · omega
        · have : k * 1 ≤ k * (la + lg) := Int.mul_le_mul_of_nonneg_left (by omega) hk
          omega
  obtain ⟨e1, e2⟩ := beg_of (la := la) (lg := lg) (n := k) (may_ok ⟨⟨a0, a1⟩, g0, g1⟩ h3) ((timeB_iff _).2 h2)
  refine ⟨e1, ?_⟩
  rw [e2]; rfl
theorem or_ok {la lg x y : Int} (h : Rt la lg) (hx : Tm x) (hy : Tm y) : orV la lg x y = cmpI (epI la lg x) (epI la lg y) ∧ errB (orB la lg x y) = 0 := by
  obtain ⟨e1, e2⟩ := or_of (may_ok h hx) (may_ok h hy)
  exact ⟨e1, by rw [e2]; rfl⟩
theorem near_ok {la lg d : Int} (h : Rt la lg) : nearL la lg d = inB (-(lg / 2)) (lg / 2) d := by
  unfold nearL
  rw [(rightL_iff la lg).2 h, Bool.true_and]

theorem dv {S q r : Int} (h0 : 0 ≤ r) (h1 : r < S) : (q * S + r) / S = q ∧ (q * S + r) % S = r := by
  constructor
  · rw [Int.add_comm, Int.add_mul_ediv_right _ _ (by omega), Int.ediv_eq_zero_of_lt h0 h1]; omega
  · rw [Int.add_comm, Int.add_mul_emod_self_right, Int.emod_eq_of_lt h0 h1]
theorem at_split (t S : Int) (hS : 0 < S) : ∃ q m, t = q * S + m ∧ 0 ≤ m ∧ m < S ∧ t / S = q ∧ t % S = m :=
  ⟨t / S, t % S, by rw [Int.mul_comm]; exact (Int.mul_ediv_add_emod t S).symm, Int.emod_nonneg _ (by omega), Int.emod_lt_of_pos _ hS, rfl, rfl⟩
theorem ep_at {la lg q m : Int} (h : Rt la lg) (h0 : -(lg / 2) ≤ m) (h1 : m < la + lg - lg / 2) : epI la lg (q * (la + lg) + m) = q := by
  unfold epI
  obtain ⟨⟨a0, a1⟩, g0, g1⟩ := h
  rw [Int.add_assoc]
  exact (dv (by omega) (by omega)).1
theorem ep_mono {la lg t u : Int} (h : Rt la lg) (htu : t ≤ u) : epI la lg t ≤ epI la lg u := by
  unfold epI
  obtain ⟨⟨a0, a1⟩, g0, g1⟩ := h
  exact Int.ediv_le_ediv (by omega) (by omega)
theorem ep_step {la lg t : Int} (h : Rt la lg) : epI la lg (t + (la + lg)) = epI la lg t + 1 := by
  unfold epI
  obtain ⟨⟨a0, a1⟩, g0, g1⟩ := h
  rw [show t + (la + lg) + lg / 2 = t + lg / 2 + 1 * (la + lg) by omega, Int.add_mul_ediv_right _ _ (by omega)]

theorem next_facts {la lg t : Int} (h : Rt la lg) :
    (t % (la + lg) < la → nextI la lg t = t) ∧ (¬ t % (la + lg) < la → ∃ q, nextI la lg t = q * (la + lg) ∧ t < q * (la + lg) ∧ q * (la + lg) ≤ t + lg ∧ nextI la lg (q * (la + lg)) = q * (la + lg) ∧ (q * (la + lg)) % (la + lg) < la ∧ epI la lg (q * (la + lg)) = q ∧ (epI la lg t = q - 1 ∨ epI la lg t = q)) := by
  have hR := h
  obtain ⟨⟨a0, a1⟩, g0, g1⟩ := h
  refine ⟨next_act, fun hn => ?_⟩
  obtain ⟨q, m, rfl, m0, m1, e1, e2⟩ := at_split t (la + lg) (by omega)
  have e3 : (q * (la + lg) + m) % (la + lg) = m := e2
  rw [e3] at hn
  have hq : (q + 1) * (la + lg) = q * (la + lg) + (la + lg) := by rw [Int.add_mul]; omega
  have hz : ((q + 1) * (la + lg)) % (la + lg) = 0 := by
    have := (dv (S := la + lg) (q := q + 1) (r := 0) (by omega) (by omega)).2
    rwa [Int.add_zero] at this
  have he : epI la lg ((q + 1) * (la + lg)) = q + 1 := by
    have := ep_at (q := q + 1) (m := 0) hR (by omega) (by omega)
    rwa [Int.add_zero] at this
  refine ⟨q + 1, ?_, by omega, by omega, next_act (by omega), by omega, he, ?_⟩
  · unfold nextI
    rw [e3, if_neg hn, e1]
  · by_cases hh : m < la + lg - lg / 2
    · left
      rw [ep_at hR (by omega) hh]; omega
    · right
      have h2 := ep_at (q := q + 1) (m := m - (la + lg)) hR (by omega) (by omega)
      rw [← h2]
      congr 1; omega
end Go.Proofs.Ytlgbgkiajhcneaa

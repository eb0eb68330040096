/-
  The law VecAlls: all of more has all of fewer; of which numbers they are more than half.
-/
import Derived.Test.YtmpaffpmmmpadaaVecPick
namespace Go.Proofs.Ytmpaffpmmmpadaa
open Go.RowKit

theorem cb_all (a : Int) (k : Nat) (hk : k ≤ 16) : cb (md (allI a)) k = min a.toNat k := by
  rcases Nat.lt_or_ge a.toNat k with h | h
  · rw [cb_cut (md (allI a)) a.toNat k (by omega) (md (allI a)) fun i hi => ?_, cb_full]
    · omega
    · intro i hi
      rw [md_all a i (by omega)]
      simp; omega
    · rw [md_all a i (by omega), Bool.eq_iff_iff]
      simp
      try omega
  · rw [cb_full]
    · omega
    · intro i hi
      rw [md_all a i (by omega)]
      simp; omega
theorem count_all (a : Int) (h0 : 0 ≤ a) (h1 : a < 17) : countI (allI a) = a := by
  unfold countI
  rw [cb_all a 16 (Nat.le_refl _)]
  omega
theorem most_all (a b : Int) (ha : 0 ≤ a) (hb : 1 ≤ b) (hb1 : b < 17) : mostB (allI a) b = decide (b < 2 * min a b) := by
  rw [mostB_of _ _ hb (by omega), cb_all a _ (by omega), decide_eq_decide]
  omega
theorem most_zero (v : Int) : mostB v 0 = false := mostB_no _ _ (by omega)
theorem and_alls (a b : Int) (h : a ≤ b) : bits .and .i64 (allI a) (allI b) = allI a := by
  have h2 := and_low (allI a) (allN b) (allN_lt b)
  rw [show ((allN b : Nat) : Int) = allI b from rfl] at h2
  rw [h2]
  refine vecI_ext _ _ (by omega) (by have := and_lt (md (allI a)) (allN b) (allN_lt b); omega) (allI_range a).1 (allI_range a).2 fun i hi => ?_
  have hb := md_all b i hi
  unfold allI at hb
  rw [md_nat _ (allN_lt b)] at hb
  rw [md_nat _ (and_lt _ _ (allN_lt b)), Nat.testBit_and, hb, md_all a i hi, Bool.eq_iff_iff]
  simp; omega
theorem and_alls' (a b : Int) (h : b ≤ a) : bits .and .i64 (allI a) (allI b) = allI b := by
  have h2 := and_low (allI a) (allN b) (allN_lt b)
  rw [show ((allN b : Nat) : Int) = allI b from rfl] at h2
  rw [h2]
  refine vecI_ext _ _ (by omega) (by have := and_lt (md (allI a)) (allN b) (allN_lt b); omega) (allI_range b).1 (allI_range b).2 fun i hi => ?_
  have hb := md_all b i hi
  have hb' := hb
  unfold allI at hb
  rw [md_nat _ (allN_lt b)] at hb
  rw [md_nat _ (and_lt _ _ (allN_lt b)), Nat.testBit_and, hb, hb', md_all a i hi, Bool.eq_iff_iff]
  simp; omega

set_option maxHeartbeats 1000000 in
theorem vecAlls_walk (a0 a1 : Int) (w0 : (Lit.int .i64 a0).wf = true) (w1 : (Lit.int .i64 a1).wf = true) (w : World) :
    Calls Try.prog 7 #[.int .i64 a0, .int .i64 a1] w fun e w' => e = .returned (.bool true) ∧ Below w.heap.size w w' := by
  have p0 := fun w => pick_any a0 17 w0 (by omega) w
  have p1 := fun w => pick_any a1 17 w1 (by omega) w
  obtain ⟨hr0, hr1⟩ := pickI_range a0 17 (by omega)
  obtain ⟨hs0, hs1⟩ := pickI_range a1 17 (by omega)
  generalize pickI a0 17 = a at *
  generalize pickI a1 17 = b at *
  clear w0 w1
  have ca := fun w => all_any a w
  have cb := fun w => all_any b w
  have cn := fun w => count_any (allI a) w
  have cm := fun w => most_any (allI a) b w
  have cz := fun w => most_any (allI a) 0 w
  rw [most_zero] at cz
  rw [count_all a hr0 hr1] at cn
  have hz : 1 ≤ b → mostB (allI a) b = decide (b < 2 * min a b) := fun h => most_all a b hr0 h hs1
  by_cases hab : a ≤ b
  · have hand := and_alls a b hab
    have hmin : min a b = a := by omega
    rw [hmin] at hz
    have hne : b = 0 ∨ 1 ≤ b := by omega
    clear hmin
    generalize allI b = y at *
    generalize allI a = x at *
    have hand2 : (bits .and .i64 x y == x) = true := by rw [hand]; simp
    clear hand
    rcases hne with hb0 | hb0
    · subst hb0
      clear hz
      go_enter Try.func7, Try.ntmps7
      go_wp2_with fail; refine (awake_any _).mono ?_; rintro e w1 ⟨rfl, b1⟩
      go_wp2_with fail; refine (p0 _).mono ?_; rintro e w2 ⟨rfl, rfl⟩
      go_wp2_with fail; refine (p1 _).mono ?_; rintro e w2 ⟨rfl, rfl⟩
      go_wp2_with fail; refine (ca _).mono ?_; rintro e w2 ⟨rfl, rfl⟩
      go_wp2_with fail; refine (cb _).mono ?_; rintro e w2 ⟨rfl, rfl⟩
      go_wp2_with fail; refine (ca _).mono ?_; rintro e w2 ⟨rfl, rfl⟩
      go_wp2_with fail; refine (ca _).mono ?_; rintro e w2 ⟨rfl, rfl⟩
      go_wp2_with fail; refine (cn _).mono ?_; rintro e w2 ⟨rfl, b2⟩
      go_wp2_with fail; refine (ca _).mono ?_; rintro e w4 ⟨rfl, rfl⟩
      go_wp2_with fail; refine (cz _).mono ?_; rintro e w4 ⟨rfl, b4⟩
      go_wp2_with fail
      go_ret
      have s1 := b1.size
      have s2 := b2.size
      exact ⟨rfl, (b1.trans (b2.mono (by omega))).trans (b4.mono (by omega))⟩
    · rw [hz hb0] at cm
      clear hz
      have hb1 : b ≠ 0 := by omega
      have hb2 : (b == 0) = false := by simpa using hb1
      clear hb1
      go_enter Try.func7, Try.ntmps7
      go_wp2_with fail; refine (awake_any _).mono ?_; rintro e w1 ⟨rfl, b1⟩
      go_wp2_with fail; refine (p0 _).mono ?_; rintro e w2 ⟨rfl, rfl⟩
      go_wp2_with fail; refine (p1 _).mono ?_; rintro e w2 ⟨rfl, rfl⟩
      go_wp2_with fail; refine (ca _).mono ?_; rintro e w2 ⟨rfl, rfl⟩
      go_wp2_with fail; refine (cb _).mono ?_; rintro e w2 ⟨rfl, rfl⟩
      go_wp2_with fail; refine (ca _).mono ?_; rintro e w2 ⟨rfl, rfl⟩
      go_wp2_with fail; refine (ca _).mono ?_; rintro e w2 ⟨rfl, rfl⟩
      go_wp2_with fail; refine (cn _).mono ?_; rintro e w2 ⟨rfl, b2⟩
      go_wp2_with fail; refine (ca _).mono ?_; rintro e w3 ⟨rfl, rfl⟩
      go_wp2_with fail; refine (cm _).mono ?_; rintro e w3 ⟨rfl, b3⟩
      go_wp2_with fail; refine (ca _).mono ?_; rintro e w4 ⟨rfl, rfl⟩
      go_wp2_with fail; refine (cz _).mono ?_; rintro e w4 ⟨rfl, b4⟩
      go_wp2_with fail
      go_ret
      have s1 := b1.size
      have s2 := b2.size
      have s3 := b3.size
      exact ⟨rfl, ((b1.trans (b2.mono (by omega))).trans (b3.mono (by omega))).trans (b4.mono (by omega))⟩
  · have hba : b < a := by omega
    have hand := and_alls' a b (by omega)
    have hmin : min a b = b := by omega
    rw [hmin] at hz
    have hne : b = 0 ∨ 1 ≤ b := by omega
    clear hmin
    generalize allI b = y at *
    generalize allI a = x at *
    have hand2 : (bits .and .i64 x y == y) = true := by rw [hand]; simp
    clear hand
    rcases hne with hb0 | hb0
    · subst hb0
      clear hz
      go_enter Try.func7, Try.ntmps7
      go_wp2_with fail; refine (awake_any _).mono ?_; rintro e w1 ⟨rfl, b1⟩
      go_wp2_with fail; refine (p0 _).mono ?_; rintro e w2 ⟨rfl, rfl⟩
      go_wp2_with fail; refine (p1 _).mono ?_; rintro e w2 ⟨rfl, rfl⟩
      go_wp2_with fail; refine (ca _).mono ?_; rintro e w2 ⟨rfl, rfl⟩
      go_wp2_with fail; refine (cb _).mono ?_; rintro e w2 ⟨rfl, rfl⟩
      go_wp2_with fail; refine (cb _).mono ?_; rintro e w2 ⟨rfl, rfl⟩
      go_wp2_with fail; refine (ca _).mono ?_; rintro e w2 ⟨rfl, rfl⟩
      go_wp2_with fail; refine (cn _).mono ?_; rintro e w2 ⟨rfl, b2⟩
      go_wp2_with fail; refine (ca _).mono ?_; rintro e w4 ⟨rfl, rfl⟩
      go_wp2_with fail; refine (cz _).mono ?_; rintro e w4 ⟨rfl, b4⟩
      go_wp2_with fail
      go_ret
      have s1 := b1.size
      have s2 := b2.size
      exact ⟨rfl, (b1.trans (b2.mono (by omega))).trans (b4.mono (by omega))⟩
    · rw [hz hb0] at cm
      clear hz
      have hb1 : b ≠ 0 := by omega
      have hb2 : (b == 0) = false := by simpa using hb1
      clear hb1
      go_enter Try.func7, Try.ntmps7
      go_wp2_with fail; refine (awake_any _).mono ?_; rintro e w1 ⟨rfl, b1⟩
      go_wp2_with fail; refine (p0 _).mono ?_; rintro e w2 ⟨rfl, rfl⟩
      go_wp2_with fail; refine (p1 _).mono ?_; rintro e w2 ⟨rfl, rfl⟩
      go_wp2_with fail; refine (ca _).mono ?_; rintro e w2 ⟨rfl, rfl⟩
      go_wp2_with fail; refine (cb _).mono ?_; rintro e w2 ⟨rfl, rfl⟩
      go_wp2_with fail; refine (cb _).mono ?_; rintro e w2 ⟨rfl, rfl⟩
      go_wp2_with fail; refine (ca _).mono ?_; rintro e w2 ⟨rfl, rfl⟩
      go_wp2_with fail; refine (cn _).mono ?_; rintro e w2 ⟨rfl, b2⟩
      go_wp2_with fail; refine (ca _).mono ?_; rintro e w3 ⟨rfl, rfl⟩
      go_wp2_with fail; refine (cm _).mono ?_; rintro e w3 ⟨rfl, b3⟩
      go_wp2_with fail; refine (ca _).mono ?_; rintro e w4 ⟨rfl, rfl⟩
      go_wp2_with fail; refine (cz _).mono ?_; rintro e w4 ⟨rfl, b4⟩
      go_wp2_with fail
      go_ret
      have s1 := b1.size
      have s2 := b2.size
      have s3 := b3.size
      exact ⟨rfl, ((b1.trans (b2.mono (by omega))).trans (b3.mono (by omega))).trans (b4.mono (by omega))⟩

end Go.Proofs.Ytmpaffpmmmpadaa

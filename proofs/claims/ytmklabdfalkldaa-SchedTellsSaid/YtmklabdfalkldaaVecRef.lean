/-
  The document's own answers on vectors: mod, Has, With, Without, All, Most.
-/
import Derived.Test.YtmklabdfalkldaaVecOf
import Derived.BigQuiet
import Derived.Deep.QuietTactic
namespace Go.Proofs.Ytmklabdfalkldaa
open Go.RowKit

theorem tm_two (n : Int) : (0 ≤ n ∧ n.tmod 65536 = n % 65536) ∨ (n < 0 ∧ n.tmod 65536 = -((-n) % 65536)) := by
  rcases Int.lt_or_le n 0 with h | h
  · refine .inr ⟨h, ?_⟩
    have e : n = -(-n) := by omega
    conv => lhs; rw [e]
    rw [Int.neg_tmod, Int.tmod_eq_emod_of_nonneg (by omega)]
  · exact .inl ⟨h, Int.tmod_eq_emod_of_nonneg h⟩
theorem md_tmod_neg (n : Int) (h : n.tmod 65536 < 0) : n.tmod 65536 + 65536 = (md n : Int) := by
  rw [md_cast]
  have h1 := tm_two n
  omega
theorem md_tmod_pos (n : Int) (h : 0 ≤ n.tmod 65536) : n.tmod 65536 = (md n : Int) := by
  rw [md_cast]
  have h1 := tm_two n
  omega
theorem tmod_range (n : Int) : -65536 < n.tmod 65536 ∧ n.tmod 65536 < 65536 := by
  have h1 := tm_two n
  omega

theorem mod_any (n : Int) (w : World) : Calls Try.prog 41 #[.int .i64 n] w fun e w' => e = .returned (.int .i64 (md n : Int)) ∧ w = w' := by
  have hr := tmod_range n
  have H1 := Lib.hid (md_tmod_neg n)
  have H2 := Lib.hid (md_tmod_pos n)
  go_enter Try.func41, Try.ntmps41
  go_wp2
  · go_ret
    exact ⟨ret_i (H1.out (by assumption)), rfl⟩
  · go_ret
    exact ⟨ret_i (H2.out (by assumption)), rfl⟩

theorem turned {P : Program} {f : FuncId} {args : Array Value} {W : World} {v : Value} (h : Calls P f args W fun e w' => e = .returned v ∧ W = w') : Calls P f args W fun e w' => e = .returned v ∧ w' = W :=
  h.mono fun _ _ ⟨a, b⟩ => ⟨a, b.symm⟩

theorem has_shift (v n : Int) (h0 : 0 ≤ n) (h1 : n ≤ 15) : (bits .and .i64 ((md v : Int) / 2 ^ n.toNat) 1 == 1) = hasB v n := by
  have e : (md v : Int) / 2 ^ n.toNat = ((md v / 2 ^ n.toNat : Nat) : Int) := by rw [pow_cast]; rfl
  have h2 : md v / 2 ^ n.toNat < 9223372036854775808 := Nat.lt_of_le_of_lt (Nat.div_le_self _ _) (by have := md_lt v; omega)
  rw [e, show (1 : Int) = ((1 : Nat) : Int) from rfl, i64_and_nat _ _ h2 (by omega), Nat.and_one_is_mod]
  unfold hasB
  rw [(nodeB_iff n).2 ⟨h0, h1⟩, Bool.true_and, Nat.testBit_eq_decide_div_mod_eq]
  rcases Nat.mod_two_eq_zero_or_one (md v / 2 ^ n.toNat) with h | h <;> rw [h] <;> simp
theorem hasB_off (v n : Int) (h : n < 0 ∨ 15 < n) : hasB v n = false := by
  unfold hasB; rw [(nodeB_no n).2 h]; rfl

theorem refHas_any (v n : Int) (w : World) : Calls Try.prog 26 #[.int .i64 v, .int .i64 n] w fun e w' => e = .returned (.bool (hasB v n)) ∧ w = w' := by
  have hm := md_lt v
  have H1 := Lib.hid (has_shift v n)
  have H2 := Lib.hid (hasB_off v n)
  by_cases h0 : 0 ≤ n
  · by_cases h1 : n ≤ 15
    · go_enter Try.func26, Try.ntmps26
      go_wp2_with fail; refine (mod_any _ _).mono ?_; rintro e w1 ⟨rfl, rfl⟩
      go_wp2_with fail
      go_ret
      exact ⟨ret_b (H1.out h0 h1), rfl⟩
    · go_enter Try.func26, Try.ntmps26
      go_wp2_with fail
      go_ret
      exact ⟨ret_b (H2.out (by omega)).symm, rfl⟩
  · go_enter Try.func26, Try.ntmps26
    go_wp2_with fail
    go_ret
    exact ⟨ret_b (H2.out (by omega)).symm, rfl⟩

theorem below_drewN {B : Nat} {a w : World} (h : Below B a w) (n : Nat) : Below B a (w.drewN n) := ⟨h.os, h.tape, h.output, h.size, h.block⟩
theorem with_off (v n : Int) (h : n < 0 ∨ 15 < n) : (md v : Int) = withI v n := by
  unfold withI; rw [(nodeB_no n).2 h]; rfl
theorem with_there (v n : Int) (h : hasB v n = true) : (md v : Int) = withI v n := by
  unfold hasB at h
  rw [Bool.and_eq_true] at h
  unfold withI
  rw [h.1, if_pos rfl, or_bit_there _ _ h.2]
theorem with_new (v n : Int) (h0 : 0 ≤ n) (h1 : n ≤ 15) (h : hasB v n = false) : (md v : Int) + wrap64 (2 ^ n.toNat) = withI v n := by
  have hn := (nodeB_iff n).2 ⟨h0, h1⟩
  unfold hasB at h
  rw [hn, Bool.true_and] at h
  unfold withI
  rw [hn, if_pos rfl, or_bit _ _ h, w64_pow _ (by omega)]
  exact (Int.natCast_add _ _).symm
theorem pow_small (n : Int) (h1 : n ≤ 15) : 0 ≤ wrap64 (2 ^ n.toNat) ∧ wrap64 (2 ^ n.toNat) ≤ 32768 := by
  rw [w64_pow _ (by omega)]
  have h : 2 ^ n.toNat ≤ 2 ^ 15 := Nat.pow_le_pow_right (by omega) (by omega)
  generalize 2 ^ n.toNat = p at *
  omega

theorem refWith_any (v n : Int) (w : World) : Calls Try.prog 27 #[.int .i64 v, .int .i64 n] w fun e w' => e = .returned (.int .i64 (withI v n)) ∧ Below w.heap.size w w' := by
  have hm := md_lt v
  have H1 := Lib.hid (with_off v n)
  have H2 := Lib.hid (with_there v n)
  have H3 := Lib.hid (with_new v n)
  by_cases h0 : 0 ≤ n
  · by_cases h1 : n ≤ 15
    · have hh := fun w => refHas_any v n w
      cases hb : hasB v n
      · rw [hb] at hh
        have HB := Lib.hid hb; clear hb
        obtain ⟨hp0, hp1⟩ := pow_small n h1
        go_enter Try.func27, Try.ntmps27
        go_wp2_with fail; refine (hh _).mono ?_; rintro e w1 ⟨rfl, rfl⟩
        clear hh
        go_wp2_with fail
        go_quiet ((go_at_call 41; exact Calls.quiet_of_same (turned (mod_any _ _))))
        go_wp2_with fail
        go_ret
        exact ⟨ret_i (H3.out h0 h1 HB.out), below_drewN (Below.refl _ _) _⟩
      · rw [hb] at hh
        have HB := Lib.hid hb; clear hb
        go_enter Try.func27, Try.ntmps27
        go_wp2_with fail; refine (hh _).mono ?_; rintro e w1 ⟨rfl, rfl⟩
        clear hh
        go_wp2_with fail; refine (mod_any _ _).mono ?_; rintro e w1 ⟨rfl, rfl⟩
        go_wp2_with fail
        go_ret
        exact ⟨ret_i (H2.out HB.out), Below.refl _ _⟩
    · go_enter Try.func27, Try.ntmps27
      go_wp2_with fail; refine (mod_any _ _).mono ?_; rintro e w1 ⟨rfl, rfl⟩
      go_wp2_with fail
      go_ret
      exact ⟨ret_i (H1.out (by omega)), Below.refl _ _⟩
  · go_enter Try.func27, Try.ntmps27
    go_wp2_with fail; refine (mod_any _ _).mono ?_; rintro e w1 ⟨rfl, rfl⟩
    go_wp2_with fail
    go_ret
    exact ⟨ret_i (H1.out (by omega)), Below.refl _ _⟩

theorem without_off (v n : Int) (h : hasB v n = false) : (md v : Int) = withoutI v n := by
  unfold withoutI; rw [h]; rfl
theorem without_there (v n : Int) (h : hasB v n = true) : (md v : Int) - wrap64 (2 ^ n.toNat) = withoutI v n := by
  unfold withoutI
  rw [h, if_pos rfl]
  unfold hasB at h
  rw [Bool.and_eq_true] at h
  have h1 := (nodeB_iff n).1 h.1
  rw [w64_pow _ (by omega)]
  have h2 := Nat.ge_two_pow_of_testBit h.2
  generalize 2 ^ n.toNat = p at *
  omega

/-- The vector of the nodes below k. -/
theorem all_step (k : Nat) (hk : k < 16) : withI (allI k) k = allI (k + 1 : Nat) := by
  refine withI_eq _ _ _ (allI_range _).1 (allI_range _).2 fun i hi => ?_
  rw [md_all _ i hi, md_all _ i hi, nodeB_nat k hk, Int.toNat_natCast, Bool.true_and, ← Bool.decide_or, decide_eq_decide]
  omega
theorem all_end (n : Int) (k : Nat) (hk : k ≤ 16) (h : n ≤ k ∨ k = 16) (hle : k = 0 ∨ (k : Int) ≤ n) : allI (k : Int) = allI n := by
  rcases h with h | h
  · rcases hle with e | e
    · subst e
      rw [allI_low _ (by omega), allI_low n (by omega)]
    · have : (k : Int) = n := by omega
      rw [this]
  · subst h
    rcases hle with e | e
    · omega
    · rw [allI_high _ (by omega), allI_high n (by omega)]

set_option maxHeartbeats 400000 in
theorem refAll_any (n : Int) (w : World) : Calls Try.prog 28 #[.int .i64 n] w fun e w' => e = .returned (.int .i64 (allI n)) ∧ Below w.heap.size w w' := by
  go_enter Try.func28, Try.ntmps28
  go_wp2
  go_loopw [3, 4] (fun v i wr => ∃ k : Nat, k ≤ 16 ∧ (k = 0 ∨ (k : Int) ≤ n) ∧ i = .int .i64 k ∧ v = .int .i64 (allI k) ∧ Below w.heap.size w wr) (fun _ i _ => 16 - (intOf i).toNat)
  case atStart => exact ⟨0, by omega, .inl rfl, rfl, rfl, Below.refl _ _⟩
  case round =>
    obtain ⟨k, hk, hle, rfl, rfl, hb⟩ := hrel
    have HL := Lib.hid hle; clear hle
    have HB := Lib.hid hb; clear hb
    by_cases h1 : (k : Int) < n
    · by_cases h2 : k < 16
      · have HS := Lib.hid (all_step k h2)
        go_wp2_with fail; refine (refWith_any _ _ _).mono ?_; rintro e w1 ⟨rfl, hb1⟩
        have HB1 := Lib.hid hb1; clear hb1
        go_wp2
        go_roundw
        case rel => exact ⟨k + 1, by omega, .inr (by omega), by go_num, by rw [HS.out], HB.out.trans (HB1.out.mono HB.out.size)⟩
        case measure => simp [intOf]; omega
      · have HE := Lib.hid (all_end n k hk (.inr (by omega)) HL.out)
        have h3 : 16 ≤ k := by omega
        go_wp2
        go_ret
        exact ⟨ret_i HE.out, HB.out⟩
    · have HE := Lib.hid (all_end n k hk (.inl (by omega)) HL.out)
      have h3 : n ≤ k := by omega
      go_wp2
      go_ret
      exact ⟨ret_i HE.out, HB.out⟩

theorem cb_nat_hit (v : Int) (k : Nat) (h : hasB v k = true) (hk : k < 16) : cb (md v) (k + 1) = cb (md v) k + 1 := by
  rw [hasB_nat v k hk] at h
  show cb (md v) k + _ = _
  rw [h]; rfl
theorem cb_nat_miss (v : Int) (k : Nat) (h : hasB v k = false) (hk : k < 16) : cb (md v) (k + 1) = cb (md v) k := by
  rw [hasB_nat v k hk] at h
  show cb (md v) k + _ = _
  rw [h]; rfl

end Go.Proofs.Ytmklabdfalkldaa

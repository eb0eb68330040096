/-
  The law VecHalves: of two vectors that have more than half of n each, some node below n is in both.
-/
import Derived.Test.YtmpaffpmmmpadaaVecAlls
namespace Go.Proofs.Ytmpaffpmmmpadaa
open Go.RowKit

/-- Is some node below k in both? -/
def bothN (a b : Nat) : Nat → Bool
  | 0 => false
  | k + 1 => bothN a b k || (a.testBit k && b.testBit k)
theorem both_none (a b k : Nat) (h : bothN a b k = false) (i : Nat) (hi : i < k) : (a &&& b).testBit i = false := by
  induction k with
  | zero => omega
  | succ k ih =>
    unfold bothN at h
    rw [Bool.or_eq_false_iff] at h
    rcases Nat.eq_or_lt_of_le (Nat.le_of_lt_succ hi) with e | e
    · rw [e, Nat.testBit_and]; exact h.2
    · exact ih h.1 e
theorem halves (a b n : Int) (h1 : 1 ≤ n) (h2 : n ≤ 16) (ha : mostB a n = true) (hb : mostB b n = true) : bothN (md a) (md b) n.toNat = true := by
  cases h : bothN (md a) (md b) n.toNat
  · exfalso
    have hz := cb_none _ _ (both_none _ _ _ h)
    have hs := cb_sum (md a) (md b) n.toNat
    have hl := cb_le (md a ||| md b) n.toNat
    rw [mostB_of a n h1 h2, decide_eq_true_eq] at ha
    rw [mostB_of b n h1 h2, decide_eq_true_eq] at hb
    omega
  · rfl
theorem md_rest (a : Int) (h0 : 0 ≤ a) (h1 : a < 65536) (i : Nat) (hi : i < 16) : (md (65535 - a)).testBit i = !(md a).testBit i := by
  have e : md (65535 - a) = 2 ^ 16 - (md a + 1) := by unfold md; omega
  rw [e, Nat.testBit_two_pow_sub_succ (md_lt a)]
  simp [hi]
theorem half_rest (a n : Int) (h0 : 0 ≤ a) (h1 : a < 65536) (h2 : 1 ≤ n) (h3 : n ≤ 16) (ha : mostB a n = true) : mostB (65535 - a) n = false := by
  have hs := cb_other (md a) (md (65535 - a)) n.toNat fun i hi => md_rest a h0 h1 i (by omega)
  rw [mostB_of a n h2 h3, decide_eq_true_eq] at ha
  rw [mostB_of _ n h2 h3, decide_eq_false_iff_not]
  omega
theorem half_all (n : Int) (h2 : 1 ≤ n) (h3 : n ≤ 16) : mostB (allI n) n = true := by
  rw [most_all n n (by omega) h2 (by omega), decide_eq_true_eq]
  omega
theorem half_none (n : Int) : mostB 0 n = false := by
  have : md 0 = 0 := rfl
  unfold mostB
  rw [this, cb_none 0 _ fun i _ => Nat.zero_testBit i]
  by_cases h1 : 1 ≤ n
  · simp
    omega
  · simp [h1]
theorem or_nat (a b : Nat) (ha : a < 9223372036854775808) (hb : b < 9223372036854775808) : bits .or .i64 (a : Int) (b : Int) = ((a ||| b : Nat) : Int) := by
  have hx : a ||| b < 2 ^ 63 := Nat.or_lt_two_pow (by simpa using ha) (by simpa using hb)
  unfold bits
  simp only [ofInt_i64_nat]
  show IntKind.i64.wrap (((BitVec.ofNat 64 a ||| BitVec.ofNat 64 b).toNat : Nat) : Int) = _
  rw [BitVec.toNat_or, BitVec.toNat_ofNat, BitVec.toNat_ofNat, Nat.mod_eq_of_lt (by omega), Nat.mod_eq_of_lt (by omega)]
  exact wrap_i64_small _ (by omega)
theorem or_vecs (a b : Int) (h0 : 0 ≤ a) (h1 : a < 65536) (h2 : 0 ≤ b) (h3 : b < 65536) : ∃ m : Nat, m < 65536 ∧ bits .or .i64 a b = (m : Int) ∧ ∀ i, m.testBit i = ((md a).testBit i || (md b).testBit i) := by
  refine ⟨md a ||| md b, or_lt _ _ (md_lt a) (md_lt b), ?_, fun i => Nat.testBit_or ..⟩
  have e := or_nat (md a) (md b) (by have := md_lt a; omega) (by have := md_lt b; omega)
  rw [md_of a h0 h1, md_of b h2 h3] at e
  exact e
theorem half_more (a b n : Int) (h0 : 0 ≤ a) (h1 : a < 65536) (h2 : 0 ≤ b) (h3 : b < 65536) (h4 : 1 ≤ n) (h5 : n ≤ 16) (ha : mostB a n = true) : mostB (bits .or .i64 a b) n = true := by
  obtain ⟨m, hm, e, ht⟩ := or_vecs a b h0 h1 h2 h3
  rw [mostB_of a n h4 h5, decide_eq_true_eq] at ha
  rw [e, mostB_of _ n h4 h5, decide_eq_true_eq, md_nat m hm]
  have := cb_more (md a) m n.toNat fun i _ hi => by rw [ht i, hi]; rfl
  omega

set_option maxHeartbeats 2000000 in
theorem vecHalves_walk (a0 a1 a2 : Int) (w0 : (Lit.int .i64 a0).wf = true) (w1 : (Lit.int .i64 a1).wf = true) (w2 : (Lit.int .i64 a2).wf = true) (w : World) :
    Calls Try.prog 4 #[.int .i64 a0, .int .i64 a1, .int .i64 a2] w fun e w' => e = .returned (.bool true) ∧ Below w.heap.size w w' := by
  have p0 := fun w => pick_any a0 65536 w0 (by omega) w
  have p1 := fun w => pick_any a1 65536 w1 (by omega) w
  have p2 := fun w => pick_any a2 16 w2 (by omega) w
  obtain ⟨hr0, hr1⟩ := pickI_range a0 65536 (by omega)
  obtain ⟨hs0, hs1⟩ := pickI_range a1 65536 (by omega)
  obtain ⟨ht0, ht1⟩ := pickI_range a2 16 (by omega)
  generalize pickI a0 65536 = a at *
  generalize pickI a1 65536 = b at *
  generalize pickI a2 16 = p at *
  clear w0 w1 w2
  have ha := fun w => most_any a (1 + p) w
  have hb := fun w => most_any b (1 + p) w
  have hc := fun w => most_any (65535 - a) (1 + p) w
  have hd := fun w => all_any (1 + p) w
  have he := fun w => most_any (allI (1 + p)) (1 + p) w
  have hf := fun w => most_any 0 (1 + p) w
  have hg := fun w => most_any (bits .or .i64 a b) (1 + p) w
  rw [half_all (1 + p) (by omega) (by omega)] at he
  rw [half_none] at hf
  have q1 := halves a b (1 + p) (by omega) (by omega)
  have q2 := half_rest a (1 + p) hr0 hr1 (by omega) (by omega)
  have q3 := half_more a b (1 + p) hr0 hr1 hs0 hs1 (by omega) (by omega)
  generalize allI (1 + p) = y at *
  generalize mostB a (1 + p) = x1 at *
  generalize mostB b (1 + p) = x2 at *
  generalize mostB (65535 - a) (1 + p) = x3 at *
  generalize mostB (bits .or .i64 a b) (1 + p) = x4 at *
  have Q1 := Lib.hid q1; clear q1
  have Q2 := Lib.hid q2; clear q2
  have Q3 := Lib.hid q3; clear q3
  have hrange : 1 ≤ 1 + p ∧ 1 + p ≤ 16 := by omega
  obtain ⟨hn1, hn2⟩ := hrange
  go_enter Try.func4, Try.ntmps4
  go_wp2_with fail; refine (awake_any _).mono ?_; rintro e w1 ⟨rfl, b1⟩
  go_wp2_with fail; refine (p2 _).mono ?_; rintro e w2 ⟨rfl, rfl⟩
  go_wp2_with fail; refine (p0 _).mono ?_; rintro e w2 ⟨rfl, rfl⟩
  go_wp2_with fail; refine (p1 _).mono ?_; rintro e w2 ⟨rfl, rfl⟩
  go_wp2_with fail
  have B1 := Lib.hid b1; clear b1
  go_loop [11, 12] (fun r i => ∃ k : Nat, (k : Int) ≤ 1 + p ∧ i = .int .i64 k ∧ r = .bool (bothN (md a) (md b) k)) (fun _ i => 16 - (intOf i).toNat)
  case atStart => exact ⟨0, by omega, rfl, rfl⟩
  case round =>
    obtain ⟨k, hk, rfl, rfl⟩ := hrel
    by_cases hlt : (k : Int) < 1 + p
    · have hk16 : k < 16 := by omega
      have HS : Hid (bothN (md a) (md b) (k + 1) = (bothN (md a) (md b) k || (hasB a k && hasB b k))) := Lib.hid (by rw [hasB_nat a k hk16, hasB_nat b k hk16]; rfl)
      have g1 := fun w => has_any a k w
      have g2 := fun w => has_any b k w
      generalize bothN (md a) (md b) k = r at *
      generalize hasB a k = c1 at *
      generalize hasB b k = c2 at *
      cases r
      · cases c1
        · go_wp2_with fail; refine (g1 _).mono ?_; rintro e w2 ⟨rfl, rfl⟩
          go_wp2_with fail
          go_round
          case rel => exact ⟨k + 1, by omega, by go_num, by rw [HS.out]; rfl⟩
          case measure => simp [intOf]; omega
        · go_wp2_with fail; refine (g1 _).mono ?_; rintro e w2 ⟨rfl, rfl⟩
          go_wp2_with fail; refine (g2 _).mono ?_; rintro e w2 ⟨rfl, rfl⟩
          go_wp2_with fail
          go_round
          case rel => exact ⟨k + 1, by omega, by go_num, by rw [HS.out]; simp⟩
          case measure => simp [intOf]; omega
      · go_wp2_with fail
        go_round
        case rel => exact ⟨k + 1, by omega, by go_num, by rw [HS.out]; simp⟩
        case measure => simp [intOf]; omega
    · have hkn : 1 + p ≤ k := by omega
      have hke : (1 + p).toNat = k := by omega
      rw [hke] at Q1
      clear hke
      generalize bothN (md a) (md b) k = r at *
      cases x1
      · go_wp2_with fail; refine (ha _).mono ?_; rintro e w2 ⟨rfl, b2⟩
        go_wp2_with fail; refine (ha _).mono ?_; rintro e w3 ⟨rfl, b3⟩
        go_wp2_with fail; refine (hd _).mono ?_; rintro e w4 ⟨rfl, rfl⟩
        go_wp2_with fail; refine (he _).mono ?_; rintro e w4 ⟨rfl, b4⟩
        go_wp2_with fail; refine (hf _).mono ?_; rintro e w5 ⟨rfl, b5⟩
        go_wp2_with fail; refine (ha _).mono ?_; rintro e w6 ⟨rfl, b6⟩
        go_wp2_with fail
        go_ret
        have b1 := B1.out
        have s1 := b1.size
        have s2 := b2.size
        have s3 := b3.size
        have s4 := b4.size
        have s5 := b5.size
        have s6 := b6.size
        exact ⟨rfl, (((((b1.trans (b2.mono (by omega))).trans (b3.mono (by omega))).trans (b4.mono (by omega))).trans (b5.mono (by omega))).trans (b6.mono (by omega)))⟩
      · cases x2
        · have e3 := Q2.out rfl
          have e4 := Q3.out rfl
          subst e3 e4
          go_wp2_with fail; refine (ha _).mono ?_; rintro e w2 ⟨rfl, b2⟩
          go_wp2_with fail; refine (hb _).mono ?_; rintro e w3 ⟨rfl, b3⟩
          go_wp2_with fail; refine (ha _).mono ?_; rintro e w4 ⟨rfl, b4⟩
          go_wp2_with fail; refine (hc _).mono ?_; rintro e w5 ⟨rfl, b5⟩
          go_wp2_with fail; refine (hd _).mono ?_; rintro e w6 ⟨rfl, rfl⟩
          go_wp2_with fail; refine (he _).mono ?_; rintro e w6 ⟨rfl, b6⟩
          go_wp2_with fail; refine (hf _).mono ?_; rintro e w7 ⟨rfl, b7⟩
          go_wp2_with fail; refine (ha _).mono ?_; rintro e w8 ⟨rfl, b8⟩
          go_wp2_with fail; refine (hg _).mono ?_; rintro e w9 ⟨rfl, b9⟩
          go_wp2_with fail
          go_ret
          have b1 := B1.out
          have s1 := b1.size
          have s2 := b2.size
          have s3 := b3.size
          have s4 := b4.size
          have s5 := b5.size
          have s6 := b6.size
          have s7 := b7.size
          have s8 := b8.size
          have s9 := b9.size
          exact ⟨rfl, ((((((((b1.trans (b2.mono (by omega))).trans (b3.mono (by omega))).trans (b4.mono (by omega))).trans (b5.mono (by omega))).trans (b6.mono (by omega))).trans (b7.mono (by omega))).trans (b8.mono (by omega))).trans (b9.mono (by omega)))⟩
        · have e3 := Q2.out rfl
          have e4 := Q3.out rfl
          subst e3 e4
          have e1 := Q1.out rfl rfl
          subst e1
          go_wp2_with fail; refine (ha _).mono ?_; rintro e w2 ⟨rfl, b2⟩
          go_wp2_with fail; refine (hb _).mono ?_; rintro e w3 ⟨rfl, b3⟩
          go_wp2_with fail; refine (ha _).mono ?_; rintro e w4 ⟨rfl, b4⟩
          go_wp2_with fail; refine (hc _).mono ?_; rintro e w5 ⟨rfl, b5⟩
          go_wp2_with fail; refine (hd _).mono ?_; rintro e w6 ⟨rfl, rfl⟩
          go_wp2_with fail; refine (he _).mono ?_; rintro e w6 ⟨rfl, b6⟩
          go_wp2_with fail; refine (hf _).mono ?_; rintro e w7 ⟨rfl, b7⟩
          go_wp2_with fail; refine (ha _).mono ?_; rintro e w8 ⟨rfl, b8⟩
          go_wp2_with fail; refine (hg _).mono ?_; rintro e w9 ⟨rfl, b9⟩
          go_wp2_with fail
          go_ret
          have b1 := B1.out
          have s1 := b1.size
          have s2 := b2.size
          have s3 := b3.size
          have s4 := b4.size
          have s5 := b5.size
          have s6 := b6.size
          have s7 := b7.size
          have s8 := b8.size
          have s9 := b9.size
          exact ⟨rfl, ((((((((b1.trans (b2.mono (by omega))).trans (b3.mono (by omega))).trans (b4.mono (by omega))).trans (b5.mono (by omega))).trans (b6.mono (by omega))).trans (b7.mono (by omega))).trans (b8.mono (by omega))).trans (b9.mono (by omega)))⟩

end Go.Proofs.Ytmpaffpmmmpadaa

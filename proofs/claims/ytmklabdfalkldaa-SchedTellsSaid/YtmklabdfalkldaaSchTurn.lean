/-
  Turns and spots, by the program.
-/
import Derived.Test.YtmklabdfalkldaaSchSlot
import Derived.BigRegion
import Derived.BigQuiet
import Derived.Deep.QuietTactic
namespace Go.Proofs.Ytmklabdfalkldaa
open Go.RowKit

set_option maxRecDepth 100000 in
theorem turnOf_any (A : Option Addr) (n cp : Nat) (c : Int) (s : Spot) (h0 : 0 ≤ s.cyc * c) (h1 : s.cyc * c + s.rnd ≤ 70368744177727) (h2 : 0 ≤ s.rnd) (w : World) :
    Calls Try.prog 39 #[pv A n cp c, sv s] w fun e w' => e = .returned (cx (s.cyc * c + s.rnd) s.slt) ∧ Below w.heap.size w w' := by
  have hB := Joins.below_alloc2 w (.cells #[.slice A n cp, .int .i64 c] 25) (.cells #[.int .i64 s.cyc, .int .i64 s.rnd, .int .i64 s.slt, .int .i64 s.tck] 27)
  have HB := Lib.hid hB; clear hB
  obtain ⟨a, b, k, x⟩ := s
  simp only at *
  have e1 : IntKind.i64.wrap (a * c) = a * c := IntWalk.i64_in _ (by omega)
  have e2 : IntKind.i64.wrap (a * c + b) = a * c + b := IntWalk.i64_in _ (by omega)
  go_enter Try.func39, Try.ntmps39
  go_wp2_with fail
  refine (turn_any _ _ _).mono ?_; rintro e w1 ⟨rfl, rfl⟩
  go_wp2_with fail
  go_ret
  exact ⟨rfl, HB.out⟩

set_option maxRecDepth 100000 in
set_option maxHeartbeats 1000000 in
theorem spot_any (A : Option Addr) (n cp : Nat) (c q k x : Int) (hc : 1 ≤ c ∧ c ≤ 64) (hq : 0 ≤ q ∧ q ≤ 70368744177727000) (hq2 : q < 9007199254740992) (hk : 0 ≤ k ∧ k < 9007199254740992) (w : World) :
    Calls Try.prog 36 #[pv A n cp c, cx q k, .int .i64 x] w fun e w' => e = .returned (sv ⟨q / c, q % c, k, x⟩) ∧ Below w.heap.size w w' := by
  have hB := Joins.below_alloc2 w (.cells #[.slice A n cp, .int .i64 c] 25) (.cells #[.int .i64 0, .int .i64 0, .int .i64 0, .int .i64 0] 27)
  have cp' := fun W => parts_any q k ⟨hq.1, hq2⟩ hk W
  have HB := Lib.hid hB; clear hB
  obtain ⟨c0, c1⟩ := hc
  obtain ⟨q0, q1⟩ := hq
  unfold cx at *
  generalize floatOfInt .f64 q = qf at *
  generalize floatOfInt .f64 k = kf at *
  go_enter Try.func36, Try.ntmps36
  go_wp2_with fail
  refine (cp' _).mono ?_; rintro e w1 ⟨rfl, rfl⟩
  go_wp2_with fail
  go_region
  go_wp2_with fail
  exact bodyPost_ret (v := sv ⟨q / c, q % c, k, x⟩) (by simp [results, Try.results36, go_sem]) rfl ⟨rfl, (Joins.below_alloc2 w _ _).drew⟩

set_option maxRecDepth 100000 in
set_option maxHeartbeats 1000000 in
theorem behind_any (A : Option Addr) (n cp : Nat) (c q k m : Int) (hn : 2 ≤ n ∧ n ≤ 16) (hq : 0 ≤ q ∧ q ≤ 70368744177727) (hk : 0 ≤ k ∧ k < 16) (hm : 0 ≤ m ∧ m ≤ 1073741824) (w : World) :
    Calls Try.prog 40 #[pv A n cp c, cx q k, .int .i64 m] w fun e w' => e = .returned (cx (q + (k + m) / n) ((k + m) % n)) ∧ Below w.heap.size w w' := by
  have hB := Joins.below_alloc1 w (.cells #[.slice A n cp, .int .i64 c] 25)
  have cp' := fun W => parts_any q k ⟨hq.1, by omega⟩ ⟨hk.1, by omega⟩ W
  have HB := Lib.hid hB; clear hB
  obtain ⟨q0, q1⟩ := hq
  obtain ⟨k0, k1⟩ := hk
  obtain ⟨m0, m1⟩ := hm
  obtain ⟨n0, n1⟩ := hn
  have n0' : (2 : Int) ≤ n := by omega
  have n1' : (n : Int) ≤ 16 := by omega
  have ek : IntKind.i64.wrap (k + m) = k + m := IntWalk.i64_in _ (by omega)
  have hd0 : 0 ≤ (k + m) / (n : Int) := Int.ediv_nonneg (by omega) (by omega)
  have hd1 : (k + m) / (n : Int) ≤ k + m := Int.ediv_le_self _ (by omega)
  have eq' : IntKind.i64.wrap (q + (k + m) / (n : Int)) = q + (k + m) / (n : Int) := IntWalk.i64_in _ (by omega)
  have ct := fun W => turn_any (q + (k + m) / (n : Int)) ((k + m) % (n : Int)) W
  generalize hq' : floatOfInt .f64 q = qf at *
  generalize hk' : floatOfInt .f64 k = kf at *
  clear hq' hk'
  go_enter Try.func40, Try.ntmps40
  go_wp2_with fail
  refine (cp' _).mono ?_; rintro e w1 ⟨rfl, rfl⟩
  go_wp2_with fail
  go_quiet ((go_at_call 45; exact Calls.quiet_of_same (turned (ct _))))
  go_wp2_with fail
  go_ret
  exact ⟨rfl, below_drewN HB.out _⟩

/-- The time of a turn's first tick. -/
theorem start_sum (a b R : Int) (ha : 0 ≤ a * R) (ha2 : a * R ≤ 1125899906843632000) (hb : 0 ≤ b ∧ b ≤ 16000) : IntKind.i64.wrap (a * R) = a * R ∧ IntKind.i64.wrap (a * R + b) = a * R + b := ⟨IntWalk.i64_in _ (by omega), IntWalk.i64_in _ (by omega)⟩

set_option maxRecDepth 100000 in
set_option maxHeartbeats 1000000 in
theorem start_any (A : Option Addr) (cp : Nat) (c : Int) (l : Pl) (hR : rightS l c = true) (q k : Int) (hq : 0 ≤ q ∧ q ≤ 70368744177727) (hq2 : 0 ≤ q * sumS l ∧ q * sumS l ≤ 1125899906843632000) (hk : 0 ≤ k ∧ k < l.length) (w : World) (hS : Sls w w.heap.size A l) :
    Calls Try.prog 38 #[pv A l.length cp c, cx q k] w fun e w' => e = .returned (.int .i64 (q * sumS l + aheadS l k.toNat)) ∧ Below w.heap.size w w' := by
  have ht := rightS_ticked hR
  have hl := rightS_len hR
  have hlm : l.length ≤ maxLen := by unfold maxLen; omega
  have cp' := fun W => parts_any q k ⟨hq.1, by omega⟩ ⟨hk.1, by omega⟩ W
  have hab := aheadS_bounds ht k.toNat (by omega)
  obtain ⟨e1, e2⟩ := start_sum q (aheadS l k.toNat) (sumS l) hq2.1 hq2.2 (by omega)
  have hB := Joins.below_alloc1 w (.cells #[.slice A l.length cp, .int .i64 c] 25)
  have hP := PlAt.new w A l.length cp c
  have hS0 := (hS.below hB (Nat.le_refl _)).more hB.size
  have er : roundS l c = sumS l := by unfold roundS; rw [hR, if_pos rfl]
  have ea : aheadI l k = aheadS l k.toNat := aheadI_nat l k hk.1 hk.2
  unfold cx at cp' ⊢
  generalize floatOfInt .f64 q = qf at *
  generalize floatOfInt .f64 k = kf at *
  generalize hW : w.alloc (.cells #[.slice A l.length cp, .int .i64 c] 25) = W at *
  have C1 := Lib.hid (fun W' (hG : Below W.heap.size W W') => round_any A cp c l hlm W' ((hS0.below hG (Nat.le_refl _)).more hG.size))
  have C2 := Lib.hid (fun W' (hG : Below W.heap.size W W') => ahead_any A cp c l ht hl.2 k W' ((hS0.below hG (Nat.le_refl _)).more hG.size))
  rw [er] at C1
  rw [ea] at C2
  have HB := Lib.hid hB; clear hB hS0 hS hlm er ea hab ht hl hR
  have HP := Lib.hid hP; clear hP
  generalize aheadS l k.toNat = ka at *
  generalize sumS l = S at *
  generalize l.length = n at *
  generalize hP : q * S = P at *
  have HPP := Lib.hid hP
  generalize hg : w.heap.size = b at *
  go_enter Try.func38, Try.ntmps38
  go_wp2_with fail
  refine (cp' _).mono ?_; rintro e w1 ⟨rfl, rfl⟩
  go_wp2_with fail
  clear hW
  have HV : ∃ Vp : Nat → (Nat → Value) → World → Prop, Vp = (fun ix u wv => match ix with
    | 0 => u 0 = .int .i64 q
    | 1 => u 1 = .agg #[.slice A n cp, .int .i64 c]
    | 2 => u 2 = .int .i64 S
    | 3 => u 3 = .int .i64 P
    | 4 => u 4 = .agg #[.slice A n cp, .int .i64 c]
    | 5 => u 5 = .int .i64 k
    | 6 => u 6 = .int .i64 ka
    | 7 => u 7 = .int .i64 (P + ka)
    | 8 => u 8 = .int .i64 (P + ka)
    | _ => True) := ⟨_, rfl⟩
  obtain ⟨Vp, hVdef⟩ := HV
  have Vp0 : ∀ u wv, Vp 0 u wv = (u 0 = .int .i64 q) := fun u wv => by subst hVdef; rfl
  have Vp1 : ∀ u wv, Vp 1 u wv = (u 1 = .agg #[.slice A n cp, .int .i64 c]) := fun u wv => by subst hVdef; rfl
  have Vp2 : ∀ u wv, Vp 2 u wv = (u 2 = .int .i64 S) := fun u wv => by subst hVdef; rfl
  have Vp3 : ∀ u wv, Vp 3 u wv = (u 3 = .int .i64 P) := fun u wv => by subst hVdef; rfl
  have Vp4 : ∀ u wv, Vp 4 u wv = (u 4 = .agg #[.slice A n cp, .int .i64 c]) := fun u wv => by subst hVdef; rfl
  have Vp5 : ∀ u wv, Vp 5 u wv = (u 5 = .int .i64 k) := fun u wv => by subst hVdef; rfl
  have Vp6 : ∀ u wv, Vp 6 u wv = (u 6 = .int .i64 ka) := fun u wv => by subst hVdef; rfl
  have Vp7 : ∀ u wv, Vp 7 u wv = (u 7 = .int .i64 (P + ka)) := fun u wv => by subst hVdef; rfl
  have Vp8 : ∀ u wv, Vp 8 u wv = (u 8 = .int .i64 (P + ka)) := fun u wv => by subst hVdef; rfl
  have HVD := Lib.hid hVdef
  clear hVdef
  refine region_each (V := Vp) (drop := fun _ _ => false) (G := fun wv => Below W.heap.size W wv) (Rel := fun jx wv wv' => Below wv.heap.size wv wv') (by kernel_rfl) (by kernel_rfl) (Below.refl _ _).drew ?hmonoc1 ?hdepc1 ⟨?s0_c1, ?s1_c1, ?s2_c1, ?s3_c1, ?s4_c1, ?s5_c1, ?s6_c1, ?s7_c1, ?s8_c1, trivial⟩ ?behindc1
  case hmonoc1 =>
    intro ix jx u wv wv' hij hw hd hr
    rw [HVD.out]
    dsimp only
    split <;> intro h <;> first | exact trivial | exact h
  case hdepc1 =>
    intro ix u u' wv h1 h2
    rw [HVD.out]
    dsimp only
    split <;> intro h <;> first | exact trivial | (rw [← h1]; exact h)
  case s0_c1 =>
    refine owe rfl fun a wx val hG hV hN hO K hK => ?_
    have e5 : a.tmps[5]? = some (.int .i64 q) := (hO 5 (by kernel_rfl)).trans (by rfl)
    clear hV hN hO
    go_simp
    exact hK.out _ _ (by rw [Vp0, upd_at] <;> (congr 1 <;> omega)) (Below.refl _ _) hG
  case s1_c1 =>
    refine owe rfl fun a wx val hG hV hN hO K hK => ?_
    have e2 : a.tmps[2]? = some (.pointer (some ⟨b, 0, none⟩)) := (hO 2 (by kernel_rfl)).trans (by rfl)
    clear hV hN hO
    obtain ⟨y0, y1⟩ := (HP.out.on hG).cells
    go_simp
    exact hK.out _ _ (by rw [Vp1, upd_at] <;> (congr 1 <;> omega)) (Below.refl _ _) hG
  case s2_c1 =>
    refine owe rfl fun a wx val hG hV hN hO K hK => ?_
    have e13 := hN 1 13 (by kernel_rfl) (by kernel_rfl) (by simp)
    have f13 := hV 1 (by kernel_rfl) (by kernel_rfl)
    rw [Vp1] at f13; rw [f13] at e13; clear f13
    clear hV hN hO
    go_simp
    refine (C1.out _ hG).mono ?_
    rintro e w11 ⟨rfl, hb⟩
    exact hK.out _ _ (by rw [Vp2, upd_at]) hb (hG.trans (hb.mono hG.size))
  case s3_c1 =>
    refine owe rfl fun a wx val hG hV hN hO K hK => ?_
    have e12 := hN 0 12 (by kernel_rfl) (by kernel_rfl) (by simp)
    have f12 := hV 0 (by kernel_rfl) (by kernel_rfl)
    rw [Vp0] at f12; rw [f12] at e12; clear f12
    have e14 := hN 2 14 (by kernel_rfl) (by kernel_rfl) (by simp)
    have f14 := hV 2 (by kernel_rfl) (by kernel_rfl)
    rw [Vp2] at f14; rw [f14] at e14; clear f14
    clear hV hN hO
    go_simp
    exact hK.out _ _ (by rw [Vp3, upd_at] <;> (congr 1 <;> omega)) (Below.refl _ _) hG
  case s4_c1 =>
    refine owe rfl fun a wx val hG hV hN hO K hK => ?_
    have e2 : a.tmps[2]? = some (.pointer (some ⟨b, 0, none⟩)) := (hO 2 (by kernel_rfl)).trans (by rfl)
    clear hV hN hO
    obtain ⟨y0, y1⟩ := (HP.out.on hG).cells
    go_simp
    exact hK.out _ _ (by rw [Vp4, upd_at] <;> (congr 1 <;> omega)) (Below.refl _ _) hG
  case s5_c1 =>
    refine owe rfl fun a wx val hG hV hN hO K hK => ?_
    have e6 : a.tmps[6]? = some (.int .i64 k) := (hO 6 (by kernel_rfl)).trans (by rfl)
    clear hV hN hO
    go_simp
    exact hK.out _ _ (by rw [Vp5, upd_at] <;> (congr 1 <;> omega)) (Below.refl _ _) hG
  case s6_c1 =>
    refine owe rfl fun a wx val hG hV hN hO K hK => ?_
    have e16 := hN 4 16 (by kernel_rfl) (by kernel_rfl) (by simp)
    have f16 := hV 4 (by kernel_rfl) (by kernel_rfl)
    rw [Vp4] at f16; rw [f16] at e16; clear f16
    have e17 := hN 5 17 (by kernel_rfl) (by kernel_rfl) (by simp)
    have f17 := hV 5 (by kernel_rfl) (by kernel_rfl)
    rw [Vp5] at f17; rw [f17] at e17; clear f17
    clear hV hN hO
    go_simp
    refine (C2.out _ hG).mono ?_
    rintro e w11 ⟨rfl, hb⟩
    exact hK.out _ _ (by rw [Vp6, upd_at]) hb (hG.trans (hb.mono hG.size))
  case s7_c1 =>
    refine owe rfl fun a wx val hG hV hN hO K hK => ?_
    have e15 := hN 3 15 (by kernel_rfl) (by kernel_rfl) (by simp)
    have f15 := hV 3 (by kernel_rfl) (by kernel_rfl)
    rw [Vp3] at f15; rw [f15] at e15; clear f15
    have e18 := hN 6 18 (by kernel_rfl) (by kernel_rfl) (by simp)
    have f18 := hV 6 (by kernel_rfl) (by kernel_rfl)
    rw [Vp6] at f18; rw [f18] at e18; clear f18
    clear hV hN hO
    go_simp
    exact hK.out _ _ (by rw [Vp7, upd_at] <;> (congr 1 <;> omega)) (Below.refl _ _) hG
  case s8_c1 =>
    refine owe rfl fun a wx val hG hV hN hO K hK => ?_
    have e19 := hN 7 19 (by kernel_rfl) (by kernel_rfl) (by simp)
    have f19 := hV 7 (by kernel_rfl) (by kernel_rfl)
    rw [Vp7] at f19; rw [f19] at e19; clear f19
    clear hV hN hO
    go_simp
    exact hK.out _ _ (by rw [Vp8, upd_at] <;> (congr 1 <;> omega)) (Below.refl _ _) hG
  intro val wx hG hV
  have f0 := hV 0 (by simp) (fun _ _ => by rfl)
  rw [Vp0] at f0
  have f1 := hV 1 (by simp) (fun _ _ => by rfl)
  rw [Vp1] at f1
  have f2 := hV 2 (by simp) (fun _ _ => by rfl)
  rw [Vp2] at f2
  have f3 := hV 3 (by simp) (fun _ _ => by rfl)
  rw [Vp3] at f3
  have f4 := hV 4 (by simp) (fun _ _ => by rfl)
  rw [Vp4] at f4
  have f5 := hV 5 (by simp) (fun _ _ => by rfl)
  rw [Vp5] at f5
  have f6 := hV 6 (by simp) (fun _ _ => by rfl)
  rw [Vp6] at f6
  have f7 := hV 7 (by simp) (fun _ _ => by rfl)
  rw [Vp7] at f7
  have f8 := hV 8 (by simp) (fun _ _ => by rfl)
  rw [Vp8] at f8
  clear hV Vp0 Vp1 Vp2 Vp3 Vp4 Vp5 Vp6 Vp7 Vp8
  simp only [putAll, Act.put, List.setIfInBounds_toArray, List.set_cons_zero, List.set_cons_succ]
  generalize val 0 = z0 at *; (subst f0)
  generalize val 1 = z1 at *; (subst f1)
  generalize val 2 = z2 at *; (subst f2)
  generalize val 3 = z3 at *; (subst f3)
  generalize val 4 = z4 at *; (subst f4)
  generalize val 5 = z5 at *; (subst f5)
  generalize val 6 = z6 at *; (subst f6)
  generalize val 7 = z7 at *; (subst f7)
  generalize val 8 = z8 at *; (subst f8)
  clear HVD
  go_wp2_with fail
  go_ret
  exact ⟨rfl, HB.out.trans (hG.mono (by rw [← hg]; exact HB.out.size))⟩

end Go.Proofs.Ytmklabdfalkldaa

/-
  The law LatticeTurns.
-/
import Derived.Test.YtlgbgkiajhcneaaLatLaw
import Derived.Test.YtlgbgkiajhcneaaLatMath
namespace Go.Proofs.Ytlgbgkiajhcneaa
open Go.RowKit

def cntI (la S t : Int) : Nat → Int
  | 0 => 0
  | k + 1 => cntI la S t k + if (t + (k : Int)) % S < la then 1 else 0
theorem cnt_shift (la S t : Int) : ∀ k : Nat, cntI la S (t + 1) k + (if t % S < la then 1 else 0) = cntI la S t (k + 1)
  | 0 => by simp [cntI]
  | k + 1 => by
    have h := cnt_shift la S t k
    rw [show cntI la S t (k + 1 + 1) = cntI la S t (k + 1) + (if (t + ((k + 1 : Nat) : Int)) % S < la then 1 else 0) from rfl, ← h, show cntI la S (t + 1) (k + 1) = cntI la S (t + 1) k + (if (t + 1 + (k : Int)) % S < la then 1 else 0) from rfl]
    rw [show t + ((k + 1 : Nat) : Int) = t + 1 + (k : Int) by omega]
    omega
theorem cnt_full (la t : Int) (n : Nat) : cntI la n (t + 1) n = cntI la n t n := by
  have h := cnt_shift la n t n
  rw [show cntI la n t (n + 1) = cntI la n t n + (if (t + (n : Int)) % n < la then 1 else 0) from rfl, Int.add_emod_right] at h
  omega
theorem cnt_zero (la : Int) (n : Nat) (hl : 0 ≤ la) : ∀ k : Nat, k ≤ n → cntI la n 0 k = min (k : Int) la
  | 0, _ => by simp [cntI]; omega
  | k + 1, h => by
    rw [show cntI la n 0 (k + 1) = cntI la n 0 k + (if (0 + (k : Int)) % n < la then 1 else 0) from rfl, cnt_zero la n hl k (by omega), Int.zero_add, Int.emod_eq_of_lt (by omega) (by omega)]
    split <;> omega
theorem cnt_all (la : Int) (n : Nat) (hl : 0 ≤ la) (hn : la ≤ n) : ∀ t : Nat, cntI la n t n = la
  | 0 => by rw [show ((0 : Nat) : Int) = 0 from rfl, cnt_zero la n hl n (Nat.le_refl _)]; omega
  | t + 1 => by rw [show ((t + 1 : Nat) : Int) = (t : Int) + 1 by omega, cnt_full]; exact cnt_all la n hl hn t
theorem cnt_bound (la S t : Int) : ∀ k : Nat, 0 ≤ cntI la S t k ∧ cntI la S t k ≤ k
  | 0 => by simp [cntI]
  | k + 1 => by
    have h := cnt_bound la S t k
    rw [show cntI la S t (k + 1) = cntI la S t k + (if (t + (k : Int)) % S < la then 1 else 0) from rfl]
    split <;> omega
theorem wf_of {n : Int} (h0 : -9223372036854775808 ≤ n) (h1 : n ≤ 9223372036854775807) : (Lit.int .i64 n).wf = true := by
  simp [Lit.wf, IntKind.min, IntKind.max, IntKind.bits, IntKind.signed]
  omega
theorem gap_quiet {la lg t : Int} (h : Rt la lg) (k : Nat) (hk : t + k < nextI la lg t) : ¬ (t + k) % (la + lg) < la := by
  have hR := h
  obtain ⟨⟨a0, a1⟩, g0, g1⟩ := h
  obtain ⟨q, m, rfl, m0, m1, e1, e2⟩ := at_split t (la + lg) (by omega)
  have e3 : (q * (la + lg) + m) % (la + lg) = m := e2
  by_cases hm : m < la
  · rw [next_act (by rw [e3]; exact hm)] at hk; omega
  · unfold nextI at hk
    rw [e3, if_neg hm, e1, Int.add_mul] at hk
    rw [show q * (la + lg) + m + (k : Int) = q * (la + lg) + (m + k) by omega, (dv (S := la + lg) (q := q) (r := m + k) (by omega) (by omega)).2]
    omega
theorem next_near {la lg t : Int} (h : Rt la lg) : t ≤ nextI la lg t ∧ nextI la lg t ≤ t + lg ∧ (nextI la lg t) % (la + lg) < la := by
  obtain ⟨n1, n2⟩ := next_facts (t := t) h
  obtain ⟨⟨a0, a1⟩, g0, g1⟩ := h
  by_cases hm : t % (la + lg) < la
  · rw [n1 hm]; omega
  · obtain ⟨q, e1, e2, e3, e4, e5, _⟩ := n2 hm
    rw [e1]; omega

set_option maxRecDepth 100000 in
set_option maxHeartbeats 2000000 in
theorem latticeTurns_walk (a0 a1 a2 : Int) (w0 : (Lit.int .i64 a0).wf = true) (w1 : (Lit.int .i64 a1).wf = true) (w2 : (Lit.int .i64 a2).wf = true) (w : World) :
    Calls Try.prog 5 #[.int .i64 a0, .int .i64 a1, .int .i64 a2] w fun e w' => e = .returned (.bool true) ∧ Below w.heap.size w w' := by
  have P0 := Lib.hid (fun W => pick_any a0 20 w0 (by omega) W)
  have P1 := Lib.hid (fun W => pick_any a1 20 w1 (by omega) W)
  have P2 := Lib.hid (fun W => pick_any a2 549755813888 w2 (by omega) W)
  obtain ⟨r0, r1⟩ := pickI_range a0 20 (by omega)
  obtain ⟨s0, s1⟩ := pickI_range a1 20 (by omega)
  obtain ⟨t0, t1⟩ := pickI_range a2 549755813888 (by omega)
  generalize pickI a0 20 = p0 at *
  generalize pickI a1 20 = p1 at *
  generalize pickI a2 549755813888 = t at *
  have CL := Lib.hid (fun W => lattice_any p0 p1 (wf_of (by omega) (by omega)) (wf_of (by omega) (by omega)) W)
  have hr : Rt (latA p0) (latA p1) := ⟨latA_range p0, latA_range p1⟩
  generalize latA p0 = la at *
  generalize latA p1 = lg at *
  obtain ⟨⟨l0, l1⟩, g0, g1⟩ := id hr
  have hT : Tm t := ⟨by omega, by omega⟩
  have hT2 : Tm (t + (la + lg)) := ⟨by omega, by omega⟩
  obtain ⟨n1, n2, n3⟩ := next_near (t := t) hr
  have hT3 : Tm (nextI la lg t) := ⟨by omega, by omega⟩
  have hq : -1099511637776 ≤ epI la lg t ∧ epI la lg t ≤ 1099511637776 := q_bound ⟨by omega, by omega⟩ (by omega)
  have ce := fun W => epoch_any la lg t W
  have cf := fun W => epoch_any la lg (t + (la + lg)) W
  have cn := fun W => next_any la lg t W
  have ca := fun W => active_any la lg (nextI la lg t) W
  rw [ep_ok hr hT, err_ok hr hT] at ce
  rw [ep_ok hr hT2, err_ok hr hT2, ep_step hr] at cf
  rw [next_ok hr hT, err_ok hr hT] at cn
  rw [act_ok hr hT3, decide_eq_true n3] at ca
  obtain ⟨SN, hSN⟩ : ∃ n : Nat, la + lg = (n : Int) := ⟨(la + lg).toNat, by omega⟩
  obtain ⟨TN, hTN⟩ : ∃ n : Nat, t = (n : Int) := ⟨t.toNat, by omega⟩
  have HCA : Hid (cntI la (la + lg) t SN = la) := Lib.hid (by rw [hSN, hTN]; exact cnt_all la SN (by omega) (by omega) TN)
  have HCB := Lib.hid (cnt_bound la (la + lg) t)
  have HCS : Hid (∀ k : Nat, cntI la (la + lg) t (k + 1) = cntI la (la + lg) t k + if (t + (k : Int)) % (la + lg) < la then 1 else 0) := Lib.hid (fun _ => rfl)
  have HGQ := Lib.hid (fun (k : Nat) (hk : t + k < nextI la lg t) => gap_quiet hr k hk)
  have CK : Hid (∀ k : Nat, k < SN → ∀ W : World, Calls Try.prog 24 #[lv la lg, .int .i64 (t + (k : Int))] W fun e w' => e = .returned (.bool (decide ((t + (k : Int)) % (la + lg) < la))) ∧ Below W.heap.size W w') := Lib.hid (fun k hk W => by
    have := active_any la lg (t + (k : Int)) W
    rw [act_ok hr (t := t + (k : Int)) ⟨by omega, by omega⟩] at this
    exact this)
  have CKS : Hid (∀ k : Nat, k < SN → ∀ W : World, Calls Try.prog 24 #[lv la lg, .int .i64 (t + (k : Int) + (la + lg))] W fun e w' => e = .returned (.bool (decide ((t + (k : Int)) % (la + lg) < la))) ∧ Below W.heap.size W w') := Lib.hid (fun k hk W => by
    have := active_any la lg (t + (k : Int) + (la + lg)) W
    rw [act_ok hr (t := t + (k : Int) + (la + lg)) ⟨by omega, by omega⟩, Int.add_emod_right] at this
    exact this)
  have HSN := Lib.hid hSN
  generalize nextI la lg t = N at *
  generalize epI la lg t = E at *
  have HE := Lib.hid hq
  obtain ⟨q0, q1⟩ := hq
  have CE := Lib.hid ce
  have CF := Lib.hid cf
  have CN := Lib.hid cn
  have CA := Lib.hid ca
  have CAW := Lib.hid (fun W => awake_any W)
  have hsn : (SN : Int) ≤ 20000 := by omega
  clear w0 w1 w2 hr hT hT2 hT3 n3 ce cf cn ca hTN hSN
  go_enter Try.func5, Try.ntmps5
  go_wp2_with fail
  (refine (CAW.out _).mono ?_); rintro e v1 ⟨rfl, b⟩
  have HB := Lib.hid b
  clear b
  go_wp2_with fail
  (with_reducible refine (P0.out _).mono ?_); rintro e v2 ⟨rfl, rfl⟩
  go_wp2_with fail
  (with_reducible refine (P1.out _).mono ?_); rintro e v3 ⟨rfl, rfl⟩
  go_wp2_with fail
  (refine (CL.out _).mono ?_); rintro e v4 ⟨rfl, b⟩
  replace HB := Lib.hid (HB.out.trans (b.mono HB.out.size))
  clear b
  have HL := Lib.hid (LtAt.new v4 la lg)
  replace HB := Lib.hid (HB.out.trans ((Joins.below_alloc1 v4 (.cells #[.int .i64 la, .int .i64 lg] 23)).mono HB.out.size))
  obtain ⟨y0, y1⟩ := HL.out.cells
  go_wp2_with fail
  (with_reducible refine (P2.out _).mono ?_); rintro e v5 ⟨rfl, rfl⟩
  go_wp2_with fail
  (with_reducible refine (CE.out _).mono ?_); rintro e v6 ⟨rfl, b⟩
  replace HB := Lib.hid (HB.out.trans (b.mono HB.out.size))
  replace HL := Lib.hid (HL.out.on b)
  clear y0 y1
  obtain ⟨y0, y1⟩ := HL.out.cells
  clear b
  go_wp2_with fail
  (with_reducible refine (CF.out _).mono ?_); rintro e v7 ⟨rfl, b⟩
  replace HB := Lib.hid (HB.out.trans (b.mono HB.out.size))
  replace HL := Lib.hid (HL.out.on b)
  clear y0 y1
  obtain ⟨y0, y1⟩ := HL.out.cells
  clear b
  go_wp2_with fail
  (with_reducible refine (CN.out _).mono ?_); rintro e v8 ⟨rfl, b⟩
  replace HB := Lib.hid (HB.out.trans (b.mono HB.out.size))
  replace HL := Lib.hid (HL.out.on b)
  clear y0 y1
  obtain ⟨y0, y1⟩ := HL.out.cells
  clear b
  go_wp2_with fail
  (with_reducible refine (CA.out _).mono ?_); rintro e v9 ⟨rfl, b⟩
  replace HB := Lib.hid (HB.out.trans (b.mono HB.out.size))
  replace HL := Lib.hid (HL.out.on b)
  clear y0 y1
  obtain ⟨y0, y1⟩ := HL.out.cells
  clear b
  obtain ⟨bl, hbl⟩ : ∃ b, v4.heap.size = b := ⟨_, rfl⟩
  rw [hbl] at HL y0 y1
  (try rw [hbl])
  go_wp2_with fail
  obtain ⟨V0, hV0⟩ : ∃ v, v = v9 := ⟨_, rfl⟩
  have HW0 := Lib.hid (Below.refl v9.heap.size v9)
  have HC0 : Hid (cntI la (la + lg) t 0 = 0) := Lib.hid rfl
  clear hV0 V0 y0 y1 CE CF CN CA CAW CL P0 P1 P2 HE q0 q1
  go_loopw [17, 18] (fun m i wr => ∃ k : Nat, k ≤ SN ∧ m = .int .i64 (cntI la (la + lg) t k) ∧ i = .int .i64 k ∧ Below v9.heap.size v9 wr) (fun _ i _ => SN - (intOf i).toNat)
  case atStart => exact ⟨0, by omega, by rw [HC0.out], rfl, HW0.out⟩
  case round =>
    obtain ⟨k, hk, rfl, rfl, hb⟩ := hrel
    have HL7 := Lib.hid (HL.out.on hb)
    have HB7 := Lib.hid hb
    obtain ⟨y0, y1⟩ := HL7.out.cells
    clear hb HW0 HC0
    obtain ⟨c0, c1⟩ := HCB.out k
    have HCN := Lib.hid (HCS.out k)
    obtain ⟨CK0, hCK0⟩ : ∃ c, cntI la (la + lg) t k = c := ⟨_, rfl⟩
    rw [hCK0] at HCN c0 c1
    by_cases hlt : k < SN
    · have hkI : (k : Int) < la + lg := by have := HSN.out; omega
      have CKb := Lib.hid (CK.out k hlt)
      have CKc := Lib.hid (CKS.out k hlt)
      have HQ := Lib.hid (HGQ.out k)
      rw [hCK0]
      clear CK CKS HGQ HCS HCB HCA hCK0
      by_cases hn : t + (k : Int) < N
      · have hm : ¬ (t + (k : Int)) % (la + lg) < la := by have := HQ.out hn; omega
        rw [decide_eq_false hm] at CKb CKc
        rw [if_neg hm, Int.add_zero] at HCN
        clear hm HQ
        go_wp2_with fail
        (with_reducible refine (CKb.out _).mono ?_); rintro e v10 ⟨rfl, b⟩
        have HL8 := Lib.hid (HL7.out.on b)
        have HB8 := Lib.hid (HB7.out.trans (b.mono HB7.out.size))
        clear b y0 y1
        go_upto_region 16 with fail
        generalize v10 = X1 at *
        clear HL7 HB7
        have HV : ∃ Vp : Nat → (Nat → Value) → World → Prop, Vp = (fun ix u wv => match ix with
          | 0 => u 0 = .int .i64 t
          | 1 => u 1 = .int .i64 (k : Int)
          | 2 => u 2 = .int .i64 (t + (k : Int))
          | 3 => u 3 = .int .i64 N
          | 4 => u 4 = .bool true
          | 5 => u 5 = .bool true
          | 6 => u 6 = .agg #[.int .i64 la, .int .i64 lg]
          | 7 => u 7 = .int .i64 t
          | 8 => u 8 = .int .i64 (k : Int)
          | 9 => u 9 = .int .i64 (t + (k : Int))
          | 10 => u 10 = .bool false
          | 11 => u 11 = .bool false
          | 12 => u 12 = .bool false
          | 13 => u 13 = .agg #[.int .i64 la, .int .i64 lg]
          | 14 => u 14 = .int .i64 t
          | 15 => u 15 = .int .i64 (k : Int)
          | 16 => u 16 = .int .i64 (t + (k : Int))
          | 17 => u 17 = .bool false
          | 18 => u 18 = .agg #[.int .i64 la, .int .i64 lg]
          | 19 => u 19 = .int .i64 t
          | 20 => u 20 = .int .i64 (k : Int)
          | 21 => u 21 = .int .i64 (t + (k : Int))
          | 22 => u 22 = .int .i64 (la + lg)
          | 23 => u 23 = .int .i64 (t + (k : Int) + (la + lg))
          | 24 => u 24 = .bool false
          | 25 => u 25 = .bool false
          | 26 => u 26 = .bool false
          | _ => True) := ⟨_, rfl⟩
        obtain ⟨Vp, hVdef⟩ := HV
        have Vp0 : ∀ u wv, Vp 0 u wv = (u 0 = .int .i64 t) := fun u wv => by subst hVdef; rfl
        have Vp1 : ∀ u wv, Vp 1 u wv = (u 1 = .int .i64 (k : Int)) := fun u wv => by subst hVdef; rfl
        have Vp2 : ∀ u wv, Vp 2 u wv = (u 2 = .int .i64 (t + (k : Int))) := fun u wv => by subst hVdef; rfl
        have Vp3 : ∀ u wv, Vp 3 u wv = (u 3 = .int .i64 N) := fun u wv => by subst hVdef; rfl
        have Vp4 : ∀ u wv, Vp 4 u wv = (u 4 = .bool true) := fun u wv => by subst hVdef; rfl
        have Vp5 : ∀ u wv, Vp 5 u wv = (u 5 = .bool true) := fun u wv => by subst hVdef; rfl
        have Vp6 : ∀ u wv, Vp 6 u wv = (u 6 = .agg #[.int .i64 la, .int .i64 lg]) := fun u wv => by subst hVdef; rfl
        have Vp7 : ∀ u wv, Vp 7 u wv = (u 7 = .int .i64 t) := fun u wv => by subst hVdef; rfl
        have Vp8 : ∀ u wv, Vp 8 u wv = (u 8 = .int .i64 (k : Int)) := fun u wv => by subst hVdef; rfl
        have Vp9 : ∀ u wv, Vp 9 u wv = (u 9 = .int .i64 (t + (k : Int))) := fun u wv => by subst hVdef; rfl
        have Vp10 : ∀ u wv, Vp 10 u wv = (u 10 = .bool false) := fun u wv => by subst hVdef; rfl
        have Vp11 : ∀ u wv, Vp 11 u wv = (u 11 = .bool false) := fun u wv => by subst hVdef; rfl
        have Vp12 : ∀ u wv, Vp 12 u wv = (u 12 = .bool false) := fun u wv => by subst hVdef; rfl
        have Vp13 : ∀ u wv, Vp 13 u wv = (u 13 = .agg #[.int .i64 la, .int .i64 lg]) := fun u wv => by subst hVdef; rfl
        have Vp14 : ∀ u wv, Vp 14 u wv = (u 14 = .int .i64 t) := fun u wv => by subst hVdef; rfl
        have Vp15 : ∀ u wv, Vp 15 u wv = (u 15 = .int .i64 (k : Int)) := fun u wv => by subst hVdef; rfl
        have Vp16 : ∀ u wv, Vp 16 u wv = (u 16 = .int .i64 (t + (k : Int))) := fun u wv => by subst hVdef; rfl
        have Vp17 : ∀ u wv, Vp 17 u wv = (u 17 = .bool false) := fun u wv => by subst hVdef; rfl
        have Vp18 : ∀ u wv, Vp 18 u wv = (u 18 = .agg #[.int .i64 la, .int .i64 lg]) := fun u wv => by subst hVdef; rfl
        have Vp19 : ∀ u wv, Vp 19 u wv = (u 19 = .int .i64 t) := fun u wv => by subst hVdef; rfl
        have Vp20 : ∀ u wv, Vp 20 u wv = (u 20 = .int .i64 (k : Int)) := fun u wv => by subst hVdef; rfl
        have Vp21 : ∀ u wv, Vp 21 u wv = (u 21 = .int .i64 (t + (k : Int))) := fun u wv => by subst hVdef; rfl
        have Vp22 : ∀ u wv, Vp 22 u wv = (u 22 = .int .i64 (la + lg)) := fun u wv => by subst hVdef; rfl
        have Vp23 : ∀ u wv, Vp 23 u wv = (u 23 = .int .i64 (t + (k : Int) + (la + lg))) := fun u wv => by subst hVdef; rfl
        have Vp24 : ∀ u wv, Vp 24 u wv = (u 24 = .bool false) := fun u wv => by subst hVdef; rfl
        have Vp25 : ∀ u wv, Vp 25 u wv = (u 25 = .bool false) := fun u wv => by subst hVdef; rfl
        have Vp26 : ∀ u wv, Vp 26 u wv = (u 26 = .bool false) := fun u wv => by subst hVdef; rfl
        have HVD := Lib.hid hVdef
        clear hVdef
        refine region_each (V := Vp) (drop := fun _ _ => false) (G := fun wv => Below X1.heap.size X1 wv) (Rel := fun jx wv wv' => Below wv.heap.size wv wv') (by kernel_rfl) (by kernel_rfl) (Below.refl _ _).drew ?hmonoq1 ?hdepq1 ⟨?s0_q1, ?s1_q1, ?s2_q1, ?s3_q1, ?s4_q1, ?s5_q1, ?s6_q1, ?s7_q1, ?s8_q1, ?s9_q1, ?s10_q1, ?s11_q1, ?s12_q1, ?s13_q1, ?s14_q1, ?s15_q1, ?s16_q1, ?s17_q1, ?s18_q1, ?s19_q1, ?s20_q1, ?s21_q1, ?s22_q1, ?s23_q1, ?s24_q1, ?s25_q1, ?s26_q1, trivial⟩ ?behindq1
        case hmonoq1 =>
          intro ix jx u wv wv' hij hw hd hr
          rw [HVD.out]
          dsimp only
          split <;> intro h <;> first | exact trivial | exact h
        case hdepq1 =>
          intro ix u u' wv h1 h2
          rw [HVD.out]
          dsimp only
          split <;> intro h <;> first | exact trivial | (rw [← h1]; exact h)
        case s0_q1 =>
          refine owe rfl fun a wx val hG hV hN hO K hK => ?_
          have e10 : a.tmps[10]? = some (.int .i64 t) := (hO 10 (by kernel_rfl)).trans (by rfl)
          clear hV hN hO
          go_simp
          exact hK.out _ _ (by rw [Vp0, upd_at] <;> (congr 1 <;> omega)) (Below.refl _ _) hG
        case s1_q1 =>
          refine owe rfl fun a wx val hG hV hN hO K hK => ?_
          have e18 : a.tmps[18]? = some (.int .i64 (k : Int)) := (hO 18 (by kernel_rfl)).trans (by rfl)
          clear hV hN hO
          go_simp
          exact hK.out _ _ (by rw [Vp1, upd_at] <;> (congr 1 <;> omega)) (Below.refl _ _) hG
        case s2_q1 =>
          refine owe rfl fun a wx val hG hV hN hO K hK => ?_
          have e99 := hN 0 99 (by kernel_rfl) (by kernel_rfl) (by simp)
          have f99 := hV 0 (by kernel_rfl) (by kernel_rfl)
          rw [Vp0] at f99; rw [f99] at e99; clear f99
          have e100 := hN 1 100 (by kernel_rfl) (by kernel_rfl) (by simp)
          have f100 := hV 1 (by kernel_rfl) (by kernel_rfl)
          rw [Vp1] at f100; rw [f100] at e100; clear f100
          clear hV hN hO
          have q1 : IntKind.i64.wrap (t + (k : Int)) = t + (k : Int) := IntWalk.i64_in _ (by omega)
          go_simp
          exact hK.out _ _ (by rw [Vp2, upd_at] <;> (congr 1 <;> omega)) (Below.refl _ _) hG
        case s3_q1 =>
          refine owe rfl fun a wx val hG hV hN hO K hK => ?_
          have e15 : a.tmps[15]? = some (.int .i64 N) := (hO 15 (by kernel_rfl)).trans (by rfl)
          clear hV hN hO
          go_simp
          exact hK.out _ _ (by rw [Vp3, upd_at] <;> (congr 1 <;> omega)) (Below.refl _ _) hG
        case s4_q1 =>
          refine owe rfl fun a wx val hG hV hN hO K hK => ?_
          have e101 := hN 2 101 (by kernel_rfl) (by kernel_rfl) (by simp)
          have f101 := hV 2 (by kernel_rfl) (by kernel_rfl)
          rw [Vp2] at f101; rw [f101] at e101; clear f101
          have e102 := hN 3 102 (by kernel_rfl) (by kernel_rfl) (by simp)
          have f102 := hV 3 (by kernel_rfl) (by kernel_rfl)
          rw [Vp3] at f102; rw [f102] at e102; clear f102
          clear hV hN hO
          have q1 : decide (t + (k : Int) < N) = true := by rw [decide_eq_true_iff]; omega
          go_simp
          exact hK.out _ _ (by rw [Vp4, upd_at] <;> (congr 1 <;> omega)) (Below.refl _ _) hG
        case s5_q1 =>
          refine owe rfl fun a wx val hG hV hN hO K hK => ?_
          have e103 := hN 4 103 (by kernel_rfl) (by kernel_rfl) (by simp)
          have f103 := hV 4 (by kernel_rfl) (by kernel_rfl)
          rw [Vp4] at f103; rw [f103] at e103; clear f103
          clear hV hN hO
          go_simp
          exact hK.out _ _ (by rw [Vp5, upd_at] <;> (congr 1 <;> omega)) (Below.refl _ _) hG
        case s6_q1 =>
          refine owe_if (g := 5) (t := 104) (b := true) rfl (by kernel_rfl) (by kernel_rfl) (by kernel_rfl) (by simp) (fun val w h => by rw [Vp5] at h; exact h) fun a wx val hG hV hN hO K hK => ?_
          have e8 : a.tmps[8]? = some (.pointer (some ⟨bl, 0, none⟩)) := (hO 8 (by kernel_rfl)).trans (by rfl)
          clear hV hN hO
          obtain ⟨y0, y1⟩ := (HL8.out.on hG).cells
          go_simp
          exact hK.out _ _ (by rw [Vp6, upd_at] <;> (congr 1 <;> omega)) (Below.refl _ _) hG
        case s7_q1 =>
          refine owe_if (g := 5) (t := 104) (b := true) rfl (by kernel_rfl) (by kernel_rfl) (by kernel_rfl) (by simp) (fun val w h => by rw [Vp5] at h; exact h) fun a wx val hG hV hN hO K hK => ?_
          have e10 : a.tmps[10]? = some (.int .i64 t) := (hO 10 (by kernel_rfl)).trans (by rfl)
          clear hV hN hO
          go_simp
          exact hK.out _ _ (by rw [Vp7, upd_at] <;> (congr 1 <;> omega)) (Below.refl _ _) hG
        case s8_q1 =>
          refine owe_if (g := 5) (t := 104) (b := true) rfl (by kernel_rfl) (by kernel_rfl) (by kernel_rfl) (by simp) (fun val w h => by rw [Vp5] at h; exact h) fun a wx val hG hV hN hO K hK => ?_
          have e18 : a.tmps[18]? = some (.int .i64 (k : Int)) := (hO 18 (by kernel_rfl)).trans (by rfl)
          clear hV hN hO
          go_simp
          exact hK.out _ _ (by rw [Vp8, upd_at] <;> (congr 1 <;> omega)) (Below.refl _ _) hG
        case s9_q1 =>
          refine owe_if (g := 5) (t := 104) (b := true) rfl (by kernel_rfl) (by kernel_rfl) (by kernel_rfl) (by simp) (fun val w h => by rw [Vp5] at h; exact h) fun a wx val hG hV hN hO K hK => ?_
          have e106 := hN 7 106 (by kernel_rfl) (by kernel_rfl) (by simp)
          have f106 := hV 7 (by kernel_rfl) (by kernel_rfl)
          rw [Vp7] at f106; rw [f106] at e106; clear f106
          have e107 := hN 8 107 (by kernel_rfl) (by kernel_rfl) (by simp)
          have f107 := hV 8 (by kernel_rfl) (by kernel_rfl)
          rw [Vp8] at f107; rw [f107] at e107; clear f107
          clear hV hN hO
          have q1 : IntKind.i64.wrap (t + (k : Int)) = t + (k : Int) := IntWalk.i64_in _ (by omega)
          go_simp
          exact hK.out _ _ (by rw [Vp9, upd_at] <;> (congr 1 <;> omega)) (Below.refl _ _) hG
        case s10_q1 =>
          refine owe_if (g := 5) (t := 104) (b := true) rfl (by kernel_rfl) (by kernel_rfl) (by kernel_rfl) (by simp) (fun val w h => by rw [Vp5] at h; exact h) fun a wx val hG hV hN hO K hK => ?_
          have e105 := hN 6 105 (by kernel_rfl) (by kernel_rfl) (by simp)
          have f105 := hV 6 (by kernel_rfl) (by kernel_rfl)
          rw [Vp6] at f105; rw [f105] at e105; clear f105
          have e108 := hN 9 108 (by kernel_rfl) (by kernel_rfl) (by simp)
          have f108 := hV 9 (by kernel_rfl) (by kernel_rfl)
          rw [Vp9] at f108; rw [f108] at e108; clear f108
          clear hV hN hO
          go_simp
          refine (CKb.out _).mono ?_
          rintro e w11 ⟨rfl, hb⟩
          exact hK.out _ _ (by rw [Vp10, upd_at]) hb (hG.trans (hb.mono hG.size))
        case s11_q1 =>
          refine owe rfl fun a wx val hG hV hN hO K hK => ?_
          have e104 := hN 5 104 (by kernel_rfl) (by kernel_rfl) (by simp)
          have f104 := hV 5 (by kernel_rfl) (by kernel_rfl)
          rw [Vp5] at f104; rw [f104] at e104; clear f104
          have e109 := hN 10 109 (by kernel_rfl) (by kernel_rfl) (by simp)
          have f109 := hV 10 (by kernel_rfl) (by kernel_rfl)
          rw [Vp10] at f109; rw [f109] at e109; clear f109
          clear hV hN hO
          go_simp
          exact hK.out _ _ (by rw [Vp11, upd_at] <;> (congr 1 <;> omega)) (Below.refl _ _) hG
        case s12_q1 =>
          refine owe rfl fun a wx val hG hV hN hO K hK => ?_
          have e110 := hN 11 110 (by kernel_rfl) (by kernel_rfl) (by simp)
          have f110 := hV 11 (by kernel_rfl) (by kernel_rfl)
          rw [Vp11] at f110; rw [f110] at e110; clear f110
          clear hV hN hO
          go_simp
          exact hK.out _ _ (by rw [Vp12, upd_at] <;> (congr 1 <;> omega)) (Below.refl _ _) hG
        case s13_q1 =>
          refine owe_if (g := 12) (t := 111) (b := false) rfl (by kernel_rfl) (by kernel_rfl) (by kernel_rfl) (by simp) (fun val w h => by rw [Vp12] at h; exact h) fun a wx val hG hV hN hO K hK => ?_
          have e8 : a.tmps[8]? = some (.pointer (some ⟨bl, 0, none⟩)) := (hO 8 (by kernel_rfl)).trans (by rfl)
          clear hV hN hO
          obtain ⟨y0, y1⟩ := (HL8.out.on hG).cells
          go_simp
          exact hK.out _ _ (by rw [Vp13, upd_at] <;> (congr 1 <;> omega)) (Below.refl _ _) hG
        case s14_q1 =>
          refine owe_if (g := 12) (t := 111) (b := false) rfl (by kernel_rfl) (by kernel_rfl) (by kernel_rfl) (by simp) (fun val w h => by rw [Vp12] at h; exact h) fun a wx val hG hV hN hO K hK => ?_
          have e10 : a.tmps[10]? = some (.int .i64 t) := (hO 10 (by kernel_rfl)).trans (by rfl)
          clear hV hN hO
          go_simp
          exact hK.out _ _ (by rw [Vp14, upd_at] <;> (congr 1 <;> omega)) (Below.refl _ _) hG
        case s15_q1 =>
          refine owe_if (g := 12) (t := 111) (b := false) rfl (by kernel_rfl) (by kernel_rfl) (by kernel_rfl) (by simp) (fun val w h => by rw [Vp12] at h; exact h) fun a wx val hG hV hN hO K hK => ?_
          have e18 : a.tmps[18]? = some (.int .i64 (k : Int)) := (hO 18 (by kernel_rfl)).trans (by rfl)
          clear hV hN hO
          go_simp
          exact hK.out _ _ (by rw [Vp15, upd_at] <;> (congr 1 <;> omega)) (Below.refl _ _) hG
        case s16_q1 =>
          refine owe_if (g := 12) (t := 111) (b := false) rfl (by kernel_rfl) (by kernel_rfl) (by kernel_rfl) (by simp) (fun val w h => by rw [Vp12] at h; exact h) fun a wx val hG hV hN hO K hK => ?_
          have e113 := hN 14 113 (by kernel_rfl) (by kernel_rfl) (by simp)
          have f113 := hV 14 (by kernel_rfl) (by kernel_rfl)
          rw [Vp14] at f113; rw [f113] at e113; clear f113
          have e114 := hN 15 114 (by kernel_rfl) (by kernel_rfl) (by simp)
          have f114 := hV 15 (by kernel_rfl) (by kernel_rfl)
          rw [Vp15] at f114; rw [f114] at e114; clear f114
          clear hV hN hO
          have q1 : IntKind.i64.wrap (t + (k : Int)) = t + (k : Int) := IntWalk.i64_in _ (by omega)
          go_simp
          exact hK.out _ _ (by rw [Vp16, upd_at] <;> (congr 1 <;> omega)) (Below.refl _ _) hG
        case s17_q1 =>
          refine owe_if (g := 12) (t := 111) (b := false) rfl (by kernel_rfl) (by kernel_rfl) (by kernel_rfl) (by simp) (fun val w h => by rw [Vp12] at h; exact h) fun a wx val hG hV hN hO K hK => ?_
          have e112 := hN 13 112 (by kernel_rfl) (by kernel_rfl) (by simp)
          have f112 := hV 13 (by kernel_rfl) (by kernel_rfl)
          rw [Vp13] at f112; rw [f112] at e112; clear f112
          have e115 := hN 16 115 (by kernel_rfl) (by kernel_rfl) (by simp)
          have f115 := hV 16 (by kernel_rfl) (by kernel_rfl)
          rw [Vp16] at f115; rw [f115] at e115; clear f115
          clear hV hN hO
          go_simp
          refine (CKb.out _).mono ?_
          rintro e w11 ⟨rfl, hb⟩
          exact hK.out _ _ (by rw [Vp17, upd_at]) hb (hG.trans (hb.mono hG.size))
        case s18_q1 =>
          refine owe_if (g := 12) (t := 111) (b := false) rfl (by kernel_rfl) (by kernel_rfl) (by kernel_rfl) (by simp) (fun val w h => by rw [Vp12] at h; exact h) fun a wx val hG hV hN hO K hK => ?_
          have e8 : a.tmps[8]? = some (.pointer (some ⟨bl, 0, none⟩)) := (hO 8 (by kernel_rfl)).trans (by rfl)
          clear hV hN hO
          obtain ⟨y0, y1⟩ := (HL8.out.on hG).cells
          go_simp
          exact hK.out _ _ (by rw [Vp18, upd_at] <;> (congr 1 <;> omega)) (Below.refl _ _) hG
        case s19_q1 =>
          refine owe_if (g := 12) (t := 111) (b := false) rfl (by kernel_rfl) (by kernel_rfl) (by kernel_rfl) (by simp) (fun val w h => by rw [Vp12] at h; exact h) fun a wx val hG hV hN hO K hK => ?_
          have e10 : a.tmps[10]? = some (.int .i64 t) := (hO 10 (by kernel_rfl)).trans (by rfl)
          clear hV hN hO
          go_simp
          exact hK.out _ _ (by rw [Vp19, upd_at] <;> (congr 1 <;> omega)) (Below.refl _ _) hG
        case s20_q1 =>
          refine owe_if (g := 12) (t := 111) (b := false) rfl (by kernel_rfl) (by kernel_rfl) (by kernel_rfl) (by simp) (fun val w h => by rw [Vp12] at h; exact h) fun a wx val hG hV hN hO K hK => ?_
          have e18 : a.tmps[18]? = some (.int .i64 (k : Int)) := (hO 18 (by kernel_rfl)).trans (by rfl)
          clear hV hN hO
          go_simp
          exact hK.out _ _ (by rw [Vp20, upd_at] <;> (congr 1 <;> omega)) (Below.refl _ _) hG
        case s21_q1 =>
          refine owe_if (g := 12) (t := 111) (b := false) rfl (by kernel_rfl) (by kernel_rfl) (by kernel_rfl) (by simp) (fun val w h => by rw [Vp12] at h; exact h) fun a wx val hG hV hN hO K hK => ?_
          have e118 := hN 19 118 (by kernel_rfl) (by kernel_rfl) (by simp)
          have f118 := hV 19 (by kernel_rfl) (by kernel_rfl)
          rw [Vp19] at f118; rw [f118] at e118; clear f118
          have e119 := hN 20 119 (by kernel_rfl) (by kernel_rfl) (by simp)
          have f119 := hV 20 (by kernel_rfl) (by kernel_rfl)
          rw [Vp20] at f119; rw [f119] at e119; clear f119
          clear hV hN hO
          have q1 : IntKind.i64.wrap (t + (k : Int)) = t + (k : Int) := IntWalk.i64_in _ (by omega)
          go_simp
          exact hK.out _ _ (by rw [Vp21, upd_at] <;> (congr 1 <;> omega)) (Below.refl _ _) hG
        case s22_q1 =>
          refine owe_if (g := 12) (t := 111) (b := false) rfl (by kernel_rfl) (by kernel_rfl) (by kernel_rfl) (by simp) (fun val w h => by rw [Vp12] at h; exact h) fun a wx val hG hV hN hO K hK => ?_
          have e9 : a.tmps[9]? = some (.int .i64 (la + lg)) := (hO 9 (by kernel_rfl)).trans (by rfl)
          clear hV hN hO
          go_simp
          exact hK.out _ _ (by rw [Vp22, upd_at] <;> (congr 1 <;> omega)) (Below.refl _ _) hG
        case s23_q1 =>
          refine owe_if (g := 12) (t := 111) (b := false) rfl (by kernel_rfl) (by kernel_rfl) (by kernel_rfl) (by simp) (fun val w h => by rw [Vp12] at h; exact h) fun a wx val hG hV hN hO K hK => ?_
          have e120 := hN 21 120 (by kernel_rfl) (by kernel_rfl) (by simp)
          have f120 := hV 21 (by kernel_rfl) (by kernel_rfl)
          rw [Vp21] at f120; rw [f120] at e120; clear f120
          have e121 := hN 22 121 (by kernel_rfl) (by kernel_rfl) (by simp)
          have f121 := hV 22 (by kernel_rfl) (by kernel_rfl)
          rw [Vp22] at f121; rw [f121] at e121; clear f121
          clear hV hN hO
          have q1 : IntKind.i64.wrap (t + (k : Int) + (la + lg)) = t + (k : Int) + (la + lg) := IntWalk.i64_in _ (by omega)
          go_simp
          exact hK.out _ _ (by rw [Vp23, upd_at] <;> (congr 1 <;> omega)) (Below.refl _ _) hG
        case s24_q1 =>
          refine owe_if (g := 12) (t := 111) (b := false) rfl (by kernel_rfl) (by kernel_rfl) (by kernel_rfl) (by simp) (fun val w h => by rw [Vp12] at h; exact h) fun a wx val hG hV hN hO K hK => ?_
          have e117 := hN 18 117 (by kernel_rfl) (by kernel_rfl) (by simp)
          have f117 := hV 18 (by kernel_rfl) (by kernel_rfl)
          rw [Vp18] at f117; rw [f117] at e117; clear f117
          have e122 := hN 23 122 (by kernel_rfl) (by kernel_rfl) (by simp)
          have f122 := hV 23 (by kernel_rfl) (by kernel_rfl)
          rw [Vp23] at f122; rw [f122] at e122; clear f122
          clear hV hN hO
          go_simp
          refine (CKc.out _).mono ?_
          rintro e w11 ⟨rfl, hb⟩
          exact hK.out _ _ (by rw [Vp24, upd_at]) hb (hG.trans (hb.mono hG.size))
        case s25_q1 =>
          refine owe_if (g := 12) (t := 111) (b := false) rfl (by kernel_rfl) (by kernel_rfl) (by kernel_rfl) (by simp) (fun val w h => by rw [Vp12] at h; exact h) fun a wx val hG hV hN hO K hK => ?_
          have e116 := hN 17 116 (by kernel_rfl) (by kernel_rfl) (by simp)
          have f116 := hV 17 (by kernel_rfl) (by kernel_rfl)
          rw [Vp17] at f116; rw [f116] at e116; clear f116
          have e123 := hN 24 123 (by kernel_rfl) (by kernel_rfl) (by simp)
          have f123 := hV 24 (by kernel_rfl) (by kernel_rfl)
          rw [Vp24] at f123; rw [f123] at e123; clear f123
          clear hV hN hO
          go_simp
          exact hK.out _ _ (by rw [Vp25, upd_at] <;> (congr 1 <;> omega)) (Below.refl _ _) hG
        case s26_q1 =>
          refine owe rfl fun a wx val hG hV hN hO K hK => ?_
          have e111 := hN 12 111 (by kernel_rfl) (by kernel_rfl) (by simp)
          have f111 := hV 12 (by kernel_rfl) (by kernel_rfl)
          rw [Vp12] at f111; rw [f111] at e111; clear f111
          have e124 := hN 25 124 (by kernel_rfl) (by kernel_rfl) (by simp)
          have f124 := hV 25 (by kernel_rfl) (by kernel_rfl)
          rw [Vp25] at f124; rw [f124] at e124; clear f124
          clear hV hN hO
          go_simp
          exact hK.out _ _ (by rw [Vp26, upd_at] <;> (congr 1 <;> omega)) (Below.refl _ _) hG
        intro val wx hG hV
        have f0 := hV 0 (by simp) (fun _ _ => by rfl)
        rw [Vp0] at f0
        have f1 := hV 1 (by simp) (fun _ _ => by rfl)
        rw [Vp1] at f1
        have f2 := hV 2 (by simp) (fun _ _ => by rfl)
        rw [Vp2] at f2
        have f3 := hV 3 (by simp) (fun _ _ => by rfl)
        rw [Vp3] at f3
        have f4 := hV 4 (by simp) (fun _ _ => by rfl)
        rw [Vp4] at f4
        have f5 := hV 5 (by simp) (fun _ _ => by rfl)
        rw [Vp5] at f5
        have f6 := hV 6 (by simp) (fun _ _ => by rfl)
        rw [Vp6] at f6
        have f7 := hV 7 (by simp) (fun _ _ => by rfl)
        rw [Vp7] at f7
        have f8 := hV 8 (by simp) (fun _ _ => by rfl)
        rw [Vp8] at f8
        have f9 := hV 9 (by simp) (fun _ _ => by rfl)
        rw [Vp9] at f9
        have f10 := hV 10 (by simp) (fun _ _ => by rfl)
        rw [Vp10] at f10
        have f11 := hV 11 (by simp) (fun _ _ => by rfl)
        rw [Vp11] at f11
        have f12 := hV 12 (by simp) (fun _ _ => by rfl)
        rw [Vp12] at f12
        have f13 := hV 13 (by simp) (fun _ _ => by rfl)
        rw [Vp13] at f13
        have f14 := hV 14 (by simp) (fun _ _ => by rfl)
        rw [Vp14] at f14
        have f15 := hV 15 (by simp) (fun _ _ => by rfl)
        rw [Vp15] at f15
        have f16 := hV 16 (by simp) (fun _ _ => by rfl)
        rw [Vp16] at f16
        have f17 := hV 17 (by simp) (fun _ _ => by rfl)
        rw [Vp17] at f17
        have f18 := hV 18 (by simp) (fun _ _ => by rfl)
        rw [Vp18] at f18
        have f19 := hV 19 (by simp) (fun _ _ => by rfl)
        rw [Vp19] at f19
        have f20 := hV 20 (by simp) (fun _ _ => by rfl)
        rw [Vp20] at f20
        have f21 := hV 21 (by simp) (fun _ _ => by rfl)
        rw [Vp21] at f21
        have f22 := hV 22 (by simp) (fun _ _ => by rfl)
        rw [Vp22] at f22
        have f23 := hV 23 (by simp) (fun _ _ => by rfl)
        rw [Vp23] at f23
        have f24 := hV 24 (by simp) (fun _ _ => by rfl)
        rw [Vp24] at f24
        have f25 := hV 25 (by simp) (fun _ _ => by rfl)
        rw [Vp25] at f25
        have f26 := hV 26 (by simp) (fun _ _ => by rfl)
        rw [Vp26] at f26
        clear hV Vp0 Vp1 Vp2 Vp3 Vp4 Vp5 Vp6 Vp7 Vp8 Vp9 Vp10 Vp11 Vp12 Vp13 Vp14 Vp15 Vp16 Vp17 Vp18 Vp19 Vp20 Vp21 Vp22 Vp23 Vp24 Vp25 Vp26
        simp only [putAll, Act.put, List.setIfInBounds_toArray, List.set_cons_zero, List.set_cons_succ]
        generalize val 0 = z0 at *; (subst f0)
        generalize val 1 = z1 at *; (subst f1)
        generalize val 2 = z2 at *; (subst f2)
        generalize val 3 = z3 at *; (subst f3)
        generalize val 4 = z4 at *; (subst f4)
        generalize val 5 = z5 at *; (subst f5)
        generalize val 6 = z6 at *; (subst f6)
        generalize val 7 = z7 at *; (subst f7)
        generalize val 8 = z8 at *; (subst f8)
        generalize val 9 = z9 at *; (subst f9)
        generalize val 10 = z10 at *; (subst f10)
        generalize val 11 = z11 at *; (subst f11)
        generalize val 12 = z12 at *; (subst f12)
        generalize val 13 = z13 at *; (subst f13)
        generalize val 14 = z14 at *; (subst f14)
        generalize val 15 = z15 at *; (subst f15)
        generalize val 16 = z16 at *; (subst f16)
        generalize val 17 = z17 at *; (subst f17)
        generalize val 18 = z18 at *; (subst f18)
        generalize val 19 = z19 at *; (subst f19)
        generalize val 20 = z20 at *; (subst f20)
        generalize val 21 = z21 at *; (subst f21)
        generalize val 22 = z22 at *; (subst f22)
        generalize val 23 = z23 at *; (subst f23)
        generalize val 24 = z24 at *; (subst f24)
        generalize val 25 = z25 at *; (subst f25)
        generalize val 26 = z26 at *; (subst f26)
        clear HVD
        have HB9 := Lib.hid (HB8.out.trans (hG.mono HB8.out.size))
        clear hG HL8 HB8
        go_wp2_with fail
        go_roundw
        case rel => exact ⟨k + 1, by omega, by rw [HCN.out], by go_num, HB9.out⟩
        case measure => simp [intOf]; omega
      · by_cases hm : (t + (k : Int)) % (la + lg) < la
        · rw [decide_eq_true hm] at CKb CKc
          rw [if_pos hm] at HCN
          clear hm HQ
          go_wp2_with fail
          (with_reducible refine (CKb.out _).mono ?_); rintro e v10 ⟨rfl, b⟩
          have HL8 := Lib.hid (HL7.out.on b)
          have HB8 := Lib.hid (HB7.out.trans (b.mono HB7.out.size))
          clear b y0 y1
          go_upto_region 16 with fail
          generalize v10 = X1 at *
          clear HL7 HB7
          have HV : ∃ Vp : Nat → (Nat → Value) → World → Prop, Vp = (fun ix u wv => match ix with
            | 0 => u 0 = .int .i64 t
            | 1 => u 1 = .int .i64 (k : Int)
            | 2 => u 2 = .int .i64 (t + (k : Int))
            | 3 => u 3 = .int .i64 N
            | 4 => u 4 = .bool false
            | 5 => u 5 = .bool false
            | 6 => u 6 = undef
            | 7 => u 7 = undef
            | 8 => u 8 = undef
            | 9 => u 9 = undef
            | 10 => u 10 = undef
            | 11 => u 11 = .bool false
            | 12 => u 12 = .bool false
            | 13 => u 13 = .agg #[.int .i64 la, .int .i64 lg]
            | 14 => u 14 = .int .i64 t
            | 15 => u 15 = .int .i64 (k : Int)
            | 16 => u 16 = .int .i64 (t + (k : Int))
            | 17 => u 17 = .bool true
            | 18 => u 18 = .agg #[.int .i64 la, .int .i64 lg]
            | 19 => u 19 = .int .i64 t
            | 20 => u 20 = .int .i64 (k : Int)
            | 21 => u 21 = .int .i64 (t + (k : Int))
            | 22 => u 22 = .int .i64 (la + lg)
            | 23 => u 23 = .int .i64 (t + (k : Int) + (la + lg))
            | 24 => u 24 = .bool true
            | 25 => u 25 = .bool false
            | 26 => u 26 = .bool false
            | _ => True) := ⟨_, rfl⟩
          obtain ⟨Vp, hVdef⟩ := HV
          have Vp0 : ∀ u wv, Vp 0 u wv = (u 0 = .int .i64 t) := fun u wv => by subst hVdef; rfl
          have Vp1 : ∀ u wv, Vp 1 u wv = (u 1 = .int .i64 (k : Int)) := fun u wv => by subst hVdef; rfl
          have Vp2 : ∀ u wv, Vp 2 u wv = (u 2 = .int .i64 (t + (k : Int))) := fun u wv => by subst hVdef; rfl
          have Vp3 : ∀ u wv, Vp 3 u wv = (u 3 = .int .i64 N) := fun u wv => by subst hVdef; rfl
          have Vp4 : ∀ u wv, Vp 4 u wv = (u 4 = .bool false) := fun u wv => by subst hVdef; rfl
          have Vp5 : ∀ u wv, Vp 5 u wv = (u 5 = .bool false) := fun u wv => by subst hVdef; rfl
          have Vp6 : ∀ u wv, Vp 6 u wv = (u 6 = undef) := fun u wv => by subst hVdef; rfl
          have Vp7 : ∀ u wv, Vp 7 u wv = (u 7 = undef) := fun u wv => by subst hVdef; rfl
          have Vp8 : ∀ u wv, Vp 8 u wv = (u 8 = undef) := fun u wv => by subst hVdef; rfl
          have Vp9 : ∀ u wv, Vp 9 u wv = (u 9 = undef) := fun u wv => by subst hVdef; rfl
          have Vp10 : ∀ u wv, Vp 10 u wv = (u 10 = undef) := fun u wv => by subst hVdef; rfl
          have Vp11 : ∀ u wv, Vp 11 u wv = (u 11 = .bool false) := fun u wv => by subst hVdef; rfl
          have Vp12 : ∀ u wv, Vp 12 u wv = (u 12 = .bool false) := fun u wv => by subst hVdef; rfl
          have Vp13 : ∀ u wv, Vp 13 u wv = (u 13 = .agg #[.int .i64 la, .int .i64 lg]) := fun u wv => by subst hVdef; rfl
          have Vp14 : ∀ u wv, Vp 14 u wv = (u 14 = .int .i64 t) := fun u wv => by subst hVdef; rfl
          have Vp15 : ∀ u wv, Vp 15 u wv = (u 15 = .int .i64 (k : Int)) := fun u wv => by subst hVdef; rfl
          have Vp16 : ∀ u wv, Vp 16 u wv = (u 16 = .int .i64 (t + (k : Int))) := fun u wv => by subst hVdef; rfl
          have Vp17 : ∀ u wv, Vp 17 u wv = (u 17 = .bool true) := fun u wv => by subst hVdef; rfl
          have Vp18 : ∀ u wv, Vp 18 u wv = (u 18 = .agg #[.int .i64 la, .int .i64 lg]) := fun u wv => by subst hVdef; rfl
          have Vp19 : ∀ u wv, Vp 19 u wv = (u 19 = .int .i64 t) := fun u wv => by subst hVdef; rfl
          have Vp20 : ∀ u wv, Vp 20 u wv = (u 20 = .int .i64 (k : Int)) := fun u wv => by subst hVdef; rfl
          have Vp21 : ∀ u wv, Vp 21 u wv = (u 21 = .int .i64 (t + (k : Int))) := fun u wv => by subst hVdef; rfl
          have Vp22 : ∀ u wv, Vp 22 u wv = (u 22 = .int .i64 (la + lg)) := fun u wv => by subst hVdef; rfl
          have Vp23 : ∀ u wv, Vp 23 u wv = (u 23 = .int .i64 (t + (k : Int) + (la + lg))) := fun u wv => by subst hVdef; rfl
          have Vp24 : ∀ u wv, Vp 24 u wv = (u 24 = .bool true) := fun u wv => by subst hVdef; rfl
          have Vp25 : ∀ u wv, Vp 25 u wv = (u 25 = .bool false) := fun u wv => by subst hVdef; rfl
          have Vp26 : ∀ u wv, Vp 26 u wv = (u 26 = .bool false) := fun u wv => by subst hVdef; rfl
          have HVD := Lib.hid hVdef
          clear hVdef
          refine region_each (V := Vp) (drop := fun _ _ => false) (G := fun wv => Below X1.heap.size X1 wv) (Rel := fun jx wv wv' => Below wv.heap.size wv wv') (by kernel_rfl) (by kernel_rfl) (Below.refl _ _).drew ?hmonoq2 ?hdepq2 ⟨?s0_q2, ?s1_q2, ?s2_q2, ?s3_q2, ?s4_q2, ?s5_q2, ?s6_q2, ?s7_q2, ?s8_q2, ?s9_q2, ?s10_q2, ?s11_q2, ?s12_q2, ?s13_q2, ?s14_q2, ?s15_q2, ?s16_q2, ?s17_q2, ?s18_q2, ?s19_q2, ?s20_q2, ?s21_q2, ?s22_q2, ?s23_q2, ?s24_q2, ?s25_q2, ?s26_q2, trivial⟩ ?behindq2
          case hmonoq2 =>
            intro ix jx u wv wv' hij hw hd hr
            rw [HVD.out]
            dsimp only
            split <;> intro h <;> first | exact trivial | exact h
          case hdepq2 =>
            intro ix u u' wv h1 h2
            rw [HVD.out]
            dsimp only
            split <;> intro h <;> first | exact trivial | (rw [← h1]; exact h)
          case s0_q2 =>
            refine owe rfl fun a wx val hG hV hN hO K hK => ?_
            have e10 : a.tmps[10]? = some (.int .i64 t) := (hO 10 (by kernel_rfl)).trans (by rfl)
            clear hV hN hO
            go_simp
            exact hK.out _ _ (by rw [Vp0, upd_at] <;> (congr 1 <;> omega)) (Below.refl _ _) hG
          case s1_q2 =>
            refine owe rfl fun a wx val hG hV hN hO K hK => ?_
            have e18 : a.tmps[18]? = some (.int .i64 (k : Int)) := (hO 18 (by kernel_rfl)).trans (by rfl)
            clear hV hN hO
            go_simp
            exact hK.out _ _ (by rw [Vp1, upd_at] <;> (congr 1 <;> omega)) (Below.refl _ _) hG
          case s2_q2 =>
            refine owe rfl fun a wx val hG hV hN hO K hK => ?_
            have e99 := hN 0 99 (by kernel_rfl) (by kernel_rfl) (by simp)
            have f99 := hV 0 (by kernel_rfl) (by kernel_rfl)
            rw [Vp0] at f99; rw [f99] at e99; clear f99
            have e100 := hN 1 100 (by kernel_rfl) (by kernel_rfl) (by simp)
            have f100 := hV 1 (by kernel_rfl) (by kernel_rfl)
            rw [Vp1] at f100; rw [f100] at e100; clear f100
            clear hV hN hO
            have q1 : IntKind.i64.wrap (t + (k : Int)) = t + (k : Int) := IntWalk.i64_in _ (by omega)
            go_simp
            exact hK.out _ _ (by rw [Vp2, upd_at] <;> (congr 1 <;> omega)) (Below.refl _ _) hG
          case s3_q2 =>
            refine owe rfl fun a wx val hG hV hN hO K hK => ?_
            have e15 : a.tmps[15]? = some (.int .i64 N) := (hO 15 (by kernel_rfl)).trans (by rfl)
            clear hV hN hO
            go_simp
            exact hK.out _ _ (by rw [Vp3, upd_at] <;> (congr 1 <;> omega)) (Below.refl _ _) hG
          case s4_q2 =>
            refine owe rfl fun a wx val hG hV hN hO K hK => ?_
            have e101 := hN 2 101 (by kernel_rfl) (by kernel_rfl) (by simp)
            have f101 := hV 2 (by kernel_rfl) (by kernel_rfl)
            rw [Vp2] at f101; rw [f101] at e101; clear f101
            have e102 := hN 3 102 (by kernel_rfl) (by kernel_rfl) (by simp)
            have f102 := hV 3 (by kernel_rfl) (by kernel_rfl)
            rw [Vp3] at f102; rw [f102] at e102; clear f102
            clear hV hN hO
            have q1 : decide (t + (k : Int) < N) = false := by rw [decide_eq_false_iff_not]; omega
            go_simp
            exact hK.out _ _ (by rw [Vp4, upd_at] <;> (congr 1 <;> omega)) (Below.refl _ _) hG
          case s5_q2 =>
            refine owe rfl fun a wx val hG hV hN hO K hK => ?_
            have e103 := hN 4 103 (by kernel_rfl) (by kernel_rfl) (by simp)
            have f103 := hV 4 (by kernel_rfl) (by kernel_rfl)
            rw [Vp4] at f103; rw [f103] at e103; clear f103
            clear hV hN hO
            go_simp
            exact hK.out _ _ (by rw [Vp5, upd_at] <;> (congr 1 <;> omega)) (Below.refl _ _) hG
          case s6_q2 =>
            exact owe_skip (g := 5) (t := 104) (b := true) (c := false) rfl (by kernel_rfl) (by kernel_rfl) (by kernel_rfl) (by simp) (fun val w h => by rw [Vp5] at h; exact h) (by decide) (fun val w => by rw [Vp6, upd_at])
          case s7_q2 =>
            exact owe_skip (g := 5) (t := 104) (b := true) (c := false) rfl (by kernel_rfl) (by kernel_rfl) (by kernel_rfl) (by simp) (fun val w h => by rw [Vp5] at h; exact h) (by decide) (fun val w => by rw [Vp7, upd_at])
          case s8_q2 =>
            exact owe_skip (g := 5) (t := 104) (b := true) (c := false) rfl (by kernel_rfl) (by kernel_rfl) (by kernel_rfl) (by simp) (fun val w h => by rw [Vp5] at h; exact h) (by decide) (fun val w => by rw [Vp8, upd_at])
          case s9_q2 =>
            exact owe_skip (g := 5) (t := 104) (b := true) (c := false) rfl (by kernel_rfl) (by kernel_rfl) (by kernel_rfl) (by simp) (fun val w h => by rw [Vp5] at h; exact h) (by decide) (fun val w => by rw [Vp9, upd_at])
          case s10_q2 =>
            exact owe_skip (g := 5) (t := 104) (b := true) (c := false) rfl (by kernel_rfl) (by kernel_rfl) (by kernel_rfl) (by simp) (fun val w h => by rw [Vp5] at h; exact h) (by decide) (fun val w => by rw [Vp10, upd_at])
          case s11_q2 =>
            refine owe rfl fun a wx val hG hV hN hO K hK => ?_
            have e104 := hN 5 104 (by kernel_rfl) (by kernel_rfl) (by simp)
            have f104 := hV 5 (by kernel_rfl) (by kernel_rfl)
            rw [Vp5] at f104; rw [f104] at e104; clear f104
            have e109 := hN 10 109 (by kernel_rfl) (by kernel_rfl) (by simp)
            have f109 := hV 10 (by kernel_rfl) (by kernel_rfl)
            rw [Vp10] at f109; rw [f109] at e109; clear f109
            clear hV hN hO
            go_simp
            exact hK.out _ _ (by rw [Vp11, upd_at] <;> (congr 1 <;> omega)) (Below.refl _ _) hG
          case s12_q2 =>
            refine owe rfl fun a wx val hG hV hN hO K hK => ?_
            have e110 := hN 11 110 (by kernel_rfl) (by kernel_rfl) (by simp)
            have f110 := hV 11 (by kernel_rfl) (by kernel_rfl)
            rw [Vp11] at f110; rw [f110] at e110; clear f110
            clear hV hN hO
            go_simp
            exact hK.out _ _ (by rw [Vp12, upd_at] <;> (congr 1 <;> omega)) (Below.refl _ _) hG
          case s13_q2 =>
            refine owe_if (g := 12) (t := 111) (b := false) rfl (by kernel_rfl) (by kernel_rfl) (by kernel_rfl) (by simp) (fun val w h => by rw [Vp12] at h; exact h) fun a wx val hG hV hN hO K hK => ?_
            have e8 : a.tmps[8]? = some (.pointer (some ⟨bl, 0, none⟩)) := (hO 8 (by kernel_rfl)).trans (by rfl)
            clear hV hN hO
            obtain ⟨y0, y1⟩ := (HL8.out.on hG).cells
            go_simp
            exact hK.out _ _ (by rw [Vp13, upd_at] <;> (congr 1 <;> omega)) (Below.refl _ _) hG
          case s14_q2 =>
            refine owe_if (g := 12) (t := 111) (b := false) rfl (by kernel_rfl) (by kernel_rfl) (by kernel_rfl) (by simp) (fun val w h => by rw [Vp12] at h; exact h) fun a wx val hG hV hN hO K hK => ?_
            have e10 : a.tmps[10]? = some (.int .i64 t) := (hO 10 (by kernel_rfl)).trans (by rfl)
            clear hV hN hO
            go_simp
            exact hK.out _ _ (by rw [Vp14, upd_at] <;> (congr 1 <;> omega)) (Below.refl _ _) hG
          case s15_q2 =>
            refine owe_if (g := 12) (t := 111) (b := false) rfl (by kernel_rfl) (by kernel_rfl) (by kernel_rfl) (by simp) (fun val w h => by rw [Vp12] at h; exact h) fun a wx val hG hV hN hO K hK => ?_
            have e18 : a.tmps[18]? = some (.int .i64 (k : Int)) := (hO 18 (by kernel_rfl)).trans (by rfl)
            clear hV hN hO
            go_simp
            exact hK.out _ _ (by rw [Vp15, upd_at] <;> (congr 1 <;> omega)) (Below.refl _ _) hG
          case s16_q2 =>
            refine owe_if (g := 12) (t := 111) (b := false) rfl (by kernel_rfl) (by kernel_rfl) (by kernel_rfl) (by simp) (fun val w h => by rw [Vp12] at h; exact h) fun a wx val hG hV hN hO K hK => ?_
            have e113 := hN 14 113 (by kernel_rfl) (by kernel_rfl) (by simp)
            have f113 := hV 14 (by kernel_rfl) (by kernel_rfl)
            rw [Vp14] at f113; rw [f113] at e113; clear f113
            have e114 := hN 15 114 (by kernel_rfl) (by kernel_rfl) (by simp)
            have f114 := hV 15 (by kernel_rfl) (by kernel_rfl)
            rw [Vp15] at f114; rw [f114] at e114; clear f114
            clear hV hN hO
            have q1 : IntKind.i64.wrap (t + (k : Int)) = t + (k : Int) := IntWalk.i64_in _ (by omega)
            go_simp
            exact hK.out _ _ (by rw [Vp16, upd_at] <;> (congr 1 <;> omega)) (Below.refl _ _) hG
          case s17_q2 =>
            refine owe_if (g := 12) (t := 111) (b := false) rfl (by kernel_rfl) (by kernel_rfl) (by kernel_rfl) (by simp) (fun val w h => by rw [Vp12] at h; exact h) fun a wx val hG hV hN hO K hK => ?_
            have e112 := hN 13 112 (by kernel_rfl) (by kernel_rfl) (by simp)
            have f112 := hV 13 (by kernel_rfl) (by kernel_rfl)
            rw [Vp13] at f112; rw [f112] at e112; clear f112
            have e115 := hN 16 115 (by kernel_rfl) (by kernel_rfl) (by simp)
            have f115 := hV 16 (by kernel_rfl) (by kernel_rfl)
            rw [Vp16] at f115; rw [f115] at e115; clear f115
            clear hV hN hO
            go_simp
            refine (CKb.out _).mono ?_
            rintro e w11 ⟨rfl, hb⟩
            exact hK.out _ _ (by rw [Vp17, upd_at]) hb (hG.trans (hb.mono hG.size))
          case s18_q2 =>
            refine owe_if (g := 12) (t := 111) (b := false) rfl (by kernel_rfl) (by kernel_rfl) (by kernel_rfl) (by simp) (fun val w h => by rw [Vp12] at h; exact h) fun a wx val hG hV hN hO K hK => ?_
            have e8 : a.tmps[8]? = some (.pointer (some ⟨bl, 0, none⟩)) := (hO 8 (by kernel_rfl)).trans (by rfl)
            clear hV hN hO
            obtain ⟨y0, y1⟩ := (HL8.out.on hG).cells
            go_simp
            exact hK.out _ _ (by rw [Vp18, upd_at] <;> (congr 1 <;> omega)) (Below.refl _ _) hG
          case s19_q2 =>
            refine owe_if (g := 12) (t := 111) (b := false) rfl (by kernel_rfl) (by kernel_rfl) (by kernel_rfl) (by simp) (fun val w h => by rw [Vp12] at h; exact h) fun a wx val hG hV hN hO K hK => ?_
            have e10 : a.tmps[10]? = some (.int .i64 t) := (hO 10 (by kernel_rfl)).trans (by rfl)
            clear hV hN hO
            go_simp
            exact hK.out _ _ (by rw [Vp19, upd_at] <;> (congr 1 <;> omega)) (Below.refl _ _) hG
          case s20_q2 =>
            refine owe_if (g := 12) (t := 111) (b := false) rfl (by kernel_rfl) (by kernel_rfl) (by kernel_rfl) (by simp) (fun val w h => by rw [Vp12] at h; exact h) fun a wx val hG hV hN hO K hK => ?_
            have e18 : a.tmps[18]? = some (.int .i64 (k : Int)) := (hO 18 (by kernel_rfl)).trans (by rfl)
            clear hV hN hO
            go_simp
            exact hK.out _ _ (by rw [Vp20, upd_at] <;> (congr 1 <;> omega)) (Below.refl _ _) hG
          case s21_q2 =>
            refine owe_if (g := 12) (t := 111) (b := false) rfl (by kernel_rfl) (by kernel_rfl) (by kernel_rfl) (by simp) (fun val w h => by rw [Vp12] at h; exact h) fun a wx val hG hV hN hO K hK => ?_
            have e118 := hN 19 118 (by kernel_rfl) (by kernel_rfl) (by simp)
            have f118 := hV 19 (by kernel_rfl) (by kernel_rfl)
            rw [Vp19] at f118; rw [f118] at e118; clear f118
            have e119 := hN 20 119 (by kernel_rfl) (by kernel_rfl) (by simp)
            have f119 := hV 20 (by kernel_rfl) (by kernel_rfl)
            rw [Vp20] at f119; rw [f119] at e119; clear f119
            clear hV hN hO
            have q1 : IntKind.i64.wrap (t + (k : Int)) = t + (k : Int) := IntWalk.i64_in _ (by omega)
            go_simp
            exact hK.out _ _ (by rw [Vp21, upd_at] <;> (congr 1 <;> omega)) (Below.refl _ _) hG
          case s22_q2 =>
            refine owe_if (g := 12) (t := 111) (b := false) rfl (by kernel_rfl) (by kernel_rfl) (by kernel_rfl) (by simp) (fun val w h => by rw [Vp12] at h; exact h) fun a wx val hG hV hN hO K hK => ?_
            have e9 : a.tmps[9]? = some (.int .i64 (la + lg)) := (hO 9 (by kernel_rfl)).trans (by rfl)
            clear hV hN hO
            go_simp
            exact hK.out _ _ (by rw [Vp22, upd_at] <;> (congr 1 <;> omega)) (Below.refl _ _) hG
          case s23_q2 =>
            refine owe_if (g := 12) (t := 111) (b := false) rfl (by kernel_rfl) (by kernel_rfl) (by kernel_rfl) (by simp) (fun val w h => by rw [Vp12] at h; exact h) fun a wx val hG hV hN hO K hK => ?_
            have e120 := hN 21 120 (by kernel_rfl) (by kernel_rfl) (by simp)
            have f120 := hV 21 (by kernel_rfl) (by kernel_rfl)
            rw [Vp21] at f120; rw [f120] at e120; clear f120
            have e121 := hN 22 121 (by kernel_rfl) (by kernel_rfl) (by simp)
            have f121 := hV 22 (by kernel_rfl) (by kernel_rfl)
            rw [Vp22] at f121; rw [f121] at e121; clear f121
            clear hV hN hO
            have q1 : IntKind.i64.wrap (t + (k : Int) + (la + lg)) = t + (k : Int) + (la + lg) := IntWalk.i64_in _ (by omega)
            go_simp
            exact hK.out _ _ (by rw [Vp23, upd_at] <;> (congr 1 <;> omega)) (Below.refl _ _) hG
          case s24_q2 =>
            refine owe_if (g := 12) (t := 111) (b := false) rfl (by kernel_rfl) (by kernel_rfl) (by kernel_rfl) (by simp) (fun val w h => by rw [Vp12] at h; exact h) fun a wx val hG hV hN hO K hK => ?_
            have e117 := hN 18 117 (by kernel_rfl) (by kernel_rfl) (by simp)
            have f117 := hV 18 (by kernel_rfl) (by kernel_rfl)
            rw [Vp18] at f117; rw [f117] at e117; clear f117
            have e122 := hN 23 122 (by kernel_rfl) (by kernel_rfl) (by simp)
            have f122 := hV 23 (by kernel_rfl) (by kernel_rfl)
            rw [Vp23] at f122; rw [f122] at e122; clear f122
            clear hV hN hO
            go_simp
            refine (CKc.out _).mono ?_
            rintro e w11 ⟨rfl, hb⟩
            exact hK.out _ _ (by rw [Vp24, upd_at]) hb (hG.trans (hb.mono hG.size))
          case s25_q2 =>
            refine owe_if (g := 12) (t := 111) (b := false) rfl (by kernel_rfl) (by kernel_rfl) (by kernel_rfl) (by simp) (fun val w h => by rw [Vp12] at h; exact h) fun a wx val hG hV hN hO K hK => ?_
            have e116 := hN 17 116 (by kernel_rfl) (by kernel_rfl) (by simp)
            have f116 := hV 17 (by kernel_rfl) (by kernel_rfl)
            rw [Vp17] at f116; rw [f116] at e116; clear f116
            have e123 := hN 24 123 (by kernel_rfl) (by kernel_rfl) (by simp)
            have f123 := hV 24 (by kernel_rfl) (by kernel_rfl)
            rw [Vp24] at f123; rw [f123] at e123; clear f123
            clear hV hN hO
            go_simp
            exact hK.out _ _ (by rw [Vp25, upd_at] <;> (congr 1 <;> omega)) (Below.refl _ _) hG
          case s26_q2 =>
            refine owe rfl fun a wx val hG hV hN hO K hK => ?_
            have e111 := hN 12 111 (by kernel_rfl) (by kernel_rfl) (by simp)
            have f111 := hV 12 (by kernel_rfl) (by kernel_rfl)
            rw [Vp12] at f111; rw [f111] at e111; clear f111
            have e124 := hN 25 124 (by kernel_rfl) (by kernel_rfl) (by simp)
            have f124 := hV 25 (by kernel_rfl) (by kernel_rfl)
            rw [Vp25] at f124; rw [f124] at e124; clear f124
            clear hV hN hO
            go_simp
            exact hK.out _ _ (by rw [Vp26, upd_at] <;> (congr 1 <;> omega)) (Below.refl _ _) hG
          intro val wx hG hV
          have f0 := hV 0 (by simp) (fun _ _ => by rfl)
          rw [Vp0] at f0
          have f1 := hV 1 (by simp) (fun _ _ => by rfl)
          rw [Vp1] at f1
          have f2 := hV 2 (by simp) (fun _ _ => by rfl)
          rw [Vp2] at f2
          have f3 := hV 3 (by simp) (fun _ _ => by rfl)
          rw [Vp3] at f3
          have f4 := hV 4 (by simp) (fun _ _ => by rfl)
          rw [Vp4] at f4
          have f5 := hV 5 (by simp) (fun _ _ => by rfl)
          rw [Vp5] at f5
          have f6 := hV 6 (by simp) (fun _ _ => by rfl)
          rw [Vp6] at f6
          have f7 := hV 7 (by simp) (fun _ _ => by rfl)
          rw [Vp7] at f7
          have f8 := hV 8 (by simp) (fun _ _ => by rfl)
          rw [Vp8] at f8
          have f9 := hV 9 (by simp) (fun _ _ => by rfl)
          rw [Vp9] at f9
          have f10 := hV 10 (by simp) (fun _ _ => by rfl)
          rw [Vp10] at f10
          have f11 := hV 11 (by simp) (fun _ _ => by rfl)
          rw [Vp11] at f11
          have f12 := hV 12 (by simp) (fun _ _ => by rfl)
          rw [Vp12] at f12
          have f13 := hV 13 (by simp) (fun _ _ => by rfl)
          rw [Vp13] at f13
          have f14 := hV 14 (by simp) (fun _ _ => by rfl)
          rw [Vp14] at f14
          have f15 := hV 15 (by simp) (fun _ _ => by rfl)
          rw [Vp15] at f15
          have f16 := hV 16 (by simp) (fun _ _ => by rfl)
          rw [Vp16] at f16
          have f17 := hV 17 (by simp) (fun _ _ => by rfl)
          rw [Vp17] at f17
          have f18 := hV 18 (by simp) (fun _ _ => by rfl)
          rw [Vp18] at f18
          have f19 := hV 19 (by simp) (fun _ _ => by rfl)
          rw [Vp19] at f19
          have f20 := hV 20 (by simp) (fun _ _ => by rfl)
          rw [Vp20] at f20
          have f21 := hV 21 (by simp) (fun _ _ => by rfl)
          rw [Vp21] at f21
          have f22 := hV 22 (by simp) (fun _ _ => by rfl)
          rw [Vp22] at f22
          have f23 := hV 23 (by simp) (fun _ _ => by rfl)
          rw [Vp23] at f23
          have f24 := hV 24 (by simp) (fun _ _ => by rfl)
          rw [Vp24] at f24
          have f25 := hV 25 (by simp) (fun _ _ => by rfl)
          rw [Vp25] at f25
          have f26 := hV 26 (by simp) (fun _ _ => by rfl)
          rw [Vp26] at f26
          clear hV Vp0 Vp1 Vp2 Vp3 Vp4 Vp5 Vp6 Vp7 Vp8 Vp9 Vp10 Vp11 Vp12 Vp13 Vp14 Vp15 Vp16 Vp17 Vp18 Vp19 Vp20 Vp21 Vp22 Vp23 Vp24 Vp25 Vp26
          simp only [putAll, Act.put, List.setIfInBounds_toArray, List.set_cons_zero, List.set_cons_succ]
          generalize val 0 = z0 at *; (subst f0)
          generalize val 1 = z1 at *; (subst f1)
          generalize val 2 = z2 at *; (subst f2)
          generalize val 3 = z3 at *; (subst f3)
          generalize val 4 = z4 at *; (subst f4)
          generalize val 5 = z5 at *; (subst f5)
          generalize val 6 = z6 at *; (subst f6)
          generalize val 7 = z7 at *; (subst f7)
          generalize val 8 = z8 at *; (subst f8)
          generalize val 9 = z9 at *; (subst f9)
          generalize val 10 = z10 at *; (subst f10)
          generalize val 11 = z11 at *; (subst f11)
          generalize val 12 = z12 at *; (subst f12)
          generalize val 13 = z13 at *; (subst f13)
          generalize val 14 = z14 at *; (subst f14)
          generalize val 15 = z15 at *; (subst f15)
          generalize val 16 = z16 at *; (subst f16)
          generalize val 17 = z17 at *; (subst f17)
          generalize val 18 = z18 at *; (subst f18)
          generalize val 19 = z19 at *; (subst f19)
          generalize val 20 = z20 at *; (subst f20)
          generalize val 21 = z21 at *; (subst f21)
          generalize val 22 = z22 at *; (subst f22)
          generalize val 23 = z23 at *; (subst f23)
          generalize val 24 = z24 at *; (subst f24)
          generalize val 25 = z25 at *; (subst f25)
          generalize val 26 = z26 at *; (subst f26)
          clear HVD
          have HB9 := Lib.hid (HB8.out.trans (hG.mono HB8.out.size))
          clear hG HL8 HB8
          go_wp2_with fail
          go_roundw
          case rel => exact ⟨k + 1, by omega, by rw [HCN.out], by go_num, HB9.out⟩
          case measure => simp [intOf]; omega
        · rw [decide_eq_false hm] at CKb CKc
          rw [if_neg hm, Int.add_zero] at HCN
          clear hm HQ
          go_wp2_with fail
          (with_reducible refine (CKb.out _).mono ?_); rintro e v10 ⟨rfl, b⟩
          have HL8 := Lib.hid (HL7.out.on b)
          have HB8 := Lib.hid (HB7.out.trans (b.mono HB7.out.size))
          clear b y0 y1
          go_upto_region 16 with fail
          generalize v10 = X1 at *
          clear HL7 HB7
          have HV : ∃ Vp : Nat → (Nat → Value) → World → Prop, Vp = (fun ix u wv => match ix with
            | 0 => u 0 = .int .i64 t
            | 1 => u 1 = .int .i64 (k : Int)
            | 2 => u 2 = .int .i64 (t + (k : Int))
            | 3 => u 3 = .int .i64 N
            | 4 => u 4 = .bool false
            | 5 => u 5 = .bool false
            | 6 => u 6 = undef
            | 7 => u 7 = undef
            | 8 => u 8 = undef
            | 9 => u 9 = undef
            | 10 => u 10 = undef
            | 11 => u 11 = .bool false
            | 12 => u 12 = .bool false
            | 13 => u 13 = .agg #[.int .i64 la, .int .i64 lg]
            | 14 => u 14 = .int .i64 t
            | 15 => u 15 = .int .i64 (k : Int)
            | 16 => u 16 = .int .i64 (t + (k : Int))
            | 17 => u 17 = .bool false
            | 18 => u 18 = .agg #[.int .i64 la, .int .i64 lg]
            | 19 => u 19 = .int .i64 t
            | 20 => u 20 = .int .i64 (k : Int)
            | 21 => u 21 = .int .i64 (t + (k : Int))
            | 22 => u 22 = .int .i64 (la + lg)
            | 23 => u 23 = .int .i64 (t + (k : Int) + (la + lg))
            | 24 => u 24 = .bool false
            | 25 => u 25 = .bool false
            | 26 => u 26 = .bool false
            | _ => True) := ⟨_, rfl⟩
          obtain ⟨Vp, hVdef⟩ := HV
          have Vp0 : ∀ u wv, Vp 0 u wv = (u 0 = .int .i64 t) := fun u wv => by subst hVdef; rfl
          have Vp1 : ∀ u wv, Vp 1 u wv = (u 1 = .int .i64 (k : Int)) := fun u wv => by subst hVdef; rfl
          have Vp2 : ∀ u wv, Vp 2 u wv = (u 2 = .int .i64 (t + (k : Int))) := fun u wv => by subst hVdef; rfl
          have Vp3 : ∀ u wv, Vp 3 u wv = (u 3 = .int .i64 N) := fun u wv => by subst hVdef; rfl
          have Vp4 : ∀ u wv, Vp 4 u wv = (u 4 = .bool false) := fun u wv => by subst hVdef; rfl
          have Vp5 : ∀ u wv, Vp 5 u wv = (u 5 = .bool false) := fun u wv => by subst hVdef; rfl
          have Vp6 : ∀ u wv, Vp 6 u wv = (u 6 = undef) := fun u wv => by subst hVdef; rfl
          have Vp7 : ∀ u wv, Vp 7 u wv = (u 7 = undef) := fun u wv => by subst hVdef; rfl
          have Vp8 : ∀ u wv, Vp 8 u wv = (u 8 = undef) := fun u wv => by subst hVdef; rfl
          have Vp9 : ∀ u wv, Vp 9 u wv = (u 9 = undef) := fun u wv => by subst hVdef; rfl
          have Vp10 : ∀ u wv, Vp 10 u wv = (u 10 = undef) := fun u wv => by subst hVdef; rfl
          have Vp11 : ∀ u wv, Vp 11 u wv = (u 11 = .bool false) := fun u wv => by subst hVdef; rfl
          have Vp12 : ∀ u wv, Vp 12 u wv = (u 12 = .bool false) := fun u wv => by subst hVdef; rfl
          have Vp13 : ∀ u wv, Vp 13 u wv = (u 13 = .agg #[.int .i64 la, .int .i64 lg]) := fun u wv => by subst hVdef; rfl
          have Vp14 : ∀ u wv, Vp 14 u wv = (u 14 = .int .i64 t) := fun u wv => by subst hVdef; rfl
          have Vp15 : ∀ u wv, Vp 15 u wv = (u 15 = .int .i64 (k : Int)) := fun u wv => by subst hVdef; rfl
          have Vp16 : ∀ u wv, Vp 16 u wv = (u 16 = .int .i64 (t + (k : Int))) := fun u wv => by subst hVdef; rfl
          have Vp17 : ∀ u wv, Vp 17 u wv = (u 17 = .bool false) := fun u wv => by subst hVdef; rfl
          have Vp18 : ∀ u wv, Vp 18 u wv = (u 18 = .agg #[.int .i64 la, .int .i64 lg]) := fun u wv => by subst hVdef; rfl
          have Vp19 : ∀ u wv, Vp 19 u wv = (u 19 = .int .i64 t) := fun u wv => by subst hVdef; rfl
          have Vp20 : ∀ u wv, Vp 20 u wv = (u 20 = .int .i64 (k : Int)) := fun u wv => by subst hVdef; rfl
          have Vp21 : ∀ u wv, Vp 21 u wv = (u 21 = .int .i64 (t + (k : Int))) := fun u wv => by subst hVdef; rfl
          have Vp22 : ∀ u wv, Vp 22 u wv = (u 22 = .int .i64 (la + lg)) := fun u wv => by subst hVdef; rfl
          have Vp23 : ∀ u wv, Vp 23 u wv = (u 23 = .int .i64 (t + (k : Int) + (la + lg))) := fun u wv => by subst hVdef; rfl
          have Vp24 : ∀ u wv, Vp 24 u wv = (u 24 = .bool false) := fun u wv => by subst hVdef; rfl
          have Vp25 : ∀ u wv, Vp 25 u wv = (u 25 = .bool false) := fun u wv => by subst hVdef; rfl
          have Vp26 : ∀ u wv, Vp 26 u wv = (u 26 = .bool false) := fun u wv => by subst hVdef; rfl
          have HVD := Lib.hid hVdef
          clear hVdef
          refine region_each (V := Vp) (drop := fun _ _ => false) (G := fun wv => Below X1.heap.size X1 wv) (Rel := fun jx wv wv' => Below wv.heap.size wv wv') (by kernel_rfl) (by kernel_rfl) (Below.refl _ _).drew ?hmonoq3 ?hdepq3 ⟨?s0_q3, ?s1_q3, ?s2_q3, ?s3_q3, ?s4_q3, ?s5_q3, ?s6_q3, ?s7_q3, ?s8_q3, ?s9_q3, ?s10_q3, ?s11_q3, ?s12_q3, ?s13_q3, ?s14_q3, ?s15_q3, ?s16_q3, ?s17_q3, ?s18_q3, ?s19_q3, ?s20_q3, ?s21_q3, ?s22_q3, ?s23_q3, ?s24_q3, ?s25_q3, ?s26_q3, trivial⟩ ?behindq3
          case hmonoq3 =>
            intro ix jx u wv wv' hij hw hd hr
            rw [HVD.out]
            dsimp only
            split <;> intro h <;> first | exact trivial | exact h
          case hdepq3 =>
            intro ix u u' wv h1 h2
            rw [HVD.out]
            dsimp only
            split <;> intro h <;> first | exact trivial | (rw [← h1]; exact h)
          case s0_q3 =>
            refine owe rfl fun a wx val hG hV hN hO K hK => ?_
            have e10 : a.tmps[10]? = some (.int .i64 t) := (hO 10 (by kernel_rfl)).trans (by rfl)
            clear hV hN hO
            go_simp
            exact hK.out _ _ (by rw [Vp0, upd_at] <;> (congr 1 <;> omega)) (Below.refl _ _) hG
          case s1_q3 =>
            refine owe rfl fun a wx val hG hV hN hO K hK => ?_
            have e18 : a.tmps[18]? = some (.int .i64 (k : Int)) := (hO 18 (by kernel_rfl)).trans (by rfl)
            clear hV hN hO
            go_simp
            exact hK.out _ _ (by rw [Vp1, upd_at] <;> (congr 1 <;> omega)) (Below.refl _ _) hG
          case s2_q3 =>
            refine owe rfl fun a wx val hG hV hN hO K hK => ?_
            have e99 := hN 0 99 (by kernel_rfl) (by kernel_rfl) (by simp)
            have f99 := hV 0 (by kernel_rfl) (by kernel_rfl)
            rw [Vp0] at f99; rw [f99] at e99; clear f99
            have e100 := hN 1 100 (by kernel_rfl) (by kernel_rfl) (by simp)
            have f100 := hV 1 (by kernel_rfl) (by kernel_rfl)
            rw [Vp1] at f100; rw [f100] at e100; clear f100
            clear hV hN hO
            have q1 : IntKind.i64.wrap (t + (k : Int)) = t + (k : Int) := IntWalk.i64_in _ (by omega)
            go_simp
            exact hK.out _ _ (by rw [Vp2, upd_at] <;> (congr 1 <;> omega)) (Below.refl _ _) hG
          case s3_q3 =>
            refine owe rfl fun a wx val hG hV hN hO K hK => ?_
            have e15 : a.tmps[15]? = some (.int .i64 N) := (hO 15 (by kernel_rfl)).trans (by rfl)
            clear hV hN hO
            go_simp
            exact hK.out _ _ (by rw [Vp3, upd_at] <;> (congr 1 <;> omega)) (Below.refl _ _) hG
          case s4_q3 =>
            refine owe rfl fun a wx val hG hV hN hO K hK => ?_
            have e101 := hN 2 101 (by kernel_rfl) (by kernel_rfl) (by simp)
            have f101 := hV 2 (by kernel_rfl) (by kernel_rfl)
            rw [Vp2] at f101; rw [f101] at e101; clear f101
            have e102 := hN 3 102 (by kernel_rfl) (by kernel_rfl) (by simp)
            have f102 := hV 3 (by kernel_rfl) (by kernel_rfl)
            rw [Vp3] at f102; rw [f102] at e102; clear f102
            clear hV hN hO
            have q1 : decide (t + (k : Int) < N) = false := by rw [decide_eq_false_iff_not]; omega
            go_simp
            exact hK.out _ _ (by rw [Vp4, upd_at] <;> (congr 1 <;> omega)) (Below.refl _ _) hG
          case s5_q3 =>
            refine owe rfl fun a wx val hG hV hN hO K hK => ?_
            have e103 := hN 4 103 (by kernel_rfl) (by kernel_rfl) (by simp)
            have f103 := hV 4 (by kernel_rfl) (by kernel_rfl)
            rw [Vp4] at f103; rw [f103] at e103; clear f103
            clear hV hN hO
            go_simp
            exact hK.out _ _ (by rw [Vp5, upd_at] <;> (congr 1 <;> omega)) (Below.refl _ _) hG
          case s6_q3 =>
            exact owe_skip (g := 5) (t := 104) (b := true) (c := false) rfl (by kernel_rfl) (by kernel_rfl) (by kernel_rfl) (by simp) (fun val w h => by rw [Vp5] at h; exact h) (by decide) (fun val w => by rw [Vp6, upd_at])
          case s7_q3 =>
            exact owe_skip (g := 5) (t := 104) (b := true) (c := false) rfl (by kernel_rfl) (by kernel_rfl) (by kernel_rfl) (by simp) (fun val w h => by rw [Vp5] at h; exact h) (by decide) (fun val w => by rw [Vp7, upd_at])
          case s8_q3 =>
            exact owe_skip (g := 5) (t := 104) (b := true) (c := false) rfl (by kernel_rfl) (by kernel_rfl) (by kernel_rfl) (by simp) (fun val w h => by rw [Vp5] at h; exact h) (by decide) (fun val w => by rw [Vp8, upd_at])
          case s9_q3 =>
            exact owe_skip (g := 5) (t := 104) (b := true) (c := false) rfl (by kernel_rfl) (by kernel_rfl) (by kernel_rfl) (by simp) (fun val w h => by rw [Vp5] at h; exact h) (by decide) (fun val w => by rw [Vp9, upd_at])
          case s10_q3 =>
            exact owe_skip (g := 5) (t := 104) (b := true) (c := false) rfl (by kernel_rfl) (by kernel_rfl) (by kernel_rfl) (by simp) (fun val w h => by rw [Vp5] at h; exact h) (by decide) (fun val w => by rw [Vp10, upd_at])
          case s11_q3 =>
            refine owe rfl fun a wx val hG hV hN hO K hK => ?_
            have e104 := hN 5 104 (by kernel_rfl) (by kernel_rfl) (by simp)
            have f104 := hV 5 (by kernel_rfl) (by kernel_rfl)
            rw [Vp5] at f104; rw [f104] at e104; clear f104
            have e109 := hN 10 109 (by kernel_rfl) (by kernel_rfl) (by simp)
            have f109 := hV 10 (by kernel_rfl) (by kernel_rfl)
            rw [Vp10] at f109; rw [f109] at e109; clear f109
            clear hV hN hO
            go_simp
            exact hK.out _ _ (by rw [Vp11, upd_at] <;> (congr 1 <;> omega)) (Below.refl _ _) hG
          case s12_q3 =>
            refine owe rfl fun a wx val hG hV hN hO K hK => ?_
            have e110 := hN 11 110 (by kernel_rfl) (by kernel_rfl) (by simp)
            have f110 := hV 11 (by kernel_rfl) (by kernel_rfl)
            rw [Vp11] at f110; rw [f110] at e110; clear f110
            clear hV hN hO
            go_simp
            exact hK.out _ _ (by rw [Vp12, upd_at] <;> (congr 1 <;> omega)) (Below.refl _ _) hG
          case s13_q3 =>
            refine owe_if (g := 12) (t := 111) (b := false) rfl (by kernel_rfl) (by kernel_rfl) (by kernel_rfl) (by simp) (fun val w h => by rw [Vp12] at h; exact h) fun a wx val hG hV hN hO K hK => ?_
            have e8 : a.tmps[8]? = some (.pointer (some ⟨bl, 0, none⟩)) := (hO 8 (by kernel_rfl)).trans (by rfl)
            clear hV hN hO
            obtain ⟨y0, y1⟩ := (HL8.out.on hG).cells
            go_simp
            exact hK.out _ _ (by rw [Vp13, upd_at] <;> (congr 1 <;> omega)) (Below.refl _ _) hG
          case s14_q3 =>
            refine owe_if (g := 12) (t := 111) (b := false) rfl (by kernel_rfl) (by kernel_rfl) (by kernel_rfl) (by simp) (fun val w h => by rw [Vp12] at h; exact h) fun a wx val hG hV hN hO K hK => ?_
            have e10 : a.tmps[10]? = some (.int .i64 t) := (hO 10 (by kernel_rfl)).trans (by rfl)
            clear hV hN hO
            go_simp
            exact hK.out _ _ (by rw [Vp14, upd_at] <;> (congr 1 <;> omega)) (Below.refl _ _) hG
          case s15_q3 =>
            refine owe_if (g := 12) (t := 111) (b := false) rfl (by kernel_rfl) (by kernel_rfl) (by kernel_rfl) (by simp) (fun val w h => by rw [Vp12] at h; exact h) fun a wx val hG hV hN hO K hK => ?_
            have e18 : a.tmps[18]? = some (.int .i64 (k : Int)) := (hO 18 (by kernel_rfl)).trans (by rfl)
            clear hV hN hO
            go_simp
            exact hK.out _ _ (by rw [Vp15, upd_at] <;> (congr 1 <;> omega)) (Below.refl _ _) hG
          case s16_q3 =>
            refine owe_if (g := 12) (t := 111) (b := false) rfl (by kernel_rfl) (by kernel_rfl) (by kernel_rfl) (by simp) (fun val w h => by rw [Vp12] at h; exact h) fun a wx val hG hV hN hO K hK => ?_
            have e113 := hN 14 113 (by kernel_rfl) (by kernel_rfl) (by simp)
            have f113 := hV 14 (by kernel_rfl) (by kernel_rfl)
            rw [Vp14] at f113; rw [f113] at e113; clear f113
            have e114 := hN 15 114 (by kernel_rfl) (by kernel_rfl) (by simp)
            have f114 := hV 15 (by kernel_rfl) (by kernel_rfl)
            rw [Vp15] at f114; rw [f114] at e114; clear f114
            clear hV hN hO
            have q1 : IntKind.i64.wrap (t + (k : Int)) = t + (k : Int) := IntWalk.i64_in _ (by omega)
            go_simp
            exact hK.out _ _ (by rw [Vp16, upd_at] <;> (congr 1 <;> omega)) (Below.refl _ _) hG
          case s17_q3 =>
            refine owe_if (g := 12) (t := 111) (b := false) rfl (by kernel_rfl) (by kernel_rfl) (by kernel_rfl) (by simp) (fun val w h => by rw [Vp12] at h; exact h) fun a wx val hG hV hN hO K hK => ?_
            have e112 := hN 13 112 (by kernel_rfl) (by kernel_rfl) (by simp)
            have f112 := hV 13 (by kernel_rfl) (by kernel_rfl)
            rw [Vp13] at f112; rw [f112] at e112; clear f112
            have e115 := hN 16 115 (by kernel_rfl) (by kernel_rfl) (by simp)
            have f115 := hV 16 (by kernel_rfl) (by kernel_rfl)
            rw [Vp16] at f115; rw [f115] at e115; clear f115
            clear hV hN hO
            go_simp
            refine (CKb.out _).mono ?_
            rintro e w11 ⟨rfl, hb⟩
            exact hK.out _ _ (by rw [Vp17, upd_at]) hb (hG.trans (hb.mono hG.size))
          case s18_q3 =>
            refine owe_if (g := 12) (t := 111) (b := false) rfl (by kernel_rfl) (by kernel_rfl) (by kernel_rfl) (by simp) (fun val w h => by rw [Vp12] at h; exact h) fun a wx val hG hV hN hO K hK => ?_
            have e8 : a.tmps[8]? = some (.pointer (some ⟨bl, 0, none⟩)) := (hO 8 (by kernel_rfl)).trans (by rfl)
            clear hV hN hO
            obtain ⟨y0, y1⟩ := (HL8.out.on hG).cells
            go_simp
            exact hK.out _ _ (by rw [Vp18, upd_at] <;> (congr 1 <;> omega)) (Below.refl _ _) hG
          case s19_q3 =>
            refine owe_if (g := 12) (t := 111) (b := false) rfl (by kernel_rfl) (by kernel_rfl) (by kernel_rfl) (by simp) (fun val w h => by rw [Vp12] at h; exact h) fun a wx val hG hV hN hO K hK => ?_
            have e10 : a.tmps[10]? = some (.int .i64 t) := (hO 10 (by kernel_rfl)).trans (by rfl)
            clear hV hN hO
            go_simp
            exact hK.out _ _ (by rw [Vp19, upd_at] <;> (congr 1 <;> omega)) (Below.refl _ _) hG
          case s20_q3 =>
            refine owe_if (g := 12) (t := 111) (b := false) rfl (by kernel_rfl) (by kernel_rfl) (by kernel_rfl) (by simp) (fun val w h => by rw [Vp12] at h; exact h) fun a wx val hG hV hN hO K hK => ?_
            have e18 : a.tmps[18]? = some (.int .i64 (k : Int)) := (hO 18 (by kernel_rfl)).trans (by rfl)
            clear hV hN hO
            go_simp
            exact hK.out _ _ (by rw [Vp20, upd_at] <;> (congr 1 <;> omega)) (Below.refl _ _) hG
          case s21_q3 =>
            refine owe_if (g := 12) (t := 111) (b := false) rfl (by kernel_rfl) (by kernel_rfl) (by kernel_rfl) (by simp) (fun val w h => by rw [Vp12] at h; exact h) fun a wx val hG hV hN hO K hK => ?_
            have e118 := hN 19 118 (by kernel_rfl) (by kernel_rfl) (by simp)
            have f118 := hV 19 (by kernel_rfl) (by kernel_rfl)
            rw [Vp19] at f118; rw [f118] at e118; clear f118
            have e119 := hN 20 119 (by kernel_rfl) (by kernel_rfl) (by simp)
            have f119 := hV 20 (by kernel_rfl) (by kernel_rfl)
            rw [Vp20] at f119; rw [f119] at e119; clear f119
            clear hV hN hO
            have q1 : IntKind.i64.wrap (t + (k : Int)) = t + (k : Int) := IntWalk.i64_in _ (by omega)
            go_simp
            exact hK.out _ _ (by rw [Vp21, upd_at] <;> (congr 1 <;> omega)) (Below.refl _ _) hG
          case s22_q3 =>
            refine owe_if (g := 12) (t := 111) (b := false) rfl (by kernel_rfl) (by kernel_rfl) (by kernel_rfl) (by simp) (fun val w h => by rw [Vp12] at h; exact h) fun a wx val hG hV hN hO K hK => ?_
            have e9 : a.tmps[9]? = some (.int .i64 (la + lg)) := (hO 9 (by kernel_rfl)).trans (by rfl)
            clear hV hN hO
            go_simp
            exact hK.out _ _ (by rw [Vp22, upd_at] <;> (congr 1 <;> omega)) (Below.refl _ _) hG
          case s23_q3 =>
            refine owe_if (g := 12) (t := 111) (b := false) rfl (by kernel_rfl) (by kernel_rfl) (by kernel_rfl) (by simp) (fun val w h => by rw [Vp12] at h; exact h) fun a wx val hG hV hN hO K hK => ?_
            have e120 := hN 21 120 (by kernel_rfl) (by kernel_rfl) (by simp)
            have f120 := hV 21 (by kernel_rfl) (by kernel_rfl)
            rw [Vp21] at f120; rw [f120] at e120; clear f120
            have e121 := hN 22 121 (by kernel_rfl) (by kernel_rfl) (by simp)
            have f121 := hV 22 (by kernel_rfl) (by kernel_rfl)
            rw [Vp22] at f121; rw [f121] at e121; clear f121
            clear hV hN hO
            have q1 : IntKind.i64.wrap (t + (k : Int) + (la + lg)) = t + (k : Int) + (la + lg) := IntWalk.i64_in _ (by omega)
            go_simp
            exact hK.out _ _ (by rw [Vp23, upd_at] <;> (congr 1 <;> omega)) (Below.refl _ _) hG
          case s24_q3 =>
            refine owe_if (g := 12) (t := 111) (b := false) rfl (by kernel_rfl) (by kernel_rfl) (by kernel_rfl) (by simp) (fun val w h => by rw [Vp12] at h; exact h) fun a wx val hG hV hN hO K hK => ?_
            have e117 := hN 18 117 (by kernel_rfl) (by kernel_rfl) (by simp)
            have f117 := hV 18 (by kernel_rfl) (by kernel_rfl)
            rw [Vp18] at f117; rw [f117] at e117; clear f117
            have e122 := hN 23 122 (by kernel_rfl) (by kernel_rfl) (by simp)
            have f122 := hV 23 (by kernel_rfl) (by kernel_rfl)
            rw [Vp23] at f122; rw [f122] at e122; clear f122
            clear hV hN hO
            go_simp
            refine (CKc.out _).mono ?_
            rintro e w11 ⟨rfl, hb⟩
            exact hK.out _ _ (by rw [Vp24, upd_at]) hb (hG.trans (hb.mono hG.size))
          case s25_q3 =>
            refine owe_if (g := 12) (t := 111) (b := false) rfl (by kernel_rfl) (by kernel_rfl) (by kernel_rfl) (by simp) (fun val w h => by rw [Vp12] at h; exact h) fun a wx val hG hV hN hO K hK => ?_
            have e116 := hN 17 116 (by kernel_rfl) (by kernel_rfl) (by simp)
            have f116 := hV 17 (by kernel_rfl) (by kernel_rfl)
            rw [Vp17] at f116; rw [f116] at e116; clear f116
            have e123 := hN 24 123 (by kernel_rfl) (by kernel_rfl) (by simp)
            have f123 := hV 24 (by kernel_rfl) (by kernel_rfl)
            rw [Vp24] at f123; rw [f123] at e123; clear f123
            clear hV hN hO
            go_simp
            exact hK.out _ _ (by rw [Vp25, upd_at] <;> (congr 1 <;> omega)) (Below.refl _ _) hG
          case s26_q3 =>
            refine owe rfl fun a wx val hG hV hN hO K hK => ?_
            have e111 := hN 12 111 (by kernel_rfl) (by kernel_rfl) (by simp)
            have f111 := hV 12 (by kernel_rfl) (by kernel_rfl)
            rw [Vp12] at f111; rw [f111] at e111; clear f111
            have e124 := hN 25 124 (by kernel_rfl) (by kernel_rfl) (by simp)
            have f124 := hV 25 (by kernel_rfl) (by kernel_rfl)
            rw [Vp25] at f124; rw [f124] at e124; clear f124
            clear hV hN hO
            go_simp
            exact hK.out _ _ (by rw [Vp26, upd_at] <;> (congr 1 <;> omega)) (Below.refl _ _) hG
          intro val wx hG hV
          have f0 := hV 0 (by simp) (fun _ _ => by rfl)
          rw [Vp0] at f0
          have f1 := hV 1 (by simp) (fun _ _ => by rfl)
          rw [Vp1] at f1
          have f2 := hV 2 (by simp) (fun _ _ => by rfl)
          rw [Vp2] at f2
          have f3 := hV 3 (by simp) (fun _ _ => by rfl)
          rw [Vp3] at f3
          have f4 := hV 4 (by simp) (fun _ _ => by rfl)
          rw [Vp4] at f4
          have f5 := hV 5 (by simp) (fun _ _ => by rfl)
          rw [Vp5] at f5
          have f6 := hV 6 (by simp) (fun _ _ => by rfl)
          rw [Vp6] at f6
          have f7 := hV 7 (by simp) (fun _ _ => by rfl)
          rw [Vp7] at f7
          have f8 := hV 8 (by simp) (fun _ _ => by rfl)
          rw [Vp8] at f8
          have f9 := hV 9 (by simp) (fun _ _ => by rfl)
          rw [Vp9] at f9
          have f10 := hV 10 (by simp) (fun _ _ => by rfl)
          rw [Vp10] at f10
          have f11 := hV 11 (by simp) (fun _ _ => by rfl)
          rw [Vp11] at f11
          have f12 := hV 12 (by simp) (fun _ _ => by rfl)
          rw [Vp12] at f12
          have f13 := hV 13 (by simp) (fun _ _ => by rfl)
          rw [Vp13] at f13
          have f14 := hV 14 (by simp) (fun _ _ => by rfl)
          rw [Vp14] at f14
          have f15 := hV 15 (by simp) (fun _ _ => by rfl)
          rw [Vp15] at f15
          have f16 := hV 16 (by simp) (fun _ _ => by rfl)
          rw [Vp16] at f16
          have f17 := hV 17 (by simp) (fun _ _ => by rfl)
          rw [Vp17] at f17
          have f18 := hV 18 (by simp) (fun _ _ => by rfl)
          rw [Vp18] at f18
          have f19 := hV 19 (by simp) (fun _ _ => by rfl)
          rw [Vp19] at f19
          have f20 := hV 20 (by simp) (fun _ _ => by rfl)
          rw [Vp20] at f20
          have f21 := hV 21 (by simp) (fun _ _ => by rfl)
          rw [Vp21] at f21
          have f22 := hV 22 (by simp) (fun _ _ => by rfl)
          rw [Vp22] at f22
          have f23 := hV 23 (by simp) (fun _ _ => by rfl)
          rw [Vp23] at f23
          have f24 := hV 24 (by simp) (fun _ _ => by rfl)
          rw [Vp24] at f24
          have f25 := hV 25 (by simp) (fun _ _ => by rfl)
          rw [Vp25] at f25
          have f26 := hV 26 (by simp) (fun _ _ => by rfl)
          rw [Vp26] at f26
          clear hV Vp0 Vp1 Vp2 Vp3 Vp4 Vp5 Vp6 Vp7 Vp8 Vp9 Vp10 Vp11 Vp12 Vp13 Vp14 Vp15 Vp16 Vp17 Vp18 Vp19 Vp20 Vp21 Vp22 Vp23 Vp24 Vp25 Vp26
          simp only [putAll, Act.put, List.setIfInBounds_toArray, List.set_cons_zero, List.set_cons_succ]
          generalize val 0 = z0 at *; (subst f0)
          generalize val 1 = z1 at *; (subst f1)
          generalize val 2 = z2 at *; (subst f2)
          generalize val 3 = z3 at *; (subst f3)
          generalize val 4 = z4 at *; (subst f4)
          generalize val 5 = z5 at *; (subst f5)
          generalize val 6 = z6 at *; (subst f6)
          generalize val 7 = z7 at *; (subst f7)
          generalize val 8 = z8 at *; (subst f8)
          generalize val 9 = z9 at *; (subst f9)
          generalize val 10 = z10 at *; (subst f10)
          generalize val 11 = z11 at *; (subst f11)
          generalize val 12 = z12 at *; (subst f12)
          generalize val 13 = z13 at *; (subst f13)
          generalize val 14 = z14 at *; (subst f14)
          generalize val 15 = z15 at *; (subst f15)
          generalize val 16 = z16 at *; (subst f16)
          generalize val 17 = z17 at *; (subst f17)
          generalize val 18 = z18 at *; (subst f18)
          generalize val 19 = z19 at *; (subst f19)
          generalize val 20 = z20 at *; (subst f20)
          generalize val 21 = z21 at *; (subst f21)
          generalize val 22 = z22 at *; (subst f22)
          generalize val 23 = z23 at *; (subst f23)
          generalize val 24 = z24 at *; (subst f24)
          generalize val 25 = z25 at *; (subst f25)
          generalize val 26 = z26 at *; (subst f26)
          clear HVD
          have HB9 := Lib.hid (HB8.out.trans (hG.mono HB8.out.size))
          clear hG HL8 HB8
          go_wp2_with fail
          go_roundw
          case rel => exact ⟨k + 1, by omega, by rw [HCN.out], by go_num, HB9.out⟩
          case measure => simp [intOf]; omega
    · have hkI : ¬ (k : Int) < la + lg := by have := HSN.out; omega
      have ek : k = SN := by omega
      have HF := Lib.hid (show CK0 = la by rw [← hCK0, ek, HCA.out])
      have hF := HF.out
      rw [hCK0]
      clear hCK0 ek
      subst hF
      go_wp2_with fail
      go_ret
      exact ⟨rfl, HB.out.trans (HB7.out.mono HB.out.size)⟩

end Go.Proofs.Ytlgbgkiajhcneaa

/-
  The law LatticeFar.
-/
import Derived.Test.YtlgbgkiajhcneaaLatLaw
import Derived.Test.YtlgbgkiajhcneaaLatMath
namespace Go.Proofs.Ytlgbgkiajhcneaa
open Go.RowKit

theorem far_ep {la lg x y : Int} (h : Rt la lg) (hxy : x + (la + lg) ≤ y) : epI la lg x < epI la lg y := by
  have h1 := ep_mono h hxy
  rw [ep_step h] at h1
  omega
theorem two_new (W : World) (d0 d1 : Int) : (W.alloc (.cells #[.int .i64 d0, .int .i64 d1] 30)).heap[W.heap.size]? = some (.cells #[.int .i64 d0, .int .i64 d1] 30 (0, 0)) := heap_new W _

set_option maxRecDepth 100000 in
set_option maxHeartbeats 2000000 in
theorem latticeFar_walk (a0 a1 a2 a3 d0 d1 : Int) (w0 : (Lit.int .i64 a0).wf = true) (w1 : (Lit.int .i64 a1).wf = true) (w2 : (Lit.int .i64 a2).wf = true) (w3 : (Lit.int .i64 a3).wf = true) (x4 : (Lit.int .i64 d0).wf = true ∧ (Lit.int .i64 d1).wf = true) (w : World) :
    Calls Try.prog 8 #[.int .i64 a0, .int .i64 a1, .int .i64 a2, .int .i64 a3, .agg #[.int .i64 d0, .int .i64 d1]] w fun e w' => e = .returned (.bool true) ∧ Below w.heap.size w w' := by
  have CL := Lib.hid (fun W => lattice_any a0 a1 w0 w1 W)
  have P2 := Lib.hid (fun W => pick_any a2 274877906944 w2 (by omega) W)
  have P3 := Lib.hid (fun W => pick_any a3 274877906944 w3 (by omega) W)
  have P4 := Lib.hid (fun W => pick_any a3 1048576 w3 (by omega) W)
  have hr : Rt (latA a0) (latA a1) := ⟨latA_range a0, latA_range a1⟩
  obtain ⟨t0, t1⟩ := pickI_range a2 274877906944 (by omega)
  obtain ⟨u0, u1⟩ := pickI_range a3 274877906944 (by omega)
  obtain ⟨k0, k1⟩ := pickI_range a3 1048576 (by omega)
  generalize latA a0 = la at *
  generalize latA a1 = lg at *
  generalize pickI a2 274877906944 = P at *
  generalize pickI a3 274877906944 = Q at *
  generalize pickI a3 1048576 = R at *
  obtain ⟨⟨l0, l1⟩, g0, g1⟩ := id hr
  have hh := half_eq lg g0
  obtain ⟨hf, hhf⟩ : ∃ h, lg / 2 = h := ⟨_, rfl⟩
  have hf0 : 0 ≤ hf ∧ hf ≤ 5000 ∧ 2 * hf ≤ lg := by omega
  rw [hhf] at hh
  obtain ⟨f0, f1, f2⟩ := hf0
  have D0 := Lib.hid (fun W => pick_any d0 (2 * hf + 1) x4.1 (by omega) W)
  have D1 := Lib.hid (fun W => pick_any d1 (2 * hf + 1) x4.2 (by omega) W)
  obtain ⟨q00, q01⟩ := pickI_range d0 (2 * hf + 1) (by omega)
  obtain ⟨q10, q11⟩ := pickI_range d1 (2 * hf + 1) (by omega)
  generalize pickI d0 (2 * hf + 1) = K0 at *
  generalize pickI d1 (2 * hf + 1) = K1 at *
  have co := fun W => order_any la lg (P + K0 - hf) (P + (la + lg) + lg + Q + K1 - hf) W
  rw [(or_ok hr ⟨by omega, by omega⟩ ⟨by omega, by omega⟩).1, (or_ok hr ⟨by omega, by omega⟩ ⟨by omega, by omega⟩).2, cmp_lt (far_ep hr (by omega))] at co
  have hn1 : R * (la + lg) ≤ 1048576 * (la + lg) := Int.mul_le_mul_of_nonneg_right (by omega) (by omega)
  have hn2 : 0 * (la + lg) ≤ R * (la + lg) := Int.mul_le_mul_of_nonneg_right (by omega) (by omega)
  have cb := fun W => begin_any la lg R W
  rw [(beg_ok hr (.inr ⟨by omega, by omega⟩)).1, (beg_ok hr (.inr ⟨by omega, by omega⟩)).2] at cb
  have cp := fun W => order_any la lg (R * (la + lg)) (R * (la + lg) + la - 1) W
  have z1 := ep_at (q := R) (m := 0) hr (by omega) (by omega)
  have z2 := ep_at (q := R) (m := la - 1) hr (by omega) (by omega)
  rw [Int.add_zero] at z1
  rw [show R * (la + lg) + (la - 1) = R * (la + lg) + la - 1 by omega] at z2
  rw [(or_ok hr ⟨by omega, by omega⟩ ⟨by omega, by omega⟩).1, (or_ok hr ⟨by omega, by omega⟩ ⟨by omega, by omega⟩).2, z1, z2, cmp_eq rfl] at cp
  have hn3 : 0 ≤ R * (la + lg) ∧ R * (la + lg) ≤ 20971520000 := by omega
  generalize R * (la + lg) = N at *
  obtain ⟨N0, N1⟩ := hn3
  have CO := Lib.hid co
  have CB := Lib.hid cb
  have CP := Lib.hid cp
  have CAW := Lib.hid (fun W => awake_any W)
  have HF := Lib.hid hhf
  clear w0 w1 w2 w3 x4 hr co cb cp z1 z2 hn1 hn2 hhf
  have HD0 := Lib.hid (two_new w d0 d1)
  have HB0 := Lib.hid (Joins.below_alloc1 w (.cells #[.int .i64 d0, .int .i64 d1] 30))
  go_enter Try.func8, Try.ntmps8
  go_wp2_with fail
  (refine (CAW.out _).mono ?_); rintro e v1 ⟨rfl, b⟩
  have HB := Lib.hid (HB0.out.trans (b.mono HB0.out.size))
  have HD : Hid (v1.heap[w.heap.size]? = some (.cells #[.int .i64 d0, .int .i64 d1] 30 (0, 0))) := Lib.hid ((b.block _ (Array.getElem?_eq_some_iff.1 HD0.out).1).trans HD0.out)
  clear b HB0 HD0
  go_wp2_with fail
  (refine (CL.out _).mono ?_); rintro e v2 ⟨rfl, b⟩
  have HL := Lib.hid (LtAt.new v2 la lg)
  have HC := Joins.below_alloc1 v2 (.cells #[.int .i64 la, .int .i64 lg] 23)
  replace HD : Hid (v2.heap[w.heap.size]? = some (.cells #[.int .i64 d0, .int .i64 d1] 30 (0, 0))) := Lib.hid ((b.block _ (Array.getElem?_eq_some_iff.1 HD.out).1).trans HD.out)
  replace HD := Lib.hid ((HC.block _ (Array.getElem?_eq_some_iff.1 HD.out).1).trans HD.out)
  replace HB := Lib.hid ((HB.out.trans (b.mono HB.out.size)).trans (HC.mono (HB.out.trans (b.mono HB.out.size)).size))
  obtain ⟨y0, y1⟩ := HL.out.cells
  clear b HC
  go_wp2_with fail
  (with_reducible refine (P2.out _).mono ?_); rintro e v3 ⟨rfl, rfl⟩
  go_wp2_with fail
  go_quiet ((go_at_call 11; exact Calls.quiet_of_same (turned (P3.out _))))
  go_upto_region 7 with fail
  have HX := below_drewN (Below.refl (v2.alloc (.cells #[.int .i64 la, .int .i64 lg] 23)).heap.size (v2.alloc (.cells #[.int .i64 la, .int .i64 lg] 23))) nq
  replace HL := Lib.hid (HL.out.on HX)
  replace HD := Lib.hid ((HX.block _ (Array.getElem?_eq_some_iff.1 HD.out).1).trans HD.out)
  replace HB := Lib.hid (HB.out.trans (HX.mono HB.out.size))
  clear HX y0 y1 CL P2 P3 CAW
  generalize (v2.alloc (.cells #[.int .i64 la, .int .i64 lg] 23)).drewN nq = X0 at *
  have HDB : Hid (∀ W, Below X0.heap.size X0 W → W.heap[w.heap.size]? = some (.cells #[.int .i64 d0, .int .i64 d1] 30 (0, 0))) := Lib.hid (fun W hb => (hb.block _ (Array.getElem?_eq_some_iff.1 HD.out).1).trans HD.out)
  have HV : ∃ Vp : Nat → (Nat → Value) → World → Prop, Vp = (fun ix u wv => match ix with
    | 0 => u 0 = .agg #[.int .i64 la, .int .i64 lg]
    | 1 => u 1 = .int .i64 P
    | 2 => u 2 = .pointer (some ⟨w.heap.size, 0, none⟩)
    | 3 => u 3 = .int .i64 d0
    | 4 => u 4 = .int .i64 hf
    | 5 => u 5 = .int .i64 (2 * hf)
    | 6 => u 6 = .int .i64 (2 * hf + 1)
    | 7 => u 7 = .int .i64 K0
    | 8 => u 8 = .int .i64 (P + K0)
    | 9 => u 9 = .int .i64 hf
    | 10 => u 10 = .int .i64 (P + K0 - hf)
    | 11 => u 11 = .int .i64 (P + (la + lg) + lg + Q)
    | 12 => u 12 = .pointer (some ⟨w.heap.size, 1, none⟩)
    | 13 => u 13 = .int .i64 d1
    | 14 => u 14 = .int .i64 hf
    | 15 => u 15 = .int .i64 (2 * hf)
    | 16 => u 16 = .int .i64 (2 * hf + 1)
    | 17 => u 17 = .int .i64 K1
    | 18 => u 18 = .int .i64 (P + (la + lg) + lg + Q + K1)
    | 19 => u 19 = .int .i64 hf
    | 20 => u 20 = .int .i64 (P + (la + lg) + lg + Q + K1 - hf)
    | 21 => u 21 = .tuple #[.int .i64 (-1), .int .i64 0]
    | 22 => u 22 = .tuple #[.int .i64 (-1), .int .i64 0]
    | 23 => u 23 = .int .i64 (-1)
    | 24 => u 24 = .int .i64 0
    | 25 => u 25 = .int .i64 (-1)
    | 26 => u 26 = .int .i64 0
    | _ => True) := ⟨_, rfl⟩
  obtain ⟨Vp, hVdef⟩ := HV
  have Vp0 : ∀ u wv, Vp 0 u wv = (u 0 = .agg #[.int .i64 la, .int .i64 lg]) := fun u wv => by subst hVdef; rfl
  have Vp1 : ∀ u wv, Vp 1 u wv = (u 1 = .int .i64 P) := fun u wv => by subst hVdef; rfl
  have Vp2 : ∀ u wv, Vp 2 u wv = (u 2 = .pointer (some ⟨w.heap.size, 0, none⟩)) := fun u wv => by subst hVdef; rfl
  have Vp3 : ∀ u wv, Vp 3 u wv = (u 3 = .int .i64 d0) := fun u wv => by subst hVdef; rfl
  have Vp4 : ∀ u wv, Vp 4 u wv = (u 4 = .int .i64 hf) := fun u wv => by subst hVdef; rfl
  have Vp5 : ∀ u wv, Vp 5 u wv = (u 5 = .int .i64 (2 * hf)) := fun u wv => by subst hVdef; rfl
  have Vp6 : ∀ u wv, Vp 6 u wv = (u 6 = .int .i64 (2 * hf + 1)) := fun u wv => by subst hVdef; rfl
  have Vp7 : ∀ u wv, Vp 7 u wv = (u 7 = .int .i64 K0) := fun u wv => by subst hVdef; rfl
  have Vp8 : ∀ u wv, Vp 8 u wv = (u 8 = .int .i64 (P + K0)) := fun u wv => by subst hVdef; rfl
  have Vp9 : ∀ u wv, Vp 9 u wv = (u 9 = .int .i64 hf) := fun u wv => by subst hVdef; rfl
  have Vp10 : ∀ u wv, Vp 10 u wv = (u 10 = .int .i64 (P + K0 - hf)) := fun u wv => by subst hVdef; rfl
  have Vp11 : ∀ u wv, Vp 11 u wv = (u 11 = .int .i64 (P + (la + lg) + lg + Q)) := fun u wv => by subst hVdef; rfl
  have Vp12 : ∀ u wv, Vp 12 u wv = (u 12 = .pointer (some ⟨w.heap.size, 1, none⟩)) := fun u wv => by subst hVdef; rfl
  have Vp13 : ∀ u wv, Vp 13 u wv = (u 13 = .int .i64 d1) := fun u wv => by subst hVdef; rfl
  have Vp14 : ∀ u wv, Vp 14 u wv = (u 14 = .int .i64 hf) := fun u wv => by subst hVdef; rfl
  have Vp15 : ∀ u wv, Vp 15 u wv = (u 15 = .int .i64 (2 * hf)) := fun u wv => by subst hVdef; rfl
  have Vp16 : ∀ u wv, Vp 16 u wv = (u 16 = .int .i64 (2 * hf + 1)) := fun u wv => by subst hVdef; rfl
  have Vp17 : ∀ u wv, Vp 17 u wv = (u 17 = .int .i64 K1) := fun u wv => by subst hVdef; rfl
  have Vp18 : ∀ u wv, Vp 18 u wv = (u 18 = .int .i64 (P + (la + lg) + lg + Q + K1)) := fun u wv => by subst hVdef; rfl
  have Vp19 : ∀ u wv, Vp 19 u wv = (u 19 = .int .i64 hf) := fun u wv => by subst hVdef; rfl
  have Vp20 : ∀ u wv, Vp 20 u wv = (u 20 = .int .i64 (P + (la + lg) + lg + Q + K1 - hf)) := fun u wv => by subst hVdef; rfl
  have Vp21 : ∀ u wv, Vp 21 u wv = (u 21 = .tuple #[.int .i64 (-1), .int .i64 0]) := fun u wv => by subst hVdef; rfl
  have Vp22 : ∀ u wv, Vp 22 u wv = (u 22 = .tuple #[.int .i64 (-1), .int .i64 0]) := fun u wv => by subst hVdef; rfl
  have Vp23 : ∀ u wv, Vp 23 u wv = (u 23 = .int .i64 (-1)) := fun u wv => by subst hVdef; rfl
  have Vp24 : ∀ u wv, Vp 24 u wv = (u 24 = .int .i64 0) := fun u wv => by subst hVdef; rfl
  have Vp25 : ∀ u wv, Vp 25 u wv = (u 25 = .int .i64 (-1)) := fun u wv => by subst hVdef; rfl
  have Vp26 : ∀ u wv, Vp 26 u wv = (u 26 = .int .i64 0) := fun u wv => by subst hVdef; rfl
  have HVD := Lib.hid hVdef
  clear hVdef
  refine region_each (V := Vp) (drop := fun _ _ => false) (G := fun wv => Below X0.heap.size X0 wv) (Rel := fun jx wv wv' => Below wv.heap.size wv wv') (by kernel_rfl) (by kernel_rfl) (Below.refl _ _).drew ?hmonoq1 ?hdepq1 ⟨?s0_q1, ?s1_q1, ?s2_q1, ?s3_q1, ?s4_q1, ?s5_q1, ?s6_q1, ?s7_q1, ?s8_q1, ?s9_q1, ?s10_q1, ?s11_q1, ?s12_q1, ?s13_q1, ?s14_q1, ?s15_q1, ?s16_q1, ?s17_q1, ?s18_q1, ?s19_q1, ?s20_q1, ?s21_q1, ?s22_q1, ?s23_q1, ?s24_q1, ?s25_q1, ?s26_q1, trivial⟩ ?behindq1
  case hmonoq1 =>
    intro ix jx u wv wv' hij hw hd hr
    rw [HVD.out]
    dsimp only
    split <;> intro h <;> first | exact trivial | exact h
  case hdepq1 =>
    intro ix u u' wv h1 h2
    rw [HVD.out]
    dsimp only
    split <;> intro h <;> first | exact trivial | (rw [← h1]; exact h)
  case s0_q1 =>
    refine owe rfl fun a wx val hG hV hN hO K hK => ?_
    have e12 : a.tmps[12]? = some (.pointer (some ⟨v2.heap.size, 0, none⟩)) := (hO 12 (by kernel_rfl)).trans (by rfl)
    clear hV hN hO
    obtain ⟨y0, y1⟩ := (HL.out.on hG).cells ; have y2 := cell_of (HDB.out _ hG) 0 ; have y3 := cell_of (HDB.out _ hG) 1
    go_simp
    exact hK.out _ _ (by rw [Vp0, upd_at] <;> (congr 1 <;> omega)) (Below.refl _ _) hG
  case s1_q1 =>
    refine owe rfl fun a wx val hG hV hN hO K hK => ?_
    have e14 : a.tmps[14]? = some (.int .i64 P) := (hO 14 (by kernel_rfl)).trans (by rfl)
    clear hV hN hO
    go_simp
    exact hK.out _ _ (by rw [Vp1, upd_at] <;> (congr 1 <;> omega)) (Below.refl _ _) hG
  case s2_q1 =>
    refine owe rfl fun a wx val hG hV hN hO K hK => ?_
    have e9 : a.tmps[9]? = some (.pointer (some ⟨w.heap.size, 0, none⟩)) := (hO 9 (by kernel_rfl)).trans (by rfl)
    clear hV hN hO
    go_simp
    exact hK.out _ _ (by rw [Vp2, upd_at] <;> (congr 1 <;> omega)) (Below.refl _ _) hG
  case s3_q1 =>
    refine owe rfl fun a wx val hG hV hN hO K hK => ?_
    have e49 := hN 2 49 (by kernel_rfl) (by kernel_rfl) (by simp)
    have f49 := hV 2 (by kernel_rfl) (by kernel_rfl)
    rw [Vp2] at f49; rw [f49] at e49; clear f49
    clear hV hN hO
    obtain ⟨y0, y1⟩ := (HL.out.on hG).cells ; have y2 := cell_of (HDB.out _ hG) 0 ; have y3 := cell_of (HDB.out _ hG) 1
    go_simp
    exact hK.out _ _ (by rw [Vp3, upd_at] <;> (congr 1 <;> omega)) (Below.refl _ _) hG
  case s4_q1 =>
    refine owe rfl fun a wx val hG hV hN hO K hK => ?_
    have e16 : a.tmps[16]? = some (.int .i64 hf) := (hO 16 (by kernel_rfl)).trans (by rfl)
    clear hV hN hO
    go_simp
    exact hK.out _ _ (by rw [Vp4, upd_at] <;> (congr 1 <;> omega)) (Below.refl _ _) hG
  case s5_q1 =>
    refine owe rfl fun a wx val hG hV hN hO K hK => ?_
    have e51 := hN 4 51 (by kernel_rfl) (by kernel_rfl) (by simp)
    have f51 := hV 4 (by kernel_rfl) (by kernel_rfl)
    rw [Vp4] at f51; rw [f51] at e51; clear f51
    clear hV hN hO
    have q1 : IntKind.i64.wrap (2 * hf) = 2 * hf := IntWalk.i64_in _ (by omega)
    go_simp
    exact hK.out _ _ (by rw [Vp5, upd_at] <;> (congr 1 <;> omega)) (Below.refl _ _) hG
  case s6_q1 =>
    refine owe rfl fun a wx val hG hV hN hO K hK => ?_
    have e52 := hN 5 52 (by kernel_rfl) (by kernel_rfl) (by simp)
    have f52 := hV 5 (by kernel_rfl) (by kernel_rfl)
    rw [Vp5] at f52; rw [f52] at e52; clear f52
    clear hV hN hO
    have q1 : IntKind.i64.wrap (2 * hf + 1) = 2 * hf + 1 := IntWalk.i64_in _ (by omega)
    go_simp
    exact hK.out _ _ (by rw [Vp6, upd_at] <;> (congr 1 <;> omega)) (Below.refl _ _) hG
  case s7_q1 =>
    refine owe rfl fun a wx val hG hV hN hO K hK => ?_
    have e50 := hN 3 50 (by kernel_rfl) (by kernel_rfl) (by simp)
    have f50 := hV 3 (by kernel_rfl) (by kernel_rfl)
    rw [Vp3] at f50; rw [f50] at e50; clear f50
    have e53 := hN 6 53 (by kernel_rfl) (by kernel_rfl) (by simp)
    have f53 := hV 6 (by kernel_rfl) (by kernel_rfl)
    rw [Vp6] at f53; rw [f53] at e53; clear f53
    clear hV hN hO
    go_simp
    refine (D0.out _).mono ?_
    rintro e w11 ⟨rfl, rfl⟩
    exact hK.out _ _ (by rw [Vp7, upd_at] <;> (congr 1 <;> omega)) (Below.refl _ _) hG
  case s8_q1 =>
    refine owe rfl fun a wx val hG hV hN hO K hK => ?_
    have e48 := hN 1 48 (by kernel_rfl) (by kernel_rfl) (by simp)
    have f48 := hV 1 (by kernel_rfl) (by kernel_rfl)
    rw [Vp1] at f48; rw [f48] at e48; clear f48
    have e54 := hN 7 54 (by kernel_rfl) (by kernel_rfl) (by simp)
    have f54 := hV 7 (by kernel_rfl) (by kernel_rfl)
    rw [Vp7] at f54; rw [f54] at e54; clear f54
    clear hV hN hO
    have q1 : IntKind.i64.wrap (P + K0) = P + K0 := IntWalk.i64_in _ (by omega)
    go_simp
    exact hK.out _ _ (by rw [Vp8, upd_at] <;> (congr 1 <;> omega)) (Below.refl _ _) hG
  case s9_q1 =>
    refine owe rfl fun a wx val hG hV hN hO K hK => ?_
    have e16 : a.tmps[16]? = some (.int .i64 hf) := (hO 16 (by kernel_rfl)).trans (by rfl)
    clear hV hN hO
    go_simp
    exact hK.out _ _ (by rw [Vp9, upd_at] <;> (congr 1 <;> omega)) (Below.refl _ _) hG
  case s10_q1 =>
    refine owe rfl fun a wx val hG hV hN hO K hK => ?_
    have e55 := hN 8 55 (by kernel_rfl) (by kernel_rfl) (by simp)
    have f55 := hV 8 (by kernel_rfl) (by kernel_rfl)
    rw [Vp8] at f55; rw [f55] at e55; clear f55
    have e56 := hN 9 56 (by kernel_rfl) (by kernel_rfl) (by simp)
    have f56 := hV 9 (by kernel_rfl) (by kernel_rfl)
    rw [Vp9] at f56; rw [f56] at e56; clear f56
    clear hV hN hO
    have q1 : IntKind.i64.wrap (P + K0 - hf) = P + K0 - hf := IntWalk.i64_in _ (by omega)
    go_simp
    exact hK.out _ _ (by rw [Vp10, upd_at] <;> (congr 1 <;> omega)) (Below.refl _ _) hG
  case s11_q1 =>
    refine owe rfl fun a wx val hG hV hN hO K hK => ?_
    have e15 : a.tmps[15]? = some (.int .i64 (P + (la + lg) + lg + Q)) := (hO 15 (by kernel_rfl)).trans (by rfl)
    clear hV hN hO
    go_simp
    exact hK.out _ _ (by rw [Vp11, upd_at] <;> (congr 1 <;> omega)) (Below.refl _ _) hG
  case s12_q1 =>
    refine owe rfl fun a wx val hG hV hN hO K hK => ?_
    have e9 : a.tmps[9]? = some (.pointer (some ⟨w.heap.size, 0, none⟩)) := (hO 9 (by kernel_rfl)).trans (by rfl)
    clear hV hN hO
    go_simp
    exact hK.out _ _ (by rw [Vp12, upd_at] <;> (congr 1 <;> omega)) (Below.refl _ _) hG
  case s13_q1 =>
    refine owe rfl fun a wx val hG hV hN hO K hK => ?_
    have e59 := hN 12 59 (by kernel_rfl) (by kernel_rfl) (by simp)
    have f59 := hV 12 (by kernel_rfl) (by kernel_rfl)
    rw [Vp12] at f59; rw [f59] at e59; clear f59
    clear hV hN hO
    obtain ⟨y0, y1⟩ := (HL.out.on hG).cells ; have y2 := cell_of (HDB.out _ hG) 0 ; have y3 := cell_of (HDB.out _ hG) 1
    go_simp
    exact hK.out _ _ (by rw [Vp13, upd_at] <;> (congr 1 <;> omega)) (Below.refl _ _) hG
  case s14_q1 =>
    refine owe rfl fun a wx val hG hV hN hO K hK => ?_
    have e16 : a.tmps[16]? = some (.int .i64 hf) := (hO 16 (by kernel_rfl)).trans (by rfl)
    clear hV hN hO
    go_simp
    exact hK.out _ _ (by rw [Vp14, upd_at] <;> (congr 1 <;> omega)) (Below.refl _ _) hG
  case s15_q1 =>
    refine owe rfl fun a wx val hG hV hN hO K hK => ?_
    have e61 := hN 14 61 (by kernel_rfl) (by kernel_rfl) (by simp)
    have f61 := hV 14 (by kernel_rfl) (by kernel_rfl)
    rw [Vp14] at f61; rw [f61] at e61; clear f61
    clear hV hN hO
    have q1 : IntKind.i64.wrap (2 * hf) = 2 * hf := IntWalk.i64_in _ (by omega)
    go_simp
    exact hK.out _ _ (by rw [Vp15, upd_at] <;> (congr 1 <;> omega)) (Below.refl _ _) hG
  case s16_q1 =>
    refine owe rfl fun a wx val hG hV hN hO K hK => ?_
    have e62 := hN 15 62 (by kernel_rfl) (by kernel_rfl) (by simp)
    have f62 := hV 15 (by kernel_rfl) (by kernel_rfl)
    rw [Vp15] at f62; rw [f62] at e62; clear f62
    clear hV hN hO
    have q1 : IntKind.i64.wrap (2 * hf + 1) = 2 * hf + 1 := IntWalk.i64_in _ (by omega)
    go_simp
    exact hK.out _ _ (by rw [Vp16, upd_at] <;> (congr 1 <;> omega)) (Below.refl _ _) hG
  case s17_q1 =>
    refine owe rfl fun a wx val hG hV hN hO K hK => ?_
    have e60 := hN 13 60 (by kernel_rfl) (by kernel_rfl) (by simp)
    have f60 := hV 13 (by kernel_rfl) (by kernel_rfl)
    rw [Vp13] at f60; rw [f60] at e60; clear f60
    have e63 := hN 16 63 (by kernel_rfl) (by kernel_rfl) (by simp)
    have f63 := hV 16 (by kernel_rfl) (by kernel_rfl)
    rw [Vp16] at f63; rw [f63] at e63; clear f63
    clear hV hN hO
    go_simp
    refine (D1.out _).mono ?_
    rintro e w11 ⟨rfl, rfl⟩
    exact hK.out _ _ (by rw [Vp17, upd_at] <;> (congr 1 <;> omega)) (Below.refl _ _) hG
  case s18_q1 =>
    refine owe rfl fun a wx val hG hV hN hO K hK => ?_
    have e58 := hN 11 58 (by kernel_rfl) (by kernel_rfl) (by simp)
    have f58 := hV 11 (by kernel_rfl) (by kernel_rfl)
    rw [Vp11] at f58; rw [f58] at e58; clear f58
    have e64 := hN 17 64 (by kernel_rfl) (by kernel_rfl) (by simp)
    have f64 := hV 17 (by kernel_rfl) (by kernel_rfl)
    rw [Vp17] at f64; rw [f64] at e64; clear f64
    clear hV hN hO
    have q1 : IntKind.i64.wrap (P + (la + lg) + lg + Q + K1) = P + (la + lg) + lg + Q + K1 := IntWalk.i64_in _ (by omega)
    go_simp
    exact hK.out _ _ (by rw [Vp18, upd_at] <;> (congr 1 <;> omega)) (Below.refl _ _) hG
  case s19_q1 =>
    refine owe rfl fun a wx val hG hV hN hO K hK => ?_
    have e16 : a.tmps[16]? = some (.int .i64 hf) := (hO 16 (by kernel_rfl)).trans (by rfl)
    clear hV hN hO
    go_simp
    exact hK.out _ _ (by rw [Vp19, upd_at] <;> (congr 1 <;> omega)) (Below.refl _ _) hG
  case s20_q1 =>
    refine owe rfl fun a wx val hG hV hN hO K hK => ?_
    have e65 := hN 18 65 (by kernel_rfl) (by kernel_rfl) (by simp)
    have f65 := hV 18 (by kernel_rfl) (by kernel_rfl)
    rw [Vp18] at f65; rw [f65] at e65; clear f65
    have e66 := hN 19 66 (by kernel_rfl) (by kernel_rfl) (by simp)
    have f66 := hV 19 (by kernel_rfl) (by kernel_rfl)
    rw [Vp19] at f66; rw [f66] at e66; clear f66
    clear hV hN hO
    have q1 : IntKind.i64.wrap (P + (la + lg) + lg + Q + K1 - hf) = P + (la + lg) + lg + Q + K1 - hf := IntWalk.i64_in _ (by omega)
    go_simp
    exact hK.out _ _ (by rw [Vp20, upd_at] <;> (congr 1 <;> omega)) (Below.refl _ _) hG
  case s21_q1 =>
    refine owe rfl fun a wx val hG hV hN hO K hK => ?_
    have e47 := hN 0 47 (by kernel_rfl) (by kernel_rfl) (by simp)
    have f47 := hV 0 (by kernel_rfl) (by kernel_rfl)
    rw [Vp0] at f47; rw [f47] at e47; clear f47
    have e57 := hN 10 57 (by kernel_rfl) (by kernel_rfl) (by simp)
    have f57 := hV 10 (by kernel_rfl) (by kernel_rfl)
    rw [Vp10] at f57; rw [f57] at e57; clear f57
    have e67 := hN 20 67 (by kernel_rfl) (by kernel_rfl) (by simp)
    have f67 := hV 20 (by kernel_rfl) (by kernel_rfl)
    rw [Vp20] at f67; rw [f67] at e67; clear f67
    clear hV hN hO
    go_simp
    refine (CO.out _).mono ?_
    rintro e w11 ⟨rfl, hb⟩
    exact hK.out _ _ (by rw [Vp21, upd_at]) hb (hG.trans (hb.mono hG.size))
  case s22_q1 =>
    refine owe rfl fun a wx val hG hV hN hO K hK => ?_
    have e68 := hN 21 68 (by kernel_rfl) (by kernel_rfl) (by simp)
    have f68 := hV 21 (by kernel_rfl) (by kernel_rfl)
    rw [Vp21] at f68; rw [f68] at e68; clear f68
    clear hV hN hO
    go_simp
    exact hK.out _ _ (by rw [Vp22, upd_at] <;> (congr 1 <;> omega)) (Below.refl _ _) hG
  case s23_q1 =>
    refine owe rfl fun a wx val hG hV hN hO K hK => ?_
    have e46 := hN 22 46 (by kernel_rfl) (by kernel_rfl) (by simp)
    have f46 := hV 22 (by kernel_rfl) (by kernel_rfl)
    rw [Vp22] at f46; rw [f46] at e46; clear f46
    clear hV hN hO
    go_simp
    exact hK.out _ _ (by rw [Vp23, upd_at] <;> (congr 1 <;> omega)) (Below.refl _ _) hG
  case s24_q1 =>
    refine owe rfl fun a wx val hG hV hN hO K hK => ?_
    have e46 := hN 22 46 (by kernel_rfl) (by kernel_rfl) (by simp)
    have f46 := hV 22 (by kernel_rfl) (by kernel_rfl)
    rw [Vp22] at f46; rw [f46] at e46; clear f46
    clear hV hN hO
    go_simp
    exact hK.out _ _ (by rw [Vp24, upd_at] <;> (congr 1 <;> omega)) (Below.refl _ _) hG
  case s25_q1 =>
    refine owe rfl fun a wx val hG hV hN hO K hK => ?_
    have e69 := hN 23 69 (by kernel_rfl) (by kernel_rfl) (by simp)
    have f69 := hV 23 (by kernel_rfl) (by kernel_rfl)
    rw [Vp23] at f69; rw [f69] at e69; clear f69
    clear hV hN hO
    go_simp
    exact hK.out _ _ (by rw [Vp25, upd_at] <;> (congr 1 <;> omega)) (Below.refl _ _) hG
  case s26_q1 =>
    refine owe rfl fun a wx val hG hV hN hO K hK => ?_
    have e70 := hN 24 70 (by kernel_rfl) (by kernel_rfl) (by simp)
    have f70 := hV 24 (by kernel_rfl) (by kernel_rfl)
    rw [Vp24] at f70; rw [f70] at e70; clear f70
    clear hV hN hO
    go_simp
    exact hK.out _ _ (by rw [Vp26, upd_at] <;> (congr 1 <;> omega)) (Below.refl _ _) hG
  intro val wx hG hV
  have f0 := hV 0 (by simp) (fun _ _ => by rfl)
  rw [Vp0] at f0
  have f1 := hV 1 (by simp) (fun _ _ => by rfl)
  rw [Vp1] at f1
  have f2 := hV 2 (by simp) (fun _ _ => by rfl)
  rw [Vp2] at f2
  have f3 := hV 3 (by simp) (fun _ _ => by rfl)
  rw [Vp3] at f3
  have f4 := hV 4 (by simp) (fun _ _ => by rfl)
  rw [Vp4] at f4
  have f5 := hV 5 (by simp) (fun _ _ => by rfl)
  rw [Vp5] at f5
  have f6 := hV 6 (by simp) (fun _ _ => by rfl)
  rw [Vp6] at f6
  have f7 := hV 7 (by simp) (fun _ _ => by rfl)
  rw [Vp7] at f7
  have f8 := hV 8 (by simp) (fun _ _ => by rfl)
  rw [Vp8] at f8
  have f9 := hV 9 (by simp) (fun _ _ => by rfl)
  rw [Vp9] at f9
  have f10 := hV 10 (by simp) (fun _ _ => by rfl)
  rw [Vp10] at f10
  have f11 := hV 11 (by simp) (fun _ _ => by rfl)
  rw [Vp11] at f11
  have f12 := hV 12 (by simp) (fun _ _ => by rfl)
  rw [Vp12] at f12
  have f13 := hV 13 (by simp) (fun _ _ => by rfl)
  rw [Vp13] at f13
  have f14 := hV 14 (by simp) (fun _ _ => by rfl)
  rw [Vp14] at f14
  have f15 := hV 15 (by simp) (fun _ _ => by rfl)
  rw [Vp15] at f15
  have f16 := hV 16 (by simp) (fun _ _ => by rfl)
  rw [Vp16] at f16
  have f17 := hV 17 (by simp) (fun _ _ => by rfl)
  rw [Vp17] at f17
  have f18 := hV 18 (by simp) (fun _ _ => by rfl)
  rw [Vp18] at f18
  have f19 := hV 19 (by simp) (fun _ _ => by rfl)
  rw [Vp19] at f19
  have f20 := hV 20 (by simp) (fun _ _ => by rfl)
  rw [Vp20] at f20
  have f21 := hV 21 (by simp) (fun _ _ => by rfl)
  rw [Vp21] at f21
  have f22 := hV 22 (by simp) (fun _ _ => by rfl)
  rw [Vp22] at f22
  have f23 := hV 23 (by simp) (fun _ _ => by rfl)
  rw [Vp23] at f23
  have f24 := hV 24 (by simp) (fun _ _ => by rfl)
  rw [Vp24] at f24
  have f25 := hV 25 (by simp) (fun _ _ => by rfl)
  rw [Vp25] at f25
  have f26 := hV 26 (by simp) (fun _ _ => by rfl)
  rw [Vp26] at f26
  clear hV Vp0 Vp1 Vp2 Vp3 Vp4 Vp5 Vp6 Vp7 Vp8 Vp9 Vp10 Vp11 Vp12 Vp13 Vp14 Vp15 Vp16 Vp17 Vp18 Vp19 Vp20 Vp21 Vp22 Vp23 Vp24 Vp25 Vp26
  simp only [putAll, Act.put, List.setIfInBounds_toArray, List.set_cons_zero, List.set_cons_succ]
  generalize val 0 = z0 at *; (subst f0)
  generalize val 1 = z1 at *; (subst f1)
  generalize val 2 = z2 at *; (subst f2)
  generalize val 3 = z3 at *; (subst f3)
  generalize val 4 = z4 at *; (subst f4)
  generalize val 5 = z5 at *; (subst f5)
  generalize val 6 = z6 at *; (subst f6)
  generalize val 7 = z7 at *; (subst f7)
  generalize val 8 = z8 at *; (subst f8)
  generalize val 9 = z9 at *; (subst f9)
  generalize val 10 = z10 at *; (subst f10)
  generalize val 11 = z11 at *; (subst f11)
  generalize val 12 = z12 at *; (subst f12)
  generalize val 13 = z13 at *; (subst f13)
  generalize val 14 = z14 at *; (subst f14)
  generalize val 15 = z15 at *; (subst f15)
  generalize val 16 = z16 at *; (subst f16)
  generalize val 17 = z17 at *; (subst f17)
  generalize val 18 = z18 at *; (subst f18)
  generalize val 19 = z19 at *; (subst f19)
  generalize val 20 = z20 at *; (subst f20)
  generalize val 21 = z21 at *; (subst f21)
  generalize val 22 = z22 at *; (subst f22)
  generalize val 23 = z23 at *; (subst f23)
  generalize val 24 = z24 at *; (subst f24)
  generalize val 25 = z25 at *; (subst f25)
  generalize val 26 = z26 at *; (subst f26)
  clear HVD
  go_upto_region 8 with fail
  have HL8 := Lib.hid (HL.out.on hG)
  have HB8 := Lib.hid (HB.out.trans (hG.mono HB.out.size))
  generalize wx = X1 at *
  clear HL HB HD HDB hG CO D0 D1
  have HV : ∃ Vp : Nat → (Nat → Value) → World → Prop, Vp = (fun ix u wv => match ix with
    | 0 => u 0 = .agg #[.int .i64 la, .int .i64 lg]
    | 1 => u 1 = .int .i64 a3
    | 2 => u 2 = .int .i64 R
    | 3 => u 3 = .tuple #[.int .i64 N, .int .i64 0]
    | 4 => u 4 = .tuple #[.int .i64 N, .int .i64 0]
    | 5 => u 5 = .int .i64 N
    | 6 => u 6 = .int .i64 0
    | 7 => u 7 = .int .i64 N
    | 8 => u 8 = .int .i64 0
    | _ => True) := ⟨_, rfl⟩
  obtain ⟨Vp, hVdef⟩ := HV
  have Vp0 : ∀ u wv, Vp 0 u wv = (u 0 = .agg #[.int .i64 la, .int .i64 lg]) := fun u wv => by subst hVdef; rfl
  have Vp1 : ∀ u wv, Vp 1 u wv = (u 1 = .int .i64 a3) := fun u wv => by subst hVdef; rfl
  have Vp2 : ∀ u wv, Vp 2 u wv = (u 2 = .int .i64 R) := fun u wv => by subst hVdef; rfl
  have Vp3 : ∀ u wv, Vp 3 u wv = (u 3 = .tuple #[.int .i64 N, .int .i64 0]) := fun u wv => by subst hVdef; rfl
  have Vp4 : ∀ u wv, Vp 4 u wv = (u 4 = .tuple #[.int .i64 N, .int .i64 0]) := fun u wv => by subst hVdef; rfl
  have Vp5 : ∀ u wv, Vp 5 u wv = (u 5 = .int .i64 N) := fun u wv => by subst hVdef; rfl
  have Vp6 : ∀ u wv, Vp 6 u wv = (u 6 = .int .i64 0) := fun u wv => by subst hVdef; rfl
  have Vp7 : ∀ u wv, Vp 7 u wv = (u 7 = .int .i64 N) := fun u wv => by subst hVdef; rfl
  have Vp8 : ∀ u wv, Vp 8 u wv = (u 8 = .int .i64 0) := fun u wv => by subst hVdef; rfl
  have HVD := Lib.hid hVdef
  clear hVdef
  refine region_each (V := Vp) (drop := fun _ _ => false) (G := fun wv => Below X1.heap.size X1 wv) (Rel := fun jx wv wv' => Below wv.heap.size wv wv') (by kernel_rfl) (by kernel_rfl) (Below.refl _ _).drew ?hmonoq2 ?hdepq2 ⟨?s0_q2, ?s1_q2, ?s2_q2, ?s3_q2, ?s4_q2, ?s5_q2, ?s6_q2, ?s7_q2, ?s8_q2, trivial⟩ ?behindq2
  case hmonoq2 =>
    intro ix jx u wv wv' hij hw hd hr
    rw [HVD.out]
    dsimp only
    split <;> intro h <;> first | exact trivial | exact h
  case hdepq2 =>
    intro ix u u' wv h1 h2
    rw [HVD.out]
    dsimp only
    split <;> intro h <;> first | exact trivial | (rw [← h1]; exact h)
  case s0_q2 =>
    refine owe rfl fun a wx val hG hV hN hO K hK => ?_
    have e12 : a.tmps[12]? = some (.pointer (some ⟨v2.heap.size, 0, none⟩)) := (hO 12 (by kernel_rfl)).trans (by rfl)
    clear hV hN hO
    obtain ⟨y0, y1⟩ := (HL8.out.on hG).cells
    go_simp
    exact hK.out _ _ (by rw [Vp0, upd_at] <;> (congr 1 <;> omega)) (Below.refl _ _) hG
  case s1_q2 =>
    refine owe rfl fun a wx val hG hV hN hO K hK => ?_
    have e3 : a.tmps[3]? = some (.int .i64 a3) := (hO 3 (by kernel_rfl)).trans (by rfl)
    clear hV hN hO
    go_simp
    exact hK.out _ _ (by rw [Vp1, upd_at] <;> (congr 1 <;> omega)) (Below.refl _ _) hG
  case s2_q2 =>
    refine owe rfl fun a wx val hG hV hN hO K hK => ?_
    have e73 := hN 1 73 (by kernel_rfl) (by kernel_rfl) (by simp)
    have f73 := hV 1 (by kernel_rfl) (by kernel_rfl)
    rw [Vp1] at f73; rw [f73] at e73; clear f73
    clear hV hN hO
    go_simp
    refine (P4.out _).mono ?_
    rintro e w11 ⟨rfl, rfl⟩
    exact hK.out _ _ (by rw [Vp2, upd_at] <;> (congr 1 <;> omega)) (Below.refl _ _) hG
  case s3_q2 =>
    refine owe rfl fun a wx val hG hV hN hO K hK => ?_
    have e72 := hN 0 72 (by kernel_rfl) (by kernel_rfl) (by simp)
    have f72 := hV 0 (by kernel_rfl) (by kernel_rfl)
    rw [Vp0] at f72; rw [f72] at e72; clear f72
    have e74 := hN 2 74 (by kernel_rfl) (by kernel_rfl) (by simp)
    have f74 := hV 2 (by kernel_rfl) (by kernel_rfl)
    rw [Vp2] at f74; rw [f74] at e74; clear f74
    clear hV hN hO
    go_simp
    refine (CB.out _).mono ?_
    rintro e w11 ⟨rfl, hb⟩
    exact hK.out _ _ (by rw [Vp3, upd_at]) hb (hG.trans (hb.mono hG.size))
  case s4_q2 =>
    refine owe rfl fun a wx val hG hV hN hO K hK => ?_
    have e75 := hN 3 75 (by kernel_rfl) (by kernel_rfl) (by simp)
    have f75 := hV 3 (by kernel_rfl) (by kernel_rfl)
    rw [Vp3] at f75; rw [f75] at e75; clear f75
    clear hV hN hO
    go_simp
    exact hK.out _ _ (by rw [Vp4, upd_at] <;> (congr 1 <;> omega)) (Below.refl _ _) hG
  case s5_q2 =>
    refine owe rfl fun a wx val hG hV hN hO K hK => ?_
    have e71 := hN 4 71 (by kernel_rfl) (by kernel_rfl) (by simp)
    have f71 := hV 4 (by kernel_rfl) (by kernel_rfl)
    rw [Vp4] at f71; rw [f71] at e71; clear f71
    clear hV hN hO
    go_simp
    exact hK.out _ _ (by rw [Vp5, upd_at] <;> (congr 1 <;> omega)) (Below.refl _ _) hG
  case s6_q2 =>
    refine owe rfl fun a wx val hG hV hN hO K hK => ?_
    have e71 := hN 4 71 (by kernel_rfl) (by kernel_rfl) (by simp)
    have f71 := hV 4 (by kernel_rfl) (by kernel_rfl)
    rw [Vp4] at f71; rw [f71] at e71; clear f71
    clear hV hN hO
    go_simp
    exact hK.out _ _ (by rw [Vp6, upd_at] <;> (congr 1 <;> omega)) (Below.refl _ _) hG
  case s7_q2 =>
    refine owe rfl fun a wx val hG hV hN hO K hK => ?_
    have e76 := hN 5 76 (by kernel_rfl) (by kernel_rfl) (by simp)
    have f76 := hV 5 (by kernel_rfl) (by kernel_rfl)
    rw [Vp5] at f76; rw [f76] at e76; clear f76
    clear hV hN hO
    go_simp
    exact hK.out _ _ (by rw [Vp7, upd_at] <;> (congr 1 <;> omega)) (Below.refl _ _) hG
  case s8_q2 =>
    refine owe rfl fun a wx val hG hV hN hO K hK => ?_
    have e77 := hN 6 77 (by kernel_rfl) (by kernel_rfl) (by simp)
    have f77 := hV 6 (by kernel_rfl) (by kernel_rfl)
    rw [Vp6] at f77; rw [f77] at e77; clear f77
    clear hV hN hO
    go_simp
    exact hK.out _ _ (by rw [Vp8, upd_at] <;> (congr 1 <;> omega)) (Below.refl _ _) hG
  intro val wx hG hV
  have f0 := hV 0 (by simp) (fun _ _ => by rfl)
  rw [Vp0] at f0
  have f1 := hV 1 (by simp) (fun _ _ => by rfl)
  rw [Vp1] at f1
  have f2 := hV 2 (by simp) (fun _ _ => by rfl)
  rw [Vp2] at f2
  have f3 := hV 3 (by simp) (fun _ _ => by rfl)
  rw [Vp3] at f3
  have f4 := hV 4 (by simp) (fun _ _ => by rfl)
  rw [Vp4] at f4
  have f5 := hV 5 (by simp) (fun _ _ => by rfl)
  rw [Vp5] at f5
  have f6 := hV 6 (by simp) (fun _ _ => by rfl)
  rw [Vp6] at f6
  have f7 := hV 7 (by simp) (fun _ _ => by rfl)
  rw [Vp7] at f7
  have f8 := hV 8 (by simp) (fun _ _ => by rfl)
  rw [Vp8] at f8
  clear hV Vp0 Vp1 Vp2 Vp3 Vp4 Vp5 Vp6 Vp7 Vp8
  simp only [putAll, Act.put, List.setIfInBounds_toArray, List.set_cons_zero, List.set_cons_succ]
  generalize val 0 = z0 at *; (subst f0)
  generalize val 1 = z1 at *; (subst f1)
  generalize val 2 = z2 at *; (subst f2)
  generalize val 3 = z3 at *; (subst f3)
  generalize val 4 = z4 at *; (subst f4)
  generalize val 5 = z5 at *; (subst f5)
  generalize val 6 = z6 at *; (subst f6)
  generalize val 7 = z7 at *; (subst f7)
  generalize val 8 = z8 at *; (subst f8)
  clear HVD
  obtain ⟨y0, y1⟩ := (HL8.out.on hG).cells
  have HB9 := Lib.hid (HB8.out.trans (hG.mono HB8.out.size))
  clear hG HL8 HB8
  go_wp2_with fail
  (with_reducible refine (CP.out _).mono ?_); rintro e v5 ⟨rfl, b⟩
  have HB10 := Lib.hid (HB9.out.trans (b.mono HB9.out.size))
  clear b y0 y1
  go_wp2_with fail
  go_ret
  exact ⟨rfl, HB10.out⟩

end Go.Proofs.Ytlgbgkiajhcneaa

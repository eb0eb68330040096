/-
  The law SchedLater: so many slots later, and so many again, is so many as both together.
-/
import Derived.Test.YtngcfdciehoicaaSchInts
import Derived.Test.YtngcfdciehoicaaSchCount
namespace Go.Proofs.Ytngcfdciehoicaa
open Go.RowKit

set_option maxRecDepth 100000 in
set_option maxHeartbeats 8000000 in
theorem schedLater_walk (a0 : Int) (A1 : Option Addr) (c1 : Nat) (l1 : List Int) (a2 a3 a4 a5 a6 : Int) (w0 : (Lit.int .i64 a0).wf = true) (w2 : (Lit.int .i64 a2).wf = true) (w3 : (Lit.int .i64 a3).wf = true) (w4 : (Lit.int .i64 a4).wf = true) (w5 : (Lit.int .i64 a5).wf = true) (w6 : (Lit.int .i64 a6).wf = true) (w : World) (f1 : IntsOk w A1 c1 l1) :
    Calls Try.prog 6 #[.int .i64 a0, .slice A1 l1.length c1, .int .i64 a2, .int .i64 a3, .int .i64 a4, .int .i64 a5, .int .i64 a6] w fun e w' => e = .returned (.bool true) ∧ Below w.heap.size w w' := by
  obtain ⟨l, C, hR, -, cpl⟩ := raw_plan a0 a2 a3 w0 w2 w3 A1 c1 l1 w f1
  have r4 := pickI_range a4 274877906944 (by omega)
  have r5 := pickI_range a5 1048576 (by omega)
  have r6 := pickI_range a6 1048576 (by omega)
  have ct := fun W => pick8_any a4 274877906944 w4 (by omega) W
  have cm := fun W => pick8_any a5 1048576 w5 (by omega) W
  have cn := fun W => pick8_any a6 1048576 w6 (by omega) W
  generalize pickI a4 274877906944 = t at *
  generalize pickI a5 1048576 = m' at *
  generalize pickI a6 1048576 = n' at *
  obtain ⟨m, rfl⟩ : ∃ m : Nat, m' = (m : Int) := ⟨m'.toNat, by omega⟩
  obtain ⟨n, rfl⟩ : ∃ n : Nat, n' = (n : Int) := ⟨n'.toNat, by omega⟩
  have CP := Lib.hid cpl; clear cpl
  have CT := Lib.hid ct; clear ct
  have CM := Lib.hid cm; clear cm
  have CN := Lib.hid cn; clear cn
  have hl2 := rightS_len hR
  have hlm : l.length ≤ maxLen := by unfold maxLen; omega
  obtain ⟨t0, t1⟩ := r4
  obtain ⟨ht, hne, hC⟩ := right_at_facts hR
  obtain ⟨e1, e2⟩ := atE_zero hR t0 (by omega : t ≤ 1099511627776)
  obtain ⟨v1, v2⟩ := val_spot (c := C) ht hne hC.1 t0
  obtain ⟨e5, e6⟩ := time_at hR t0 (by omega : t ≤ 1099511627776)
  have AT1 := Lib.hid (fun A c W h => at_any A c C l hlm t W h)
  rw [e1, e2] at AT1
  -- the spots
  obtain ⟨S, hS⟩ : ∃ S, spotS l C t = S := ⟨_, rfl⟩
  rw [hS] at v1 v2 AT1 e5 e6
  obtain ⟨Y, Z, YA, YV, ZV, la0, la1, lb0, lb1, lc0, lc1, ly0, ly1, lz0, lz1, hyz, hm1, hzy, hz40, hy0⟩ : ∃ (Y Z : Spot) (YA : Unit) (YV ZV : Int), laterE l C S m = 0 ∧ laterV l C S m = Y ∧ laterE l C Y ((n + 1 : Nat) : Int) = 0 ∧ laterV l C Y ((n + 1 : Nat) : Int) = Z ∧ laterE l C S ((m + (n + 1) : Nat) : Int) = 0 ∧ laterV l C S ((m + (n + 1) : Nat) : Int) = Z ∧
      timeE l C Y = 0 ∧ timeV l C Y = YV ∧ timeE l C Z = 0 ∧ timeV l C Z = ZV ∧ YV < ZV ∧ ((m = 0 ∧ Y = S) ∨ (0 < m ∧ t < YV ∧ Y.tck = 0)) ∧ ZV - YV ≤ 1000 * ((n : Int) + 1) ∧ ZV ≤ 1099511627776 ∧ 0 ≤ YV := by
    have hq := spotQ_in hR (turnQ l C S + (m + (n + 1)))
    obtain ⟨z1, z2⟩ := timeE_in hR hq.1 (by rw [hq.2.1]; have := (later_val hR v2 (m + (n + 1)) (by omega)).2; omega)
    have lc := later_is hR v2 (m := m + (n + 1)) (by omega) (by omega) (by omega)
    have lv := later_val hR v2 (m + (n + 1)) (by omega)
    rw [hq.2.1] at z2
    rcases Nat.eq_zero_or_pos m with rfl | hm
    · have la := later_none hR v2 (by omega)
      have lb := later_is hR v2 (m := n + 1) (by omega) (by omega) (by omega)
      have e : 0 + (n + 1) = n + 1 := by omega
      rw [e] at lc z1 z2 lv
      refine ⟨S, spotQ l C (turnQ l C S + (n + 1)), (), t, _, la.1, la.2, lb.1, lb.2, by rw [e]; exact lc.1, by rw [e]; exact lc.2, e5, e6, z1, z2, by omega, .inl ⟨rfl, rfl⟩, by omega, by omega, t0⟩
    · have la := later_is hR v2 (m := m) (by omega) (by omega) (by omega)
      have lv1 := later_val hR v2 m hm
      obtain ⟨i1, i2, i3⟩ := spotQ_in hR (turnQ l C S + m)
      obtain ⟨y1, y2⟩ := timeE_in hR i1 (by rw [i2]; omega)
      have lb := later_is hR i1 (m := n + 1) (by omega) (by omega) (by rw [i2]; omega)
      have lv2 := later_val hR i1 (n + 1) (by omega)
      rw [i2] at y2 lv2
      rw [i3, show turnQ l C S + m + (n + 1) = turnQ l C S + (m + (n + 1)) by omega] at lb lv2
      refine ⟨_, _, (), _, _, la.1, la.2, lb.1, lb.2, lc.1, lc.2, y1, y2, z1, z2, by omega, .inr ⟨hm, by omega, rfl⟩, by omega, by omega, by omega⟩
  clear YA
  have LA := Lib.hid (fun A c W h => later_any A c C l hlm S m W h)
  have LB := Lib.hid (fun A c W h => later_any A c C l hlm Y ((n + 1 : Nat) : Int) W h)
  have LC := Lib.hid (fun A c W h => later_any A c C l hlm S ((m + (n + 1) : Nat) : Int) W h)
  have TX := Lib.hid (fun A c W h => time_any A c C l hlm S W h)
  have TY := Lib.hid (fun A c W h => time_any A c C l hlm Y W h)
  have TZ := Lib.hid (fun A c W h => time_any A c C l hlm Z W h)
  rw [la0, la1] at LA
  rw [lb0, lb1] at LB
  rw [lc0, lc1] at LC
  rw [e5, e6] at TX
  rw [ly0, ly1] at TY
  rw [lz0, lz1] at TZ
  have q1 := fun x y w => eqS_guard .eql x y Z Z w
  have q2 := fun w => eqlS Z Z w
  rw [sameSp_self] at q2
  have q3 := fun x y w => eqS_guard .eql x y Y S w
  have q4 := fun w => eqlS Y S w
  have hm2 : ((m : Int) = 0 ∧ Y = S) ∨ (0 < (m : Int) ∧ t < YV ∧ Y.tck = 0) := by
    rcases hm1 with ⟨h1, h2⟩ | ⟨h1, h2⟩
    · exact .inl ⟨by omega, h2⟩
    · exact .inr ⟨by omega, h2⟩
  have HM1 := Lib.hid hm2
  clear hm2
  clear la0 la1 lb0 lb1 lc0 lc1 e5 e6 e1 e2 ly0 ly1 lz0 lz1 v1 v2 hS hR ht hne hC hm1 hlm w0 w2 w3 w4 w5 w6 f1
  have EN : Hid (((n + 1 : Nat) : Int) = 1 + (n : Int)) := Lib.hid (by omega)
  have EM : Hid (((m + (n + 1) : Nat) : Int) = (m : Int) + (1 + (n : Int))) := Lib.hid (by omega)
  rw [EN.out] at LB
  rw [EM.out] at LC
  have hw1 : IntKind.i64.wrap (1 + (n : Int)) = 1 + (n : Int) := IntWalk.i64_in _ (by omega)
  have hw2 : IntKind.i64.wrap ((m : Int) + (1 + (n : Int))) = (m : Int) + (1 + (n : Int)) := IntWalk.i64_in _ (by omega)
  have hw3 : IntKind.i64.wrap (1000 * (1 + (n : Int))) = 1000 * (1 + (n : Int)) := IntWalk.i64_in _ (by omega)
  have hw4 : IntKind.i64.wrap (ZV - YV) = ZV - YV := IntWalk.i64_in _ (by omega)
  have hw5 : ZV - YV ≤ 1000 * (1 + (n : Int)) := by omega
  generalize (m : Int) = mi at *
  clear EN EM hl2 hz40 hy0 hzy r5 r6
  obtain ⟨s1, s2, s3, s4⟩ := S
  obtain ⟨k1, k2, k3, k4⟩ := Y
  obtain ⟨z1, z2, z3, z4⟩ := Z
  simp only [sv] at q1 q2 q3 q4
  have Q1 := Lib.hid q1; clear q1
  have Q2 := Lib.hid q2; clear q2
  have Q3 := Lib.hid q3; clear q3
  have Q4 := Lib.hid q4; clear q4
  go_enter Try.func6, Try.ntmps6
  go_wp2_with fail; refine (awake_any _).mono ?_; rintro e wa ⟨rfl, ba⟩
  have HBA := Lib.hid ba; clear ba
  go_wp2_with fail; refine (CP.out _ HBA.out).mono ?_; rintro e wb ⟨A, c, rfl, ho, bb⟩
  have hs1 := ho.slice.2
  have HBB := Lib.hid (HBA.out.trans (bb.mono HBA.out.size)); clear bb ho HBA CP
  have hh := Has.new (c := c) (C := C) hs1
  have hb1 := Joins.below_alloc1 wb (.cells #[.slice A l.length c, .int .i64 C] 25)
  go_upto_region 3 with fail
  have HH := Lib.hid hh
  have HBC := Lib.hid (HBB.out.trans (hb1.mono HBB.out.size))
  obtain ⟨b, hb⟩ : ∃ b, wb.heap.size = b := ⟨_, rfl⟩
  rw [hb] at HH ⊢
  clear hh hb1 HBB hs1
  generalize wb.alloc (.cells #[.slice A l.length c, .int .i64 C] 25) = wc at *
  clear hb
  have HV : ∃ Vp : Nat → (Nat → Value) → World → Prop, Vp = (fun ix u wv => match ix with
    | 0 => u 0 = .agg #[.slice A l.length c, .int .i64 C]
    | 1 => u 1 = .int .i64 a4
    | 2 => u 2 = .int .i64 t
    | 3 => u 3 = .tuple #[.agg #[.int .i64 s1, .int .i64 s2, .int .i64 s3, .int .i64 s4], .int .i64 0]
    | 4 => u 4 = .tuple #[.agg #[.int .i64 s1, .int .i64 s2, .int .i64 s3, .int .i64 s4], .int .i64 0]
    | 5 => u 5 = .agg #[.int .i64 s1, .int .i64 s2, .int .i64 s3, .int .i64 s4]
    | 6 => u 6 = .int .i64 0
    | 7 => ∃ g, u 7 = .pointer (some ⟨g, 0, none⟩) ∧ wc.heap.size ≤ g ∧ SpAt wv g zeroSp
    | 8 => ∃ g, u 7 = .pointer (some ⟨g, 0, none⟩) ∧ wc.heap.size ≤ g ∧ SpAt wv g ⟨s1, s2, s3, s4⟩
    | 9 => u 9 = .int .i64 0
    | _ => True) := ⟨_, rfl⟩
  obtain ⟨Vp, hVdef⟩ := HV
  have Vp0 : ∀ u wv, Vp 0 u wv = (u 0 = .agg #[.slice A l.length c, .int .i64 C]) := fun u wv => by subst hVdef; rfl
  have Vp1 : ∀ u wv, Vp 1 u wv = (u 1 = .int .i64 a4) := fun u wv => by subst hVdef; rfl
  have Vp2 : ∀ u wv, Vp 2 u wv = (u 2 = .int .i64 t) := fun u wv => by subst hVdef; rfl
  have Vp3 : ∀ u wv, Vp 3 u wv = (u 3 = .tuple #[.agg #[.int .i64 s1, .int .i64 s2, .int .i64 s3, .int .i64 s4], .int .i64 0]) := fun u wv => by subst hVdef; rfl
  have Vp4 : ∀ u wv, Vp 4 u wv = (u 4 = .tuple #[.agg #[.int .i64 s1, .int .i64 s2, .int .i64 s3, .int .i64 s4], .int .i64 0]) := fun u wv => by subst hVdef; rfl
  have Vp5 : ∀ u wv, Vp 5 u wv = (u 5 = .agg #[.int .i64 s1, .int .i64 s2, .int .i64 s3, .int .i64 s4]) := fun u wv => by subst hVdef; rfl
  have Vp6 : ∀ u wv, Vp 6 u wv = (u 6 = .int .i64 0) := fun u wv => by subst hVdef; rfl
  have Vp7 : ∀ u wv, Vp 7 u wv = (∃ g, u 7 = .pointer (some ⟨g, 0, none⟩) ∧ wc.heap.size ≤ g ∧ SpAt wv g zeroSp) := fun u wv => by subst hVdef; rfl
  have Vp8 : ∀ u wv, Vp 8 u wv = (∃ g, u 7 = .pointer (some ⟨g, 0, none⟩) ∧ wc.heap.size ≤ g ∧ SpAt wv g ⟨s1, s2, s3, s4⟩) := fun u wv => by subst hVdef; rfl
  have Vp9 : ∀ u wv, Vp 9 u wv = (u 9 = .int .i64 0) := fun u wv => by subst hVdef; rfl
  have HVD := Lib.hid hVdef
  clear hVdef
  refine region_phase (V := Vp) (drop := fun jx ix => (jx == 8 && ix == 7)) (G := fun L wv => Below wc.heap.size wc wv) (Rel := fun jx wv wv' => jx = 8 ∨ Below wv.heap.size wv wv') (by kernel_rfl) (by kernel_rfl) (Below.refl _ _).drew ?hmonop1 ?hdepp1 ⟨?s0_p1, ?s1_p1, ?s2_p1, ?s3_p1, ?s4_p1, ?s5_p1, ?s6_p1, ?s7_p1, ?s8_p1, ?s9_p1, trivial⟩ ?behindp1
  case hmonop1 =>
    intro ix jx u wv wv' hij hw hd hr
    rw [HVD.out]
    dsimp only
    split <;> intro h <;> first | exact trivial | exact h | (rcases hr with rfl | hb; (focus first | exact absurd rfl hij | (simp at hd; done) | (exact Bool.noConfusion (hw.symm.trans (show _ = true from by kernel_rfl)))); (first | (obtain ⟨g, e, hg, hm⟩ := h; exact ⟨g, e, hg, hm.on hb⟩)))
  case hdepp1 =>
    intro ix u u' wv h1 h2
    rw [HVD.out]
    dsimp only
    split <;> intro h <;> first | exact trivial | (rw [← h1]; exact h) | (obtain ⟨g, e, h⟩ := h; exact ⟨g, (h2 7 (by kernel_rfl)).symm.trans e, h⟩) | exact h
  case s0_p1 =>
    refine oweP rfl fun a wx val L hG hi hW hV hN hO K hK => ?_
    have e16 : a.tmps[16]? = some (.pointer (some ⟨b, 0, none⟩)) := (hO 16 (by kernel_rfl)).trans (by rfl)
    clear hV hN hO
    obtain ⟨y0, y1⟩ := (HH.out.on hG).pl.cells
    go_simp
    exact hK.out _ _ (by rw [Vp0, upd_at] <;> (congr 1 <;> omega)) (.inr (Below.refl _ _)) (hG)
  case s1_p1 =>
    refine oweP rfl fun a wx val L hG hi hW hV hN hO K hK => ?_
    have e4 : a.tmps[4]? = some (.int .i64 a4) := (hO 4 (by kernel_rfl)).trans (by rfl)
    clear hV hN hO
    go_simp
    exact hK.out _ _ (by rw [Vp1, upd_at] <;> (congr 1 <;> omega)) (.inr (Below.refl _ _)) (hG)
  case s2_p1 =>
    refine oweP rfl fun a wx val L hG hi hW hV hN hO K hK => ?_
    have e41 := hN 1 41 (by kernel_rfl) (by kernel_rfl) (by simp)
    have f41 := hV 1 (by kernel_rfl) (by kernel_rfl)
    rw [Vp1] at f41; rw [f41] at e41; clear f41
    clear hV hN hO
    go_simp
    refine (CT.out _).mono ?_
    rintro e w11 ⟨rfl, rfl⟩
    exact hK.out _ _ (by rw [Vp2, upd_at]) (.inr (Below.refl _ _)) (hG)
  case s3_p1 =>
    refine oweP rfl fun a wx val L hG hi hW hV hN hO K hK => ?_
    have e40 := hN 0 40 (by kernel_rfl) (by kernel_rfl) (by simp)
    have f40 := hV 0 (by kernel_rfl) (by kernel_rfl)
    rw [Vp0] at f40; rw [f40] at e40; clear f40
    have e42 := hN 2 42 (by kernel_rfl) (by kernel_rfl) (by simp)
    have f42 := hV 2 (by kernel_rfl) (by kernel_rfl)
    rw [Vp2] at f42; rw [f42] at e42; clear f42
    clear hV hN hO
    go_simp
    refine (AT1.out _ _ _ (HH.out.on hG).sl).mono ?_
    rintro e w11 ⟨rfl, hb⟩
    exact hK.out _ _ (by rw [Vp3, upd_at]) (.inr (hb)) (hG.trans (hb.mono hG.size))
  case s4_p1 =>
    refine oweP rfl fun a wx val L hG hi hW hV hN hO K hK => ?_
    have e43 := hN 3 43 (by kernel_rfl) (by kernel_rfl) (by simp)
    have f43 := hV 3 (by kernel_rfl) (by kernel_rfl)
    rw [Vp3] at f43; rw [f43] at e43; clear f43
    clear hV hN hO
    go_simp
    exact hK.out _ _ (by rw [Vp4, upd_at] <;> (congr 1 <;> omega)) (.inr (Below.refl _ _)) (hG)
  case s5_p1 =>
    refine oweP rfl fun a wx val L hG hi hW hV hN hO K hK => ?_
    have e39 := hN 4 39 (by kernel_rfl) (by kernel_rfl) (by simp)
    have f39 := hV 4 (by kernel_rfl) (by kernel_rfl)
    rw [Vp4] at f39; rw [f39] at e39; clear f39
    clear hV hN hO
    go_simp
    exact hK.out _ _ (by rw [Vp5, upd_at] <;> (congr 1 <;> omega)) (.inr (Below.refl _ _)) (hG)
  case s6_p1 =>
    refine oweP rfl fun a wx val L hG hi hW hV hN hO K hK => ?_
    have e39 := hN 4 39 (by kernel_rfl) (by kernel_rfl) (by simp)
    have f39 := hV 4 (by kernel_rfl) (by kernel_rfl)
    rw [Vp4] at f39; rw [f39] at e39; clear f39
    clear hV hN hO
    go_simp
    exact hK.out _ _ (by rw [Vp6, upd_at] <;> (congr 1 <;> omega)) (.inr (Below.refl _ _)) (hG)
  case s7_p1 =>
    refine oweP rfl fun a wx val L hG hi hW hV hN hO K hK => ?_
    clear hV hN hO
    go_simp
    have hb := Joins.below_alloc1 wx (.cells #[.int .i64 0, .int .i64 0, .int .i64 0, .int .i64 0] 27)
    exact hK.out _ _ (by rw [Vp7, upd_at]; exact ⟨_, rfl, hG.size, SpAt.new' wx 0 0 0 0⟩) (.inr hb) (hG.trans (hb.mono hG.size))
  case s8_p1 =>
    refine oweP rfl fun a wx val L hG hi hW hV hN hO K hK => ?_
    have e17 := hN 7 17 (by kernel_rfl) (by kernel_rfl) (by simp)
    have f17 := hV 7 (by kernel_rfl) (by kernel_rfl)
    rw [Vp7] at f17; obtain ⟨g, hv, hg9, hmm⟩ := f17; rw [hv] at e17
    have e44 := hN 5 44 (by kernel_rfl) (by kernel_rfl) (by simp)
    have f44 := hV 5 (by kernel_rfl) (by kernel_rfl)
    rw [Vp5] at f44; rw [f44] at e44; clear f44
    clear hV hN hO
    obtain ⟨x0, x1, x2, x3⟩ := hmm.cells
    have p0 := hmm.frozen 0
    have p1 := hmm.frozen 1
    have p2 := hmm.frozen 2
    have p3 := hmm.frozen 3
    go_simp
    exact hK.out undef (putS wx g ⟨s1, s2, s3, s4⟩) (by rw [Vp8, upd_ne _ _ (by decide)]; exact ⟨g, hv, hg9, putS_at hmm _⟩) (.inl rfl) (putS_below hG hg9 _)
  case s9_p1 =>
    refine oweP rfl fun a wx val L hG hi hW hV hN hO K hK => ?_
    have e45 := hN 6 45 (by kernel_rfl) (by kernel_rfl) (by simp)
    have f45 := hV 6 (by kernel_rfl) (by kernel_rfl)
    rw [Vp6] at f45; rw [f45] at e45; clear f45
    clear hV hN hO
    go_simp
    exact hK.out _ _ (by rw [Vp9, upd_at] <;> (congr 1 <;> omega)) (.inr (Below.refl _ _)) (hG)
  intro val wx L hG hV
  have f0 := hV 0 (by simp) (fun _ _ => by simp)
  rw [Vp0] at f0
  have f1 := hV 1 (by simp) (fun _ _ => by simp)
  rw [Vp1] at f1
  have f2 := hV 2 (by simp) (fun _ _ => by simp)
  rw [Vp2] at f2
  have f3 := hV 3 (by simp) (fun _ _ => by simp)
  rw [Vp3] at f3
  have f4 := hV 4 (by simp) (fun _ _ => by simp)
  rw [Vp4] at f4
  have f5 := hV 5 (by simp) (fun _ _ => by simp)
  rw [Vp5] at f5
  have f6 := hV 6 (by simp) (fun _ _ => by simp)
  rw [Vp6] at f6
  have f8 := hV 8 (by simp) (fun _ _ => by simp)
  rw [Vp8] at f8
  have f9 := hV 9 (by simp) (fun _ _ => by simp)
  rw [Vp9] at f9
  clear hV Vp0 Vp1 Vp2 Vp3 Vp4 Vp5 Vp6 Vp7 Vp8 Vp9
  simp only [putAll, Act.put, List.setIfInBounds_toArray, List.set_cons_zero, List.set_cons_succ]
  generalize val 0 = z0 at *; (subst f0)
  generalize val 1 = z1 at *; (subst f1)
  generalize val 2 = z2 at *; (subst f2)
  generalize val 3 = z3 at *; (subst f3)
  generalize val 4 = z4 at *; (subst f4)
  generalize val 5 = z5 at *; (subst f5)
  generalize val 6 = z6 at *; (subst f6)
  generalize val 7 = z7 at *
  generalize val 9 = z9 at *; (subst f9)
  clear HVD
  obtain ⟨g, hz17, hg9, hmm⟩ := f8
  subst hz17
  have HS2 := Lib.hid hmm
  have HH2 := Lib.hid (HH.out.on hG)
  have HB2 := Lib.hid (HBC.out.trans (hG.mono HBC.out.size))
  clear hmm hG hg9 HH HBC CT AT1
  go_wp2_with fail; refine (CM.out _).mono ?_; rintro e wd ⟨rfl, rfl⟩
  go_wp2_with fail; refine (CN.out _).mono ?_; rintro e wd ⟨rfl, rfl⟩
  clear CM CN
  generalize wx = wd at *
  obtain ⟨y0, y1⟩ := HH2.out.pl.cells
  obtain ⟨x0, x1, x2, x3⟩ := HS2.out.cells
  go_wp2_with fail
  refine (LA.out _ _ _ HH2.out.sl).mono ?_; rintro e we ⟨rfl, be⟩
  have hb1 := Joins.below_alloc1 we (.cells #[.int .i64 k1, .int .i64 k2, .int .i64 k3, .int .i64 k4] 27)
  have HY3 := Lib.hid (SpAt.new' we k1 k2 k3 k4)
  have HH3 := Lib.hid ((HH2.out.on be).on hb1)
  have HS3 := Lib.hid ((HS2.out.on be).on hb1)
  have HB3 := Lib.hid ((HB2.out.trans (be.mono HB2.out.size)).trans (hb1.mono (HB2.out.trans (be.mono HB2.out.size)).size))
  go_upto_region 7 with fail
  obtain ⟨gy, hgy⟩ : ∃ s, we.heap.size = s := ⟨_, rfl⟩
  rw [hgy] at HY3 ⊢
  clear y0 y1 x0 x1 x2 x3 hb1 be HH2 HB2 HS2 LA
  generalize we.alloc (.cells #[.int .i64 k1, .int .i64 k2, .int .i64 k3, .int .i64 k4] 27) = we at *
  clear hgy
  obtain ⟨y0, y1⟩ := HH3.out.pl.cells
  obtain ⟨x0, x1, x2, x3⟩ := HY3.out.cells
  go_wp2_with fail; refine (LB.out _ _ _ HH3.out.sl).mono ?_; rintro e wf ⟨rfl, bf⟩
  have hb1 := Joins.below_alloc1 wf (.cells #[.int .i64 z1, .int .i64 z2, .int .i64 z3, .int .i64 z4] 27)
  have HZ4 := Lib.hid (SpAt.new' wf z1 z2 z3 z4)
  have HH4 := Lib.hid ((HH3.out.on bf).on hb1)
  have HS4 := Lib.hid ((HS3.out.on bf).on hb1)
  have HY4 := Lib.hid ((HY3.out.on bf).on hb1)
  have HB4 := Lib.hid ((HB3.out.trans (bf.mono HB3.out.size)).trans (hb1.mono (HB3.out.trans (bf.mono HB3.out.size)).size))
  go_upto_region 8 with fail
  obtain ⟨gz, hgz⟩ : ∃ s, wf.heap.size = s := ⟨_, rfl⟩
  rw [hgz] at HZ4 ⊢
  clear y0 y1 x0 x1 x2 x3 hb1 bf HH3 HB3 HS3 HY3 LB
  generalize wf.alloc (.cells #[.int .i64 z1, .int .i64 z2, .int .i64 z3, .int .i64 z4] 27) = wf at *
  clear hgz
  obtain ⟨y0, y1⟩ := HH4.out.pl.cells
  obtain ⟨x0, x1, x2, x3⟩ := HS4.out.cells
  go_wp2_with fail; refine (LC.out _ _ _ HH4.out.sl).mono ?_; rintro e wg ⟨rfl, bg⟩
  have hb1 := Joins.below_alloc1 wg (.cells #[.int .i64 z1, .int .i64 z2, .int .i64 z3, .int .i64 z4] 27)
  have HC5 := Lib.hid (SpAt.new' wg z1 z2 z3 z4)
  have HH5 := Lib.hid ((HH4.out.on bg).on hb1)
  have HS5 := Lib.hid ((HS4.out.on bg).on hb1)
  have HY5 := Lib.hid ((HY4.out.on bg).on hb1)
  have HZ5 := Lib.hid ((HZ4.out.on bg).on hb1)
  have HB5 := Lib.hid ((HB4.out.trans (bg.mono HB4.out.size)).trans (hb1.mono (HB4.out.trans (bg.mono HB4.out.size)).size))
  go_upto_region 9 with fail
  obtain ⟨gc, hgc⟩ : ∃ s, wg.heap.size = s := ⟨_, rfl⟩
  rw [hgc] at HC5 ⊢
  clear y0 y1 x0 x1 x2 x3 hb1 bg HH4 HB4 HS4 HY4 HZ4 LC
  generalize wg.alloc (.cells #[.int .i64 z1, .int .i64 z2, .int .i64 z3, .int .i64 z4] 27) = wg at *
  clear hgc
  obtain ⟨y0, y1⟩ := HH5.out.pl.cells
  obtain ⟨x0, x1, x2, x3⟩ := HS5.out.cells
  go_wp2_with fail; refine (TX.out _ _ _ HH5.out.sl).mono ?_; rintro e wh ⟨rfl, bh⟩
  have HH6 := Lib.hid (HH5.out.on bh)
  have HS6 := Lib.hid (HS5.out.on bh)
  have HY6 := Lib.hid (HY5.out.on bh)
  have HZ6 := Lib.hid (HZ5.out.on bh)
  have HC6 := Lib.hid (HC5.out.on bh)
  have HB6 := Lib.hid (HB5.out.trans (bh.mono HB5.out.size))
  clear y0 y1 x0 x1 x2 x3 bh HH5 HB5 HS5 HY5 HZ5 HC5 TX
  obtain ⟨y0, y1⟩ := HH6.out.pl.cells
  obtain ⟨x0, x1, x2, x3⟩ := HY6.out.cells
  go_wp2_with fail; refine (TY.out _ _ _ HH6.out.sl).mono ?_; rintro e wi ⟨rfl, bi⟩
  have HH7 := Lib.hid (HH6.out.on bi)
  have HS7 := Lib.hid (HS6.out.on bi)
  have HY7 := Lib.hid (HY6.out.on bi)
  have HZ7 := Lib.hid (HZ6.out.on bi)
  have HC7 := Lib.hid (HC6.out.on bi)
  have HB7 := Lib.hid (HB6.out.trans (bi.mono HB6.out.size))
  clear y0 y1 x0 x1 x2 x3 bi HH6 HB6 HS6 HY6 HZ6 HC6 TY
  obtain ⟨y0, y1⟩ := HH7.out.pl.cells
  obtain ⟨x0, x1, x2, x3⟩ := HZ7.out.cells
  go_wp2_with fail; refine (TZ.out _ _ _ HH7.out.sl).mono ?_; rintro e wj ⟨rfl, bj⟩
  have HS8 := Lib.hid (HS7.out.on bj)
  have HY8 := Lib.hid (HY7.out.on bj)
  have HZ8 := Lib.hid (HZ7.out.on bj)
  have HC8 := Lib.hid (HC7.out.on bj)
  have HB8 := Lib.hid (HB7.out.trans (bj.mono HB7.out.size))
  clear y0 y1 x0 x1 x2 x3 bj HH7 HB7 HS7 HY7 HZ7 HC7 TZ
  obtain ⟨x0, x1, x2, x3⟩ := HS8.out.cells
  obtain ⟨y0, y1, y2, y3⟩ := HY8.out.cells
  obtain ⟨u0, u1, u2, u3⟩ := HZ8.out.cells
  obtain ⟨v0, v1, v2, v3⟩ := HC8.out.cells
  have q1 := Q1.out
  have q2 := Q2.out
  have q3 := Q3.out
  have q4 := Q4.out
  rcases HM1.out with ⟨hm, he⟩ | ⟨hm, htY, hk4⟩
  · have hm0 : (mi == 0) = true := beq_iff_eq.2 hm
    injection he with h1 h2 h3 h4
    subst h1 h2 h3 h4
    rw [sameSp_self] at q4
    clear hm HM1
    go_wp2_with fail
    all_goals (go_ret; exact ⟨rfl, HB8.out⟩)
  · have hm0 : (mi == 0) = false := beq_eq_false_iff_ne.2 (by omega)
    have hm1 : (0 : Int) < mi := hm
    have hk5 : k4 = 0 := hk4
    subst hk5
    clear hm hk4 HM1
    go_wp2_with fail
    go_ret
    exact ⟨rfl, HB8.out⟩

end Go.Proofs.Ytngcfdciehoicaa

/-
  The law SchedTurns: in each round each node has one slot, and its slots come as many ticks apart as a round has.
-/
import Derived.Test.YtngcfdciehoicaaSchPlace
import Derived.Test.YtngcfdciehoicaaVecRef
namespace Go.Proofs.Ytngcfdciehoicaa
open Go.RowKit

set_option maxRecDepth 100000 in
set_option maxHeartbeats 8000000 in
theorem schedTurns_walk (a0 : Int) (A1 : Option Addr) (c1 : Nat) (l1 : List Int) (a2 a3 a4 : Int) (w0 : (Lit.int .i64 a0).wf = true) (w2 : (Lit.int .i64 a2).wf = true) (w3 : (Lit.int .i64 a3).wf = true) (w4 : (Lit.int .i64 a4).wf = true) (w : World) (f1 : IntsOk w A1 c1 l1) :
    Calls Try.prog 5 #[.int .i64 a0, .slice A1 l1.length c1, .int .i64 a2, .int .i64 a3, .int .i64 a4] w fun e w' => e = .returned (.bool true) ∧ Below w.heap.size w w' := by
  obtain ⟨l, C, hR, ⟨n, T, hl, n2, n16, T0, T1⟩, cpl⟩ := raw_plan a0 a2 a3 w0 w2 w3 A1 c1 l1 w f1
  have r4 := pickI_range a4 549755813888 (by omega)
  have ct := fun W => pick8_any a4 549755813888 w4 (by omega) W
  generalize pickI a4 549755813888 = t at *
  have CP := Lib.hid cpl; clear cpl
  have CT := Lib.hid ct; clear ct
  have hln : l.length = n := by rw [hl, planL_length]
  have hlm : l.length ≤ maxLen := by unfold maxLen; omega
  obtain ⟨t0, t1⟩ := r4
  obtain ⟨ht, hne, hC⟩ := right_at_facts hR
  have hsum := rightS_sum hR
  have hrs : roundS l C = sumS l := by unfold roundS; rw [hR, if_pos rfl]
  obtain ⟨e1, e2⟩ := atE_zero hR t0 (by omega : t ≤ 1099511627776)
  obtain ⟨v1, v2⟩ := val_spot (c := C) ht hne hC.1 t0
  have AT1 := Lib.hid (fun A c W h => at_any A c C l hlm t W h)
  have RD := Lib.hid (fun A c W h => round_any A c C l hlm W h)
  rw [e1, e2] at AT1
  rw [hrs] at RD
  obtain ⟨S, hS⟩ : ∃ S, spotS l C t = S := ⟨_, rfl⟩
  rw [hS] at v1 v2 AT1
  have hND := nodesS_all l1 T0 T1 n16
  have hMT := metL_all T0 T1 n16
  have NO := Lib.hid (fun A c W h => nodes_any A c C l hlm W h)
  rw [show nodesS l = allI (n : Int) from by rw [hl]; exact hND] at NO
  have RND : Hid (∀ k : Nat, k < n → ∃ p y1 y2 V, slotV l C (k : Int) = ((plc n T k : Nat) : Int) ∧ slotB l C (k : Int) = true ∧ plc n T k < n ∧ l[plc n T k]? = some p ∧ p.1 = (k : Int) ∧
      timeE l C ⟨S.cyc, S.rnd, ((plc n T k : Nat) : Int), 0⟩ = 0 ∧ timeV l C ⟨S.cyc, S.rnd, ((plc n T k : Nat) : Int), 0⟩ = V ∧ 0 ≤ V ∧ V ≤ 1099511000000 ∧
      laterE l C ⟨S.cyc, S.rnd, ((plc n T k : Nat) : Int), 0⟩ (n : Int) = 0 ∧ laterV l C ⟨S.cyc, S.rnd, ((plc n T k : Nat) : Int), 0⟩ (n : Int) = ⟨y1, y2, ((plc n T k : Nat) : Int), 0⟩ ∧
      timeE l C ⟨y1, y2, ((plc n T k : Nat) : Int), 0⟩ = 0 ∧ timeV l C ⟨y1, y2, ((plc n T k : Nat) : Int), 0⟩ = V + sumS l) := Lib.hid (fun k hk => by
    have hpl := plc_lt T0 T1 hk
    obtain ⟨p, hp, hp1⟩ := plan_place l1 T0 T1 hk
    rw [← hl] at hp
    have hsl := plan_slot l1 T0 T1 hk
    rw [← hl] at hsl
    obtain ⟨i1, i2⟩ := round_spot hR v2 (plc n T k) (by rw [hln]; exact hpl)
    have i3 := (cyc_le hR i1).1
    obtain ⟨x1, x2⟩ := timeE_in hR i1 (by omega)
    obtain ⟨⟨y1, y2, y3, y4⟩, ya, yb, yc, yd, ye, yf⟩ := round_later hR i1 rfl (by omega)
    simp only at ye yf
    subst ye
    subst yf
    rw [hln] at ya yb
    exact ⟨p, y1, y2, _, by unfold slotV; rw [hR, hsl]; rfl, by unfold slotB; rw [hR, hsl]; rfl, hpl, hp, hp1, x1, x2, i3, by omega, ya, yb, yc, yd⟩)
  have SL := Lib.hid (fun A c k W h => slot_any A c C l hlm k W h)
  have TM := Lib.hid (fun A c s W h => time_any A c C l hlm s W h)
  have LT := Lib.hid (fun A c s m W h => later_any A c C l hlm s m W h)
  have HLN := Lib.hid hln
  have HMT := Lib.hid hMT
  have MNW := Lib.hid (fun k (hk : k < n) => metL_new T0 T1 hk)
  have MSU := Lib.hid (fun k => metL_succ n T k)
  clear e1 e2 v1 v2 hS hR ht hne hC hlm w0 w2 w3 w4 f1 hND hMT hl hrs T0 T1 hln
  obtain ⟨RS, hRS⟩ : ∃ RS, sumS l = RS := ⟨_, rfl⟩
  rw [hRS] at hsum RND RD
  clear hRS
  have g1 : ¬ RS < (n : Int) := by have := HLN.out; omega
  obtain ⟨s1, s2, s3, s4⟩ := S
  simp only at RND
  go_enter Try.func5, Try.ntmps5
  go_wp2_with fail; refine (awake_any _).mono ?_; rintro e wa ⟨rfl, ba⟩
  have HBA := Lib.hid ba; clear ba
  go_wp2_with fail; refine (CP.out _ HBA.out).mono ?_; rintro e wb ⟨A, c, rfl, ho, bb⟩
  have hs1 := ho.slice.2
  have HBB := Lib.hid (HBA.out.trans (bb.mono HBA.out.size)); clear bb ho HBA CP
  have hh := Has.new (c := c) (C := C) hs1
  have hb1 := Joins.below_alloc1 wb (.cells #[.slice A l.length c, .int .i64 C] 25)
  go_upto_region 3 with fail
  have HH := Lib.hid hh
  have HBC := Lib.hid (HBB.out.trans (hb1.mono HBB.out.size))
  obtain ⟨b, hb⟩ : ∃ b, wb.heap.size = b := ⟨_, rfl⟩
  rw [hb] at HH ⊢
  clear hh hb1 HBB hs1
  generalize wb.alloc (.cells #[.slice A l.length c, .int .i64 C] 25) = wc at *
  clear hb
  have HPL : Hid (∀ W, Has W b A c C l → W.cell? ⟨b, 0, none⟩ = some (.slice A n c) ∧ W.cell? ⟨b, 1, none⟩ = some (.int .i64 C)) := Lib.hid (fun W h => by have := h.pl.cells; rwa [HLN.out] at this)
  rw [HLN.out] at AT1 RD NO SL TM LT
  clear HLN
  obtain ⟨y0, y1⟩ := HPL.out _ HH.out
  go_wp2_with fail; refine (RD.out _ _ _ HH.out.sl).mono ?_; rintro e wd ⟨rfl, bd⟩
  have HH1 := Lib.hid (HH.out.on bd)
  have HB1 := Lib.hid (HBC.out.trans (bd.mono HBC.out.size))
  clear y0 y1 bd HH HBC RD
  go_wp2_with fail
  generalize wd = wc at *
  have HV : ∃ Vp : Nat → (Nat → Value) → World → Prop, Vp = (fun ix u wv => match ix with
    | 0 => u 0 = .agg #[.slice A n c, .int .i64 C]
    | 1 => u 1 = .int .i64 a4
    | 2 => u 2 = .int .i64 t
    | 3 => u 3 = .tuple #[.agg #[.int .i64 s1, .int .i64 s2, .int .i64 s3, .int .i64 s4], .int .i64 0]
    | 4 => u 4 = .tuple #[.agg #[.int .i64 s1, .int .i64 s2, .int .i64 s3, .int .i64 s4], .int .i64 0]
    | 5 => u 5 = .agg #[.int .i64 s1, .int .i64 s2, .int .i64 s3, .int .i64 s4]
    | 6 => u 6 = .int .i64 0
    | 7 => ∃ g, u 7 = .pointer (some ⟨g, 0, none⟩) ∧ wc.heap.size ≤ g ∧ SpAt wv g zeroSp
    | 8 => ∃ g, u 7 = .pointer (some ⟨g, 0, none⟩) ∧ wc.heap.size ≤ g ∧ SpAt wv g ⟨s1, s2, s3, s4⟩
    | 9 => u 9 = .int .i64 0
    | _ => True) := ⟨_, rfl⟩
  obtain ⟨Vp, hVdef⟩ := HV
  have Vp0 : ∀ u wv, Vp 0 u wv = (u 0 = .agg #[.slice A n c, .int .i64 C]) := fun u wv => by subst hVdef; rfl
  have Vp1 : ∀ u wv, Vp 1 u wv = (u 1 = .int .i64 a4) := fun u wv => by subst hVdef; rfl
  have Vp2 : ∀ u wv, Vp 2 u wv = (u 2 = .int .i64 t) := fun u wv => by subst hVdef; rfl
  have Vp3 : ∀ u wv, Vp 3 u wv = (u 3 = .tuple #[.agg #[.int .i64 s1, .int .i64 s2, .int .i64 s3, .int .i64 s4], .int .i64 0]) := fun u wv => by subst hVdef; rfl
  have Vp4 : ∀ u wv, Vp 4 u wv = (u 4 = .tuple #[.agg #[.int .i64 s1, .int .i64 s2, .int .i64 s3, .int .i64 s4], .int .i64 0]) := fun u wv => by subst hVdef; rfl
  have Vp5 : ∀ u wv, Vp 5 u wv = (u 5 = .agg #[.int .i64 s1, .int .i64 s2, .int .i64 s3, .int .i64 s4]) := fun u wv => by subst hVdef; rfl
  have Vp6 : ∀ u wv, Vp 6 u wv = (u 6 = .int .i64 0) := fun u wv => by subst hVdef; rfl
  have Vp7 : ∀ u wv, Vp 7 u wv = (∃ g, u 7 = .pointer (some ⟨g, 0, none⟩) ∧ wc.heap.size ≤ g ∧ SpAt wv g zeroSp) := fun u wv => by subst hVdef; rfl
  have Vp8 : ∀ u wv, Vp 8 u wv = (∃ g, u 7 = .pointer (some ⟨g, 0, none⟩) ∧ wc.heap.size ≤ g ∧ SpAt wv g ⟨s1, s2, s3, s4⟩) := fun u wv => by subst hVdef; rfl
  have Vp9 : ∀ u wv, Vp 9 u wv = (u 9 = .int .i64 0) := fun u wv => by subst hVdef; rfl
  have HVD := Lib.hid hVdef
  clear hVdef
  refine region_phase (V := Vp) (drop := fun jx ix => (jx == 8 && ix == 7)) (G := fun L wv => Below wc.heap.size wc wv) (Rel := fun jx wv wv' => jx = 8 ∨ Below wv.heap.size wv wv') (by kernel_rfl) (by kernel_rfl) (Below.refl _ _).drew ?hmonop1 ?hdepp1 ⟨?s0_p1, ?s1_p1, ?s2_p1, ?s3_p1, ?s4_p1, ?s5_p1, ?s6_p1, ?s7_p1, ?s8_p1, ?s9_p1, trivial⟩ ?behindp1
  case hmonop1 =>
    intro ix jx u wv wv' hij hw hd hr
    rw [HVD.out]
    dsimp only
    split <;> intro h <;> first | exact trivial | exact h | (rcases hr with rfl | hb; (focus first | exact absurd rfl hij | (simp at hd; done) | (exact Bool.noConfusion (hw.symm.trans (show _ = true from by kernel_rfl)))); (first | (obtain ⟨g, e, hg, hm⟩ := h; exact ⟨g, e, hg, hm.on hb⟩)))
  case hdepp1 =>
    intro ix u u' wv h1 h2
    rw [HVD.out]
    dsimp only
    split <;> intro h <;> first | exact trivial | (rw [← h1]; exact h) | (obtain ⟨g, e, h⟩ := h; exact ⟨g, (h2 7 (by kernel_rfl)).symm.trans e, h⟩) | exact h
  case s0_p1 =>
    refine oweP rfl fun a wx val L hG hi hW hV hN hO K hK => ?_
    have e12 : a.tmps[12]? = some (.pointer (some ⟨b, 0, none⟩)) := (hO 12 (by kernel_rfl)).trans (by rfl)
    clear hV hN hO
    obtain ⟨y0, y1⟩ := HPL.out _ (HH1.out.on hG)
    go_simp
    exact hK.out _ _ (by rw [Vp0, upd_at] <;> (congr 1 <;> omega)) (.inr (Below.refl _ _)) (hG)
  case s1_p1 =>
    refine oweP rfl fun a wx val L hG hi hW hV hN hO K hK => ?_
    have e4 : a.tmps[4]? = some (.int .i64 a4) := (hO 4 (by kernel_rfl)).trans (by rfl)
    clear hV hN hO
    go_simp
    exact hK.out _ _ (by rw [Vp1, upd_at] <;> (congr 1 <;> omega)) (.inr (Below.refl _ _)) (hG)
  case s2_p1 =>
    refine oweP rfl fun a wx val L hG hi hW hV hN hO K hK => ?_
    have e41 := hN 1 41 (by kernel_rfl) (by kernel_rfl) (by simp)
    have f41 := hV 1 (by kernel_rfl) (by kernel_rfl)
    rw [Vp1] at f41; rw [f41] at e41; clear f41
    clear hV hN hO
    go_simp
    refine (CT.out _).mono ?_
    rintro e w11 ⟨rfl, rfl⟩
    exact hK.out _ _ (by rw [Vp2, upd_at]) (.inr (Below.refl _ _)) (hG)
  case s3_p1 =>
    refine oweP rfl fun a wx val L hG hi hW hV hN hO K hK => ?_
    have e40 := hN 0 40 (by kernel_rfl) (by kernel_rfl) (by simp)
    have f40 := hV 0 (by kernel_rfl) (by kernel_rfl)
    rw [Vp0] at f40; rw [f40] at e40; clear f40
    have e42 := hN 2 42 (by kernel_rfl) (by kernel_rfl) (by simp)
    have f42 := hV 2 (by kernel_rfl) (by kernel_rfl)
    rw [Vp2] at f42; rw [f42] at e42; clear f42
    clear hV hN hO
    go_simp
    refine (AT1.out _ _ _ (HH1.out.on hG).sl).mono ?_
    rintro e w11 ⟨rfl, hb⟩
    exact hK.out _ _ (by rw [Vp3, upd_at]) (.inr (hb)) (hG.trans (hb.mono hG.size))
  case s4_p1 =>
    refine oweP rfl fun a wx val L hG hi hW hV hN hO K hK => ?_
    have e43 := hN 3 43 (by kernel_rfl) (by kernel_rfl) (by simp)
    have f43 := hV 3 (by kernel_rfl) (by kernel_rfl)
    rw [Vp3] at f43; rw [f43] at e43; clear f43
    clear hV hN hO
    go_simp
    exact hK.out _ _ (by rw [Vp4, upd_at] <;> (congr 1 <;> omega)) (.inr (Below.refl _ _)) (hG)
  case s5_p1 =>
    refine oweP rfl fun a wx val L hG hi hW hV hN hO K hK => ?_
    have e39 := hN 4 39 (by kernel_rfl) (by kernel_rfl) (by simp)
    have f39 := hV 4 (by kernel_rfl) (by kernel_rfl)
    rw [Vp4] at f39; rw [f39] at e39; clear f39
    clear hV hN hO
    go_simp
    exact hK.out _ _ (by rw [Vp5, upd_at] <;> (congr 1 <;> omega)) (.inr (Below.refl _ _)) (hG)
  case s6_p1 =>
    refine oweP rfl fun a wx val L hG hi hW hV hN hO K hK => ?_
    have e39 := hN 4 39 (by kernel_rfl) (by kernel_rfl) (by simp)
    have f39 := hV 4 (by kernel_rfl) (by kernel_rfl)
    rw [Vp4] at f39; rw [f39] at e39; clear f39
    clear hV hN hO
    go_simp
    exact hK.out _ _ (by rw [Vp6, upd_at] <;> (congr 1 <;> omega)) (.inr (Below.refl _ _)) (hG)
  case s7_p1 =>
    refine oweP rfl fun a wx val L hG hi hW hV hN hO K hK => ?_
    clear hV hN hO
    go_simp
    have hb := Joins.below_alloc1 wx (.cells #[.int .i64 0, .int .i64 0, .int .i64 0, .int .i64 0] 27)
    exact hK.out _ _ (by rw [Vp7, upd_at]; exact ⟨_, rfl, hG.size, SpAt.new' wx 0 0 0 0⟩) (.inr hb) (hG.trans (hb.mono hG.size))
  case s8_p1 =>
    refine oweP rfl fun a wx val L hG hi hW hV hN hO K hK => ?_
    have e15 := hN 7 15 (by kernel_rfl) (by kernel_rfl) (by simp)
    have f15 := hV 7 (by kernel_rfl) (by kernel_rfl)
    rw [Vp7] at f15; obtain ⟨g, hv, hg9, hmm⟩ := f15; rw [hv] at e15
    have e44 := hN 5 44 (by kernel_rfl) (by kernel_rfl) (by simp)
    have f44 := hV 5 (by kernel_rfl) (by kernel_rfl)
    rw [Vp5] at f44; rw [f44] at e44; clear f44
    clear hV hN hO
    obtain ⟨x0, x1, x2, x3⟩ := hmm.cells
    have p0 := hmm.frozen 0
    have p1 := hmm.frozen 1
    have p2 := hmm.frozen 2
    have p3 := hmm.frozen 3
    go_simp
    exact hK.out undef (putS wx g ⟨s1, s2, s3, s4⟩) (by rw [Vp8, upd_ne _ _ (by decide)]; exact ⟨g, hv, hg9, putS_at hmm _⟩) (.inl rfl) (putS_below hG hg9 _)
  case s9_p1 =>
    refine oweP rfl fun a wx val L hG hi hW hV hN hO K hK => ?_
    have e45 := hN 6 45 (by kernel_rfl) (by kernel_rfl) (by simp)
    have f45 := hV 6 (by kernel_rfl) (by kernel_rfl)
    rw [Vp6] at f45; rw [f45] at e45; clear f45
    clear hV hN hO
    go_simp
    exact hK.out _ _ (by rw [Vp9, upd_at] <;> (congr 1 <;> omega)) (.inr (Below.refl _ _)) (hG)
  intro val wx L hG hV
  have f0 := hV 0 (by simp) (fun _ _ => by simp)
  rw [Vp0] at f0
  have f1 := hV 1 (by simp) (fun _ _ => by simp)
  rw [Vp1] at f1
  have f2 := hV 2 (by simp) (fun _ _ => by simp)
  rw [Vp2] at f2
  have f3 := hV 3 (by simp) (fun _ _ => by simp)
  rw [Vp3] at f3
  have f4 := hV 4 (by simp) (fun _ _ => by simp)
  rw [Vp4] at f4
  have f5 := hV 5 (by simp) (fun _ _ => by simp)
  rw [Vp5] at f5
  have f6 := hV 6 (by simp) (fun _ _ => by simp)
  rw [Vp6] at f6
  have f8 := hV 8 (by simp) (fun _ _ => by simp)
  rw [Vp8] at f8
  have f9 := hV 9 (by simp) (fun _ _ => by simp)
  rw [Vp9] at f9
  clear hV Vp0 Vp1 Vp2 Vp3 Vp4 Vp5 Vp6 Vp7 Vp8 Vp9
  simp only [putAll, Act.put, List.setIfInBounds_toArray, List.set_cons_zero, List.set_cons_succ]
  generalize val 0 = z0 at *; (subst f0)
  generalize val 1 = z1 at *; (subst f1)
  generalize val 2 = z2 at *; (subst f2)
  generalize val 3 = z3 at *; (subst f3)
  generalize val 4 = z4 at *; (subst f4)
  generalize val 5 = z5 at *; (subst f5)
  generalize val 6 = z6 at *; (subst f6)
  generalize val 7 = z7 at *
  generalize val 9 = z9 at *; (subst f9)
  clear HVD
  obtain ⟨g, hz17, hg9, hmm⟩ := f8
  subst hz17
  have HS2 := Lib.hid hmm
  have HH2 := Lib.hid (HH1.out.on hG)
  have HB2 := Lib.hid (HB1.out.trans (hG.mono HB1.out.size))
  clear hmm hG hg9 HH1 HB1 CT AT1
  go_wp2_with fail
  go_loopw [17, 18, 19, 20, 21, 22, 23, 24, 25, 26, 27] (fun me nx _ _ _ _ _ _ _ _ _ wr => ∃ k : Nat, k ≤ n ∧ nx = .int .i64 k ∧ me = .int .i64 (ofI (metL n T k)) ∧ Has wr b A c C l ∧ SpAt wr g ⟨s1, s2, s3, s4⟩ ∧ Below w.heap.size w wr) (fun _ nx _ _ _ _ _ _ _ _ _ _ => n - (intOf nx).toNat)
  case atStart => exact ⟨0, by omega, rfl, rfl, HH2.out, HS2.out, HB2.out⟩
  case round =>
  obtain ⟨k, hk, rfl, rfl, hh, hs, hbb⟩ := hrel
  have HH3 := Lib.hid hh; clear hh
  have HS3 := Lib.hid hs; clear hs
  have HB3 := Lib.hid hbb; clear hbb
  clear HH2 HS2 HB2
  by_cases hkn : (k : Int) < n
  · obtain ⟨p, q1, q2, V0, sl1, sl2, hpl, hp, hp1, x1, x2, x3, x4, y1, y2, z1, z2⟩ := RND.out k (by omega)
    have hnew := MNW.out k (by omega)
    have hsuc := MSU.out k
    have S1 := Lib.hid (fun A c W h => SL.out A c (k : Int) W h)
    rw [sl1, sl2] at S1
    obtain ⟨i, hi⟩ : ∃ i, plc n T k = i := ⟨_, rfl⟩
    rw [hi] at S1 hpl hp x1 x2 y1 y2 z1 z2 hnew hsuc
    have M1 := Lib.hid (fun A c W h => TM.out A c ⟨s1, s2, (i : Int), 0⟩ W h)
    have M2 := Lib.hid (fun A c W h => TM.out A c ⟨q1, q2, (i : Int), 0⟩ W h)
    have L1 := Lib.hid (fun A c W h => LT.out A c ⟨s1, s2, (i : Int), 0⟩ (n : Int) W h)
    rw [x1, x2] at M1
    rw [z1, z2] at M2
    rw [y1, y2] at L1
    have hha := fun W => refHas_any (ofI (metL n T k)) (i : Int) W
    rw [hnew] at hha
    have hwi := fun W => refWith_any (ofI (metL n T k)) (i : Int) W
    rw [← hsuc] at hwi
    have HHA := Lib.hid hha; clear hha
    have HWI := Lib.hid hwi; clear hwi
    have HPP := Lib.hid (And.intro hp hp1)
    have hv : IntKind.i64.wrap (V0 + RS) = V0 + RS := IntWalk.i64_in _ (by omega)
    generalize ofI (metL n T k) = me at *
    generalize hme' : ofI (metL n T (k + 1)) = me' at *
    have HME := Lib.hid hme'; clear hme'
    clear sl1 sl2 hi x1 x2 y1 y2 z1 z2 hnew hsuc hp hp1
    obtain ⟨y0, y1⟩ := HPL.out _ HH3.out
    go_wp2_with fail; refine (S1.out _ _ _ HH3.out.sl).mono ?_; rintro e we ⟨rfl, be⟩
    have HH4 := Lib.hid (HH3.out.on be)
    have HS4 := Lib.hid (HS3.out.on be)
    have HB4 := Lib.hid (HB3.out.trans (be.mono HB3.out.size))
    clear y0 y1 be HH3 HS3 HB3 S1
    obtain ⟨y0, y1⟩ := HPL.out _ HH4.out
    obtain ⟨ad, hA, zz0, zz1⟩ := HH4.out.slot HPP.out.1
    rw [HPP.out.2] at zz0
    subst hA
    have g2 : ¬ (i : Int) < 0 := by omega
    have g3 : ¬ (n : Int) ≤ (i : Int) := by omega
    have g4 : (i : Int) < (n : Int) := by omega
    go_wp2_with fail; refine (HHA.out _).mono ?_; rintro e wf ⟨rfl, rfl⟩
    go_wp2_with fail; refine (HWI.out _).mono ?_; rintro e wg ⟨rfl, bg⟩
    have HH5 := Lib.hid (HH4.out.on bg)
    have HS5 := Lib.hid (HS4.out.on bg)
    have HB5 := Lib.hid (HB4.out.trans (bg.mono HB4.out.size))
    clear y0 y1 zz0 zz1 bg HH4 HS4 HB4 HWI HHA HPP g2 g3
    obtain ⟨x0, x1, x2, x3⟩ := HS5.out.cells
    go_upto_region 17 with fail
    have hb1 := Joins.below_alloc1 wg (.cells #[.int .i64 s1, .int .i64 s2, .int .i64 (i : Int), .int .i64 0] 27)
    have HX6 := Lib.hid (SpAt.new' wg s1 s2 (i : Int) 0)
    have HH6 := Lib.hid (HH5.out.on hb1)
    have HS6 := Lib.hid (HS5.out.on hb1)
    have HB6 := Lib.hid (HB5.out.trans (hb1.mono HB5.out.size))
    obtain ⟨gx, hgx⟩ : ∃ s, wg.heap.size = s := ⟨_, rfl⟩
    rw [hgx] at HX6 ⊢
    clear x0 x1 x2 x3 hb1 HH5 HS5 HB5
    generalize wg.alloc (.cells #[.int .i64 s1, .int .i64 s2, .int .i64 (i : Int), .int .i64 0] 27) = wh at *
    clear hgx
    obtain ⟨y0, y1⟩ := HPL.out _ HH6.out
    obtain ⟨x0, x1, x2, x3⟩ := HX6.out.cells
    go_wp2_with fail; refine (M1.out _ _ _ HH6.out.sl).mono ?_; rintro e wi ⟨rfl, bi⟩
    have HH7 := Lib.hid (HH6.out.on bi)
    have HS7 := Lib.hid (HS6.out.on bi)
    have HX7 := Lib.hid (HX6.out.on bi)
    have HB7 := Lib.hid (HB6.out.trans (bi.mono HB6.out.size))
    clear y0 y1 x0 x1 x2 x3 bi HH6 HS6 HX6 HB6 M1
    obtain ⟨y0, y1⟩ := HPL.out _ HH7.out
    obtain ⟨x0, x1, x2, x3⟩ := HX7.out.cells
    go_wp2_with fail; refine (L1.out _ _ _ HH7.out.sl).mono ?_; rintro e wj ⟨rfl, bj⟩
    go_upto_region 19 with fail
    have hb1 := Joins.below_alloc1 wj (.cells #[.int .i64 q1, .int .i64 q2, .int .i64 (i : Int), .int .i64 0] 27)
    have HX8 := Lib.hid (SpAt.new' wj q1 q2 (i : Int) 0)
    have HH8 := Lib.hid ((HH7.out.on bj).on hb1)
    have HS8 := Lib.hid ((HS7.out.on bj).on hb1)
    have HB8 := Lib.hid ((HB7.out.trans (bj.mono HB7.out.size)).trans (hb1.mono (HB7.out.trans (bj.mono HB7.out.size)).size))
    obtain ⟨gy, hgy⟩ : ∃ s, wj.heap.size = s := ⟨_, rfl⟩
    rw [hgy] at HX8 ⊢
    clear y0 y1 x0 x1 x2 x3 hb1 bj HH7 HS7 HX7 HB7 L1
    generalize wj.alloc (.cells #[.int .i64 q1, .int .i64 q2, .int .i64 (i : Int), .int .i64 0] 27) = wk at *
    clear hgy
    obtain ⟨y0, y1⟩ := HPL.out _ HH8.out
    obtain ⟨x0, x1, x2, x3⟩ := HX8.out.cells
    go_wp2_with fail; refine (M2.out _ _ _ HH8.out.sl).mono ?_; rintro e wl ⟨rfl, bl⟩
    have HH9 := Lib.hid (HH8.out.on bl)
    have HS9 := Lib.hid (HS8.out.on bl)
    have HX9 := Lib.hid (HX8.out.on bl)
    have HB9 := Lib.hid (HB8.out.trans (bl.mono HB8.out.size))
    clear y0 y1 x0 x1 x2 x3 bl HH8 HS8 HX8 HB8 M2
    obtain ⟨x0, x1, x2, x3⟩ := HX9.out.cells
    have qj : IntKind.i64.wrap ((k : Int) + 1) = (k : Int) + 1 := IntWalk.i64_in _ (by omega)
    go_wp2_with fail
    go_roundw
    case rel => exact ⟨k + 1, by omega, by go_num, by rw [HME.out], HH9.out, HS9.out, HB9.out⟩
    case measure => simp [intOf]; omega
  · have ekn : k = n := by omega
    subst ekn
    rw [HMT.out]
    have ca := fun W => refAll_any (k : Int) W
    have CAL := Lib.hid ca; clear ca
    generalize allI (k : Int) = AL at *
    obtain ⟨y0, y1⟩ := HPL.out _ HH3.out
    go_wp2_with fail; refine (NO.out _ _ _ HH3.out.sl).mono ?_; rintro e we ⟨rfl, be⟩
    have HB4 := Lib.hid (HB3.out.trans (be.mono HB3.out.size))
    clear y0 y1 be HH3 HS3 HB3 HMT
    go_wp2_with fail; refine (CAL.out _).mono ?_; rintro e wf ⟨rfl, bf⟩
    have HB5 := Lib.hid (HB4.out.trans (bf.mono HB4.out.size))
    clear bf HB4
    go_wp2_with fail; refine (CAL.out _).mono ?_; rintro e wg ⟨rfl, bg⟩
    have HB6 := Lib.hid (HB5.out.trans (bg.mono HB5.out.size))
    clear bg HB5
    go_wp2_with fail
    go_ret
    exact ⟨rfl, HB6.out⟩

end Go.Proofs.Ytngcfdciehoicaa

/-
  The law SchedAll: each tick is in one node's slot, and as many ticks of a round as that slot has.
-/
import Derived.Test.YtngcfdciehoicaaSchHad
namespace Go.Proofs.Ytngcfdciehoicaa
open Go.RowKit

set_option maxRecDepth 100000 in
set_option maxHeartbeats 2000000 in
theorem schedAll_walk (a0 : Int) (A1 : Option Addr) (c1 : Nat) (l1 : List Int) (a2 a3 a4 : Int) (w0 : (Lit.int .i64 a0).wf = true) (w2 : (Lit.int .i64 a2).wf = true) (w3 : (Lit.int .i64 a3).wf = true) (w4 : (Lit.int .i64 a4).wf = true) (w : World) (f1 : IntsOk w A1 c1 l1) :
    Calls Try.prog 7 #[.int .i64 a0, .slice A1 l1.length c1, .int .i64 a2, .int .i64 a3, .int .i64 a4] w fun e w' => e = .returned (.bool true) ∧ Below w.heap.size w w' := by
  obtain ⟨l, C, hR, -, cpl⟩ := raw_plan a0 a2 a3 w0 w2 w3 A1 c1 l1 w f1
  have r4 := pickI_range a4 1048576 (by omega)
  have ct := fun W => pick8_any a4 1048576 w4 (by omega) W
  generalize pickI a4 1048576 = r0 at *
  have CP := Lib.hid cpl; clear cpl
  have CT := Lib.hid ct; clear ct
  have hl := rightS_len hR
  obtain ⟨hR2, hS2⟩ := tw_right hR
  have hlm2 : (l.map tw).length ≤ maxLen := by rw [List.length_map]; unfold maxLen; omega
  have RD := Lib.hid (fun A c W h => round_any A c C (l.map tw) hlm2 W h)
  have hrs : roundS (l.map tw) C = sumS (l.map tw) := by unfold roundS; rw [hR2, if_pos rfl]
  rw [hrs] at RD
  have AT1 := Lib.hid (fun A c t W h => at_any A c C (l.map tw) hlm2 t W h)
  rw [List.length_map] at RD AT1
  have hTK := rightS_ticked hR2
  have hsum := rightS_sum hR2
  rw [List.length_map] at hsum
  have hl2 : (l.map tw).length = l.length := List.length_map _
  obtain ⟨n, hn⟩ : ∃ n : Nat, l.length = n := ⟨_, rfl⟩
  rw [hn] at hl hl2 RD AT1 hsum
  have HN := Lib.hid hn; clear hn
  have HRT := Lib.hid (fun i h0 h1 => round_tick (C := C) hR2 r0 i h0 h1)
  have HST := Lib.hid (fun k p x i hp hi h0 h1 => had_step (k := k) (p := p) (x := x) (i := i) hTK hp hi h0 h1)
  have HAL := Lib.hid (fun j p hp => had_all (j := j) (p := p) hTK hp)
  have HZE := Lib.hid (had_zero hTK)
  rw [hl2] at HZE
  have HLH := Lib.hid (fun i => hadL_length (l.map tw) i)
  rw [hl2] at HLH
  have HAT := Lib.hid (fun t h0 h1 => atE_zero (t := t) hR2 h0 h1)
  have HCH := Lib.hid (fun k s h => chg_set (l := l) (k := k) (s := s) h)
  have HCL := Lib.hid (fun k hk => chg_length l k hk)
  have HCA := Lib.hid (chg_all l)
  have HC0 := Lib.hid (chg_zero l)
  have HTKL : Hid (∀ k : Nat, k < n → ∃ s, l[k]? = some s ∧ 1 ≤ s.2 ∧ s.2 ≤ 1000) := Lib.hid (fun k hk => first_tick hR k (by rw [HN.out]; exact hk))
  have HL2 := Lib.hid hl2
  obtain ⟨S, hS⟩ : ∃ S, sumS (l.map tw) = S := ⟨_, rfl⟩
  rw [hS] at hS2 hsum RD HRT HAL
  obtain ⟨s0, s1, s2⟩ := hsum
  have hm0 : 0 ≤ r0 * S := Int.mul_nonneg r4.1 (by omega)
  have hm1 : r0 * S ≤ 1048576 * 320 := Int.mul_le_mul (by omega) hS2 (by omega) (by omega)
  have hw1 : IntKind.i64.wrap (r0 * S) = r0 * S := IntWalk.i64_in _ (by omega)
  have HTT : Hid (∀ (q : Nat) (p : Int × Int), (l.map tw)[q]? = some p → 1 ≤ p.2 ∧ p.2 ≤ 1000) := Lib.hid (fun q p h => hTK p (List.mem_of_getElem? h))
  have HBH : Hid (∀ (W : World) {b h : Nat} {A : Option Addr} {n c : Nat} {C : Int} {L : List Int}, PlAt W b A n c C → NumAt W h L → b ≠ h) := Lib.hid (fun W {b h A n c C L} hp hn e => by
    subst e
    unfold PlAt NumAt at *
    rw [hp] at hn
    injection hn with hn
    injection hn with h1 h2
    exact absurd h2 (by decide))
  clear hR hR2 hrs hTK hlm2 hl2 hS w0 w2 w3 w4 f1
  go_enter Try.func7, Try.ntmps7
  go_wp2_with fail; refine (awake_any _).mono ?_; rintro e wa ⟨rfl, ba⟩
  have HBA := Lib.hid ba; clear ba
  go_wp2_with fail; refine (CP.out _ HBA.out).mono ?_; rintro e wb ⟨A, c, rfl, ho, bb⟩
  obtain ⟨g, c', he, hgB, hgl, hgc, -, -, -⟩ := OwnL.one ho (by rw [HN.out]; omega)
  injection he with h1 h2 h3
  subst h1 h3
  have HBB := Lib.hid (HBA.out.trans (bb.mono HBA.out.size))
  have hb1 := Joins.below_alloc1 wb (.cells #[.slice (some ⟨g, 0, none⟩) l.length c, .int .i64 C] 25)
  have hp := PlAt.new wb (some ⟨g, 0, none⟩) l.length c C
  go_upto_region 3 with fail
  have HO : Hid (OwnL (wb.alloc (.cells #[.slice (some ⟨g, 0, none⟩) l.length c, .int .i64 C] 25)) wa.heap.size (.slice (some ⟨g, 0, none⟩) l.length c) l) := Lib.hid (ownsRow_on ho hb1)
  have HP := Lib.hid hp
  have HB := Lib.hid (HBB.out.trans (hb1.mono HBB.out.size))
  have hgw : w.heap.size ≤ g := by have := HBA.out.size; omega
  obtain ⟨b, hb⟩ : ∃ b, wb.heap.size = b := ⟨_, rfl⟩
  rw [hb] at HP ⊢
  have hbw : w.heap.size ≤ b := by rw [← hb]; exact HBB.out.size
  clear ho hb1 hp bb HBB HBA CP h2 hgc hgl
  generalize wb.alloc (.cells #[.slice (some ⟨g, 0, none⟩) l.length c, .int .i64 C] 25) = wc at *
  clear hb
  generalize wa.heap.size = B0 at *
  rw [HN.out] at HP HO
  go_wp2_with fail
  go_loopw [13] (fun ix wr => ∃ k : Nat, k ≤ n ∧ ix = .int .i64 k ∧ PlAt wr b (some ⟨g, 0, none⟩) n c C ∧ OwnL wr B0 (.slice (some ⟨g, 0, none⟩) n c) (chg l k) ∧ Below w.heap.size w wr) (fun ix _ => n - (intOf ix).toNat)
  case atStart => exact ⟨0, by omega, rfl, HP.out, by rw [HC0.out]; exact HO.out, HB.out⟩
  case round =>
  obtain ⟨k, hk, rfl, hp, ho, hbb⟩ := hrel
  have HP1 := Lib.hid hp; clear hp
  have HO1 := Lib.hid ho; clear ho
  have HB1 := Lib.hid hbb; clear hbb
  clear HP HO HB
  obtain ⟨y0, y1⟩ := HP1.out.cells
  by_cases hkn : (k : Int) < n
  · have hkn' : k < n := by omega
    obtain ⟨s, hs, t1, t2⟩ := HTKL.out k hkn'
    obtain ⟨hc1, hc2⟩ := HCH.out k s hs
    have hcl := HCL.out k (by rw [HN.out]; exact hk)
    obtain ⟨g', c'', he, -, hglt, -, hsl, hfz, hst⟩ := OwnL.one HO1.out (by rw [hcl, HN.out]; omega)
    injection he with e1 e2 e3
    injection e1 with e1
    injection e1 with e1
    subst e1
    have hst2 := hst k s (tw s) 1 (.int .i64 (1 + s.2 % 20)) (by omega) hc1 rfl
    rw [hc2] at hst2
    obtain ⟨ad, hA, -, hcell⟩ := hsl (by rw [hcl, HN.out]; omega)
    injection hA with hA
    subst hA
    obtain ⟨z0, z1⟩ := hcell k s hc1
    rw [show (⟨g, 0, none⟩ : Addr).add (k * 2) = ⟨g, k * 2, none⟩ from by unfold Addr.add; split <;> simp_all] at z0 z1
    have hf1 := hfz (k * 2 + 1)
    have hpl2 : PlAt (wr.setCell ⟨g, k * 2 + 1, none⟩ (.int .i64 (1 + s.2 % 20))) b (some ⟨g, 0, none⟩) n c C := HP1.out.far (fun e => (own_apart HO1.out HP1.out (by decide)) g rfl e.symm) _
    have HST1 := Lib.hid hst2
    have HPL1 := Lib.hid hpl2
    have HBL1 := Lib.hid (HB1.out.setCell (p := ⟨g, k * 2 + 1, none⟩) hgw (.int .i64 (1 + s.2 % 20)))
    have hm := Int.emod_nonneg s.2 (show (20 : Int) ≠ 0 by omega)
    have hm2 := Int.emod_lt_of_pos s.2 (show (0 : Int) < 20 by omega)
    have hq1 : IntKind.i64.wrap (1 + s.2 % 20) = 1 + s.2 % 20 := IntWalk.i64_in _ (by omega)
    have hq2 : s.2.tmod 20 = s.2 % 20 := Int.tmod_eq_emod_of_nonneg (by omega)
    have qj : IntKind.i64.wrap ((k : Int) + 1) = (k : Int) + 1 := IntWalk.i64_in _ (by omega)
    clear hst hcell hst2 hpl2 hc1 hc2 hcl hsl hs e2 e3 hfz hm hm2
    obtain ⟨p1, p2⟩ := s
    simp only at *
    go_wp2_with fail
    go_region
    have hd := (Below.refl (wr.setCell ⟨g, k * 2 + 1, none⟩ (.int .i64 (1 + p2 % 20))).heap.size (wr.setCell ⟨g, k * 2 + 1, none⟩ (.int .i64 (1 + p2 % 20)))).drew
    have K1 : Hid (OwnL (wr.setCell ⟨g, k * 2 + 1, none⟩ (.int .i64 (1 + p2 % 20))).drew B0 (.slice (some ⟨g, 0, none⟩) n c) (chg l (k + 1))) := Lib.hid (ownsRow_on HST1.out hd)
    have K2 := Lib.hid (HPL1.out.on hd)
    have K3 := Lib.hid (HBL1.out.trans (hd.mono HBL1.out.size))
    clear hd HST1 HPL1 HBL1 HP1 HO1 HB1 y0 y1 z0 z1 hf1
    generalize (wr.setCell ⟨g, k * 2 + 1, none⟩ (.int .i64 (1 + p2 % 20))).drew = wq at *
    go_wp2_with fail
    go_roundw
    case rel => exact ⟨k + 1, by omega, by go_num, K2.out, K1.out, K3.out⟩
    case measure => simp [intOf]; omega
  · have ekn : k = n := by omega
    have hca := HCA.out
    rw [HN.out, ← ekn] at hca
    rw [hca] at HO1
    clear hca HCA HCH HCL HC0
    subst ekn
    obtain ⟨m, hm⟩ : ∃ m, l.map tw = m := ⟨_, rfl⟩
    rw [hm] at RD AT1 HRT HST HAL HZE HLH HAT HO1 HL2 HTT
    clear hm HTKL HN
    generalize wr = wc at *
    go_wp2_with fail; refine (RD.out _ _ _ HO1.out.slice.2).mono ?_; rintro e wd ⟨rfl, bd⟩
    have HP2 := Lib.hid (HP1.out.on bd)
    have HO2 : Hid (OwnL wd B0 (.slice (some ⟨g, 0, none⟩) k c) m) := Lib.hid (ownsRow_on HO1.out bd)
    have HB2 := Lib.hid (HB1.out.trans (bd.mono HB1.out.size))
    clear y0 y1 bd HP1 HO1 HB1 RD
    go_wp2_with fail; refine (CT.out _).mono ?_; rintro e we ⟨rfl, rfl⟩
    obtain ⟨y0, y1⟩ := HP2.out.cells
    have HMK := Lib.hid (fun W => make_ints k (by omega) W)
    have hmk := HMK.out
    go_upto_region 10 with fail
    have hb1 := Joins.below_alloc1 wd (.cells (Array.replicate k (.int .i64 0)) 3)
    have hnn : NumAt (wd.alloc (.cells (Array.replicate k (.int .i64 0)) 3)) wd.heap.size (List.replicate k 0) := by
      unfold NumAt
      rw [heap_alloc_new]
      simp
    have HP3 := Lib.hid (HP2.out.on hb1)
    have HO3 : Hid (OwnL (wd.alloc (.cells (Array.replicate k (.int .i64 0)) 3)) B0 (.slice (some ⟨g, 0, none⟩) k c) m) := Lib.hid (ownsRow_on HO2.out hb1)
    have HB3 := Lib.hid (HB2.out.trans (hb1.mono HB2.out.size))
    have HH3 := Lib.hid hnn
    have hhw : w.heap.size ≤ wd.heap.size := HB2.out.size
    obtain ⟨h, hh⟩ : ∃ h, wd.heap.size = h := ⟨_, rfl⟩
    rw [hh] at HH3 hhw ⊢
    clear hb1 hnn HP2 HO2 HB2 y0 y1 hmk HMK CT
    generalize wd.alloc (.cells (Array.replicate k (.int .i64 0)) 3) = wf at *
    clear hh
    go_wp2_with fail
    rw [← HZE.out] at HH3
    go_loopw [17, 18, 19] (fun ix _ _ wr => ∃ i : Nat, (i : Int) ≤ S ∧ ix = .int .i64 i ∧ PlAt wr b (some ⟨g, 0, none⟩) k c C ∧ OwnL wr B0 (.slice (some ⟨g, 0, none⟩) k c) m ∧ NumAt wr h (hadL m i) ∧ Below w.heap.size w wr) (fun ix _ _ _ => S.toNat - (intOf ix).toNat)
    case atStart => exact ⟨0, by omega, rfl, HP3.out, HO3.out, HH3.out, HB3.out⟩
    case round =>
    obtain ⟨i, hi, rfl, hp, ho, hn, hbb⟩ := hrel
    have HP4 := Lib.hid hp; clear hp
    have HO4 := Lib.hid ho; clear ho
    have HH4 := Lib.hid hn; clear hn
    have HB4 := Lib.hid hbb; clear hbb
    clear HP3 HO3 HB3 HH3
    obtain ⟨y0, y1⟩ := HP4.out.cells
    by_cases hiS : (i : Int) < S
    · obtain ⟨q, p, x, cc, nn, hsp, hp, x0, x1, hix⟩ := HRT.out i (by omega) hiS
      obtain ⟨e1, e2⟩ := HAT.out (r0 * S + i) (by omega) (by omega)
      rw [hsp] at e2
      obtain ⟨d1, d2⟩ := HST.out q p x i hp hix x0 x1
      have A1T := Lib.hid (fun A c W h => AT1.out A c (r0 * S + i) W h)
      rw [e1, e2] at A1T
      have hqk : q < k := by rw [← HL2.out]; exact (List.getElem?_eq_some_iff.1 hp).1
      have hD1 := Lib.hid d1
      have hD2 := Lib.hid d2
      have h400 : (i : Int) < 400 := by omega
      have hw2 : IntKind.i64.wrap (r0 * S + i) = r0 * S + i := IntWalk.i64_in _ (by omega)
      clear e1 e2 hsp d1 d2 hix
      go_wp2_with fail; refine (A1T.out _ _ _ HO4.out.slice.2).mono ?_; rintro e wg ⟨rfl, bg⟩
      have hb1 := Joins.below_alloc1 wg (.cells #[.int .i64 cc, .int .i64 nn, .int .i64 (q : Int), .int .i64 x] 27)
      go_upto_region 14 with fail
      have HS5 := Lib.hid (SpAt.new' wg cc nn (q : Int) x)
      have HP5 := Lib.hid ((HP4.out.on bg).on hb1)
      have HO5 : Hid (OwnL (wg.alloc (.cells #[.int .i64 cc, .int .i64 nn, .int .i64 (q : Int), .int .i64 x] 27)) B0 (.slice (some ⟨g, 0, none⟩) k c) m) := Lib.hid (ownsRow_on (ownsRow_on HO4.out bg) hb1)
      have HH5 := Lib.hid ((HH4.out.on bg).on hb1)
      have HB5 := Lib.hid ((HB4.out.trans (bg.mono HB4.out.size)).trans (hb1.mono (HB4.out.trans (bg.mono HB4.out.size)).size))
      obtain ⟨sp, hsp⟩ : ∃ s, wg.heap.size = s := ⟨_, rfl⟩
      rw [hsp] at HS5 ⊢
      clear y0 y1 bg hb1 HP4 HO4 HH4 HB4 A1T
      generalize wg.alloc (.cells #[.int .i64 cc, .int .i64 nn, .int .i64 (q : Int), .int .i64 x] 27) = wh at *
      clear hsp
      obtain ⟨z0, z1, z2, z3⟩ := HS5.out.cells
      have hc := HH5.out.cell hD1.out
      have g1 : ¬ (q : Int) < 0 := by omega
      have g2 : ¬ (k : Int) ≤ (q : Int) := by omega
      have g3 : (q : Int) < (k : Int) := by omega
      go_quiet (fail)
      have hbd := below_drewN (Below.refl wh.heap.size wh) nq
      have HP6 := Lib.hid (HP5.out.on hbd)
      have HO6 : Hid (OwnL (wh.drewN nq) B0 (.slice (some ⟨g, 0, none⟩) k c) m) := Lib.hid (ownsRow_on HO5.out hbd)
      have HH6 := Lib.hid (HH5.out.on hbd)
      have HS6 := Lib.hid (HS5.out.on hbd)
      have HB6 := Lib.hid (HB5.out.trans (hbd.mono HB5.out.size))
      clear z0 z1 z2 z3 hc hbd HP5 HO5 HH5 HS5 HB5
      generalize wh.drewN nq = wi at *
      obtain ⟨z0, z1, z2, z3⟩ := HS6.out.cells
      have hc := HH6.out.cell hD1.out
      have hf := HH6.out.frozen q
      have hw3 : IntKind.i64.wrap (x + 1) = x + 1 := IntWalk.i64_in _ (by
        have := HTT.out q p hp
        omega)
      go_wp2_with fail
      go_region
      have hnn := HH6.out.set q (x + 1)
      rw [hD2.out] at hnn
      have hpp : PlAt (wi.setCell ⟨h, q, none⟩ (.int .i64 (x + 1))) b (some ⟨g, 0, none⟩) k c C := HP6.out.far (HBH.out wi HP6.out HH6.out) _
      have hoo : OwnL (wi.setCell ⟨h, q, none⟩ (.int .i64 (x + 1))) B0 (.slice (some ⟨g, 0, none⟩) k c) m := own_far HO6.out (fun g' hg' => Below.heap_setCell _ _ _ _ (own_apart HO6.out HH6.out (by decide) g' hg'))
      have hbl := HB6.out.setCell (p := ⟨h, q, none⟩) hhw (.int .i64 (x + 1))
      have hd := (Below.refl (wi.setCell ⟨h, q, none⟩ (.int .i64 (x + 1))).heap.size (wi.setCell ⟨h, q, none⟩ (.int .i64 (x + 1)))).drew
      have K1 : Hid (OwnL (wi.setCell ⟨h, q, none⟩ (.int .i64 (x + 1))).drew B0 (.slice (some ⟨g, 0, none⟩) k c) m) := Lib.hid (ownsRow_on hoo hd)
      have K2 := Lib.hid (hpp.on hd)
      have K3 := Lib.hid (hnn.on hd)
      have K4 := Lib.hid (hbl.trans (hd.mono hbl.size))
      clear hd hnn hpp hoo hbl HP6 HO6 HH6 HS6 HB6 z0 z1 z2 z3 hc hf
      generalize (wi.setCell ⟨h, q, none⟩ (.int .i64 (x + 1))).drew = wq at *
      have qj : IntKind.i64.wrap ((i : Int) + 1) = (i : Int) + 1 := IntWalk.i64_in _ (by omega)
      go_wp2_with fail
      go_roundw
      case rel => exact ⟨i + 1, by omega, by go_num, K2.out, K1.out, K3.out, K4.out⟩
      case measure => simp [intOf]; omega
    · have hiS2 : (i : Int) = S := by omega
      rw [hiS2] at HH4
      go_wp2_with fail
      go_loopw [20] (fun ix wr => ∃ j : Nat, j ≤ k ∧ ix = .int .i64 j ∧ PlAt wr b (some ⟨g, 0, none⟩) k c C ∧ OwnL wr B0 (.slice (some ⟨g, 0, none⟩) k c) m ∧ NumAt wr h (hadL m S) ∧ Below w.heap.size w wr) (fun ix _ => k - (intOf ix).toNat)
      case atStart => exact ⟨0, by omega, rfl, HP4.out, HO4.out, HH4.out, HB4.out⟩
      case round =>
      obtain ⟨j, hj, rfl, hp, ho, hn, hbb⟩ := hrel
      have HP7 := Lib.hid hp; clear hp
      have HO7 := Lib.hid ho; clear ho
      have HH7 := Lib.hid hn; clear hn
      have HB7 := Lib.hid hbb; clear hbb
      clear HP4 HO4 HH4 HB4 y0 y1
      by_cases hjk : (j : Int) < k
      · have hjk' : j < k := by omega
        obtain ⟨p, hp⟩ : ∃ p, m[j]? = some p := ⟨_, List.getElem?_eq_getElem (by rw [HL2.out]; exact hjk')⟩
        have hq := HH7.out.cell (HAL.out j p hp)
        obtain ⟨ad, hA, -, hcell⟩ := HO7.out.slice.2 (by rw [HL2.out]; omega)
        injection hA with hA
        subst hA
        obtain ⟨z0, z1⟩ := hcell j p hp
        rw [show (⟨g, 0, none⟩ : Addr).add (j * 2) = ⟨g, j * 2, none⟩ from by unfold Addr.add; split <;> simp_all] at z0 z1
        obtain ⟨y0, y1⟩ := HP7.out.cells
        clear hcell
        have qj : IntKind.i64.wrap ((j : Int) + 1) = (j : Int) + 1 := IntWalk.i64_in _ (by omega)
        go_wp2_with fail
        go_quiet (fail)
        have hbd := below_drewN (Below.refl wr.heap.size wr) nq
        have HP8 := Lib.hid (HP7.out.on hbd)
        have HO8 : Hid (OwnL (wr.drewN nq) B0 (.slice (some ⟨g, 0, none⟩) k c) m) := Lib.hid (ownsRow_on HO7.out hbd)
        have HH8 := Lib.hid (HH7.out.on hbd)
        have HB8 := Lib.hid (HB7.out.trans (hbd.mono HB7.out.size))
        clear hbd HP7 HO7 HH7 HB7 z0 z1 y0 y1 hq
        generalize wr.drewN nq = ws at *
        go_wp2_with fail
        go_roundw
        case rel => exact ⟨j + 1, by omega, by go_num, HP8.out, HO8.out, HH8.out, HB8.out⟩
        case measure => simp [intOf]; omega
      · go_wp2_with fail
        go_ret
        exact ⟨rfl, HB7.out⟩

end Go.Proofs.Ytngcfdciehoicaa

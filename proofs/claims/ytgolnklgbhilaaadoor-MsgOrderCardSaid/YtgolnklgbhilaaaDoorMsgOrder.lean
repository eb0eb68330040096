/-
  The law MsgOrder, walked.
-/
import Derived.Test.YtgolnklgbhilaaaDoorMsgNumL
import Derived.Test.YtgolnklgbhilaaaDoorMsgSorts
namespace Go.Proofs.YtgolnklgbhilaaaDoor
open Go.RowKit

set_option maxRecDepth 100000 in
set_option maxHeartbeats 8000000 in
theorem msgOrder_walk (T : Told) (A : Option Addr) (c : Nat) (l : List Raw) (at' : Int) (hat : (Lit.int .i64 at').wf = true) (w : World) (L : Laid w) (f0 : RowsOk w A c l) :
    Calls Tryd.prog 6 #[.slice A l.length c, .int .i64 at'] w fun e w' => e = .returned (.bool true) ∧ Below w.heap.size w w' := by
  obtain ⟨hrs, ⟨hlc, hcm⟩, hwf⟩ := f0
  unfold maxLen at hcm
  have cA := fun w L => awake_any T w L
  go_enter Tryd.func6, Tryd.ntmps6
  go_wp2_with fail
  refine (cA _ L).mono ?_; rintro e w1 ⟨rfl, b1⟩
  go_wp2_with fail
  go_loopw [6, 7] (fun u i wr => ∃ k : Nat, k ≤ l.length ∧ k ≤ 10 ∧ i = .int .i64 (k : Int) ∧ OwnM wr w.heap.size u (rowN (l.take k)) ∧ Below w.heap.size w wr) (fun _ i _ => 10 - (intOf i).toNat)
  case atStart => exact ⟨0, by omega, by omega, rfl, OwnM.nil _ _, b1⟩
  case round =>
    obtain ⟨k, hk, hk10, rfl, hown, hb⟩ := hrel
    have HOWN := Lib.hid hown; clear hown
    have HB := Lib.hid hb; clear hb
    have hol : (rowN (l.take k)).length = k := by rw [rowN_length, List.length_take]; omega
    by_cases hlt : k < l.length ∧ k < 10
    · obtain ⟨hlt, h10⟩ := hlt
      have hltI : (k : Int) < (l.length : Int) := by omega
      have h10I : (k : Int) < 10 := by omega
      obtain ⟨r, hr⟩ : ∃ r, l[k]? = some r := ⟨_, List.getElem?_eq_getElem hlt⟩
      obtain ⟨ad, rfl, hadb, hcc⟩ := (hrs.below HB.out (Nat.le_refl _)) (by omega)
      obtain ⟨y0, y1, y2, y3, y4, y5⟩ := hcc k r hr
      have cM := fun w => rmsg_any r (hwf k r hr) ⟨#[]⟩ (by decide) w
      have hmt := rowN_take l k r hr
      generalize rowN (l.take k) = out at *
      generalize rmsg ⟨#[]⟩ r = m at *
      have HMT := Lib.hid hmt; clear hmt
      clear hcc
      go_wp2_with fail
      refine (cM _).mono ?_; rintro e w3 ⟨rfl, b3⟩
      clear y0 y1 y2 y3 y4 y5
      have HOWN3 := Lib.hid (HOWN.out.on b3)
      have HB3 := Lib.hid (HB.out.trans (b3.mono HB.out.size))
      clear b3 HOWN HB
      have hM4 : MsgAt ((w3.alloc (.cells (mc (numbered m ((k : Int) + 1))) 25)).alloc (.cells (mc (numbered m ((k : Int) + 1))) 25)) (w3.heap.size + 1) (numbered m ((k : Int) + 1)) := by
        have h := heap_alloc_new (w3.alloc (.cells (mc (numbered m ((k : Int) + 1))) 25)) (.cells (mc (numbered m ((k : Int) + 1))) 25)
        rwa [World.size_alloc] at h
      have hO4 := own_one (own_one HOWN3.out (numbered m ((k : Int) + 1))) (numbered m ((k : Int) + 1))
      have hms := Msgs.one hM4
      have hB4 : Below w.heap.size w ((w3.alloc (.cells (mc (numbered m ((k : Int) + 1))) 25)).alloc (.cells (mc (numbered m ((k : Int) + 1))) 25)) := (HB3.out.alloc HB3.out.size _).alloc (by have := HB3.out.size; simp; omega) _
      simp only [mc, numbered] at hO4 hms hB4
      have HMS := Lib.hid hms
      have HO4 := Lib.hid hO4
      have HB4 := Lib.hid hB4
      clear hM4 hO4 hms hB4
      go_wp2_with (at_builtin; refine list_appM (by rfl) _ _ rfl w.heap.size _ _ out [⟨m.ext, m.n, m.sender, m.inc, m.seq, (k : Int) + 1, m.data⟩] (some ⟨w3.heap.size + 1, 0, none⟩) 1 rfl rfl HO4.out HMS.out HB4.out.size (by simp; omega) ?_; intro u' w5 hown5 hg5; have HB5 := Lib.hid (HB4.out.trans (OwnM.below HO4.out hg5 HB4.out.size)))
      go_roundw
      case rel => exact ⟨k + 1, by omega, by omega, by go_num, by rw [HMT.out]; exact hown5, HB5.out⟩
      case measure => simp [intOf]; omega
    · have hgood := rowN_good (l.take k)
      have hsmall := rowN_small (l.take k)
      generalize rowN (l.take k) = ms at *
      obtain ⟨Am, cm, rfl, hmcap, hmm⟩ := HOWN.out.row
      have HMM := Lib.hid hmm; clear hmm HOWN
      have hpk := pick_any at' ((ms.length : Int) + 1) hat (by omega)
      have hpr := pickI_range at' ((ms.length : Int) + 1) (by omega)
      obtain ⟨q, hq⟩ : ∃ q : Nat, pickI at' ((ms.length : Int) + 1) = (q : Int) := ⟨(pickI at' ((ms.length : Int) + 1)).toNat, by omega⟩
      rw [hq] at hpk hpr
      have hql : q ≤ ms.length := by omega
      have hm10 : ms.length ≤ 10 := by omega
      have hmI : (ms.length : Int) ≤ 10 := by omega
      clear hol
      obtain ⟨sp, sq⟩ := sortL_good ms hgood
      have hsl : (sortL ms).length = ms.length := sq.length_eq
      clear hq
      have hperm : (ms.drop q ++ ms.take q).Perm ms := by
        refine List.perm_append_comm.trans ?_
        rw [List.take_append_drop]
      have hsx : sortL (ms.drop q ++ ms.take q) = sortL ms := sortL_same hgood hperm
      have hxs := small_perm hperm hsmall
      have hat2 := fun (i j : Nat) (x y : Msg) (hx : (sortL ms)[j]? = some x) (hy : (sortL ms)[i]? = some y) (h : j < i) => sorted_at hgood hx hy h
      have htl : (ms.take q).length ≤ 10 := by rw [List.length_take]; omega
      have hdl : (ms.drop q).length ≤ 10 := by rw [List.length_drop]; omega
      have hxl : (ms.drop q ++ ms.take q).length ≤ 10 := by rw [hperm.length_eq]; omega
      have hkt := run_takeM Am cm ms hmcap q hql
      obtain ⟨A2, c2, hmd, hkd⟩ := run_dropM Am cm ms hmcap q hql
      have HATT := Lib.hid hat2; clear hat2
      have hsl10 : (sortL ms).length ≤ 10 := by omega
      have HSL := Lib.hid hsl; clear hsl
      rcases (show ¬ (k : Int) < l.length ∨ ((k : Int) < l.length ∧ ¬ (k : Int) < 10) by omega) with hI | ⟨hI, hI8⟩
      · go_wp2_with fail
        refine (hpk _).mono ?_; rintro e w2 ⟨rfl, rfl⟩
        go_wp2_with fail
        have hmw := HMM.out
        refine (T.sort Am cm _ ms _ (L.below HB.out) HMM.out (Nat.le_refl _) (by omega) hsmall).mono ?_; rintro e w3 ⟨u3, rfl, h3, b3⟩
        have hB3 := HB.out.trans (b3.mono HB.out.size)
        have hm3 := HMM.out.below b3 (Nat.le_refl _)
        have hfr := (HMM.out.front q).below b3 (Nat.le_refl _)
        obtain ⟨A3, c3, rfl, hc3, m3⟩ := h3.row
        have hmd3 := hmd _ _ hm3
        generalize hsms : sortL ms = a at *
        have hw3 : wr.heap.size ≤ w3.heap.size := b3.size
        have HW := Lib.hid hB3
        have HLZ0 := Lib.hid (L.below hB3)
        have HA4 := Lib.hid m3
        have HMT0 := Lib.hid (hfr.more hw3)
        have HMD0 := Lib.hid (hmd3.more hw3)
        clear hmd hfr hm3 hmd3 hB3 h3 b3 m3 hw3
        generalize htk : ms.take q = tk at *
        generalize hdk : ms.drop q = dk at *
        obtain ⟨XL, hXL⟩ : ∃ XL, dk ++ tk = XL := ⟨_, rfl⟩
        rw [hXL] at hsx hxs hxl
        have HXL := Lib.hid hXL
        have HSX := Lib.hid hsx
        have HSMX := Lib.hid hxs
        have KT := Lib.hid hkt
        have KD := Lib.hid hkd
        have HLEN : Hid (tk.length ≤ 19 ∧ dk.length ≤ 19 ∧ XL.length ≤ 19) := Lib.hid ⟨by omega, by omega, by omega⟩
        have HQE : Hid (((a.length : Int) != (ms.length : Int)) = false) := Lib.hid (by have := HSL.out; simp; omega)
        have HAL := Lib.hid hsl10
        clear hXL hsx hxs hkt hkd htk hdk hsl10 hxl htl hdl hsms sp sq hgood hsmall hpk hpr hql hperm
        go_wp2_with fail
        generalize hWz : w3 = Wz at *
        have HLZ := HLZ0
        have HMT := HMT0
        have HMD := HMD0
        have HV : ∃ V : Nat → (Nat → Value) → World → Prop, V = (fun ix u wv => match ix with
          | 0 => u 0 = .slice Am ms.length cm
          | 1 => u 1 = .int .i64 (q : Int)
          | 2 => u 2 = .slice A2 dk.length c2
          | 3 => OwnM wv Wz.heap.size (u 3) (dk)
          | 4 => u 4 = .slice Am ms.length cm
          | 5 => u 5 = .int .i64 (q : Int)
          | 6 => u 6 = .slice Am tk.length cm
          | 7 => OwnM wv Wz.heap.size (u 7) (XL)
          | 8 => OwnM wv Wz.heap.size (u 8) (a)
          | 9 => OwnM wv Wz.heap.size (u 9) (a)
          | _ => True) := ⟨_, rfl⟩
        obtain ⟨V, hVdef⟩ := HV
        have V0 : ∀ u wv, V 0 u wv = (u 0 = .slice Am ms.length cm) := fun u wv => by subst hVdef; rfl
        have V1 : ∀ u wv, V 1 u wv = (u 1 = .int .i64 (q : Int)) := fun u wv => by subst hVdef; rfl
        have V2 : ∀ u wv, V 2 u wv = (u 2 = .slice A2 dk.length c2) := fun u wv => by subst hVdef; rfl
        have V3 : ∀ u wv, V 3 u wv = (OwnM wv Wz.heap.size (u 3) (dk)) := fun u wv => by subst hVdef; rfl
        have V4 : ∀ u wv, V 4 u wv = (u 4 = .slice Am ms.length cm) := fun u wv => by subst hVdef; rfl
        have V5 : ∀ u wv, V 5 u wv = (u 5 = .int .i64 (q : Int)) := fun u wv => by subst hVdef; rfl
        have V6 : ∀ u wv, V 6 u wv = (u 6 = .slice Am tk.length cm) := fun u wv => by subst hVdef; rfl
        have V7 : ∀ u wv, V 7 u wv = (OwnM wv Wz.heap.size (u 7) (XL)) := fun u wv => by subst hVdef; rfl
        have V8 : ∀ u wv, V 8 u wv = (OwnM wv Wz.heap.size (u 8) (a)) := fun u wv => by subst hVdef; rfl
        have V9 : ∀ u wv, V 9 u wv = (OwnM wv Wz.heap.size (u 9) (a)) := fun u wv => by subst hVdef; rfl
        have HVD := Lib.hid hVdef
        clear hVdef
        refine region_each (V := V) (drop := fun jx ix => (jx == 7 && ix == 3)) (G := fun wv => Below Wz.heap.size Wz wv) (Rel := fun jx wv wv' => jx = 7 ∨ Below wv.heap.size wv wv') (by kernel_rfl) (by kernel_rfl) (Below.refl _ _).drew ?hmono41 ?hdep41 ⟨?s0_41, ?s1_41, ?s2_41, ?s3_41, ?s4_41, ?s5_41, ?s6_41, ?s7_41, ?s8_41, ?s9_41, trivial⟩ ?behind41
        case hmono41 =>
          intro ix jx u wv wv' hij hw hd hr
          rw [HVD.out]
          dsimp only
          split <;> intro h <;> first | exact trivial | exact h | (rcases hr with rfl | hb <;> first | exact absurd rfl hij | (simp at hd; done) | exact h.on hb | (have ht := Eq.trans (Eq.symm hw) (by kernel_rfl : _ = true); cases ht))
        case hdep41 =>
          intro ix u u' wv h1 h2
          rw [HVD.out]
          dsimp only
          split <;> intro h <;> first | exact trivial | (rw [← h1]; exact h) | (fail)
        case s0_41 =>
          refine owe rfl fun a wx val hG hV hN hO K hK => ?_
          have e6 : a.tmps[6]? = some (.slice Am ms.length cm) := (hO 6 (by kernel_rfl)).trans (by rfl)
          clear hV hN hO
          go_simp
          exact hK.out _ _ (by rw [V0, upd_at]) (.inr (Below.refl _ _)) hG
        case s1_41 =>
          refine owe rfl fun a wx val hG hV hN hO K hK => ?_
          have e9 : a.tmps[9]? = some (.int .i64 (q : Int)) := (hO 9 (by kernel_rfl)).trans (by rfl)
          clear hV hN hO
          go_simp
          exact hK.out _ _ (by rw [V1, upd_at]) (.inr (Below.refl _ _)) hG
        case s2_41 =>
          refine owe rfl fun a wx val hG hV hN hO K hK => ?_
          have e44 := hN 0 44 (by kernel_rfl) (by kernel_rfl) (by simp)
          have f44 := hV 0 (by kernel_rfl) (by kernel_rfl)
          rw [V0] at f44
          rw [f44] at e44; clear f44
          have e45 := hN 1 45 (by kernel_rfl) (by kernel_rfl) (by simp)
          have f45 := hV 1 (by kernel_rfl) (by kernel_rfl)
          rw [V1] at f45
          rw [f45] at e45; clear f45
          clear hV hN hO
          have kd := KD.out
          go_simp
          exact hK.out _ _ (by rw [V2, upd_at]) (.inr (Below.refl _ _)) hG
        case s3_41 =>
          refine owe rfl fun a wx val hG hV hN hO K hK => ?_
          have e46 := hN 2 46 (by kernel_rfl) (by kernel_rfl) (by simp)
          have f46 := hV 2 (by kernel_rfl) (by kernel_rfl)
          rw [V2] at f46
          rw [f46] at e46; clear f46
          clear hV hN hO
          refine wp_appM (.const (.slice none 0 0)) (.tmp 46) rfl wx.heap.size Wz.heap.size (.slice none 0 0) [] dk A2 c2 rfl (by simp [Act.eval, e46]) (OwnM.nil _ _) (HMD.out.below hG (Nat.le_refl _)) (Nat.le_refl _) (by have := HLEN.out.2.1; simp only [List.length_nil]; omega) ?_
          intro u3 w3 hown hgr
          have hb := OwnM.below (OwnM.nil wx wx.heap.size) hgr (Nat.le_refl _)
          exact hK.out _ _ (by rw [V3, upd_at]; rw [List.nil_append] at hown; exact hown.base hG.size) (.inr hb) (hG.trans (hb.mono hG.size))
        case s4_41 =>
          refine owe rfl fun a wx val hG hV hN hO K hK => ?_
          have e6 : a.tmps[6]? = some (.slice Am ms.length cm) := (hO 6 (by kernel_rfl)).trans (by rfl)
          clear hV hN hO
          go_simp
          exact hK.out _ _ (by rw [V4, upd_at]) (.inr (Below.refl _ _)) hG
        case s5_41 =>
          refine owe rfl fun a wx val hG hV hN hO K hK => ?_
          have e9 : a.tmps[9]? = some (.int .i64 (q : Int)) := (hO 9 (by kernel_rfl)).trans (by rfl)
          clear hV hN hO
          go_simp
          exact hK.out _ _ (by rw [V5, upd_at]) (.inr (Below.refl _ _)) hG
        case s6_41 =>
          refine owe rfl fun a wx val hG hV hN hO K hK => ?_
          have e48 := hN 4 48 (by kernel_rfl) (by kernel_rfl) (by simp)
          have f48 := hV 4 (by kernel_rfl) (by kernel_rfl)
          rw [V4] at f48
          rw [f48] at e48; clear f48
          have e49 := hN 5 49 (by kernel_rfl) (by kernel_rfl) (by simp)
          have f49 := hV 5 (by kernel_rfl) (by kernel_rfl)
          rw [V5] at f49
          rw [f49] at e49; clear f49
          clear hV hN hO
          have kt := KT.out
          go_simp
          exact hK.out _ _ (by rw [V6, upd_at]) (.inr (Below.refl _ _)) hG
        case s7_41 =>
          refine owe rfl fun a wx val hG hV hN hO K hK => ?_
          have e47 := hN 3 47 (by kernel_rfl) (by kernel_rfl) (by simp)
          have f47 := hV 3 (by kernel_rfl) (by kernel_rfl)
          rw [V3] at f47
          have hu3 := f47
          have e50 := hN 6 50 (by kernel_rfl) (by kernel_rfl) (by simp)
          have f50 := hV 6 (by kernel_rfl) (by kernel_rfl)
          rw [V6] at f50
          rw [f50] at e50; clear f50
          clear hV hN hO
          refine wp_appM (.tmp 47) (.tmp 50) rfl Wz.heap.size Wz.heap.size (val 3) dk tk Am cm (by simp [Act.eval, e47]) (by simp [Act.eval, e50]) hu3 (HMT.out.below hG (Nat.le_refl _)) hG.size (by have := HLEN.out; omega) ?_
          intro u8 w8 hown hgr
          exact hK.out _ _ (by rw [V7, upd_at]; rw [HXL.out] at hown; exact hown) (.inl rfl) (hG.trans (OwnM.below hu3 hgr hG.size))
        case s8_41 =>
          refine owe rfl fun a wx val hG hV hN hO K hK => ?_
          have e51 := hN 7 51 (by kernel_rfl) (by kernel_rfl) (by simp)
          have f51 := hV 7 (by kernel_rfl) (by kernel_rfl)
          rw [V7] at f51
          have hu7 := f51
          clear hV hN hO
          obtain ⟨A8, c8, e8, _, m8⟩ := hu7.row
          rw [e8] at e51
          go_simp
          refine (T.sort A8 c8 wx.heap.size XL _ (HLZ.out.below hG) m8 (Nat.le_refl _) HLEN.out.2.2 HSMX.out).mono ?_
          rintro e w9 ⟨u9, rfl, h9, hb⟩
          exact hK.out _ _ (by rw [V8, upd_at]; rw [HSX.out] at h9; exact h9.base hG.size) (.inr hb) (hG.trans (hb.mono hG.size))
        case s9_41 =>
          refine owe rfl fun a wx val hG hV hN hO K hK => ?_
          have e52 := hN 8 52 (by kernel_rfl) (by kernel_rfl) (by simp)
          have f52 := hV 8 (by kernel_rfl) (by kernel_rfl)
          rw [V8] at f52
          have hu8 := f52
          clear hV hN hO
          go_simp
          exact hK.out _ _ (by rw [V9, upd_at]; exact hu8) (.inr (Below.refl _ _)) hG
        intro val wx hG hV
        have f0 := hV 0 (by simp) (fun _ _ => by simp)
        rw [V0] at f0
        have f1 := hV 1 (by simp) (fun _ _ => by simp)
        rw [V1] at f1
        have f2 := hV 2 (by simp) (fun _ _ => by simp)
        rw [V2] at f2
        have f4 := hV 4 (by simp) (fun _ _ => by simp)
        rw [V4] at f4
        have f5 := hV 5 (by simp) (fun _ _ => by simp)
        rw [V5] at f5
        have f6 := hV 6 (by simp) (fun _ _ => by simp)
        rw [V6] at f6
        have f7 := hV 7 (by simp) (fun _ _ => by simp)
        rw [V7] at f7
        have f8 := hV 8 (by simp) (fun _ _ => by simp)
        rw [V8] at f8
        have f9 := hV 9 (by simp) (fun _ _ => by simp)
        rw [V9] at f9
        clear hV V0 V1 V2 V3 V4 V5 V6 V7 V8 V9
        simp only [putAll, Act.put, List.setIfInBounds_toArray, List.set_cons_zero, List.set_cons_succ]
        generalize val 0 = z0 at *; (subst f0)
        generalize val 1 = z1 at *; (subst f1)
        generalize val 2 = z2 at *; (subst f2)
        generalize val 4 = z4 at *; (subst f4)
        generalize val 5 = z5 at *; (subst f5)
        generalize val 6 = z6 at *; (subst f6)
        obtain ⟨A9, c9, e9, _, m9⟩ := f9.row
        have HG := Lib.hid (HW.out.trans (hG.mono HW.out.size))
        have HM9 := Lib.hid m9
        have HA5 := Lib.hid (HA4.out.below hG (Nat.le_refl _))
        have HZ5 := Lib.hid hG.size
        clear f7 f8 f9 m9 hG HA4 HMT HMD HLZ HMT0 HMD0 KT KD HSX HSMX HXL HLEN
        generalize val 9 = z9 at *
        subst e9
        generalize val 8 = z8 at *
        generalize val 7 = z7 at *
        generalize val 3 = z3 at *
        clear hWz hI
        have hq := HQE.out
        go_wp2_with fail
        refine (same_any A3 A9 c3 c9 _ _ a a _ HA5.out HM9.out (by unfold maxLen; have := HAL.out; omega)).mono ?_; rintro e w8 ⟨rfl, n8, rfl⟩
        rw [same_true]
        clear hq
        have HA8 := Lib.hid (HA5.out.below (below_drewN (Below.refl _ _) n8) (Nat.le_refl _))
        have HW8 := Lib.hid (below_drewN HG.out n8)
        have HZ8 : Hid (Wz.heap.size ≤ (wx.drewN n8).heap.size) := HZ5
        go_wp2_with fail
        generalize wx.drewN n8 = W8 at *
        go_loopw [12] (fun i wN => ∃ i' : Nat, i' ≤ a.length ∧ i = .int .i64 (i' : Int) ∧ Below W8.heap.size W8 wN) (fun i _ => a.length - (intOf i).toNat)
        case atStart => exact ⟨0, by omega, rfl, Below.refl _ _⟩
        case round =>
          obtain ⟨i, hia, rfl, hbN⟩ := hrel
          have HBN := Lib.hid hbN; clear hbN
          have hi10 : (i : Int) ≤ 10 := by have := HAL.out; omega
          by_cases hlt2 : i < a.length
          · have hltI : (i : Int) < (a.length : Int) := by omega
            go_wp2_with fail
            go_loopw [13] (fun jv wM => ∃ j : Nat, j ≤ i ∧ jv = .int .i64 (j : Int) ∧ Below W8.heap.size W8 wM) (fun jv _ => i - (intOf jv).toNat)
            case atStart => exact ⟨0, by omega, rfl, HBN.out⟩
            case round =>
              obtain ⟨j, hji, rfl, hbM⟩ := hrel
              have HBM := Lib.hid hbM
              have hWN := HW8.out.trans (hbM.mono HW8.out.size)
              have hAN := HA8.out.below hbM HZ8.out
              have HLN := Lib.hid (fun w' (h : Below wr.heap.size wr w') => (L.below hWN).below h)
              have HAN := Lib.hid hAN
              clear hbM hWN hAN
              by_cases hj : j < i
              · have hjI : (j : Int) < (i : Int) := by omega
                obtain ⟨x, hx⟩ : ∃ x, a[j]? = some x := ⟨_, List.getElem?_eq_getElem (by omega)⟩
                obtain ⟨y, hy⟩ : ∃ y, a[i]? = some y := ⟨_, List.getElem?_eq_getElem hlt2⟩
                obtain ⟨hl1, hl2, hl3⟩ := HATT.out i j x y hx hy hj
                have cl := fun w L => T.less x y w L
                have cl2 := fun w L => T.less y x w L
                rw [hl1] at cl
                rw [hl2] at cl2
                have hEG := fun op p q w => eqM_guard op p q y x w
                have hEQ := fun w => eqlM y x w
                rw [hl3] at hEQ
                obtain ⟨ad3, rfl, hadb, hcc⟩ := HAN.out (by omega)
                have hX := hcc j x hx
                have hY := hcc i y hy
                have had : ad3.block < wr.heap.size := by have := HZ8.out; have := HBM.out.size; omega
                have hj0 : (0 : Int) ≤ (j : Int) := by omega
                have hi0 : (0 : Int) ≤ (i : Int) := by omega
                have hj2 : (j : Int) < (a.length : Int) := by omega
                clear hcc hx hy hl1 hl2 hl3
                simp only [mv] at cl cl2 hEG hEQ
                have CL := Lib.hid cl; clear cl
                have CL2 := Lib.hid cl2; clear cl2
                have hst : ∀ w', Below wr.heap.size wr w' → ((w'.cell? (ad3.add (j * 7)) = some (.bool x.ext) ∧ w'.cell? ⟨(ad3.add (j * 7)).block, (ad3.add (j * 7)).off + 1, none⟩ = some (.int .i64 x.n) ∧ w'.cell? ⟨(ad3.add (j * 7)).block, (ad3.add (j * 7)).off + 2, none⟩ = some (.int .i64 x.sender) ∧ w'.cell? ⟨(ad3.add (j * 7)).block, (ad3.add (j * 7)).off + 3, none⟩ = some (.int .i64 x.inc) ∧ w'.cell? ⟨(ad3.add (j * 7)).block, (ad3.add (j * 7)).off + 4, none⟩ = some (.int .i64 x.seq) ∧ w'.cell? ⟨(ad3.add (j * 7)).block, (ad3.add (j * 7)).off + 5, none⟩ = some (.int .i64 x.number) ∧ w'.cell? ⟨(ad3.add (j * 7)).block, (ad3.add (j * 7)).off + 6, none⟩ = some (.string x.data)) ∧ (w'.cell? (ad3.add (i * 7)) = some (.bool y.ext) ∧ w'.cell? ⟨(ad3.add (i * 7)).block, (ad3.add (i * 7)).off + 1, none⟩ = some (.int .i64 y.n) ∧ w'.cell? ⟨(ad3.add (i * 7)).block, (ad3.add (i * 7)).off + 2, none⟩ = some (.int .i64 y.sender) ∧ w'.cell? ⟨(ad3.add (i * 7)).block, (ad3.add (i * 7)).off + 3, none⟩ = some (.int .i64 y.inc) ∧ w'.cell? ⟨(ad3.add (i * 7)).block, (ad3.add (i * 7)).off + 4, none⟩ = some (.int .i64 y.seq) ∧ w'.cell? ⟨(ad3.add (i * 7)).block, (ad3.add (i * 7)).off + 5, none⟩ = some (.int .i64 y.number) ∧ w'.cell? ⟨(ad3.add (i * 7)).block, (ad3.add (i * 7)).off + 6, none⟩ = some (.string y.data)) ∧ Below wr.heap.size wr w') := by
                  intro w' hb
                  obtain ⟨x0, x1, x2, x3, x4, x5, x6⟩ := hX.keep (w' := w') fun q hq => hb.cell (by rw [hq, adb]; exact had)
                  obtain ⟨y0, y1, y2, y3, y4, y5, y6⟩ := hY.keep (w' := w') fun q hq => hb.cell (by rw [hq, adb]; exact had)
                  exact ⟨⟨x0, x1, x2, x3, x4, x5, x6⟩, ⟨y0, y1, y2, y3, y4, y5, y6⟩, hb⟩
                have HST := Lib.hid hst
                obtain ⟨⟨x0, x1, x2, x3, x4, x5, x6⟩, ⟨y0, y1, y2, y3, y4, y5, y6⟩, _⟩ := hst wr (Below.refl _ _)
                clear hst hX hY
                have HST2 : Hid (∀ w' w'', ((w'.cell? (ad3.add (j * 7)) = some (.bool x.ext) ∧ w'.cell? ⟨(ad3.add (j * 7)).block, (ad3.add (j * 7)).off + 1, none⟩ = some (.int .i64 x.n) ∧ w'.cell? ⟨(ad3.add (j * 7)).block, (ad3.add (j * 7)).off + 2, none⟩ = some (.int .i64 x.sender) ∧ w'.cell? ⟨(ad3.add (j * 7)).block, (ad3.add (j * 7)).off + 3, none⟩ = some (.int .i64 x.inc) ∧ w'.cell? ⟨(ad3.add (j * 7)).block, (ad3.add (j * 7)).off + 4, none⟩ = some (.int .i64 x.seq) ∧ w'.cell? ⟨(ad3.add (j * 7)).block, (ad3.add (j * 7)).off + 5, none⟩ = some (.int .i64 x.number) ∧ w'.cell? ⟨(ad3.add (j * 7)).block, (ad3.add (j * 7)).off + 6, none⟩ = some (.string x.data)) ∧ (w'.cell? (ad3.add (i * 7)) = some (.bool y.ext) ∧ w'.cell? ⟨(ad3.add (i * 7)).block, (ad3.add (i * 7)).off + 1, none⟩ = some (.int .i64 y.n) ∧ w'.cell? ⟨(ad3.add (i * 7)).block, (ad3.add (i * 7)).off + 2, none⟩ = some (.int .i64 y.sender) ∧ w'.cell? ⟨(ad3.add (i * 7)).block, (ad3.add (i * 7)).off + 3, none⟩ = some (.int .i64 y.inc) ∧ w'.cell? ⟨(ad3.add (i * 7)).block, (ad3.add (i * 7)).off + 4, none⟩ = some (.int .i64 y.seq) ∧ w'.cell? ⟨(ad3.add (i * 7)).block, (ad3.add (i * 7)).off + 5, none⟩ = some (.int .i64 y.number) ∧ w'.cell? ⟨(ad3.add (i * 7)).block, (ad3.add (i * 7)).off + 6, none⟩ = some (.string y.data)) ∧ Below wr.heap.size wr w') → Below w'.heap.size w' w'' → ((w''.cell? (ad3.add (j * 7)) = some (.bool x.ext) ∧ w''.cell? ⟨(ad3.add (j * 7)).block, (ad3.add (j * 7)).off + 1, none⟩ = some (.int .i64 x.n) ∧ w''.cell? ⟨(ad3.add (j * 7)).block, (ad3.add (j * 7)).off + 2, none⟩ = some (.int .i64 x.sender) ∧ w''.cell? ⟨(ad3.add (j * 7)).block, (ad3.add (j * 7)).off + 3, none⟩ = some (.int .i64 x.inc) ∧ w''.cell? ⟨(ad3.add (j * 7)).block, (ad3.add (j * 7)).off + 4, none⟩ = some (.int .i64 x.seq) ∧ w''.cell? ⟨(ad3.add (j * 7)).block, (ad3.add (j * 7)).off + 5, none⟩ = some (.int .i64 x.number) ∧ w''.cell? ⟨(ad3.add (j * 7)).block, (ad3.add (j * 7)).off + 6, none⟩ = some (.string x.data)) ∧ (w''.cell? (ad3.add (i * 7)) = some (.bool y.ext) ∧ w''.cell? ⟨(ad3.add (i * 7)).block, (ad3.add (i * 7)).off + 1, none⟩ = some (.int .i64 y.n) ∧ w''.cell? ⟨(ad3.add (i * 7)).block, (ad3.add (i * 7)).off + 2, none⟩ = some (.int .i64 y.sender) ∧ w''.cell? ⟨(ad3.add (i * 7)).block, (ad3.add (i * 7)).off + 3, none⟩ = some (.int .i64 y.inc) ∧ w''.cell? ⟨(ad3.add (i * 7)).block, (ad3.add (i * 7)).off + 4, none⟩ = some (.int .i64 y.seq) ∧ w''.cell? ⟨(ad3.add (i * 7)).block, (ad3.add (i * 7)).off + 5, none⟩ = some (.int .i64 y.number) ∧ w''.cell? ⟨(ad3.add (i * 7)).block, (ad3.add (i * 7)).off + 6, none⟩ = some (.string y.data)) ∧ Below wr.heap.size wr w'')) := Lib.hid fun w' w'' h hb => HST.out w'' (below_trans h.2.2 hb)
                have HSB : Hid (∀ w', ((w'.cell? (ad3.add (j * 7)) = some (.bool x.ext) ∧ w'.cell? ⟨(ad3.add (j * 7)).block, (ad3.add (j * 7)).off + 1, none⟩ = some (.int .i64 x.n) ∧ w'.cell? ⟨(ad3.add (j * 7)).block, (ad3.add (j * 7)).off + 2, none⟩ = some (.int .i64 x.sender) ∧ w'.cell? ⟨(ad3.add (j * 7)).block, (ad3.add (j * 7)).off + 3, none⟩ = some (.int .i64 x.inc) ∧ w'.cell? ⟨(ad3.add (j * 7)).block, (ad3.add (j * 7)).off + 4, none⟩ = some (.int .i64 x.seq) ∧ w'.cell? ⟨(ad3.add (j * 7)).block, (ad3.add (j * 7)).off + 5, none⟩ = some (.int .i64 x.number) ∧ w'.cell? ⟨(ad3.add (j * 7)).block, (ad3.add (j * 7)).off + 6, none⟩ = some (.string x.data)) ∧ (w'.cell? (ad3.add (i * 7)) = some (.bool y.ext) ∧ w'.cell? ⟨(ad3.add (i * 7)).block, (ad3.add (i * 7)).off + 1, none⟩ = some (.int .i64 y.n) ∧ w'.cell? ⟨(ad3.add (i * 7)).block, (ad3.add (i * 7)).off + 2, none⟩ = some (.int .i64 y.sender) ∧ w'.cell? ⟨(ad3.add (i * 7)).block, (ad3.add (i * 7)).off + 3, none⟩ = some (.int .i64 y.inc) ∧ w'.cell? ⟨(ad3.add (i * 7)).block, (ad3.add (i * 7)).off + 4, none⟩ = some (.int .i64 y.seq) ∧ w'.cell? ⟨(ad3.add (i * 7)).block, (ad3.add (i * 7)).off + 5, none⟩ = some (.int .i64 y.number) ∧ w'.cell? ⟨(ad3.add (i * 7)).block, (ad3.add (i * 7)).off + 6, none⟩ = some (.string y.data)) ∧ Below wr.heap.size wr w') → Below wr.heap.size wr w') := Lib.hid fun w' h => h.2.2
                go_wp2_with fail
                go_region_held3 (fun w' => (w'.cell? (ad3.add (j * 7)) = some (.bool x.ext) ∧ w'.cell? ⟨(ad3.add (j * 7)).block, (ad3.add (j * 7)).off + 1, none⟩ = some (.int .i64 x.n) ∧ w'.cell? ⟨(ad3.add (j * 7)).block, (ad3.add (j * 7)).off + 2, none⟩ = some (.int .i64 x.sender) ∧ w'.cell? ⟨(ad3.add (j * 7)).block, (ad3.add (j * 7)).off + 3, none⟩ = some (.int .i64 x.inc) ∧ w'.cell? ⟨(ad3.add (j * 7)).block, (ad3.add (j * 7)).off + 4, none⟩ = some (.int .i64 x.seq) ∧ w'.cell? ⟨(ad3.add (j * 7)).block, (ad3.add (j * 7)).off + 5, none⟩ = some (.int .i64 x.number) ∧ w'.cell? ⟨(ad3.add (j * 7)).block, (ad3.add (j * 7)).off + 6, none⟩ = some (.string x.data)) ∧ (w'.cell? (ad3.add (i * 7)) = some (.bool y.ext) ∧ w'.cell? ⟨(ad3.add (i * 7)).block, (ad3.add (i * 7)).off + 1, none⟩ = some (.int .i64 y.n) ∧ w'.cell? ⟨(ad3.add (i * 7)).block, (ad3.add (i * 7)).off + 2, none⟩ = some (.int .i64 y.sender) ∧ w'.cell? ⟨(ad3.add (i * 7)).block, (ad3.add (i * 7)).off + 3, none⟩ = some (.int .i64 y.inc) ∧ w'.cell? ⟨(ad3.add (i * 7)).block, (ad3.add (i * 7)).off + 4, none⟩ = some (.int .i64 y.seq) ∧ w'.cell? ⟨(ad3.add (i * 7)).block, (ad3.add (i * 7)).off + 5, none⟩ = some (.int .i64 y.number) ∧ w'.cell? ⟨(ad3.add (i * 7)).block, (ad3.add (i * 7)).off + 6, none⟩ = some (.string y.data)) ∧ Below wr.heap.size wr w') (first | assumption | exact HST.out _ (Below.refl _ _).drew | exact HST2.out _ _ (by assumption) (by assumption)) (first | (go_at_call_of 14 (#[.agg #[.bool x.ext, .int .i64 x.n, .int .i64 x.sender, .int .i64 x.inc, .int .i64 x.seq, .int .i64 x.number, .string x.data], .agg #[.bool y.ext, .int .i64 y.n, .int .i64 y.sender, .int .i64 y.inc, .int .i64 y.seq, .int .i64 y.number, .string y.data]] : Array Value); refine (CL.out _ (HLN.out _ (HSB.out _ (by assumption)))).mono ?_; rintro e w8 ⟨rfl, hb8⟩) | (go_at_call_of 14 (#[.agg #[.bool y.ext, .int .i64 y.n, .int .i64 y.sender, .int .i64 y.inc, .int .i64 y.seq, .int .i64 y.number, .string y.data], .agg #[.bool x.ext, .int .i64 x.n, .int .i64 x.sender, .int .i64 x.inc, .int .i64 x.seq, .int .i64 x.number, .string x.data]] : Array Value); refine (CL2.out _ (HLN.out _ (HSB.out _ (by assumption)))).mono ?_; rintro e w9 ⟨rfl, hb9⟩))
                go_wp2_with fail
                have hb10 := below_trans (((Below.refl wr.heap.size wr).drew).trans hb8) hb9
                go_roundw
                case rel => exact ⟨j + 1, by omega, by go_num, HBM.out.trans (hb10.mono HBM.out.size)⟩
                case measure => simp [intOf]; omega
              · have hjI : ¬ (j : Int) < (i : Int) := by omega
                go_wp2_with fail
                go_roundw
                case rel => exact ⟨i + 1, by omega, by go_num, HBM.out⟩
                case measure => simp [intOf]; omega
          · have hge : ¬ (i : Int) < (a.length : Int) := by omega
            go_wp2_with fail
            go_ret
            exact ⟨rfl, HW8.out.trans (HBN.out.mono HW8.out.size)⟩
      · go_wp2_with fail
        refine (hpk _).mono ?_; rintro e w2 ⟨rfl, rfl⟩
        go_wp2_with fail
        have hmw := HMM.out
        refine (T.sort Am cm _ ms _ (L.below HB.out) HMM.out (Nat.le_refl _) (by omega) hsmall).mono ?_; rintro e w3 ⟨u3, rfl, h3, b3⟩
        have hB3 := HB.out.trans (b3.mono HB.out.size)
        have hm3 := HMM.out.below b3 (Nat.le_refl _)
        have hfr := (HMM.out.front q).below b3 (Nat.le_refl _)
        obtain ⟨A3, c3, rfl, hc3, m3⟩ := h3.row
        have hmd3 := hmd _ _ hm3
        generalize hsms : sortL ms = a at *
        have hw3 : wr.heap.size ≤ w3.heap.size := b3.size
        have HW := Lib.hid hB3
        have HLZ0 := Lib.hid (L.below hB3)
        have HA4 := Lib.hid m3
        have HMT0 := Lib.hid (hfr.more hw3)
        have HMD0 := Lib.hid (hmd3.more hw3)
        clear hmd hfr hm3 hmd3 hB3 h3 b3 m3 hw3
        generalize htk : ms.take q = tk at *
        generalize hdk : ms.drop q = dk at *
        obtain ⟨XL, hXL⟩ : ∃ XL, dk ++ tk = XL := ⟨_, rfl⟩
        rw [hXL] at hsx hxs hxl
        have HXL := Lib.hid hXL
        have HSX := Lib.hid hsx
        have HSMX := Lib.hid hxs
        have KT := Lib.hid hkt
        have KD := Lib.hid hkd
        have HLEN : Hid (tk.length ≤ 19 ∧ dk.length ≤ 19 ∧ XL.length ≤ 19) := Lib.hid ⟨by omega, by omega, by omega⟩
        have HQE : Hid (((a.length : Int) != (ms.length : Int)) = false) := Lib.hid (by have := HSL.out; simp; omega)
        have HAL := Lib.hid hsl10
        clear hXL hsx hxs hkt hkd htk hdk hsl10 hxl htl hdl hsms sp sq hgood hsmall hpk hpr hql hperm
        go_wp2_with fail
        generalize hWz : w3 = Wz at *
        have HLZ := HLZ0
        have HMT := HMT0
        have HMD := HMD0
        have HV : ∃ V : Nat → (Nat → Value) → World → Prop, V = (fun ix u wv => match ix with
          | 0 => u 0 = .slice Am ms.length cm
          | 1 => u 1 = .int .i64 (q : Int)
          | 2 => u 2 = .slice A2 dk.length c2
          | 3 => OwnM wv Wz.heap.size (u 3) (dk)
          | 4 => u 4 = .slice Am ms.length cm
          | 5 => u 5 = .int .i64 (q : Int)
          | 6 => u 6 = .slice Am tk.length cm
          | 7 => OwnM wv Wz.heap.size (u 7) (XL)
          | 8 => OwnM wv Wz.heap.size (u 8) (a)
          | 9 => OwnM wv Wz.heap.size (u 9) (a)
          | _ => True) := ⟨_, rfl⟩
        obtain ⟨V, hVdef⟩ := HV
        have V0 : ∀ u wv, V 0 u wv = (u 0 = .slice Am ms.length cm) := fun u wv => by subst hVdef; rfl
        have V1 : ∀ u wv, V 1 u wv = (u 1 = .int .i64 (q : Int)) := fun u wv => by subst hVdef; rfl
        have V2 : ∀ u wv, V 2 u wv = (u 2 = .slice A2 dk.length c2) := fun u wv => by subst hVdef; rfl
        have V3 : ∀ u wv, V 3 u wv = (OwnM wv Wz.heap.size (u 3) (dk)) := fun u wv => by subst hVdef; rfl
        have V4 : ∀ u wv, V 4 u wv = (u 4 = .slice Am ms.length cm) := fun u wv => by subst hVdef; rfl
        have V5 : ∀ u wv, V 5 u wv = (u 5 = .int .i64 (q : Int)) := fun u wv => by subst hVdef; rfl
        have V6 : ∀ u wv, V 6 u wv = (u 6 = .slice Am tk.length cm) := fun u wv => by subst hVdef; rfl
        have V7 : ∀ u wv, V 7 u wv = (OwnM wv Wz.heap.size (u 7) (XL)) := fun u wv => by subst hVdef; rfl
        have V8 : ∀ u wv, V 8 u wv = (OwnM wv Wz.heap.size (u 8) (a)) := fun u wv => by subst hVdef; rfl
        have V9 : ∀ u wv, V 9 u wv = (OwnM wv Wz.heap.size (u 9) (a)) := fun u wv => by subst hVdef; rfl
        have HVD := Lib.hid hVdef
        clear hVdef
        refine region_each (V := V) (drop := fun jx ix => (jx == 7 && ix == 3)) (G := fun wv => Below Wz.heap.size Wz wv) (Rel := fun jx wv wv' => jx = 7 ∨ Below wv.heap.size wv wv') (by kernel_rfl) (by kernel_rfl) (Below.refl _ _).drew ?hmono61 ?hdep61 ⟨?s0_61, ?s1_61, ?s2_61, ?s3_61, ?s4_61, ?s5_61, ?s6_61, ?s7_61, ?s8_61, ?s9_61, trivial⟩ ?behind61
        case hmono61 =>
          intro ix jx u wv wv' hij hw hd hr
          rw [HVD.out]
          dsimp only
          split <;> intro h <;> first | exact trivial | exact h | (rcases hr with rfl | hb <;> first | exact absurd rfl hij | (simp at hd; done) | exact h.on hb | (have ht := Eq.trans (Eq.symm hw) (by kernel_rfl : _ = true); cases ht))
        case hdep61 =>
          intro ix u u' wv h1 h2
          rw [HVD.out]
          dsimp only
          split <;> intro h <;> first | exact trivial | (rw [← h1]; exact h) | (fail)
        case s0_61 =>
          refine owe rfl fun a wx val hG hV hN hO K hK => ?_
          have e6 : a.tmps[6]? = some (.slice Am ms.length cm) := (hO 6 (by kernel_rfl)).trans (by rfl)
          clear hV hN hO
          go_simp
          exact hK.out _ _ (by rw [V0, upd_at]) (.inr (Below.refl _ _)) hG
        case s1_61 =>
          refine owe rfl fun a wx val hG hV hN hO K hK => ?_
          have e9 : a.tmps[9]? = some (.int .i64 (q : Int)) := (hO 9 (by kernel_rfl)).trans (by rfl)
          clear hV hN hO
          go_simp
          exact hK.out _ _ (by rw [V1, upd_at]) (.inr (Below.refl _ _)) hG
        case s2_61 =>
          refine owe rfl fun a wx val hG hV hN hO K hK => ?_
          have e44 := hN 0 44 (by kernel_rfl) (by kernel_rfl) (by simp)
          have f44 := hV 0 (by kernel_rfl) (by kernel_rfl)
          rw [V0] at f44
          rw [f44] at e44; clear f44
          have e45 := hN 1 45 (by kernel_rfl) (by kernel_rfl) (by simp)
          have f45 := hV 1 (by kernel_rfl) (by kernel_rfl)
          rw [V1] at f45
          rw [f45] at e45; clear f45
          clear hV hN hO
          have kd := KD.out
          go_simp
          exact hK.out _ _ (by rw [V2, upd_at]) (.inr (Below.refl _ _)) hG
        case s3_61 =>
          refine owe rfl fun a wx val hG hV hN hO K hK => ?_
          have e46 := hN 2 46 (by kernel_rfl) (by kernel_rfl) (by simp)
          have f46 := hV 2 (by kernel_rfl) (by kernel_rfl)
          rw [V2] at f46
          rw [f46] at e46; clear f46
          clear hV hN hO
          refine wp_appM (.const (.slice none 0 0)) (.tmp 46) rfl wx.heap.size Wz.heap.size (.slice none 0 0) [] dk A2 c2 rfl (by simp [Act.eval, e46]) (OwnM.nil _ _) (HMD.out.below hG (Nat.le_refl _)) (Nat.le_refl _) (by have := HLEN.out.2.1; simp only [List.length_nil]; omega) ?_
          intro u3 w3 hown hgr
          have hb := OwnM.below (OwnM.nil wx wx.heap.size) hgr (Nat.le_refl _)
          exact hK.out _ _ (by rw [V3, upd_at]; rw [List.nil_append] at hown; exact hown.base hG.size) (.inr hb) (hG.trans (hb.mono hG.size))
        case s4_61 =>
          refine owe rfl fun a wx val hG hV hN hO K hK => ?_
          have e6 : a.tmps[6]? = some (.slice Am ms.length cm) := (hO 6 (by kernel_rfl)).trans (by rfl)
          clear hV hN hO
          go_simp
          exact hK.out _ _ (by rw [V4, upd_at]) (.inr (Below.refl _ _)) hG
        case s5_61 =>
          refine owe rfl fun a wx val hG hV hN hO K hK => ?_
          have e9 : a.tmps[9]? = some (.int .i64 (q : Int)) := (hO 9 (by kernel_rfl)).trans (by rfl)
          clear hV hN hO
          go_simp
          exact hK.out _ _ (by rw [V5, upd_at]) (.inr (Below.refl _ _)) hG
        case s6_61 =>
          refine owe rfl fun a wx val hG hV hN hO K hK => ?_
          have e48 := hN 4 48 (by kernel_rfl) (by kernel_rfl) (by simp)
          have f48 := hV 4 (by kernel_rfl) (by kernel_rfl)
          rw [V4] at f48
          rw [f48] at e48; clear f48
          have e49 := hN 5 49 (by kernel_rfl) (by kernel_rfl) (by simp)
          have f49 := hV 5 (by kernel_rfl) (by kernel_rfl)
          rw [V5] at f49
          rw [f49] at e49; clear f49
          clear hV hN hO
          have kt := KT.out
          go_simp
          exact hK.out _ _ (by rw [V6, upd_at]) (.inr (Below.refl _ _)) hG
        case s7_61 =>
          refine owe rfl fun a wx val hG hV hN hO K hK => ?_
          have e47 := hN 3 47 (by kernel_rfl) (by kernel_rfl) (by simp)
          have f47 := hV 3 (by kernel_rfl) (by kernel_rfl)
          rw [V3] at f47
          have hu3 := f47
          have e50 := hN 6 50 (by kernel_rfl) (by kernel_rfl) (by simp)
          have f50 := hV 6 (by kernel_rfl) (by kernel_rfl)
          rw [V6] at f50
          rw [f50] at e50; clear f50
          clear hV hN hO
          refine wp_appM (.tmp 47) (.tmp 50) rfl Wz.heap.size Wz.heap.size (val 3) dk tk Am cm (by simp [Act.eval, e47]) (by simp [Act.eval, e50]) hu3 (HMT.out.below hG (Nat.le_refl _)) hG.size (by have := HLEN.out; omega) ?_
          intro u8 w8 hown hgr
          exact hK.out _ _ (by rw [V7, upd_at]; rw [HXL.out] at hown; exact hown) (.inl rfl) (hG.trans (OwnM.below hu3 hgr hG.size))
        case s8_61 =>
          refine owe rfl fun a wx val hG hV hN hO K hK => ?_
          have e51 := hN 7 51 (by kernel_rfl) (by kernel_rfl) (by simp)
          have f51 := hV 7 (by kernel_rfl) (by kernel_rfl)
          rw [V7] at f51
          have hu7 := f51
          clear hV hN hO
          obtain ⟨A8, c8, e8, _, m8⟩ := hu7.row
          rw [e8] at e51
          go_simp
          refine (T.sort A8 c8 wx.heap.size XL _ (HLZ.out.below hG) m8 (Nat.le_refl _) HLEN.out.2.2 HSMX.out).mono ?_
          rintro e w9 ⟨u9, rfl, h9, hb⟩
          exact hK.out _ _ (by rw [V8, upd_at]; rw [HSX.out] at h9; exact h9.base hG.size) (.inr hb) (hG.trans (hb.mono hG.size))
        case s9_61 =>
          refine owe rfl fun a wx val hG hV hN hO K hK => ?_
          have e52 := hN 8 52 (by kernel_rfl) (by kernel_rfl) (by simp)
          have f52 := hV 8 (by kernel_rfl) (by kernel_rfl)
          rw [V8] at f52
          have hu8 := f52
          clear hV hN hO
          go_simp
          exact hK.out _ _ (by rw [V9, upd_at]; exact hu8) (.inr (Below.refl _ _)) hG
        intro val wx hG hV
        have f0 := hV 0 (by simp) (fun _ _ => by simp)
        rw [V0] at f0
        have f1 := hV 1 (by simp) (fun _ _ => by simp)
        rw [V1] at f1
        have f2 := hV 2 (by simp) (fun _ _ => by simp)
        rw [V2] at f2
        have f4 := hV 4 (by simp) (fun _ _ => by simp)
        rw [V4] at f4
        have f5 := hV 5 (by simp) (fun _ _ => by simp)
        rw [V5] at f5
        have f6 := hV 6 (by simp) (fun _ _ => by simp)
        rw [V6] at f6
        have f7 := hV 7 (by simp) (fun _ _ => by simp)
        rw [V7] at f7
        have f8 := hV 8 (by simp) (fun _ _ => by simp)
        rw [V8] at f8
        have f9 := hV 9 (by simp) (fun _ _ => by simp)
        rw [V9] at f9
        clear hV V0 V1 V2 V3 V4 V5 V6 V7 V8 V9
        simp only [putAll, Act.put, List.setIfInBounds_toArray, List.set_cons_zero, List.set_cons_succ]
        generalize val 0 = z0 at *; (subst f0)
        generalize val 1 = z1 at *; (subst f1)
        generalize val 2 = z2 at *; (subst f2)
        generalize val 4 = z4 at *; (subst f4)
        generalize val 5 = z5 at *; (subst f5)
        generalize val 6 = z6 at *; (subst f6)
        obtain ⟨A9, c9, e9, _, m9⟩ := f9.row
        have HG := Lib.hid (HW.out.trans (hG.mono HW.out.size))
        have HM9 := Lib.hid m9
        have HA5 := Lib.hid (HA4.out.below hG (Nat.le_refl _))
        have HZ5 := Lib.hid hG.size
        clear f7 f8 f9 m9 hG HA4 HMT HMD HLZ HMT0 HMD0 KT KD HSX HSMX HXL HLEN
        generalize val 9 = z9 at *
        subst e9
        generalize val 8 = z8 at *
        generalize val 7 = z7 at *
        generalize val 3 = z3 at *
        clear hWz hI hI8
        have hq := HQE.out
        go_wp2_with fail
        refine (same_any A3 A9 c3 c9 _ _ a a _ HA5.out HM9.out (by unfold maxLen; have := HAL.out; omega)).mono ?_; rintro e w8 ⟨rfl, n8, rfl⟩
        rw [same_true]
        clear hq
        have HA8 := Lib.hid (HA5.out.below (below_drewN (Below.refl _ _) n8) (Nat.le_refl _))
        have HW8 := Lib.hid (below_drewN HG.out n8)
        have HZ8 : Hid (Wz.heap.size ≤ (wx.drewN n8).heap.size) := HZ5
        go_wp2_with fail
        generalize wx.drewN n8 = W8 at *
        go_loopw [12] (fun i wN => ∃ i' : Nat, i' ≤ a.length ∧ i = .int .i64 (i' : Int) ∧ Below W8.heap.size W8 wN) (fun i _ => a.length - (intOf i).toNat)
        case atStart => exact ⟨0, by omega, rfl, Below.refl _ _⟩
        case round =>
          obtain ⟨i, hia, rfl, hbN⟩ := hrel
          have HBN := Lib.hid hbN; clear hbN
          have hi10 : (i : Int) ≤ 10 := by have := HAL.out; omega
          by_cases hlt2 : i < a.length
          · have hltI : (i : Int) < (a.length : Int) := by omega
            go_wp2_with fail
            go_loopw [13] (fun jv wM => ∃ j : Nat, j ≤ i ∧ jv = .int .i64 (j : Int) ∧ Below W8.heap.size W8 wM) (fun jv _ => i - (intOf jv).toNat)
            case atStart => exact ⟨0, by omega, rfl, HBN.out⟩
            case round =>
              obtain ⟨j, hji, rfl, hbM⟩ := hrel
              have HBM := Lib.hid hbM
              have hWN := HW8.out.trans (hbM.mono HW8.out.size)
              have hAN := HA8.out.below hbM HZ8.out
              have HLN := Lib.hid (fun w' (h : Below wr.heap.size wr w') => (L.below hWN).below h)
              have HAN := Lib.hid hAN
              clear hbM hWN hAN
              by_cases hj : j < i
              · have hjI : (j : Int) < (i : Int) := by omega
                obtain ⟨x, hx⟩ : ∃ x, a[j]? = some x := ⟨_, List.getElem?_eq_getElem (by omega)⟩
                obtain ⟨y, hy⟩ : ∃ y, a[i]? = some y := ⟨_, List.getElem?_eq_getElem hlt2⟩
                obtain ⟨hl1, hl2, hl3⟩ := HATT.out i j x y hx hy hj
                have cl := fun w L => T.less x y w L
                have cl2 := fun w L => T.less y x w L
                rw [hl1] at cl
                rw [hl2] at cl2
                have hEG := fun op p q w => eqM_guard op p q y x w
                have hEQ := fun w => eqlM y x w
                rw [hl3] at hEQ
                obtain ⟨ad3, rfl, hadb, hcc⟩ := HAN.out (by omega)
                have hX := hcc j x hx
                have hY := hcc i y hy
                have had : ad3.block < wr.heap.size := by have := HZ8.out; have := HBM.out.size; omega
                have hj0 : (0 : Int) ≤ (j : Int) := by omega
                have hi0 : (0 : Int) ≤ (i : Int) := by omega
                have hj2 : (j : Int) < (a.length : Int) := by omega
                clear hcc hx hy hl1 hl2 hl3
                simp only [mv] at cl cl2 hEG hEQ
                have CL := Lib.hid cl; clear cl
                have CL2 := Lib.hid cl2; clear cl2
                have hst : ∀ w', Below wr.heap.size wr w' → ((w'.cell? (ad3.add (j * 7)) = some (.bool x.ext) ∧ w'.cell? ⟨(ad3.add (j * 7)).block, (ad3.add (j * 7)).off + 1, none⟩ = some (.int .i64 x.n) ∧ w'.cell? ⟨(ad3.add (j * 7)).block, (ad3.add (j * 7)).off + 2, none⟩ = some (.int .i64 x.sender) ∧ w'.cell? ⟨(ad3.add (j * 7)).block, (ad3.add (j * 7)).off + 3, none⟩ = some (.int .i64 x.inc) ∧ w'.cell? ⟨(ad3.add (j * 7)).block, (ad3.add (j * 7)).off + 4, none⟩ = some (.int .i64 x.seq) ∧ w'.cell? ⟨(ad3.add (j * 7)).block, (ad3.add (j * 7)).off + 5, none⟩ = some (.int .i64 x.number) ∧ w'.cell? ⟨(ad3.add (j * 7)).block, (ad3.add (j * 7)).off + 6, none⟩ = some (.string x.data)) ∧ (w'.cell? (ad3.add (i * 7)) = some (.bool y.ext) ∧ w'.cell? ⟨(ad3.add (i * 7)).block, (ad3.add (i * 7)).off + 1, none⟩ = some (.int .i64 y.n) ∧ w'.cell? ⟨(ad3.add (i * 7)).block, (ad3.add (i * 7)).off + 2, none⟩ = some (.int .i64 y.sender) ∧ w'.cell? ⟨(ad3.add (i * 7)).block, (ad3.add (i * 7)).off + 3, none⟩ = some (.int .i64 y.inc) ∧ w'.cell? ⟨(ad3.add (i * 7)).block, (ad3.add (i * 7)).off + 4, none⟩ = some (.int .i64 y.seq) ∧ w'.cell? ⟨(ad3.add (i * 7)).block, (ad3.add (i * 7)).off + 5, none⟩ = some (.int .i64 y.number) ∧ w'.cell? ⟨(ad3.add (i * 7)).block, (ad3.add (i * 7)).off + 6, none⟩ = some (.string y.data)) ∧ Below wr.heap.size wr w') := by
                  intro w' hb
                  obtain ⟨x0, x1, x2, x3, x4, x5, x6⟩ := hX.keep (w' := w') fun q hq => hb.cell (by rw [hq, adb]; exact had)
                  obtain ⟨y0, y1, y2, y3, y4, y5, y6⟩ := hY.keep (w' := w') fun q hq => hb.cell (by rw [hq, adb]; exact had)
                  exact ⟨⟨x0, x1, x2, x3, x4, x5, x6⟩, ⟨y0, y1, y2, y3, y4, y5, y6⟩, hb⟩
                have HST := Lib.hid hst
                obtain ⟨⟨x0, x1, x2, x3, x4, x5, x6⟩, ⟨y0, y1, y2, y3, y4, y5, y6⟩, _⟩ := hst wr (Below.refl _ _)
                clear hst hX hY
                have HST2 : Hid (∀ w' w'', ((w'.cell? (ad3.add (j * 7)) = some (.bool x.ext) ∧ w'.cell? ⟨(ad3.add (j * 7)).block, (ad3.add (j * 7)).off + 1, none⟩ = some (.int .i64 x.n) ∧ w'.cell? ⟨(ad3.add (j * 7)).block, (ad3.add (j * 7)).off + 2, none⟩ = some (.int .i64 x.sender) ∧ w'.cell? ⟨(ad3.add (j * 7)).block, (ad3.add (j * 7)).off + 3, none⟩ = some (.int .i64 x.inc) ∧ w'.cell? ⟨(ad3.add (j * 7)).block, (ad3.add (j * 7)).off + 4, none⟩ = some (.int .i64 x.seq) ∧ w'.cell? ⟨(ad3.add (j * 7)).block, (ad3.add (j * 7)).off + 5, none⟩ = some (.int .i64 x.number) ∧ w'.cell? ⟨(ad3.add (j * 7)).block, (ad3.add (j * 7)).off + 6, none⟩ = some (.string x.data)) ∧ (w'.cell? (ad3.add (i * 7)) = some (.bool y.ext) ∧ w'.cell? ⟨(ad3.add (i * 7)).block, (ad3.add (i * 7)).off + 1, none⟩ = some (.int .i64 y.n) ∧ w'.cell? ⟨(ad3.add (i * 7)).block, (ad3.add (i * 7)).off + 2, none⟩ = some (.int .i64 y.sender) ∧ w'.cell? ⟨(ad3.add (i * 7)).block, (ad3.add (i * 7)).off + 3, none⟩ = some (.int .i64 y.inc) ∧ w'.cell? ⟨(ad3.add (i * 7)).block, (ad3.add (i * 7)).off + 4, none⟩ = some (.int .i64 y.seq) ∧ w'.cell? ⟨(ad3.add (i * 7)).block, (ad3.add (i * 7)).off + 5, none⟩ = some (.int .i64 y.number) ∧ w'.cell? ⟨(ad3.add (i * 7)).block, (ad3.add (i * 7)).off + 6, none⟩ = some (.string y.data)) ∧ Below wr.heap.size wr w') → Below w'.heap.size w' w'' → ((w''.cell? (ad3.add (j * 7)) = some (.bool x.ext) ∧ w''.cell? ⟨(ad3.add (j * 7)).block, (ad3.add (j * 7)).off + 1, none⟩ = some (.int .i64 x.n) ∧ w''.cell? ⟨(ad3.add (j * 7)).block, (ad3.add (j * 7)).off + 2, none⟩ = some (.int .i64 x.sender) ∧ w''.cell? ⟨(ad3.add (j * 7)).block, (ad3.add (j * 7)).off + 3, none⟩ = some (.int .i64 x.inc) ∧ w''.cell? ⟨(ad3.add (j * 7)).block, (ad3.add (j * 7)).off + 4, none⟩ = some (.int .i64 x.seq) ∧ w''.cell? ⟨(ad3.add (j * 7)).block, (ad3.add (j * 7)).off + 5, none⟩ = some (.int .i64 x.number) ∧ w''.cell? ⟨(ad3.add (j * 7)).block, (ad3.add (j * 7)).off + 6, none⟩ = some (.string x.data)) ∧ (w''.cell? (ad3.add (i * 7)) = some (.bool y.ext) ∧ w''.cell? ⟨(ad3.add (i * 7)).block, (ad3.add (i * 7)).off + 1, none⟩ = some (.int .i64 y.n) ∧ w''.cell? ⟨(ad3.add (i * 7)).block, (ad3.add (i * 7)).off + 2, none⟩ = some (.int .i64 y.sender) ∧ w''.cell? ⟨(ad3.add (i * 7)).block, (ad3.add (i * 7)).off + 3, none⟩ = some (.int .i64 y.inc) ∧ w''.cell? ⟨(ad3.add (i * 7)).block, (ad3.add (i * 7)).off + 4, none⟩ = some (.int .i64 y.seq) ∧ w''.cell? ⟨(ad3.add (i * 7)).block, (ad3.add (i * 7)).off + 5, none⟩ = some (.int .i64 y.number) ∧ w''.cell? ⟨(ad3.add (i * 7)).block, (ad3.add (i * 7)).off + 6, none⟩ = some (.string y.data)) ∧ Below wr.heap.size wr w'')) := Lib.hid fun w' w'' h hb => HST.out w'' (below_trans h.2.2 hb)
                have HSB : Hid (∀ w', ((w'.cell? (ad3.add (j * 7)) = some (.bool x.ext) ∧ w'.cell? ⟨(ad3.add (j * 7)).block, (ad3.add (j * 7)).off + 1, none⟩ = some (.int .i64 x.n) ∧ w'.cell? ⟨(ad3.add (j * 7)).block, (ad3.add (j * 7)).off + 2, none⟩ = some (.int .i64 x.sender) ∧ w'.cell? ⟨(ad3.add (j * 7)).block, (ad3.add (j * 7)).off + 3, none⟩ = some (.int .i64 x.inc) ∧ w'.cell? ⟨(ad3.add (j * 7)).block, (ad3.add (j * 7)).off + 4, none⟩ = some (.int .i64 x.seq) ∧ w'.cell? ⟨(ad3.add (j * 7)).block, (ad3.add (j * 7)).off + 5, none⟩ = some (.int .i64 x.number) ∧ w'.cell? ⟨(ad3.add (j * 7)).block, (ad3.add (j * 7)).off + 6, none⟩ = some (.string x.data)) ∧ (w'.cell? (ad3.add (i * 7)) = some (.bool y.ext) ∧ w'.cell? ⟨(ad3.add (i * 7)).block, (ad3.add (i * 7)).off + 1, none⟩ = some (.int .i64 y.n) ∧ w'.cell? ⟨(ad3.add (i * 7)).block, (ad3.add (i * 7)).off + 2, none⟩ = some (.int .i64 y.sender) ∧ w'.cell? ⟨(ad3.add (i * 7)).block, (ad3.add (i * 7)).off + 3, none⟩ = some (.int .i64 y.inc) ∧ w'.cell? ⟨(ad3.add (i * 7)).block, (ad3.add (i * 7)).off + 4, none⟩ = some (.int .i64 y.seq) ∧ w'.cell? ⟨(ad3.add (i * 7)).block, (ad3.add (i * 7)).off + 5, none⟩ = some (.int .i64 y.number) ∧ w'.cell? ⟨(ad3.add (i * 7)).block, (ad3.add (i * 7)).off + 6, none⟩ = some (.string y.data)) ∧ Below wr.heap.size wr w') → Below wr.heap.size wr w') := Lib.hid fun w' h => h.2.2
                go_wp2_with fail
                go_region_held3 (fun w' => (w'.cell? (ad3.add (j * 7)) = some (.bool x.ext) ∧ w'.cell? ⟨(ad3.add (j * 7)).block, (ad3.add (j * 7)).off + 1, none⟩ = some (.int .i64 x.n) ∧ w'.cell? ⟨(ad3.add (j * 7)).block, (ad3.add (j * 7)).off + 2, none⟩ = some (.int .i64 x.sender) ∧ w'.cell? ⟨(ad3.add (j * 7)).block, (ad3.add (j * 7)).off + 3, none⟩ = some (.int .i64 x.inc) ∧ w'.cell? ⟨(ad3.add (j * 7)).block, (ad3.add (j * 7)).off + 4, none⟩ = some (.int .i64 x.seq) ∧ w'.cell? ⟨(ad3.add (j * 7)).block, (ad3.add (j * 7)).off + 5, none⟩ = some (.int .i64 x.number) ∧ w'.cell? ⟨(ad3.add (j * 7)).block, (ad3.add (j * 7)).off + 6, none⟩ = some (.string x.data)) ∧ (w'.cell? (ad3.add (i * 7)) = some (.bool y.ext) ∧ w'.cell? ⟨(ad3.add (i * 7)).block, (ad3.add (i * 7)).off + 1, none⟩ = some (.int .i64 y.n) ∧ w'.cell? ⟨(ad3.add (i * 7)).block, (ad3.add (i * 7)).off + 2, none⟩ = some (.int .i64 y.sender) ∧ w'.cell? ⟨(ad3.add (i * 7)).block, (ad3.add (i * 7)).off + 3, none⟩ = some (.int .i64 y.inc) ∧ w'.cell? ⟨(ad3.add (i * 7)).block, (ad3.add (i * 7)).off + 4, none⟩ = some (.int .i64 y.seq) ∧ w'.cell? ⟨(ad3.add (i * 7)).block, (ad3.add (i * 7)).off + 5, none⟩ = some (.int .i64 y.number) ∧ w'.cell? ⟨(ad3.add (i * 7)).block, (ad3.add (i * 7)).off + 6, none⟩ = some (.string y.data)) ∧ Below wr.heap.size wr w') (first | assumption | exact HST.out _ (Below.refl _ _).drew | exact HST2.out _ _ (by assumption) (by assumption)) (first | (go_at_call_of 14 (#[.agg #[.bool x.ext, .int .i64 x.n, .int .i64 x.sender, .int .i64 x.inc, .int .i64 x.seq, .int .i64 x.number, .string x.data], .agg #[.bool y.ext, .int .i64 y.n, .int .i64 y.sender, .int .i64 y.inc, .int .i64 y.seq, .int .i64 y.number, .string y.data]] : Array Value); refine (CL.out _ (HLN.out _ (HSB.out _ (by assumption)))).mono ?_; rintro e w8 ⟨rfl, hb8⟩) | (go_at_call_of 14 (#[.agg #[.bool y.ext, .int .i64 y.n, .int .i64 y.sender, .int .i64 y.inc, .int .i64 y.seq, .int .i64 y.number, .string y.data], .agg #[.bool x.ext, .int .i64 x.n, .int .i64 x.sender, .int .i64 x.inc, .int .i64 x.seq, .int .i64 x.number, .string x.data]] : Array Value); refine (CL2.out _ (HLN.out _ (HSB.out _ (by assumption)))).mono ?_; rintro e w9 ⟨rfl, hb9⟩))
                go_wp2_with fail
                have hb10 := below_trans (((Below.refl wr.heap.size wr).drew).trans hb8) hb9
                go_roundw
                case rel => exact ⟨j + 1, by omega, by go_num, HBM.out.trans (hb10.mono HBM.out.size)⟩
                case measure => simp [intOf]; omega
              · have hjI : ¬ (j : Int) < (i : Int) := by omega
                go_wp2_with fail
                go_roundw
                case rel => exact ⟨i + 1, by omega, by go_num, HBM.out⟩
                case measure => simp [intOf]; omega
          · have hge : ¬ (i : Int) < (a.length : Int) := by omega
            go_wp2_with fail
            go_ret
            exact ⟨rfl, HW8.out.trans (HBN.out.mono HW8.out.size)⟩

end Go.Proofs.YtgolnklgbhilaaaDoor

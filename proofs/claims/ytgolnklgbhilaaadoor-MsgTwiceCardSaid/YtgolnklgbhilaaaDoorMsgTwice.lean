/-
  The law MsgTwice, walked.
-/
import Derived.Test.YtgolnklgbhilaaaDoorMsgNumL
import Derived.Test.YtgolnklgbhilaaaDoorMsgSorts
namespace Go.Proofs.YtgolnklgbhilaaaDoor
open Go.RowKit

set_option maxRecDepth 100000 in
set_option maxHeartbeats 8000000 in
theorem msgTwice_walk (T : Told) (A : Option Addr) (c : Nat) (l : List Raw) (at' : Int) (hat : (Lit.int .i64 at').wf = true) (w : World) (L : Laid w) (f0 : RowsOk w A c l) :
    Calls Tryd.prog 7 #[.slice A l.length c, .int .i64 at'] w fun e w' => e = .returned (.bool true) ∧ Below w.heap.size w w' := by
  obtain ⟨hrs, ⟨hlc, hcm⟩, hwf⟩ := f0
  unfold maxLen at hcm
  have cA := fun w L => awake_any T w L
  go_enter Tryd.func7, Tryd.ntmps7
  go_wp2_with fail
  refine (cA _ L).mono ?_; rintro e w1 ⟨rfl, b1⟩
  go_wp2_with fail
  go_loopw [6, 7] (fun u i wr => ∃ k : Nat, k ≤ l.length ∧ k ≤ 10 ∧ i = .int .i64 (k : Int) ∧ OwnM wr w.heap.size u (rowN (l.take k)) ∧ Below w.heap.size w wr) (fun _ i _ => 10 - (intOf i).toNat)
  case atStart => exact ⟨0, by omega, by omega, rfl, OwnM.nil _ _, b1⟩
  case round =>
    obtain ⟨k, hk, hk10, rfl, hown, hb⟩ := hrel
    have HOWN := Lib.hid hown; clear hown
    have HB := Lib.hid hb; clear hb
    have hol : (rowN (l.take k)).length = k := by rw [rowN_length, List.length_take]; omega
    by_cases hlt : k < l.length ∧ k < 10
    · obtain ⟨hlt, h10⟩ := hlt
      have hltI : (k : Int) < (l.length : Int) := by omega
      have h10I : (k : Int) < 10 := by omega
      obtain ⟨r, hr⟩ : ∃ r, l[k]? = some r := ⟨_, List.getElem?_eq_getElem hlt⟩
      obtain ⟨ad, rfl, hadb, hcc⟩ := (hrs.below HB.out (Nat.le_refl _)) (by omega)
      obtain ⟨y0, y1, y2, y3, y4, y5⟩ := hcc k r hr
      have cM := fun w => rmsg_any r (hwf k r hr) ⟨#[]⟩ (by decide) w
      have hmt := rowN_take l k r hr
      generalize rowN (l.take k) = out at *
      generalize rmsg ⟨#[]⟩ r = m at *
      have HMT := Lib.hid hmt; clear hmt
      clear hcc
      go_wp2_with fail
      refine (cM _).mono ?_; rintro e w3 ⟨rfl, b3⟩
      clear y0 y1 y2 y3 y4 y5
      have HOWN3 := Lib.hid (HOWN.out.on b3)
      have HB3 := Lib.hid (HB.out.trans (b3.mono HB.out.size))
      clear b3 HOWN HB
      have hM4 : MsgAt ((w3.alloc (.cells (mc (numbered m ((k : Int) + 1))) 25)).alloc (.cells (mc (numbered m ((k : Int) + 1))) 25)) (w3.heap.size + 1) (numbered m ((k : Int) + 1)) := by
        have h := heap_alloc_new (w3.alloc (.cells (mc (numbered m ((k : Int) + 1))) 25)) (.cells (mc (numbered m ((k : Int) + 1))) 25)
        rwa [World.size_alloc] at h
      have hO4 := own_one (own_one HOWN3.out (numbered m ((k : Int) + 1))) (numbered m ((k : Int) + 1))
      have hms := Msgs.one hM4
      have hB4 : Below w.heap.size w ((w3.alloc (.cells (mc (numbered m ((k : Int) + 1))) 25)).alloc (.cells (mc (numbered m ((k : Int) + 1))) 25)) := (HB3.out.alloc HB3.out.size _).alloc (by have := HB3.out.size; simp; omega) _
      simp only [mc, numbered] at hO4 hms hB4
      have HMS := Lib.hid hms
      have HO4 := Lib.hid hO4
      have HB4 := Lib.hid hB4
      clear hM4 hO4 hms hB4
      go_wp2_with (at_builtin; refine list_appM (by rfl) _ _ rfl w.heap.size _ _ out [⟨m.ext, m.n, m.sender, m.inc, m.seq, (k : Int) + 1, m.data⟩] (some ⟨w3.heap.size + 1, 0, none⟩) 1 rfl rfl HO4.out HMS.out HB4.out.size (by simp; omega) ?_; intro u' w5 hown5 hg5; have HB5 := Lib.hid (HB4.out.trans (OwnM.below HO4.out hg5 HB4.out.size)))
      go_roundw
      case rel => exact ⟨k + 1, by omega, by omega, by go_num, by rw [HMT.out]; exact hown5, HB5.out⟩
      case measure => simp [intOf]; omega
    · have hgood := rowN_good (l.take k)
      have hsmall := rowN_small (l.take k)
      generalize rowN (l.take k) = ms at *
      obtain ⟨Am, cm, rfl, hmcap, hmm⟩ := HOWN.out.row
      have HMM := Lib.hid hmm; clear hmm HOWN
      have hpk := pick_any at' ((ms.length : Int) + 1) hat (by omega)
      have hpr := pickI_range at' ((ms.length : Int) + 1) (by omega)
      obtain ⟨q, hq⟩ : ∃ q : Nat, pickI at' ((ms.length : Int) + 1) = (q : Int) := ⟨(pickI at' ((ms.length : Int) + 1)).toNat, by omega⟩
      rw [hq] at hpk hpr
      have hql : q ≤ ms.length := by omega
      have hm10 : ms.length ≤ 10 := by omega
      have hmI : (ms.length : Int) ≤ 10 := by omega
      clear hol
      obtain ⟨sp, sq⟩ := sortL_good ms hgood
      have hsl : (sortL ms).length = ms.length := sq.length_eq
      clear hq
      have hsa : sortL (sortL ms) = sortL ms := sortL_same hgood sq
      have hsx : sortL (sortL (ms.take q) ++ sortL (ms.drop q)) = sortL ms := by
        have g1 : Good (ms.take q) := ⟨fun m hm => hgood.1 m (List.mem_of_mem_take hm), hgood.2.sublist (List.take_sublist _ _)⟩
        have g2 : Good (ms.drop q) := ⟨fun m hm => hgood.1 m (List.mem_of_mem_drop hm), hgood.2.sublist (List.drop_sublist _ _)⟩
        refine sortL_same hgood (((sortL_good _ g1).2.append (sortL_good _ g2).2).trans ?_)
        rw [List.take_append_drop]
      have hxs : ∀ (j : Nat) (m : Msg), (sortL (ms.take q) ++ sortL (ms.drop q))[j]? = some m → m.data.size ≤ 281474976710656 := by
        have g1 : Good (ms.take q) := ⟨fun m hm => hgood.1 m (List.mem_of_mem_take hm), hgood.2.sublist (List.take_sublist _ _)⟩
        have g2 : Good (ms.drop q) := ⟨fun m hm => hgood.1 m (List.mem_of_mem_drop hm), hgood.2.sublist (List.drop_sublist _ _)⟩
        refine small_perm (((sortL_good _ g1).2.append (sortL_good _ g2).2).trans ?_) hsmall
        rw [List.take_append_drop]
      have hts := small_sub (l := ms) (l' := ms.take q) (fun m hm => List.mem_of_mem_take hm) hsmall
      have hds := small_sub (l := ms) (l' := ms.drop q) (fun m hm => List.mem_of_mem_drop hm) hsmall
      have has := small_perm sq hsmall
      have hat2 := fun (i j : Nat) (x y : Msg) (hx : (sortL ms)[j]? = some x) (hy : (sortL ms)[i]? = some y) (h : j < i) => sorted_at hgood hx hy h
      have htl : (ms.take q).length ≤ 10 := by rw [List.length_take]; omega
      have hdl : (ms.drop q).length ≤ 10 := by rw [List.length_drop]; omega
      have hskl := sortL_length (ms.take q)
      have hsdl := sortL_length (ms.drop q)
      have hxl : (sortL (ms.take q) ++ sortL (ms.drop q)).length ≤ 10 := by rw [List.length_append]; rw [List.length_take] at hskl; rw [List.length_drop] at hsdl; omega
      have hkt := run_takeM Am cm ms hmcap q hql
      obtain ⟨A2, c2, hmd, hkd⟩ := run_dropM Am cm ms hmcap q hql
      rcases (show ¬ (k : Int) < l.length ∨ ((k : Int) < l.length ∧ ¬ (k : Int) < 10) by omega) with hI | ⟨hI, hI8⟩
      · go_wp2_with fail
        refine (hpk _).mono ?_; rintro e w2 ⟨rfl, rfl⟩
        go_wp2_with fail
        have hmw := HMM.out
        refine (T.sort Am cm _ ms _ (L.below HB.out) HMM.out (Nat.le_refl _) (by omega) hsmall).mono ?_; rintro e w3 ⟨u3, rfl, h3, b3⟩
        have HATT := Lib.hid hat2; clear hat2
        have hsl10 : (sortL ms).length ≤ 10 := by omega
        have HSL := Lib.hid hsl; clear hsl
        have hB3 := HB.out.trans (b3.mono HB.out.size)
        have hm3 := HMM.out.below b3 (Nat.le_refl _)
        have hfr := (HMM.out.front q).below b3 (Nat.le_refl _)
        obtain ⟨A3, c3, rfl, hc3, m3⟩ := h3.row
        have hmd3 := hmd _ _ hm3
        generalize hsms : sortL ms = a at *
        have hSA := Lib.hid hsa
        have HS3 := Lib.hid (show wr.heap.size ≤ w3.heap.size from b3.size)
        go_wp2_with fail
        refine (T.sort A3 c3 _ a _ (L.below hB3) m3 (Nat.le_refl _) (by omega) has).mono ?_; rintro e w4 ⟨u4, rfl, h4, b4⟩
        rw [hSA.out] at h4
        obtain ⟨A4, c4, rfl, hc4, m4⟩ := h4.row
        have hB4 := hB3.trans (b4.mono hB3.size)
        have hL4 := L.below hB4
        have ha4 := m3.below b4 (Nat.le_refl _)
        have hw34 : w3.heap.size ≤ w4.heap.size := b4.size
        have HW := Lib.hid hB4
        have HLZ0 := Lib.hid hL4
        have HA4 := Lib.hid (ha4.more hw34)
        have HB44 := Lib.hid m4
        have hmt4 := (hfr.below b4 (by have := HS3.out; omega)).more (show wr.heap.size ≤ w4.heap.size by have := HS3.out; omega)
        have hmd4 := (hmd3.below b4 (by have := HS3.out; omega)).more (show wr.heap.size ≤ w4.heap.size by have := HS3.out; omega)
        have HMT0 := Lib.hid hmt4
        have HMD0 := Lib.hid hmd4
        clear hmd hfr hm3 hmd3 hmt4 hmd4 m4 ha4 hL4 hB4 hB3 h3 h4 b3 b4 m3 hw34
        generalize hsk : sortL (ms.take q) = sk at *
        generalize hsd : sortL (ms.drop q) = sd at *
        generalize htk : ms.take q = tk at *
        generalize hdk : ms.drop q = dk at *
        obtain ⟨XL, hXL⟩ : ∃ XL, sk ++ sd = XL := ⟨_, rfl⟩
        rw [hXL] at hsx hxs hxl
        have HXL := Lib.hid hXL
        have HSK := Lib.hid hsk
        have HSD := Lib.hid hsd
        have HSX := Lib.hid hsx
        have HSMT := Lib.hid hts
        have HSMD := Lib.hid hds
        have HSMX := Lib.hid hxs
        have KT := Lib.hid hkt
        have KD := Lib.hid hkd
        have HLEN : Hid (tk.length ≤ 19 ∧ dk.length ≤ 19 ∧ sk.length + sd.length ≤ 1000 ∧ XL.length ≤ 19) := Lib.hid ⟨by omega, by omega, by omega, by omega⟩
        have hqe : ((a.length : Int) == (ms.length : Int)) = true := by have := HSL.out; simp; omega
        have HQE := Lib.hid hqe
        have HAL := Lib.hid hsl10
        clear hXL hsk hsd hsx hts hds hxs hkt hkd htk hdk hqe hsl10 hskl hsdl hxl htl hdl hsa hsms has sp sq hgood hsmall hpk hpr hql
        go_wp2_with fail
        generalize hWz : w4 = Wz at *
        have HLZ := HLZ0
        have HMT := HMT0
        have HMD := HMD0
        have HV : ∃ V : Nat → (Nat → Value) → World → Prop, V = (fun ix u wv => match ix with
          | 0 => u 0 = .slice Am ms.length cm
          | 1 => u 1 = .int .i64 (q : Int)
          | 2 => u 2 = .slice Am tk.length cm
          | 3 => OwnM wv Wz.heap.size (u 3) (sk)
          | 4 => u 4 = .slice Am ms.length cm
          | 5 => u 5 = .int .i64 (q : Int)
          | 6 => u 6 = .slice A2 dk.length c2
          | 7 => OwnM wv Wz.heap.size (u 7) (sd)
          | 8 => OwnM wv Wz.heap.size (u 8) (XL)
          | 9 => OwnM wv Wz.heap.size (u 9) (a)
          | 10 => OwnM wv Wz.heap.size (u 10) (a)
          | _ => True) := ⟨_, rfl⟩
        obtain ⟨V, hVdef⟩ := HV
        have V0 : ∀ u wv, V 0 u wv = (u 0 = .slice Am ms.length cm) := fun u wv => by subst hVdef; rfl
        have V1 : ∀ u wv, V 1 u wv = (u 1 = .int .i64 (q : Int)) := fun u wv => by subst hVdef; rfl
        have V2 : ∀ u wv, V 2 u wv = (u 2 = .slice Am tk.length cm) := fun u wv => by subst hVdef; rfl
        have V3 : ∀ u wv, V 3 u wv = (OwnM wv Wz.heap.size (u 3) (sk)) := fun u wv => by subst hVdef; rfl
        have V4 : ∀ u wv, V 4 u wv = (u 4 = .slice Am ms.length cm) := fun u wv => by subst hVdef; rfl
        have V5 : ∀ u wv, V 5 u wv = (u 5 = .int .i64 (q : Int)) := fun u wv => by subst hVdef; rfl
        have V6 : ∀ u wv, V 6 u wv = (u 6 = .slice A2 dk.length c2) := fun u wv => by subst hVdef; rfl
        have V7 : ∀ u wv, V 7 u wv = (OwnM wv Wz.heap.size (u 7) (sd)) := fun u wv => by subst hVdef; rfl
        have V8 : ∀ u wv, V 8 u wv = (OwnM wv Wz.heap.size (u 8) (XL)) := fun u wv => by subst hVdef; rfl
        have V9 : ∀ u wv, V 9 u wv = (OwnM wv Wz.heap.size (u 9) (a)) := fun u wv => by subst hVdef; rfl
        have V10 : ∀ u wv, V 10 u wv = (OwnM wv Wz.heap.size (u 10) (a)) := fun u wv => by subst hVdef; rfl
        have HVD := Lib.hid hVdef
        clear hVdef
        refine region_each (V := V) (drop := fun jx ix => (jx == 8 && ix == 3) || (jx == 8 && ix == 7)) (G := fun wv => Below Wz.heap.size Wz wv) (Rel := fun jx wv wv' => jx = 8 ∨ Below wv.heap.size wv wv') (by kernel_rfl) (by kernel_rfl) (Below.refl _ _).drew ?hmono41 ?hdep41 ⟨?s0_41, ?s1_41, ?s2_41, ?s3_41, ?s4_41, ?s5_41, ?s6_41, ?s7_41, ?s8_41, ?s9_41, ?s10_41, trivial⟩ ?behind41
        case hmono41 =>
          intro ix jx u wv wv' hij hw hd hr
          rw [HVD.out]
          dsimp only
          split <;> intro h <;> first | exact trivial | exact h | (rcases hr with rfl | hb <;> first | exact absurd rfl hij | (simp at hd; done) | exact h.on hb | (have ht := Eq.trans (Eq.symm hw) (by kernel_rfl : _ = true); cases ht))
        case hdep41 =>
          intro ix u u' wv h1 h2
          rw [HVD.out]
          dsimp only
          split <;> intro h <;> first | exact trivial | (rw [← h1]; exact h) | (fail)
        case s0_41 =>
          refine owe rfl fun a wx val hG hV hN hO K hK => ?_
          have e6 : a.tmps[6]? = some (.slice Am ms.length cm) := (hO 6 (by kernel_rfl)).trans (by rfl)
          clear hV hN hO
          go_simp
          exact hK.out _ _ (by rw [V0, upd_at]) (.inr (Below.refl _ _)) hG
        case s1_41 =>
          refine owe rfl fun a wx val hG hV hN hO K hK => ?_
          have e9 : a.tmps[9]? = some (.int .i64 (q : Int)) := (hO 9 (by kernel_rfl)).trans (by rfl)
          clear hV hN hO
          go_simp
          exact hK.out _ _ (by rw [V1, upd_at]) (.inr (Below.refl _ _)) hG
        case s2_41 =>
          refine owe rfl fun a wx val hG hV hN hO K hK => ?_
          have e46 := hN 0 46 (by kernel_rfl) (by kernel_rfl) (by simp)
          have f46 := hV 0 (by kernel_rfl) (by kernel_rfl)
          rw [V0] at f46
          rw [f46] at e46; clear f46
          have e47 := hN 1 47 (by kernel_rfl) (by kernel_rfl) (by simp)
          have f47 := hV 1 (by kernel_rfl) (by kernel_rfl)
          rw [V1] at f47
          rw [f47] at e47; clear f47
          clear hV hN hO
          have kt := KT.out
          go_simp
          exact hK.out _ _ (by rw [V2, upd_at]) (.inr (Below.refl _ _)) hG
        case s3_41 =>
          refine owe rfl fun a wx val hG hV hN hO K hK => ?_
          have e48 := hN 2 48 (by kernel_rfl) (by kernel_rfl) (by simp)
          have f48 := hV 2 (by kernel_rfl) (by kernel_rfl)
          rw [V2] at f48
          rw [f48] at e48; clear f48
          clear hV hN hO
          go_simp
          refine (T.sort Am cm Wz.heap.size tk _ (HLZ.out.below hG) (HMT.out.below hG (Nat.le_refl _)) hG.size HLEN.out.1 HSMT.out).mono ?_
          rintro e w7 ⟨u7, rfl, h7, hb⟩
          exact hK.out _ _ (by rw [V3, upd_at]; rw [HSK.out] at h7; exact h7.base hG.size) (.inr hb) (hG.trans (hb.mono hG.size))
        case s4_41 =>
          refine owe rfl fun a wx val hG hV hN hO K hK => ?_
          have e6 : a.tmps[6]? = some (.slice Am ms.length cm) := (hO 6 (by kernel_rfl)).trans (by rfl)
          clear hV hN hO
          go_simp
          exact hK.out _ _ (by rw [V4, upd_at]) (.inr (Below.refl _ _)) hG
        case s5_41 =>
          refine owe rfl fun a wx val hG hV hN hO K hK => ?_
          have e9 : a.tmps[9]? = some (.int .i64 (q : Int)) := (hO 9 (by kernel_rfl)).trans (by rfl)
          clear hV hN hO
          go_simp
          exact hK.out _ _ (by rw [V5, upd_at]) (.inr (Below.refl _ _)) hG
        case s6_41 =>
          refine owe rfl fun a wx val hG hV hN hO K hK => ?_
          have e50 := hN 4 50 (by kernel_rfl) (by kernel_rfl) (by simp)
          have f50 := hV 4 (by kernel_rfl) (by kernel_rfl)
          rw [V4] at f50
          rw [f50] at e50; clear f50
          have e51 := hN 5 51 (by kernel_rfl) (by kernel_rfl) (by simp)
          have f51 := hV 5 (by kernel_rfl) (by kernel_rfl)
          rw [V5] at f51
          rw [f51] at e51; clear f51
          clear hV hN hO
          have kd := KD.out
          go_simp
          exact hK.out _ _ (by rw [V6, upd_at]) (.inr (Below.refl _ _)) hG
        case s7_41 =>
          refine owe rfl fun a wx val hG hV hN hO K hK => ?_
          have e52 := hN 6 52 (by kernel_rfl) (by kernel_rfl) (by simp)
          have f52 := hV 6 (by kernel_rfl) (by kernel_rfl)
          rw [V6] at f52
          rw [f52] at e52; clear f52
          clear hV hN hO
          go_simp
          refine (T.sort A2 c2 Wz.heap.size dk _ (HLZ.out.below hG) (HMD.out.below hG (Nat.le_refl _)) hG.size HLEN.out.2.1 HSMD.out).mono ?_
          rintro e w7 ⟨u7, rfl, h7, hb⟩
          exact hK.out _ _ (by rw [V7, upd_at]; rw [HSD.out] at h7; exact h7.base hG.size) (.inr hb) (hG.trans (hb.mono hG.size))
        case s8_41 =>
          refine owe rfl fun a wx val hG hV hN hO K hK => ?_
          have e49 := hN 3 49 (by kernel_rfl) (by kernel_rfl) (by simp)
          have f49 := hV 3 (by kernel_rfl) (by kernel_rfl)
          rw [V3] at f49
          have hu3 := f49
          have e53 := hN 7 53 (by kernel_rfl) (by kernel_rfl) (by simp)
          have f53 := hV 7 (by kernel_rfl) (by kernel_rfl)
          rw [V7] at f53
          have hu7 := f53
          clear hV hN hO
          obtain ⟨A7, c7, e7, _, m7⟩ := hu7.row
          refine wp_appM (.tmp 49) (.tmp 53) rfl Wz.heap.size wx.heap.size (val 3) sk sd A7 c7 (by simp [Act.eval, e49]) (by rw [← e7]; simp [Act.eval, e53]) hu3 m7 hG.size (by have := HLEN.out.2.2.1; omega) ?_
          intro u8 w8 hown hgr
          exact hK.out _ _ (by rw [V8, upd_at]; rw [HXL.out] at hown; exact hown) (.inl rfl) (hG.trans (OwnM.below hu3 hgr hG.size))
        case s9_41 =>
          refine owe rfl fun a wx val hG hV hN hO K hK => ?_
          have e54 := hN 8 54 (by kernel_rfl) (by kernel_rfl) (by simp)
          have f54 := hV 8 (by kernel_rfl) (by kernel_rfl)
          rw [V8] at f54
          have hu8 := f54
          clear hV hN hO
          obtain ⟨A8, c8, e8, _, m8⟩ := hu8.row
          rw [e8] at e54
          go_simp
          refine (T.sort A8 c8 wx.heap.size XL _ (HLZ.out.below hG) m8 (Nat.le_refl _) HLEN.out.2.2.2 HSMX.out).mono ?_
          rintro e w9 ⟨u9, rfl, h9, hb⟩
          exact hK.out _ _ (by rw [V9, upd_at]; rw [HSX.out] at h9; exact h9.base hG.size) (.inr hb) (hG.trans (hb.mono hG.size))
        case s10_41 =>
          refine owe rfl fun a wx val hG hV hN hO K hK => ?_
          have e55 := hN 9 55 (by kernel_rfl) (by kernel_rfl) (by simp)
          have f55 := hV 9 (by kernel_rfl) (by kernel_rfl)
          rw [V9] at f55
          have hu9 := f55
          clear hV hN hO
          go_simp
          exact hK.out _ _ (by rw [V10, upd_at]; exact hu9) (.inr (Below.refl _ _)) hG
        intro val wx hG hV
        have f0 := hV 0 (by simp) (fun _ _ => by simp)
        rw [V0] at f0
        have f1 := hV 1 (by simp) (fun _ _ => by simp)
        rw [V1] at f1
        have f2 := hV 2 (by simp) (fun _ _ => by simp)
        rw [V2] at f2
        have f4 := hV 4 (by simp) (fun _ _ => by simp)
        rw [V4] at f4
        have f5 := hV 5 (by simp) (fun _ _ => by simp)
        rw [V5] at f5
        have f6 := hV 6 (by simp) (fun _ _ => by simp)
        rw [V6] at f6
        have f8 := hV 8 (by simp) (fun _ _ => by simp)
        rw [V8] at f8
        have f9 := hV 9 (by simp) (fun _ _ => by simp)
        rw [V9] at f9
        have f10 := hV 10 (by simp) (fun _ _ => by simp)
        rw [V10] at f10
        clear hV V0 V1 V2 V3 V4 V5 V6 V7 V8 V9 V10
        simp only [putAll, Act.put, List.setIfInBounds_toArray, List.set_cons_zero, List.set_cons_succ]
        generalize val 0 = z0 at *; (subst f0)
        generalize val 1 = z1 at *; (subst f1)
        generalize val 2 = z2 at *; (subst f2)
        generalize val 4 = z4 at *; (subst f4)
        generalize val 5 = z5 at *; (subst f5)
        generalize val 6 = z6 at *; (subst f6)
        obtain ⟨A10, c10, e10, _, m10⟩ := f10.row
        have HG := Lib.hid (HW.out.trans (hG.mono HW.out.size))
        have HM10 := Lib.hid m10
        have HA5 := Lib.hid (HA4.out.below hG (Nat.le_refl _))
        have HB5 := Lib.hid (HB44.out.below hG (Nat.le_refl _))
        have HZ5 := Lib.hid hG.size
        clear f8 f9 f10 m10 hG HA4 HB44 HMT HMD HLZ HMT0 HMD0 KT KD HSK HSD HSX HSMT HSMD HSMX HXL HLEN
        generalize val 10 = z10 at *
        subst e10
        generalize val 9 = z9 at *
        generalize val 8 = z8 at *
        generalize val 7 = z7 at *
        generalize val 3 = z3 at *
        clear hWz hI
        go_wp2_with fail
        go_loopw [13] (fun i wN => ∃ j : Nat, 1 ≤ j ∧ i = .int .i64 (j : Int) ∧ Below wx.heap.size wx wN) (fun i _ => a.length - (intOf i).toNat)
        case atStart => exact ⟨1, by omega, rfl, Below.refl _ _⟩
        case round =>
          obtain ⟨j, hj1, rfl, hbN⟩ := hrel
          have HBN := Lib.hid hbN
          have hAN := HA5.out.below hbN HZ5.out
          have hBN2 := HB5.out.below hbN HZ5.out
          have hCN := HM10.out.below hbN (Nat.le_refl _)
          have hWN := HG.out.trans (hbN.mono HG.out.size)
          have HWN := Lib.hid hWN
          have HLN := Lib.hid (fun w' (h : Below wr.heap.size wr w') => (L.below hWN).below h)
          have HAN := Lib.hid hAN
          have HBN2 := Lib.hid hBN2
          have HCN := Lib.hid hCN
          clear hbN hAN hBN2 hCN hWN
          by_cases hlt2 : j < a.length
          · have hltI : (j : Int) < (a.length : Int) := by omega
            obtain ⟨x, hx⟩ : ∃ x, a[0]? = some x := ⟨_, List.getElem?_eq_getElem (by omega)⟩
            obtain ⟨y, hy⟩ : ∃ y, a[j]? = some y := ⟨_, List.getElem?_eq_getElem hlt2⟩
            obtain ⟨hl1, _, _⟩ := HATT.out j 0 x y hx hy (by omega)
            have cl := fun w L => T.less x y w L
            rw [hl1] at cl
            obtain ⟨ad3, rfl, hadb, hcc⟩ := HAN.out (by omega)
            have hX : At7 wr ad3 x := hcc 0 x hx
            have hY := hcc j y hy
            have had : ad3.block < wr.heap.size := by have := HZ5.out; have := HBN.out.size; omega
            have hj0 : (0 : Int) ≤ (j : Int) := by omega
            have hj10 : (j : Int) ≤ 10 := by have := HAL.out; omega
            have ha0 : (0 : Int) < (a.length : Int) := by omega
            have ha0n : 0 < a.length := by omega
            have hane : a ≠ [] := fun e => by rw [e] at ha0n; exact absurd ha0n (by simp)
            clear hcc hx hy hl1
            simp only [mv] at cl
            have CL := Lib.hid cl; clear cl
            have hst : ∀ w', Below wr.heap.size wr w' → ((w'.cell? (ad3) = some (.bool x.ext) ∧ w'.cell? ⟨(ad3).block, (ad3).off + 1, none⟩ = some (.int .i64 x.n) ∧ w'.cell? ⟨(ad3).block, (ad3).off + 2, none⟩ = some (.int .i64 x.sender) ∧ w'.cell? ⟨(ad3).block, (ad3).off + 3, none⟩ = some (.int .i64 x.inc) ∧ w'.cell? ⟨(ad3).block, (ad3).off + 4, none⟩ = some (.int .i64 x.seq) ∧ w'.cell? ⟨(ad3).block, (ad3).off + 5, none⟩ = some (.int .i64 x.number) ∧ w'.cell? ⟨(ad3).block, (ad3).off + 6, none⟩ = some (.string x.data)) ∧ (w'.cell? (ad3.add (j * 7)) = some (.bool y.ext) ∧ w'.cell? ⟨(ad3.add (j * 7)).block, (ad3.add (j * 7)).off + 1, none⟩ = some (.int .i64 y.n) ∧ w'.cell? ⟨(ad3.add (j * 7)).block, (ad3.add (j * 7)).off + 2, none⟩ = some (.int .i64 y.sender) ∧ w'.cell? ⟨(ad3.add (j * 7)).block, (ad3.add (j * 7)).off + 3, none⟩ = some (.int .i64 y.inc) ∧ w'.cell? ⟨(ad3.add (j * 7)).block, (ad3.add (j * 7)).off + 4, none⟩ = some (.int .i64 y.seq) ∧ w'.cell? ⟨(ad3.add (j * 7)).block, (ad3.add (j * 7)).off + 5, none⟩ = some (.int .i64 y.number) ∧ w'.cell? ⟨(ad3.add (j * 7)).block, (ad3.add (j * 7)).off + 6, none⟩ = some (.string y.data)) ∧ Below wr.heap.size wr w') := by
              intro w' hb
              obtain ⟨x0, x1, x2, x3, x4, x5, x6⟩ := hX.keep (w' := w') fun q hq => hb.cell (by rw [hq]; exact had)
              obtain ⟨y0, y1, y2, y3, y4, y5, y6⟩ := hY.keep (w' := w') fun q hq => hb.cell (by rw [hq, adb]; exact had)
              exact ⟨⟨x0, x1, x2, x3, x4, x5, x6⟩, ⟨y0, y1, y2, y3, y4, y5, y6⟩, hb⟩
            have HST := Lib.hid hst
            obtain ⟨⟨x0, x1, x2, x3, x4, x5, x6⟩, ⟨y0, y1, y2, y3, y4, y5, y6⟩, _⟩ := hst wr (Below.refl _ _)
            clear hst hX hY
            go_wp2_with fail
            go_region_held3 (fun w' => (w'.cell? (ad3) = some (.bool x.ext) ∧ w'.cell? ⟨(ad3).block, (ad3).off + 1, none⟩ = some (.int .i64 x.n) ∧ w'.cell? ⟨(ad3).block, (ad3).off + 2, none⟩ = some (.int .i64 x.sender) ∧ w'.cell? ⟨(ad3).block, (ad3).off + 3, none⟩ = some (.int .i64 x.inc) ∧ w'.cell? ⟨(ad3).block, (ad3).off + 4, none⟩ = some (.int .i64 x.seq) ∧ w'.cell? ⟨(ad3).block, (ad3).off + 5, none⟩ = some (.int .i64 x.number) ∧ w'.cell? ⟨(ad3).block, (ad3).off + 6, none⟩ = some (.string x.data)) ∧ (w'.cell? (ad3.add (j * 7)) = some (.bool y.ext) ∧ w'.cell? ⟨(ad3.add (j * 7)).block, (ad3.add (j * 7)).off + 1, none⟩ = some (.int .i64 y.n) ∧ w'.cell? ⟨(ad3.add (j * 7)).block, (ad3.add (j * 7)).off + 2, none⟩ = some (.int .i64 y.sender) ∧ w'.cell? ⟨(ad3.add (j * 7)).block, (ad3.add (j * 7)).off + 3, none⟩ = some (.int .i64 y.inc) ∧ w'.cell? ⟨(ad3.add (j * 7)).block, (ad3.add (j * 7)).off + 4, none⟩ = some (.int .i64 y.seq) ∧ w'.cell? ⟨(ad3.add (j * 7)).block, (ad3.add (j * 7)).off + 5, none⟩ = some (.int .i64 y.number) ∧ w'.cell? ⟨(ad3.add (j * 7)).block, (ad3.add (j * 7)).off + 6, none⟩ = some (.string y.data)) ∧ Below wr.heap.size wr w') (first | assumption | exact HST.out _ (Below.refl _ _).drew | exact HST.out _ (((Below.refl _ _).drew).trans (by assumption))) (first | (go_at_call 14; refine (CL.out _ (HLN.out _ (Below.refl _ _).drew)).mono ?_; rintro e w8 ⟨rfl, hb8⟩))
            go_wp2_with fail
            go_roundw
            case rel => exact ⟨j + 1, by omega, by go_num, HBN.out.trans ((((Below.refl _ _).drew).trans hb8).mono HBN.out.size)⟩
            case measure => simp [intOf]; omega
          · have hge : ¬ (j : Int) < (a.length : Int) := by omega
            have hq := HQE.out
            go_wp2_with fail
            refine (same_any A3 A4 c3 c4 _ _ a a _ HAN.out HBN2.out (by unfold maxLen; have := HAL.out; omega)).mono ?_; rintro e w8 ⟨rfl, n8, rfl⟩
            rw [same_true]
            go_wp2_with fail
            refine (same_any A3 A10 c3 c10 _ _ a a _ (HAN.out.below (below_drewN (Below.refl _ _) n8) (Nat.le_refl _)) (HCN.out.below (below_drewN (Below.refl _ _) n8) (Nat.le_refl _)) (by unfold maxLen; have := HAL.out; omega)).mono ?_; rintro e w9 ⟨rfl, n9, rfl⟩
            rw [same_true]
            go_wp2_with fail
            go_ret
            refine ⟨rfl, ?_⟩
            exact below_drewN HWN.out _
      · go_wp2_with fail
        refine (hpk _).mono ?_; rintro e w2 ⟨rfl, rfl⟩
        go_wp2_with fail
        have hmw := HMM.out
        refine (T.sort Am cm _ ms _ (L.below HB.out) HMM.out (Nat.le_refl _) (by omega) hsmall).mono ?_; rintro e w3 ⟨u3, rfl, h3, b3⟩
        have HATT := Lib.hid hat2; clear hat2
        have hsl10 : (sortL ms).length ≤ 10 := by omega
        have HSL := Lib.hid hsl; clear hsl
        have hB3 := HB.out.trans (b3.mono HB.out.size)
        have hm3 := HMM.out.below b3 (Nat.le_refl _)
        have hfr := (HMM.out.front q).below b3 (Nat.le_refl _)
        obtain ⟨A3, c3, rfl, hc3, m3⟩ := h3.row
        have hmd3 := hmd _ _ hm3
        generalize hsms : sortL ms = a at *
        have hSA := Lib.hid hsa
        have HS3 := Lib.hid (show wr.heap.size ≤ w3.heap.size from b3.size)
        go_wp2_with fail
        refine (T.sort A3 c3 _ a _ (L.below hB3) m3 (Nat.le_refl _) (by omega) has).mono ?_; rintro e w4 ⟨u4, rfl, h4, b4⟩
        rw [hSA.out] at h4
        obtain ⟨A4, c4, rfl, hc4, m4⟩ := h4.row
        have hB4 := hB3.trans (b4.mono hB3.size)
        have hL4 := L.below hB4
        have ha4 := m3.below b4 (Nat.le_refl _)
        have hw34 : w3.heap.size ≤ w4.heap.size := b4.size
        have HW := Lib.hid hB4
        have HLZ0 := Lib.hid hL4
        have HA4 := Lib.hid (ha4.more hw34)
        have HB44 := Lib.hid m4
        have hmt4 := (hfr.below b4 (by have := HS3.out; omega)).more (show wr.heap.size ≤ w4.heap.size by have := HS3.out; omega)
        have hmd4 := (hmd3.below b4 (by have := HS3.out; omega)).more (show wr.heap.size ≤ w4.heap.size by have := HS3.out; omega)
        have HMT0 := Lib.hid hmt4
        have HMD0 := Lib.hid hmd4
        clear hmd hfr hm3 hmd3 hmt4 hmd4 m4 ha4 hL4 hB4 hB3 h3 h4 b3 b4 m3 hw34
        generalize hsk : sortL (ms.take q) = sk at *
        generalize hsd : sortL (ms.drop q) = sd at *
        generalize htk : ms.take q = tk at *
        generalize hdk : ms.drop q = dk at *
        obtain ⟨XL, hXL⟩ : ∃ XL, sk ++ sd = XL := ⟨_, rfl⟩
        rw [hXL] at hsx hxs hxl
        have HXL := Lib.hid hXL
        have HSK := Lib.hid hsk
        have HSD := Lib.hid hsd
        have HSX := Lib.hid hsx
        have HSMT := Lib.hid hts
        have HSMD := Lib.hid hds
        have HSMX := Lib.hid hxs
        have KT := Lib.hid hkt
        have KD := Lib.hid hkd
        have HLEN : Hid (tk.length ≤ 19 ∧ dk.length ≤ 19 ∧ sk.length + sd.length ≤ 1000 ∧ XL.length ≤ 19) := Lib.hid ⟨by omega, by omega, by omega, by omega⟩
        have hqe : ((a.length : Int) == (ms.length : Int)) = true := by have := HSL.out; simp; omega
        have HQE := Lib.hid hqe
        have HAL := Lib.hid hsl10
        clear hXL hsk hsd hsx hts hds hxs hkt hkd htk hdk hqe hsl10 hskl hsdl hxl htl hdl hsa hsms has sp sq hgood hsmall hpk hpr hql
        go_wp2_with fail
        generalize hWz : w4 = Wz at *
        have HLZ := HLZ0
        have HMT := HMT0
        have HMD := HMD0
        have HV : ∃ V : Nat → (Nat → Value) → World → Prop, V = (fun ix u wv => match ix with
          | 0 => u 0 = .slice Am ms.length cm
          | 1 => u 1 = .int .i64 (q : Int)
          | 2 => u 2 = .slice Am tk.length cm
          | 3 => OwnM wv Wz.heap.size (u 3) (sk)
          | 4 => u 4 = .slice Am ms.length cm
          | 5 => u 5 = .int .i64 (q : Int)
          | 6 => u 6 = .slice A2 dk.length c2
          | 7 => OwnM wv Wz.heap.size (u 7) (sd)
          | 8 => OwnM wv Wz.heap.size (u 8) (XL)
          | 9 => OwnM wv Wz.heap.size (u 9) (a)
          | 10 => OwnM wv Wz.heap.size (u 10) (a)
          | _ => True) := ⟨_, rfl⟩
        obtain ⟨V, hVdef⟩ := HV
        have V0 : ∀ u wv, V 0 u wv = (u 0 = .slice Am ms.length cm) := fun u wv => by subst hVdef; rfl
        have V1 : ∀ u wv, V 1 u wv = (u 1 = .int .i64 (q : Int)) := fun u wv => by subst hVdef; rfl
        have V2 : ∀ u wv, V 2 u wv = (u 2 = .slice Am tk.length cm) := fun u wv => by subst hVdef; rfl
        have V3 : ∀ u wv, V 3 u wv = (OwnM wv Wz.heap.size (u 3) (sk)) := fun u wv => by subst hVdef; rfl
        have V4 : ∀ u wv, V 4 u wv = (u 4 = .slice Am ms.length cm) := fun u wv => by subst hVdef; rfl
        have V5 : ∀ u wv, V 5 u wv = (u 5 = .int .i64 (q : Int)) := fun u wv => by subst hVdef; rfl
        have V6 : ∀ u wv, V 6 u wv = (u 6 = .slice A2 dk.length c2) := fun u wv => by subst hVdef; rfl
        have V7 : ∀ u wv, V 7 u wv = (OwnM wv Wz.heap.size (u 7) (sd)) := fun u wv => by subst hVdef; rfl
        have V8 : ∀ u wv, V 8 u wv = (OwnM wv Wz.heap.size (u 8) (XL)) := fun u wv => by subst hVdef; rfl
        have V9 : ∀ u wv, V 9 u wv = (OwnM wv Wz.heap.size (u 9) (a)) := fun u wv => by subst hVdef; rfl
        have V10 : ∀ u wv, V 10 u wv = (OwnM wv Wz.heap.size (u 10) (a)) := fun u wv => by subst hVdef; rfl
        have HVD := Lib.hid hVdef
        clear hVdef
        refine region_each (V := V) (drop := fun jx ix => (jx == 8 && ix == 3) || (jx == 8 && ix == 7)) (G := fun wv => Below Wz.heap.size Wz wv) (Rel := fun jx wv wv' => jx = 8 ∨ Below wv.heap.size wv wv') (by kernel_rfl) (by kernel_rfl) (Below.refl _ _).drew ?hmono61 ?hdep61 ⟨?s0_61, ?s1_61, ?s2_61, ?s3_61, ?s4_61, ?s5_61, ?s6_61, ?s7_61, ?s8_61, ?s9_61, ?s10_61, trivial⟩ ?behind61
        case hmono61 =>
          intro ix jx u wv wv' hij hw hd hr
          rw [HVD.out]
          dsimp only
          split <;> intro h <;> first | exact trivial | exact h | (rcases hr with rfl | hb <;> first | exact absurd rfl hij | (simp at hd; done) | exact h.on hb | (have ht := Eq.trans (Eq.symm hw) (by kernel_rfl : _ = true); cases ht))
        case hdep61 =>
          intro ix u u' wv h1 h2
          rw [HVD.out]
          dsimp only
          split <;> intro h <;> first | exact trivial | (rw [← h1]; exact h) | (fail)
        case s0_61 =>
          refine owe rfl fun a wx val hG hV hN hO K hK => ?_
          have e6 : a.tmps[6]? = some (.slice Am ms.length cm) := (hO 6 (by kernel_rfl)).trans (by rfl)
          clear hV hN hO
          go_simp
          exact hK.out _ _ (by rw [V0, upd_at]) (.inr (Below.refl _ _)) hG
        case s1_61 =>
          refine owe rfl fun a wx val hG hV hN hO K hK => ?_
          have e9 : a.tmps[9]? = some (.int .i64 (q : Int)) := (hO 9 (by kernel_rfl)).trans (by rfl)
          clear hV hN hO
          go_simp
          exact hK.out _ _ (by rw [V1, upd_at]) (.inr (Below.refl _ _)) hG
        case s2_61 =>
          refine owe rfl fun a wx val hG hV hN hO K hK => ?_
          have e46 := hN 0 46 (by kernel_rfl) (by kernel_rfl) (by simp)
          have f46 := hV 0 (by kernel_rfl) (by kernel_rfl)
          rw [V0] at f46
          rw [f46] at e46; clear f46
          have e47 := hN 1 47 (by kernel_rfl) (by kernel_rfl) (by simp)
          have f47 := hV 1 (by kernel_rfl) (by kernel_rfl)
          rw [V1] at f47
          rw [f47] at e47; clear f47
          clear hV hN hO
          have kt := KT.out
          go_simp
          exact hK.out _ _ (by rw [V2, upd_at]) (.inr (Below.refl _ _)) hG
        case s3_61 =>
          refine owe rfl fun a wx val hG hV hN hO K hK => ?_
          have e48 := hN 2 48 (by kernel_rfl) (by kernel_rfl) (by simp)
          have f48 := hV 2 (by kernel_rfl) (by kernel_rfl)
          rw [V2] at f48
          rw [f48] at e48; clear f48
          clear hV hN hO
          go_simp
          refine (T.sort Am cm Wz.heap.size tk _ (HLZ.out.below hG) (HMT.out.below hG (Nat.le_refl _)) hG.size HLEN.out.1 HSMT.out).mono ?_
          rintro e w7 ⟨u7, rfl, h7, hb⟩
          exact hK.out _ _ (by rw [V3, upd_at]; rw [HSK.out] at h7; exact h7.base hG.size) (.inr hb) (hG.trans (hb.mono hG.size))
        case s4_61 =>
          refine owe rfl fun a wx val hG hV hN hO K hK => ?_
          have e6 : a.tmps[6]? = some (.slice Am ms.length cm) := (hO 6 (by kernel_rfl)).trans (by rfl)
          clear hV hN hO
          go_simp
          exact hK.out _ _ (by rw [V4, upd_at]) (.inr (Below.refl _ _)) hG
        case s5_61 =>
          refine owe rfl fun a wx val hG hV hN hO K hK => ?_
          have e9 : a.tmps[9]? = some (.int .i64 (q : Int)) := (hO 9 (by kernel_rfl)).trans (by rfl)
          clear hV hN hO
          go_simp
          exact hK.out _ _ (by rw [V5, upd_at]) (.inr (Below.refl _ _)) hG
        case s6_61 =>
          refine owe rfl fun a wx val hG hV hN hO K hK => ?_
          have e50 := hN 4 50 (by kernel_rfl) (by kernel_rfl) (by simp)
          have f50 := hV 4 (by kernel_rfl) (by kernel_rfl)
          rw [V4] at f50
          rw [f50] at e50; clear f50
          have e51 := hN 5 51 (by kernel_rfl) (by kernel_rfl) (by simp)
          have f51 := hV 5 (by kernel_rfl) (by kernel_rfl)
          rw [V5] at f51
          rw [f51] at e51; clear f51
          clear hV hN hO
          have kd := KD.out
          go_simp
          exact hK.out _ _ (by rw [V6, upd_at]) (.inr (Below.refl _ _)) hG
        case s7_61 =>
          refine owe rfl fun a wx val hG hV hN hO K hK => ?_
          have e52 := hN 6 52 (by kernel_rfl) (by kernel_rfl) (by simp)
          have f52 := hV 6 (by kernel_rfl) (by kernel_rfl)
          rw [V6] at f52
          rw [f52] at e52; clear f52
          clear hV hN hO
          go_simp
          refine (T.sort A2 c2 Wz.heap.size dk _ (HLZ.out.below hG) (HMD.out.below hG (Nat.le_refl _)) hG.size HLEN.out.2.1 HSMD.out).mono ?_
          rintro e w7 ⟨u7, rfl, h7, hb⟩
          exact hK.out _ _ (by rw [V7, upd_at]; rw [HSD.out] at h7; exact h7.base hG.size) (.inr hb) (hG.trans (hb.mono hG.size))
        case s8_61 =>
          refine owe rfl fun a wx val hG hV hN hO K hK => ?_
          have e49 := hN 3 49 (by kernel_rfl) (by kernel_rfl) (by simp)
          have f49 := hV 3 (by kernel_rfl) (by kernel_rfl)
          rw [V3] at f49
          have hu3 := f49
          have e53 := hN 7 53 (by kernel_rfl) (by kernel_rfl) (by simp)
          have f53 := hV 7 (by kernel_rfl) (by kernel_rfl)
          rw [V7] at f53
          have hu7 := f53
          clear hV hN hO
          obtain ⟨A7, c7, e7, _, m7⟩ := hu7.row
          refine wp_appM (.tmp 49) (.tmp 53) rfl Wz.heap.size wx.heap.size (val 3) sk sd A7 c7 (by simp [Act.eval, e49]) (by rw [← e7]; simp [Act.eval, e53]) hu3 m7 hG.size (by have := HLEN.out.2.2.1; omega) ?_
          intro u8 w8 hown hgr
          exact hK.out _ _ (by rw [V8, upd_at]; rw [HXL.out] at hown; exact hown) (.inl rfl) (hG.trans (OwnM.below hu3 hgr hG.size))
        case s9_61 =>
          refine owe rfl fun a wx val hG hV hN hO K hK => ?_
          have e54 := hN 8 54 (by kernel_rfl) (by kernel_rfl) (by simp)
          have f54 := hV 8 (by kernel_rfl) (by kernel_rfl)
          rw [V8] at f54
          have hu8 := f54
          clear hV hN hO
          obtain ⟨A8, c8, e8, _, m8⟩ := hu8.row
          rw [e8] at e54
          go_simp
          refine (T.sort A8 c8 wx.heap.size XL _ (HLZ.out.below hG) m8 (Nat.le_refl _) HLEN.out.2.2.2 HSMX.out).mono ?_
          rintro e w9 ⟨u9, rfl, h9, hb⟩
          exact hK.out _ _ (by rw [V9, upd_at]; rw [HSX.out] at h9; exact h9.base hG.size) (.inr hb) (hG.trans (hb.mono hG.size))
        case s10_61 =>
          refine owe rfl fun a wx val hG hV hN hO K hK => ?_
          have e55 := hN 9 55 (by kernel_rfl) (by kernel_rfl) (by simp)
          have f55 := hV 9 (by kernel_rfl) (by kernel_rfl)
          rw [V9] at f55
          have hu9 := f55
          clear hV hN hO
          go_simp
          exact hK.out _ _ (by rw [V10, upd_at]; exact hu9) (.inr (Below.refl _ _)) hG
        intro val wx hG hV
        have f0 := hV 0 (by simp) (fun _ _ => by simp)
        rw [V0] at f0
        have f1 := hV 1 (by simp) (fun _ _ => by simp)
        rw [V1] at f1
        have f2 := hV 2 (by simp) (fun _ _ => by simp)
        rw [V2] at f2
        have f4 := hV 4 (by simp) (fun _ _ => by simp)
        rw [V4] at f4
        have f5 := hV 5 (by simp) (fun _ _ => by simp)
        rw [V5] at f5
        have f6 := hV 6 (by simp) (fun _ _ => by simp)
        rw [V6] at f6
        have f8 := hV 8 (by simp) (fun _ _ => by simp)
        rw [V8] at f8
        have f9 := hV 9 (by simp) (fun _ _ => by simp)
        rw [V9] at f9
        have f10 := hV 10 (by simp) (fun _ _ => by simp)
        rw [V10] at f10
        clear hV V0 V1 V2 V3 V4 V5 V6 V7 V8 V9 V10
        simp only [putAll, Act.put, List.setIfInBounds_toArray, List.set_cons_zero, List.set_cons_succ]
        generalize val 0 = z0 at *; (subst f0)
        generalize val 1 = z1 at *; (subst f1)
        generalize val 2 = z2 at *; (subst f2)
        generalize val 4 = z4 at *; (subst f4)
        generalize val 5 = z5 at *; (subst f5)
        generalize val 6 = z6 at *; (subst f6)
        obtain ⟨A10, c10, e10, _, m10⟩ := f10.row
        have HG := Lib.hid (HW.out.trans (hG.mono HW.out.size))
        have HM10 := Lib.hid m10
        have HA5 := Lib.hid (HA4.out.below hG (Nat.le_refl _))
        have HB5 := Lib.hid (HB44.out.below hG (Nat.le_refl _))
        have HZ5 := Lib.hid hG.size
        clear f8 f9 f10 m10 hG HA4 HB44 HMT HMD HLZ HMT0 HMD0 KT KD HSK HSD HSX HSMT HSMD HSMX HXL HLEN
        generalize val 10 = z10 at *
        subst e10
        generalize val 9 = z9 at *
        generalize val 8 = z8 at *
        generalize val 7 = z7 at *
        generalize val 3 = z3 at *
        clear hWz hI hI8
        go_wp2_with fail
        go_loopw [13] (fun i wN => ∃ j : Nat, 1 ≤ j ∧ i = .int .i64 (j : Int) ∧ Below wx.heap.size wx wN) (fun i _ => a.length - (intOf i).toNat)
        case atStart => exact ⟨1, by omega, rfl, Below.refl _ _⟩
        case round =>
          obtain ⟨j, hj1, rfl, hbN⟩ := hrel
          have HBN := Lib.hid hbN
          have hAN := HA5.out.below hbN HZ5.out
          have hBN2 := HB5.out.below hbN HZ5.out
          have hCN := HM10.out.below hbN (Nat.le_refl _)
          have hWN := HG.out.trans (hbN.mono HG.out.size)
          have HWN := Lib.hid hWN
          have HLN := Lib.hid (fun w' (h : Below wr.heap.size wr w') => (L.below hWN).below h)
          have HAN := Lib.hid hAN
          have HBN2 := Lib.hid hBN2
          have HCN := Lib.hid hCN
          clear hbN hAN hBN2 hCN hWN
          by_cases hlt2 : j < a.length
          · have hltI : (j : Int) < (a.length : Int) := by omega
            obtain ⟨x, hx⟩ : ∃ x, a[0]? = some x := ⟨_, List.getElem?_eq_getElem (by omega)⟩
            obtain ⟨y, hy⟩ : ∃ y, a[j]? = some y := ⟨_, List.getElem?_eq_getElem hlt2⟩
            obtain ⟨hl1, _, _⟩ := HATT.out j 0 x y hx hy (by omega)
            have cl := fun w L => T.less x y w L
            rw [hl1] at cl
            obtain ⟨ad3, rfl, hadb, hcc⟩ := HAN.out (by omega)
            have hX : At7 wr ad3 x := hcc 0 x hx
            have hY := hcc j y hy
            have had : ad3.block < wr.heap.size := by have := HZ5.out; have := HBN.out.size; omega
            have hj0 : (0 : Int) ≤ (j : Int) := by omega
            have hj10 : (j : Int) ≤ 10 := by have := HAL.out; omega
            have ha0 : (0 : Int) < (a.length : Int) := by omega
            have ha0n : 0 < a.length := by omega
            have hane : a ≠ [] := fun e => by rw [e] at ha0n; exact absurd ha0n (by simp)
            clear hcc hx hy hl1
            simp only [mv] at cl
            have CL := Lib.hid cl; clear cl
            have hst : ∀ w', Below wr.heap.size wr w' → ((w'.cell? (ad3) = some (.bool x.ext) ∧ w'.cell? ⟨(ad3).block, (ad3).off + 1, none⟩ = some (.int .i64 x.n) ∧ w'.cell? ⟨(ad3).block, (ad3).off + 2, none⟩ = some (.int .i64 x.sender) ∧ w'.cell? ⟨(ad3).block, (ad3).off + 3, none⟩ = some (.int .i64 x.inc) ∧ w'.cell? ⟨(ad3).block, (ad3).off + 4, none⟩ = some (.int .i64 x.seq) ∧ w'.cell? ⟨(ad3).block, (ad3).off + 5, none⟩ = some (.int .i64 x.number) ∧ w'.cell? ⟨(ad3).block, (ad3).off + 6, none⟩ = some (.string x.data)) ∧ (w'.cell? (ad3.add (j * 7)) = some (.bool y.ext) ∧ w'.cell? ⟨(ad3.add (j * 7)).block, (ad3.add (j * 7)).off + 1, none⟩ = some (.int .i64 y.n) ∧ w'.cell? ⟨(ad3.add (j * 7)).block, (ad3.add (j * 7)).off + 2, none⟩ = some (.int .i64 y.sender) ∧ w'.cell? ⟨(ad3.add (j * 7)).block, (ad3.add (j * 7)).off + 3, none⟩ = some (.int .i64 y.inc) ∧ w'.cell? ⟨(ad3.add (j * 7)).block, (ad3.add (j * 7)).off + 4, none⟩ = some (.int .i64 y.seq) ∧ w'.cell? ⟨(ad3.add (j * 7)).block, (ad3.add (j * 7)).off + 5, none⟩ = some (.int .i64 y.number) ∧ w'.cell? ⟨(ad3.add (j * 7)).block, (ad3.add (j * 7)).off + 6, none⟩ = some (.string y.data)) ∧ Below wr.heap.size wr w') := by
              intro w' hb
              obtain ⟨x0, x1, x2, x3, x4, x5, x6⟩ := hX.keep (w' := w') fun q hq => hb.cell (by rw [hq]; exact had)
              obtain ⟨y0, y1, y2, y3, y4, y5, y6⟩ := hY.keep (w' := w') fun q hq => hb.cell (by rw [hq, adb]; exact had)
              exact ⟨⟨x0, x1, x2, x3, x4, x5, x6⟩, ⟨y0, y1, y2, y3, y4, y5, y6⟩, hb⟩
            have HST := Lib.hid hst
            obtain ⟨⟨x0, x1, x2, x3, x4, x5, x6⟩, ⟨y0, y1, y2, y3, y4, y5, y6⟩, _⟩ := hst wr (Below.refl _ _)
            clear hst hX hY
            go_wp2_with fail
            go_region_held3 (fun w' => (w'.cell? (ad3) = some (.bool x.ext) ∧ w'.cell? ⟨(ad3).block, (ad3).off + 1, none⟩ = some (.int .i64 x.n) ∧ w'.cell? ⟨(ad3).block, (ad3).off + 2, none⟩ = some (.int .i64 x.sender) ∧ w'.cell? ⟨(ad3).block, (ad3).off + 3, none⟩ = some (.int .i64 x.inc) ∧ w'.cell? ⟨(ad3).block, (ad3).off + 4, none⟩ = some (.int .i64 x.seq) ∧ w'.cell? ⟨(ad3).block, (ad3).off + 5, none⟩ = some (.int .i64 x.number) ∧ w'.cell? ⟨(ad3).block, (ad3).off + 6, none⟩ = some (.string x.data)) ∧ (w'.cell? (ad3.add (j * 7)) = some (.bool y.ext) ∧ w'.cell? ⟨(ad3.add (j * 7)).block, (ad3.add (j * 7)).off + 1, none⟩ = some (.int .i64 y.n) ∧ w'.cell? ⟨(ad3.add (j * 7)).block, (ad3.add (j * 7)).off + 2, none⟩ = some (.int .i64 y.sender) ∧ w'.cell? ⟨(ad3.add (j * 7)).block, (ad3.add (j * 7)).off + 3, none⟩ = some (.int .i64 y.inc) ∧ w'.cell? ⟨(ad3.add (j * 7)).block, (ad3.add (j * 7)).off + 4, none⟩ = some (.int .i64 y.seq) ∧ w'.cell? ⟨(ad3.add (j * 7)).block, (ad3.add (j * 7)).off + 5, none⟩ = some (.int .i64 y.number) ∧ w'.cell? ⟨(ad3.add (j * 7)).block, (ad3.add (j * 7)).off + 6, none⟩ = some (.string y.data)) ∧ Below wr.heap.size wr w') (first | assumption | exact HST.out _ (Below.refl _ _).drew | exact HST.out _ (((Below.refl _ _).drew).trans (by assumption))) (first | (go_at_call 14; refine (CL.out _ (HLN.out _ (Below.refl _ _).drew)).mono ?_; rintro e w8 ⟨rfl, hb8⟩))
            go_wp2_with fail
            go_roundw
            case rel => exact ⟨j + 1, by omega, by go_num, HBN.out.trans ((((Below.refl _ _).drew).trans hb8).mono HBN.out.size)⟩
            case measure => simp [intOf]; omega
          · have hge : ¬ (j : Int) < (a.length : Int) := by omega
            have hq := HQE.out
            go_wp2_with fail
            refine (same_any A3 A4 c3 c4 _ _ a a _ HAN.out HBN2.out (by unfold maxLen; have := HAL.out; omega)).mono ?_; rintro e w8 ⟨rfl, n8, rfl⟩
            rw [same_true]
            go_wp2_with fail
            refine (same_any A3 A10 c3 c10 _ _ a a _ (HAN.out.below (below_drewN (Below.refl _ _) n8) (Nat.le_refl _)) (HCN.out.below (below_drewN (Below.refl _ _) n8) (Nat.le_refl _)) (by unfold maxLen; have := HAL.out; omega)).mono ?_; rintro e w9 ⟨rfl, n9, rfl⟩
            rw [same_true]
            go_wp2_with fail
            go_ret
            refine ⟨rfl, ?_⟩
            exact below_drewN HWN.out _

end Go.Proofs.YtgolnklgbhilaaaDoor

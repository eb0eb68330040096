/-
  The law's raw numbers: pick, a fifo of raw messages.
-/
import Derived.Test.YtehajmockicilaaDoorFifVar
import Derived.Test.YtehajmockicilaaDoorMsgRawL
namespace Go.Proofs.YtehajmockicilaaDoor
open Go Go.RowKit

set_option maxRecDepth 100000 in
theorem pick14_any (c n : Int) (hc : (Lit.int .i64 c).wf = true) (hn : 0 < n) (w : World) :
    Calls Tryd.prog 16 #[.int .i64 c, .int .i64 n] w fun e w' => e = .returned (.int .i64 (pickI c n)) ∧ w = w' := by
  by_cases h : c < 0
  · have hv := Lib.hid (pick_neg_value c n hc h)
    have HC := Lib.hid hc; clear hc
    go_enter Tryd.func16, Tryd.ntmps16
    go_wp2
    go_ret
    exact ⟨ret_i hv.out, rfl⟩
  · have hv := Lib.hid (pick_pos_value c n h)
    have h0 : 0 ≤ c := by omega
    have HC := Lib.hid hc; clear hc
    go_enter Tryd.func16, Tryd.ntmps16
    go_wp2
    go_ret
    exact ⟨ret_i hv.out, rfl⟩

theorem rowsOk_on {w w' : World} {A : Option Addr} {c : Nat} {l : List Raw} (h : RowsOk w A c l) (hb : Below w.heap.size w w') : RowsOk w' A c l := by
  refine ⟨fun hn => ?_, h.2⟩
  obtain ⟨ad, e, h1, h2⟩ := (h.1.below hb (Nat.le_refl _)) hn
  exact ⟨ad, e, Nat.lt_of_lt_of_le h1 hb.size, h2⟩
def fdT : ByteArray := ⟨#[100]⟩
/-- The messages of a raw fifo. -/
def fiL (L : Int) (rs : List Raw) : List Msg := (rs.take L.toNat).map (rmsg fdT)
theorem fiL_length (L : Int) (rs : List Raw) : ((fiL L rs).length : Int) ≤ max L 0 := by
  unfold fiL
  rw [List.length_map, List.length_take]; omega
theorem rmsg_data (d : ByteArray) (r : Raw) : (rmsg d r).data.size ≤ 8 := ((rightM_iff _).1 (rmsg_right d r)).2.2.2.2.2
theorem map_data (d : ByteArray) (rs : List Raw) : ∀ m ∈ rs.map (rmsg d), m.data.size ≤ 140737488351232 := fun m h => by
  obtain ⟨r, _, rfl⟩ := List.mem_map.1 h
  have := rmsg_data d r
  omega
theorem fiL_right {L T : Int} (rs : List Raw) (h1 : 1 ≤ L) (h2 : L ≤ 32) (h3 : 0 ≤ T) (h4 : T ≤ 65535) : rightFi L T (fiL L rs) = true :=
  (rightFi_iff _ _ _).2 ⟨⟨h1, h2⟩, by have := fiL_length L rs; omega, ⟨h3, h4⟩, fun m h => by
    obtain ⟨r, _, rfl⟩ := List.mem_map.1 h
    exact rmsg_right _ _⟩

set_option maxRecDepth 100000 in
set_option maxHeartbeats 4000000 in
theorem rawFi_any (lim lost : Int) (hlim : (Lit.int .i64 lim).wf = true) (hlost : (Lit.int .i64 lost).wf = true) (A : Option Addr) (c : Nat) (rs : List Raw) (w : World) (hr : RowsOk w A c rs) :
    Calls Tryd.prog 14 #[.int .i64 lim, .int .i64 lost, .slice A rs.length c] w fun e w' => ∃ A' c', e = .returned (fiv (1 + pickI lim 32) (pickI lost 65536) A' (fiL (1 + pickI lim 32) rs).length c') ∧ QTold none w.heap.size w' (fiL (1 + pickI lim 32) rs) A' c' ∧ Below w.heap.size w w' := by
  obtain ⟨hrs, ⟨hlc, hcm⟩, hwf⟩ := hr
  unfold maxLen at hcm
  have cp := fun W => pick14_any lim 32 hlim (by omega) W
  have cp2 := fun W => pick14_any lost 65536 hlost (by omega) W
  have hpr := pickI_range lim 32 (by omega)
  have hpr2 := pickI_range lost 65536 (by omega)
  generalize pickI lim 32 = P at *
  generalize pickI lost 65536 = T at *
  have HZ := Lib.hid (FiAt.new w 0 0 none 0 0)
  have hb1 := Joins.below_alloc1 w (.cells #[.int .i64 0, .int .i64 0, .slice none 0 0] 30)
  have HRS := Lib.hid hrs
  have HWF := Lib.hid hwf
  have hz1 := (FiAt.new w 0 0 none 0 0)
  obtain ⟨LQ, hLQ⟩ : ∃ LQ : Int, LQ = 1 + P := ⟨_, rfl⟩
  rw [← hLQ]
  have hL32 : 1 ≤ LQ ∧ LQ ≤ 32 := by omega
  have HPL : Hid (1 + P = LQ) := Lib.hid hLQ.symm
  have hq5 := FiAt.new (w.alloc (.cells #[.int .i64 0, .int .i64 0, .slice none 0 0] 30)) LQ T none 0 0
  have hb5 := Joins.below_alloc1 (w.alloc (.cells #[.int .i64 0, .int .i64 0, .slice none 0 0] 30)) (.cells #[.int .i64 LQ, .int .i64 T, .slice none 0 0] 30)
  rw [World.size_alloc] at hq5
  have HZ5 := Lib.hid (hz1.on hb5)
  have HQ5 : Hid (FiAt _ (w.heap.size + 1) LQ T none 0 0) := Lib.hid hq5
  have HB5 := Lib.hid (hb1.trans (hb5.mono hb1.size))
  have HSZ5 : Hid (((w.alloc (.cells #[.int .i64 0, .int .i64 0, .slice none 0 0] 30)).alloc (.cells #[.int .i64 LQ, .int .i64 T, .slice none 0 0] 30)).heap.size = w.heap.size + 2) := Lib.hid (by simp only [World.size_alloc])
  clear hz1 hq5 hb5 hb1 hrs hwf HZ hlim hlost hLQ
  go_enter Tryd.func14, Tryd.ntmps14
  go_wp2_with fail; refine (cp _).mono ?_; rintro e w1 ⟨rfl, rfl⟩
  have hpl := HPL.out
  go_wp2_with fail; refine (cp2 _).mono ?_; rintro e w1 ⟨rfl, rfl⟩
  go_wp2_with fail
  generalize hW1 : (w.alloc (.cells #[.int .i64 0, .int .i64 0, .slice none 0 0] 30)).alloc (.cells #[.int .i64 LQ, .int .i64 T, .slice none 0 0] 30) = W1 at *
  clear hW1 cp cp2 hpl hpr hpr2
  go_loopw [8] (fun i wr => ∃ k : Nat, k ≤ rs.length ∧ (k : Int) ≤ LQ ∧ i = .int .i64 k ∧ (∃ A' c', FiAt wr (w.heap.size + 1) LQ T A' k c' ∧ OwnM wr (w.heap.size + 2) (.slice A' k c') ((rs.take k).map (rmsg fdT))) ∧ Below w.heap.size w wr ∧ FiAt wr w.heap.size 0 0 none 0 0) (fun i _ => 32 - (intOf i).toNat)
  case atStart => exact ⟨0, by omega, by omega, rfl, ⟨none, 0, HQ5.out, OwnM.nil _ _⟩, HB5.out, HZ5.out⟩
  case round =>
    obtain ⟨k, hk, hk32, rfl, ⟨A', c', hqa, hown⟩, hb, hz⟩ := hrel
    have HQA := Lib.hid hqa
    have HOW := Lib.hid hown
    have HB := Lib.hid hb
    have HZ := Lib.hid hz
    have HSQ : Hid (w.heap.size + 2 ≤ wr.heap.size) := Lib.hid (by have := hqa.lt; omega)
    by_cases hgo : k < rs.length ∧ (k : Int) < LQ
    · obtain ⟨hlt, hltLI⟩ := hgo
      have hltI : (k : Int) < (rs.length : Int) := by omega
      obtain ⟨r, hr⟩ : ∃ r, rs[k]? = some r := ⟨_, List.getElem?_eq_getElem hlt⟩
      have hwr := HWF.out k r hr
      obtain ⟨ad, rfl, hadb, hcc⟩ := HRS.out (by omega)
      have HAD : Hid (∀ W, Below w.heap.size w W → At6 W (ad.add (k * 6)) r) := Lib.hid (fun W h => (hcc k r hr).keep fun q hq => h.cell (by rw [hq, adb]; exact hadb))
      have CN : Hid (∀ W, Calls Tryd.prog 23 #[.agg #[.int .i64 r.r0, .int .i64 r.r1, .int .i64 r.r2, .int .i64 r.r3, .int .i64 r.r4, .int .i64 r.r5], .string fdT] W fun e w' => e = .returned (mv (rmsg fdT r)) ∧ Below W.heap.size W w') := Lib.hid (fun W => rmsg_any r hwr fdT (by decide) W)
      have HMT := Lib.hid (map_take fdT rs k r hr)
      have HLL : Hid (((rs.take k).map (rmsg fdT)).length = k) := Lib.hid (by rw [List.length_map, List.length_take]; omega)
      obtain ⟨v0, v1, v2⟩ := hqa.cells
      clear hr hwr hcc hqa hown hb hz
      generalize (rs.take k).map (rmsg fdT) = lk at *
      generalize rmsg fdT r = m at *
      obtain ⟨e1, n1, s1, i1, q1, k1, d1⟩ := m
      obtain ⟨r0, r1, r2, r3, r4, r5⟩ := r
      simp only [mv, fdT] at CN HAD
      go_upto_region 5 with (fail)
      clear v0 v1 v2
      have HV : ∃ Vp : Nat → (Nat → Value) → World → Prop, Vp = (fun ix u wv => match ix with
        | 0 => u 0 = .pointer (some ⟨w.heap.size + 1, 2, none⟩)
        | 1 => u 1 = .slice A' k c'
        | 2 => u 2 = .slice (some ad) rs.length c
        | 3 => u 3 = .int .i64 (k : Int)
        | 4 => u 4 = .pointer (some (ad.add (k * 6)))
        | 5 => u 5 = .agg #[.int .i64 r0, .int .i64 r1, .int .i64 r2, .int .i64 r3, .int .i64 r4, .int .i64 r5]
        | 6 => u 6 = .agg #[.bool e1, .int .i64 n1, .int .i64 s1, .int .i64 i1, .int .i64 q1, .int .i64 k1, .string d1]
        | 7 => ∃ g, u 7 = .slice (some ⟨g, 0, none⟩) 1 1 ∧ MsgAt wv g ⟨e1, n1, s1, i1, q1, k1, d1⟩
        | 8 => ∃ A7 c7, u 8 = .slice A7 (k + 1) c7 ∧ OwnM wv (w.heap.size + 2) (.slice A7 (k + 1) c7) (lk ++ [⟨e1, n1, s1, i1, q1, k1, d1⟩])
        | 9 => u 9 = .pointer (some ⟨w.heap.size + 1, 2, none⟩)
        | 10 => ∃ A7 c7, FiAt wv (w.heap.size + 1) LQ T A7 (k + 1) c7 ∧ OwnM wv (w.heap.size + 2) (.slice A7 (k + 1) c7) (lk ++ [⟨e1, n1, s1, i1, q1, k1, d1⟩])
        | _ => True) := ⟨_, rfl⟩
      obtain ⟨Vp, hVdef⟩ := HV
      have Vp0 : ∀ u wv, Vp 0 u wv = (u 0 = .pointer (some ⟨w.heap.size + 1, 2, none⟩)) := fun u wv => by subst hVdef; rfl
      have Vp1 : ∀ u wv, Vp 1 u wv = (u 1 = .slice A' k c') := fun u wv => by subst hVdef; rfl
      have Vp2 : ∀ u wv, Vp 2 u wv = (u 2 = .slice (some ad) rs.length c) := fun u wv => by subst hVdef; rfl
      have Vp3 : ∀ u wv, Vp 3 u wv = (u 3 = .int .i64 (k : Int)) := fun u wv => by subst hVdef; rfl
      have Vp4 : ∀ u wv, Vp 4 u wv = (u 4 = .pointer (some (ad.add (k * 6)))) := fun u wv => by subst hVdef; rfl
      have Vp5 : ∀ u wv, Vp 5 u wv = (u 5 = .agg #[.int .i64 r0, .int .i64 r1, .int .i64 r2, .int .i64 r3, .int .i64 r4, .int .i64 r5]) := fun u wv => by subst hVdef; rfl
      have Vp6 : ∀ u wv, Vp 6 u wv = (u 6 = .agg #[.bool e1, .int .i64 n1, .int .i64 s1, .int .i64 i1, .int .i64 q1, .int .i64 k1, .string d1]) := fun u wv => by subst hVdef; rfl
      have Vp7 : ∀ u wv, Vp 7 u wv = (∃ g, u 7 = .slice (some ⟨g, 0, none⟩) 1 1 ∧ MsgAt wv g ⟨e1, n1, s1, i1, q1, k1, d1⟩) := fun u wv => by subst hVdef; rfl
      have Vp8 : ∀ u wv, Vp 8 u wv = (∃ A7 c7, u 8 = .slice A7 (k + 1) c7 ∧ OwnM wv (w.heap.size + 2) (.slice A7 (k + 1) c7) (lk ++ [⟨e1, n1, s1, i1, q1, k1, d1⟩])) := fun u wv => by subst hVdef; rfl
      have Vp9 : ∀ u wv, Vp 9 u wv = (u 9 = .pointer (some ⟨w.heap.size + 1, 2, none⟩)) := fun u wv => by subst hVdef; rfl
      have Vp10 : ∀ u wv, Vp 10 u wv = (∃ A7 c7, FiAt wv (w.heap.size + 1) LQ T A7 (k + 1) c7 ∧ OwnM wv (w.heap.size + 2) (.slice A7 (k + 1) c7) (lk ++ [⟨e1, n1, s1, i1, q1, k1, d1⟩])) := fun u wv => by subst hVdef; rfl
      have HVD := Lib.hid hVdef
      clear hVdef
      refine region_phase (V := Vp) (drop := fun jx ix => (jx == 8 && ix == 7) || (jx == 10 && ix == 7) || (jx == 10 && ix == 8)) (G := fun L wv => (L 8 = false → OwnM wv (w.heap.size + 2) (.slice A' k c') lk) ∧ (L 10 = false → FiAt wv (w.heap.size + 1) LQ T A' k c') ∧ w.heap.size + 2 ≤ (wv).heap.size ∧ Below w.heap.size w wv ∧ FiAt wv w.heap.size 0 0 none 0 0) (Rel := fun jx wv wv' => jx = 8 ∨ jx = 10 ∨ Below wv.heap.size wv wv') (by kernel_rfl) (by kernel_rfl) ⟨fun _ => HOW.out.on (Below.refl _ _).drew, fun _ => HQA.out.on (Below.refl _ _).drew, HSQ.out, HB.out.trans ((Below.refl _ _).drew.mono HB.out.size), HZ.out.on (Below.refl _ _).drew⟩ ?hmonop1 ?hdepp1 ⟨?s0_p1, ?s1_p1, ?s2_p1, ?s3_p1, ?s4_p1, ?s5_p1, ?s6_p1, ?s7_p1, ?s8_p1, ?s9_p1, ?s10_p1, trivial⟩ ?behindp1
      case hmonop1 =>
        intro ix jx u wv wv' hij hw hd hr
        rw [HVD.out]
        dsimp only
        split <;> intro h <;> first | exact trivial | exact h | (rcases hr with rfl | rfl | hb; (focus first | exact absurd rfl hij | (simp at hd; done) | (exact Bool.noConfusion (hw.symm.trans (show _ = true from by kernel_rfl)))); (focus first | exact absurd rfl hij | (simp at hd; done) | (exact Bool.noConfusion (hw.symm.trans (show _ = true from by kernel_rfl)))); (first | (obtain ⟨g, e, hg⟩ := h; exact ⟨g, e, MsgAt.on hg hb⟩) | (obtain ⟨A7, c7, e, ho7⟩ := h; exact ⟨A7, c7, e, ho7.on hb⟩) | (obtain ⟨A7, c7, e, ho7⟩ := h; exact ⟨A7, c7, e.on hb, ho7.on hb⟩)))
      case hdepp1 =>
        intro ix u u' wv h1 h2
        rw [HVD.out]
        dsimp only
        split <;> intro h <;> first | exact trivial | (rw [← h1]; exact h) | exact h
      case s0_p1 =>
        refine oweP rfl fun a wx val L hG hi hW hV hN hO K hK => ?_
        have e7 : a.tmps[7]? = some (.pointer (some ⟨w.heap.size + 1, 0, none⟩)) := (hO 7 (by kernel_rfl)).trans (by rfl)
        clear hV hN hO
        go_simp
        exact hK.out _ _ (by rw [Vp0, upd_at] <;> (congr 1 <;> omega)) (.inr (.inr (Below.refl _ _))) (⟨fun h => hG.1 (upL_false h), fun h => hG.2.1 (upL_false h), hG.2.2⟩)
      case s1_p1 =>
        refine oweP rfl fun a wx val L hG hi hW hV hN hO K hK => ?_
        have e27 := hN 0 27 (by kernel_rfl) (by kernel_rfl) (by simp)
        have f27 := hV 0 (by kernel_rfl) (by kernel_rfl)
        rw [Vp0] at f27; rw [f27] at e27; clear f27
        clear hV hN hO
        obtain ⟨v0, v1, v2⟩ := (hG.2.1 (hW 10 (by kernel_rfl))).cells
        go_simp
        exact hK.out _ _ (by rw [Vp1, upd_at] <;> (congr 1 <;> omega)) (.inr (.inr (Below.refl _ _))) (⟨fun h => hG.1 (upL_false h), fun h => hG.2.1 (upL_false h), hG.2.2⟩)
      case s2_p1 =>
        refine oweP rfl fun a wx val L hG hi hW hV hN hO K hK => ?_
        have e2 : a.tmps[2]? = some (.slice (some ad) rs.length c) := (hO 2 (by kernel_rfl)).trans (by rfl)
        clear hV hN hO
        go_simp
        exact hK.out _ _ (by rw [Vp2, upd_at] <;> (congr 1 <;> omega)) (.inr (.inr (Below.refl _ _))) (⟨fun h => hG.1 (upL_false h), fun h => hG.2.1 (upL_false h), hG.2.2⟩)
      case s3_p1 =>
        refine oweP rfl fun a wx val L hG hi hW hV hN hO K hK => ?_
        have e8 : a.tmps[8]? = some (.int .i64 (k : Int)) := (hO 8 (by kernel_rfl)).trans (by rfl)
        clear hV hN hO
        go_simp
        exact hK.out _ _ (by rw [Vp3, upd_at] <;> (congr 1 <;> omega)) (.inr (.inr (Below.refl _ _))) (⟨fun h => hG.1 (upL_false h), fun h => hG.2.1 (upL_false h), hG.2.2⟩)
      case s4_p1 =>
        refine oweP rfl fun a wx val L hG hi hW hV hN hO K hK => ?_
        have e29 := hN 2 29 (by kernel_rfl) (by kernel_rfl) (by simp)
        have f29 := hV 2 (by kernel_rfl) (by kernel_rfl)
        rw [Vp2] at f29; rw [f29] at e29; clear f29
        have e30 := hN 3 30 (by kernel_rfl) (by kernel_rfl) (by simp)
        have f30 := hV 3 (by kernel_rfl) (by kernel_rfl)
        rw [Vp3] at f30; rw [f30] at e30; clear f30
        clear hV hN hO
        go_simp
        exact hK.out _ _ (by rw [Vp4, upd_at] <;> (congr 1 <;> omega)) (.inr (.inr (Below.refl _ _))) (⟨fun h => hG.1 (upL_false h), fun h => hG.2.1 (upL_false h), hG.2.2⟩)
      case s5_p1 =>
        refine oweP rfl fun a wx val L hG hi hW hV hN hO K hK => ?_
        have e31 := hN 4 31 (by kernel_rfl) (by kernel_rfl) (by simp)
        have f31 := hV 4 (by kernel_rfl) (by kernel_rfl)
        rw [Vp4] at f31; rw [f31] at e31; clear f31
        clear hV hN hO
        obtain ⟨x0, x1, x2, x3, x4, x5⟩ := HAD.out _ hG.2.2.2.1
        go_simp
        exact hK.out _ _ (by rw [Vp5, upd_at] <;> (congr 1 <;> omega)) (.inr (.inr (Below.refl _ _))) (⟨fun h => hG.1 (upL_false h), fun h => hG.2.1 (upL_false h), hG.2.2⟩)
      case s6_p1 =>
        refine oweP rfl fun a wx val L hG hi hW hV hN hO K hK => ?_
        have e32 := hN 5 32 (by kernel_rfl) (by kernel_rfl) (by simp)
        have f32 := hV 5 (by kernel_rfl) (by kernel_rfl)
        rw [Vp5] at f32; rw [f32] at e32; clear f32
        clear hV hN hO
        go_simp
        refine (CN.out _).mono ?_
        rintro e w11 ⟨rfl, hb⟩
        exact hK.out _ _ (by rw [Vp6, upd_at]) (.inr (.inr (hb))) (⟨fun h => (hG.1 (upL_false h)).on hb, fun h => (hG.2.1 (upL_false h)).on hb, Nat.le_trans hG.2.2.1 hb.size, hG.2.2.2.1.trans (hb.mono hG.2.2.2.1.size), hG.2.2.2.2.on hb⟩)
      case s7_p1 =>
        refine oweP rfl fun a wx val L hG hi hW hV hN hO K hK => ?_
        have e33 := hN 6 33 (by kernel_rfl) (by kernel_rfl) (by simp)
        have f33 := hV 6 (by kernel_rfl) (by kernel_rfl)
        rw [Vp6] at f33; rw [f33] at e33; clear f33
        clear hV hN hO
        go_simp
        have hb := Joins.below_alloc1 wx (.cells #[.bool e1, .int .i64 n1, .int .i64 s1, .int .i64 i1, .int .i64 q1, .int .i64 k1, .string d1] 26)
        exact hK.out _ _ (by rw [Vp7, upd_at]; exact ⟨_, rfl, MsgAt.new wx ⟨e1, n1, s1, i1, q1, k1, d1⟩⟩) (.inr (.inr hb)) (⟨fun h => (hG.1 (upL_false h)).on hb, fun h => (hG.2.1 (upL_false h)).on hb, Nat.le_trans hG.2.2.1 hb.size, hG.2.2.2.1.trans (hb.mono hG.2.2.2.1.size), hG.2.2.2.2.on hb⟩)
      case s8_p1 =>
        refine oweP rfl fun a wx val L hG hi hW hV hN hO K hK => ?_
        have e28 := hN 1 28 (by kernel_rfl) (by kernel_rfl) (by simp)
        have f28 := hV 1 (by kernel_rfl) (by kernel_rfl)
        rw [Vp1] at f28; rw [f28] at e28; clear f28
        have e34 := hN 7 34 (by kernel_rfl) (by kernel_rfl) (by simp)
        have f34 := hV 7 (by kernel_rfl) (by kernel_rfl)
        rw [Vp7] at f34; obtain ⟨g, hv, hgg⟩ := f34; rw [hv] at e34
        clear hV hN hO
        have h9 := hG.1 hi
        refine wp_appM (.tmp 28) (.tmp 34) rfl (w.heap.size + 2) wx.heap.size _ lk [⟨e1, n1, s1, i1, q1, k1, d1⟩] (some ⟨g, 0, none⟩) 1 (by simp [Act.eval, e28]) (by simp [Act.eval, e34]) h9 (Msgs.one hgg) hG.2.2.1 (by rw [HLL.out]; simp; omega) ?_
        intro u' w5 hown5 hg5
        have hb5 := OwnM.below h9 hg5 hG.2.2.1
        have hk5 := fun h => (hG.2.1 (upL_false (i := 8) h)).grown h9 hg5
        have hz5 := hG.2.2.2.2.grown h9 hg5
        obtain ⟨A7, c7, hu7, _, _⟩ := hown5.row
        have hn7 : (lk ++ [(⟨e1, n1, s1, i1, q1, k1, d1⟩ : Msg)]).length = k + 1 := (by rw [List.length_append, HLL.out]; rfl)
        rw [hn7] at hu7
        subst hu7
        exact hK.out _ _ (by rw [Vp8, upd_at]; exact ⟨A7, c7, rfl, hown5⟩) (.inl rfl) ⟨fun h => (upL_self h).elim, hk5, Nat.le_trans hG.2.2.1 hb5.size, hG.2.2.2.1.trans (hb5.mono (by omega)), hz5⟩
      case s9_p1 =>
        refine oweP rfl fun a wx val L hG hi hW hV hN hO K hK => ?_
        have e7 : a.tmps[7]? = some (.pointer (some ⟨w.heap.size + 1, 0, none⟩)) := (hO 7 (by kernel_rfl)).trans (by rfl)
        clear hV hN hO
        go_simp
        exact hK.out _ _ (by rw [Vp9, upd_at] <;> (congr 1 <;> omega)) (.inr (.inr (Below.refl _ _))) (⟨fun h => hG.1 (upL_false h), fun h => hG.2.1 (upL_false h), hG.2.2⟩)
      case s10_p1 =>
        refine oweP rfl fun a wx val L hG hi hW hV hN hO K hK => ?_
        have e36 := hN 9 36 (by kernel_rfl) (by kernel_rfl) (by simp)
        have f36 := hV 9 (by kernel_rfl) (by kernel_rfl)
        rw [Vp9] at f36; rw [f36] at e36; clear f36
        have e35 := hN 8 35 (by kernel_rfl) (by kernel_rfl) (by simp)
        have f35 := hV 8 (by kernel_rfl) (by kernel_rfl)
        rw [Vp8] at f35; obtain ⟨A7, c7, hv, ho7⟩ := f35; rw [hv] at e35
        clear hV hN hO
        have hka := hG.2.1 hi
        obtain ⟨v0, v1, v2⟩ := hka.cells
        have vf := hka.frozen
        have hts := ho7.cell1 (b := w.heap.size + 1) (i := 2) (by omega) (.slice A7 (k + 1) c7)
        have hbs := hG.2.2.2.1.setCell (p := ⟨w.heap.size + 1, 2, none⟩) (by show w.heap.size ≤ w.heap.size + 1; omega) (.slice A7 (k + 1) c7)
        have hss : w.heap.size + 2 ≤ (wx.setCell ⟨w.heap.size + 1, 2, none⟩ (.slice A7 (k + 1) c7)).heap.size := (by rw [World.size_setCell]; exact hG.2.2.1)
        have hzs := hG.2.2.2.2.cell1 (b := w.heap.size + 1) (i := 2) (by omega) (.slice A7 (k + 1) c7)
        go_simp
        exact hK.out undef _ (by rw [Vp10]; exact ⟨A7, c7, hka.list _ _ _, hts⟩) (.inr (.inl rfl)) ⟨fun h => OwnM.cell1 (hG.1 (upL_false h)) (by omega) _, fun h => (upL_self h).elim, hss, hbs, hzs⟩
      intro val wx L hG hV
      have f0 := hV 0 (by simp) (fun _ _ => by simp)
      rw [Vp0] at f0
      have f1 := hV 1 (by simp) (fun _ _ => by simp)
      rw [Vp1] at f1
      have f2 := hV 2 (by simp) (fun _ _ => by simp)
      rw [Vp2] at f2
      have f3 := hV 3 (by simp) (fun _ _ => by simp)
      rw [Vp3] at f3
      have f4 := hV 4 (by simp) (fun _ _ => by simp)
      rw [Vp4] at f4
      have f5 := hV 5 (by simp) (fun _ _ => by simp)
      rw [Vp5] at f5
      have f6 := hV 6 (by simp) (fun _ _ => by simp)
      rw [Vp6] at f6
      have f9 := hV 9 (by simp) (fun _ _ => by simp)
      rw [Vp9] at f9
      have f10 := hV 10 (by simp) (fun _ _ => by simp)
      rw [Vp10] at f10
      clear hV Vp0 Vp1 Vp2 Vp3 Vp4 Vp5 Vp6 Vp7 Vp8 Vp9 Vp10
      simp only [putAll, Act.put, List.setIfInBounds_toArray, List.set_cons_zero, List.set_cons_succ]
      generalize val 0 = z0 at *; (subst f0)
      generalize val 1 = z1 at *; (subst f1)
      generalize val 2 = z2 at *; (subst f2)
      generalize val 3 = z3 at *; (subst f3)
      generalize val 4 = z4 at *; (subst f4)
      generalize val 5 = z5 at *; (subst f5)
      generalize val 6 = z6 at *; (subst f6)
      generalize val 7 = z7 at *
      generalize val 8 = z8 at *
      generalize val 9 = z9 at *; (subst f9)
      clear HVD
      obtain ⟨A7, c7, hka, ht⟩ := f10
      have HKA := Lib.hid hka
      have HT := Lib.hid ht
      have HG9 := Lib.hid hG.2.2.2
      clear hka ht hG
      go_wp2_with fail
      go_roundw
      case rel => exact ⟨k + 1, by omega, by omega, by go_num, ⟨A7, c7, HKA.out, by rw [HMT.out]; exact HT.out⟩, HG9.out.1, HG9.out.2⟩
      case measure => simp [intOf]; omega
    · have hfin : (rs.take k).map (rmsg fdT) = fiL LQ rs := by
        unfold fiL
        congr 1
        by_cases h1 : k < rs.length
        · have : k = LQ.toNat := by omega
          rw [this]
        · rw [List.take_of_length_le (by omega), List.take_of_length_le (by omega)]
      have hlen : (fiL LQ rs).length = k := by rw [← hfin, List.length_map, List.length_take]; omega
      have HF : Hid (∀ W, QTold none w.heap.size W (fiL LQ rs) A' c' → Below w.heap.size w W → ∃ A2 c2, Ending.returned (fiv LQ T A' k c') = .returned (fiv LQ T A2 (fiL LQ rs).length c2) ∧ QTold none w.heap.size W (fiL LQ rs) A2 c2 ∧ Below w.heap.size w W) := Lib.hid (fun W h1 h2 => ⟨A', c', by rw [hlen], h1, h2⟩)
      rw [hfin] at hown
      have ht0 : QTold none (w.heap.size + 2) wr (fiL LQ rs) A' c' := QTold.ofOwn (by rw [hlen]; exact hown)
      obtain ⟨v0, v1, v2⟩ := hqa.cells
      obtain ⟨z0, z1, z2⟩ := hz.cells
      have zf := hz.frozen
      have HQS := Lib.hid (hz.set LQ T A' k c')
      have HBS := Lib.hid (below_set3 hb (Nat.le_refl w.heap.size) (.int .i64 LQ) (.int .i64 T) (.slice A' k c'))
      have HTS := Lib.hid ((ht0.put3 (b := w.heap.size) (by omega) (.int .i64 LQ) (.int .i64 T) (.slice A' k c')).less (S' := w.heap.size) (by omega))
      have hno : (k : Int) < rs.length → ¬ (k : Int) < LQ := fun h h2 => hgo ⟨by omega, h2⟩
      by_cases hlt : (k : Int) < (rs.length : Int)
      · have hlt12I := hno hlt
        clear hno hgo hqa hz hb hown hfin hlen ht0 HQA HOW HB HZ
        go_wp2_with fail
        exact bodyPost_ret (fio_res Tryd.results14 HQS.out rfl) rfl (HF.out _ HTS.out HBS.out)
      · clear hno hgo hqa hz hb hown hfin hlen ht0 HQA HOW HB HZ
        go_wp2_with fail
        exact bodyPost_ret (fio_res Tryd.results14 HQS.out rfl) rfl (HF.out _ HTS.out HBS.out)

end Go.Proofs.YtehajmockicilaaDoor

/-
  The law FifoCounts, walked.
-/
import Derived.Test.YtehajmockicilaaDoorFifFilt
namespace Go.Proofs.YtehajmockicilaaDoor
open Go Go.RowKit

theorem right_small' {L T : Int} {l : List Msg} (h : rightFi L T l = true) : l.length ≤ 32 := by
  obtain ⟨h1, h2, _⟩ := (rightFi_iff _ _ _).1 h
  omega
theorem right_data {L T : Int} {l : List Msg} (h : rightFi L T l = true) : ∀ m ∈ l, m.data.size ≤ 140737488351232 := fun m hm => by
  have h1 := ((rightFi_iff _ _ _).1 h).2.2.2 m hm
  have := ((rightM_iff m).1 h1).2.2.2.2.2
  omega

set_option maxRecDepth 100000 in
set_option maxHeartbeats 8000000 in
theorem fifoCounts_walk (lim lost : Int) (A : Option Addr) (c : Nat) (rs : List Raw) (Ap : Option Addr) (cp : Nat) (ps : List (Int × Int)) (Ao : Option Addr) (co : Nat) (os : List Raw) (hlim : (Lit.int .i64 lim).wf = true) (hlost : (Lit.int .i64 lost).wf = true)
    (w : World) (L : Laid w) (f2 : RowsOk w A c rs) (f3 : PrsOkf w Ap cp ps) (f4 : RowsOk w Ao co os) :
    Calls Tryd.prog 6 #[.int .i64 lim, .int .i64 lost, .slice A rs.length c, .slice Ap ps.length cp, .slice Ao os.length co] w fun e w' => e = .returned (.bool true) ∧ Below w.heap.size w w' := by
  have HRW := Lib.hid f2
  have HPW := Lib.hid f3
  have HOS := Lib.hid f4.1
  have HWF := Lib.hid f4.2.2
  have hlc := f4.2.1.1
  have hcm := f4.2.1.2
  unfold maxLen at hcm
  have HLW := Lib.hid L
  have cA := fun W LL => fiAwake_any W LL
  have hpl := pickI_range lim 32 (by omega)
  have hpt := pickI_range lost 65536 (by omega)
  have HCQ : Hid (∀ W, RowsOk W A c rs → Calls Tryd.prog 14 #[.int .i64 lim, .int .i64 lost, .slice A rs.length c] W fun e w' => ∃ A' c', e = .returned (fiv (1 + pickI lim 32) (pickI lost 65536) A' (fiL (1 + pickI lim 32) rs).length c') ∧ QTold none W.heap.size w' (fiL (1 + pickI lim 32) rs) A' c' ∧ Below W.heap.size W w') := Lib.hid (fun W h => rawFi_any lim lost hlim hlost A c rs W h)
  have hfr := fiL_right (L := 1 + pickI lim 32) (T := pickI lost 65536) rs (by omega) (by omega) (by omega) (by omega)
  have hfd : ∀ m ∈ fiL (1 + pickI lim 32) rs, m.data.size ≤ 140737488351232 := map_data fdT _
  generalize fiL (1 + pickI lim 32) rs = l at *
  generalize 1 + pickI lim 32 = LQ at *
  generalize pickI lost 65536 = T at *
  have HFL := Lib.hid (right_small' hfr)
  have HFD := Lib.hid hfd
  have HFR := Lib.hid hfr
  have HFS := Lib.hid (filL_length ps)
  have HCF : Hid (∀ W, PrsOkf W Ap cp ps → Calls Tryd.prog 24 #[.slice Ap ps.length cp] W fun e w' => ∃ A' c', e = .returned (.slice A' (filL ps).length c') ∧ LieIn w' A' (filL ps) ∧ (∀ ad, A' = some ad → W.heap.size ≤ ad.block) ∧ Below W.heap.size W w') := Lib.hid (fun W h => filters_any Ap cp ps W h)
  generalize filL ps = fs at *
  obtain ⟨KN, hKN⟩ : ∃ KN : Nat, KN = min os.length 30 := ⟨_, rfl⟩
  have HKN := Lib.hid hKN
  clear hpl hpt hfr hfd hlim hlost L f2 f3 f4 hKN
  go_enter Tryd.func6, Tryd.ntmps6
  go_wp2_with fail; refine (cA _ HLW.out).mono ?_; rintro e w1 ⟨rfl, b1⟩
  have HB := Lib.hid b1
  have cq := HCQ.out w1 (rowsOk_on HRW.out b1)
  clear b1 cA HCQ
  go_wp2_with fail; refine cq.mono ?_; rintro e w2 ⟨A8, c8, rfl, ht, b2⟩
  clear cq
  have hi := ht.qin (by have := HFL.out; omega) HFD.out
  have hb := Joins.below_alloc1 w2 (.cells #[.int .i64 LQ, .int .i64 T, .slice A8 l.length c8] 30)
  have HF := Lib.hid (FVar.new (L := LQ) (T := T) hi)
  have hb2 := b2.trans (hb.mono b2.size)
  have HS8 : Hid (w.heap.size ≤ w2.heap.size) := Lib.hid (Nat.le_trans HB.out.size b2.size)
  have HB1 := Lib.hid (HB.out.trans (Below.mono hb2 HB.out.size)); clear HB; have HB := HB1; clear HB1
  have cf := HCF.out _ (HPW.out.on HB.out)
  clear ht hi hb b2 hb2 HCF
  go_wp2_with fail
  generalize w2.alloc (.cells #[.int .i64 LQ, .int .i64 T, .slice A8 l.length c8] 30) = W2 at *
  generalize w2.heap.size = b12 at *
  refine cf.mono ?_; rintro e w3 ⟨AF, cf3, rfl, hlie, hlow, b3⟩
  have HNF : Hid (∀ ad, AF = some ad → ad.block ≠ b12) := Lib.hid (fun ad e => by have := hlow ad e; have := HF.out.lt; omega)
  have HNG : Hid (∀ ad, AF = some ad → ad.block ≠ w3.heap.size) := Lib.hid (fun ad e => by
    rcases hlie with h | ⟨a, e2, h2, _⟩
    · rw [h.2] at e; cases e
    · rw [e2] at e; cases e; omega)
  have HS14 : Hid (w.heap.size ≤ w3.heap.size) := Lib.hid (by have := b3.size; have := HF.out.lt; have := HS8.out; omega)
  have hb := Joins.below_alloc1 w3 (.cells #[.int .i64 0, .int .i64 0, .int .i64 0] 60)
  have h3b := b3.trans (hb.mono b3.size)
  have HF1 := Lib.hid (HF.out.on h3b); clear HF; have HF := HF1; clear HF1
  have HB1 := Lib.hid (HB.out.trans (Below.mono h3b HB.out.size)); clear HB; have HB := HB1; clear HB1
  have HAR : Hid (ThreeAt _ w3.heap.size 0 0 0) := Lib.hid (show ThreeAt (w3.alloc (.cells #[.int .i64 0, .int .i64 0, .int .i64 0] 60)) w3.heap.size 0 0 0 from heap_alloc_new w3 _)
  have HLI := Lib.hid (hlie.below hb)
  have HN4 : Hid (b12 ≠ w3.heap.size) := Lib.hid (by
    intro e
    have h1 := HAR.out
    obtain ⟨A0, c0, h2, _⟩ := HF.out
    unfold ThreeAt at h1
    unfold FiAt at h2
    rw [← e, h2] at h1
    injection h1 with h3
    injection h3 with h4 h5 h6
    revert h5; decide)
  clear hlie hlow b3 hb h3b cf
  go_upto_region 5 with (fail)
  generalize w3.alloc (.cells #[.int .i64 0, .int .i64 0, .int .i64 0] 60) = W3 at *
  generalize w3.heap.size = b14 at *
  go_wp2_with fail
  go_loopw [15, 16, 17, 18] (fun i _ _ _ wr => ∃ k : Nat, k ≤ os.length ∧ k ≤ 30 ∧ i = .int .i64 k ∧ (∃ T lf, FVar wr b12 LQ T lf ∧ rightFi LQ T lf = true) ∧ (∃ n0 n1 n2 : Nat, ThreeAt wr b14 n0 n1 n2 ∧ n0 + n1 + n2 = k) ∧ LieIn wr AF fs ∧ Below w.heap.size w wr) (fun i _ _ _ _ => 30 - (intOf i).toNat)
  case atStart => exact ⟨0, by omega, by omega, rfl, ⟨T, l, HF.out, HFR.out⟩, ⟨0, 0, 0, HAR.out, rfl⟩, HLI.out, HB.out⟩
  case round =>
    clear HF HB HFL HFD HFR HLI HAR
    obtain ⟨k, hk, hk30, rfl, ⟨T, lf, hvf, hrf⟩, ⟨n0, n1, n2, har, hsum⟩, hli, hb⟩ := hrel
    have HVF := Lib.hid hvf
    have HRF := Lib.hid hrf
    have HAR := Lib.hid har
    have HSUM := Lib.hid hsum
    have HLI := Lib.hid hli
    have HB := Lib.hid hb
    clear hvf hrf har hsum hli hb
    by_cases hgo : k < os.length ∧ k < 30
    · obtain ⟨hlt, hlt30⟩ := hgo
      have hltI : (k : Int) < (os.length : Int) := by omega
      have hlt30I : (k : Int) < 30 := by omega
      obtain ⟨r, hr⟩ : ∃ r, os[k]? = some r := ⟨_, List.getElem?_eq_getElem hlt⟩
      have hwr := HWF.out k r hr
      obtain ⟨ad, rfl, hadb, hcc⟩ := HOS.out (by omega)
      have HAD : Hid (∀ W, Below w.heap.size w W → At6 W (ad.add (k * 6)) r) := Lib.hid (fun W h => (hcc k r hr).keep fun q hq => h.cell (by rw [hq, adb]; exact hadb))
      have CN : Hid (∀ W, Calls Tryd.prog 23 #[.agg #[.int .i64 r.r0, .int .i64 r.r1, .int .i64 r.r2, .int .i64 r.r3, .int .i64 r.r4, .int .i64 r.r5], .string ⟨#[111]⟩] W fun e w' => e = .returned (mv (rmsg ⟨#[111]⟩ r)) ∧ Below W.heap.size W w') := Lib.hid (fun W => rmsg_any r hwr ⟨#[111]⟩ (by decide) W)
      have hmr := rmsg_right ⟨#[111]⟩ r
      have hmd := rmsg_data ⟨#[111]⟩ r
      clear hcc hwr hr
      generalize rmsg ⟨#[111]⟩ r = m at *
      obtain ⟨HH, T2, lg, hE, hH, hT, hG, hrg, hcase⟩ := off_three (anyI m.ext m.n fs) HRF.out hmr
      obtain ⟨A9, c9, hfa, hfi⟩ := HVF.out
      have HFA := Lib.hid hfa
      have HFI := Lib.hid hfi
      have hl32 := right_small' HRF.out
      have HCO : Hid (∀ W, Below wr.heap.size wr W → Calls Tryd.prog 25 #[fiv LQ T A9 lf.length c9, mv m, .slice AF fs.length cf3] W (FiIn LQ T2 lg HH 0 W)) := Lib.hid (fun W h1 => by
        have h := offer_in LQ T A9 c9 lf m AF cf3 fs W (HLW.out.below (HB.out.trans (h1.mono HB.out.size))) (HFI.out.on h1) (by omega) (by omega) (HLI.out.below h1) (by have := HFS.out; omega)
        rw [hE, hH, hT, hG] at h
        exact h)
      have HRG := Lib.hid hrg
      have hlen : (HH = 0 ∧ T2 = T ∧ lg.length = lf.length ∧ lg.take lf.length = lf) ∨ (HH = 1 ∧ T2 = T ∧ lg.length = lf.length + 1 ∧ lg.take lf.length = lf) ∨ (HH = 2 ∧ T2 = min (T + 1) 65535 ∧ lg.length = lf.length ∧ lg.take lf.length = lf) := by
        rcases hcase with ⟨h1, h2, h3, _⟩ | ⟨h1, h2, h3, _, _⟩ | ⟨h1, h2, h3, _, _⟩
        · exact .inl ⟨h1, h2, by rw [h3], by rw [h3, List.take_length]⟩
        · exact .inr (.inl ⟨h1, h2, by rw [h3, List.length_append]; rfl, by rw [h3, List.take_left']; rfl⟩)
        · exact .inr (.inr ⟨h1, h2, by rw [h3], by rw [h3, List.take_length]⟩)
      have HCASE := Lib.hid hlen
      have HTT := Lib.hid ((rightFi_iff _ _ _).1 HRF.out).2.2.1
      have HN2 : Hid (b12 < wr.heap.size ∧ b14 < wr.heap.size) := Lib.hid ⟨hfa.lt, HAR.out.lt⟩
      clear hE hH hT hG hrg hcase hmr hmd hfa hfi hl32 hlen
      obtain ⟨e1, n1x, s1, i1, q1, k1, d1⟩ := m
      obtain ⟨r0, r1, r2, r3, r4, r5⟩ := r
      simp only [mv] at CN HCO
      go_upto_region 8 with (fail)
      have HV : ∃ Vp : Nat → (Nat → Value) → World → Prop, Vp = (fun ix u wv => match ix with
        | 0 => u 0 = .agg #[.int .i64 LQ, .int .i64 T, .slice A9 lf.length c9]
        | 1 => u 1 = .slice (some ad) os.length co
        | 2 => u 2 = .int .i64 (k : Int)
        | 3 => u 3 = .pointer (some (ad.add (k * 6)))
        | 4 => u 4 = .agg #[.int .i64 r0, .int .i64 r1, .int .i64 r2, .int .i64 r3, .int .i64 r4, .int .i64 r5]
        | 5 => u 5 = .agg #[.bool e1, .int .i64 n1x, .int .i64 s1, .int .i64 i1, .int .i64 q1, .int .i64 k1, .string d1]
        | 6 => u 6 = .slice AF fs.length cf3
        | 7 => ∃ A5 c5, u 7 = .tuple #[.agg #[.int .i64 LQ, .int .i64 T2, .slice A5 lg.length c5], .int .i64 HH, .int .i64 0] ∧ QIn wv A5 c5 lg
        | 8 => ∃ A5 c5, u 8 = .tuple #[.agg #[.int .i64 LQ, .int .i64 T2, .slice A5 lg.length c5], .int .i64 HH, .int .i64 0] ∧ QIn wv A5 c5 lg
        | 9 => ∃ A5 c5, u 9 = .agg #[.int .i64 LQ, .int .i64 T2, .slice A5 lg.length c5] ∧ QIn wv A5 c5 lg
        | 10 => u 10 = .int .i64 HH
        | 11 => u 11 = .int .i64 0
        | 12 => ∃ g, u 12 = .pointer (some ⟨g, 0, none⟩) ∧ wr.heap.size ≤ g ∧ FiAt wv g 0 0 none 0 0
        | 13 => ∃ g, u 12 = .pointer (some ⟨g, 0, none⟩) ∧ wr.heap.size ≤ g ∧ FVar wv g LQ T2 lg
        | 14 => u 14 = .int .i64 HH
        | 15 => u 15 = .int .i64 0
        | _ => True) := ⟨_, rfl⟩
      obtain ⟨Vp, hVdef⟩ := HV
      have Vp0 : ∀ u wv, Vp 0 u wv = (u 0 = .agg #[.int .i64 LQ, .int .i64 T, .slice A9 lf.length c9]) := fun u wv => by subst hVdef; rfl
      have Vp1 : ∀ u wv, Vp 1 u wv = (u 1 = .slice (some ad) os.length co) := fun u wv => by subst hVdef; rfl
      have Vp2 : ∀ u wv, Vp 2 u wv = (u 2 = .int .i64 (k : Int)) := fun u wv => by subst hVdef; rfl
      have Vp3 : ∀ u wv, Vp 3 u wv = (u 3 = .pointer (some (ad.add (k * 6)))) := fun u wv => by subst hVdef; rfl
      have Vp4 : ∀ u wv, Vp 4 u wv = (u 4 = .agg #[.int .i64 r0, .int .i64 r1, .int .i64 r2, .int .i64 r3, .int .i64 r4, .int .i64 r5]) := fun u wv => by subst hVdef; rfl
      have Vp5 : ∀ u wv, Vp 5 u wv = (u 5 = .agg #[.bool e1, .int .i64 n1x, .int .i64 s1, .int .i64 i1, .int .i64 q1, .int .i64 k1, .string d1]) := fun u wv => by subst hVdef; rfl
      have Vp6 : ∀ u wv, Vp 6 u wv = (u 6 = .slice AF fs.length cf3) := fun u wv => by subst hVdef; rfl
      have Vp7 : ∀ u wv, Vp 7 u wv = (∃ A5 c5, u 7 = .tuple #[.agg #[.int .i64 LQ, .int .i64 T2, .slice A5 lg.length c5], .int .i64 HH, .int .i64 0] ∧ QIn wv A5 c5 lg) := fun u wv => by subst hVdef; rfl
      have Vp8 : ∀ u wv, Vp 8 u wv = (∃ A5 c5, u 8 = .tuple #[.agg #[.int .i64 LQ, .int .i64 T2, .slice A5 lg.length c5], .int .i64 HH, .int .i64 0] ∧ QIn wv A5 c5 lg) := fun u wv => by subst hVdef; rfl
      have Vp9 : ∀ u wv, Vp 9 u wv = (∃ A5 c5, u 9 = .agg #[.int .i64 LQ, .int .i64 T2, .slice A5 lg.length c5] ∧ QIn wv A5 c5 lg) := fun u wv => by subst hVdef; rfl
      have Vp10 : ∀ u wv, Vp 10 u wv = (u 10 = .int .i64 HH) := fun u wv => by subst hVdef; rfl
      have Vp11 : ∀ u wv, Vp 11 u wv = (u 11 = .int .i64 0) := fun u wv => by subst hVdef; rfl
      have Vp12 : ∀ u wv, Vp 12 u wv = (∃ g, u 12 = .pointer (some ⟨g, 0, none⟩) ∧ wr.heap.size ≤ g ∧ FiAt wv g 0 0 none 0 0) := fun u wv => by subst hVdef; rfl
      have Vp13 : ∀ u wv, Vp 13 u wv = (∃ g, u 12 = .pointer (some ⟨g, 0, none⟩) ∧ wr.heap.size ≤ g ∧ FVar wv g LQ T2 lg) := fun u wv => by subst hVdef; rfl
      have Vp14 : ∀ u wv, Vp 14 u wv = (u 14 = .int .i64 HH) := fun u wv => by subst hVdef; rfl
      have Vp15 : ∀ u wv, Vp 15 u wv = (u 15 = .int .i64 0) := fun u wv => by subst hVdef; rfl
      have HVD := Lib.hid hVdef
      clear hVdef
      refine region_phase (V := Vp) (drop := fun jx ix => (jx == 13 && ix == 12)) (G := fun L wv => Below wr.heap.size wr wv) (Rel := fun jx wv wv' => (jx = 13 ∧ (∃ g x y z, FiAt wv g 0 0 none 0 0 ∧ wv' = ((wv.setCell ⟨g, 0, none⟩ x).setCell ⟨g, 1, none⟩ y).setCell ⟨g, 2, none⟩ z)) ∨ Below wv.heap.size wv wv') (by kernel_rfl) (by kernel_rfl) (Below.refl _ _).drew ?hmonop1 ?hdepp1 ⟨?s0_p1, ?s1_p1, ?s2_p1, ?s3_p1, ?s4_p1, ?s5_p1, ?s6_p1, ?s7_p1, ?s8_p1, ?s9_p1, ?s10_p1, ?s11_p1, ?s12_p1, ?s13_p1, ?s14_p1, ?s15_p1, trivial⟩ ?behindp1
      case hmonop1 =>
        intro ix jx u wv wv' hij hw hd hr
        rw [HVD.out]
        dsimp only
        split <;> intro h <;> first | exact trivial | exact h | (rcases hr with ⟨rfl, hpk⟩ | hb; (focus first | exact absurd rfl hij | (simp at hd; done) | (obtain ⟨A5, c5, e, hi5⟩ := h; obtain ⟨g, x, y, z, hgq, rfl⟩ := hpk; exact ⟨A5, c5, e, hi5.farF hgq x y z⟩) | (exact Bool.noConfusion (hw.symm.trans (show _ = true from by kernel_rfl)))); (first | (obtain ⟨A5, c5, e, hi5⟩ := h; exact ⟨A5, c5, e, hi5.on hb⟩) | (obtain ⟨g, e, hg, hm⟩ := h; exact ⟨g, e, hg, hm.on hb⟩) | (obtain ⟨g, e, hg, hm⟩ := h; exact ⟨g, e, hg, hm.on hb⟩)))
      case hdepp1 =>
        intro ix u u' wv h1 h2
        rw [HVD.out]
        dsimp only
        split <;> intro h <;> first | exact trivial | (rw [← h1]; exact h) | (obtain ⟨g, e, h⟩ := h; exact ⟨g, (h2 12 (by kernel_rfl)).symm.trans e, h⟩) | exact h
      case s0_p1 =>
        refine oweP rfl fun a wx val L hG hi hW hV hN hO K hK => ?_
        have e12 : a.tmps[12]? = some (.pointer (some ⟨b12, 0, none⟩)) := (hO 12 (by kernel_rfl)).trans (by rfl)
        clear hV hN hO
        obtain ⟨v0, v1, v2⟩ := (HFA.out.on hG).cells
        go_simp
        exact hK.out _ _ (by rw [Vp0, upd_at] <;> (congr 1 <;> omega)) (.inr (Below.refl _ _)) (hG)
      case s1_p1 =>
        refine oweP rfl fun a wx val L hG hi hW hV hN hO K hK => ?_
        have e4 : a.tmps[4]? = some (.slice (some ad) os.length co) := (hO 4 (by kernel_rfl)).trans (by rfl)
        clear hV hN hO
        go_simp
        exact hK.out _ _ (by rw [Vp1, upd_at] <;> (congr 1 <;> omega)) (.inr (Below.refl _ _)) (hG)
      case s2_p1 =>
        refine oweP rfl fun a wx val L hG hi hW hV hN hO K hK => ?_
        have e15 : a.tmps[15]? = some (.int .i64 (k : Int)) := (hO 15 (by kernel_rfl)).trans (by rfl)
        clear hV hN hO
        go_simp
        exact hK.out _ _ (by rw [Vp2, upd_at] <;> (congr 1 <;> omega)) (.inr (Below.refl _ _)) (hG)
      case s3_p1 =>
        refine oweP rfl fun a wx val L hG hi hW hV hN hO K hK => ?_
        have e38 := hN 1 38 (by kernel_rfl) (by kernel_rfl) (by simp)
        have f38 := hV 1 (by kernel_rfl) (by kernel_rfl)
        rw [Vp1] at f38; rw [f38] at e38; clear f38
        have e39 := hN 2 39 (by kernel_rfl) (by kernel_rfl) (by simp)
        have f39 := hV 2 (by kernel_rfl) (by kernel_rfl)
        rw [Vp2] at f39; rw [f39] at e39; clear f39
        clear hV hN hO
        go_simp
        exact hK.out _ _ (by rw [Vp3, upd_at] <;> (congr 1 <;> omega)) (.inr (Below.refl _ _)) (hG)
      case s4_p1 =>
        refine oweP rfl fun a wx val L hG hi hW hV hN hO K hK => ?_
        have e40 := hN 3 40 (by kernel_rfl) (by kernel_rfl) (by simp)
        have f40 := hV 3 (by kernel_rfl) (by kernel_rfl)
        rw [Vp3] at f40; rw [f40] at e40; clear f40
        clear hV hN hO
        obtain ⟨x0, x1, x2, x3, x4, x5⟩ := HAD.out _ (HB.out.trans (hG.mono HB.out.size))
        go_simp
        exact hK.out _ _ (by rw [Vp4, upd_at] <;> (congr 1 <;> omega)) (.inr (Below.refl _ _)) (hG)
      case s5_p1 =>
        refine oweP rfl fun a wx val L hG hi hW hV hN hO K hK => ?_
        have e41 := hN 4 41 (by kernel_rfl) (by kernel_rfl) (by simp)
        have f41 := hV 4 (by kernel_rfl) (by kernel_rfl)
        rw [Vp4] at f41; rw [f41] at e41; clear f41
        clear hV hN hO
        go_simp
        refine (CN.out _).mono ?_
        rintro e w11 ⟨rfl, hb⟩
        exact hK.out _ _ (by rw [Vp5, upd_at]) (.inr (hb)) (hG.trans (hb.mono hG.size))
      case s6_p1 =>
        refine oweP rfl fun a wx val L hG hi hW hV hN hO K hK => ?_
        have e13 : a.tmps[13]? = some (.slice AF fs.length cf3) := (hO 13 (by kernel_rfl)).trans (by rfl)
        clear hV hN hO
        go_simp
        exact hK.out _ _ (by rw [Vp6, upd_at] <;> (congr 1 <;> omega)) (.inr (Below.refl _ _)) (hG)
      case s7_p1 =>
        refine oweP rfl fun a wx val L hG hi hW hV hN hO K hK => ?_
        have e37 := hN 0 37 (by kernel_rfl) (by kernel_rfl) (by simp)
        have f37 := hV 0 (by kernel_rfl) (by kernel_rfl)
        rw [Vp0] at f37; rw [f37] at e37; clear f37
        have e42 := hN 5 42 (by kernel_rfl) (by kernel_rfl) (by simp)
        have f42 := hV 5 (by kernel_rfl) (by kernel_rfl)
        rw [Vp5] at f42; rw [f42] at e42; clear f42
        have e43 := hN 6 43 (by kernel_rfl) (by kernel_rfl) (by simp)
        have f43 := hV 6 (by kernel_rfl) (by kernel_rfl)
        rw [Vp6] at f43; rw [f43] at e43; clear f43
        clear hV hN hO
        go_simp
        refine (HCO.out _ hG).mono ?_
        rintro e w11 ⟨A5, c5, rfl, hi5, hb⟩
        exact hK.out _ _ (by rw [Vp7, upd_at]; exact ⟨A5, c5, rfl, hi5⟩) (.inr hb) (hG.trans (hb.mono hG.size))
      case s8_p1 =>
        refine oweP rfl fun a wx val L hG hi hW hV hN hO K hK => ?_
        have e44 := hN 7 44 (by kernel_rfl) (by kernel_rfl) (by simp)
        have f44 := hV 7 (by kernel_rfl) (by kernel_rfl)
        rw [Vp7] at f44; obtain ⟨A5, c5, hv, hi5⟩ := f44; rw [hv] at e44
        clear hV hN hO
        go_simp
        exact hK.out _ _ (by rw [Vp8, upd_at]; exact ⟨A5, c5, rfl, hi5⟩) (.inr (Below.refl _ _)) (hG)
      case s9_p1 =>
        refine oweP rfl fun a wx val L hG hi hW hV hN hO K hK => ?_
        have e36 := hN 8 36 (by kernel_rfl) (by kernel_rfl) (by simp)
        have f36 := hV 8 (by kernel_rfl) (by kernel_rfl)
        rw [Vp8] at f36; obtain ⟨A5, c5, hv, hi5⟩ := f36; rw [hv] at e36
        clear hV hN hO
        go_simp
        exact hK.out _ _ (by rw [Vp9, upd_at]; exact ⟨A5, c5, rfl, hi5⟩) (.inr (Below.refl _ _)) (hG)
      case s10_p1 =>
        refine oweP rfl fun a wx val L hG hi hW hV hN hO K hK => ?_
        have e36 := hN 8 36 (by kernel_rfl) (by kernel_rfl) (by simp)
        have f36 := hV 8 (by kernel_rfl) (by kernel_rfl)
        rw [Vp8] at f36; obtain ⟨A5, c5, hv, hi5⟩ := f36; rw [hv] at e36
        clear hV hN hO
        go_simp
        exact hK.out _ _ (by rw [Vp10, upd_at]) (.inr (Below.refl _ _)) (hG)
      case s11_p1 =>
        refine oweP rfl fun a wx val L hG hi hW hV hN hO K hK => ?_
        have e36 := hN 8 36 (by kernel_rfl) (by kernel_rfl) (by simp)
        have f36 := hV 8 (by kernel_rfl) (by kernel_rfl)
        rw [Vp8] at f36; obtain ⟨A5, c5, hv, hi5⟩ := f36; rw [hv] at e36
        clear hV hN hO
        go_simp
        exact hK.out _ _ (by rw [Vp11, upd_at]) (.inr (Below.refl _ _)) (hG)
      case s12_p1 =>
        refine oweP rfl fun a wx val L hG hi hW hV hN hO K hK => ?_
        clear hV hN hO
        go_simp
        have hb := Joins.below_alloc1 wx (.cells #[.int .i64 0, .int .i64 0, .slice none 0 0] 30)
        exact hK.out _ _ (by rw [Vp12, upd_at]; exact ⟨_, rfl, hG.size, FiAt.new wx 0 0 none 0 0⟩) (.inr hb) (hG.trans (hb.mono hG.size))
      case s13_p1 =>
        refine oweP rfl fun a wx val L hG hi hW hV hN hO K hK => ?_
        have e16 := hN 12 16 (by kernel_rfl) (by kernel_rfl) (by simp)
        have f16 := hV 12 (by kernel_rfl) (by kernel_rfl)
        rw [Vp12] at f16; obtain ⟨g, hva, hg9, hgg⟩ := f16; rw [hva] at e16
        have e45 := hN 9 45 (by kernel_rfl) (by kernel_rfl) (by simp)
        have f45 := hV 9 (by kernel_rfl) (by kernel_rfl)
        rw [Vp9] at f45; obtain ⟨A5, c5, hv, hi5⟩ := f45; rw [hv] at e45
        clear hV hN hO
        obtain ⟨v0, v1, v2⟩ := hgg.cells
        have vf := hgg.frozen
        have hs9 := hG.size
        have hbs := below_set3 hG (b := g) hg9 (.int .i64 LQ) (.int .i64 T2) (.slice A5 lg.length c5)
        have hqn : FVar (set3 wx g (.int .i64 LQ) (.int .i64 T2) (.slice A5 lg.length c5)) g LQ T2 lg := ⟨A5, c5, hgg.set LQ T2 A5 lg.length c5, hi5.farF hgg _ _ _⟩
        have hpk : ∃ g0 x y z, FiAt wx g0 0 0 none 0 0 ∧ (((wx.setCell ⟨g, 0, none⟩ (.int .i64 LQ)).setCell ⟨g, 1, none⟩ (.int .i64 T2)).setCell ⟨g, 2, none⟩ (.slice A5 lg.length c5)) = ((wx.setCell ⟨g0, 0, none⟩ x).setCell ⟨g0, 1, none⟩ y).setCell ⟨g0, 2, none⟩ z := ⟨g, _, _, _, hgg, rfl⟩
        clear hs9
        go_simp
        exact hK.out undef _ (by rw [Vp13, upd_ne _ _ (by decide)]; exact ⟨g, hva, hg9, hqn⟩) (.inl ⟨rfl, hpk⟩) hbs
      case s14_p1 =>
        refine oweP rfl fun a wx val L hG hi hW hV hN hO K hK => ?_
        have e46 := hN 10 46 (by kernel_rfl) (by kernel_rfl) (by simp)
        have f46 := hV 10 (by kernel_rfl) (by kernel_rfl)
        rw [Vp10] at f46; rw [f46] at e46; clear f46
        clear hV hN hO
        go_simp
        exact hK.out _ _ (by rw [Vp14, upd_at] <;> (congr 1 <;> omega)) (.inr (Below.refl _ _)) (hG)
      case s15_p1 =>
        refine oweP rfl fun a wx val L hG hi hW hV hN hO K hK => ?_
        have e47 := hN 11 47 (by kernel_rfl) (by kernel_rfl) (by simp)
        have f47 := hV 11 (by kernel_rfl) (by kernel_rfl)
        rw [Vp11] at f47; rw [f47] at e47; clear f47
        clear hV hN hO
        go_simp
        exact hK.out _ _ (by rw [Vp15, upd_at] <;> (congr 1 <;> omega)) (.inr (Below.refl _ _)) (hG)
      intro val wx L hG hV
      have f0 := hV 0 (by simp) (fun _ _ => by simp)
      rw [Vp0] at f0
      have f1 := hV 1 (by simp) (fun _ _ => by simp)
      rw [Vp1] at f1
      have f2 := hV 2 (by simp) (fun _ _ => by simp)
      rw [Vp2] at f2
      have f3 := hV 3 (by simp) (fun _ _ => by simp)
      rw [Vp3] at f3
      have f4 := hV 4 (by simp) (fun _ _ => by simp)
      rw [Vp4] at f4
      have f5 := hV 5 (by simp) (fun _ _ => by simp)
      rw [Vp5] at f5
      have f6 := hV 6 (by simp) (fun _ _ => by simp)
      rw [Vp6] at f6
      have f7 := hV 7 (by simp) (fun _ _ => by simp)
      rw [Vp7] at f7
      have f8 := hV 8 (by simp) (fun _ _ => by simp)
      rw [Vp8] at f8
      have f9 := hV 9 (by simp) (fun _ _ => by simp)
      rw [Vp9] at f9
      have f10 := hV 10 (by simp) (fun _ _ => by simp)
      rw [Vp10] at f10
      have f11 := hV 11 (by simp) (fun _ _ => by simp)
      rw [Vp11] at f11
      have f13 := hV 13 (by simp) (fun _ _ => by simp)
      rw [Vp13] at f13
      have f14 := hV 14 (by simp) (fun _ _ => by simp)
      rw [Vp14] at f14
      have f15 := hV 15 (by simp) (fun _ _ => by simp)
      rw [Vp15] at f15
      clear hV Vp0 Vp1 Vp2 Vp3 Vp4 Vp5 Vp6 Vp7 Vp8 Vp9 Vp10 Vp11 Vp12 Vp13 Vp14 Vp15
      simp only [putAll, Act.put, List.setIfInBounds_toArray, List.set_cons_zero, List.set_cons_succ]
      generalize val 0 = z0 at *; (subst f0)
      generalize val 1 = z1 at *; (subst f1)
      generalize val 2 = z2 at *; (subst f2)
      generalize val 3 = z3 at *; (subst f3)
      generalize val 4 = z4 at *; (subst f4)
      generalize val 5 = z5 at *; (subst f5)
      generalize val 6 = z6 at *; (subst f6)
      generalize val 7 = z7 at *
      generalize val 8 = z8 at *
      generalize val 9 = z9 at *
      generalize val 10 = z10 at *; (subst f10)
      generalize val 11 = z11 at *; (subst f11)
      generalize val 12 = z12 at *
      generalize val 14 = z14 at *; (subst f14)
      generalize val 15 = z15 at *; (subst f15)
      clear HVD
      obtain ⟨g, hz16, hg16, hqn⟩ := f13
      subst hz16
      have HQN := Lib.hid hqn
      have HFA1 := Lib.hid (HFA.out.on hG)
      have HFI1 := Lib.hid (HFI.out.on hG)
      have HAR1 := Lib.hid (HAR.out.on hG)
      have HLI1 := Lib.hid (HLI.out.below hG)
      have HB1 := Lib.hid (HB.out.trans (hG.mono HB.out.size))
      have HGN : Hid (b12 ≠ g ∧ b14 ≠ g ∧ w.heap.size ≤ g) := Lib.hid ⟨by have := HN2.out; omega, by have := HN2.out; omega, Nat.le_trans HB.out.size hg16⟩
      clear hqn hG CN HCO HAD HFA HFI HAR HLI HB hg16
      obtain ⟨A5, c5, hga, hgi⟩ := HQN.out
      have HGA := Lib.hid hga
      have HGI := Lib.hid hgi
      clear hga hgi HQN
      have hkt0 := run_takeM A5 c5 lg HGI.out.cap lf.length (by rcases HCASE.out with h | h | h <;> omega)
      have htk : lg.take lf.length = lf := by rcases HCASE.out with h | h | h <;> exact h.2.2.2
      rw [htk] at hkt0
      have HSA : Hid (∀ n, Calls Tryd.prog 28 #[.slice A5 lf.length c5, .slice A9 lf.length c9] (wx.drewN n) fun e w' => e = .returned (.bool true) ∧ ∃ m, w' = (wx.drewN n).drewN m) := Lib.hid (fun n => by
        have hd := below_drewN (Below.refl wx.heap.size wx) n
        have h1 := ((HGI.out.on hd).msgs.front lf.length)
        rw [htk] at h1
        have h := same_any A5 A9 c5 c9 _ _ lf lf (wx.drewN n) h1 (HFI1.out.on hd).msgs (by have := HFI1.out.few; unfold maxLen; omega)
        rw [(sameL_iff _ _).2 rfl] at h
        exact h)
      have hsz : ((lg.length : Nat) = lg.length) := rfl
      clear hsz htk
      obtain ⟨nf, hnf⟩ : ∃ nf : Nat, nf = lf.length := ⟨_, rfl⟩
      obtain ⟨ng, hng⟩ : ∃ ng : Nat, ng = lg.length := ⟨_, rfl⟩
      have HNF2 := Lib.hid hnf
      have HNG2 := Lib.hid hng
      have hnf32 : nf ≤ 200 := by rw [hnf]; exact HFI1.out.few
      rw [← hnf, ← hng] at hkt0
      rw [← hnf] at HSA
      obtain ⟨y0, y1, y2⟩ := HFA1.out.cells
      obtain ⟨z0, z1, z2⟩ := HGA.out.cells
      rw [← hnf] at y2
      rw [← hng] at z2
      rcases HCASE.out with ⟨h1, h2, h3, -⟩ | ⟨h1, h2, h3, -⟩ | ⟨h1, h2, h3, -⟩
      · subst h1
        have hng2 : (ng : Int) = (nf : Int) := by omega
        have hnl : ¬ (ng : Int) < (nf : Int) := by omega
        skip
        have HNN : Hid ((nf : Int) = (ng : Int)) := Lib.hid hng2.symm
        have hmt : min T 65535 = T := by have := HTT.out; omega
        have hwt : IntKind.i64.wrap (T + 0) = T := by rw [Int.add_zero]; exact IntWalk.i64_in _ (by have := HTT.out; omega)
        have hwt2 : IntKind.i64.wrap T = T := IntWalk.i64_in _ (by have := HTT.out; omega)
        have hwk : IntKind.i64.wrap ((n0 : Int) + 1) = (n0 : Int) + 1 := IntWalk.i64_in _ (by have := HSUM.out; omega)
        have h2s := h2.symm
        clear h2
        subst h2s
        clear hng hnf h3 hng2
        skip
        go_upto_region 9 with (fail)
        go_quiet ((go_at_call 28; exact Calls.quiet_of (HSA.out _)))
        go_upto_region 11 with (fail)
        have HFA2 := Lib.hid (HFA1.out.on (below_drewN (Below.refl _ wx) nq))
        have HFI2 := Lib.hid (HFI1.out.on (below_drewN (Below.refl _ wx) nq))
        have HGA2 := Lib.hid (HGA.out.on (below_drewN (Below.refl _ wx) nq))
        have HGI2 := Lib.hid (HGI.out.on (below_drewN (Below.refl _ wx) nq))
        have HAR2 := Lib.hid (HAR1.out.on (below_drewN (Below.refl _ wx) nq))
        have HLI2 := Lib.hid (HLI1.out.below (below_drewN (Below.refl _ wx) nq))
        have HB2 := Lib.hid (below_drewN HB1.out nq)
        clear y0 y1 y2 z0 z1 z2 hkt0 HSA HFA1 HFI1 HGA HGI HAR1 HLI1 HB1
        generalize wx.drewN nq = W5 at *
        obtain ⟨y0, y1, y2⟩ := HFA2.out.cells
        obtain ⟨z0, z1, z2⟩ := HGA2.out.cells
        rw [← HNF2.out] at y2
        rw [← HNG2.out] at z2
        have hwn0 : (nf : Int) = (ng : Int) := HNN.out
        go_upto_region 13 with (fail)
        clear y0 y1 y2 z0 z1 z2
        obtain ⟨v0, v1, v2⟩ := HAR2.out.cells
        have vf := HAR2.out.frozen
        have HAR3 := Lib.hid (HAR2.out.set0 ((n0 : Int) + 1))
        have HGI3 := Lib.hid (HGI2.out.farT (i := 0) HAR2.out (.int .i64 ((n0 : Int) + 1)))
        have HGA3 := Lib.hid (HGA2.out.cell1 (b := b14) (i := 0) (fun e => HGN.out.2.1 e.symm) (.int .i64 ((n0 : Int) + 1)))
        have HFA3 := Lib.hid (HFA2.out.cell1 (b := b14) (i := 0) HN4.out (.int .i64 ((n0 : Int) + 1)))
        have HLI3 := Lib.hid (HLI2.out.far (b := b14) (i := 0) HNG.out (.int .i64 ((n0 : Int) + 1)))
        have HB3 := Lib.hid (HB2.out.setCell (p := ⟨b14, 0, none⟩) HS14.out (.int .i64 ((n0 : Int) + 1)))
        clear HFA2 HFI2 HGA2 HGI2 HAR2 HLI2 HB2
        go_upto_region 14 with (fail)
        generalize W5.setCell ⟨b14, 0, none⟩ (.int .i64 ((n0 : Int) + 1)) = W6 at *
        clear v0 v1 v2 vf
        obtain ⟨y0, y1, y2⟩ := HFA3.out.cells
        have yf := HFA3.out.frozen
        obtain ⟨z0, z1, z2⟩ := HGA3.out.cells
        have HRL : Hid (FVar (set3 W6 b12 (.int .i64 LQ) (.int .i64 T) (.slice A5 lg.length c5)) b12 LQ (T) lg ∧ ThreeAt (set3 W6 b12 (.int .i64 LQ) (.int .i64 T) (.slice A5 lg.length c5)) b14 ((n0 : Int) + 1) (n1 : Int) (n2 : Int) ∧ LieIn (set3 W6 b12 (.int .i64 LQ) (.int .i64 T) (.slice A5 lg.length c5)) AF fs ∧ Below w.heap.size w (set3 W6 b12 (.int .i64 LQ) (.int .i64 T) (.slice A5 lg.length c5))) := Lib.hid ⟨⟨A5, c5, HFA3.out.set LQ (T) A5 lg.length c5, HGI3.out.farF HFA3.out _ _ _⟩, HAR3.out.put3 (fun e => HN4.out e.symm) _ _ _, HLI3.out.far3 HNF.out _ _ _, below_set3 HB3.out HS8.out _ _ _⟩
        clear hwk hwn0
        go_wp2_with fail
        go_roundw
        case rel => exact ⟨k + 1, by omega, by omega, by go_num, ⟨_, lg, HRL.out.1, HRG.out⟩, ⟨n0 + 1, n1, n2, by have h := HRL.out.2.1; rwa [show (n0 : Int) + 1 = ((n0 + 1 : Nat) : Int) by omega] at h, by have := HSUM.out; omega⟩, HRL.out.2.2.1, HRL.out.2.2.2⟩
        case measure => simp [intOf]; omega
      · subst h1
        have hng2 : (ng : Int) = (nf : Int) + 1 := by omega
        have hnl : ¬ (ng : Int) < (nf : Int) := by omega
        have hwn : IntKind.i64.wrap ((nf : Int) + 1) = (ng : Int) := by rw [hng2]; exact IntWalk.i64_in _ (by omega)
        have hmt : min T 65535 = T := by have := HTT.out; omega
        have hwt : IntKind.i64.wrap (T + 0) = T := by rw [Int.add_zero]; exact IntWalk.i64_in _ (by have := HTT.out; omega)
        have hwt2 : IntKind.i64.wrap T = T := IntWalk.i64_in _ (by have := HTT.out; omega)
        have hwk : IntKind.i64.wrap ((n1 : Int) + 1) = (n1 : Int) + 1 := IntWalk.i64_in _ (by have := HSUM.out; omega)
        have h2s := h2.symm
        clear h2
        subst h2s
        clear hng hnf h3 hng2
        skip
        go_upto_region 9 with (fail)
        go_quiet ((go_at_call 28; exact Calls.quiet_of (HSA.out _)))
        go_upto_region 11 with (fail)
        have HFA2 := Lib.hid (HFA1.out.on (below_drewN (Below.refl _ wx) nq))
        have HFI2 := Lib.hid (HFI1.out.on (below_drewN (Below.refl _ wx) nq))
        have HGA2 := Lib.hid (HGA.out.on (below_drewN (Below.refl _ wx) nq))
        have HGI2 := Lib.hid (HGI.out.on (below_drewN (Below.refl _ wx) nq))
        have HAR2 := Lib.hid (HAR1.out.on (below_drewN (Below.refl _ wx) nq))
        have HLI2 := Lib.hid (HLI1.out.below (below_drewN (Below.refl _ wx) nq))
        have HB2 := Lib.hid (below_drewN HB1.out nq)
        clear y0 y1 y2 z0 z1 z2 hkt0 HSA HFA1 HFI1 HGA HGI HAR1 HLI1 HB1
        generalize wx.drewN nq = W5 at *
        obtain ⟨y0, y1, y2⟩ := HFA2.out.cells
        obtain ⟨z0, z1, z2⟩ := HGA2.out.cells
        rw [← HNF2.out] at y2
        rw [← HNG2.out] at z2
        go_upto_region 13 with (fail)
        clear y0 y1 y2 z0 z1 z2
        obtain ⟨v0, v1, v2⟩ := HAR2.out.cells
        have vf := HAR2.out.frozen
        have HAR3 := Lib.hid (HAR2.out.set1 ((n1 : Int) + 1))
        have HGI3 := Lib.hid (HGI2.out.farT (i := 1) HAR2.out (.int .i64 ((n1 : Int) + 1)))
        have HGA3 := Lib.hid (HGA2.out.cell1 (b := b14) (i := 1) (fun e => HGN.out.2.1 e.symm) (.int .i64 ((n1 : Int) + 1)))
        have HFA3 := Lib.hid (HFA2.out.cell1 (b := b14) (i := 1) HN4.out (.int .i64 ((n1 : Int) + 1)))
        have HLI3 := Lib.hid (HLI2.out.far (b := b14) (i := 1) HNG.out (.int .i64 ((n1 : Int) + 1)))
        have HB3 := Lib.hid (HB2.out.setCell (p := ⟨b14, 1, none⟩) HS14.out (.int .i64 ((n1 : Int) + 1)))
        clear HFA2 HFI2 HGA2 HGI2 HAR2 HLI2 HB2
        go_upto_region 14 with (fail)
        generalize W5.setCell ⟨b14, 1, none⟩ (.int .i64 ((n1 : Int) + 1)) = W6 at *
        clear v0 v1 v2 vf
        obtain ⟨y0, y1, y2⟩ := HFA3.out.cells
        have yf := HFA3.out.frozen
        obtain ⟨z0, z1, z2⟩ := HGA3.out.cells
        have HRL : Hid (FVar (set3 W6 b12 (.int .i64 LQ) (.int .i64 T) (.slice A5 lg.length c5)) b12 LQ (T) lg ∧ ThreeAt (set3 W6 b12 (.int .i64 LQ) (.int .i64 T) (.slice A5 lg.length c5)) b14 (n0 : Int) ((n1 : Int) + 1) (n2 : Int) ∧ LieIn (set3 W6 b12 (.int .i64 LQ) (.int .i64 T) (.slice A5 lg.length c5)) AF fs ∧ Below w.heap.size w (set3 W6 b12 (.int .i64 LQ) (.int .i64 T) (.slice A5 lg.length c5))) := Lib.hid ⟨⟨A5, c5, HFA3.out.set LQ (T) A5 lg.length c5, HGI3.out.farF HFA3.out _ _ _⟩, HAR3.out.put3 (fun e => HN4.out e.symm) _ _ _, HLI3.out.far3 HNF.out _ _ _, below_set3 HB3.out HS8.out _ _ _⟩
        clear hwn hwk
        go_wp2_with fail
        go_roundw
        case rel => exact ⟨k + 1, by omega, by omega, by go_num, ⟨_, lg, HRL.out.1, HRG.out⟩, ⟨n0, n1 + 1, n2, by have h := HRL.out.2.1; rwa [show (n1 : Int) + 1 = ((n1 + 1 : Nat) : Int) by omega] at h, by have := HSUM.out; omega⟩, HRL.out.2.2.1, HRL.out.2.2.2⟩
        case measure => simp [intOf]; omega
      · subst h1
        have hng2 : (ng : Int) = (nf : Int) := by omega
        have hnl : ¬ (ng : Int) < (nf : Int) := by omega
        skip
        have HNN : Hid ((nf : Int) = (ng : Int)) := Lib.hid hng2.symm
        have hwt : IntKind.i64.wrap (T + 1) = T + 1 := IntWalk.i64_in _ (by have := HTT.out; omega)
        have hwk : IntKind.i64.wrap ((n2 : Int) + 1) = (n2 : Int) + 1 := IntWalk.i64_in _ (by have := HSUM.out; omega)
        have h2s := h2.symm
        clear h2
        subst h2s
        clear hng hnf h3 hng2
        skip
        go_upto_region 9 with (fail)
        go_quiet ((go_at_call 28; exact Calls.quiet_of (HSA.out _)))
        go_upto_region 11 with (fail)
        have HFA2 := Lib.hid (HFA1.out.on (below_drewN (Below.refl _ wx) nq))
        have HFI2 := Lib.hid (HFI1.out.on (below_drewN (Below.refl _ wx) nq))
        have HGA2 := Lib.hid (HGA.out.on (below_drewN (Below.refl _ wx) nq))
        have HGI2 := Lib.hid (HGI.out.on (below_drewN (Below.refl _ wx) nq))
        have HAR2 := Lib.hid (HAR1.out.on (below_drewN (Below.refl _ wx) nq))
        have HLI2 := Lib.hid (HLI1.out.below (below_drewN (Below.refl _ wx) nq))
        have HB2 := Lib.hid (below_drewN HB1.out nq)
        clear y0 y1 y2 z0 z1 z2 hkt0 HSA HFA1 HFI1 HGA HGI HAR1 HLI1 HB1
        generalize wx.drewN nq = W5 at *
        obtain ⟨y0, y1, y2⟩ := HFA2.out.cells
        obtain ⟨z0, z1, z2⟩ := HGA2.out.cells
        rw [← HNF2.out] at y2
        rw [← HNG2.out] at z2
        have hwn0 : (nf : Int) = (ng : Int) := HNN.out
        go_upto_region 13 with (fail)
        clear y0 y1 y2 z0 z1 z2
        obtain ⟨v0, v1, v2⟩ := HAR2.out.cells
        have vf := HAR2.out.frozen
        have HAR3 := Lib.hid (HAR2.out.set2 ((n2 : Int) + 1))
        have HGI3 := Lib.hid (HGI2.out.farT (i := 2) HAR2.out (.int .i64 ((n2 : Int) + 1)))
        have HGA3 := Lib.hid (HGA2.out.cell1 (b := b14) (i := 2) (fun e => HGN.out.2.1 e.symm) (.int .i64 ((n2 : Int) + 1)))
        have HFA3 := Lib.hid (HFA2.out.cell1 (b := b14) (i := 2) HN4.out (.int .i64 ((n2 : Int) + 1)))
        have HLI3 := Lib.hid (HLI2.out.far (b := b14) (i := 2) HNG.out (.int .i64 ((n2 : Int) + 1)))
        have HB3 := Lib.hid (HB2.out.setCell (p := ⟨b14, 2, none⟩) HS14.out (.int .i64 ((n2 : Int) + 1)))
        clear HFA2 HFI2 HGA2 HGI2 HAR2 HLI2 HB2
        go_upto_region 14 with (fail)
        generalize W5.setCell ⟨b14, 2, none⟩ (.int .i64 ((n2 : Int) + 1)) = W6 at *
        clear v0 v1 v2 vf
        obtain ⟨y0, y1, y2⟩ := HFA3.out.cells
        have yf := HFA3.out.frozen
        obtain ⟨z0, z1, z2⟩ := HGA3.out.cells
        have HRL : Hid (FVar (set3 W6 b12 (.int .i64 LQ) (.int .i64 (min (T + 1) 65535)) (.slice A5 lg.length c5)) b12 LQ ((min (T + 1) 65535)) lg ∧ ThreeAt (set3 W6 b12 (.int .i64 LQ) (.int .i64 (min (T + 1) 65535)) (.slice A5 lg.length c5)) b14 (n0 : Int) (n1 : Int) ((n2 : Int) + 1) ∧ LieIn (set3 W6 b12 (.int .i64 LQ) (.int .i64 (min (T + 1) 65535)) (.slice A5 lg.length c5)) AF fs ∧ Below w.heap.size w (set3 W6 b12 (.int .i64 LQ) (.int .i64 (min (T + 1) 65535)) (.slice A5 lg.length c5))) := Lib.hid ⟨⟨A5, c5, HFA3.out.set LQ ((min (T + 1) 65535)) A5 lg.length c5, HGI3.out.farF HFA3.out _ _ _⟩, HAR3.out.put3 (fun e => HN4.out e.symm) _ _ _, HLI3.out.far3 HNF.out _ _ _, below_set3 HB3.out HS8.out _ _ _⟩
        clear hwk hwn0
        go_wp2_with fail
        go_roundw
        case rel => exact ⟨k + 1, by omega, by omega, by go_num, ⟨_, lg, HRL.out.1, HRG.out⟩, ⟨n0, n1, n2 + 1, by have h := HRL.out.2.1; rwa [show (n2 : Int) + 1 = ((n2 + 1 : Nat) : Int) by omega] at h, by have := HSUM.out; omega⟩, HRL.out.2.2.1, HRL.out.2.2.2⟩
        case measure => simp [intOf]; omega
    · obtain ⟨v0, v1, v2⟩ := HAR.out.cells
      obtain ⟨A9, c9, hfa, hfi⟩ := HVF.out
      obtain ⟨y0, y1, y2⟩ := hfa.cells
      have hkk : k = KN := by rw [HKN.out]; omega
      have HKE : Hid (n0 + n1 + n2 = KN) := Lib.hid (by rw [HSUM.out, hkk])
      have hmn : min (os.length : Int) 30 = (KN : Int) := by rw [HKN.out]; omega
      have hw1 : IntKind.i64.wrap ((n0 : Int) + n1) = (n0 : Int) + n1 := IntWalk.i64_in _ (by have := HKE.out; omega)
      have hw2 : IntKind.i64.wrap ((n0 : Int) + n1 + n2) = (KN : Int) := by rw [show (n0 : Int) + n1 + n2 = KN by have := HKE.out; omega]; exact IntWalk.i64_in _ (by have := HKN.out; omega)
      have cr := rightFi_any LQ T A9 c9 lf wr (HLW.out.below HB.out) hfi
      rw [HRF.out] at cr
      by_cases hlt : (k : Int) < (os.length : Int)
      · have hlt30I : ¬ (k : Int) < 30 := fun h => hgo ⟨by omega, by omega⟩
        clear hgo hfa hfi hkk
        go_wp2_with fail; refine cr.mono ?_; rintro e w9 ⟨rfl, b9⟩
        have HZ := Lib.hid (HB.out.trans (b9.mono HB.out.size))
        clear b9 cr
        go_wp2_with fail
        go_ret
        exact ⟨rfl, HZ.out⟩
      · clear hgo hfa hfi hkk
        go_wp2_with fail; refine cr.mono ?_; rintro e w9 ⟨rfl, b9⟩
        have HZ := Lib.hid (HB.out.trans (b9.mono HB.out.size))
        clear b9 cr
        go_wp2_with fail
        go_ret
        exact ⟨rfl, HZ.out⟩

end Go.Proofs.YtehajmockicilaaDoor

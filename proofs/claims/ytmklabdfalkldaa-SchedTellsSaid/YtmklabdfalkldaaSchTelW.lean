/-
  The law SchedTells, whole.
-/
import Derived.Test.YtmklabdfalkldaaSchTelR
import Derived.Deep.DeepCutAuto
import Derived.Test.YtmklabdfalkldaaOncePhase
namespace Go.Proofs.Ytmklabdfalkldaa
open Go.RowKit

set_option maxRecDepth 100000 in
set_option maxHeartbeats 64000000 in
theorem schedTells_walk (a0 : Int) (A1 : Option Addr) (c1 : Nat) (l1 : List Int) (a2 a3 : Int) (Ao : Option Addr) (co : Nat) (Co : Int) (lo : Pl) (a5 : Int) (s : Spot) (a7 : Int) (w0 : (Lit.int .i64 a0).wf = true) (w2 : (Lit.int .i64 a2).wf = true) (w3 : (Lit.int .i64 a3).wf = true) (w5 : (Lit.int .i64 a5).wf = true) (w7 : (Lit.int .i64 a7).wf = true) (w : World) (f1 : IntsOk w A1 c1 l1) (fo : Sls w w.heap.size Ao lo) (hlo : lo.length ≤ maxLen) :
    Calls Try.prog 3 #[.int .i64 a0, .slice A1 l1.length c1, .int .i64 a2, .int .i64 a3, pv Ao lo.length co Co, .int .i64 a5, sv s, .int .i64 a7] w fun e w' => e = .returned (.bool true) ∧ Below w.heap.size w w' := by
  obtain ⟨l, C, hR, -, cpl⟩ := raw_plan a0 a2 a3 w0 w2 w3 A1 c1 l1 w f1
  have hl := rightS_len hR
  have CP := Lib.hid cpl; clear cpl
  have P17 := Lib.hid (fun W => pick8_any a5 17 w5 (by omega) W)
  have P40 := Lib.hid (fun W => pick8_any a5 1099511627776 w5 (by omega) W)
  have P100 := Lib.hid (fun W => pick8_any a7 100 w7 (by omega) W)
  have r17 := pickI_range a5 17 (by omega)
  have g17 : IntKind.i64.wrap (pickI a5 17 - 1) = pickI a5 17 - 1 := IntWalk.i64_in _ (by omega)
  generalize pickI a5 17 = p17 at *
  generalize pickI a5 1099511627776 = p40 at *
  generalize pickI a7 100 = p100 at *
  have hbb := Joins.below_alloc2 w (.cells #[.slice Ao lo.length co, .int .i64 Co] 25) (.cells #[.int .i64 s.cyc, .int .i64 s.rnd, .int .i64 s.slt, .int .i64 s.tck] 27)
  have hpo := (PlAt.new w Ao lo.length co Co).on (Joins.below_alloc1 _ (.cells #[.int .i64 s.cyc, .int .i64 s.rnd, .int .i64 s.slt, .int .i64 s.tck] 27))
  have hso := SpAt.new (w.alloc (.cells #[.slice Ao lo.length co, .int .i64 Co] 25)) s
  rw [World.size_alloc] at hso
  have hs0 := (fo.below hbb (Nat.le_refl _)).more hbb.size
  obtain ⟨s1, s2, s3, s4⟩ := s
  simp only at *
  obtain ⟨W0, hW0⟩ : ∃ W0, W0 = (w.alloc (.cells #[.slice Ao lo.length co, .int .i64 Co] 25)).alloc (.cells #[.int .i64 s1, .int .i64 s2, .int .i64 s3, .int .i64 s4] 27) := ⟨_, rfl⟩
  go_enter Try.func3, Try.ntmps3
  go_upto_region 1 with fail
  rw [← hW0] at hbb hpo hso hs0
  rw [← hW0]
  clear hW0
  have HB0 := Lib.hid hbb; clear hbb
  have HO0 : Hid (Has W0 w.heap.size Ao co Co lo) := Lib.hid ⟨hpo, hs0⟩
  have HS0 := Lib.hid hso
  clear hpo hso hs0 fo
  obtain ⟨bo, hbo⟩ : ∃ b, w.heap.size = b := ⟨_, rfl⟩
  have HBO := Lib.hid hbo
  rw [hbo] at HO0 HS0 ⊢
  clear hbo
  go_wp2_with fail; refine (awake_any _).mono ?_; rintro e wa ⟨rfl, ba⟩
  have HOa := Lib.hid (HO0.out.on ba)
  have HSa := Lib.hid (HS0.out.on ba)
  have HBa := Lib.hid (HB0.out.trans (ba.mono HB0.out.size))
  clear ba HO0 HS0 HB0
  obtain ⟨y0, y1⟩ := HOa.out.pl.cells
  by_cases hg : (20 : Int) < lo.length
  · go_wp2_with fail
    go_ret
    exact ⟨rfl, by rw [HBO.out] at *; exact HBa.out⟩
  · have hl20 : lo.length ≤ 20 := by omega
    go_wp2_with fail; refine (CP.out _ (by rw [HBO.out] at *; exact HBa.out)).mono ?_; rintro e wb ⟨A, c, rfl, ho, bb⟩
    have hs1 := ho.slice.2
    have hh := Has.new (c := c) (C := C) hs1
    have hb1 := Joins.below_alloc1 wb (.cells #[.slice A l.length c, .int .i64 C] 25)
    go_upto_region 5 with fail
    have HH := Lib.hid hh
    have HOc := Lib.hid ((HOa.out.on bb).on hb1)
    have HSc := Lib.hid ((HSa.out.on bb).on hb1)
    have HBc := Lib.hid ((HBa.out.trans (bb.mono HBa.out.size)).trans (hb1.mono (HBa.out.trans (bb.mono HBa.out.size)).size))
    obtain ⟨b, hb⟩ : ∃ b, wb.heap.size = b := ⟨_, rfl⟩
    rw [hb] at HH ⊢
    clear hh hb1 hs1 ho bb HOa HSa HBa y0 y1
    generalize wb.alloc (.cells #[.slice A l.length c, .int .i64 C] 25) = wc at *
    clear hb
    have hsz1 : l.length + lo.length ≤ 1000 := by omega
    obtain ⟨zl, hzl⟩ : ∃ zl, l ++ lo = zl := ⟨_, rfl⟩
    have HZL := Lib.hid hzl; clear hzl
    obtain ⟨zn, hzn⟩ : ∃ zn : Nat, zl.length = zn := ⟨_, rfl⟩
    have HZN := Lib.hid hzn; clear hzn
    have HV : ∃ Vp : Nat → (Nat → Value) → World → Prop, Vp = (fun ix u wv => match ix with
      | 0 => u 0 = .pointer (some ⟨b, 0, none⟩)
      | 1 => u 1 = .slice A l.length c
      | 2 => ∃ A9 c9, u 2 = .slice A9 l.length c9 ∧ OwnL wv wc.heap.size (.slice A9 l.length c9) l
      | 3 => u 3 = .pointer (some ⟨bo, 0, none⟩)
      | 4 => u 4 = .slice Ao lo.length co
      | 5 => ∃ A9 c9, u 5 = .slice A9 zn c9 ∧ OwnL wv wc.heap.size (.slice A9 zn c9) zl
      | 6 => u 6 = .pointer (some ⟨bo, 1, none⟩)
      | 7 => u 7 = .int .i64 Co
      | 8 => ∃ A9 c9, u 5 = .slice A9 zn c9 ∧ u 8 = .agg #[.slice A9 zn c9, .int .i64 Co]
      | 9 => ∃ g, u 9 = .pointer (some ⟨g, 0, none⟩) ∧ wc.heap.size ≤ g ∧ BoxP wv g (.slice none 0 0) 0
      | 10 => ∃ g, u 9 = .pointer (some ⟨g, 0, none⟩) ∧ ∃ A9 c9, u 8 = .agg #[.slice A9 zn c9, .int .i64 Co] ∧ BoxP wv g (.slice A9 zn c9) Co
      | _ => True) := ⟨_, rfl⟩
    obtain ⟨Vp, hVdef⟩ := HV
    have Vp0 : ∀ u wv, Vp 0 u wv = (u 0 = .pointer (some ⟨b, 0, none⟩)) := fun u wv => by subst hVdef; rfl
    have Vp1 : ∀ u wv, Vp 1 u wv = (u 1 = .slice A l.length c) := fun u wv => by subst hVdef; rfl
    have Vp2 : ∀ u wv, Vp 2 u wv = (∃ A9 c9, u 2 = .slice A9 l.length c9 ∧ OwnL wv wc.heap.size (.slice A9 l.length c9) l) := fun u wv => by subst hVdef; rfl
    have Vp3 : ∀ u wv, Vp 3 u wv = (u 3 = .pointer (some ⟨bo, 0, none⟩)) := fun u wv => by subst hVdef; rfl
    have Vp4 : ∀ u wv, Vp 4 u wv = (u 4 = .slice Ao lo.length co) := fun u wv => by subst hVdef; rfl
    have Vp5 : ∀ u wv, Vp 5 u wv = (∃ A9 c9, u 5 = .slice A9 zn c9 ∧ OwnL wv wc.heap.size (.slice A9 zn c9) zl) := fun u wv => by subst hVdef; rfl
    have Vp6 : ∀ u wv, Vp 6 u wv = (u 6 = .pointer (some ⟨bo, 1, none⟩)) := fun u wv => by subst hVdef; rfl
    have Vp7 : ∀ u wv, Vp 7 u wv = (u 7 = .int .i64 Co) := fun u wv => by subst hVdef; rfl
    have Vp8 : ∀ u wv, Vp 8 u wv = (∃ A9 c9, u 5 = .slice A9 zn c9 ∧ u 8 = .agg #[.slice A9 zn c9, .int .i64 Co]) := fun u wv => by subst hVdef; rfl
    have Vp9 : ∀ u wv, Vp 9 u wv = (∃ g, u 9 = .pointer (some ⟨g, 0, none⟩) ∧ wc.heap.size ≤ g ∧ BoxP wv g (.slice none 0 0) 0) := fun u wv => by subst hVdef; rfl
    have Vp10 : ∀ u wv, Vp 10 u wv = (∃ g, u 9 = .pointer (some ⟨g, 0, none⟩) ∧ ∃ A9 c9, u 8 = .agg #[.slice A9 zn c9, .int .i64 Co] ∧ BoxP wv g (.slice A9 zn c9) Co) := fun u wv => by subst hVdef; rfl
    have HVD := Lib.hid hVdef
    clear hVdef
    refine region_phase (V := Vp) (drop := fun jx ix => (jx == 5 && ix == 2) || (jx == 10 && ix == 9)) (G := fun L wv => Below wc.heap.size wc wv) (Rel := fun jx wv wv' => (jx = 5 ∧ (∀ (b : Nat) (cs : Array Value), wv.heap[b]? = some (.cells cs 25 (0, 0)) → wv'.heap[b]? = wv.heap[b]?)) ∨ (jx = 10 ∧ (∀ (b : Nat) (cs : Array Value), wv.heap[b]? = some (.cells cs 45 (0, 0)) → wv'.heap[b]? = wv.heap[b]?)) ∨ Below wv.heap.size wv wv') (by kernel_rfl) (by kernel_rfl) (Below.refl _ _).drew ?hmonop1 ?hdepp1 ⟨?s0_p1, ?s1_p1, ?s2_p1, ?s3_p1, ?s4_p1, ?s5_p1, ?s6_p1, ?s7_p1, ?s8_p1, ?s9_p1, ?s10_p1, trivial⟩ ?behindp1
    case hmonop1 =>
      intro ix jx u wv wv' hij hw hd hr
      rw [HVD.out]
      dsimp only
      split <;> intro h <;> first | exact trivial | exact h | (rcases hr with ⟨rfl, hpk⟩ | ⟨rfl, hpk⟩ | hb; (focus first | exact absurd rfl hij | (simp at hd; done) | (obtain ⟨g, e, hg, hm⟩ := h; exact ⟨g, e, hg, (hpk _ _ hm).trans hm⟩) | (obtain ⟨g, e, A9, c9, e2, hm⟩ := h; exact ⟨g, e, A9, c9, e2, (hpk _ _ hm).trans hm⟩) | (obtain ⟨A9, c9, e, ho⟩ := h; exact ⟨A9, c9, e, own_kept ho hpk⟩) | (exact Bool.noConfusion (hw.symm.trans (show _ = true from by kernel_rfl)))); (focus first | exact absurd rfl hij | (simp at hd; done) | (obtain ⟨g, e, hg, hm⟩ := h; exact ⟨g, e, hg, (hpk _ _ hm).trans hm⟩) | (obtain ⟨g, e, A9, c9, e2, hm⟩ := h; exact ⟨g, e, A9, c9, e2, (hpk _ _ hm).trans hm⟩) | (obtain ⟨A9, c9, e, ho⟩ := h; exact ⟨A9, c9, e, own_kept ho hpk⟩) | (exact Bool.noConfusion (hw.symm.trans (show _ = true from by kernel_rfl)))); (first | (obtain ⟨g, e, hg, hm⟩ := h; exact ⟨g, e, hg, hm.on hb⟩) | (obtain ⟨g, e, A9, c9, e2, hm⟩ := h; exact ⟨g, e, A9, c9, e2, hm.on hb⟩) | (obtain ⟨A9, c9, e, ho⟩ := h; exact ⟨A9, c9, e, ownsRow_on ho hb⟩)))
    case hdepp1 =>
      intro ix u u' wv h1 h2
      rw [HVD.out]
      dsimp only
      split <;> intro h <;> first | exact trivial | (rw [← h1]; exact h) | (obtain ⟨A9, c9, e, e2⟩ := h; exact ⟨A9, c9, (h2 5 (by kernel_rfl)).symm.trans e, h1.symm.trans e2⟩) | (obtain ⟨g, e, A9, c9, e2, hbx⟩ := h; exact ⟨g, (h2 9 (by kernel_rfl)).symm.trans e, A9, c9, (h2 8 (by kernel_rfl)).symm.trans e2, hbx⟩) | exact h
    case s0_p1 =>
      refine oweP rfl fun a wx val L hG hi hW hV hN hO K hK => ?_
      have e18 : a.tmps[18]? = some (.pointer (some ⟨b, 0, none⟩)) := (hO 18 (by kernel_rfl)).trans (by rfl)
      clear hV hN hO
      go_simp
      exact hK.out _ _ (by rw [Vp0, upd_at] <;> (congr 1 <;> omega)) (.inr (.inr (Below.refl _ _))) (hG)
    case s1_p1 =>
      refine oweP rfl fun a wx val L hG hi hW hV hN hO K hK => ?_
      have e59 := hN 0 59 (by kernel_rfl) (by kernel_rfl) (by simp)
      have f59 := hV 0 (by kernel_rfl) (by kernel_rfl)
      rw [Vp0] at f59; rw [f59] at e59; clear f59
      clear hV hN hO
      obtain ⟨y0, y1⟩ := (HH.out.on hG).pl.cells
      go_simp
      exact hK.out _ _ (by rw [Vp1, upd_at] <;> (congr 1 <;> omega)) (.inr (.inr (Below.refl _ _))) (hG)
    case s2_p1 =>
      refine oweP rfl fun a wx val L hG hi hW hV hN hO K hK => ?_
      have e60 := hN 1 60 (by kernel_rfl) (by kernel_rfl) (by simp)
      have f60 := hV 1 (by kernel_rfl) (by kernel_rfl)
      rw [Vp1] at f60; rw [f60] at e60; clear f60
      clear hV hN hO
      refine wp_appA (.const (.slice none 0 0)) (.tmp 60) rfl wc.heap.size wx.heap.size (.slice none 0 0) [] l A c (by simp [Act.eval]) (by simp [Act.eval, e60]) (OwnL.nil _ _) (HH.out.on hG).sl hG.size (by simp; omega) ?_
      intro u' w5 hown5 hg5
      rw [List.nil_append] at hown5
      obtain ⟨A9, c9, rfl, -, -⟩ := hown5.row
      have hb := ownsRow_below (OwnL.nil wx wx.heap.size) hg5 (Nat.le_refl _)
      exact hK.out _ _ (by rw [Vp2, upd_at]; exact ⟨A9, c9, rfl, hown5⟩) (.inr (.inr hb)) (hG.trans (hb.mono hG.size))
    case s3_p1 =>
      refine oweP rfl fun a wx val L hG hi hW hV hN hO K hK => ?_
      have e12 : a.tmps[12]? = some (.pointer (some ⟨bo, 0, none⟩)) := (hO 12 (by kernel_rfl)).trans (by rfl)
      clear hV hN hO
      go_simp
      exact hK.out _ _ (by rw [Vp3, upd_at] <;> (congr 1 <;> omega)) (.inr (.inr (Below.refl _ _))) (hG)
    case s4_p1 =>
      refine oweP rfl fun a wx val L hG hi hW hV hN hO K hK => ?_
      have e62 := hN 3 62 (by kernel_rfl) (by kernel_rfl) (by simp)
      have f62 := hV 3 (by kernel_rfl) (by kernel_rfl)
      rw [Vp3] at f62; rw [f62] at e62; clear f62
      clear hV hN hO
      obtain ⟨y0, y1⟩ := (HOc.out.on hG).pl.cells
      go_simp
      exact hK.out _ _ (by rw [Vp4, upd_at] <;> (congr 1 <;> omega)) (.inr (.inr (Below.refl _ _))) (hG)
    case s5_p1 =>
      refine oweP rfl fun a wx val L hG hi hW hV hN hO K hK => ?_
      have e61 := hN 2 61 (by kernel_rfl) (by kernel_rfl) (by simp)
      have f61 := hV 2 (by kernel_rfl) (by kernel_rfl)
      rw [Vp2] at f61; obtain ⟨B9, d9, hv9, ho9⟩ := f61; rw [hv9] at e61
      have e63 := hN 4 63 (by kernel_rfl) (by kernel_rfl) (by simp)
      have f63 := hV 4 (by kernel_rfl) (by kernel_rfl)
      rw [Vp4] at f63; rw [f63] at e63; clear f63
      clear hV hN hO
      refine wp_appA (.tmp 61) (.tmp 63) rfl wc.heap.size wx.heap.size (.slice B9 l.length d9) l lo Ao co (by simp [Act.eval, e61]) (by simp [Act.eval, e63]) ho9 (HOc.out.on hG).sl hG.size hsz1 ?_
      intro u' w5 hown5 hg5
      rw [HZL.out] at hown5
      obtain ⟨A9, c9, rfl, -, -⟩ := hown5.row
      rw [HZN.out] at hown5 ⊢
      have hpk : ∀ (b : Nat) (cs : Array Value), wx.heap[b]? = some (.cells cs 25 (0, 0)) → w5.heap[b]? = wx.heap[b]? := fun b cs hcs => hg5.block b (Array.getElem?_eq_some_iff.1 hcs).1 (fun e => own_apart ho9 hcs (by decide) b e.symm rfl)
      exact hK.out _ _ (by rw [Vp5, upd_at]; exact ⟨A9, c9, rfl, hown5⟩) (.inl ⟨rfl, hpk⟩) (hG.trans (ownsRow_below (own_more ho9 (Nat.le_refl _)) hg5 hG.size))
    case s6_p1 =>
      refine oweP rfl fun a wx val L hG hi hW hV hN hO K hK => ?_
      have e12 : a.tmps[12]? = some (.pointer (some ⟨bo, 0, none⟩)) := (hO 12 (by kernel_rfl)).trans (by rfl)
      clear hV hN hO
      go_simp
      exact hK.out _ _ (by rw [Vp6, upd_at] <;> (congr 1 <;> omega)) (.inr (.inr (Below.refl _ _))) (hG)
    case s7_p1 =>
      refine oweP rfl fun a wx val L hG hi hW hV hN hO K hK => ?_
      have e65 := hN 6 65 (by kernel_rfl) (by kernel_rfl) (by simp)
      have f65 := hV 6 (by kernel_rfl) (by kernel_rfl)
      rw [Vp6] at f65; rw [f65] at e65; clear f65
      clear hV hN hO
      obtain ⟨y0, y1⟩ := (HOc.out.on hG).pl.cells
      go_simp
      exact hK.out _ _ (by rw [Vp7, upd_at] <;> (congr 1 <;> omega)) (.inr (.inr (Below.refl _ _))) (hG)
    case s8_p1 =>
      refine oweP rfl fun a wx val L hG hi hW hV hN hO K hK => ?_
      have e64 := hN 5 64 (by kernel_rfl) (by kernel_rfl) (by simp)
      have f64 := hV 5 (by kernel_rfl) (by kernel_rfl)
      rw [Vp5] at f64; obtain ⟨A9, c9, hv8, ho8⟩ := f64; rw [hv8] at e64
      have e66 := hN 7 66 (by kernel_rfl) (by kernel_rfl) (by simp)
      have f66 := hV 7 (by kernel_rfl) (by kernel_rfl)
      rw [Vp7] at f66; rw [f66] at e66; clear f66
      clear hV hN hO
      go_simp
      exact hK.out _ _ (by rw [Vp8, upd_at, upd_ne _ _ (by decide)]; exact ⟨_, _, hv8, rfl⟩) (.inr (.inr (Below.refl _ _))) hG
    case s9_p1 =>
      refine oweP rfl fun a wx val L hG hi hW hV hN hO K hK => ?_
      clear hV hN hO
      go_simp
      have hb := Joins.below_alloc1 wx (.cells #[.slice none 0 0, .int .i64 0] 25)
      exact hK.out _ _ (by rw [Vp9, upd_at]; exact ⟨_, rfl, hG.size, BoxP.new wx _ 0⟩) (.inr (.inr hb)) (hG.trans (hb.mono hG.size))
    case s10_p1 =>
      refine oweP rfl fun a wx val L hG hi hW hV hN hO K hK => ?_
      have e19 := hN 9 19 (by kernel_rfl) (by kernel_rfl) (by simp)
      have f19 := hV 9 (by kernel_rfl) (by kernel_rfl)
      rw [Vp9] at f19; obtain ⟨g, hv, hg9, hmm⟩ := f19; rw [hv] at e19
      have e67 := hN 8 67 (by kernel_rfl) (by kernel_rfl) (by simp)
      have f67 := hV 8 (by kernel_rfl) (by kernel_rfl)
      rw [Vp8] at f67; obtain ⟨A8, c8, h58, hv7⟩ := f67; rw [hv7] at e67
      clear hV hN hO
      obtain ⟨x0, x1⟩ := hmm.cells
      have p0 := hmm.frozen 0
      have p1 := hmm.frozen 1
      go_simp
      have hpk : ∀ (b : Nat) (cs : Array Value), wx.heap[b]? = some (.cells cs 45 (0, 0)) → ((wx.setCell ⟨g, 0, none⟩ (.slice A8 zn c8)).setCell ⟨g, 1, none⟩ (.int .i64 Co)).heap[b]? = wx.heap[b]? := fun b cs hcs => BoxP.apart hmm hcs _ _ _ _
      exact hK.out undef ((wx.setCell ⟨g, 0, none⟩ (.slice A8 zn c8)).setCell ⟨g, 1, none⟩ (.int .i64 Co)) (by rw [Vp10, upd_ne _ _ (by decide), upd_ne _ _ (by decide)]; exact ⟨g, hv, A8, c8, hv7, hmm.set _ _⟩) (.inr (.inl ⟨rfl, hpk⟩)) ((hG.setCell (p := ⟨g, 0, none⟩) hg9 _).setCell (p := ⟨g, 1, none⟩) hg9 _)
    intro val wx L hG hV
    have f0 := hV 0 (by simp) (fun _ _ => by simp)
    rw [Vp0] at f0
    have f1 := hV 1 (by simp) (fun _ _ => by simp)
    rw [Vp1] at f1
    have f3 := hV 3 (by simp) (fun _ _ => by simp)
    rw [Vp3] at f3
    have f4 := hV 4 (by simp) (fun _ _ => by simp)
    rw [Vp4] at f4
    have f5 := hV 5 (by simp) (fun _ _ => by simp)
    rw [Vp5] at f5
    have f6 := hV 6 (by simp) (fun _ _ => by simp)
    rw [Vp6] at f6
    have f7 := hV 7 (by simp) (fun _ _ => by simp)
    rw [Vp7] at f7
    have f8 := hV 8 (by simp) (fun _ _ => by simp)
    rw [Vp8] at f8
    have f10 := hV 10 (by simp) (fun _ _ => by simp)
    rw [Vp10] at f10
    clear hV Vp0 Vp1 Vp2 Vp3 Vp4 Vp5 Vp6 Vp7 Vp8 Vp9 Vp10
    simp only [putAll, Act.put, List.setIfInBounds_toArray, List.set_cons_zero, List.set_cons_succ]
    generalize val 0 = z0 at *; (subst f0)
    generalize val 1 = z1 at *; (subst f1)
    generalize val 2 = z2 at *
    generalize val 3 = z3 at *; (subst f3)
    generalize val 4 = z4 at *; (subst f4)
    generalize val 5 = z5 at *
    generalize val 6 = z6 at *; (subst f6)
    generalize val 7 = z7 at *; (subst f7)
    generalize val 8 = z8 at *
    generalize val 9 = z9 at *
    clear HVD
    obtain ⟨Az, cz, hz5, hoz⟩ := f5
    obtain ⟨A8, c8, h85, h88⟩ := f8
    obtain ⟨g, hz9, A7, c7, h108, hbx⟩ := f10
    subst hz5
    injection h85 with e1 e2 e3
    subst e1 e3
    subst h88
    injection h108 with e1
    injection e1 with e1
    injection e1 with e1 e2
    injection e1 with e1 e3 e4
    subst e1 e4 hz9
    clear e2 e3
    have HHZ : Hid (Has wx g Az cz Co zl) := Lib.hid ⟨by rw [HZN.out]; exact hbx, by have := hoz.slice.2; exact this⟩
    have HHP := Lib.hid (HH.out.on hG)
    have HHO := Lib.hid (HOc.out.on hG)
    have HSP := Lib.hid (HSc.out.on hG)
    have HBX := Lib.hid (HBc.out.trans (hG.mono HBc.out.size))
    have hlz : zl.length ≤ maxLen := by rw [← HZL.out, List.length_append]; unfold maxLen; omega
    have hlm : l.length ≤ maxLen := by unfold maxLen; omega
    clear hG hoz hbx HH HOc HSc HBc
    go_upto_region 6 with fail
    generalize bo + 1 = bs at *
    go_cut [71, 72, 73] (fun s t u wq => ∃ qb, s = .slice (some ⟨qb, 0, none⟩) 3 3 ∧ t = .int .i64 3 ∧ u = .int .i64 0 ∧ Plans wq qb ∧ SpAt wq bs ⟨s1, s2, s3, s4⟩ ∧ Below w.heap.size w wq)
    case first =>
      obtain ⟨y0, y1⟩ := HHP.out.pl.cells
      obtain ⟨x0, x1⟩ := HHO.out.pl.cells
      obtain ⟨u0, u1⟩ := HHZ.out.pl.cells
      have hb8 := Joins.below_alloc1 wx (.cells #[.slice A l.length c, .int .i64 C, .slice Ao lo.length co, .int .i64 Co, .slice Az zl.length cz, .int .i64 Co] 25)
      have h3 := three_plans (q := wx.heap.size) (heap_alloc_new wx (.cells #[.slice A l.length c, .int .i64 C, .slice Ao lo.length co, .int .i64 Co, .slice Az zl.length cz, .int .i64 Co] 25)) rfl rfl rfl ((HHP.out.sl.on hb8).more hb8.size) ((HHO.out.sl.on hb8).more hb8.size) ((HHZ.out.sl.on hb8).more hb8.size) hlm hlo hlz
      have hs8 := HSP.out.on hb8
      have hB8 := HBX.out.trans (hb8.mono HBX.out.size)
      have H3 := Lib.hid h3; clear h3
      have H8 := Lib.hid hs8; clear hs8
      have HB8 := Lib.hid hB8; clear hB8 hb8
      go_wp2_with fail
      go_meet
      exact ⟨_, rfl, rfl, rfl, H3.out, H8.out, HB8.out⟩
    case rest =>
    obtain ⟨qb, rfl, rfl, rfl, h3, h8, hB8⟩ := hcut
    have H3 := Lib.hid h3
    have H8 := Lib.hid h8
    have HB8 := Lib.hid hB8
    clear h3 h8 hB8 HHP HHO HHZ HSP HBX hlz hlm hlo CP f1 w0 w2 w3 w5 w7
    go_wp2_with fail
    refine t1_loop P17 P40 P100 g17 (Lib.hid H3.out) (Lib.hid H8.out) (Lib.hid ?_)
    intro x21 x22 x23 x24 x25 x26 x27 x28 x29 x30 x31 x32 x33 x34 x35 x36 x37 x38 x39 x40 x41 x42 x43 x44 x45 x46 x47 x73 x74 x75 x76 x77 x78 x79 x80 x81 x82 x83 x84 x85 x86 x87 x88 x89 x90 x91 x92 x93 x94 x95 x96 x97 x98 x99 x100 x101 x102 x103 x104 x105 x106 x107 x108 x109 x110 x111 x112 x113 x114 x115 x116 x117 x118 x119 x120 x121 x122 x123 x124 x125 x126 x127 x128 x129 x130 x131 x132 x133 x134 x135 x136 x137 x138 x139 x140 x141 x142 x143 x144 x145 x146 x147 x148 x149 x150 x151 x152 x153 x154 x155 x156 x157 x158 x159 x160 x161 x162 x163 x164 x165 x166 x167 x168 x169 x170 x171 x172 x173 x174 x175 x176 x177 x178 x179 x180 x181 x182 x183 x184 x185 x186 x187 x188 x189 x190 x191 x192 x193 x194 x195 x196 x197 x198 x199 x200 x201 x202 x203 x204 x205 x206 x207 x208 x209 x210 x211 x212 x213 x214 x215 x216 x217 x218 x219 x220 x221 x222 x223 x224 x225 x226 x227 x228 x229 x230 x231 x232 x233 x234 x235 x236 x237 x238 x239 x240 x241 x242 x243 wz hbz
    have HBZ := Lib.hid (HB8.out.trans (hbz.mono HB8.out.size))
    clear hbz HB8
    go_wp2_with fail
    go_ret
    exact ⟨rfl, HBZ.out⟩

end Go.Proofs.Ytmklabdfalkldaa

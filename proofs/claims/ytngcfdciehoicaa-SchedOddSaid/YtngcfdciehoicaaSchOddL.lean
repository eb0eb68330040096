/-
  The law SchedOdd: with a node twice, one slot, no ticks, or no cycle, a plan is none, and tells nothing.
-/
import Derived.Test.YtngcfdciehoicaaSchOddM
namespace Go.Proofs.Ytngcfdciehoicaa
open Go.RowKit

set_option maxRecDepth 100000 in
set_option maxHeartbeats 4000000 in
theorem schedOdd_walk (a0 : Int) (A1 : Option Addr) (c1 : Nat) (l1 : List Int) (a2 a3 a4 : Int) (w0 : (Lit.int .i64 a0).wf = true) (w2 : (Lit.int .i64 a2).wf = true) (w3 : (Lit.int .i64 a3).wf = true) (w4 : (Lit.int .i64 a4).wf = true) (w : World) (f1 : IntsOk w A1 c1 l1) :
    Calls Try.prog 8 #[.int .i64 a0, .slice A1 l1.length c1, .int .i64 a2, .int .i64 a3, .int .i64 a4] w fun e w' => e = .returned (.bool true) ∧ Below w.heap.size w w' := by
  obtain ⟨l, C, hR, -, cpl⟩ := raw_plan a0 a2 a3 w0 w2 w3 A1 c1 l1 w f1
  have hl := rightS_len hR
  have hlm : l.length ≤ maxLen := by unfold maxLen; omega
  obtain ⟨n, hn⟩ : ∃ n : Nat, l.length = n := ⟨_, rfl⟩
  rw [hn] at hl
  have r4 := pickI_range a4 ((n : Int) - 1) (by omega)
  have ct := fun W => pick8_any a4 ((n : Int) - 1) w4 (by omega) W
  generalize pickI a4 ((n : Int) - 1) = k' at *
  obtain ⟨k, rfl⟩ : ∃ k : Nat, k' = (k : Int) := ⟨k'.toNat, by omega⟩
  have hk1 : k + 1 < n := by omega
  obtain ⟨p, hp⟩ : ∃ p, l[k]? = some p := ⟨_, List.getElem?_eq_getElem (by omega)⟩
  obtain ⟨q, hq⟩ : ∃ q, l[k + 1]? = some q := ⟨_, List.getElem?_eq_getElem (by omega)⟩
  obtain ⟨f, hf⟩ : ∃ f, l[0]? = some f := ⟨_, List.getElem?_eq_getElem (by omega)⟩
  have HW1 := Lib.hid (odd_node (C := C) hp hq)
  have HW2 := Lib.hid (odd_ticks (C := C) hp)
  have HW3 := Lib.hid (odd_one (l := l) (C := C))
  have HW4 := Lib.hid (odd_cycle (l := l))
  have RT := Lib.hid (fun A c W h => right_any A c C l hlm W h)
  rw [hR] at RT
  have CP := Lib.hid cpl; clear cpl
  have CT := Lib.hid ct; clear ct
  have HN := Lib.hid hn; clear hn
  have HPQ := Lib.hid (And.intro hp (And.intro hq hf)); clear hp hq hf
  have hlm2 : n ≤ 16 := hl.2
  have hwk : IntKind.i64.wrap ((n : Int) - 1) = (n : Int) - 1 := IntWalk.i64_in _ (by omega)
  have hwk2 : IntKind.i64.wrap ((k : Int) + 1) = (k : Int) + 1 := IntWalk.i64_in _ (by omega)
  clear hR hlm w0 w2 w3 w4 f1 r4
  go_enter Try.func8, Try.ntmps8
  go_wp2_with fail; refine (awake_any _).mono ?_; rintro e wa ⟨rfl, ba⟩
  have HBA := Lib.hid ba; clear ba
  go_wp2_with fail; refine (CP.out _ HBA.out).mono ?_; rintro e wb ⟨A, c, rfl, ho, bb⟩
  obtain ⟨A0, c0, he0, hcc, -⟩ := ho.row
  injection he0 with he3 he1 he2
  subst he2
  rw [HN.out] at hcc
  have hs1 := ho.slice.2
  have HBB := Lib.hid (HBA.out.trans (bb.mono HBA.out.size)); clear bb ho HBA CP he1 he3
  have hh := Has.new (c := c) (C := C) hs1
  have hb1 := Joins.below_alloc1 wb (.cells #[.slice A l.length c, .int .i64 C] 25)
  go_upto_region 3 with fail
  have HH := Lib.hid hh
  have HBC := Lib.hid (HBB.out.trans (hb1.mono HBB.out.size))
  obtain ⟨b, hb⟩ : ∃ b, wb.heap.size = b := ⟨_, rfl⟩
  rw [hb] at HH ⊢
  clear hh hb1 HBB hs1
  generalize wb.alloc (.cells #[.slice A l.length c, .int .i64 C] 25) = wc at *
  clear hb
  have HPL : Hid (∀ W, Has W b A c C l → W.cell? ⟨b, 0, none⟩ = some (.slice A n c) ∧ W.cell? ⟨b, 1, none⟩ = some (.int .i64 C)) := Lib.hid (fun W h => by have := h.pl.cells; rwa [HN.out] at this)
  obtain ⟨y0, y1⟩ := HPL.out _ HH.out
  go_wp2_with fail; refine (CT.out _).mono ?_; rintro e wd ⟨rfl, rfl⟩
  clear CT y0 y1
  go_wp2_with fail
  have HV : ∃ Vp : Nat → (Nat → Value) → World → Prop, Vp = (fun ix u wv => match ix with
    | 0 => u 0 = .pointer (some ⟨b, 0, none⟩)
    | 1 => u 1 = .slice A n c
    | 2 => ∃ A9 c9, u 2 = .slice A9 n c9 ∧ OwnL wv wc.heap.size (.slice A9 n c9) l
    | 3 => u 3 = .pointer (some ⟨b, 1, none⟩)
    | 4 => u 4 = .int .i64 C
    | 5 => ∃ A9 c9, u 5 = .agg #[.slice A9 n c9, .int .i64 C] ∧ OwnL wv wc.heap.size (.slice A9 n c9) l
    | 6 => ∃ g, u 6 = .pointer (some ⟨g, 0, none⟩) ∧ wc.heap.size ≤ g ∧ PlAt wv g none 0 0 0
    | 7 => ∃ g A9 c9, u 6 = .pointer (some ⟨g, 0, none⟩) ∧ wc.heap.size ≤ g ∧ PlAt wv g A9 n c9 C ∧ OwnL wv wc.heap.size (.slice A9 n c9) l
    | _ => True) := ⟨_, rfl⟩
  obtain ⟨Vp, hVdef⟩ := HV
  have Vp0 : ∀ u wv, Vp 0 u wv = (u 0 = .pointer (some ⟨b, 0, none⟩)) := fun u wv => by subst hVdef; rfl
  have Vp1 : ∀ u wv, Vp 1 u wv = (u 1 = .slice A n c) := fun u wv => by subst hVdef; rfl
  have Vp2 : ∀ u wv, Vp 2 u wv = (∃ A9 c9, u 2 = .slice A9 n c9 ∧ OwnL wv wc.heap.size (.slice A9 n c9) l) := fun u wv => by subst hVdef; rfl
  have Vp3 : ∀ u wv, Vp 3 u wv = (u 3 = .pointer (some ⟨b, 1, none⟩)) := fun u wv => by subst hVdef; rfl
  have Vp4 : ∀ u wv, Vp 4 u wv = (u 4 = .int .i64 C) := fun u wv => by subst hVdef; rfl
  have Vp5 : ∀ u wv, Vp 5 u wv = (∃ A9 c9, u 5 = .agg #[.slice A9 n c9, .int .i64 C] ∧ OwnL wv wc.heap.size (.slice A9 n c9) l) := fun u wv => by subst hVdef; rfl
  have Vp6 : ∀ u wv, Vp 6 u wv = (∃ g, u 6 = .pointer (some ⟨g, 0, none⟩) ∧ wc.heap.size ≤ g ∧ PlAt wv g none 0 0 0) := fun u wv => by subst hVdef; rfl
  have Vp7 : ∀ u wv, Vp 7 u wv = (∃ g A9 c9, u 6 = .pointer (some ⟨g, 0, none⟩) ∧ wc.heap.size ≤ g ∧ PlAt wv g A9 n c9 C ∧ OwnL wv wc.heap.size (.slice A9 n c9) l) := fun u wv => by subst hVdef; rfl
  have HVD := Lib.hid hVdef
  clear hVdef
  refine region_phase (V := Vp) (drop := fun jx ix => (jx == 7 && ix == 2) || (jx == 7 && ix == 5) || (jx == 7 && ix == 6)) (G := fun L wv => Below wc.heap.size wc wv) (Rel := fun jx wv wv' => jx = 7 ∨ Below wv.heap.size wv wv') (by kernel_rfl) (by kernel_rfl) (Below.refl _ _).drew ?hmonop1 ?hdepp1 ⟨?s0_p1, ?s1_p1, ?s2_p1, ?s3_p1, ?s4_p1, ?s5_p1, ?s6_p1, ?s7_p1, trivial⟩ ?behindp1
  case hmonop1 =>
    intro ix jx u wv wv' hij hw hd hr
    rw [HVD.out]
    dsimp only
    split <;> intro h <;> first | exact trivial | exact h | (rcases hr with rfl | hb; (focus first | exact absurd rfl hij | (simp at hd; done) | (exact Bool.noConfusion (hw.symm.trans (show _ = true from by kernel_rfl)))); (first | (obtain ⟨A9, c9, e, hg⟩ := h; exact ⟨A9, c9, e, ownsRow_on hg hb⟩) | (obtain ⟨g, e, hg, hm⟩ := h; exact ⟨g, e, hg, hm.on hb⟩) | (obtain ⟨g, A9, c9, e, hg, hm, ho⟩ := h; exact ⟨g, A9, c9, e, hg, hm.on hb, ownsRow_on ho hb⟩)))
  case hdepp1 =>
    intro ix u u' wv h1 h2
    rw [HVD.out]
    dsimp only
    split <;> intro h <;> first | exact trivial | (rw [← h1]; exact h) | (obtain ⟨g, A9, c9, e, h⟩ := h; exact ⟨g, A9, c9, (h2 6 (by kernel_rfl)).symm.trans e, h⟩) | exact h
  case s0_p1 =>
    refine oweP rfl fun a wx val L hG hi hW hV hN hO K hK => ?_
    have e12 : a.tmps[12]? = some (.pointer (some ⟨b, 0, none⟩)) := (hO 12 (by kernel_rfl)).trans (by rfl)
    clear hV hN hO
    go_simp
    exact hK.out _ _ (by rw [Vp0, upd_at] <;> (congr 1 <;> omega)) (.inr (Below.refl _ _)) (hG)
  case s1_p1 =>
    refine oweP rfl fun a wx val L hG hi hW hV hN hO K hK => ?_
    have e36 := hN 0 36 (by kernel_rfl) (by kernel_rfl) (by simp)
    have f36 := hV 0 (by kernel_rfl) (by kernel_rfl)
    rw [Vp0] at f36; rw [f36] at e36; clear f36
    clear hV hN hO
    obtain ⟨y0, y1⟩ := HPL.out _ (HH.out.on hG)
    go_simp
    exact hK.out _ _ (by rw [Vp1, upd_at] <;> (congr 1 <;> omega)) (.inr (Below.refl _ _)) (hG)
  case s2_p1 =>
    refine oweP rfl fun a wx val L hG hi hW hV hN hO K hK => ?_
    have e37 := hN 1 37 (by kernel_rfl) (by kernel_rfl) (by simp)
    have f37 := hV 1 (by kernel_rfl) (by kernel_rfl)
    rw [Vp1] at f37; rw [f37] at e37; clear f37
    clear hV hN hO
    have hsl := (HH.out.on hG).sl
    refine wp_appL (.const (.slice none 0 0)) (.tmp 37) rfl wc.heap.size wx.heap.size (.slice none 0 0) [] l A c (by simp [Act.eval]) (by simp [Act.eval, e37, HN.out]) (OwnL.nil _ _) hsl (by intro e; have := HN.out; rw [e] at this; simp at this; omega) hG.size (by have := HN.out; simp; omega) ?_
    intro u' w5 hown5 hg5
    rw [List.nil_append] at hown5
    obtain ⟨A9, c9, rfl, -, -⟩ := hown5.row
    rw [HN.out] at hown5 ⊢
    have hb := ownsRow_below (OwnL.nil wx wx.heap.size) hg5 (Nat.le_refl _)
    exact hK.out _ _ (by rw [Vp2, upd_at]; exact ⟨A9, c9, rfl, hown5⟩) (.inr hb) (hG.trans (hb.mono hG.size))
  case s3_p1 =>
    refine oweP rfl fun a wx val L hG hi hW hV hN hO K hK => ?_
    have e12 : a.tmps[12]? = some (.pointer (some ⟨b, 0, none⟩)) := (hO 12 (by kernel_rfl)).trans (by rfl)
    clear hV hN hO
    go_simp
    exact hK.out _ _ (by rw [Vp3, upd_at] <;> (congr 1 <;> omega)) (.inr (Below.refl _ _)) (hG)
  case s4_p1 =>
    refine oweP rfl fun a wx val L hG hi hW hV hN hO K hK => ?_
    have e39 := hN 3 39 (by kernel_rfl) (by kernel_rfl) (by simp)
    have f39 := hV 3 (by kernel_rfl) (by kernel_rfl)
    rw [Vp3] at f39; rw [f39] at e39; clear f39
    clear hV hN hO
    obtain ⟨y0, y1⟩ := HPL.out _ (HH.out.on hG)
    go_simp
    exact hK.out _ _ (by rw [Vp4, upd_at] <;> (congr 1 <;> omega)) (.inr (Below.refl _ _)) (hG)
  case s5_p1 =>
    refine oweP rfl fun a wx val L hG hi hW hV hN hO K hK => ?_
    have e38 := hN 2 38 (by kernel_rfl) (by kernel_rfl) (by simp)
    have f38 := hV 2 (by kernel_rfl) (by kernel_rfl)
    rw [Vp2] at f38; obtain ⟨B9, d9, hv9, ho9⟩ := f38; rw [hv9] at e38
    have e40 := hN 4 40 (by kernel_rfl) (by kernel_rfl) (by simp)
    have f40 := hV 4 (by kernel_rfl) (by kernel_rfl)
    rw [Vp4] at f40; rw [f40] at e40; clear f40
    clear hV hN hO
    go_simp
    exact hK.out _ _ (by rw [Vp5, upd_at]; exact ⟨_, _, rfl, ho9⟩) (.inr (Below.refl _ _)) hG
  case s6_p1 =>
    refine oweP rfl fun a wx val L hG hi hW hV hN hO K hK => ?_
    clear hV hN hO
    go_simp
    have hb := Joins.below_alloc1 wx (.cells #[.slice none 0 0, .int .i64 0] 25)
    exact hK.out _ _ (by rw [Vp6, upd_at]; exact ⟨_, rfl, hG.size, PlAt.new wx none 0 0 0⟩) (.inr hb) (hG.trans (hb.mono hG.size))
  case s7_p1 =>
    refine oweP rfl fun a wx val L hG hi hW hV hN hO K hK => ?_
    have e14 := hN 6 14 (by kernel_rfl) (by kernel_rfl) (by simp)
    have f14 := hV 6 (by kernel_rfl) (by kernel_rfl)
    rw [Vp6] at f14; obtain ⟨g, hv, hg9, hmm⟩ := f14; rw [hv] at e14
    have e41 := hN 5 41 (by kernel_rfl) (by kernel_rfl) (by simp)
    have f41 := hV 5 (by kernel_rfl) (by kernel_rfl)
    rw [Vp5] at f41; obtain ⟨B9, d9, hv9, ho9⟩ := f41; rw [hv9] at e41
    clear hV hN hO
    obtain ⟨x0, x1⟩ := hmm.cells
    have p0 := hmm.frozen 0
    have p1 := hmm.frozen 1
    go_simp
    exact hK.out undef ((wx.setCell ⟨g, 0, none⟩ (.slice B9 n d9)).setCell ⟨g, 1, none⟩ (.int .i64 C)) (by rw [Vp7, upd_ne _ _ (by decide)]; exact ⟨g, B9, d9, hv, hg9, (hmm.set0 _ _ _).set1 _, own_far ho9 (fun h hh => (Below.heap_setCell _ _ _ _ (own_apart ho9 hmm (by decide) h hh)).trans (Below.heap_setCell _ _ _ _ (own_apart ho9 hmm (by decide) h hh)))⟩) (.inl rfl) ((hG.setCell (p := ⟨g, 0, none⟩) hg9 _).setCell (p := ⟨g, 1, none⟩) hg9 _)
  intro val wx L hG hV
  have f0 := hV 0 (by simp) (fun _ _ => by simp)
  rw [Vp0] at f0
  have f1 := hV 1 (by simp) (fun _ _ => by simp)
  rw [Vp1] at f1
  have f3 := hV 3 (by simp) (fun _ _ => by simp)
  rw [Vp3] at f3
  have f4 := hV 4 (by simp) (fun _ _ => by simp)
  rw [Vp4] at f4
  have f7 := hV 7 (by simp) (fun _ _ => by simp)
  rw [Vp7] at f7
  clear hV Vp0 Vp1 Vp2 Vp3 Vp4 Vp5 Vp6 Vp7
  simp only [putAll, Act.put, List.setIfInBounds_toArray, List.set_cons_zero, List.set_cons_succ]
  generalize val 0 = z0 at *; (subst f0)
  generalize val 1 = z1 at *; (subst f1)
  generalize val 2 = z2 at *
  generalize val 3 = z3 at *; (subst f3)
  generalize val 4 = z4 at *; (subst f4)
  generalize val 5 = z5 at *
  generalize val 6 = z6 at *
  clear HVD
  obtain ⟨ga, Aa, ca, hz, hg9, hpa, hoa⟩ := f7
  subst hz
  obtain ⟨hp, hq, hf⟩ := HPQ.out
  obtain ⟨h, c', he, hhB, hhl, -, hsl, hfz, hst⟩ := OwnL.one hoa (by rw [HN.out]; omega)
  injection he with e1 e2 e3
  subst e1
  clear e2 e3
  have hst2 := hst k p (q.1, p.2) 0 (.int .i64 q.1) (by omega) hp rfl
  obtain ⟨ad, hA, -, hcell⟩ := hsl (by rw [HN.out]; omega)
  injection hA with hA
  subst hA
  obtain ⟨z0, -⟩ := hcell (k + 1) q hq
  rw [show (⟨h, 0, none⟩ : Addr).add ((k + 1) * 2) = ⟨h, (k + 1) * 2, none⟩ from by unfold Addr.add; split <;> simp_all] at z0
  obtain ⟨z2, -⟩ := hcell k p hp
  rw [show (⟨h, 0, none⟩ : Addr).add (k * 2) = ⟨h, k * 2, none⟩ from by unfold Addr.add; split <;> simp_all] at z2
  obtain ⟨y0, y1⟩ := hpa.cells
  have hk0 : (0 : Int) ≤ (k : Int) + 1 := by omega
  have hf1 := hfz (k * 2)
  have hne : ga ≠ h := fun e => (own_apart hoa hpa (by decide)) h rfl e.symm
  have hpa2 := hpa.far (i := k * 2 + 0) hne (.int .i64 q.1)
  have hg2 := hG.setCell (p := ⟨h, k * 2 + 0, none⟩) hhB (.int .i64 q.1)
  rw [Nat.add_zero] at hst2 hpa2 hg2
  have hd := (Below.refl (wx.setCell ⟨h, k * 2, none⟩ (.int .i64 q.1)).heap.size (wx.setCell ⟨h, k * 2, none⟩ (.int .i64 q.1))).drew
  have HOA5 : Hid (OwnL (wx.setCell ⟨h, k * 2, none⟩ (.int .i64 q.1)).drew wc.heap.size (.slice (some ⟨h, 0, none⟩) n ca) (l.set k (q.1, p.2))) := Lib.hid (ownsRow_on hst2 hd)
  have HPA5 := Lib.hid (hpa2.on hd)
  have HG5 := Lib.hid (hg2.trans (hd.mono hg2.size))
  clear hst hst2 hcell hpa2 hg2 hd hpa hoa hG hfz hsl hq
  have hk2 : (k : Int) < n := by omega
  have hk3 : (k : Int) + 1 < n := by omega
  go_wp2_with fail
  go_region
  generalize (wx.setCell ⟨h, k * 2, none⟩ (.int .i64 q.1)).drew = W5 at *
  clear y0 y1 z0 z2 hf1
  have HH5 := Lib.hid (HH.out.on HG5.out)
  go_wp2_with fail
  have HV : ∃ Vp : Nat → (Nat → Value) → World → Prop, Vp = (fun ix u wv => match ix with
    | 0 => u 0 = .pointer (some ⟨b, 0, none⟩)
    | 1 => u 1 = .slice A n c
    | 2 => ∃ A9 c9, u 2 = .slice A9 n c9 ∧ OwnL wv W5.heap.size (.slice A9 n c9) l
    | 3 => u 3 = .pointer (some ⟨b, 1, none⟩)
    | 4 => u 4 = .int .i64 C
    | 5 => ∃ A9 c9, u 5 = .agg #[.slice A9 n c9, .int .i64 C] ∧ OwnL wv W5.heap.size (.slice A9 n c9) l
    | 6 => ∃ g, u 6 = .pointer (some ⟨g, 0, none⟩) ∧ W5.heap.size ≤ g ∧ PlAt wv g none 0 0 0
    | 7 => ∃ g A9 c9, u 6 = .pointer (some ⟨g, 0, none⟩) ∧ W5.heap.size ≤ g ∧ PlAt wv g A9 n c9 C ∧ OwnL wv W5.heap.size (.slice A9 n c9) l
    | _ => True) := ⟨_, rfl⟩
  obtain ⟨Vp, hVdef⟩ := HV
  have Vp0 : ∀ u wv, Vp 0 u wv = (u 0 = .pointer (some ⟨b, 0, none⟩)) := fun u wv => by subst hVdef; rfl
  have Vp1 : ∀ u wv, Vp 1 u wv = (u 1 = .slice A n c) := fun u wv => by subst hVdef; rfl
  have Vp2 : ∀ u wv, Vp 2 u wv = (∃ A9 c9, u 2 = .slice A9 n c9 ∧ OwnL wv W5.heap.size (.slice A9 n c9) l) := fun u wv => by subst hVdef; rfl
  have Vp3 : ∀ u wv, Vp 3 u wv = (u 3 = .pointer (some ⟨b, 1, none⟩)) := fun u wv => by subst hVdef; rfl
  have Vp4 : ∀ u wv, Vp 4 u wv = (u 4 = .int .i64 C) := fun u wv => by subst hVdef; rfl
  have Vp5 : ∀ u wv, Vp 5 u wv = (∃ A9 c9, u 5 = .agg #[.slice A9 n c9, .int .i64 C] ∧ OwnL wv W5.heap.size (.slice A9 n c9) l) := fun u wv => by subst hVdef; rfl
  have Vp6 : ∀ u wv, Vp 6 u wv = (∃ g, u 6 = .pointer (some ⟨g, 0, none⟩) ∧ W5.heap.size ≤ g ∧ PlAt wv g none 0 0 0) := fun u wv => by subst hVdef; rfl
  have Vp7 : ∀ u wv, Vp 7 u wv = (∃ g A9 c9, u 6 = .pointer (some ⟨g, 0, none⟩) ∧ W5.heap.size ≤ g ∧ PlAt wv g A9 n c9 C ∧ OwnL wv W5.heap.size (.slice A9 n c9) l) := fun u wv => by subst hVdef; rfl
  have HVD := Lib.hid hVdef
  clear hVdef
  refine region_phase (V := Vp) (drop := fun jx ix => (jx == 7 && ix == 2) || (jx == 7 && ix == 5) || (jx == 7 && ix == 6)) (G := fun L wv => Below W5.heap.size W5 wv) (Rel := fun jx wv wv' => jx = 7 ∨ Below wv.heap.size wv wv') (by kernel_rfl) (by kernel_rfl) (Below.refl _ _).drew ?hmonop2 ?hdepp2 ⟨?s0_p2, ?s1_p2, ?s2_p2, ?s3_p2, ?s4_p2, ?s5_p2, ?s6_p2, ?s7_p2, trivial⟩ ?behindp2
  case hmonop2 =>
    intro ix jx u wv wv' hij hw hd hr
    rw [HVD.out]
    dsimp only
    split <;> intro h <;> first | exact trivial | exact h | (rcases hr with rfl | hb; (focus first | exact absurd rfl hij | (simp at hd; done) | (exact Bool.noConfusion (hw.symm.trans (show _ = true from by kernel_rfl)))); (first | (obtain ⟨A9, c9, e, hg⟩ := h; exact ⟨A9, c9, e, ownsRow_on hg hb⟩) | (obtain ⟨g, e, hg, hm⟩ := h; exact ⟨g, e, hg, hm.on hb⟩) | (obtain ⟨g, A9, c9, e, hg, hm, ho⟩ := h; exact ⟨g, A9, c9, e, hg, hm.on hb, ownsRow_on ho hb⟩)))
  case hdepp2 =>
    intro ix u u' wv h1 h2
    rw [HVD.out]
    dsimp only
    split <;> intro h <;> first | exact trivial | (rw [← h1]; exact h) | (obtain ⟨g, A9, c9, e, h⟩ := h; exact ⟨g, A9, c9, (h2 6 (by kernel_rfl)).symm.trans e, h⟩) | exact h
  case s0_p2 =>
    refine oweP rfl fun a wx val L hG hi hW hV hN hO K hK => ?_
    have e12 : a.tmps[12]? = some (.pointer (some ⟨b, 0, none⟩)) := (hO 12 (by kernel_rfl)).trans (by rfl)
    clear hV hN hO
    go_simp
    exact hK.out _ _ (by rw [Vp0, upd_at] <;> (congr 1 <;> omega)) (.inr (Below.refl _ _)) (hG)
  case s1_p2 =>
    refine oweP rfl fun a wx val L hG hi hW hV hN hO K hK => ?_
    have e54 := hN 0 54 (by kernel_rfl) (by kernel_rfl) (by simp)
    have f54 := hV 0 (by kernel_rfl) (by kernel_rfl)
    rw [Vp0] at f54; rw [f54] at e54; clear f54
    clear hV hN hO
    obtain ⟨y0, y1⟩ := HPL.out _ (HH5.out.on hG)
    go_simp
    exact hK.out _ _ (by rw [Vp1, upd_at] <;> (congr 1 <;> omega)) (.inr (Below.refl _ _)) (hG)
  case s2_p2 =>
    refine oweP rfl fun a wx val L hG hi hW hV hN hO K hK => ?_
    have e55 := hN 1 55 (by kernel_rfl) (by kernel_rfl) (by simp)
    have f55 := hV 1 (by kernel_rfl) (by kernel_rfl)
    rw [Vp1] at f55; rw [f55] at e55; clear f55
    clear hV hN hO
    have hsl := (HH5.out.on hG).sl
    refine wp_appL (.const (.slice none 0 0)) (.tmp 55) rfl W5.heap.size wx.heap.size (.slice none 0 0) [] l A c (by simp [Act.eval]) (by simp [Act.eval, e55, HN.out]) (OwnL.nil _ _) hsl (by intro e; have := HN.out; rw [e] at this; simp at this; omega) hG.size (by have := HN.out; simp; omega) ?_
    intro u' w5 hown5 hg5
    rw [List.nil_append] at hown5
    obtain ⟨A9, c9, rfl, -, -⟩ := hown5.row
    rw [HN.out] at hown5 ⊢
    have hb := ownsRow_below (OwnL.nil wx wx.heap.size) hg5 (Nat.le_refl _)
    exact hK.out _ _ (by rw [Vp2, upd_at]; exact ⟨A9, c9, rfl, hown5⟩) (.inr hb) (hG.trans (hb.mono hG.size))
  case s3_p2 =>
    refine oweP rfl fun a wx val L hG hi hW hV hN hO K hK => ?_
    have e12 : a.tmps[12]? = some (.pointer (some ⟨b, 0, none⟩)) := (hO 12 (by kernel_rfl)).trans (by rfl)
    clear hV hN hO
    go_simp
    exact hK.out _ _ (by rw [Vp3, upd_at] <;> (congr 1 <;> omega)) (.inr (Below.refl _ _)) (hG)
  case s4_p2 =>
    refine oweP rfl fun a wx val L hG hi hW hV hN hO K hK => ?_
    have e57 := hN 3 57 (by kernel_rfl) (by kernel_rfl) (by simp)
    have f57 := hV 3 (by kernel_rfl) (by kernel_rfl)
    rw [Vp3] at f57; rw [f57] at e57; clear f57
    clear hV hN hO
    obtain ⟨y0, y1⟩ := HPL.out _ (HH5.out.on hG)
    go_simp
    exact hK.out _ _ (by rw [Vp4, upd_at] <;> (congr 1 <;> omega)) (.inr (Below.refl _ _)) (hG)
  case s5_p2 =>
    refine oweP rfl fun a wx val L hG hi hW hV hN hO K hK => ?_
    have e56 := hN 2 56 (by kernel_rfl) (by kernel_rfl) (by simp)
    have f56 := hV 2 (by kernel_rfl) (by kernel_rfl)
    rw [Vp2] at f56; obtain ⟨B9, d9, hv9, ho9⟩ := f56; rw [hv9] at e56
    have e58 := hN 4 58 (by kernel_rfl) (by kernel_rfl) (by simp)
    have f58 := hV 4 (by kernel_rfl) (by kernel_rfl)
    rw [Vp4] at f58; rw [f58] at e58; clear f58
    clear hV hN hO
    go_simp
    exact hK.out _ _ (by rw [Vp5, upd_at]; exact ⟨_, _, rfl, ho9⟩) (.inr (Below.refl _ _)) hG
  case s6_p2 =>
    refine oweP rfl fun a wx val L hG hi hW hV hN hO K hK => ?_
    clear hV hN hO
    go_simp
    have hb := Joins.below_alloc1 wx (.cells #[.slice none 0 0, .int .i64 0] 25)
    exact hK.out _ _ (by rw [Vp6, upd_at]; exact ⟨_, rfl, hG.size, PlAt.new wx none 0 0 0⟩) (.inr hb) (hG.trans (hb.mono hG.size))
  case s7_p2 =>
    refine oweP rfl fun a wx val L hG hi hW hV hN hO K hK => ?_
    have e15 := hN 6 15 (by kernel_rfl) (by kernel_rfl) (by simp)
    have f15 := hV 6 (by kernel_rfl) (by kernel_rfl)
    rw [Vp6] at f15; obtain ⟨g, hv, hg9, hmm⟩ := f15; rw [hv] at e15
    have e59 := hN 5 59 (by kernel_rfl) (by kernel_rfl) (by simp)
    have f59 := hV 5 (by kernel_rfl) (by kernel_rfl)
    rw [Vp5] at f59; obtain ⟨B9, d9, hv9, ho9⟩ := f59; rw [hv9] at e59
    clear hV hN hO
    obtain ⟨x0, x1⟩ := hmm.cells
    have p0 := hmm.frozen 0
    have p1 := hmm.frozen 1
    go_simp
    exact hK.out undef ((wx.setCell ⟨g, 0, none⟩ (.slice B9 n d9)).setCell ⟨g, 1, none⟩ (.int .i64 C)) (by rw [Vp7, upd_ne _ _ (by decide)]; exact ⟨g, B9, d9, hv, hg9, (hmm.set0 _ _ _).set1 _, own_far ho9 (fun h hh => (Below.heap_setCell _ _ _ _ (own_apart ho9 hmm (by decide) h hh)).trans (Below.heap_setCell _ _ _ _ (own_apart ho9 hmm (by decide) h hh)))⟩) (.inl rfl) ((hG.setCell (p := ⟨g, 0, none⟩) hg9 _).setCell (p := ⟨g, 1, none⟩) hg9 _)
  intro val wx L hG hV
  have f0 := hV 0 (by simp) (fun _ _ => by simp)
  rw [Vp0] at f0
  have f1 := hV 1 (by simp) (fun _ _ => by simp)
  rw [Vp1] at f1
  have f3 := hV 3 (by simp) (fun _ _ => by simp)
  rw [Vp3] at f3
  have f4 := hV 4 (by simp) (fun _ _ => by simp)
  rw [Vp4] at f4
  have f7 := hV 7 (by simp) (fun _ _ => by simp)
  rw [Vp7] at f7
  clear hV Vp0 Vp1 Vp2 Vp3 Vp4 Vp5 Vp6 Vp7
  simp only [putAll, Act.put, List.setIfInBounds_toArray, List.set_cons_zero, List.set_cons_succ]
  generalize val 0 = z0 at *; (subst f0)
  generalize val 1 = z1 at *; (subst f1)
  generalize val 2 = z2 at *
  generalize val 3 = z3 at *; (subst f3)
  generalize val 4 = z4 at *; (subst f4)
  generalize val 5 = z5 at *
  generalize val 6 = z6 at *
  clear HVD
  obtain ⟨gb, Ab, cb, hz, hg9, hpb, hob⟩ := f7
  subst hz
  obtain ⟨h2, c', he, hhB2, hhl2, -, hsl, hfz, hst⟩ := OwnL.one hob (by rw [HN.out]; omega)
  injection he with e1 e2 e3
  subst e1
  clear e2 e3
  have hst2 := hst k p (p.1, 0) 1 (.int .i64 0) (by omega) hp rfl
  obtain ⟨ad, hA, -, hcell⟩ := hsl (by rw [HN.out]; omega)
  injection hA with hA
  subst hA
  obtain ⟨-, z2⟩ := hcell k p hp
  rw [show (⟨h2, 0, none⟩ : Addr).add (k * 2) = ⟨h2, k * 2, none⟩ from by unfold Addr.add; split <;> simp_all] at z2
  obtain ⟨y0, y1⟩ := hpb.cells
  have hf1 := hfz (k * 2 + 1)
  have hne2 : gb ≠ h2 := fun e => (own_apart hob hpb (by decide)) h2 rfl e.symm
  have HPB7 := Lib.hid (hpb.far (i := k * 2 + 1) hne2 (.int .i64 0))
  have hg7 := hG.setCell (p := ⟨h2, k * 2 + 1, none⟩) hhB2 (.int .i64 0)
  have HOB7 := Lib.hid hst2
  have HPA7 := Lib.hid (HPA5.out.on hg7)
  have HOA7 : Hid (OwnL (wx.setCell ⟨h2, k * 2 + 1, none⟩ (.int .i64 0)) wc.heap.size (.slice (some ⟨h, 0, none⟩) n ca) (l.set k (q.1, p.2))) := Lib.hid (ownsRow_on HOA5.out hg7)
  have HH7 := Lib.hid (HH5.out.on hg7)
  have HB7 := Lib.hid ((HBC.out.trans (HG5.out.mono HBC.out.size)).trans (hg7.mono (HBC.out.trans (HG5.out.mono HBC.out.size)).size))
  clear hst hst2 hcell hfz hsl hpb hob hG hg7 HPA5 HOA5 HH5
  go_upto_region 8 with fail
  generalize wx.setCell ⟨h2, k * 2 + 1, none⟩ (.int .i64 0) = W7 at *
  clear y0 y1 hf1 z2
  go_cut [76, 77, 78] (fun s t u wx => ∃ qb, s = .slice (some ⟨qb, 0, none⟩) 4 4 ∧ t = .int .i64 4 ∧ u = .int .i64 0 ∧ Has wx b A c C l ∧ (∀ j : Nat, j < 4 → ∃ A' c' C' l', Wrong wx qb j A' c' C' l') ∧ Below w.heap.size w wx)
  case first =>
    obtain ⟨y0, y1⟩ := HPL.out _ HH7.out
    obtain ⟨x0, x1⟩ := HPA7.out.cells
    obtain ⟨u0, u1⟩ := HPB7.out.cells
    have hrun := fun W => run_one A n c (by omega) hcc W
    go_region
    clear y0 y1 x0 x1 u0 u1 hrun
    have hb8 := (Joins.below_alloc1 W7 (.cells #[.slice (some ⟨h, 0, none⟩) n ca, .int .i64 C, .slice (some ⟨h2, 0, none⟩) n cb, .int .i64 C, .slice A 1 c, .int .i64 C, .slice A n c, .int .i64 0] 25)).drew
    have h4 : FourAt (W7.alloc (.cells #[.slice (some ⟨h, 0, none⟩) n ca, .int .i64 C, .slice (some ⟨h2, 0, none⟩) n cb, .int .i64 C, .slice A 1 c, .int .i64 C, .slice A n c, .int .i64 0] 25)).drew W7.heap.size (some ⟨h, 0, none⟩) (some ⟨h2, 0, none⟩) A A n ca n cb 1 c n c C C C 0 := heap_alloc_new W7 _
    have sA := ((HOA7.out.slice.2).on hb8).more hb8.size
    have sB := ((HOB7.out.slice.2).on hb8).more hb8.size
    have HH8 := Lib.hid (HH7.out.on hb8)
    have HB8 := Lib.hid (HB7.out.trans (hb8.mono HB7.out.size))
    generalize (W7.alloc (.cells #[.slice (some ⟨h, 0, none⟩) n ca, .int .i64 C, .slice (some ⟨h2, 0, none⟩) n cb, .int .i64 C, .slice A 1 c, .int .i64 C, .slice A n c, .int .i64 0] 25)).drew = W8 at *
    obtain ⟨qb, hqb⟩ : ∃ q, W7.heap.size = q := ⟨_, rfl⟩
    rw [hqb] at h4 ⊢
    have hlA : (l.set k (q.1, p.2)).length = n := by rw [List.length_set, HN.out]
    have hlB : (l.set k (p.1, 0)).length = n := by rw [List.length_set, HN.out]
    have hlT : (l.take 1).length = 1 := by rw [List.length_take, HN.out]; omega
    have HWR : Hid (∀ j : Nat, j < 4 → ∃ A' c' C' l', Wrong W8 qb j A' c' C' l') := Lib.hid (four_wrong h4 hlA hlB hlT HN.out sA sB (HH8.out.sl.take 1) HH8.out.sl HW1.out HW2.out HW3.out HW4.out hlm2)
    go_wp2_with fail
    go_meet
    exact ⟨qb, rfl, rfl, rfl, HH8.out, HWR.out, HB8.out⟩
  case rest =>
  obtain ⟨qb, rfl, rfl, rfl, hh8, hwr8, hb8⟩ := hcut
  have HH8 := Lib.hid hh8
  have HWR := Lib.hid hwr8
  have HB8 := Lib.hid hb8
  clear hh8 hwr8 hb8 HOA7 HOB7 HPA7 HPB7 HH7 HB7 HW1 HW2 HW3 HW4 HG5 HBC HH hp
  go_wp2_with fail
  go_loopw [78] (fun jx wr => ∃ j : Nat, j ≤ 4 ∧ jx = .int .i64 j ∧ Has wr b A c C l ∧ (∀ j : Nat, j < 4 → ∃ A' c' C' l', Wrong wr qb j A' c' C' l') ∧ Below w.heap.size w wr) (fun jx _ => 4 - (intOf jx).toNat)
  case atStart => exact ⟨0, by omega, rfl, HH8.out, HWR.out, HB8.out⟩
  case round =>
  obtain ⟨j, hj, rfl, hh, hwr, hbb⟩ := hrel
  have HH9 := Lib.hid hh; clear hh
  have HB9 := Lib.hid hbb; clear hbb
  have HR9 := Lib.hid hwr; clear hwr
  clear HH8 HB8 HWR
  by_cases hj4 : (j : Int) < 4
  · obtain ⟨Ax, cx, Cx, lx, z0, z1, sx, rx, lmx⟩ := HR9.out j (by omega)
    have hj0 : (0 : Int) ≤ j := by omega
    have X1 := Lib.hid (fun A c W h => at_any A c Cx lx lmx 0 W h)
    rw [(at_wrong rx 0).1, (at_wrong rx 0).2] at X1
    have X2 := Lib.hid (fun A c W h => time_any A c Cx lx lmx ⟨0, 0, 0, 0⟩ W h)
    rw [(time_wrong rx _).1, (time_wrong rx _).2] at X2
    have X3 := Lib.hid (fun A c W h => slot_any A c Cx lx lmx f.1 W h)
    rw [(slot_wrong rx _).1, (slot_wrong rx _).2] at X3
    have X4 := Lib.hid (fun A c W h => right_any A c Cx lx lmx W h)
    rw [rx] at X4
    have X5 := Lib.hid (fun A c W h => round_any A c Cx lx lmx W h)
    rw [round_wrong rx] at X5
    clear rx lmx
    go_upto_region 11 with fail
    have hb1 := Joins.below_alloc1 wr (.cells #[.slice Ax lx.length cx, .int .i64 Cx] 25)
    have HX0 := Lib.hid (Has.new (c := cx) (C := Cx) sx)
    have HHA := Lib.hid (HH9.out.on hb1)
    have HBA := Lib.hid (HB9.out.trans (hb1.mono HB9.out.size))
    have HRA : Hid (∀ j : Nat, j < 4 → ∃ A' c' C' l', Wrong (wr.alloc (.cells #[.slice Ax lx.length cx, .int .i64 Cx] 25)) qb j A' c' C' l') := Lib.hid (fun j hj => by obtain ⟨a, b, c, d, e⟩ := HR9.out j hj; exact ⟨a, b, c, d, e.on hb1⟩)
    obtain ⟨bx, hbx⟩ : ∃ s, wr.heap.size = s := ⟨_, rfl⟩
    rw [hbx] at HX0 ⊢
    clear hb1 HH9 HB9 HR9 z0 z1 sx
    generalize wr.alloc (.cells #[.slice Ax lx.length cx, .int .i64 Cx] 25) = we at *
    clear hbx
    obtain ⟨y0, y1⟩ := HX0.out.pl.cells
    go_wp2_with fail; refine (X1.out _ _ _ HX0.out.sl).mono ?_; rintro e wf ⟨rfl, bf⟩
    have hb1 := Joins.below_alloc1 wf (.cells #[.int .i64 0, .int .i64 0, .int .i64 0, .int .i64 0] 27)
    go_upto_region 12 with fail
    have HXB := Lib.hid ((HX0.out.on bf).on hb1)
    have HHB := Lib.hid ((HHA.out.on bf).on hb1)
    have HBB := Lib.hid ((HBA.out.trans (bf.mono HBA.out.size)).trans (hb1.mono (HBA.out.trans (bf.mono HBA.out.size)).size))
    have HRB : Hid (∀ j : Nat, j < 4 → ∃ A' c' C' l', Wrong (wf.alloc (.cells #[.int .i64 0, .int .i64 0, .int .i64 0, .int .i64 0] 27)) qb j A' c' C' l') := Lib.hid (fun j hj => by obtain ⟨a, b, c, d, e⟩ := HRA.out j hj; exact ⟨a, b, c, d, (e.on bf).on hb1⟩)
    clear hb1 bf HX0 HHA HBA HRA y0 y1 X1
    generalize wf.alloc (.cells #[.int .i64 0, .int .i64 0, .int .i64 0, .int .i64 0] 27) = wg at *
    obtain ⟨y0, y1⟩ := HXB.out.pl.cells
    go_wp2_with fail; refine (X2.out _ _ _ HXB.out.sl).mono ?_; rintro e wi ⟨rfl, bi⟩
    have HXC := Lib.hid (HXB.out.on bi)
    have HHC := Lib.hid (HHB.out.on bi)
    have HBC := Lib.hid (HBB.out.trans (bi.mono HBB.out.size))
    have HRC : Hid (∀ j : Nat, j < 4 → ∃ A' c' C' l', Wrong wi qb j A' c' C' l') := Lib.hid (fun j hj => by obtain ⟨a, b, c, d, e⟩ := HRB.out j hj; exact ⟨a, b, c, d, e.on bi⟩)
    clear bi HXB HHB HBB HRB y0 y1 X2
    go_wp2_with fail
    obtain ⟨adA, hA, -⟩ := HHC.out.slot hf
    subst hA
    have HV : ∃ Vp : Nat → (Nat → Value) → World → Prop, Vp = (fun ix u wv => match ix with
      | 0 => u 0 = .agg #[.slice Ax lx.length cx, .int .i64 Cx]
      | 1 => u 1 = .pointer (some ⟨b, 0, none⟩)
      | 2 => u 2 = .slice (some adA) n c
      | 3 => u 3 = .pointer (some adA)
      | 4 => u 4 = .pointer (some adA)
      | 5 => u 5 = .int .i64 f.1
      | 6 => u 6 = .tuple #[.int .i64 0, .bool false]
      | 7 => u 7 = .tuple #[.int .i64 0, .bool false]
      | 8 => u 8 = .int .i64 0
      | 9 => u 9 = .bool false
      | 10 => u 10 = .int .i64 0
      | 11 => u 11 = .bool false
      | _ => True) := ⟨_, rfl⟩
    obtain ⟨Vp, hVdef⟩ := HV
    have Vp0 : ∀ u wv, Vp 0 u wv = (u 0 = .agg #[.slice Ax lx.length cx, .int .i64 Cx]) := fun u wv => by subst hVdef; rfl
    have Vp1 : ∀ u wv, Vp 1 u wv = (u 1 = .pointer (some ⟨b, 0, none⟩)) := fun u wv => by subst hVdef; rfl
    have Vp2 : ∀ u wv, Vp 2 u wv = (u 2 = .slice (some adA) n c) := fun u wv => by subst hVdef; rfl
    have Vp3 : ∀ u wv, Vp 3 u wv = (u 3 = .pointer (some adA)) := fun u wv => by subst hVdef; rfl
    have Vp4 : ∀ u wv, Vp 4 u wv = (u 4 = .pointer (some adA)) := fun u wv => by subst hVdef; rfl
    have Vp5 : ∀ u wv, Vp 5 u wv = (u 5 = .int .i64 f.1) := fun u wv => by subst hVdef; rfl
    have Vp6 : ∀ u wv, Vp 6 u wv = (u 6 = .tuple #[.int .i64 0, .bool false]) := fun u wv => by subst hVdef; rfl
    have Vp7 : ∀ u wv, Vp 7 u wv = (u 7 = .tuple #[.int .i64 0, .bool false]) := fun u wv => by subst hVdef; rfl
    have Vp8 : ∀ u wv, Vp 8 u wv = (u 8 = .int .i64 0) := fun u wv => by subst hVdef; rfl
    have Vp9 : ∀ u wv, Vp 9 u wv = (u 9 = .bool false) := fun u wv => by subst hVdef; rfl
    have Vp10 : ∀ u wv, Vp 10 u wv = (u 10 = .int .i64 0) := fun u wv => by subst hVdef; rfl
    have Vp11 : ∀ u wv, Vp 11 u wv = (u 11 = .bool false) := fun u wv => by subst hVdef; rfl
    have HVD := Lib.hid hVdef
    clear hVdef
    refine region_phase (V := Vp) (drop := fun _ _ => false) (G := fun L wv => Below wi.heap.size wi wv) (Rel := fun jx wv wv' => Below wv.heap.size wv wv') (by kernel_rfl) (by kernel_rfl) (Below.refl _ _).drew ?hmonop3 ?hdepp3 ⟨?s0_p3, ?s1_p3, ?s2_p3, ?s3_p3, ?s4_p3, ?s5_p3, ?s6_p3, ?s7_p3, ?s8_p3, ?s9_p3, ?s10_p3, ?s11_p3, trivial⟩ ?behindp3
    case hmonop3 =>
      intro ix jx u wv wv' hij hw hd hr
      rw [HVD.out]
      dsimp only
      split <;> intro h <;> first | exact trivial | exact h | (have hb := hr; first | skip)
    case hdepp3 =>
      intro ix u u' wv h1 h2
      rw [HVD.out]
      dsimp only
      split <;> intro h <;> first | exact trivial | (rw [← h1]; exact h) | exact h
    case s0_p3 =>
      refine oweP rfl fun a wx val L hG hi hW hV hN hO K hK => ?_
      have e17 : a.tmps[17]? = some (.pointer (some ⟨bx, 0, none⟩)) := (hO 17 (by kernel_rfl)).trans (by rfl)
      clear hV hN hO
      obtain ⟨y0, y1⟩ := (HXC.out.on hG).pl.cells
      go_simp
      exact hK.out _ _ (by rw [Vp0, upd_at] <;> (congr 1 <;> omega)) (Below.refl _ _) (hG)
    case s1_p3 =>
      refine oweP rfl fun a wx val L hG hi hW hV hN hO K hK => ?_
      have e12 : a.tmps[12]? = some (.pointer (some ⟨b, 0, none⟩)) := (hO 12 (by kernel_rfl)).trans (by rfl)
      clear hV hN hO
      go_simp
      exact hK.out _ _ (by rw [Vp1, upd_at] <;> (congr 1 <;> omega)) (Below.refl _ _) (hG)
    case s2_p3 =>
      refine oweP rfl fun a wx val L hG hi hW hV hN hO K hK => ?_
      have e95 := hN 1 95 (by kernel_rfl) (by kernel_rfl) (by simp)
      have f95 := hV 1 (by kernel_rfl) (by kernel_rfl)
      rw [Vp1] at f95; rw [f95] at e95; clear f95
      clear hV hN hO
      obtain ⟨y0, y1⟩ := HPL.out _ (HHC.out.on hG)
      go_simp
      exact hK.out _ _ (by rw [Vp2, upd_at] <;> (congr 1 <;> omega)) (Below.refl _ _) (hG)
    case s3_p3 =>
      refine oweP rfl fun a wx val L hG hi hW hV hN hO K hK => ?_
      have e96 := hN 2 96 (by kernel_rfl) (by kernel_rfl) (by simp)
      have f96 := hV 2 (by kernel_rfl) (by kernel_rfl)
      rw [Vp2] at f96; rw [f96] at e96; clear f96
      clear hV hN hO
      have q0 : (0 : Int) < (n : Int) := by omega
      have q1 : 0 < n := by omega
      go_simp
      exact hK.out _ _ (by rw [Vp3, upd_at] <;> (congr 1 <;> omega)) (Below.refl _ _) (hG)
    case s4_p3 =>
      refine oweP rfl fun a wx val L hG hi hW hV hN hO K hK => ?_
      have e97 := hN 3 97 (by kernel_rfl) (by kernel_rfl) (by simp)
      have f97 := hV 3 (by kernel_rfl) (by kernel_rfl)
      rw [Vp3] at f97; rw [f97] at e97; clear f97
      clear hV hN hO
      go_simp
      exact hK.out _ _ (by rw [Vp4, upd_at] <;> (congr 1 <;> omega)) (Below.refl _ _) (hG)
    case s5_p3 =>
      refine oweP rfl fun a wx val L hG hi hW hV hN hO K hK => ?_
      have e98 := hN 4 98 (by kernel_rfl) (by kernel_rfl) (by simp)
      have f98 := hV 4 (by kernel_rfl) (by kernel_rfl)
      rw [Vp4] at f98; rw [f98] at e98; clear f98
      clear hV hN hO
      obtain ⟨ad', h', y0, y1⟩ := (HHC.out.on hG).slot hf
      injection h' with h'
      subst h'
      rw [Nat.zero_mul, addr_zero] at y0
      go_simp
      exact hK.out _ _ (by rw [Vp5, upd_at] <;> (congr 1 <;> omega)) (Below.refl _ _) (hG)
    case s6_p3 =>
      refine oweP rfl fun a wx val L hG hi hW hV hN hO K hK => ?_
      have e94 := hN 0 94 (by kernel_rfl) (by kernel_rfl) (by simp)
      have f94 := hV 0 (by kernel_rfl) (by kernel_rfl)
      rw [Vp0] at f94; rw [f94] at e94; clear f94
      have e99 := hN 5 99 (by kernel_rfl) (by kernel_rfl) (by simp)
      have f99 := hV 5 (by kernel_rfl) (by kernel_rfl)
      rw [Vp5] at f99; rw [f99] at e99; clear f99
      clear hV hN hO
      go_simp
      refine (X3.out _ _ _ (HXC.out.on hG).sl).mono ?_
      rintro e w11 ⟨rfl, hb⟩
      exact hK.out _ _ (by rw [Vp6, upd_at]) (hb) (hG.trans (hb.mono hG.size))
    case s7_p3 =>
      refine oweP rfl fun a wx val L hG hi hW hV hN hO K hK => ?_
      have e100 := hN 6 100 (by kernel_rfl) (by kernel_rfl) (by simp)
      have f100 := hV 6 (by kernel_rfl) (by kernel_rfl)
      rw [Vp6] at f100; rw [f100] at e100; clear f100
      clear hV hN hO
      go_simp
      exact hK.out _ _ (by rw [Vp7, upd_at] <;> (congr 1 <;> omega)) (Below.refl _ _) (hG)
    case s8_p3 =>
      refine oweP rfl fun a wx val L hG hi hW hV hN hO K hK => ?_
      have e93 := hN 7 93 (by kernel_rfl) (by kernel_rfl) (by simp)
      have f93 := hV 7 (by kernel_rfl) (by kernel_rfl)
      rw [Vp7] at f93; rw [f93] at e93; clear f93
      clear hV hN hO
      go_simp
      exact hK.out _ _ (by rw [Vp8, upd_at] <;> (congr 1 <;> omega)) (Below.refl _ _) (hG)
    case s9_p3 =>
      refine oweP rfl fun a wx val L hG hi hW hV hN hO K hK => ?_
      have e93 := hN 7 93 (by kernel_rfl) (by kernel_rfl) (by simp)
      have f93 := hV 7 (by kernel_rfl) (by kernel_rfl)
      rw [Vp7] at f93; rw [f93] at e93; clear f93
      clear hV hN hO
      go_simp
      exact hK.out _ _ (by rw [Vp9, upd_at] <;> (congr 1 <;> omega)) (Below.refl _ _) (hG)
    case s10_p3 =>
      refine oweP rfl fun a wx val L hG hi hW hV hN hO K hK => ?_
      have e101 := hN 8 101 (by kernel_rfl) (by kernel_rfl) (by simp)
      have f101 := hV 8 (by kernel_rfl) (by kernel_rfl)
      rw [Vp8] at f101; rw [f101] at e101; clear f101
      clear hV hN hO
      go_simp
      exact hK.out _ _ (by rw [Vp10, upd_at] <;> (congr 1 <;> omega)) (Below.refl _ _) (hG)
    case s11_p3 =>
      refine oweP rfl fun a wx val L hG hi hW hV hN hO K hK => ?_
      have e102 := hN 9 102 (by kernel_rfl) (by kernel_rfl) (by simp)
      have f102 := hV 9 (by kernel_rfl) (by kernel_rfl)
      rw [Vp9] at f102; rw [f102] at e102; clear f102
      clear hV hN hO
      go_simp
      exact hK.out _ _ (by rw [Vp11, upd_at] <;> (congr 1 <;> omega)) (Below.refl _ _) (hG)
    intro val wx L hG hV
    have f0 := hV 0 (by simp) (fun _ _ => by simp)
    rw [Vp0] at f0
    have f1 := hV 1 (by simp) (fun _ _ => by simp)
    rw [Vp1] at f1
    have f2 := hV 2 (by simp) (fun _ _ => by simp)
    rw [Vp2] at f2
    have f3 := hV 3 (by simp) (fun _ _ => by simp)
    rw [Vp3] at f3
    have f4 := hV 4 (by simp) (fun _ _ => by simp)
    rw [Vp4] at f4
    have f5 := hV 5 (by simp) (fun _ _ => by simp)
    rw [Vp5] at f5
    have f6 := hV 6 (by simp) (fun _ _ => by simp)
    rw [Vp6] at f6
    have f7 := hV 7 (by simp) (fun _ _ => by simp)
    rw [Vp7] at f7
    have f8 := hV 8 (by simp) (fun _ _ => by simp)
    rw [Vp8] at f8
    have f9 := hV 9 (by simp) (fun _ _ => by simp)
    rw [Vp9] at f9
    have f10 := hV 10 (by simp) (fun _ _ => by simp)
    rw [Vp10] at f10
    have f11 := hV 11 (by simp) (fun _ _ => by simp)
    rw [Vp11] at f11
    clear hV Vp0 Vp1 Vp2 Vp3 Vp4 Vp5 Vp6 Vp7 Vp8 Vp9 Vp10 Vp11
    simp only [putAll, Act.put, List.setIfInBounds_toArray, List.set_cons_zero, List.set_cons_succ]
    generalize val 0 = z0 at *; (subst f0)
    generalize val 1 = z1 at *; (subst f1)
    generalize val 2 = z2 at *; (subst f2)
    generalize val 3 = z3 at *; (subst f3)
    generalize val 4 = z4 at *; (subst f4)
    generalize val 5 = z5 at *; (subst f5)
    generalize val 6 = z6 at *; (subst f6)
    generalize val 7 = z7 at *; (subst f7)
    generalize val 8 = z8 at *; (subst f8)
    generalize val 9 = z9 at *; (subst f9)
    generalize val 10 = z10 at *; (subst f10)
    generalize val 11 = z11 at *; (subst f11)
    clear HVD
    have HXD := Lib.hid (HXC.out.on hG)
    have HHD := Lib.hid (HHC.out.on hG)
    have HBD := Lib.hid (HBC.out.trans (hG.mono HBC.out.size))
    have HRD : Hid (∀ j : Nat, j < 4 → ∃ A' c' C' l', Wrong wx qb j A' c' C' l') := Lib.hid (fun j hj => by obtain ⟨a, b, c, d, e⟩ := HRC.out j hj; exact ⟨a, b, c, d, e.on hG⟩)
    clear hG HXC HHC HBC HRC X3
    obtain ⟨y0, y1⟩ := HXD.out.pl.cells
    go_wp2_with fail; refine (X4.out _ _ _ HXD.out.sl).mono ?_; rintro e wj ⟨rfl, bj⟩
    have HXE := Lib.hid (HXD.out.on bj)
    have HHE := Lib.hid (HHD.out.on bj)
    have HBE := Lib.hid (HBD.out.trans (bj.mono HBD.out.size))
    have HRE : Hid (∀ j : Nat, j < 4 → ∃ A' c' C' l', Wrong wj qb j A' c' C' l') := Lib.hid (fun j hj => by obtain ⟨a, b, c, d, e⟩ := HRD.out j hj; exact ⟨a, b, c, d, e.on bj⟩)
    clear bj HXD HHD HBD HRD y0 y1 X4
    obtain ⟨y0, y1⟩ := HXE.out.pl.cells
    go_wp2_with fail; refine (X5.out _ _ _ HXE.out.sl).mono ?_; rintro e wk ⟨rfl, bk⟩
    have HHF := Lib.hid (HHE.out.on bk)
    have HBF := Lib.hid (HBE.out.trans (bk.mono HBE.out.size))
    have HRF : Hid (∀ j : Nat, j < 4 → ∃ A' c' C' l', Wrong wk qb j A' c' C' l') := Lib.hid (fun j hj => by obtain ⟨a, b, c, d, e⟩ := HRE.out j hj; exact ⟨a, b, c, d, e.on bk⟩)
    clear bk HXE HHE HBE HRE y0 y1 X5
    have qj : IntKind.i64.wrap ((j : Int) + 1) = (j : Int) + 1 := IntWalk.i64_in _ (by omega)
    go_wp2_with fail
    go_roundw
    case rel => exact ⟨j + 1, by omega, by go_num, HHF.out, HRF.out, HBF.out⟩
    case measure => simp [intOf]; omega
  · obtain ⟨y0, y1⟩ := HH9.out.pl.cells
    go_wp2_with fail; refine (RT.out _ _ _ HH9.out.sl).mono ?_; rintro e we ⟨rfl, be⟩
    have HBX := Lib.hid (HB9.out.trans (be.mono HB9.out.size))
    go_wp2_with fail
    go_ret
    exact ⟨rfl, HBX.out⟩

end Go.Proofs.Ytngcfdciehoicaa

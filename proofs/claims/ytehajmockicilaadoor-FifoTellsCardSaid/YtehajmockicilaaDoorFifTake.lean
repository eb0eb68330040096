/-
  What the document's Take tells of fifos.
-/
import Derived.Test.YtehajmockicilaaDoorFifRef
namespace Go.Proofs.YtehajmockicilaaDoor
open Go Go.RowKit

theorem take_bad {L T : Int} {l : List Msg} (h : rightFi L T l = false) : takeFiE L T l = 1 ∧ takeFiM L T l = zeroM ∧ takeFiL L T l = l := by
  have e : takeFiE L T l = 1 := by unfold takeFiE; rw [h]; rfl
  exact ⟨e, by unfold takeFiM; rw [e]; rfl, by unfold takeFiL; rw [e]; rfl⟩
theorem take_nil {L T : Int} {l : List Msg} (h : rightFi L T l = true) (h2 : l = []) : takeFiE L T l = 41 ∧ takeFiM L T l = zeroM ∧ takeFiL L T l = l := by
  have e : takeFiE L T l = 41 := by unfold takeFiE; rw [h, if_pos h2]; rfl
  exact ⟨e, by unfold takeFiM; rw [e]; rfl, by unfold takeFiL; rw [e]; rfl⟩
theorem take_has {L T : Int} {l : List Msg} {m : Msg} (h : rightFi L T l = true) (h2 : l[0]? = some m) : takeFiE L T l = 0 ∧ takeFiM L T l = m ∧ takeFiL L T l = l.tail := by
  have hn : l ≠ [] := by intro e; subst e; cases h2
  have e : takeFiE L T l = 0 := by unfold takeFiE; rw [h, if_neg hn]; rfl
  refine ⟨e, ?_, by unfold takeFiL; rw [e]; rfl⟩
  unfold takeFiM; rw [e]
  cases l with
  | nil => cases h2
  | cons a l => cases h2; rfl
def FiPostM (A : Option Addr) (L T' : Int) (l' : List Msg) (m : Msg) (E : Int) (w : World) (e : Ending) (w' : World) : Prop := ∃ A' c', e = .returned (.tuple #[fiv L T' A' l'.length c', mv m, .int .i64 E]) ∧ QTold A w.heap.size w' l' A' c' ∧ Below w.heap.size w w'
theorem OwnM.kept {w W : World} {B b : Nat} {u : Value} {l : List Msg} (h : OwnM w B u l) (hk : ∀ k, k ≠ b → W.heap[k]? = w.heap[k]?) (hb : b < B) : OwnM W B u l := by
  refine ⟨h.1, h.2.imp id ?_⟩
  rintro ⟨g, cap, cur, e1, e2, e3, e4⟩
  exact ⟨g, cap, cur, e1, e2, (hk g (by omega)).trans e3, e4⟩

set_option maxRecDepth 100000 in
set_option maxHeartbeats 2000000 in
theorem refTakeFi_any (LQ T : Int) (A : Option Addr) (c : Nat) (l : List Msg) (w : World) (hq : QIn w A c l) :
    Calls Tryd.prog 18 #[fiv LQ T A l.length c] w (FiPostM A LQ T (takeFiL LQ T l) (takeFiM LQ T l) (takeFiE LQ T l) w) := by
  have q1 := FiAt.new w LQ T A l.length c
  have b1 := Joins.below_alloc1 w (.cells #[.int .i64 LQ, .int .i64 T, .slice A l.length c] 30)
  have q2 := FiAt.new (w.alloc (.cells #[.int .i64 LQ, .int .i64 T, .slice A l.length c] 30)) 0 0 none 0 0
  have b2 := Joins.below_alloc1 (w.alloc (.cells #[.int .i64 LQ, .int .i64 T, .slice A l.length c] 30)) (.cells #[.int .i64 0, .int .i64 0, .slice none 0 0] 30)
  have q3 := MsgAt.new ((w.alloc (.cells #[.int .i64 LQ, .int .i64 T, .slice A l.length c] 30)).alloc (.cells #[.int .i64 0, .int .i64 0, .slice none 0 0] 30)) zeroM
  have b3 := Joins.below_alloc1 ((w.alloc (.cells #[.int .i64 LQ, .int .i64 T, .slice A l.length c] 30)).alloc (.cells #[.int .i64 0, .int .i64 0, .slice none 0 0] 30)) (.cells (mc zeroM) 26)
  rw [World.size_alloc] at q2
  rw [World.size_alloc, World.size_alloc] at q3
  have b23 := b2.trans (b3.mono b2.size)
  have q1' := q1.on b23
  have q2' := q2.on b3
  have hB := b1.trans (b23.mono b1.size)
  have hsz : (((w.alloc (.cells #[.int .i64 LQ, .int .i64 T, .slice A l.length c] 30)).alloc (.cells #[.int .i64 0, .int .i64 0, .slice none 0 0] 30)).alloc (.cells (mc zeroM) 26)).heap.size = w.heap.size + 3 := by simp only [World.size_alloc]
  have hqx := hq.on hB
  clear q1 q2 b1 b2 b3 b23
  have HQ2 := Lib.hid q2'
  have HQ1 := Lib.hid q1'
  have HM3 : Hid (MsgAt _ (w.heap.size + 2) zeroM) := Lib.hid q3
  have HB := Lib.hid hB
  have HSZ := Lib.hid hsz
  have CO := Lib.hid (fiOwn_any LQ T A c l)
  have HQX : Hid (∀ W, Below w.heap.size w W → QIn W A c l) := Lib.hid (fun W h => hq.on h)
  have HQ := Lib.hid hqx
  have CR := Lib.hid (refRightFi_any LQ T A c l _ hqx)
  have hfew := hq.few
  have hcap := hq.cap
  simp only [mc, zeroM] at HM3 HB HSZ HQ HQ1 HQ2 CR
  clear hq q1' q2' q3 hB hqx hsz
  cases hR : rightFi LQ T l
  · obtain ⟨he, hm, hl⟩ := take_bad hR
    rw [he, hm, hl]
    rw [hR] at CR
    clear he hm hl hR
    obtain ⟨y0, y1, y2⟩ := HQ1.out.cells
    go_enter Tryd.func18, Tryd.ntmps18
    go_wp2_with fail
    generalize ((w.alloc (.cells #[.int .i64 LQ, .int .i64 T, .slice A l.length c] 30)).alloc (.cells #[.int .i64 0, .int .i64 0, .slice none 0 0] 30)).alloc (.cells #[.bool false, .int .i64 0, .int .i64 0, .int .i64 0, .int .i64 0, .int .i64 0, .string ⟨#[]⟩] 26) = X at *
    refine CR.out.mono ?_; rintro e w3 ⟨rfl, b3⟩
    have HB3 := Lib.hid (HB.out.trans (b3.mono HB.out.size))
    have HQ1 := Lib.hid (HQ1.out.on b3)
    have HQ2 := Lib.hid (HQ2.out.on b3)
    have HM3 : Hid (MsgAt _ (w.heap.size + 2) _) := Lib.hid (MsgAt.on HM3.out b3)
    have HQ := Lib.hid (HQ.out.on b3)
    have HX3 : Hid (w.heap.size + 3 ≤ w3.heap.size) := Lib.hid (by have := b3.size; have := HSZ.out; omega)
    clear y0 y1 y2 b3 CR HB HSZ
    obtain ⟨y0, y1, y2⟩ := HQ1.out.cells
    go_wp2_with fail; refine (CO.out _ HQ.out).mono ?_; rintro e w4 ⟨A5, c5, rfl, ho5, b4⟩
    have HB4 := Lib.hid (HB3.out.trans (b4.mono HB3.out.size))
    have HQ2 := Lib.hid (HQ2.out.on b4)
    have HM3 : Hid (MsgAt _ (w.heap.size + 2) _) := Lib.hid (MsgAt.on HM3.out b4)
    have HT := Lib.hid (QTold.ofOwn (A0 := none) (ho5.base HX3.out))
    obtain ⟨z0, z1, z2⟩ := HQ2.out.cells
    have zf := HQ2.out.frozen
    obtain ⟨x0, x1, x2, x3, x4, x5, x6⟩ := HM3.out.cells
    have xf := HM3.out.frozen
    have hr := HQ2.out.set LQ T A5 l.length c5
    have hbr := below_set3 HB4.out (b := w.heap.size + 1) (by omega) (.int .i64 LQ) (.int .i64 T) (.slice A5 l.length c5)
    have htr := HT.out.put3 (b := w.heap.size + 1) (by omega) (.int .i64 LQ) (.int .i64 T) (.slice A5 l.length c5)
    have hmr := HM3.out.put3 (b := w.heap.size + 1) (by omega) (.int .i64 LQ) (.int .i64 T) (.slice A5 l.length c5)
    have HM7 := Lib.hid (hmr.set7 zeroM)
    have HR7 := Lib.hid (hr.put7 (b := w.heap.size + 2) (by omega) zeroM)
    have HT7 := Lib.hid ((htr.put7 (b := w.heap.size + 2) (by omega) zeroM).less (S' := w.heap.size) (by omega))
    have HB7 := Lib.hid (below_set7 hbr (b := w.heap.size + 2) (by omega) zeroM)
    clear hr hbr htr hmr ho5 b4
    go_wp2_with fail
    have hm7 := HM7.out
    have hr7 := HR7.out
    have ht7 := HT7.out
    have hb7 := HB7.out
    simp only [set7, zeroM] at hm7 hr7 ht7 hb7
    exact bodyPost_ret (fim_res Tryd.results18 hr7 hm7 rfl rfl rfl) rfl ⟨_, _, rfl, ht7.any, hb7⟩
  · by_cases hn : l.length = 0
    · obtain ⟨he, hm, hl⟩ := take_nil hR (List.length_eq_zero_iff.1 hn)
      rw [he, hm, hl]
      rw [hR] at CR
      have hlne : ((l.length : Int) == 0) = true := by rw [hn]; rfl
      clear he hm hl hR hn
      obtain ⟨y0, y1, y2⟩ := HQ1.out.cells
      go_enter Tryd.func18, Tryd.ntmps18
      go_wp2_with fail
      generalize ((w.alloc (.cells #[.int .i64 LQ, .int .i64 T, .slice A l.length c] 30)).alloc (.cells #[.int .i64 0, .int .i64 0, .slice none 0 0] 30)).alloc (.cells #[.bool false, .int .i64 0, .int .i64 0, .int .i64 0, .int .i64 0, .int .i64 0, .string ⟨#[]⟩] 26) = X at *
      refine CR.out.mono ?_; rintro e w3 ⟨rfl, b3⟩
      have HB3 := Lib.hid (HB.out.trans (b3.mono HB.out.size))
      have HQ1 := Lib.hid (HQ1.out.on b3)
      have HQ2 := Lib.hid (HQ2.out.on b3)
      have HM3 : Hid (MsgAt _ (w.heap.size + 2) _) := Lib.hid (MsgAt.on HM3.out b3)
      have HQ := Lib.hid (HQ.out.on b3)
      have HX3 : Hid (w.heap.size + 3 ≤ w3.heap.size) := Lib.hid (by have := b3.size; have := HSZ.out; omega)
      clear y0 y1 y2 b3 CR HB HSZ
      obtain ⟨y0, y1, y2⟩ := HQ1.out.cells
      go_wp2_with fail; refine (CO.out _ HQ.out).mono ?_; rintro e w4 ⟨A5, c5, rfl, ho5, b4⟩
      have HB4 := Lib.hid (HB3.out.trans (b4.mono HB3.out.size))
      have HQ2 := Lib.hid (HQ2.out.on b4)
      have HM3 : Hid (MsgAt _ (w.heap.size + 2) _) := Lib.hid (MsgAt.on HM3.out b4)
      have HT := Lib.hid (QTold.ofOwn (A0 := none) (ho5.base HX3.out))
      obtain ⟨z0, z1, z2⟩ := HQ2.out.cells
      have zf := HQ2.out.frozen
      obtain ⟨x0, x1, x2, x3, x4, x5, x6⟩ := HM3.out.cells
      have xf := HM3.out.frozen
      have hr := HQ2.out.set LQ T A5 l.length c5
      have hbr := below_set3 HB4.out (b := w.heap.size + 1) (by omega) (.int .i64 LQ) (.int .i64 T) (.slice A5 l.length c5)
      have htr := HT.out.put3 (b := w.heap.size + 1) (by omega) (.int .i64 LQ) (.int .i64 T) (.slice A5 l.length c5)
      have hmr := HM3.out.put3 (b := w.heap.size + 1) (by omega) (.int .i64 LQ) (.int .i64 T) (.slice A5 l.length c5)
      have HM7 := Lib.hid (hmr.set7 zeroM)
      have HR7 := Lib.hid (hr.put7 (b := w.heap.size + 2) (by omega) zeroM)
      have HT7 := Lib.hid ((htr.put7 (b := w.heap.size + 2) (by omega) zeroM).less (S' := w.heap.size) (by omega))
      have HB7 := Lib.hid (below_set7 hbr (b := w.heap.size + 2) (by omega) zeroM)
      clear hr hbr htr hmr ho5 b4
      go_wp2_with fail
      have hm7 := HM7.out
      have hr7 := HR7.out
      have ht7 := HT7.out
      have hb7 := HB7.out
      simp only [set7, zeroM] at hm7 hr7 ht7 hb7
      exact bodyPost_ret (fim_res Tryd.results18 hr7 hm7 rfl rfl rfl) rfl ⟨_, _, rfl, ht7.any, hb7⟩
    · obtain ⟨m, hm0⟩ : ∃ m, l[0]? = some m := ⟨_, List.getElem?_eq_getElem (by omega)⟩
      obtain ⟨he, hm, hl⟩ := take_has hR hm0
      rw [he, hm, hl]
      rw [hR] at CR
      have hlne : ((l.length : Int) == 0) = false := beq_eq_false_iff_ne.mpr (by omega)
      obtain ⟨A1, c1, hd1, hr1⟩ := run_dropM A c l hcap 1 (by omega)
      simp only [List.drop_one, List.length_tail] at hd1 hr1
      simp only [Int.natCast_one] at hr1
      have HD1 := Lib.hid hd1
      have hlpI : (0 : Int) < (l.length : Int) := by omega
      have hlp : 0 < l.length := by omega
      have HLD : Hid (l.tail.length = l.length - 1) := Lib.hid List.length_tail
      obtain ⟨ad, rfl, -⟩ := HQ.out.at hm0
      have HC : Hid (∀ W, QIn W (some ad) c l → At7 W ad m) := Lib.hid (fun W hW => by
        obtain ⟨ad', e, h7⟩ := hW.at hm0
        cases e; rw [show ad.add (0 * 7) = ad by unfold Addr.add; rfl] at h7; exact h7)
      clear he hm hl hR hn hm0 hd1
      obtain ⟨e1, n1, s1, i1, q1, k1, d1⟩ := m
      obtain ⟨y0, y1, y2⟩ := HQ1.out.cells
      go_enter Tryd.func18, Tryd.ntmps18
      go_wp2_with fail
      generalize ((w.alloc (.cells #[.int .i64 LQ, .int .i64 T, .slice (some ad) l.length c] 30)).alloc (.cells #[.int .i64 0, .int .i64 0, .slice none 0 0] 30)).alloc (.cells #[.bool false, .int .i64 0, .int .i64 0, .int .i64 0, .int .i64 0, .int .i64 0, .string ⟨#[]⟩] 26) = X at *
      refine CR.out.mono ?_; rintro e w3 ⟨rfl, b3⟩
      have HB3 := Lib.hid (HB.out.trans (b3.mono HB.out.size))
      have HQ1 := Lib.hid (HQ1.out.on b3)
      have HQ2 := Lib.hid (HQ2.out.on b3)
      have HM3 : Hid (MsgAt _ (w.heap.size + 2) _) := Lib.hid (MsgAt.on HM3.out b3)
      have HQ := Lib.hid (HQ.out.on b3)
      have HX3 : Hid (w.heap.size + 3 ≤ w3.heap.size) := Lib.hid (by have := b3.size; have := HSZ.out; omega)
      clear y0 y1 y2 b3 CR HB HSZ
      obtain ⟨y0, y1, y2⟩ := HQ1.out.cells
      go_upto_region 5 with (fail)
      have HV : ∃ Vp : Nat → (Nat → Value) → World → Prop, Vp = (fun ix u wv => match ix with
        | 0 => u 0 = .pointer (some ⟨w.heap.size, 0, none⟩)
        | 1 => u 1 = .int .i64 LQ
        | 2 => u 2 = .pointer (some ⟨w.heap.size, 1, none⟩)
        | 3 => u 3 = .int .i64 T
        | 4 => u 4 = .pointer (some ⟨w.heap.size, 2, none⟩)
        | 5 => u 5 = .slice (some ad) l.length c
        | 6 => u 6 = .slice A1 (l.length - 1) c1
        | 7 => ∃ A5 c5, u 7 = .slice A5 (l.length - 1) c5 ∧ OwnM wv (w.heap.size + 3) (.slice A5 (l.length - 1) c5) l.tail
        | 8 => ∃ A5 c5, u 8 = .agg #[.int .i64 LQ, .int .i64 T, .slice A5 (l.length - 1) c5] ∧ OwnM wv (w.heap.size + 3) (.slice A5 (l.length - 1) c5) l.tail
        | 9 => u 9 = .pointer (some ⟨w.heap.size, 2, none⟩)
        | 10 => u 10 = .slice (some ad) l.length c
        | 11 => u 11 = .pointer (some ad)
        | 12 => u 12 = .agg #[.bool e1, .int .i64 n1, .int .i64 s1, .int .i64 i1, .int .i64 q1, .int .i64 k1, .string d1]
        | 13 => ∃ A5 c5, FiAt wv (w.heap.size + 1) LQ T A5 (l.length - 1) c5 ∧ OwnM wv (w.heap.size + 3) (.slice A5 (l.length - 1) c5) l.tail
        | 14 => MsgAt wv (w.heap.size + 2) ⟨e1, n1, s1, i1, q1, k1, d1⟩
        | 15 => u 15 = .int .i64 0
        | _ => True) := ⟨_, rfl⟩
      obtain ⟨Vp, hVdef⟩ := HV
      have Vp0 : ∀ u wv, Vp 0 u wv = (u 0 = .pointer (some ⟨w.heap.size, 0, none⟩)) := fun u wv => by subst hVdef; rfl
      have Vp1 : ∀ u wv, Vp 1 u wv = (u 1 = .int .i64 LQ) := fun u wv => by subst hVdef; rfl
      have Vp2 : ∀ u wv, Vp 2 u wv = (u 2 = .pointer (some ⟨w.heap.size, 1, none⟩)) := fun u wv => by subst hVdef; rfl
      have Vp3 : ∀ u wv, Vp 3 u wv = (u 3 = .int .i64 T) := fun u wv => by subst hVdef; rfl
      have Vp4 : ∀ u wv, Vp 4 u wv = (u 4 = .pointer (some ⟨w.heap.size, 2, none⟩)) := fun u wv => by subst hVdef; rfl
      have Vp5 : ∀ u wv, Vp 5 u wv = (u 5 = .slice (some ad) l.length c) := fun u wv => by subst hVdef; rfl
      have Vp6 : ∀ u wv, Vp 6 u wv = (u 6 = .slice A1 (l.length - 1) c1) := fun u wv => by subst hVdef; rfl
      have Vp7 : ∀ u wv, Vp 7 u wv = (∃ A5 c5, u 7 = .slice A5 (l.length - 1) c5 ∧ OwnM wv (w.heap.size + 3) (.slice A5 (l.length - 1) c5) l.tail) := fun u wv => by subst hVdef; rfl
      have Vp8 : ∀ u wv, Vp 8 u wv = (∃ A5 c5, u 8 = .agg #[.int .i64 LQ, .int .i64 T, .slice A5 (l.length - 1) c5] ∧ OwnM wv (w.heap.size + 3) (.slice A5 (l.length - 1) c5) l.tail) := fun u wv => by subst hVdef; rfl
      have Vp9 : ∀ u wv, Vp 9 u wv = (u 9 = .pointer (some ⟨w.heap.size, 2, none⟩)) := fun u wv => by subst hVdef; rfl
      have Vp10 : ∀ u wv, Vp 10 u wv = (u 10 = .slice (some ad) l.length c) := fun u wv => by subst hVdef; rfl
      have Vp11 : ∀ u wv, Vp 11 u wv = (u 11 = .pointer (some ad)) := fun u wv => by subst hVdef; rfl
      have Vp12 : ∀ u wv, Vp 12 u wv = (u 12 = .agg #[.bool e1, .int .i64 n1, .int .i64 s1, .int .i64 i1, .int .i64 q1, .int .i64 k1, .string d1]) := fun u wv => by subst hVdef; rfl
      have Vp13 : ∀ u wv, Vp 13 u wv = (∃ A5 c5, FiAt wv (w.heap.size + 1) LQ T A5 (l.length - 1) c5 ∧ OwnM wv (w.heap.size + 3) (.slice A5 (l.length - 1) c5) l.tail) := fun u wv => by subst hVdef; rfl
      have Vp14 : ∀ u wv, Vp 14 u wv = (MsgAt wv (w.heap.size + 2) ⟨e1, n1, s1, i1, q1, k1, d1⟩) := fun u wv => by subst hVdef; rfl
      have Vp15 : ∀ u wv, Vp 15 u wv = (u 15 = .int .i64 0) := fun u wv => by subst hVdef; rfl
      have HVD := Lib.hid hVdef
      clear hVdef
      refine region_phase (V := Vp) (drop := fun jx ix => (jx == 13 && ix == 7) || (jx == 13 && ix == 8)) (G := fun L wv => (L 13 = false → FiAt wv (w.heap.size + 1) 0 0 none 0 0) ∧ (L 14 = false → MsgAt wv (w.heap.size + 2) zeroM) ∧ FiAt wv w.heap.size LQ T (some ad) l.length c ∧ Below w.heap.size w wv ∧ QIn wv (some ad) c l ∧ w.heap.size + 3 ≤ (wv).heap.size) (Rel := fun jx wv wv' => jx = 13 ∨ (jx = 14 ∧ ((∀ k, k ≠ w.heap.size + 2 → wv'.heap[k]? = wv.heap[k]?))) ∨ Below wv.heap.size wv wv') (by kernel_rfl) (by kernel_rfl) ⟨fun _ => HQ2.out.on (Below.refl _ _).drew, fun _ => MsgAt.on HM3.out (Below.refl _ _).drew, HQ1.out.on (Below.refl _ _).drew, HB3.out.trans ((Below.refl _ _).drew.mono HB3.out.size), HQ.out.on (Below.refl _ _).drew, HX3.out⟩ ?hmonop1 ?hdepp1 ⟨?s0_p1, ?s1_p1, ?s2_p1, ?s3_p1, ?s4_p1, ?s5_p1, ?s6_p1, ?s7_p1, ?s8_p1, ?s9_p1, ?s10_p1, ?s11_p1, ?s12_p1, ?s13_p1, ?s14_p1, ?s15_p1, trivial⟩ ?behindp1
      case hmonop1 =>
        intro ix jx u wv wv' hij hw hd hr
        rw [HVD.out]
        dsimp only
        split <;> intro h <;> first | exact trivial | exact h | (rcases hr with rfl | ⟨rfl, hpk⟩ | hb; (focus first | exact absurd rfl hij | (simp at hd; done) | (exact Bool.noConfusion (hw.symm.trans (show _ = true from by kernel_rfl)))); (focus first | exact absurd rfl hij | (simp at hd; done) | (first | (obtain ⟨A5, c5, e, ht⟩ := h; exact ⟨A5, c5, (hpk _ (by omega)).trans e, ht.kept hpk (by omega)⟩) | (obtain ⟨A5, c5, e, ht⟩ := h; exact ⟨A5, c5, e, ht.kept hpk (by omega)⟩)) | (exact Bool.noConfusion (hw.symm.trans (show _ = true from by kernel_rfl)))); (first | (obtain ⟨A5, c5, e, ht⟩ := h; exact ⟨A5, c5, e, ht.on hb⟩) | (obtain ⟨A5, c5, e, ht⟩ := h; exact ⟨A5, c5, e.on hb, ht.on hb⟩) | (exact MsgAt.on h hb)))
      case hdepp1 =>
        intro ix u u' wv h1 h2
        rw [HVD.out]
        dsimp only
        split <;> intro h <;> first | exact trivial | (rw [← h1]; exact h) | exact h
      case s0_p1 =>
        refine oweP rfl fun a wx val L hG hi hW hV hN hO K hK => ?_
        have e1 : a.tmps[1]? = some (.pointer (some ⟨w.heap.size, 0, none⟩)) := (hO 1 (by kernel_rfl)).trans (by rfl)
        clear hV hN hO
        go_simp
        exact hK.out _ _ (by rw [Vp0, upd_at] <;> (congr 1 <;> omega)) (.inr (.inr (Below.refl _ _))) (⟨fun h => hG.1 (upL_false h), fun h => hG.2.1 (upL_false h), hG.2.2⟩)
      case s1_p1 =>
        refine oweP rfl fun a wx val L hG hi hW hV hN hO K hK => ?_
        have e18 := hN 0 18 (by kernel_rfl) (by kernel_rfl) (by simp)
        have f18 := hV 0 (by kernel_rfl) (by kernel_rfl)
        rw [Vp0] at f18; rw [f18] at e18; clear f18
        clear hV hN hO
        obtain ⟨v0, v1, v2⟩ := hG.2.2.1.cells
        go_simp
        exact hK.out _ _ (by rw [Vp1, upd_at] <;> (congr 1 <;> omega)) (.inr (.inr (Below.refl _ _))) (⟨fun h => hG.1 (upL_false h), fun h => hG.2.1 (upL_false h), hG.2.2⟩)
      case s2_p1 =>
        refine oweP rfl fun a wx val L hG hi hW hV hN hO K hK => ?_
        have e1 : a.tmps[1]? = some (.pointer (some ⟨w.heap.size, 0, none⟩)) := (hO 1 (by kernel_rfl)).trans (by rfl)
        clear hV hN hO
        go_simp
        exact hK.out _ _ (by rw [Vp2, upd_at] <;> (congr 1 <;> omega)) (.inr (.inr (Below.refl _ _))) (⟨fun h => hG.1 (upL_false h), fun h => hG.2.1 (upL_false h), hG.2.2⟩)
      case s3_p1 =>
        refine oweP rfl fun a wx val L hG hi hW hV hN hO K hK => ?_
        have e20 := hN 2 20 (by kernel_rfl) (by kernel_rfl) (by simp)
        have f20 := hV 2 (by kernel_rfl) (by kernel_rfl)
        rw [Vp2] at f20; rw [f20] at e20; clear f20
        clear hV hN hO
        obtain ⟨v0, v1, v2⟩ := hG.2.2.1.cells
        go_simp
        exact hK.out _ _ (by rw [Vp3, upd_at] <;> (congr 1 <;> omega)) (.inr (.inr (Below.refl _ _))) (⟨fun h => hG.1 (upL_false h), fun h => hG.2.1 (upL_false h), hG.2.2⟩)
      case s4_p1 =>
        refine oweP rfl fun a wx val L hG hi hW hV hN hO K hK => ?_
        have e1 : a.tmps[1]? = some (.pointer (some ⟨w.heap.size, 0, none⟩)) := (hO 1 (by kernel_rfl)).trans (by rfl)
        clear hV hN hO
        go_simp
        exact hK.out _ _ (by rw [Vp4, upd_at] <;> (congr 1 <;> omega)) (.inr (.inr (Below.refl _ _))) (⟨fun h => hG.1 (upL_false h), fun h => hG.2.1 (upL_false h), hG.2.2⟩)
      case s5_p1 =>
        refine oweP rfl fun a wx val L hG hi hW hV hN hO K hK => ?_
        have e22 := hN 4 22 (by kernel_rfl) (by kernel_rfl) (by simp)
        have f22 := hV 4 (by kernel_rfl) (by kernel_rfl)
        rw [Vp4] at f22; rw [f22] at e22; clear f22
        clear hV hN hO
        obtain ⟨v0, v1, v2⟩ := hG.2.2.1.cells
        go_simp
        exact hK.out _ _ (by rw [Vp5, upd_at] <;> (congr 1 <;> omega)) (.inr (.inr (Below.refl _ _))) (⟨fun h => hG.1 (upL_false h), fun h => hG.2.1 (upL_false h), hG.2.2⟩)
      case s6_p1 =>
        refine oweP rfl fun a wx val L hG hi hW hV hN hO K hK => ?_
        have e23 := hN 5 23 (by kernel_rfl) (by kernel_rfl) (by simp)
        have f23 := hV 5 (by kernel_rfl) (by kernel_rfl)
        rw [Vp5] at f23; rw [f23] at e23; clear f23
        clear hV hN hO
        go_simp
        exact hK.out _ _ (by rw [Vp6, upd_at] <;> (congr 1 <;> omega)) (.inr (.inr (Below.refl _ _))) (⟨fun h => hG.1 (upL_false h), fun h => hG.2.1 (upL_false h), hG.2.2⟩)
      case s7_p1 =>
        refine oweP rfl fun a wx val L hG hi hW hV hN hO K hK => ?_
        have e24 := hN 6 24 (by kernel_rfl) (by kernel_rfl) (by simp)
        have f24 := hV 6 (by kernel_rfl) (by kernel_rfl)
        rw [Vp6] at f24; rw [f24] at e24; clear f24
        clear hV hN hO
        have hld := HLD.out
        refine wp_appM (.const (.slice none 0 0)) (.tmp 24) rfl (w.heap.size + 3) wx.heap.size _ [] l.tail A1 c1 rfl (by rw [hld]; simp [Act.eval, e24]) (OwnM.nil _ _) (HD1.out _ _ hG.2.2.2.2.1.msgs) hG.2.2.2.2.2 (by rw [hld]; simp; omega) ?_
        intro u' w5 hown5 hg5
        obtain ⟨A5, c5, hu5, -, -⟩ := OwnM.row (show OwnM w5 (w.heap.size + 3) u' l.tail from hown5)
        rw [hld] at hu5
        subst hu5
        have ht5 : OwnM w5 (w.heap.size + 3) (.slice A5 (l.length - 1) c5) l.tail := hown5
        have hb := OwnM.below (OwnM.nil wx wx.heap.size) hg5 (Nat.le_refl _)
        clear hld
        exact hK.out _ _ (by rw [Vp7, upd_at]; exact ⟨A5, c5, rfl, ht5⟩) (.inr (.inr hb)) (⟨fun h => (hG.1 (upL_false h)).on hb, fun h => MsgAt.on (hG.2.1 (upL_false h)) hb, hG.2.2.1.on hb, hG.2.2.2.1.trans (hb.mono hG.2.2.2.1.size), hG.2.2.2.2.1.on hb, Nat.le_trans hG.2.2.2.2.2 hb.size⟩)
      case s8_p1 =>
        refine oweP rfl fun a wx val L hG hi hW hV hN hO K hK => ?_
        have e19 := hN 1 19 (by kernel_rfl) (by kernel_rfl) (by simp)
        have f19 := hV 1 (by kernel_rfl) (by kernel_rfl)
        rw [Vp1] at f19; rw [f19] at e19; clear f19
        have e21 := hN 3 21 (by kernel_rfl) (by kernel_rfl) (by simp)
        have f21 := hV 3 (by kernel_rfl) (by kernel_rfl)
        rw [Vp3] at f21; rw [f21] at e21; clear f21
        have e25 := hN 7 25 (by kernel_rfl) (by kernel_rfl) (by simp)
        have f25 := hV 7 (by kernel_rfl) (by kernel_rfl)
        rw [Vp7] at f25; obtain ⟨A5, c5, hv, ht⟩ := f25; rw [hv] at e25
        clear hV hN hO
        go_simp
        exact hK.out _ _ (by rw [Vp8, upd_at]; exact ⟨A5, c5, rfl, ht⟩) (.inr (.inr (Below.refl _ _))) (⟨fun h => hG.1 (upL_false h), fun h => hG.2.1 (upL_false h), hG.2.2⟩)
      case s9_p1 =>
        refine oweP rfl fun a wx val L hG hi hW hV hN hO K hK => ?_
        have e1 : a.tmps[1]? = some (.pointer (some ⟨w.heap.size, 0, none⟩)) := (hO 1 (by kernel_rfl)).trans (by rfl)
        clear hV hN hO
        go_simp
        exact hK.out _ _ (by rw [Vp9, upd_at] <;> (congr 1 <;> omega)) (.inr (.inr (Below.refl _ _))) (⟨fun h => hG.1 (upL_false h), fun h => hG.2.1 (upL_false h), hG.2.2⟩)
      case s10_p1 =>
        refine oweP rfl fun a wx val L hG hi hW hV hN hO K hK => ?_
        have e27 := hN 9 27 (by kernel_rfl) (by kernel_rfl) (by simp)
        have f27 := hV 9 (by kernel_rfl) (by kernel_rfl)
        rw [Vp9] at f27; rw [f27] at e27; clear f27
        clear hV hN hO
        obtain ⟨v0, v1, v2⟩ := hG.2.2.1.cells
        go_simp
        exact hK.out _ _ (by rw [Vp10, upd_at] <;> (congr 1 <;> omega)) (.inr (.inr (Below.refl _ _))) (⟨fun h => hG.1 (upL_false h), fun h => hG.2.1 (upL_false h), hG.2.2⟩)
      case s11_p1 =>
        refine oweP rfl fun a wx val L hG hi hW hV hN hO K hK => ?_
        have e28 := hN 10 28 (by kernel_rfl) (by kernel_rfl) (by simp)
        have f28 := hV 10 (by kernel_rfl) (by kernel_rfl)
        rw [Vp10] at f28; rw [f28] at e28; clear f28
        clear hV hN hO
        go_simp
        exact hK.out _ _ (by rw [Vp11, upd_at] <;> (congr 1 <;> omega)) (.inr (.inr (Below.refl _ _))) (⟨fun h => hG.1 (upL_false h), fun h => hG.2.1 (upL_false h), hG.2.2⟩)
      case s12_p1 =>
        refine oweP rfl fun a wx val L hG hi hW hV hN hO K hK => ?_
        have e29 := hN 11 29 (by kernel_rfl) (by kernel_rfl) (by simp)
        have f29 := hV 11 (by kernel_rfl) (by kernel_rfl)
        rw [Vp11] at f29; rw [f29] at e29; clear f29
        clear hV hN hO
        obtain ⟨x0, x1, x2, x3, x4, x5, x6⟩ := HC.out _ hG.2.2.2.2.1
        go_simp
        exact hK.out _ _ (by rw [Vp12, upd_at] <;> (congr 1 <;> omega)) (.inr (.inr (Below.refl _ _))) (⟨fun h => hG.1 (upL_false h), fun h => hG.2.1 (upL_false h), hG.2.2⟩)
      case s13_p1 =>
        refine oweP rfl fun a wx val L hG hi hW hV hN hO K hK => ?_
        have e2 : a.tmps[2]? = some (.pointer (some ⟨w.heap.size + 1, 0, none⟩)) := (hO 2 (by kernel_rfl)).trans (by rfl)
        have e26 := hN 8 26 (by kernel_rfl) (by kernel_rfl) (by simp)
        have f26 := hV 8 (by kernel_rfl) (by kernel_rfl)
        rw [Vp8] at f26; obtain ⟨A5, c5, hv, ht⟩ := f26; rw [hv] at e26
        clear hV hN hO
        have hqa := hG.1 hi
        obtain ⟨v0, v1, v2⟩ := hqa.cells
        have vf := hqa.frozen
        have hms := fun h => (hG.2.1 (upL_false (i := 13) h)).put3 (b := w.heap.size + 1) (by omega) (.int .i64 LQ) (.int .i64 T) (.slice A5 (l.length - 1) c5)
        have h1s := hG.2.2.1.put3 (b := w.heap.size + 1) (by omega) (.int .i64 LQ) (.int .i64 T) (.slice A5 (l.length - 1) c5)
        have hbs := below_set3 hG.2.2.2.1 (b := w.heap.size + 1) (by omega) (.int .i64 LQ) (.int .i64 T) (.slice A5 (l.length - 1) c5)
        have hts := ht.put3 (b := w.heap.size + 1) (by omega) (.int .i64 LQ) (.int .i64 T) (.slice A5 (l.length - 1) c5)
        have hqs := HQX.out _ hbs
        have hss := hG.2.2.2.2.2
        have hsz3 := size3 wx (w.heap.size + 1) (.int .i64 LQ) (.int .i64 T) (.slice A5 (l.length - 1) c5)
        go_simp
        exact hK.out undef _ (by rw [Vp13]; exact ⟨A5, c5, hqa.set LQ T A5 (l.length - 1) c5, hts⟩) (.inl rfl) ⟨fun h => (upL_self h).elim, hms, h1s, hbs, hqs, Nat.le_trans hss (Nat.le_of_eq hsz3.symm)⟩
      case s14_p1 =>
        refine oweP rfl fun a wx val L hG hi hW hV hN hO K hK => ?_
        have e3 : a.tmps[3]? = some (.pointer (some ⟨w.heap.size + 2, 0, none⟩)) := (hO 3 (by kernel_rfl)).trans (by rfl)
        have e30 := hN 12 30 (by kernel_rfl) (by kernel_rfl) (by simp)
        have f30 := hV 12 (by kernel_rfl) (by kernel_rfl)
        rw [Vp12] at f30; rw [f30] at e30; clear f30
        clear hV hN hO
        have hma := hG.2.1 hi
        obtain ⟨x0, x1, x2, x3, x4, x5, x6⟩ := hma.cells
        have xf := hma.frozen
        have hpk := fun k (hk : k ≠ w.heap.size + 2) => set7_far wx hk ⟨e1, n1, s1, i1, q1, k1, d1⟩
        have hqz := fun h => (hG.1 (upL_false (i := 14) h)).put7 (b := w.heap.size + 2) (by omega) ⟨e1, n1, s1, i1, q1, k1, d1⟩
        have h1s := hG.2.2.1.put7 (b := w.heap.size + 2) (by omega) ⟨e1, n1, s1, i1, q1, k1, d1⟩
        have hp7 := hma.set7 ⟨e1, n1, s1, i1, q1, k1, d1⟩
        have hb7 := below_set7 hG.2.2.2.1 (b := w.heap.size + 2) (by omega) ⟨e1, n1, s1, i1, q1, k1, d1⟩
        have hqs := HQX.out _ hb7
        have hss := Nat.le_trans hG.2.2.2.2.2 (Nat.le_of_eq (set7_size wx (w.heap.size + 2) ⟨e1, n1, s1, i1, q1, k1, d1⟩).symm)
        unfold set7 at hpk hp7 hb7 hqz h1s hqs hss
        go_simp
        exact hK.out undef _ (by rw [Vp14]; exact hp7) (.inr (.inl ⟨rfl, hpk⟩)) ⟨hqz, fun h => (upL_self h).elim, h1s, hb7, hqs, hss⟩
      case s15_p1 =>
        refine oweP rfl fun a wx val L hG hi hW hV hN hO K hK => ?_
        clear hV hN hO
        go_simp
        exact hK.out _ _ (by rw [Vp15, upd_at] <;> (congr 1 <;> omega)) (.inr (.inr (Below.refl _ _))) (⟨fun h => hG.1 (upL_false h), fun h => hG.2.1 (upL_false h), hG.2.2⟩)
      intro val wx L hG hV
      have f0 := hV 0 (by simp) (fun _ _ => by simp)
      rw [Vp0] at f0
      have f1 := hV 1 (by simp) (fun _ _ => by simp)
      rw [Vp1] at f1
      have f2 := hV 2 (by simp) (fun _ _ => by simp)
      rw [Vp2] at f2
      have f3 := hV 3 (by simp) (fun _ _ => by simp)
      rw [Vp3] at f3
      have f4 := hV 4 (by simp) (fun _ _ => by simp)
      rw [Vp4] at f4
      have f5 := hV 5 (by simp) (fun _ _ => by simp)
      rw [Vp5] at f5
      have f6 := hV 6 (by simp) (fun _ _ => by simp)
      rw [Vp6] at f6
      have f9 := hV 9 (by simp) (fun _ _ => by simp)
      rw [Vp9] at f9
      have f10 := hV 10 (by simp) (fun _ _ => by simp)
      rw [Vp10] at f10
      have f11 := hV 11 (by simp) (fun _ _ => by simp)
      rw [Vp11] at f11
      have f12 := hV 12 (by simp) (fun _ _ => by simp)
      rw [Vp12] at f12
      have f13 := hV 13 (by simp) (fun _ _ => by simp)
      rw [Vp13] at f13
      have f14 := hV 14 (by simp) (fun _ _ => by simp)
      rw [Vp14] at f14
      have f15 := hV 15 (by simp) (fun _ _ => by simp)
      rw [Vp15] at f15
      clear hV Vp0 Vp1 Vp2 Vp3 Vp4 Vp5 Vp6 Vp7 Vp8 Vp9 Vp10 Vp11 Vp12 Vp13 Vp14 Vp15
      simp only [putAll, Act.put, List.setIfInBounds_toArray, List.set_cons_zero, List.set_cons_succ]
      generalize val 0 = z0 at *; (subst f0)
      generalize val 1 = z1 at *; (subst f1)
      generalize val 2 = z2 at *; (subst f2)
      generalize val 3 = z3 at *; (subst f3)
      generalize val 4 = z4 at *; (subst f4)
      generalize val 5 = z5 at *; (subst f5)
      generalize val 6 = z6 at *; (subst f6)
      generalize val 7 = z7 at *
      generalize val 8 = z8 at *
      generalize val 9 = z9 at *; (subst f9)
      generalize val 10 = z10 at *; (subst f10)
      generalize val 11 = z11 at *; (subst f11)
      generalize val 12 = z12 at *; (subst f12)
      generalize val 15 = z15 at *; (subst f15)
      clear HVD
      obtain ⟨A5, c5, hqa, ht⟩ := f13
      have HPP : Hid (FiPostM (some ad) LQ T l.tail ⟨e1, n1, s1, i1, q1, k1, d1⟩ 0 w (.returned (.tuple #[fiv LQ T A5 (l.length - 1) c5, mv ⟨e1, n1, s1, i1, q1, k1, d1⟩, .int .i64 0])) wx) := Lib.hid ⟨A5, c5, by rw [HLD.out], ((QTold.ofOwn (A0 := none) (by rw [HLD.out]; exact ht)).less (by omega)).any, hG.2.2.2.1⟩
      have HQQ := Lib.hid hqa
      have HMM := Lib.hid f14
      clear hG f14 hqa ht
      go_wp2_with fail
      exact bodyPost_ret (fim_res Tryd.results18 HQQ.out HMM.out rfl rfl rfl) rfl HPP.out

end Go.Proofs.YtehajmockicilaaDoor

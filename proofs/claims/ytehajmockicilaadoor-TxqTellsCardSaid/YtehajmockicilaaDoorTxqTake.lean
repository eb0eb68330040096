/-
  What take, Take and Abort tell: the program's side.
-/
import Derived.Test.YtehajmockicilaaDoorTxqFind
import Derived.Deep.DeepCutAuto
namespace Go.Proofs.YtehajmockicilaaDoor
open Go Go.RowKit

set_option maxRecDepth 100000 in
set_option maxHeartbeats 4000000 in
theorem take_num (b : Nat) (n : Int) (LQ : Int) (A : Option Addr) (c : Nat) (l : List Msg) (w : World) (LL : Laid w) (hq : QIn w A c l) (hN : NumAt w b n) :
    Calls Tryd.prog 64 #[qv LQ A l.length c, numF b] w (TakePost LQ A l (l.findIdx (isNum n)) w) := by
  have hfew := hq.few
  have hcap := hq.cap
  have q1 := QAt.new w LQ A l.length c
  have b1 := Joins.below_alloc1 w (.cells #[.int .i64 LQ, .slice A l.length c] 64)
  have q2 := QAt.new (w.alloc (.cells #[.int .i64 LQ, .slice A l.length c] 64)) 0 none 0 0
  have b2 := Joins.below_alloc1 (w.alloc (.cells #[.int .i64 LQ, .slice A l.length c] 64)) (.cells #[.int .i64 0, .slice none 0 0] 64)
  have q3 := MsgAt.new ((w.alloc (.cells #[.int .i64 LQ, .slice A l.length c] 64)).alloc (.cells #[.int .i64 0, .slice none 0 0] 64)) zeroM
  have b3 := Joins.below_alloc1 ((w.alloc (.cells #[.int .i64 LQ, .slice A l.length c] 64)).alloc (.cells #[.int .i64 0, .slice none 0 0] 64)) (.cells (mc zeroM) 26)
  rw [World.size_alloc] at q2
  rw [World.size_alloc, World.size_alloc] at q3
  have q1' := (q1.on b2).on b3
  have q2' := q2.on b3
  have hB := (b1.trans (b2.mono b1.size)).trans (b3.mono (Nat.le_trans b1.size b2.size))
  have hq3 := hq.on hB
  have hL3 := LL.below hB
  have hn1 := hN.on hB
  have hsz : w.heap.size + 3 = (((w.alloc (.cells #[.int .i64 LQ, .slice A l.length c] 64)).alloc (.cells #[.int .i64 0, .slice none 0 0] 64)).alloc (.cells (mc zeroM) 26)).heap.size := by simp only [World.size_alloc]
  simp only [mc, zeroM] at q1' q2' q3 hB hq3 hL3 hsz
  clear q1 q2 b1 b2 b3
  have cf := fun W (hL : Laid W) (h1 : QIn W A c l) (h2 : NumAt W b n) => find_num b n LQ A c l W hL h1 h2
  have hle := find_le (isNum n) l
  have HL : Hid (l.findIdx (isNum n) = l.length → rightQ LQ l = true → cutE LQ l (l.findIdx (isNum n)) = 41 ∧ cutL LQ l (l.findIdx (isNum n)) = l ∧ cutM LQ l (l.findIdx (isNum n)) = zeroM ∧ findI LQ l (l.findIdx (isNum n)) = 0) := Lib.hid (fun h1 h2 => cut_none h2 h1)
  have HO : Hid (∀ m, l[l.findIdx (isNum n)]? = some m → rightQ LQ l = true → cutE LQ l (l.findIdx (isNum n)) = 0 ∧ cutL LQ l (l.findIdx (isNum n)) = l.eraseIdx (l.findIdx (isNum n)) ∧ cutM LQ l (l.findIdx (isNum n)) = m ∧ findI LQ l (l.findIdx (isNum n)) = l.findIdx (isNum n)) := Lib.hid (fun m h1 h2 => cut_one h2 h1)
  have HX : Hid (rightQ LQ l = false → cutE LQ l (l.findIdx (isNum n)) = 1 ∧ cutL LQ l (l.findIdx (isNum n)) = l ∧ cutM LQ l (l.findIdx (isNum n)) = zeroM ∧ findI LQ l (l.findIdx (isNum n)) = 0) := Lib.hid (fun h1 => cut_wrong h1)
  generalize l.findIdx (isNum n) = I at *
  obtain ⟨y0, y1⟩ := q1'.cells
  have HQ := Lib.hid hq
  have HB := Lib.hid hB
  have HQ1 := Lib.hid q1'
  have HQ2 := Lib.hid q2'
  have HM3 : Hid (MsgAt _ (w.heap.size + 2) zeroM) := Lib.hid q3
  have HSZ := Lib.hid hsz
  have HWR : Hid (∀ w' E, Below w.heap.size w w' → cutE LQ l I = E ∧ cutL LQ l I = l ∧ cutM LQ l I = zeroM ∧ findI LQ l I = 0 → TakePost LQ A l I w (.returned (.tuple #[qv LQ A l.length c, mv zeroM, .int .i64 E])) w') := Lib.hid (fun w' E hb h => take_same hb HQ.out h)
  clear hq LL q1' q2' q3 hB hsz
  generalize hR : rightQ LQ l = R at *
  clear hR
  by_cases hbad : R = true ∧ I < l.length
  · obtain ⟨rfl, hlt⟩ := hbad
    have hltI : (I : Int) < (l.length : Int) := by omega
    obtain ⟨m, hm⟩ : ∃ m, l[I]? = some m := ⟨_, List.getElem?_eq_getElem hlt⟩
    obtain ⟨he, hl, hmm, hf⟩ := HO.out m hm rfl
    rw [he, hf] at cf
    have HPO : Hid (∀ w' v, QRes A w.heap.size w' LQ (l.eraseIdx I) v → Below w.heap.size w w' → TakePost LQ A l I w (.returned (.tuple #[v, mv m, .int .i64 0])) w') := Lib.hid (fun w' v h1 h2 => by
      unfold TakePost
      rw [he, hl, hmm]
      exact ⟨v, rfl, h1, h2⟩)
    clear he hl hmm hf
    go_enter Tryd.func64, Tryd.ntmps64
    go_wp2_with fail; refine (cf _ hL3 hq3 hn1).mono ?_; rintro e w1 ⟨rfl, b2⟩
    have HB2 := Lib.hid (HB.out.trans (b2.mono HB.out.size))
    have hq1 := HQ1.out.on b2
    have hq2 := HQ2.out.on b2
    have hm3 := MsgAt.on HM3.out b2
    have hqi := hq3.on b2
    have HSZ2 : Hid (w.heap.size + 3 ≤ w1.heap.size) := Lib.hid (by rw [HSZ.out]; exact b2.size)
    obtain ⟨z0, z1⟩ := hq1.cells
    have HQ1' := Lib.hid hq1
    have HQ2' := Lib.hid hq2
    have HM3' := Lib.hid hm3
    have HQI := Lib.hid hqi
    obtain ⟨ad, rfl, -⟩ := hqi.at hm
    have CW : Hid (∀ W, Below w1.heap.size w1 W → Calls Tryd.prog 84 #[.slice (some ad) l.length c, .int .i64 (I : Int)] W fun e w' => ∃ g, e = .returned (.slice (some ⟨g, 0, none⟩) (l.length - 1) (l.length - 1)) ∧ w1.heap.size ≤ g ∧ BlkM w' g (l.eraseIdx I) ∧ Below W.heap.size W w') := Lib.hid (fun W hW => (without_any (some ad) c l I W (HQI.out.on hW) hlt).mono fun e w' ⟨g, h1, h0, h2, h3⟩ => ⟨g, h1, Nat.le_trans hW.size h0, h2, h3⟩)
    have hdm := hqi.data m (List.mem_of_getElem? hm)
    have CO : Hid (∀ W, Calls Tryd.prog 63 #[mv m] W fun e w' => e = .returned (mv m) ∧ Below W.heap.size W w') := Lib.hid (fun W => owned_any m W (by omega))
    have HC : Hid (∀ W, Below w.heap.size w W → At7 W (ad.add (I * 7)) m) := Lib.hid (fun W hW => by
      obtain ⟨ad', e, h7⟩ := (HQ.out.on hW).at hm
      cases e; exact h7)
    have HEL : Hid ((l.eraseIdx I).length = l.length - 1) := Lib.hid (by rw [List.length_eraseIdx]; simp [hlt])
    clear hq1 hq2 hm3 hqi b2 cf hL3 hq3 hm y0 y1 hdm hn1
    obtain ⟨e1, n1, s1, i1, q1, k1, d1⟩ := m
    simp only [mv] at *
    go_upto_region 4 with (fail)
    clear z0 z1
    have HV : ∃ Vp : Nat → (Nat → Value) → World → Prop, Vp = (fun ix u wv => match ix with
      | 0 => u 0 = .pointer (some ⟨w.heap.size, 0, none⟩)
      | 1 => u 1 = .int .i64 LQ
      | 2 => u 2 = .pointer (some ⟨w.heap.size, 1, none⟩)
      | 3 => u 3 = .slice (some ad) l.length c
      | 4 => u 4 = .int .i64 (I : Int)
      | 5 => ∃ g, u 5 = .slice (some ⟨g, 0, none⟩) (l.length - 1) (l.length - 1) ∧ w1.heap.size ≤ g ∧ BlkM wv g (l.eraseIdx I)
      | 6 => ∃ g, u 6 = .agg #[.int .i64 LQ, .slice (some ⟨g, 0, none⟩) (l.length - 1) (l.length - 1)] ∧ w1.heap.size ≤ g ∧ BlkM wv g (l.eraseIdx I)
      | 7 => u 7 = .pointer (some ⟨w.heap.size, 1, none⟩)
      | 8 => u 8 = .slice (some ad) l.length c
      | 9 => u 9 = .int .i64 (I : Int)
      | 10 => u 10 = .pointer (some (ad.add (I * 7)))
      | 11 => u 11 = .agg #[.bool e1, .int .i64 n1, .int .i64 s1, .int .i64 i1, .int .i64 q1, .int .i64 k1, .string d1]
      | 12 => u 12 = .agg #[.bool e1, .int .i64 n1, .int .i64 s1, .int .i64 i1, .int .i64 q1, .int .i64 k1, .string d1]
      | 13 => ∃ g, QAt wv (w.heap.size + 1) LQ (some ⟨g, 0, none⟩) (l.length - 1) (l.length - 1) ∧ w1.heap.size ≤ g ∧ BlkM wv g (l.eraseIdx I)
      | 14 => MsgAt wv (w.heap.size + 2) ⟨e1, n1, s1, i1, q1, k1, d1⟩
      | 15 => u 15 = .int .i64 0
      | _ => True) := ⟨_, rfl⟩
    obtain ⟨Vp, hVdef⟩ := HV
    have Vp0 : ∀ u wv, Vp 0 u wv = (u 0 = .pointer (some ⟨w.heap.size, 0, none⟩)) := fun u wv => by subst hVdef; rfl
    have Vp1 : ∀ u wv, Vp 1 u wv = (u 1 = .int .i64 LQ) := fun u wv => by subst hVdef; rfl
    have Vp2 : ∀ u wv, Vp 2 u wv = (u 2 = .pointer (some ⟨w.heap.size, 1, none⟩)) := fun u wv => by subst hVdef; rfl
    have Vp3 : ∀ u wv, Vp 3 u wv = (u 3 = .slice (some ad) l.length c) := fun u wv => by subst hVdef; rfl
    have Vp4 : ∀ u wv, Vp 4 u wv = (u 4 = .int .i64 (I : Int)) := fun u wv => by subst hVdef; rfl
    have Vp5 : ∀ u wv, Vp 5 u wv = (∃ g, u 5 = .slice (some ⟨g, 0, none⟩) (l.length - 1) (l.length - 1) ∧ w1.heap.size ≤ g ∧ BlkM wv g (l.eraseIdx I)) := fun u wv => by subst hVdef; rfl
    have Vp6 : ∀ u wv, Vp 6 u wv = (∃ g, u 6 = .agg #[.int .i64 LQ, .slice (some ⟨g, 0, none⟩) (l.length - 1) (l.length - 1)] ∧ w1.heap.size ≤ g ∧ BlkM wv g (l.eraseIdx I)) := fun u wv => by subst hVdef; rfl
    have Vp7 : ∀ u wv, Vp 7 u wv = (u 7 = .pointer (some ⟨w.heap.size, 1, none⟩)) := fun u wv => by subst hVdef; rfl
    have Vp8 : ∀ u wv, Vp 8 u wv = (u 8 = .slice (some ad) l.length c) := fun u wv => by subst hVdef; rfl
    have Vp9 : ∀ u wv, Vp 9 u wv = (u 9 = .int .i64 (I : Int)) := fun u wv => by subst hVdef; rfl
    have Vp10 : ∀ u wv, Vp 10 u wv = (u 10 = .pointer (some (ad.add (I * 7)))) := fun u wv => by subst hVdef; rfl
    have Vp11 : ∀ u wv, Vp 11 u wv = (u 11 = .agg #[.bool e1, .int .i64 n1, .int .i64 s1, .int .i64 i1, .int .i64 q1, .int .i64 k1, .string d1]) := fun u wv => by subst hVdef; rfl
    have Vp12 : ∀ u wv, Vp 12 u wv = (u 12 = .agg #[.bool e1, .int .i64 n1, .int .i64 s1, .int .i64 i1, .int .i64 q1, .int .i64 k1, .string d1]) := fun u wv => by subst hVdef; rfl
    have Vp13 : ∀ u wv, Vp 13 u wv = (∃ g, QAt wv (w.heap.size + 1) LQ (some ⟨g, 0, none⟩) (l.length - 1) (l.length - 1) ∧ w1.heap.size ≤ g ∧ BlkM wv g (l.eraseIdx I)) := fun u wv => by subst hVdef; rfl
    have Vp14 : ∀ u wv, Vp 14 u wv = (MsgAt wv (w.heap.size + 2) ⟨e1, n1, s1, i1, q1, k1, d1⟩) := fun u wv => by subst hVdef; rfl
    have Vp15 : ∀ u wv, Vp 15 u wv = (u 15 = .int .i64 0) := fun u wv => by subst hVdef; rfl
    have HVD := Lib.hid hVdef
    clear hVdef
    refine region_phase (V := Vp) (drop := fun jx ix => (jx == 13 && ix == 5) || (jx == 13 && ix == 6) || (jx == 14 && ix == 5) || (jx == 14 && ix == 6)) (G := fun L wv => (L 13 = false → L 14 = false → Below w1.heap.size w1 wv) ∧ (L 14 = false → MsgAt wv (w.heap.size + 2) zeroM) ∧ (L 14 = false → QAt wv w.heap.size LQ (some ad) l.length c) ∧ Below w.heap.size w wv) (Rel := fun jx wv wv' => jx = 13 ∨ (jx = 14 ∧ ((∀ k, k ≠ w.heap.size + 2 → wv'.heap[k]? = wv.heap[k]?))) ∨ Below wv.heap.size wv wv') (by kernel_rfl) (by kernel_rfl) ⟨fun _ _ => (Below.refl _ _).drew, fun _ => HM3'.out.on (Below.refl _ _).drew, fun _ => HQ1'.out.on (Below.refl _ _).drew, HB2.out.trans ((Below.refl _ _).drew.mono HB2.out.size)⟩ ?hmonop1 ?hdepp1 ⟨?s0_p1, ?s1_p1, ?s2_p1, ?s3_p1, ?s4_p1, ?s5_p1, ?s6_p1, ?s7_p1, ?s8_p1, ?s9_p1, ?s10_p1, ?s11_p1, ?s12_p1, ?s13_p1, ?s14_p1, ?s15_p1, trivial⟩ ?behindp1
    case hmonop1 =>
      intro ix jx u wv wv' hij hw hd hr
      rw [HVD.out]
      dsimp only
      split <;> intro h <;> first | exact trivial | exact h | (rcases hr with rfl | ⟨rfl, hpk⟩ | hb; (focus first | exact absurd rfl hij | (simp at hd; done) | (exact Bool.noConfusion (hw.symm.trans (show _ = true from by kernel_rfl)))); (focus first | exact absurd rfl hij | (simp at hd; done) | (obtain ⟨g, e, hg, hm⟩ := h; exact ⟨g, (hpk _ (by omega)).trans e, hg, (hpk _ (by have := HSZ2.out; omega)).trans hm⟩) | (exact Bool.noConfusion (hw.symm.trans (show _ = true from by kernel_rfl)))); (first | (obtain ⟨g, e, hg, hm⟩ := h; exact ⟨g, e, hg, hm.on hb⟩) | (obtain ⟨g, e, hg, hm⟩ := h; exact ⟨g, e.on hb, hg, hm.on hb⟩) | (exact h.on hb)))
    case hdepp1 =>
      intro ix u u' wv h1 h2
      rw [HVD.out]
      dsimp only
      split <;> intro h <;> first | exact trivial | (rw [← h1]; exact h) | exact h
    case s0_p1 =>
      refine oweP rfl fun a wx val L hG hi hW hV hN hO K hK => ?_
      have e2 : a.tmps[2]? = some (.pointer (some ⟨w.heap.size, 0, none⟩)) := (hO 2 (by kernel_rfl)).trans (by rfl)
      clear hV hN hO
      go_simp
      exact hK.out _ _ (by rw [Vp0, upd_at] <;> (congr 1 <;> omega)) (.inr (.inr (Below.refl _ _))) (⟨fun h h2 => hG.1 (upL_false h) (upL_false h2), fun h => hG.2.1 (upL_false h), fun h => hG.2.2.1 (upL_false h), hG.2.2.2⟩)
    case s1_p1 =>
      refine oweP rfl fun a wx val L hG hi hW hV hN hO K hK => ?_
      have e20 := hN 0 20 (by kernel_rfl) (by kernel_rfl) (by simp)
      have f20 := hV 0 (by kernel_rfl) (by kernel_rfl)
      rw [Vp0] at f20; rw [f20] at e20; clear f20
      clear hV hN hO
      obtain ⟨v0, v1⟩ := (hG.2.2.1 (hW 14 (by kernel_rfl))).cells
      go_simp
      exact hK.out _ _ (by rw [Vp1, upd_at] <;> (congr 1 <;> omega)) (.inr (.inr (Below.refl _ _))) (⟨fun h h2 => hG.1 (upL_false h) (upL_false h2), fun h => hG.2.1 (upL_false h), fun h => hG.2.2.1 (upL_false h), hG.2.2.2⟩)
    case s2_p1 =>
      refine oweP rfl fun a wx val L hG hi hW hV hN hO K hK => ?_
      have e2 : a.tmps[2]? = some (.pointer (some ⟨w.heap.size, 0, none⟩)) := (hO 2 (by kernel_rfl)).trans (by rfl)
      clear hV hN hO
      go_simp
      exact hK.out _ _ (by rw [Vp2, upd_at] <;> (congr 1 <;> omega)) (.inr (.inr (Below.refl _ _))) (⟨fun h h2 => hG.1 (upL_false h) (upL_false h2), fun h => hG.2.1 (upL_false h), fun h => hG.2.2.1 (upL_false h), hG.2.2.2⟩)
    case s3_p1 =>
      refine oweP rfl fun a wx val L hG hi hW hV hN hO K hK => ?_
      have e22 := hN 2 22 (by kernel_rfl) (by kernel_rfl) (by simp)
      have f22 := hV 2 (by kernel_rfl) (by kernel_rfl)
      rw [Vp2] at f22; rw [f22] at e22; clear f22
      clear hV hN hO
      obtain ⟨v0, v1⟩ := (hG.2.2.1 (hW 14 (by kernel_rfl))).cells
      go_simp
      exact hK.out _ _ (by rw [Vp3, upd_at] <;> (congr 1 <;> omega)) (.inr (.inr (Below.refl _ _))) (⟨fun h h2 => hG.1 (upL_false h) (upL_false h2), fun h => hG.2.1 (upL_false h), fun h => hG.2.2.1 (upL_false h), hG.2.2.2⟩)
    case s4_p1 =>
      refine oweP rfl fun a wx val L hG hi hW hV hN hO K hK => ?_
      have e7 : a.tmps[7]? = some (.int .i64 (I : Int)) := (hO 7 (by kernel_rfl)).trans (by rfl)
      clear hV hN hO
      go_simp
      exact hK.out _ _ (by rw [Vp4, upd_at] <;> (congr 1 <;> omega)) (.inr (.inr (Below.refl _ _))) (⟨fun h h2 => hG.1 (upL_false h) (upL_false h2), fun h => hG.2.1 (upL_false h), fun h => hG.2.2.1 (upL_false h), hG.2.2.2⟩)
    case s5_p1 =>
      refine oweP rfl fun a wx val L hG hi hW hV hN hO K hK => ?_
      have e23 := hN 3 23 (by kernel_rfl) (by kernel_rfl) (by simp)
      have f23 := hV 3 (by kernel_rfl) (by kernel_rfl)
      rw [Vp3] at f23; rw [f23] at e23; clear f23
      have e24 := hN 4 24 (by kernel_rfl) (by kernel_rfl) (by simp)
      have f24 := hV 4 (by kernel_rfl) (by kernel_rfl)
      rw [Vp4] at f24; rw [f24] at e24; clear f24
      clear hV hN hO
      have h9 := hG.1 (hW 13 (by kernel_rfl)) (hW 14 (by kernel_rfl))
      go_simp
      refine (CW.out _ h9).mono ?_
      rintro e w11 ⟨g, rfl, hg9, hgg, hb⟩
      exact hK.out _ _ (by rw [Vp5, upd_at]; exact ⟨g, rfl, hg9, hgg⟩) (.inr (.inr hb)) (⟨fun h h2 => (hG.1 (upL_false h) (upL_false h2)).trans (hb.mono (hG.1 (upL_false h) (upL_false h2)).size), fun h => (hG.2.1 (upL_false h)).on hb, fun h => (hG.2.2.1 (upL_false h)).on hb, hG.2.2.2.trans (hb.mono hG.2.2.2.size)⟩)
    case s6_p1 =>
      refine oweP rfl fun a wx val L hG hi hW hV hN hO K hK => ?_
      have e21 := hN 1 21 (by kernel_rfl) (by kernel_rfl) (by simp)
      have f21 := hV 1 (by kernel_rfl) (by kernel_rfl)
      rw [Vp1] at f21; rw [f21] at e21; clear f21
      have e25 := hN 5 25 (by kernel_rfl) (by kernel_rfl) (by simp)
      have f25 := hV 5 (by kernel_rfl) (by kernel_rfl)
      rw [Vp5] at f25; obtain ⟨g, hv, hg9, hgg⟩ := f25; rw [hv] at e25
      clear hV hN hO
      go_simp
      exact hK.out _ _ (by rw [Vp6, upd_at]; exact ⟨g, rfl, hg9, hgg⟩) (.inr (.inr (Below.refl _ _))) (⟨fun h h2 => hG.1 (upL_false h) (upL_false h2), fun h => hG.2.1 (upL_false h), fun h => hG.2.2.1 (upL_false h), hG.2.2.2⟩)
    case s7_p1 =>
      refine oweP rfl fun a wx val L hG hi hW hV hN hO K hK => ?_
      have e2 : a.tmps[2]? = some (.pointer (some ⟨w.heap.size, 0, none⟩)) := (hO 2 (by kernel_rfl)).trans (by rfl)
      clear hV hN hO
      go_simp
      exact hK.out _ _ (by rw [Vp7, upd_at] <;> (congr 1 <;> omega)) (.inr (.inr (Below.refl _ _))) (⟨fun h h2 => hG.1 (upL_false h) (upL_false h2), fun h => hG.2.1 (upL_false h), fun h => hG.2.2.1 (upL_false h), hG.2.2.2⟩)
    case s8_p1 =>
      refine oweP rfl fun a wx val L hG hi hW hV hN hO K hK => ?_
      have e27 := hN 7 27 (by kernel_rfl) (by kernel_rfl) (by simp)
      have f27 := hV 7 (by kernel_rfl) (by kernel_rfl)
      rw [Vp7] at f27; rw [f27] at e27; clear f27
      clear hV hN hO
      obtain ⟨v0, v1⟩ := (hG.2.2.1 (hW 14 (by kernel_rfl))).cells
      go_simp
      exact hK.out _ _ (by rw [Vp8, upd_at] <;> (congr 1 <;> omega)) (.inr (.inr (Below.refl _ _))) (⟨fun h h2 => hG.1 (upL_false h) (upL_false h2), fun h => hG.2.1 (upL_false h), fun h => hG.2.2.1 (upL_false h), hG.2.2.2⟩)
    case s9_p1 =>
      refine oweP rfl fun a wx val L hG hi hW hV hN hO K hK => ?_
      have e7 : a.tmps[7]? = some (.int .i64 (I : Int)) := (hO 7 (by kernel_rfl)).trans (by rfl)
      clear hV hN hO
      go_simp
      exact hK.out _ _ (by rw [Vp9, upd_at] <;> (congr 1 <;> omega)) (.inr (.inr (Below.refl _ _))) (⟨fun h h2 => hG.1 (upL_false h) (upL_false h2), fun h => hG.2.1 (upL_false h), fun h => hG.2.2.1 (upL_false h), hG.2.2.2⟩)
    case s10_p1 =>
      refine oweP rfl fun a wx val L hG hi hW hV hN hO K hK => ?_
      have e28 := hN 8 28 (by kernel_rfl) (by kernel_rfl) (by simp)
      have f28 := hV 8 (by kernel_rfl) (by kernel_rfl)
      rw [Vp8] at f28; rw [f28] at e28; clear f28
      have e29 := hN 9 29 (by kernel_rfl) (by kernel_rfl) (by simp)
      have f29 := hV 9 (by kernel_rfl) (by kernel_rfl)
      rw [Vp9] at f29; rw [f29] at e29; clear f29
      clear hV hN hO
      go_simp
      exact hK.out _ _ (by rw [Vp10, upd_at] <;> (congr 1 <;> omega)) (.inr (.inr (Below.refl _ _))) (⟨fun h h2 => hG.1 (upL_false h) (upL_false h2), fun h => hG.2.1 (upL_false h), fun h => hG.2.2.1 (upL_false h), hG.2.2.2⟩)
    case s11_p1 =>
      refine oweP rfl fun a wx val L hG hi hW hV hN hO K hK => ?_
      have e30 := hN 10 30 (by kernel_rfl) (by kernel_rfl) (by simp)
      have f30 := hV 10 (by kernel_rfl) (by kernel_rfl)
      rw [Vp10] at f30; rw [f30] at e30; clear f30
      clear hV hN hO
      obtain ⟨x0, x1, x2, x3, x4, x5, x6⟩ := HC.out _ hG.2.2.2
      go_simp
      exact hK.out _ _ (by rw [Vp11, upd_at] <;> (congr 1 <;> omega)) (.inr (.inr (Below.refl _ _))) (⟨fun h h2 => hG.1 (upL_false h) (upL_false h2), fun h => hG.2.1 (upL_false h), fun h => hG.2.2.1 (upL_false h), hG.2.2.2⟩)
    case s12_p1 =>
      refine oweP rfl fun a wx val L hG hi hW hV hN hO K hK => ?_
      have e31 := hN 11 31 (by kernel_rfl) (by kernel_rfl) (by simp)
      have f31 := hV 11 (by kernel_rfl) (by kernel_rfl)
      rw [Vp11] at f31; rw [f31] at e31; clear f31
      clear hV hN hO
      go_simp
      refine (CO.out _).mono ?_
      rintro e w11 ⟨rfl, hb⟩
      exact hK.out _ _ (by rw [Vp12, upd_at]) (.inr (.inr (hb))) (⟨fun h h2 => (hG.1 (upL_false h) (upL_false h2)).trans (hb.mono (hG.1 (upL_false h) (upL_false h2)).size), fun h => (hG.2.1 (upL_false h)).on hb, fun h => (hG.2.2.1 (upL_false h)).on hb, hG.2.2.2.trans (hb.mono hG.2.2.2.size)⟩)
    case s13_p1 =>
      refine oweP rfl fun a wx val L hG hi hW hV hN hO K hK => ?_
      have e4 : a.tmps[4]? = some (.pointer (some ⟨w.heap.size + 1, 0, none⟩)) := (hO 4 (by kernel_rfl)).trans (by rfl)
      have e26 := hN 6 26 (by kernel_rfl) (by kernel_rfl) (by simp)
      have f26 := hV 6 (by kernel_rfl) (by kernel_rfl)
      rw [Vp6] at f26; obtain ⟨g, hv, hg9, hgg⟩ := f26; rw [hv] at e26
      clear hV hN hO
      have h9 := hG.1 hi (hW 14 (by kernel_rfl))
      have hqa := HQ2'.out.on h9
      obtain ⟨v0, v1⟩ := hqa.cells
      have vf := hqa.frozen
      have hs3 := HSZ2.out
      have hgs := blk_far2 hgg (b := w.heap.size + 1) (by omega) (.int .i64 LQ) (.slice (some ⟨g, 0, none⟩) (l.length - 1) (l.length - 1))
      have hms := fun h => msg_far2 (hG.2.1 (upL_false (i := 13) h)) (b := w.heap.size + 1) (by omega) (.int .i64 LQ) (.slice (some ⟨g, 0, none⟩) (l.length - 1) (l.length - 1))
      have hqs := fun h => que_far2 (hG.2.2.1 (upL_false (i := 13) h)) (b := w.heap.size + 1) (by omega) (.int .i64 LQ) (.slice (some ⟨g, 0, none⟩) (l.length - 1) (l.length - 1))
      have hbs := below_set2 hG.2.2.2 (b := w.heap.size + 1) (by omega) (.int .i64 LQ) (.slice (some ⟨g, 0, none⟩) (l.length - 1) (l.length - 1))
      go_simp
      exact hK.out undef _ (by rw [Vp13]; exact ⟨g, hqa.set LQ (some ⟨g, 0, none⟩) (l.length - 1) (l.length - 1), hg9, hgs⟩) (.inl rfl) ⟨fun h => (upL_self h).elim, hms, hqs, hbs⟩
    case s14_p1 =>
      refine oweP rfl fun a wx val L hG hi hW hV hN hO K hK => ?_
      have e5 : a.tmps[5]? = some (.pointer (some ⟨w.heap.size + 2, 0, none⟩)) := (hO 5 (by kernel_rfl)).trans (by rfl)
      have e32 := hN 12 32 (by kernel_rfl) (by kernel_rfl) (by simp)
      have f32 := hV 12 (by kernel_rfl) (by kernel_rfl)
      rw [Vp12] at f32; rw [f32] at e32; clear f32
      clear hV hN hO
      have hma := hG.2.1 hi
      obtain ⟨x0, x1, x2, x3, x4, x5, x6⟩ := hma.cells
      have xf := hma.frozen
      have hpk := fun k (hk : k ≠ w.heap.size + 2) => set7_far wx hk ⟨e1, n1, s1, i1, q1, k1, d1⟩
      have hp7 := hma.set7 ⟨e1, n1, s1, i1, q1, k1, d1⟩
      have hb7 := below_set7 hG.2.2.2 (b := w.heap.size + 2) (by omega) ⟨e1, n1, s1, i1, q1, k1, d1⟩
      unfold set7 at hpk hp7 hb7
      go_simp
      exact hK.out undef _ (by rw [Vp14]; exact hp7) (.inr (.inl ⟨rfl, hpk⟩)) ⟨fun _ h => (upL_self h).elim, fun h => (upL_self h).elim, fun h => (upL_self h).elim, hb7⟩
    case s15_p1 =>
      refine oweP rfl fun a wx val L hG hi hW hV hN hO K hK => ?_
      clear hV hN hO
      go_simp
      exact hK.out _ _ (by rw [Vp15, upd_at] <;> (congr 1 <;> omega)) (.inr (.inr (Below.refl _ _))) (⟨fun h h2 => hG.1 (upL_false h) (upL_false h2), fun h => hG.2.1 (upL_false h), fun h => hG.2.2.1 (upL_false h), hG.2.2.2⟩)
    intro val wx L hG hV
    have f0 := hV 0 (by simp) (fun _ _ => by simp)
    rw [Vp0] at f0
    have f1 := hV 1 (by simp) (fun _ _ => by simp)
    rw [Vp1] at f1
    have f2 := hV 2 (by simp) (fun _ _ => by simp)
    rw [Vp2] at f2
    have f3 := hV 3 (by simp) (fun _ _ => by simp)
    rw [Vp3] at f3
    have f4 := hV 4 (by simp) (fun _ _ => by simp)
    rw [Vp4] at f4
    have f7 := hV 7 (by simp) (fun _ _ => by simp)
    rw [Vp7] at f7
    have f8 := hV 8 (by simp) (fun _ _ => by simp)
    rw [Vp8] at f8
    have f9 := hV 9 (by simp) (fun _ _ => by simp)
    rw [Vp9] at f9
    have f10 := hV 10 (by simp) (fun _ _ => by simp)
    rw [Vp10] at f10
    have f11 := hV 11 (by simp) (fun _ _ => by simp)
    rw [Vp11] at f11
    have f12 := hV 12 (by simp) (fun _ _ => by simp)
    rw [Vp12] at f12
    have f13 := hV 13 (by simp) (fun _ _ => by simp)
    rw [Vp13] at f13
    have f14 := hV 14 (by simp) (fun _ _ => by simp)
    rw [Vp14] at f14
    have f15 := hV 15 (by simp) (fun _ _ => by simp)
    rw [Vp15] at f15
    clear hV Vp0 Vp1 Vp2 Vp3 Vp4 Vp5 Vp6 Vp7 Vp8 Vp9 Vp10 Vp11 Vp12 Vp13 Vp14 Vp15
    simp only [putAll, Act.put, List.setIfInBounds_toArray, List.set_cons_zero, List.set_cons_succ]
    generalize val 0 = z0 at *; (subst f0)
    generalize val 1 = z1 at *; (subst f1)
    generalize val 2 = z2 at *; (subst f2)
    generalize val 3 = z3 at *; (subst f3)
    generalize val 4 = z4 at *; (subst f4)
    generalize val 5 = z5 at *
    generalize val 6 = z6 at *
    generalize val 7 = z7 at *; (subst f7)
    generalize val 8 = z8 at *; (subst f8)
    generalize val 9 = z9 at *; (subst f9)
    generalize val 10 = z10 at *; (subst f10)
    generalize val 11 = z11 at *; (subst f11)
    generalize val 12 = z12 at *; (subst f12)
    generalize val 15 = z15 at *; (subst f15)
    clear HVD
    obtain ⟨g, hqa, hg9, hgg⟩ := f13
    have hE := HEL.out
    have hqr : QRes (some ad) w.heap.size wx LQ (l.eraseIdx I) (qv LQ (some ⟨g, 0, none⟩) (l.length - 1) (l.length - 1)) := ⟨_, _, by rw [hE], by rw [hE]; exact Nat.le_refl _, hgg.msgs, fun ad e => (by cases e; exact hgg.lt), .inr fun ad e => (by cases e; exact Nat.le_trans (by have := HSZ2.out; omega) hg9)⟩
    have hpo := HPO.out _ _ hqr hG.2.2.2
    have HPP := Lib.hid hpo
    have HQQ := Lib.hid hqa
    have HMM := Lib.hid f14
    clear hqr hpo hqa hgg f14 hE
    go_wp2_with fail
    exact bodyPost_ret (qm_res Tryd.results64 HQQ.out HMM.out rfl rfl rfl) rfl HPP.out
  · have hE : ∃ E, E ≠ 0 ∧ cutE LQ l I = E ∧ cutL LQ l I = l ∧ cutM LQ l I = zeroM ∧ findI LQ l I = 0 := by
      cases R
      · exact ⟨1, by decide, HX.out rfl⟩
      · exact ⟨41, by decide, HL.out (by have h2 : ¬ I < l.length := fun h => hbad ⟨rfl, h⟩; omega) rfl⟩
    obtain ⟨E, hE0, hE⟩ := hE
    have hf := hE
    rw [hf.1, hf.2.2.2] at cf
    have hne : ((E : Int) != 0) = true := by simpa using hE0
    have HEE := Lib.hid hE
    clear hf hE hE0
    go_enter Tryd.func64, Tryd.ntmps64
    go_wp2_with fail; refine (cf _ hL3 hq3 hn1).mono ?_; rintro e w1 ⟨rfl, b2⟩
    have HB2 := Lib.hid (HB.out.trans (b2.mono HB.out.size))
    have hq1 := HQ1.out.on b2
    have hq2 := HQ2.out.on b2
    have hm3 := MsgAt.on HM3.out b2
    obtain ⟨z0, z1⟩ := hq1.cells
    obtain ⟨v0, v1⟩ := hq2.cells
    have vf := hq2.frozen
    obtain ⟨x0, x1, x2, x3, x4, x5, x6⟩ := hm3.cells
    have xf := hm3.frozen
    simp only [zeroM] at x0 x1 x2 x3 x4 x5 x6
    have hqs := hq2.set LQ A l.length c
    have HQS := Lib.hid hqs
    have hms : MsgAt ((w1.setCell ⟨w.heap.size + 1, 0, none⟩ (.int .i64 LQ)).setCell ⟨w.heap.size + 1, 1, none⟩ (.slice A l.length c)) (w.heap.size + 2) zeroM := by
      unfold MsgAt
      rw [Below.heap_setCell _ _ _ _ (by show w.heap.size + 2 ≠ w.heap.size + 1; omega), Below.heap_setCell _ _ _ _ (by show w.heap.size + 2 ≠ w.heap.size + 1; omega)]
      exact hm3
    have HMS := Lib.hid hms
    have HB3 := Lib.hid (below_set2 HB2.out (b := w.heap.size + 1) (by omega) (.int .i64 LQ) (.slice A l.length c))
    clear hq1 hq2 hm3 b2 cf hL3 hq3 hqs hms y0 y1 hn1
    go_wp2_with fail
    have hp7 := HMS.out.set7 zeroM
    have hq7 := que_far7 HQS.out (b := w.heap.size + 2) (by omega) zeroM
    have hb7 := below_set7 HB3.out (b := w.heap.size + 2) (by omega) zeroM
    simp only [set7, zeroM] at hp7 hq7 hb7
    exact bodyPost_ret (qm_res Tryd.results64 hq7 hp7 rfl rfl rfl) rfl (HWR.out _ E hb7 HEE.out)

set_option maxRecDepth 100000 in
set_option maxHeartbeats 4000000 in
theorem take_all (_z : Nat) (LQ : Int) (A : Option Addr) (c : Nat) (l : List Msg) (w : World) (LL : Laid w) (hq : QIn w A c l) :
    Calls Tryd.prog 64 #[qv LQ A l.length c, anyF] w (TakePost LQ A l (l.findIdx (isAny)) w) := by
  have hfew := hq.few
  have hcap := hq.cap
  have q1 := QAt.new w LQ A l.length c
  have b1 := Joins.below_alloc1 w (.cells #[.int .i64 LQ, .slice A l.length c] 64)
  have q2 := QAt.new (w.alloc (.cells #[.int .i64 LQ, .slice A l.length c] 64)) 0 none 0 0
  have b2 := Joins.below_alloc1 (w.alloc (.cells #[.int .i64 LQ, .slice A l.length c] 64)) (.cells #[.int .i64 0, .slice none 0 0] 64)
  have q3 := MsgAt.new ((w.alloc (.cells #[.int .i64 LQ, .slice A l.length c] 64)).alloc (.cells #[.int .i64 0, .slice none 0 0] 64)) zeroM
  have b3 := Joins.below_alloc1 ((w.alloc (.cells #[.int .i64 LQ, .slice A l.length c] 64)).alloc (.cells #[.int .i64 0, .slice none 0 0] 64)) (.cells (mc zeroM) 26)
  rw [World.size_alloc] at q2
  rw [World.size_alloc, World.size_alloc] at q3
  have q1' := (q1.on b2).on b3
  have q2' := q2.on b3
  have hB := (b1.trans (b2.mono b1.size)).trans (b3.mono (Nat.le_trans b1.size b2.size))
  have hq3 := hq.on hB
  have hL3 := LL.below hB
  skip
  have hsz : w.heap.size + 3 = (((w.alloc (.cells #[.int .i64 LQ, .slice A l.length c] 64)).alloc (.cells #[.int .i64 0, .slice none 0 0] 64)).alloc (.cells (mc zeroM) 26)).heap.size := by simp only [World.size_alloc]
  simp only [mc, zeroM] at q1' q2' q3 hB hq3 hL3 hsz
  clear q1 q2 b1 b2 b3
  have cf := fun W (hL : Laid W) (h1 : QIn W A c l) => find_all 0 LQ A c l W hL h1
  have hle := find_le (isAny) l
  have HL : Hid (l.findIdx (isAny) = l.length → rightQ LQ l = true → cutE LQ l (l.findIdx (isAny)) = 41 ∧ cutL LQ l (l.findIdx (isAny)) = l ∧ cutM LQ l (l.findIdx (isAny)) = zeroM ∧ findI LQ l (l.findIdx (isAny)) = 0) := Lib.hid (fun h1 h2 => cut_none h2 h1)
  have HO : Hid (∀ m, l[l.findIdx (isAny)]? = some m → rightQ LQ l = true → cutE LQ l (l.findIdx (isAny)) = 0 ∧ cutL LQ l (l.findIdx (isAny)) = l.eraseIdx (l.findIdx (isAny)) ∧ cutM LQ l (l.findIdx (isAny)) = m ∧ findI LQ l (l.findIdx (isAny)) = l.findIdx (isAny)) := Lib.hid (fun m h1 h2 => cut_one h2 h1)
  have HX : Hid (rightQ LQ l = false → cutE LQ l (l.findIdx (isAny)) = 1 ∧ cutL LQ l (l.findIdx (isAny)) = l ∧ cutM LQ l (l.findIdx (isAny)) = zeroM ∧ findI LQ l (l.findIdx (isAny)) = 0) := Lib.hid (fun h1 => cut_wrong h1)
  generalize l.findIdx (isAny) = I at *
  obtain ⟨y0, y1⟩ := q1'.cells
  have HQ := Lib.hid hq
  have HB := Lib.hid hB
  have HQ1 := Lib.hid q1'
  have HQ2 := Lib.hid q2'
  have HM3 : Hid (MsgAt _ (w.heap.size + 2) zeroM) := Lib.hid q3
  have HSZ := Lib.hid hsz
  have HWR : Hid (∀ w' E, Below w.heap.size w w' → cutE LQ l I = E ∧ cutL LQ l I = l ∧ cutM LQ l I = zeroM ∧ findI LQ l I = 0 → TakePost LQ A l I w (.returned (.tuple #[qv LQ A l.length c, mv zeroM, .int .i64 E])) w') := Lib.hid (fun w' E hb h => take_same hb HQ.out h)
  clear hq LL q1' q2' q3 hB hsz
  generalize hR : rightQ LQ l = R at *
  clear hR
  by_cases hbad : R = true ∧ I < l.length
  · obtain ⟨rfl, hlt⟩ := hbad
    have hltI : (I : Int) < (l.length : Int) := by omega
    obtain ⟨m, hm⟩ : ∃ m, l[I]? = some m := ⟨_, List.getElem?_eq_getElem hlt⟩
    obtain ⟨he, hl, hmm, hf⟩ := HO.out m hm rfl
    rw [he, hf] at cf
    have HPO : Hid (∀ w' v, QRes A w.heap.size w' LQ (l.eraseIdx I) v → Below w.heap.size w w' → TakePost LQ A l I w (.returned (.tuple #[v, mv m, .int .i64 0])) w') := Lib.hid (fun w' v h1 h2 => by
      unfold TakePost
      rw [he, hl, hmm]
      exact ⟨v, rfl, h1, h2⟩)
    clear he hl hmm hf
    go_enter Tryd.func64, Tryd.ntmps64
    go_wp2_with fail; refine (cf _ hL3 hq3).mono ?_; rintro e w1 ⟨rfl, b2⟩
    have HB2 := Lib.hid (HB.out.trans (b2.mono HB.out.size))
    have hq1 := HQ1.out.on b2
    have hq2 := HQ2.out.on b2
    have hm3 := MsgAt.on HM3.out b2
    have hqi := hq3.on b2
    have HSZ2 : Hid (w.heap.size + 3 ≤ w1.heap.size) := Lib.hid (by rw [HSZ.out]; exact b2.size)
    obtain ⟨z0, z1⟩ := hq1.cells
    have HQ1' := Lib.hid hq1
    have HQ2' := Lib.hid hq2
    have HM3' := Lib.hid hm3
    have HQI := Lib.hid hqi
    obtain ⟨ad, rfl, -⟩ := hqi.at hm
    have CW : Hid (∀ W, Below w1.heap.size w1 W → Calls Tryd.prog 84 #[.slice (some ad) l.length c, .int .i64 (I : Int)] W fun e w' => ∃ g, e = .returned (.slice (some ⟨g, 0, none⟩) (l.length - 1) (l.length - 1)) ∧ w1.heap.size ≤ g ∧ BlkM w' g (l.eraseIdx I) ∧ Below W.heap.size W w') := Lib.hid (fun W hW => (without_any (some ad) c l I W (HQI.out.on hW) hlt).mono fun e w' ⟨g, h1, h0, h2, h3⟩ => ⟨g, h1, Nat.le_trans hW.size h0, h2, h3⟩)
    have hdm := hqi.data m (List.mem_of_getElem? hm)
    have CO : Hid (∀ W, Calls Tryd.prog 63 #[mv m] W fun e w' => e = .returned (mv m) ∧ Below W.heap.size W w') := Lib.hid (fun W => owned_any m W (by omega))
    have HC : Hid (∀ W, Below w.heap.size w W → At7 W (ad.add (I * 7)) m) := Lib.hid (fun W hW => by
      obtain ⟨ad', e, h7⟩ := (HQ.out.on hW).at hm
      cases e; exact h7)
    have HEL : Hid ((l.eraseIdx I).length = l.length - 1) := Lib.hid (by rw [List.length_eraseIdx]; simp [hlt])
    clear hq1 hq2 hm3 hqi b2 cf hL3 hq3 hm y0 y1 hdm
    obtain ⟨e1, n1, s1, i1, q1, k1, d1⟩ := m
    simp only [mv] at *
    go_upto_region 4 with (fail)
    clear z0 z1
    have HV : ∃ Vp : Nat → (Nat → Value) → World → Prop, Vp = (fun ix u wv => match ix with
      | 0 => u 0 = .pointer (some ⟨w.heap.size, 0, none⟩)
      | 1 => u 1 = .int .i64 LQ
      | 2 => u 2 = .pointer (some ⟨w.heap.size, 1, none⟩)
      | 3 => u 3 = .slice (some ad) l.length c
      | 4 => u 4 = .int .i64 (I : Int)
      | 5 => ∃ g, u 5 = .slice (some ⟨g, 0, none⟩) (l.length - 1) (l.length - 1) ∧ w1.heap.size ≤ g ∧ BlkM wv g (l.eraseIdx I)
      | 6 => ∃ g, u 6 = .agg #[.int .i64 LQ, .slice (some ⟨g, 0, none⟩) (l.length - 1) (l.length - 1)] ∧ w1.heap.size ≤ g ∧ BlkM wv g (l.eraseIdx I)
      | 7 => u 7 = .pointer (some ⟨w.heap.size, 1, none⟩)
      | 8 => u 8 = .slice (some ad) l.length c
      | 9 => u 9 = .int .i64 (I : Int)
      | 10 => u 10 = .pointer (some (ad.add (I * 7)))
      | 11 => u 11 = .agg #[.bool e1, .int .i64 n1, .int .i64 s1, .int .i64 i1, .int .i64 q1, .int .i64 k1, .string d1]
      | 12 => u 12 = .agg #[.bool e1, .int .i64 n1, .int .i64 s1, .int .i64 i1, .int .i64 q1, .int .i64 k1, .string d1]
      | 13 => ∃ g, QAt wv (w.heap.size + 1) LQ (some ⟨g, 0, none⟩) (l.length - 1) (l.length - 1) ∧ w1.heap.size ≤ g ∧ BlkM wv g (l.eraseIdx I)
      | 14 => MsgAt wv (w.heap.size + 2) ⟨e1, n1, s1, i1, q1, k1, d1⟩
      | 15 => u 15 = .int .i64 0
      | _ => True) := ⟨_, rfl⟩
    obtain ⟨Vp, hVdef⟩ := HV
    have Vp0 : ∀ u wv, Vp 0 u wv = (u 0 = .pointer (some ⟨w.heap.size, 0, none⟩)) := fun u wv => by subst hVdef; rfl
    have Vp1 : ∀ u wv, Vp 1 u wv = (u 1 = .int .i64 LQ) := fun u wv => by subst hVdef; rfl
    have Vp2 : ∀ u wv, Vp 2 u wv = (u 2 = .pointer (some ⟨w.heap.size, 1, none⟩)) := fun u wv => by subst hVdef; rfl
    have Vp3 : ∀ u wv, Vp 3 u wv = (u 3 = .slice (some ad) l.length c) := fun u wv => by subst hVdef; rfl
    have Vp4 : ∀ u wv, Vp 4 u wv = (u 4 = .int .i64 (I : Int)) := fun u wv => by subst hVdef; rfl
    have Vp5 : ∀ u wv, Vp 5 u wv = (∃ g, u 5 = .slice (some ⟨g, 0, none⟩) (l.length - 1) (l.length - 1) ∧ w1.heap.size ≤ g ∧ BlkM wv g (l.eraseIdx I)) := fun u wv => by subst hVdef; rfl
    have Vp6 : ∀ u wv, Vp 6 u wv = (∃ g, u 6 = .agg #[.int .i64 LQ, .slice (some ⟨g, 0, none⟩) (l.length - 1) (l.length - 1)] ∧ w1.heap.size ≤ g ∧ BlkM wv g (l.eraseIdx I)) := fun u wv => by subst hVdef; rfl
    have Vp7 : ∀ u wv, Vp 7 u wv = (u 7 = .pointer (some ⟨w.heap.size, 1, none⟩)) := fun u wv => by subst hVdef; rfl
    have Vp8 : ∀ u wv, Vp 8 u wv = (u 8 = .slice (some ad) l.length c) := fun u wv => by subst hVdef; rfl
    have Vp9 : ∀ u wv, Vp 9 u wv = (u 9 = .int .i64 (I : Int)) := fun u wv => by subst hVdef; rfl
    have Vp10 : ∀ u wv, Vp 10 u wv = (u 10 = .pointer (some (ad.add (I * 7)))) := fun u wv => by subst hVdef; rfl
    have Vp11 : ∀ u wv, Vp 11 u wv = (u 11 = .agg #[.bool e1, .int .i64 n1, .int .i64 s1, .int .i64 i1, .int .i64 q1, .int .i64 k1, .string d1]) := fun u wv => by subst hVdef; rfl
    have Vp12 : ∀ u wv, Vp 12 u wv = (u 12 = .agg #[.bool e1, .int .i64 n1, .int .i64 s1, .int .i64 i1, .int .i64 q1, .int .i64 k1, .string d1]) := fun u wv => by subst hVdef; rfl
    have Vp13 : ∀ u wv, Vp 13 u wv = (∃ g, QAt wv (w.heap.size + 1) LQ (some ⟨g, 0, none⟩) (l.length - 1) (l.length - 1) ∧ w1.heap.size ≤ g ∧ BlkM wv g (l.eraseIdx I)) := fun u wv => by subst hVdef; rfl
    have Vp14 : ∀ u wv, Vp 14 u wv = (MsgAt wv (w.heap.size + 2) ⟨e1, n1, s1, i1, q1, k1, d1⟩) := fun u wv => by subst hVdef; rfl
    have Vp15 : ∀ u wv, Vp 15 u wv = (u 15 = .int .i64 0) := fun u wv => by subst hVdef; rfl
    have HVD := Lib.hid hVdef
    clear hVdef
    refine region_phase (V := Vp) (drop := fun jx ix => (jx == 13 && ix == 5) || (jx == 13 && ix == 6) || (jx == 14 && ix == 5) || (jx == 14 && ix == 6)) (G := fun L wv => (L 13 = false → L 14 = false → Below w1.heap.size w1 wv) ∧ (L 14 = false → MsgAt wv (w.heap.size + 2) zeroM) ∧ (L 14 = false → QAt wv w.heap.size LQ (some ad) l.length c) ∧ Below w.heap.size w wv) (Rel := fun jx wv wv' => jx = 13 ∨ (jx = 14 ∧ ((∀ k, k ≠ w.heap.size + 2 → wv'.heap[k]? = wv.heap[k]?))) ∨ Below wv.heap.size wv wv') (by kernel_rfl) (by kernel_rfl) ⟨fun _ _ => (Below.refl _ _).drew, fun _ => HM3'.out.on (Below.refl _ _).drew, fun _ => HQ1'.out.on (Below.refl _ _).drew, HB2.out.trans ((Below.refl _ _).drew.mono HB2.out.size)⟩ ?hmonop2 ?hdepp2 ⟨?s0_p2, ?s1_p2, ?s2_p2, ?s3_p2, ?s4_p2, ?s5_p2, ?s6_p2, ?s7_p2, ?s8_p2, ?s9_p2, ?s10_p2, ?s11_p2, ?s12_p2, ?s13_p2, ?s14_p2, ?s15_p2, trivial⟩ ?behindp2
    case hmonop2 =>
      intro ix jx u wv wv' hij hw hd hr
      rw [HVD.out]
      dsimp only
      split <;> intro h <;> first | exact trivial | exact h | (rcases hr with rfl | ⟨rfl, hpk⟩ | hb; (focus first | exact absurd rfl hij | (simp at hd; done) | (exact Bool.noConfusion (hw.symm.trans (show _ = true from by kernel_rfl)))); (focus first | exact absurd rfl hij | (simp at hd; done) | (obtain ⟨g, e, hg, hm⟩ := h; exact ⟨g, (hpk _ (by omega)).trans e, hg, (hpk _ (by have := HSZ2.out; omega)).trans hm⟩) | (exact Bool.noConfusion (hw.symm.trans (show _ = true from by kernel_rfl)))); (first | (obtain ⟨g, e, hg, hm⟩ := h; exact ⟨g, e, hg, hm.on hb⟩) | (obtain ⟨g, e, hg, hm⟩ := h; exact ⟨g, e.on hb, hg, hm.on hb⟩) | (exact h.on hb)))
    case hdepp2 =>
      intro ix u u' wv h1 h2
      rw [HVD.out]
      dsimp only
      split <;> intro h <;> first | exact trivial | (rw [← h1]; exact h) | exact h
    case s0_p2 =>
      refine oweP rfl fun a wx val L hG hi hW hV hN hO K hK => ?_
      have e2 : a.tmps[2]? = some (.pointer (some ⟨w.heap.size, 0, none⟩)) := (hO 2 (by kernel_rfl)).trans (by rfl)
      clear hV hN hO
      go_simp
      exact hK.out _ _ (by rw [Vp0, upd_at] <;> (congr 1 <;> omega)) (.inr (.inr (Below.refl _ _))) (⟨fun h h2 => hG.1 (upL_false h) (upL_false h2), fun h => hG.2.1 (upL_false h), fun h => hG.2.2.1 (upL_false h), hG.2.2.2⟩)
    case s1_p2 =>
      refine oweP rfl fun a wx val L hG hi hW hV hN hO K hK => ?_
      have e20 := hN 0 20 (by kernel_rfl) (by kernel_rfl) (by simp)
      have f20 := hV 0 (by kernel_rfl) (by kernel_rfl)
      rw [Vp0] at f20; rw [f20] at e20; clear f20
      clear hV hN hO
      obtain ⟨v0, v1⟩ := (hG.2.2.1 (hW 14 (by kernel_rfl))).cells
      go_simp
      exact hK.out _ _ (by rw [Vp1, upd_at] <;> (congr 1 <;> omega)) (.inr (.inr (Below.refl _ _))) (⟨fun h h2 => hG.1 (upL_false h) (upL_false h2), fun h => hG.2.1 (upL_false h), fun h => hG.2.2.1 (upL_false h), hG.2.2.2⟩)
    case s2_p2 =>
      refine oweP rfl fun a wx val L hG hi hW hV hN hO K hK => ?_
      have e2 : a.tmps[2]? = some (.pointer (some ⟨w.heap.size, 0, none⟩)) := (hO 2 (by kernel_rfl)).trans (by rfl)
      clear hV hN hO
      go_simp
      exact hK.out _ _ (by rw [Vp2, upd_at] <;> (congr 1 <;> omega)) (.inr (.inr (Below.refl _ _))) (⟨fun h h2 => hG.1 (upL_false h) (upL_false h2), fun h => hG.2.1 (upL_false h), fun h => hG.2.2.1 (upL_false h), hG.2.2.2⟩)
    case s3_p2 =>
      refine oweP rfl fun a wx val L hG hi hW hV hN hO K hK => ?_
      have e22 := hN 2 22 (by kernel_rfl) (by kernel_rfl) (by simp)
      have f22 := hV 2 (by kernel_rfl) (by kernel_rfl)
      rw [Vp2] at f22; rw [f22] at e22; clear f22
      clear hV hN hO
      obtain ⟨v0, v1⟩ := (hG.2.2.1 (hW 14 (by kernel_rfl))).cells
      go_simp
      exact hK.out _ _ (by rw [Vp3, upd_at] <;> (congr 1 <;> omega)) (.inr (.inr (Below.refl _ _))) (⟨fun h h2 => hG.1 (upL_false h) (upL_false h2), fun h => hG.2.1 (upL_false h), fun h => hG.2.2.1 (upL_false h), hG.2.2.2⟩)
    case s4_p2 =>
      refine oweP rfl fun a wx val L hG hi hW hV hN hO K hK => ?_
      have e7 : a.tmps[7]? = some (.int .i64 (I : Int)) := (hO 7 (by kernel_rfl)).trans (by rfl)
      clear hV hN hO
      go_simp
      exact hK.out _ _ (by rw [Vp4, upd_at] <;> (congr 1 <;> omega)) (.inr (.inr (Below.refl _ _))) (⟨fun h h2 => hG.1 (upL_false h) (upL_false h2), fun h => hG.2.1 (upL_false h), fun h => hG.2.2.1 (upL_false h), hG.2.2.2⟩)
    case s5_p2 =>
      refine oweP rfl fun a wx val L hG hi hW hV hN hO K hK => ?_
      have e23 := hN 3 23 (by kernel_rfl) (by kernel_rfl) (by simp)
      have f23 := hV 3 (by kernel_rfl) (by kernel_rfl)
      rw [Vp3] at f23; rw [f23] at e23; clear f23
      have e24 := hN 4 24 (by kernel_rfl) (by kernel_rfl) (by simp)
      have f24 := hV 4 (by kernel_rfl) (by kernel_rfl)
      rw [Vp4] at f24; rw [f24] at e24; clear f24
      clear hV hN hO
      have h9 := hG.1 (hW 13 (by kernel_rfl)) (hW 14 (by kernel_rfl))
      go_simp
      refine (CW.out _ h9).mono ?_
      rintro e w11 ⟨g, rfl, hg9, hgg, hb⟩
      exact hK.out _ _ (by rw [Vp5, upd_at]; exact ⟨g, rfl, hg9, hgg⟩) (.inr (.inr hb)) (⟨fun h h2 => (hG.1 (upL_false h) (upL_false h2)).trans (hb.mono (hG.1 (upL_false h) (upL_false h2)).size), fun h => (hG.2.1 (upL_false h)).on hb, fun h => (hG.2.2.1 (upL_false h)).on hb, hG.2.2.2.trans (hb.mono hG.2.2.2.size)⟩)
    case s6_p2 =>
      refine oweP rfl fun a wx val L hG hi hW hV hN hO K hK => ?_
      have e21 := hN 1 21 (by kernel_rfl) (by kernel_rfl) (by simp)
      have f21 := hV 1 (by kernel_rfl) (by kernel_rfl)
      rw [Vp1] at f21; rw [f21] at e21; clear f21
      have e25 := hN 5 25 (by kernel_rfl) (by kernel_rfl) (by simp)
      have f25 := hV 5 (by kernel_rfl) (by kernel_rfl)
      rw [Vp5] at f25; obtain ⟨g, hv, hg9, hgg⟩ := f25; rw [hv] at e25
      clear hV hN hO
      go_simp
      exact hK.out _ _ (by rw [Vp6, upd_at]; exact ⟨g, rfl, hg9, hgg⟩) (.inr (.inr (Below.refl _ _))) (⟨fun h h2 => hG.1 (upL_false h) (upL_false h2), fun h => hG.2.1 (upL_false h), fun h => hG.2.2.1 (upL_false h), hG.2.2.2⟩)
    case s7_p2 =>
      refine oweP rfl fun a wx val L hG hi hW hV hN hO K hK => ?_
      have e2 : a.tmps[2]? = some (.pointer (some ⟨w.heap.size, 0, none⟩)) := (hO 2 (by kernel_rfl)).trans (by rfl)
      clear hV hN hO
      go_simp
      exact hK.out _ _ (by rw [Vp7, upd_at] <;> (congr 1 <;> omega)) (.inr (.inr (Below.refl _ _))) (⟨fun h h2 => hG.1 (upL_false h) (upL_false h2), fun h => hG.2.1 (upL_false h), fun h => hG.2.2.1 (upL_false h), hG.2.2.2⟩)
    case s8_p2 =>
      refine oweP rfl fun a wx val L hG hi hW hV hN hO K hK => ?_
      have e27 := hN 7 27 (by kernel_rfl) (by kernel_rfl) (by simp)
      have f27 := hV 7 (by kernel_rfl) (by kernel_rfl)
      rw [Vp7] at f27; rw [f27] at e27; clear f27
      clear hV hN hO
      obtain ⟨v0, v1⟩ := (hG.2.2.1 (hW 14 (by kernel_rfl))).cells
      go_simp
      exact hK.out _ _ (by rw [Vp8, upd_at] <;> (congr 1 <;> omega)) (.inr (.inr (Below.refl _ _))) (⟨fun h h2 => hG.1 (upL_false h) (upL_false h2), fun h => hG.2.1 (upL_false h), fun h => hG.2.2.1 (upL_false h), hG.2.2.2⟩)
    case s9_p2 =>
      refine oweP rfl fun a wx val L hG hi hW hV hN hO K hK => ?_
      have e7 : a.tmps[7]? = some (.int .i64 (I : Int)) := (hO 7 (by kernel_rfl)).trans (by rfl)
      clear hV hN hO
      go_simp
      exact hK.out _ _ (by rw [Vp9, upd_at] <;> (congr 1 <;> omega)) (.inr (.inr (Below.refl _ _))) (⟨fun h h2 => hG.1 (upL_false h) (upL_false h2), fun h => hG.2.1 (upL_false h), fun h => hG.2.2.1 (upL_false h), hG.2.2.2⟩)
    case s10_p2 =>
      refine oweP rfl fun a wx val L hG hi hW hV hN hO K hK => ?_
      have e28 := hN 8 28 (by kernel_rfl) (by kernel_rfl) (by simp)
      have f28 := hV 8 (by kernel_rfl) (by kernel_rfl)
      rw [Vp8] at f28; rw [f28] at e28; clear f28
      have e29 := hN 9 29 (by kernel_rfl) (by kernel_rfl) (by simp)
      have f29 := hV 9 (by kernel_rfl) (by kernel_rfl)
      rw [Vp9] at f29; rw [f29] at e29; clear f29
      clear hV hN hO
      go_simp
      exact hK.out _ _ (by rw [Vp10, upd_at] <;> (congr 1 <;> omega)) (.inr (.inr (Below.refl _ _))) (⟨fun h h2 => hG.1 (upL_false h) (upL_false h2), fun h => hG.2.1 (upL_false h), fun h => hG.2.2.1 (upL_false h), hG.2.2.2⟩)
    case s11_p2 =>
      refine oweP rfl fun a wx val L hG hi hW hV hN hO K hK => ?_
      have e30 := hN 10 30 (by kernel_rfl) (by kernel_rfl) (by simp)
      have f30 := hV 10 (by kernel_rfl) (by kernel_rfl)
      rw [Vp10] at f30; rw [f30] at e30; clear f30
      clear hV hN hO
      obtain ⟨x0, x1, x2, x3, x4, x5, x6⟩ := HC.out _ hG.2.2.2
      go_simp
      exact hK.out _ _ (by rw [Vp11, upd_at] <;> (congr 1 <;> omega)) (.inr (.inr (Below.refl _ _))) (⟨fun h h2 => hG.1 (upL_false h) (upL_false h2), fun h => hG.2.1 (upL_false h), fun h => hG.2.2.1 (upL_false h), hG.2.2.2⟩)
    case s12_p2 =>
      refine oweP rfl fun a wx val L hG hi hW hV hN hO K hK => ?_
      have e31 := hN 11 31 (by kernel_rfl) (by kernel_rfl) (by simp)
      have f31 := hV 11 (by kernel_rfl) (by kernel_rfl)
      rw [Vp11] at f31; rw [f31] at e31; clear f31
      clear hV hN hO
      go_simp
      refine (CO.out _).mono ?_
      rintro e w11 ⟨rfl, hb⟩
      exact hK.out _ _ (by rw [Vp12, upd_at]) (.inr (.inr (hb))) (⟨fun h h2 => (hG.1 (upL_false h) (upL_false h2)).trans (hb.mono (hG.1 (upL_false h) (upL_false h2)).size), fun h => (hG.2.1 (upL_false h)).on hb, fun h => (hG.2.2.1 (upL_false h)).on hb, hG.2.2.2.trans (hb.mono hG.2.2.2.size)⟩)
    case s13_p2 =>
      refine oweP rfl fun a wx val L hG hi hW hV hN hO K hK => ?_
      have e4 : a.tmps[4]? = some (.pointer (some ⟨w.heap.size + 1, 0, none⟩)) := (hO 4 (by kernel_rfl)).trans (by rfl)
      have e26 := hN 6 26 (by kernel_rfl) (by kernel_rfl) (by simp)
      have f26 := hV 6 (by kernel_rfl) (by kernel_rfl)
      rw [Vp6] at f26; obtain ⟨g, hv, hg9, hgg⟩ := f26; rw [hv] at e26
      clear hV hN hO
      have h9 := hG.1 hi (hW 14 (by kernel_rfl))
      have hqa := HQ2'.out.on h9
      obtain ⟨v0, v1⟩ := hqa.cells
      have vf := hqa.frozen
      have hs3 := HSZ2.out
      have hgs := blk_far2 hgg (b := w.heap.size + 1) (by omega) (.int .i64 LQ) (.slice (some ⟨g, 0, none⟩) (l.length - 1) (l.length - 1))
      have hms := fun h => msg_far2 (hG.2.1 (upL_false (i := 13) h)) (b := w.heap.size + 1) (by omega) (.int .i64 LQ) (.slice (some ⟨g, 0, none⟩) (l.length - 1) (l.length - 1))
      have hqs := fun h => que_far2 (hG.2.2.1 (upL_false (i := 13) h)) (b := w.heap.size + 1) (by omega) (.int .i64 LQ) (.slice (some ⟨g, 0, none⟩) (l.length - 1) (l.length - 1))
      have hbs := below_set2 hG.2.2.2 (b := w.heap.size + 1) (by omega) (.int .i64 LQ) (.slice (some ⟨g, 0, none⟩) (l.length - 1) (l.length - 1))
      go_simp
      exact hK.out undef _ (by rw [Vp13]; exact ⟨g, hqa.set LQ (some ⟨g, 0, none⟩) (l.length - 1) (l.length - 1), hg9, hgs⟩) (.inl rfl) ⟨fun h => (upL_self h).elim, hms, hqs, hbs⟩
    case s14_p2 =>
      refine oweP rfl fun a wx val L hG hi hW hV hN hO K hK => ?_
      have e5 : a.tmps[5]? = some (.pointer (some ⟨w.heap.size + 2, 0, none⟩)) := (hO 5 (by kernel_rfl)).trans (by rfl)
      have e32 := hN 12 32 (by kernel_rfl) (by kernel_rfl) (by simp)
      have f32 := hV 12 (by kernel_rfl) (by kernel_rfl)
      rw [Vp12] at f32; rw [f32] at e32; clear f32
      clear hV hN hO
      have hma := hG.2.1 hi
      obtain ⟨x0, x1, x2, x3, x4, x5, x6⟩ := hma.cells
      have xf := hma.frozen
      have hpk := fun k (hk : k ≠ w.heap.size + 2) => set7_far wx hk ⟨e1, n1, s1, i1, q1, k1, d1⟩
      have hp7 := hma.set7 ⟨e1, n1, s1, i1, q1, k1, d1⟩
      have hb7 := below_set7 hG.2.2.2 (b := w.heap.size + 2) (by omega) ⟨e1, n1, s1, i1, q1, k1, d1⟩
      unfold set7 at hpk hp7 hb7
      go_simp
      exact hK.out undef _ (by rw [Vp14]; exact hp7) (.inr (.inl ⟨rfl, hpk⟩)) ⟨fun _ h => (upL_self h).elim, fun h => (upL_self h).elim, fun h => (upL_self h).elim, hb7⟩
    case s15_p2 =>
      refine oweP rfl fun a wx val L hG hi hW hV hN hO K hK => ?_
      clear hV hN hO
      go_simp
      exact hK.out _ _ (by rw [Vp15, upd_at] <;> (congr 1 <;> omega)) (.inr (.inr (Below.refl _ _))) (⟨fun h h2 => hG.1 (upL_false h) (upL_false h2), fun h => hG.2.1 (upL_false h), fun h => hG.2.2.1 (upL_false h), hG.2.2.2⟩)
    intro val wx L hG hV
    have f0 := hV 0 (by simp) (fun _ _ => by simp)
    rw [Vp0] at f0
    have f1 := hV 1 (by simp) (fun _ _ => by simp)
    rw [Vp1] at f1
    have f2 := hV 2 (by simp) (fun _ _ => by simp)
    rw [Vp2] at f2
    have f3 := hV 3 (by simp) (fun _ _ => by simp)
    rw [Vp3] at f3
    have f4 := hV 4 (by simp) (fun _ _ => by simp)
    rw [Vp4] at f4
    have f7 := hV 7 (by simp) (fun _ _ => by simp)
    rw [Vp7] at f7
    have f8 := hV 8 (by simp) (fun _ _ => by simp)
    rw [Vp8] at f8
    have f9 := hV 9 (by simp) (fun _ _ => by simp)
    rw [Vp9] at f9
    have f10 := hV 10 (by simp) (fun _ _ => by simp)
    rw [Vp10] at f10
    have f11 := hV 11 (by simp) (fun _ _ => by simp)
    rw [Vp11] at f11
    have f12 := hV 12 (by simp) (fun _ _ => by simp)
    rw [Vp12] at f12
    have f13 := hV 13 (by simp) (fun _ _ => by simp)
    rw [Vp13] at f13
    have f14 := hV 14 (by simp) (fun _ _ => by simp)
    rw [Vp14] at f14
    have f15 := hV 15 (by simp) (fun _ _ => by simp)
    rw [Vp15] at f15
    clear hV Vp0 Vp1 Vp2 Vp3 Vp4 Vp5 Vp6 Vp7 Vp8 Vp9 Vp10 Vp11 Vp12 Vp13 Vp14 Vp15
    simp only [putAll, Act.put, List.setIfInBounds_toArray, List.set_cons_zero, List.set_cons_succ]
    generalize val 0 = z0 at *; (subst f0)
    generalize val 1 = z1 at *; (subst f1)
    generalize val 2 = z2 at *; (subst f2)
    generalize val 3 = z3 at *; (subst f3)
    generalize val 4 = z4 at *; (subst f4)
    generalize val 5 = z5 at *
    generalize val 6 = z6 at *
    generalize val 7 = z7 at *; (subst f7)
    generalize val 8 = z8 at *; (subst f8)
    generalize val 9 = z9 at *; (subst f9)
    generalize val 10 = z10 at *; (subst f10)
    generalize val 11 = z11 at *; (subst f11)
    generalize val 12 = z12 at *; (subst f12)
    generalize val 15 = z15 at *; (subst f15)
    clear HVD
    obtain ⟨g, hqa, hg9, hgg⟩ := f13
    have hE := HEL.out
    have hqr : QRes (some ad) w.heap.size wx LQ (l.eraseIdx I) (qv LQ (some ⟨g, 0, none⟩) (l.length - 1) (l.length - 1)) := ⟨_, _, by rw [hE], by rw [hE]; exact Nat.le_refl _, hgg.msgs, fun ad e => (by cases e; exact hgg.lt), .inr fun ad e => (by cases e; exact Nat.le_trans (by have := HSZ2.out; omega) hg9)⟩
    have hpo := HPO.out _ _ hqr hG.2.2.2
    have HPP := Lib.hid hpo
    have HQQ := Lib.hid hqa
    have HMM := Lib.hid f14
    clear hqr hpo hqa hgg f14 hE
    go_wp2_with fail
    exact bodyPost_ret (qm_res Tryd.results64 HQQ.out HMM.out rfl rfl rfl) rfl HPP.out
  · have hE : ∃ E, E ≠ 0 ∧ cutE LQ l I = E ∧ cutL LQ l I = l ∧ cutM LQ l I = zeroM ∧ findI LQ l I = 0 := by
      cases R
      · exact ⟨1, by decide, HX.out rfl⟩
      · exact ⟨41, by decide, HL.out (by have h2 : ¬ I < l.length := fun h => hbad ⟨rfl, h⟩; omega) rfl⟩
    obtain ⟨E, hE0, hE⟩ := hE
    have hf := hE
    rw [hf.1, hf.2.2.2] at cf
    have hne : ((E : Int) != 0) = true := by simpa using hE0
    have HEE := Lib.hid hE
    clear hf hE hE0
    go_enter Tryd.func64, Tryd.ntmps64
    go_wp2_with fail; refine (cf _ hL3 hq3).mono ?_; rintro e w1 ⟨rfl, b2⟩
    have HB2 := Lib.hid (HB.out.trans (b2.mono HB.out.size))
    have hq1 := HQ1.out.on b2
    have hq2 := HQ2.out.on b2
    have hm3 := MsgAt.on HM3.out b2
    obtain ⟨z0, z1⟩ := hq1.cells
    obtain ⟨v0, v1⟩ := hq2.cells
    have vf := hq2.frozen
    obtain ⟨x0, x1, x2, x3, x4, x5, x6⟩ := hm3.cells
    have xf := hm3.frozen
    simp only [zeroM] at x0 x1 x2 x3 x4 x5 x6
    have hqs := hq2.set LQ A l.length c
    have HQS := Lib.hid hqs
    have hms : MsgAt ((w1.setCell ⟨w.heap.size + 1, 0, none⟩ (.int .i64 LQ)).setCell ⟨w.heap.size + 1, 1, none⟩ (.slice A l.length c)) (w.heap.size + 2) zeroM := by
      unfold MsgAt
      rw [Below.heap_setCell _ _ _ _ (by show w.heap.size + 2 ≠ w.heap.size + 1; omega), Below.heap_setCell _ _ _ _ (by show w.heap.size + 2 ≠ w.heap.size + 1; omega)]
      exact hm3
    have HMS := Lib.hid hms
    have HB3 := Lib.hid (below_set2 HB2.out (b := w.heap.size + 1) (by omega) (.int .i64 LQ) (.slice A l.length c))
    clear hq1 hq2 hm3 b2 cf hL3 hq3 hqs hms y0 y1
    go_wp2_with fail
    have hp7 := HMS.out.set7 zeroM
    have hq7 := que_far7 HQS.out (b := w.heap.size + 2) (by omega) zeroM
    have hb7 := below_set7 HB3.out (b := w.heap.size + 2) (by omega) zeroM
    simp only [set7, zeroM] at hp7 hq7 hb7
    exact bodyPost_ret (qm_res Tryd.results64 hq7 hp7 rfl rfl rfl) rfl (HWR.out _ E hb7 HEE.out)

end Go.Proofs.YtehajmockicilaaDoor


/-
  What First, Take and Abort tell: the program's side.
-/
import Derived.Test.YtehajmockicilaaDoorTxqTake
namespace Go.Proofs.YtehajmockicilaaDoor
open Go Go.RowKit

theorem QTold.on {A0 : Option Addr} {S : Nat} {w w' : World} {l : List Msg} {A : Option Addr} {c : Nat} (h : QTold A0 S w l A c) (hb : Below w.heap.size w w') : QTold A0 S w' l A c :=
  ⟨h.cap, h.msgs.on hb, fun ad e => Nat.lt_of_lt_of_le (h.low ad e) hb.size, h.fresh⟩
theorem any_zero (l : List Msg) : l.findIdx isAny = 0 := by
  cases l with
  | nil => rfl
  | cons m l => rw [List.findIdx_cons]; rfl
/-- Boxes set anew leave what was told. -/
theorem QTold.far {A0 : Option Addr} {S b : Nat} {w W : World} {l : List Msg} {A : Option Addr} {c : Nat} (h : QTold A0 S w l A c) (h0 : ∀ ad, A0 = some ad → ad.block < b) (h1 : b + 3 ≤ S) (hW : ∀ k, k ≠ b + 1 → k ≠ b + 2 → W.heap[k]? = w.heap[k]?) (hs : W.heap.size = w.heap.size) : QTold A0 S W l A c :=
  h.keep (fun ad e => hW _ (by have := h0 ad e; omega) (by have := h0 ad e; omega)) (fun k hk => hW _ (by omega) (by omega)) (by omega)
theorem far2 (w : World) {b : Nat} (x y : Value) {k : Nat} (hk : k ≠ b) : ((w.setCell ⟨b, 0, none⟩ x).setCell ⟨b, 1, none⟩ y).heap[k]? = w.heap[k]? := by
  rw [Below.heap_setCell _ _ _ _ (by show k ≠ b; exact hk), Below.heap_setCell _ _ _ _ (by show k ≠ b; exact hk)]

set_option maxRecDepth 100000 in
set_option maxHeartbeats 2000000 in
theorem takeQ_any (LQ : Int) (A : Option Addr) (c : Nat) (l : List Msg) (w : World) (LL : Laid w) (hq : QIn w A c l) :
    Calls Tryd.prog 38 #[qv LQ A l.length c] w (TakePost LQ A l 0 w) := by
  have q1 := QAt.new w LQ A l.length c
  have b1 := Joins.below_alloc1 w (.cells #[.int .i64 LQ, .slice A l.length c] 64)
  have q2 := QAt.new (w.alloc (.cells #[.int .i64 LQ, .slice A l.length c] 64)) 0 none 0 0
  have b2 := Joins.below_alloc1 (w.alloc (.cells #[.int .i64 LQ, .slice A l.length c] 64)) (.cells #[.int .i64 0, .slice none 0 0] 64)
  have q3 := MsgAt.new ((w.alloc (.cells #[.int .i64 LQ, .slice A l.length c] 64)).alloc (.cells #[.int .i64 0, .slice none 0 0] 64)) zeroM
  have b3 := Joins.below_alloc1 ((w.alloc (.cells #[.int .i64 LQ, .slice A l.length c] 64)).alloc (.cells #[.int .i64 0, .slice none 0 0] 64)) (.cells (mc zeroM) 26)
  rw [World.size_alloc] at q2
  rw [World.size_alloc, World.size_alloc] at q3
  have q1' := (q1.on b2).on b3
  have q2' := q2.on b3
  have hB := (b1.trans (b2.mono b1.size)).trans (b3.mono (Nat.le_trans b1.size b2.size))
  have hq3 := hq.on hB
  have hL3 := LL.below hB
  have hsz : w.heap.size + 3 = (((w.alloc (.cells #[.int .i64 LQ, .slice A l.length c] 64)).alloc (.cells #[.int .i64 0, .slice none 0 0] 64)).alloc (.cells (mc zeroM) 26)).heap.size := by simp only [World.size_alloc]
  simp only [mc, zeroM] at q1' q2' q3 hB hq3 hL3 hsz
  clear q1 q2 b1 b2 b3
  have ct := fun W (hL : Laid W) (h1 : QIn W A c l) => take_all 0 LQ A c l W hL h1
  rw [any_zero] at ct
  have HPO : Hid (∀ w' v, QRes A w.heap.size w' LQ (cutL LQ l 0) v → Below w.heap.size w w' → TakePost LQ A l 0 w (.returned (.tuple #[v, mv (cutM LQ l 0), .int .i64 (cutE LQ l 0)])) w') := Lib.hid (fun w' v h1 h2 => ⟨v, rfl, h1, h2⟩)
  have HLO := Lib.hid hq.low
  obtain ⟨y0, y1⟩ := q1'.cells
  have HB := Lib.hid hB
  have HQ2 := Lib.hid q2'
  have HM3 : Hid (MsgAt _ (w.heap.size + 2) zeroM) := Lib.hid q3
  have HSZ := Lib.hid hsz
  clear hq LL q1' q2' q3 hB hsz
  have HCT : Hid (∀ W, Laid W → QIn W A c l → Calls Tryd.prog 64 #[qv LQ A l.length c, anyF] W fun e w' => ∃ A' c', e = .returned (.tuple #[qv LQ A' (cutL LQ l 0).length c', mv (cutM LQ l 0), .int .i64 (cutE LQ l 0)]) ∧ QTold A W.heap.size w' (cutL LQ l 0) A' c' ∧ Below W.heap.size W w') := Lib.hid (fun W h1 h2 => (ct W h1 h2).mono fun e w' ⟨v, he, ⟨A', c', hv, ht⟩, hb⟩ => ⟨A', c', by rw [he, hv], ht, hb⟩)
  clear ct
  generalize cutE LQ l 0 = E at *
  generalize cutM LQ l 0 = m at *
  generalize cutL LQ l 0 = l' at *
  obtain ⟨e1, n1, s1, i1, q1, k1, d1⟩ := m
  simp only [mv] at *
  go_enter Tryd.func38, Tryd.ntmps38
  go_wp2_with fail; refine (HCT.out _ hL3 hq3).mono ?_; rintro e w1 ⟨A', c', rfl, ht, b2⟩
  have HB2 := Lib.hid (HB.out.trans (b2.mono HB.out.size))
  have hq2 := HQ2.out.on b2
  have hm3 := MsgAt.on HM3.out b2
  have HT := Lib.hid ht
  have HSZ2 : Hid (w.heap.size + 3 ≤ w1.heap.size) := Lib.hid (by rw [HSZ.out]; exact b2.size)
  obtain ⟨v0, v1⟩ := hq2.cells
  have vf := hq2.frozen
  obtain ⟨x0, x1, x2, x3, x4, x5, x6⟩ := hm3.cells
  have xf := hm3.frozen
  simp only [zeroM] at x0 x1 x2 x3 x4 x5 x6
  have HQ4 := Lib.hid (hq2.set LQ A' l'.length c')
  have HM4 := Lib.hid (msg_far2 hm3 (b := w.heap.size + 1) (by omega) (.int .i64 LQ) (.slice A' l'.length c'))
  have HB4 := Lib.hid (below_set2 HB2.out (b := w.heap.size + 1) (by omega) (.int .i64 LQ) (.slice A' l'.length c'))
  have HSZ1 : Hid (∀ k, k ≠ w.heap.size + 1 → ((w1.setCell ⟨w.heap.size + 1, 0, none⟩ (.int .i64 LQ)).setCell ⟨w.heap.size + 1, 1, none⟩ (.slice A' l'.length c')).heap[k]? = w1.heap[k]?) := Lib.hid (fun k hk => far2 w1 _ _ hk)
  clear hq2 hm3 b2 ht hL3 hq3 y0 y1 HCT
  go_wp2_with fail
  have hp7 := HM4.out.set7 ⟨e1, n1, s1, i1, q1, k1, d1⟩
  have hq7 := que_far7 HQ4.out (b := w.heap.size + 2) (by omega) ⟨e1, n1, s1, i1, q1, k1, d1⟩
  have hb7 := below_set7 HB4.out (b := w.heap.size + 2) (by omega) ⟨e1, n1, s1, i1, q1, k1, d1⟩
  have hf7 := fun k (hk : k ≠ w.heap.size + 2) => set7_far ((w1.setCell ⟨w.heap.size + 1, 0, none⟩ (.int .i64 LQ)).setCell ⟨w.heap.size + 1, 1, none⟩ (.slice A' l'.length c')) hk ⟨e1, n1, s1, i1, q1, k1, d1⟩
  have hs7 := set7_size ((w1.setCell ⟨w.heap.size + 1, 0, none⟩ (.int .i64 LQ)).setCell ⟨w.heap.size + 1, 1, none⟩ (.slice A' l'.length c')) (w.heap.size + 2) ⟨e1, n1, s1, i1, q1, k1, d1⟩
  rw [World.size_setCell, World.size_setCell] at hs7
  have ht7 := HT.out.far (b := w.heap.size) HLO.out (by rw [← HSZ.out]; omega) (fun k hk1 hk2 => (hf7 k hk2).trans (HSZ1.out k hk1)) hs7
  simp only [set7] at hp7 hq7 hb7 ht7
  exact bodyPost_ret (qm_res Tryd.results38 hq7 hp7 rfl rfl rfl) rfl (HPO.out _ _ ⟨_, _, rfl, ht7.less (by rw [← HSZ.out]; omega)⟩ hb7)

set_option maxRecDepth 100000 in
set_option maxHeartbeats 4000000 in
theorem abortQ_any (LQ : Int) (A : Option Addr) (c : Nat) (l : List Msg) (n : Int) (w : World) (LL : Laid w) (hq : QIn w A c l) :
    Calls Tryd.prog 45 #[qv LQ A l.length c, .int .i64 n] w (TakePost LQ A l (l.findIdx (isNum n)) w) := by
  have q1 := QAt.new w LQ A l.length c
  have b1 := Joins.below_alloc1 w (.cells #[.int .i64 LQ, .slice A l.length c] 64)
  have q2 := QAt.new (w.alloc (.cells #[.int .i64 LQ, .slice A l.length c] 64)) 0 none 0 0
  have b2 := Joins.below_alloc1 (w.alloc (.cells #[.int .i64 LQ, .slice A l.length c] 64)) (.cells #[.int .i64 0, .slice none 0 0] 64)
  have q3 := MsgAt.new ((w.alloc (.cells #[.int .i64 LQ, .slice A l.length c] 64)).alloc (.cells #[.int .i64 0, .slice none 0 0] 64)) zeroM
  have b3 := Joins.below_alloc1 ((w.alloc (.cells #[.int .i64 LQ, .slice A l.length c] 64)).alloc (.cells #[.int .i64 0, .slice none 0 0] 64)) (.cells (mc zeroM) 26)
  rw [World.size_alloc] at q2
  rw [World.size_alloc, World.size_alloc] at q3
  have q1' := (q1.on b2).on b3
  have q2' := q2.on b3
  have hB := (b1.trans (b2.mono b1.size)).trans (b3.mono (Nat.le_trans b1.size b2.size))
  have hq3 := hq.on hB
  have hL3 := LL.below hB
  have hsz : w.heap.size + 3 = (((w.alloc (.cells #[.int .i64 LQ, .slice A l.length c] 64)).alloc (.cells #[.int .i64 0, .slice none 0 0] 64)).alloc (.cells (mc zeroM) 26)).heap.size := by simp only [World.size_alloc]
  simp only [mc, zeroM] at q1' q2' q3 hB hq3 hL3 hsz
  clear q1 q2 b1 b2 b3
  have ct := fun b W (hL : Laid W) (h1 : QIn W A c l) hN => take_num b n LQ A c l W hL h1 hN
  generalize hI : l.findIdx (isNum n) = I at *
  clear hI
  have HPO : Hid (∀ w' v, QRes A w.heap.size w' LQ (cutL LQ l I) v → Below w.heap.size w w' → TakePost LQ A l I w (.returned (.tuple #[v, mv (cutM LQ l I), .int .i64 (cutE LQ l I)])) w') := Lib.hid (fun w' v h1 h2 => ⟨v, rfl, h1, h2⟩)
  have HLO := Lib.hid hq.low
  have HB := Lib.hid hB
  have HQ1 := Lib.hid q1'
  have HQ2 := Lib.hid q2'
  have HM3 : Hid (MsgAt _ (w.heap.size + 2) zeroM) := Lib.hid q3
  have HSZ := Lib.hid hsz
  clear hq LL q1' q2' q3 hB hsz
  have HCT : Hid (∀ W b, Laid W → QIn W A c l → NumAt W b n → Calls Tryd.prog 64 #[qv LQ A l.length c, numF b] W fun e w' => ∃ A' c', e = .returned (.tuple #[qv LQ A' (cutL LQ l I).length c', mv (cutM LQ l I), .int .i64 (cutE LQ l I)]) ∧ QTold A W.heap.size w' (cutL LQ l I) A' c' ∧ Below W.heap.size W w') := Lib.hid (fun W b h1 h2 h3 => (ct b W h1 h2 h3).mono fun e w' ⟨v, he, ⟨A', c', hv, ht⟩, hb⟩ => ⟨A', c', by rw [he, hv], ht, hb⟩)
  clear ct
  generalize cutE LQ l I = E at *
  generalize cutM LQ l I = m at *
  generalize cutL LQ l I = l' at *
  obtain ⟨e1, n1, s1, i1, q1, k1, d1⟩ := m
  simp only [mv] at *
  have HL3 := Lib.hid hL3
  have HQ3 := Lib.hid hq3
  clear hL3 hq3
  go_enter Tryd.func45, Tryd.ntmps45
  go_upto_region 1 with (fail)
  generalize ((w.alloc (.cells #[.int .i64 LQ, .slice A l.length c] 64)).alloc (.cells #[.int .i64 0, .slice none 0 0] 64)).alloc (.cells #[.bool false, .int .i64 0, .int .i64 0, .int .i64 0, .int .i64 0, .int .i64 0, .string ⟨#[]⟩] 26) = W1 at *
  have HV : ∃ Vp : Nat → (Nat → Value) → World → Prop, Vp = (fun ix u wv => match ix with
    | 0 => u 0 = .agg #[.int .i64 LQ, .slice A l.length c]
    | 1 => u 1 = .int .i64 n
    | 2 => ∃ g, u 2 = numF g ∧ NumAt wv g n
    | 3 => ∃ A' c', u 3 = .tuple #[.agg #[.int .i64 LQ, .slice A' l'.length c'], .agg #[.bool e1, .int .i64 n1, .int .i64 s1, .int .i64 i1, .int .i64 q1, .int .i64 k1, .string d1], .int .i64 E] ∧ QTold A W1.heap.size wv l' A' c'
    | 4 => ∃ A' c', u 4 = .agg #[.int .i64 LQ, .slice A' l'.length c'] ∧ QTold A W1.heap.size wv l' A' c'
    | 5 => u 5 = .agg #[.bool e1, .int .i64 n1, .int .i64 s1, .int .i64 i1, .int .i64 q1, .int .i64 k1, .string d1]
    | 6 => u 6 = .int .i64 E
    | 7 => ∃ A' c', QAt wv (w.heap.size + 1) LQ A' l'.length c' ∧ QTold A W1.heap.size wv l' A' c'
    | 8 => MsgAt wv (w.heap.size + 2) ⟨e1, n1, s1, i1, q1, k1, d1⟩
    | 9 => u 9 = .int .i64 E
    | _ => True) := ⟨_, rfl⟩
  obtain ⟨Vp, hVdef⟩ := HV
  have Vp0 : ∀ u wv, Vp 0 u wv = (u 0 = .agg #[.int .i64 LQ, .slice A l.length c]) := fun u wv => by subst hVdef; rfl
  have Vp1 : ∀ u wv, Vp 1 u wv = (u 1 = .int .i64 n) := fun u wv => by subst hVdef; rfl
  have Vp2 : ∀ u wv, Vp 2 u wv = (∃ g, u 2 = numF g ∧ NumAt wv g n) := fun u wv => by subst hVdef; rfl
  have Vp3 : ∀ u wv, Vp 3 u wv = (∃ A' c', u 3 = .tuple #[.agg #[.int .i64 LQ, .slice A' l'.length c'], .agg #[.bool e1, .int .i64 n1, .int .i64 s1, .int .i64 i1, .int .i64 q1, .int .i64 k1, .string d1], .int .i64 E] ∧ QTold A W1.heap.size wv l' A' c') := fun u wv => by subst hVdef; rfl
  have Vp4 : ∀ u wv, Vp 4 u wv = (∃ A' c', u 4 = .agg #[.int .i64 LQ, .slice A' l'.length c'] ∧ QTold A W1.heap.size wv l' A' c') := fun u wv => by subst hVdef; rfl
  have Vp5 : ∀ u wv, Vp 5 u wv = (u 5 = .agg #[.bool e1, .int .i64 n1, .int .i64 s1, .int .i64 i1, .int .i64 q1, .int .i64 k1, .string d1]) := fun u wv => by subst hVdef; rfl
  have Vp6 : ∀ u wv, Vp 6 u wv = (u 6 = .int .i64 E) := fun u wv => by subst hVdef; rfl
  have Vp7 : ∀ u wv, Vp 7 u wv = (∃ A' c', QAt wv (w.heap.size + 1) LQ A' l'.length c' ∧ QTold A W1.heap.size wv l' A' c') := fun u wv => by subst hVdef; rfl
  have Vp8 : ∀ u wv, Vp 8 u wv = (MsgAt wv (w.heap.size + 2) ⟨e1, n1, s1, i1, q1, k1, d1⟩) := fun u wv => by subst hVdef; rfl
  have Vp9 : ∀ u wv, Vp 9 u wv = (u 9 = .int .i64 E) := fun u wv => by subst hVdef; rfl
  have HVD := Lib.hid hVdef
  clear hVdef
  refine region_phase (V := Vp) (drop := fun jx ix => (jx == 7 && ix == 2) || (jx == 7 && ix == 3) || (jx == 7 && ix == 4) || (jx == 8 && ix == 2) || (jx == 8 && ix == 3) || (jx == 8 && ix == 4)) (G := fun L wv => (L 7 = false → L 8 = false → Below W1.heap.size W1 wv) ∧ (L 8 = false → MsgAt wv (w.heap.size + 2) zeroM) ∧ Below w.heap.size w wv) (Rel := fun jx wv wv' => jx = 7 ∨ (jx = 8 ∧ ((∀ k, k ≠ w.heap.size + 2 → wv'.heap[k]? = wv.heap[k]?) ∧ wv'.heap.size = wv.heap.size)) ∨ Below wv.heap.size wv wv') (by kernel_rfl) (by kernel_rfl) ⟨fun _ _ => (Below.refl _ _).drew, fun _ => MsgAt.on HM3.out (Below.refl _ _).drew, HB.out.trans ((Below.refl _ _).drew.mono HB.out.size)⟩ ?hmonop1 ?hdepp1 ⟨?s0_p1, ?s1_p1, ?s2_p1, ?s3_p1, ?s4_p1, ?s5_p1, ?s6_p1, ?s7_p1, ?s8_p1, ?s9_p1, trivial⟩ ?behindp1
  case hmonop1 =>
    intro ix jx u wv wv' hij hw hd hr
    rw [HVD.out]
    dsimp only
    split <;> intro h <;> first | exact trivial | exact h | (rcases hr with rfl | ⟨rfl, hpk⟩ | hb; (focus first | exact absurd rfl hij | (simp at hd; done) | (exact Bool.noConfusion (hw.symm.trans (show _ = true from by kernel_rfl)))); (focus first | exact absurd rfl hij | (simp at hd; done) | (obtain ⟨A', c', e, ht⟩ := h; exact ⟨A', c', (hpk.1 _ (by omega)).trans e, ht.far (b := w.heap.size) HLO.out (by have := HSZ.out; omega) (fun k hk1 hk2 => hpk.1 k hk2) hpk.2⟩) | (exact Bool.noConfusion (hw.symm.trans (show _ = true from by kernel_rfl)))); (first | (obtain ⟨g, e, hg⟩ := h; exact ⟨g, e, hg.on hb⟩) | (obtain ⟨A', c', e, ht⟩ := h; exact ⟨A', c', e, ht.on hb⟩) | (obtain ⟨A', c', e, ht⟩ := h; exact ⟨A', c', e.on hb, ht.on hb⟩) | (exact h.on hb)))
  case hdepp1 =>
    intro ix u u' wv h1 h2
    rw [HVD.out]
    dsimp only
    split <;> intro h <;> first | exact trivial | (rw [← h1]; exact h) | exact h
  case s0_p1 =>
    refine oweP rfl fun a wx val L hG hi hW hV hN hO K hK => ?_
    have e2 : a.tmps[2]? = some (.pointer (some ⟨w.heap.size, 0, none⟩)) := (hO 2 (by kernel_rfl)).trans (by rfl)
    clear hV hN hO
    obtain ⟨v0, v1⟩ := (HQ1.out.on (hG.1 (hW 7 (by kernel_rfl)) (hW 8 (by kernel_rfl)))).cells
    go_simp
    exact hK.out _ _ (by rw [Vp0, upd_at] <;> (congr 1 <;> omega)) (.inr (.inr (Below.refl _ _))) (⟨fun h h2 => hG.1 (upL_false h) (upL_false h2), fun h => hG.2.1 (upL_false h), hG.2.2⟩)
  case s1_p1 =>
    refine oweP rfl fun a wx val L hG hi hW hV hN hO K hK => ?_
    have e1 : a.tmps[1]? = some (.int .i64 n) := (hO 1 (by kernel_rfl)).trans (by rfl)
    clear hV hN hO
    go_simp
    exact hK.out _ _ (by rw [Vp1, upd_at] <;> (congr 1 <;> omega)) (.inr (.inr (Below.refl _ _))) (⟨fun h h2 => hG.1 (upL_false h) (upL_false h2), fun h => hG.2.1 (upL_false h), hG.2.2⟩)
  case s2_p1 =>
    refine oweP rfl fun a wx val L hG hi hW hV hN hO K hK => ?_
    have e8 := hN 1 8 (by kernel_rfl) (by kernel_rfl) (by simp)
    have f8 := hV 1 (by kernel_rfl) (by kernel_rfl)
    rw [Vp1] at f8; rw [f8] at e8; clear f8
    clear hV hN hO
    go_simp
    refine (ofNumber_any n _).mono ?_
    rintro e w11 ⟨rfl, hn, hb⟩
    exact hK.out _ _ (by rw [Vp2, upd_at]; exact ⟨_, rfl, hn⟩) (.inr (.inr hb)) (⟨fun h h2 => (hG.1 (upL_false h) (upL_false h2)).trans (hb.mono (hG.1 (upL_false h) (upL_false h2)).size), fun h => (hG.2.1 (upL_false h)).on hb, hG.2.2.trans (hb.mono hG.2.2.size)⟩)
  case s3_p1 =>
    refine oweP rfl fun a wx val L hG hi hW hV hN hO K hK => ?_
    have e7 := hN 0 7 (by kernel_rfl) (by kernel_rfl) (by simp)
    have f7 := hV 0 (by kernel_rfl) (by kernel_rfl)
    rw [Vp0] at f7; rw [f7] at e7; clear f7
    have e9 := hN 2 9 (by kernel_rfl) (by kernel_rfl) (by simp)
    have f9 := hV 2 (by kernel_rfl) (by kernel_rfl)
    rw [Vp2] at f9; obtain ⟨g, hv, hgg⟩ := f9; rw [hv] at e9
    clear hV hN hO
    have h9 := hG.1 (hW 7 (by kernel_rfl)) (hW 8 (by kernel_rfl))
    go_simp
    refine (HCT.out _ g (HL3.out.below h9) (HQ3.out.on h9) hgg).mono ?_
    rintro e w11 ⟨A', c', rfl, ht, hb⟩
    exact hK.out _ _ (by rw [Vp3, upd_at]; exact ⟨A', c', rfl, ht.less h9.size⟩) (.inr (.inr hb)) (⟨fun h h2 => (hG.1 (upL_false h) (upL_false h2)).trans (hb.mono (hG.1 (upL_false h) (upL_false h2)).size), fun h => (hG.2.1 (upL_false h)).on hb, hG.2.2.trans (hb.mono hG.2.2.size)⟩)
  case s4_p1 =>
    refine oweP rfl fun a wx val L hG hi hW hV hN hO K hK => ?_
    have e10 := hN 3 10 (by kernel_rfl) (by kernel_rfl) (by simp)
    have f10 := hV 3 (by kernel_rfl) (by kernel_rfl)
    rw [Vp3] at f10; obtain ⟨A', c', hv, ht⟩ := f10; rw [hv] at e10
    clear hV hN hO
    go_simp
    exact hK.out _ _ (by rw [Vp4, upd_at]; exact ⟨A', c', rfl, ht⟩) (.inr (.inr (Below.refl _ _))) (⟨fun h h2 => hG.1 (upL_false h) (upL_false h2), fun h => hG.2.1 (upL_false h), hG.2.2⟩)
  case s5_p1 =>
    refine oweP rfl fun a wx val L hG hi hW hV hN hO K hK => ?_
    have e10 := hN 3 10 (by kernel_rfl) (by kernel_rfl) (by simp)
    have f10 := hV 3 (by kernel_rfl) (by kernel_rfl)
    rw [Vp3] at f10; obtain ⟨A', c', hv, ht⟩ := f10; rw [hv] at e10
    clear hV hN hO
    go_simp
    exact hK.out _ _ (by rw [Vp5, upd_at]) (.inr (.inr (Below.refl _ _))) (⟨fun h h2 => hG.1 (upL_false h) (upL_false h2), fun h => hG.2.1 (upL_false h), hG.2.2⟩)
  case s6_p1 =>
    refine oweP rfl fun a wx val L hG hi hW hV hN hO K hK => ?_
    have e10 := hN 3 10 (by kernel_rfl) (by kernel_rfl) (by simp)
    have f10 := hV 3 (by kernel_rfl) (by kernel_rfl)
    rw [Vp3] at f10; obtain ⟨A', c', hv, ht⟩ := f10; rw [hv] at e10
    clear hV hN hO
    go_simp
    exact hK.out _ _ (by rw [Vp6, upd_at]) (.inr (.inr (Below.refl _ _))) (⟨fun h h2 => hG.1 (upL_false h) (upL_false h2), fun h => hG.2.1 (upL_false h), hG.2.2⟩)
  case s7_p1 =>
    refine oweP rfl fun a wx val L hG hi hW hV hN hO K hK => ?_
    have e4 : a.tmps[4]? = some (.pointer (some ⟨w.heap.size + 1, 0, none⟩)) := (hO 4 (by kernel_rfl)).trans (by rfl)
    have e11 := hN 4 11 (by kernel_rfl) (by kernel_rfl) (by simp)
    have f11 := hV 4 (by kernel_rfl) (by kernel_rfl)
    rw [Vp4] at f11; obtain ⟨A', c', hv, ht⟩ := f11; rw [hv] at e11
    clear hV hN hO
    have h9 := hG.1 hi (hW 8 (by kernel_rfl))
    have hqa := HQ2.out.on h9
    obtain ⟨v0, v1⟩ := hqa.cells
    have vf := hqa.frozen
    have hs3 := HSZ.out
    have hms := fun h => msg_far2 (hG.2.1 (upL_false (i := 7) h)) (b := w.heap.size + 1) (by omega) (.int .i64 LQ) (.slice A' l'.length c')
    have hbs := below_set2 hG.2.2 (b := w.heap.size + 1) (by omega) (.int .i64 LQ) (.slice A' l'.length c')
    have hts := ht.far (b := w.heap.size) (W := (wx.setCell ⟨w.heap.size + 1, 0, none⟩ (.int .i64 LQ)).setCell ⟨w.heap.size + 1, 1, none⟩ (.slice A' l'.length c')) HLO.out (by omega) (fun k hk1 hk2 => far2 wx _ _ hk1) (by rw [World.size_setCell, World.size_setCell])
    clear hs3
    go_simp
    exact hK.out undef _ (by rw [Vp7]; exact ⟨A', c', hqa.set LQ A' l'.length c', hts⟩) (.inl rfl) ⟨fun h => (upL_self h).elim, hms, hbs⟩
  case s8_p1 =>
    refine oweP rfl fun a wx val L hG hi hW hV hN hO K hK => ?_
    have e5 : a.tmps[5]? = some (.pointer (some ⟨w.heap.size + 2, 0, none⟩)) := (hO 5 (by kernel_rfl)).trans (by rfl)
    have e12 := hN 5 12 (by kernel_rfl) (by kernel_rfl) (by simp)
    have f12 := hV 5 (by kernel_rfl) (by kernel_rfl)
    rw [Vp5] at f12; rw [f12] at e12; clear f12
    clear hV hN hO
    have hma := hG.2.1 hi
    obtain ⟨x0, x1, x2, x3, x4, x5, x6⟩ := hma.cells
    have xf := hma.frozen
    have hpk := And.intro (fun k (hk : k ≠ w.heap.size + 2) => set7_far wx hk ⟨e1, n1, s1, i1, q1, k1, d1⟩) (set7_size wx (w.heap.size + 2) ⟨e1, n1, s1, i1, q1, k1, d1⟩)
    have hp7 := hma.set7 ⟨e1, n1, s1, i1, q1, k1, d1⟩
    have hb7 := below_set7 hG.2.2 (b := w.heap.size + 2) (by omega) ⟨e1, n1, s1, i1, q1, k1, d1⟩
    unfold set7 at hpk hp7 hb7
    go_simp
    exact hK.out undef _ (by rw [Vp8]; exact hp7) (.inr (.inl ⟨rfl, hpk⟩)) ⟨fun _ h => (upL_self h).elim, fun h => (upL_self h).elim, hb7⟩
  case s9_p1 =>
    refine oweP rfl fun a wx val L hG hi hW hV hN hO K hK => ?_
    have e13 := hN 6 13 (by kernel_rfl) (by kernel_rfl) (by simp)
    have f13 := hV 6 (by kernel_rfl) (by kernel_rfl)
    rw [Vp6] at f13; rw [f13] at e13; clear f13
    clear hV hN hO
    go_simp
    exact hK.out _ _ (by rw [Vp9, upd_at] <;> (congr 1 <;> omega)) (.inr (.inr (Below.refl _ _))) (⟨fun h h2 => hG.1 (upL_false h) (upL_false h2), fun h => hG.2.1 (upL_false h), hG.2.2⟩)
  intro val wx L hG hV
  have f0 := hV 0 (by simp) (fun _ _ => by simp)
  rw [Vp0] at f0
  have f1 := hV 1 (by simp) (fun _ _ => by simp)
  rw [Vp1] at f1
  have f5 := hV 5 (by simp) (fun _ _ => by simp)
  rw [Vp5] at f5
  have f6 := hV 6 (by simp) (fun _ _ => by simp)
  rw [Vp6] at f6
  have f7 := hV 7 (by simp) (fun _ _ => by simp)
  rw [Vp7] at f7
  have f8 := hV 8 (by simp) (fun _ _ => by simp)
  rw [Vp8] at f8
  have f9 := hV 9 (by simp) (fun _ _ => by simp)
  rw [Vp9] at f9
  clear hV Vp0 Vp1 Vp2 Vp3 Vp4 Vp5 Vp6 Vp7 Vp8 Vp9
  simp only [putAll, Act.put, List.setIfInBounds_toArray, List.set_cons_zero, List.set_cons_succ]
  generalize val 0 = z0 at *; (subst f0)
  generalize val 1 = z1 at *; (subst f1)
  generalize val 2 = z2 at *
  generalize val 3 = z3 at *
  generalize val 4 = z4 at *
  generalize val 5 = z5 at *; (subst f5)
  generalize val 6 = z6 at *; (subst f6)
  generalize val 9 = z9 at *; (subst f9)
  clear HVD
  obtain ⟨A', c', hqa, ht⟩ := f7
  have HPP := Lib.hid (HPO.out _ _ ⟨_, _, rfl, ht.less (by have := HSZ.out; omega)⟩ hG.2.2)
  have HQQ := Lib.hid hqa
  have HMM := Lib.hid f8
  clear hqa ht f8 hG
  go_wp2_with fail
  exact bodyPost_ret (qm_res Tryd.results45 HQQ.out HMM.out rfl rfl rfl) rfl HPP.out

set_option maxRecDepth 100000 in
set_option maxHeartbeats 2000000 in
theorem firstQ_any (LQ : Int) (A : Option Addr) (c : Nat) (l : List Msg) (w : World) (LL : Laid w) (hq : QIn w A c l) :
    Calls Tryd.prog 36 #[qv LQ A l.length c] w fun e w' => e = .returned (.tuple #[mv (cutM LQ l 0), .bool (cutE LQ l 0 == 0)]) ∧ Below w.heap.size w w' := by
  have hfew := hq.few
  have q1 := QAt.new w LQ A l.length c
  have b1 := Joins.below_alloc1 w (.cells #[.int .i64 LQ, .slice A l.length c] 64)
  have q3 := MsgAt.new (w.alloc (.cells #[.int .i64 LQ, .slice A l.length c] 64)) zeroM
  have b3 := Joins.below_alloc1 (w.alloc (.cells #[.int .i64 LQ, .slice A l.length c] 64)) (.cells (mc zeroM) 26)
  rw [World.size_alloc] at q3
  have q1' := q1.on b3
  have hB := b1.trans (b3.mono b1.size)
  have hq3 := hq.on hB
  have hL3 := LL.below hB
  simp only [mc, zeroM] at q1' q3 hB hq3 hL3
  clear q1 b1 b3
  have cf := fun W (hL : Laid W) (h1 : QIn W A c l) => find_all 0 LQ A c l W hL h1
  rw [any_zero] at cf
  have HX := Lib.hid (fun h => cut_wrong (L := LQ) (l := l) (i := 0) h)
  have HL := Lib.hid (fun h h2 => cut_none (L := LQ) (l := l) (i := 0) h h2)
  have HO := Lib.hid (fun m h h2 => cut_one (L := LQ) (l := l) (i := 0) (m := m) h h2)
  obtain ⟨y0, y1⟩ := q1'.cells
  have HB := Lib.hid hB
  have HQ1 := Lib.hid q1'
  have HM3 : Hid (MsgAt _ (w.heap.size + 1) zeroM) := Lib.hid q3
  have HQ := Lib.hid hq
  clear hq LL q1' q3 hB
  by_cases hgood : rightQ LQ l = true ∧ 0 < l.length
  · obtain ⟨hr, hlt⟩ := hgood
    obtain ⟨m, hm⟩ : ∃ m, l[0]? = some m := ⟨_, List.getElem?_eq_getElem hlt⟩
    obtain ⟨he, hl, hmm, hf⟩ := HO.out m hr hm
    rw [he, hf] at cf
    rw [he, hmm]
    have hltI : (0 : Int) < (l.length : Int) := by omega
    clear he hl hmm hf hr
    go_enter Tryd.func36, Tryd.ntmps36
    go_wp2_with fail; refine (cf _ hL3 hq3).mono ?_; rintro e w1 ⟨rfl, b2⟩
    have HB2 := Lib.hid (HB.out.trans (b2.mono HB.out.size))
    have hq1 := HQ1.out.on b2
    have hm3 := MsgAt.on HM3.out b2
    obtain ⟨z0, z1⟩ := hq1.cells
    obtain ⟨ad, rfl, hat⟩ := (HQ.out.on HB2.out).at hm
    have hz0 : ad.add (0 * 7) = ad := by unfold Addr.add; rfl
    rw [hz0] at hat
    have hdm := HQ.out.data m (List.mem_of_getElem? hm)
    have co := fun W => owned_any m W (by omega)
    have HM3' := Lib.hid hm3
    clear hq1 hm3 b2 cf hL3 hq3 hm y0 y1 hdm hz0
    obtain ⟨e1, n1, s1, i1, q1, k1, d1⟩ := m
    obtain ⟨u0, u1, u2, u3, u4, u5, u6⟩ := hat
    simp only [mv] at *
    go_wp2_with fail; refine (co _).mono ?_; rintro e w2 ⟨rfl, b3⟩
    have hm4 := MsgAt.on HM3'.out b3
    obtain ⟨x0, x1, x2, x3, x4, x5, x6⟩ := hm4.cells
    have xf := hm4.frozen
    simp only [zeroM] at x0 x1 x2 x3 x4 x5 x6
    have HM4 := Lib.hid hm4
    have HB3 := Lib.hid (HB2.out.trans (b3.mono HB2.out.size))
    clear hm4 b3 co u0 u1 u2 u3 u4 u5 u6 z0 z1
    go_wp2_with fail
    have hp7 := HM4.out.set7 ⟨e1, n1, s1, i1, q1, k1, d1⟩
    have hb7 := below_set7 HB3.out (b := w.heap.size + 1) (by omega) ⟨e1, n1, s1, i1, q1, k1, d1⟩
    simp only [set7] at hp7 hb7
    exact bodyPost_ret (mb_res Tryd.results36 hp7 rfl rfl) rfl ⟨rfl, hb7⟩
  · have hE : ∃ E, E ≠ 0 ∧ cutE LQ l 0 = E ∧ cutL LQ l 0 = l ∧ cutM LQ l 0 = zeroM ∧ findI LQ l 0 = 0 := by
      cases hR : rightQ LQ l
      · exact ⟨1, by decide, HX.out hR⟩
      · exact ⟨41, by decide, HL.out hR (by have h2 : ¬ 0 < l.length := fun h => hgood ⟨hR, h⟩; omega)⟩
    obtain ⟨E, hE0, he, hl, hmm, hf⟩ := hE
    rw [he, hf] at cf
    rw [he, hmm]
    have hne : ((E : Int) != 0) = true := by simpa using hE0
    have HEE : Hid ((E == 0) = false) := Lib.hid (by simpa using hE0)
    clear he hl hmm hf hE0 hgood
    go_enter Tryd.func36, Tryd.ntmps36
    go_wp2_with fail; refine (cf _ hL3 hq3).mono ?_; rintro e w1 ⟨rfl, b2⟩
    have HB2 := Lib.hid (HB.out.trans (b2.mono HB.out.size))
    have hm3 := MsgAt.on HM3.out b2
    obtain ⟨x0, x1, x2, x3, x4, x5, x6⟩ := hm3.cells
    have xf := hm3.frozen
    simp only [zeroM] at x0 x1 x2 x3 x4 x5 x6
    have HM4 := Lib.hid hm3
    clear hm3 b2 cf hL3 hq3 y0 y1
    go_wp2_with fail
    have hp7 := HM4.out.set7 zeroM
    have hb7 := below_set7 HB2.out (b := w.heap.size + 1) (by omega) zeroM
    simp only [set7, zeroM] at hp7 hb7
    rw [HEE.out]
    exact bodyPost_ret (mb_res Tryd.results36 hp7 rfl rfl) rfl ⟨rfl, hb7⟩

end Go.Proofs.YtehajmockicilaaDoor


/-
  What the document's Offer tells of fifos.
-/
import Derived.Test.YtehajmockicilaaDoorFifRef
namespace Go.Proofs.YtehajmockicilaaDoor
open Go Go.RowKit

theorem off_bad {L T : Int} {l : List Msg} {m : Msg} (h : ¬ (rightFi L T l = true ∧ rightM m = true)) (th : Bool) : offFiE L T l m = 1 ∧ offFiH L T l m th = 0 ∧ offFiT L T l m th = T ∧ offFiL L T l m th = l := by
  have e : offFiE L T l m = 1 := by unfold offFiE; rw [if_neg h]
  have hh : offFiH L T l m th = 0 := by unfold offFiH; rw [e]; rfl
  exact ⟨e, hh, by unfold offFiT; rw [hh]; rfl, by unfold offFiL; rw [hh]; rfl⟩
theorem off_pass {L T : Int} {l : List Msg} {m : Msg} (h : rightFi L T l = true) (h2 : rightM m = true) : offFiE L T l m = 0 ∧ offFiH L T l m false = 0 ∧ offFiT L T l m false = T ∧ offFiL L T l m false = l := by
  have e : offFiE L T l m = 0 := by unfold offFiE; rw [if_pos ⟨h, h2⟩]
  have hh : offFiH L T l m false = 0 := by unfold offFiH; rw [e]; rfl
  exact ⟨e, hh, by unfold offFiT; rw [hh]; rfl, by unfold offFiL; rw [hh]; rfl⟩
theorem off_full {L T : Int} {l : List Msg} {m : Msg} (h : rightFi L T l = true) (h2 : rightM m = true) (h3 : (l.length : Int) = L) : offFiE L T l m = 0 ∧ offFiH L T l m true = 2 ∧ offFiT L T l m true = min (T + 1) 65535 ∧ offFiL L T l m true = l := by
  have e : offFiE L T l m = 0 := by unfold offFiE; rw [if_pos ⟨h, h2⟩]
  have hh : offFiH L T l m true = 2 := by unfold offFiH; rw [e, if_pos ⟨rfl, rfl⟩, if_pos h3]
  exact ⟨e, hh, by unfold offFiT; rw [hh]; rfl, by unfold offFiL; rw [hh]; rfl⟩
theorem off_room {L T : Int} {l : List Msg} {m : Msg} (h : rightFi L T l = true) (h2 : rightM m = true) (h3 : (l.length : Int) ≠ L) : offFiE L T l m = 0 ∧ offFiH L T l m true = 1 ∧ offFiT L T l m true = T ∧ offFiL L T l m true = l ++ [m] := by
  have e : offFiE L T l m = 0 := by unfold offFiE; rw [if_pos ⟨h, h2⟩]
  have hh : offFiH L T l m true = 1 := by unfold offFiH; rw [e, if_pos ⟨rfl, rfl⟩, if_neg h3]
  exact ⟨e, hh, by unfold offFiT; rw [hh]; rfl, by unfold offFiL; rw [hh]; rfl⟩

set_option maxRecDepth 100000 in
set_option maxHeartbeats 2000000 in
theorem refOffer_any (LQ T : Int) (A : Option Addr) (c : Nat) (l : List Msg) (m : Msg) (AF : Option Addr) (cf : Nat) (fs : List (Bool × Int × Int)) (w : World) (hq : QIn w A c l) (hd : m.data.size ≤ maxLen) (hf : LieIn w AF fs) (hfl : fs.length ≤ 281474976710656) :
    Calls Tryd.prog 26 #[fiv LQ T A l.length c, mv m, .slice AF fs.length cf] w (FiPost A LQ (offFiT LQ T l m (anyI m.ext m.n fs)) (offFiL LQ T l m (anyI m.ext m.n fs)) (offFiH LQ T l m (anyI m.ext m.n fs)) (offFiE LQ T l m) w) := by
  have q1 := FiAt.new w LQ T A l.length c
  have b1 := Joins.below_alloc1 w (.cells #[.int .i64 LQ, .int .i64 T, .slice A l.length c] 30)
  have q2 := MsgAt.new (w.alloc (.cells #[.int .i64 LQ, .int .i64 T, .slice A l.length c] 30)) m
  have b2 := Joins.below_alloc1 (w.alloc (.cells #[.int .i64 LQ, .int .i64 T, .slice A l.length c] 30)) (.cells (mc m) 26)
  have q3 := FiAt.new ((w.alloc (.cells #[.int .i64 LQ, .int .i64 T, .slice A l.length c] 30)).alloc (.cells (mc m) 26)) 0 0 none 0 0
  have b3 := Joins.below_alloc1 ((w.alloc (.cells #[.int .i64 LQ, .int .i64 T, .slice A l.length c] 30)).alloc (.cells (mc m) 26)) (.cells #[.int .i64 0, .int .i64 0, .slice none 0 0] 30)
  rw [World.size_alloc] at q2
  rw [World.size_alloc, World.size_alloc] at q3
  have b23 := b2.trans (b3.mono b2.size)
  have q1' := q1.on b23
  have q2' := MsgAt.on q2 b3
  have hB := b1.trans (b23.mono b1.size)
  have hsz : (((w.alloc (.cells #[.int .i64 LQ, .int .i64 T, .slice A l.length c] 30)).alloc (.cells (mc m) 26)).alloc (.cells #[.int .i64 0, .int .i64 0, .slice none 0 0] 30)).heap.size = w.heap.size + 3 := by simp only [World.size_alloc]
  have hqx := hq.on hB
  have hfx := hf.below hB
  clear q1 q2 b1 b2 b3 b23
  have HQ2 : Hid (FiAt _ (w.heap.size + 2) 0 0 none 0 0) := Lib.hid q3
  have HQ1 := Lib.hid q1'
  have HM1 : Hid (MsgAt _ (w.heap.size + 1) m) := Lib.hid q2'
  have HB := Lib.hid hB
  have HSZ := Lib.hid hsz
  have CO := Lib.hid (fiOwn_any LQ T A c l _ hqx)
  have HQ := Lib.hid hqx
  have HF := Lib.hid hfx
  have CR : Hid (∀ W, QIn W A c l → Calls Tryd.prog 22 #[fiv LQ T A l.length c] W fun e w' => e = .returned (.bool (rightFi LQ T l)) ∧ Below W.heap.size W w') := Lib.hid (fun W h => refRightFi_any LQ T A c l W h)
  have CM : Hid (∀ W, Calls Tryd.prog 55 #[mv m] W fun e w' => e = .returned (.bool (rightM m)) ∧ Below W.heap.size W w') := Lib.hid (fun W => refRightM_any m hd W)
  have CA : Hid (∀ W, LieIn W AF fs → Calls Tryd.prog 27 #[.agg #[.bool m.ext, .int .i64 m.n], .slice AF fs.length cf] W fun e w' => e = .returned (.bool (anyI m.ext m.n fs)) ∧ Below W.heap.size W w') := Lib.hid (fun W h => refAny_any m.ext m.n AF cf fs W h hfl)
  have hfew := hq.few
  clear hq q1' q2' q3 hB hqx hfx hf hd hfl hsz
  obtain ⟨e1, n1, s1, i1, q1, k1, d1⟩ := m
  simp only [mc] at HQ1 HM1 HQ2 HB HSZ CO HQ HF
  simp only [mv] at CM CA
  cases hR : rightFi LQ T l
  · obtain ⟨he, hh, ht, hl⟩ := off_bad (L := LQ) (T := T) (l := l) (m := ⟨e1, n1, s1, i1, q1, k1, d1⟩) (by rw [hR]; rintro ⟨h, _⟩; cases h) (anyI e1 n1 fs)
    rw [he, hh, ht, hl]
    rw [hR] at CR
    clear he hh ht hl hR
    obtain ⟨y0, y1, y2⟩ := HQ1.out.cells
    go_enter Tryd.func26, Tryd.ntmps26
    go_wp2_with fail; refine CO.out.mono ?_; rintro e w3 ⟨A5, c5, rfl, ho5, b3⟩
    have hq5 := FiAt.new w3 LQ T A5 l.length c5
    have hb5 := Joins.below_alloc1 w3 (.cells #[.int .i64 LQ, .int .i64 T, .slice A5 l.length c5] 30)
    have HX3 : Hid (w.heap.size + 3 ≤ w3.heap.size) := Lib.hid (by have := b3.size; have := HSZ.out; omega)
    have hB5 := b3.trans (hb5.mono b3.size)
    have HQ5 := Lib.hid hq5
    have HB5 := Lib.hid (HB.out.trans (hB5.mono HB.out.size))
    have HQ1 := Lib.hid (HQ1.out.on hB5)
    have HQ2 := Lib.hid (HQ2.out.on hB5)
    have HM1 := Lib.hid (MsgAt.on HM1.out hB5)
    have HO5 := Lib.hid ((ho5.base (Nat.le_of_eq HSZ.out.symm)).on hb5)
    have hqx := HQ.out.on hB5
    have HF := Lib.hid (HF.out.below hB5)
    have cr := CR.out _ hqx
    obtain ⟨y0, y1, y2⟩ := HQ1.out.cells
    clear ho5 b3 hq5 hb5 hB5 CO HB HQ hqx
    go_wp2_with fail
    generalize w3.alloc (.cells #[.int .i64 LQ, .int .i64 T, .slice A5 l.length c5] 30) = W5 at *
    generalize w3.heap.size = b5 at *
    refine cr.mono ?_; rintro e w6 ⟨rfl, b6⟩
    have HB5 := Lib.hid (HB5.out.trans (b6.mono HB5.out.size))
    have HQ5 := Lib.hid (HQ5.out.on b6)
    have HQ2 := Lib.hid (HQ2.out.on b6)
    have HQ1 := Lib.hid (HQ1.out.on b6)
    have HM1 := Lib.hid (MsgAt.on HM1.out b6)
    have HO5 := Lib.hid (HO5.out.on b6)
    have HF := Lib.hid (HF.out.below b6)
    clear b6 y0 y1 y2 cr CR HSZ
    have HT : Hid (QTold none (w.heap.size + 3) w6 l A5 c5) := Lib.hid (QTold.ofOwn HO5.out)
    obtain ⟨y0, y1, y2⟩ := HQ5.out.cells
    obtain ⟨z0, z1, z2⟩ := HQ2.out.cells
    have zf := HQ2.out.frozen
    have HR := Lib.hid (HQ2.out.set LQ (T) A5 ((l).length) c5)
    have HBR := Lib.hid (below_set3 HB5.out (b := w.heap.size + 2) (by omega) (.int .i64 LQ) (.int .i64 (T)) (.slice A5 ((l).length) c5))
    have HTR := Lib.hid ((HT.out.put3 (b := w.heap.size + 2) (by omega) (.int .i64 LQ) (.int .i64 (T)) (.slice A5 ((l).length) c5)).less (S' := w.heap.size) (by omega))
    clear HT HQ2 HB5 HO5
    go_wp2_with fail
    exact bodyPost_ret (fii_res Tryd.results26 HR.out rfl rfl rfl) rfl (⟨_, _, rfl, HTR.out.any, HBR.out⟩)
  · have hlL := ((rightFi_iff LQ T l).1 hR).2.1
    have hTT := ((rightFi_iff LQ T l).1 hR).2.2.1
    cases hM : rightM ⟨e1, n1, s1, i1, q1, k1, d1⟩
    · obtain ⟨he, hh, ht, hl⟩ := off_bad (L := LQ) (T := T) (l := l) (m := ⟨e1, n1, s1, i1, q1, k1, d1⟩) (by rw [hM]; rintro ⟨_, h⟩; cases h) (anyI e1 n1 fs)
      rw [he, hh, ht, hl]
      rw [hR] at CR
      rw [hM] at CM
      clear he hh ht hl hR hM hTT hlL
      obtain ⟨y0, y1, y2⟩ := HQ1.out.cells
      go_enter Tryd.func26, Tryd.ntmps26
      go_wp2_with fail; refine CO.out.mono ?_; rintro e w3 ⟨A5, c5, rfl, ho5, b3⟩
      have hq5 := FiAt.new w3 LQ T A5 l.length c5
      have hb5 := Joins.below_alloc1 w3 (.cells #[.int .i64 LQ, .int .i64 T, .slice A5 l.length c5] 30)
      have HX3 : Hid (w.heap.size + 3 ≤ w3.heap.size) := Lib.hid (by have := b3.size; have := HSZ.out; omega)
      have hB5 := b3.trans (hb5.mono b3.size)
      have HQ5 := Lib.hid hq5
      have HB5 := Lib.hid (HB.out.trans (hB5.mono HB.out.size))
      have HQ1 := Lib.hid (HQ1.out.on hB5)
      have HQ2 := Lib.hid (HQ2.out.on hB5)
      have HM1 := Lib.hid (MsgAt.on HM1.out hB5)
      have HO5 := Lib.hid ((ho5.base (Nat.le_of_eq HSZ.out.symm)).on hb5)
      have hqx := HQ.out.on hB5
      have HF := Lib.hid (HF.out.below hB5)
      have cr := CR.out _ hqx
      obtain ⟨y0, y1, y2⟩ := HQ1.out.cells
      clear ho5 b3 hq5 hb5 hB5 CO HB HQ hqx
      go_wp2_with fail
      generalize w3.alloc (.cells #[.int .i64 LQ, .int .i64 T, .slice A5 l.length c5] 30) = W5 at *
      generalize w3.heap.size = b5 at *
      refine cr.mono ?_; rintro e w6 ⟨rfl, b6⟩
      have HB5 := Lib.hid (HB5.out.trans (b6.mono HB5.out.size))
      have HQ5 := Lib.hid (HQ5.out.on b6)
      have HQ2 := Lib.hid (HQ2.out.on b6)
      have HQ1 := Lib.hid (HQ1.out.on b6)
      have HM1 := Lib.hid (MsgAt.on HM1.out b6)
      have HO5 := Lib.hid (HO5.out.on b6)
      have HF := Lib.hid (HF.out.below b6)
      clear b6 y0 y1 y2 cr CR HSZ
      obtain ⟨x0, x1, x2, x3, x4, x5, x6⟩ := HM1.out.cells
      have cm := CM.out w6
      go_wp2_with fail; refine cm.mono ?_; rintro e w7 ⟨rfl, b7⟩
      have HB5 := Lib.hid (HB5.out.trans (b7.mono HB5.out.size))
      have HQ5 := Lib.hid (HQ5.out.on b7)
      have HQ2 := Lib.hid (HQ2.out.on b7)
      have HQ1 := Lib.hid (HQ1.out.on b7)
      have HM1 := Lib.hid (MsgAt.on HM1.out b7)
      have HO5 := Lib.hid (HO5.out.on b7)
      have HF := Lib.hid (HF.out.below b7)
      clear b7 x0 x1 x2 x3 x4 x5 x6 cm CM
      have HT : Hid (QTold none (w.heap.size + 3) w7 l A5 c5) := Lib.hid (QTold.ofOwn HO5.out)
      obtain ⟨y0, y1, y2⟩ := HQ5.out.cells
      obtain ⟨z0, z1, z2⟩ := HQ2.out.cells
      have zf := HQ2.out.frozen
      have HR := Lib.hid (HQ2.out.set LQ (T) A5 ((l).length) c5)
      have HBR := Lib.hid (below_set3 HB5.out (b := w.heap.size + 2) (by omega) (.int .i64 LQ) (.int .i64 (T)) (.slice A5 ((l).length) c5))
      have HTR := Lib.hid ((HT.out.put3 (b := w.heap.size + 2) (by omega) (.int .i64 LQ) (.int .i64 (T)) (.slice A5 ((l).length) c5)).less (S' := w.heap.size) (by omega))
      clear HT HQ2 HB5 HO5
      go_wp2_with fail
      exact bodyPost_ret (fii_res Tryd.results26 HR.out rfl rfl rfl) rfl (⟨_, _, rfl, HTR.out.any, HBR.out⟩)
    · rw [hM] at CM
      cases hA : anyI e1 n1 fs
      · obtain ⟨he, hh, ht, hl⟩ := off_pass hR hM
        rw [he, hh, ht, hl]
        rw [hR] at CR
        rw [hA] at CA
        clear he hh ht hl hR hM hA hTT hlL
        obtain ⟨y0, y1, y2⟩ := HQ1.out.cells
        go_enter Tryd.func26, Tryd.ntmps26
        go_wp2_with fail; refine CO.out.mono ?_; rintro e w3 ⟨A5, c5, rfl, ho5, b3⟩
        have hq5 := FiAt.new w3 LQ T A5 l.length c5
        have hb5 := Joins.below_alloc1 w3 (.cells #[.int .i64 LQ, .int .i64 T, .slice A5 l.length c5] 30)
        have HX3 : Hid (w.heap.size + 3 ≤ w3.heap.size) := Lib.hid (by have := b3.size; have := HSZ.out; omega)
        have hB5 := b3.trans (hb5.mono b3.size)
        have HQ5 := Lib.hid hq5
        have HB5 := Lib.hid (HB.out.trans (hB5.mono HB.out.size))
        have HQ1 := Lib.hid (HQ1.out.on hB5)
        have HQ2 := Lib.hid (HQ2.out.on hB5)
        have HM1 := Lib.hid (MsgAt.on HM1.out hB5)
        have HO5 := Lib.hid ((ho5.base (Nat.le_of_eq HSZ.out.symm)).on hb5)
        have hqx := HQ.out.on hB5
        have HF := Lib.hid (HF.out.below hB5)
        have cr := CR.out _ hqx
        obtain ⟨y0, y1, y2⟩ := HQ1.out.cells
        clear ho5 b3 hq5 hb5 hB5 CO HB HQ hqx
        go_wp2_with fail
        generalize w3.alloc (.cells #[.int .i64 LQ, .int .i64 T, .slice A5 l.length c5] 30) = W5 at *
        generalize w3.heap.size = b5 at *
        refine cr.mono ?_; rintro e w6 ⟨rfl, b6⟩
        have HB5 := Lib.hid (HB5.out.trans (b6.mono HB5.out.size))
        have HQ5 := Lib.hid (HQ5.out.on b6)
        have HQ2 := Lib.hid (HQ2.out.on b6)
        have HQ1 := Lib.hid (HQ1.out.on b6)
        have HM1 := Lib.hid (MsgAt.on HM1.out b6)
        have HO5 := Lib.hid (HO5.out.on b6)
        have HF := Lib.hid (HF.out.below b6)
        clear b6 y0 y1 y2 cr CR HSZ
        obtain ⟨x0, x1, x2, x3, x4, x5, x6⟩ := HM1.out.cells
        have cm := CM.out w6
        go_wp2_with fail; refine cm.mono ?_; rintro e w7 ⟨rfl, b7⟩
        have HB5 := Lib.hid (HB5.out.trans (b7.mono HB5.out.size))
        have HQ5 := Lib.hid (HQ5.out.on b7)
        have HQ2 := Lib.hid (HQ2.out.on b7)
        have HQ1 := Lib.hid (HQ1.out.on b7)
        have HM1 := Lib.hid (MsgAt.on HM1.out b7)
        have HO5 := Lib.hid (HO5.out.on b7)
        have HF := Lib.hid (HF.out.below b7)
        clear b7 x0 x1 x2 x3 x4 x5 x6 cm CM
        obtain ⟨x0, x1, x2, x3, x4, x5, x6⟩ := HM1.out.cells
        have ca := CA.out w7 HF.out
        go_wp2_with fail; refine ca.mono ?_; rintro e w8 ⟨rfl, b8⟩
        have HB5 := Lib.hid (HB5.out.trans (b8.mono HB5.out.size))
        have HQ5 := Lib.hid (HQ5.out.on b8)
        have HQ2 := Lib.hid (HQ2.out.on b8)
        have HQ1 := Lib.hid (HQ1.out.on b8)
        have HM1 := Lib.hid (MsgAt.on HM1.out b8)
        have HO5 := Lib.hid (HO5.out.on b8)
        have HF := Lib.hid (HF.out.below b8)
        clear b8 x0 x1 x2 x3 x4 x5 x6 ca CA
        have HT : Hid (QTold none (w.heap.size + 3) w8 l A5 c5) := Lib.hid (QTold.ofOwn HO5.out)
        obtain ⟨y0, y1, y2⟩ := HQ5.out.cells
        obtain ⟨z0, z1, z2⟩ := HQ2.out.cells
        have zf := HQ2.out.frozen
        have HR := Lib.hid (HQ2.out.set LQ (T) A5 ((l).length) c5)
        have HBR := Lib.hid (below_set3 HB5.out (b := w.heap.size + 2) (by omega) (.int .i64 LQ) (.int .i64 (T)) (.slice A5 ((l).length) c5))
        have HTR := Lib.hid ((HT.out.put3 (b := w.heap.size + 2) (by omega) (.int .i64 LQ) (.int .i64 (T)) (.slice A5 ((l).length) c5)).less (S' := w.heap.size) (by omega))
        clear HT HQ2 HB5 HO5
        go_wp2_with fail
        exact bodyPost_ret (fii_res Tryd.results26 HR.out rfl rfl rfl) rfl (⟨_, _, rfl, HTR.out.any, HBR.out⟩)
      · rw [hA] at CA
        by_cases hfu : (l.length : Int) = LQ
        · obtain ⟨he, hh, ht, hl⟩ := off_full hR hM hfu
          rw [he, hh, ht, hl]
          rw [hR] at CR
          have hge : LQ ≤ (l.length : Int) := by omega
          have HTT := Lib.hid hTT
          clear he hh ht hl hR hM hA hTT hlL hfu
          obtain ⟨y0, y1, y2⟩ := HQ1.out.cells
          go_enter Tryd.func26, Tryd.ntmps26
          go_wp2_with fail; refine CO.out.mono ?_; rintro e w3 ⟨A5, c5, rfl, ho5, b3⟩
          have hq5 := FiAt.new w3 LQ T A5 l.length c5
          have hb5 := Joins.below_alloc1 w3 (.cells #[.int .i64 LQ, .int .i64 T, .slice A5 l.length c5] 30)
          have HX3 : Hid (w.heap.size + 3 ≤ w3.heap.size) := Lib.hid (by have := b3.size; have := HSZ.out; omega)
          have hB5 := b3.trans (hb5.mono b3.size)
          have HQ5 := Lib.hid hq5
          have HB5 := Lib.hid (HB.out.trans (hB5.mono HB.out.size))
          have HQ1 := Lib.hid (HQ1.out.on hB5)
          have HQ2 := Lib.hid (HQ2.out.on hB5)
          have HM1 := Lib.hid (MsgAt.on HM1.out hB5)
          have HO5 := Lib.hid ((ho5.base (Nat.le_of_eq HSZ.out.symm)).on hb5)
          have hqx := HQ.out.on hB5
          have HF := Lib.hid (HF.out.below hB5)
          have cr := CR.out _ hqx
          obtain ⟨y0, y1, y2⟩ := HQ1.out.cells
          clear ho5 b3 hq5 hb5 hB5 CO HB HQ hqx
          go_wp2_with fail
          generalize w3.alloc (.cells #[.int .i64 LQ, .int .i64 T, .slice A5 l.length c5] 30) = W5 at *
          generalize w3.heap.size = b5 at *
          refine cr.mono ?_; rintro e w6 ⟨rfl, b6⟩
          have HB5 := Lib.hid (HB5.out.trans (b6.mono HB5.out.size))
          have HQ5 := Lib.hid (HQ5.out.on b6)
          have HQ2 := Lib.hid (HQ2.out.on b6)
          have HQ1 := Lib.hid (HQ1.out.on b6)
          have HM1 := Lib.hid (MsgAt.on HM1.out b6)
          have HO5 := Lib.hid (HO5.out.on b6)
          have HF := Lib.hid (HF.out.below b6)
          clear b6 y0 y1 y2 cr CR HSZ
          obtain ⟨x0, x1, x2, x3, x4, x5, x6⟩ := HM1.out.cells
          have cm := CM.out w6
          go_wp2_with fail; refine cm.mono ?_; rintro e w7 ⟨rfl, b7⟩
          have HB5 := Lib.hid (HB5.out.trans (b7.mono HB5.out.size))
          have HQ5 := Lib.hid (HQ5.out.on b7)
          have HQ2 := Lib.hid (HQ2.out.on b7)
          have HQ1 := Lib.hid (HQ1.out.on b7)
          have HM1 := Lib.hid (MsgAt.on HM1.out b7)
          have HO5 := Lib.hid (HO5.out.on b7)
          have HF := Lib.hid (HF.out.below b7)
          clear b7 x0 x1 x2 x3 x4 x5 x6 cm CM
          obtain ⟨x0, x1, x2, x3, x4, x5, x6⟩ := HM1.out.cells
          have ca := CA.out w7 HF.out
          go_wp2_with fail; refine ca.mono ?_; rintro e w8 ⟨rfl, b8⟩
          have HB5 := Lib.hid (HB5.out.trans (b8.mono HB5.out.size))
          have HQ5 := Lib.hid (HQ5.out.on b8)
          have HQ2 := Lib.hid (HQ2.out.on b8)
          have HQ1 := Lib.hid (HQ1.out.on b8)
          have HM1 := Lib.hid (MsgAt.on HM1.out b8)
          have HO5 := Lib.hid (HO5.out.on b8)
          have HF := Lib.hid (HF.out.below b8)
          clear b8 x0 x1 x2 x3 x4 x5 x6 ca CA
          have hTT := HTT.out
          have hm1 : IntKind.i64.wrap (T + 1) = T + 1 := IntWalk.i64_in _ (by omega)
          obtain ⟨z0, z1, z2⟩ := HQ1.out.cells
          obtain ⟨y0, y1, y2⟩ := HQ5.out.cells
          have yf := HQ5.out.frozen
          have hx3 := HX3.out
          have HBY := Lib.hid (HB5.out.setCell (p := ⟨b5, 1, none⟩) (by show w.heap.size ≤ b5; omega) (.int .i64 (min (T + 1) 65535)))
          have HQ5y := Lib.hid (HQ5.out.lost (min (T + 1) 65535))
          have HQ2y := Lib.hid (HQ2.out.cell1 (b := b5) (i := 1) (by omega) (.int .i64 (min (T + 1) 65535)))
          have HTY := Lib.hid ((QTold.ofOwn (A0 := none) HO5.out).apart (b := b5) (i := 1) (HO5.out.far_fifo HQ5.out) (.int .i64 (min (T + 1) 65535)))
          clear hx3
          go_upto_region 8 with (fail)
          clear z0 z1 z2 y0 y1 y2 yf HQ5 HQ2 HB5 HO5
          have HQ5 := HQ5y
          have HQ2 := HQ2y
          have HB5 := HBY
          have HT := HTY
          clear HQ5y HQ2y HBY HTY
          generalize w8.setCell ⟨b5, 1, none⟩ (.int .i64 (min (T + 1) 65535)) = Y at *
          skip
          obtain ⟨y0, y1, y2⟩ := HQ5.out.cells
          obtain ⟨z0, z1, z2⟩ := HQ2.out.cells
          have zf := HQ2.out.frozen
          have HR := Lib.hid (HQ2.out.set LQ (min (T + 1) 65535) A5 ((l).length) c5)
          have HBR := Lib.hid (below_set3 HB5.out (b := w.heap.size + 2) (by omega) (.int .i64 LQ) (.int .i64 (min (T + 1) 65535)) (.slice A5 ((l).length) c5))
          have HTR := Lib.hid ((HT.out.put3 (b := w.heap.size + 2) (by omega) (.int .i64 LQ) (.int .i64 (min (T + 1) 65535)) (.slice A5 ((l).length) c5)).less (S' := w.heap.size) (by omega))
          clear HT HQ2 HB5
          go_wp2_with fail
          exact bodyPost_ret (fii_res Tryd.results26 HR.out rfl rfl rfl) rfl (⟨_, _, rfl, HTR.out.any, HBR.out⟩)
        · obtain ⟨he, hh, ht, hl⟩ := off_room hR hM hfu
          rw [he, hh, ht, hl]
          rw [hR] at CR
          have hge : ¬ LQ ≤ (l.length : Int) := by omega
          clear he hh ht hl hR hM hA hTT hlL hfu
          obtain ⟨y0, y1, y2⟩ := HQ1.out.cells
          go_enter Tryd.func26, Tryd.ntmps26
          go_wp2_with fail; refine CO.out.mono ?_; rintro e w3 ⟨A5, c5, rfl, ho5, b3⟩
          have hq5 := FiAt.new w3 LQ T A5 l.length c5
          have hb5 := Joins.below_alloc1 w3 (.cells #[.int .i64 LQ, .int .i64 T, .slice A5 l.length c5] 30)
          have HX3 : Hid (w.heap.size + 3 ≤ w3.heap.size) := Lib.hid (by have := b3.size; have := HSZ.out; omega)
          have hB5 := b3.trans (hb5.mono b3.size)
          have HQ5 := Lib.hid hq5
          have HB5 := Lib.hid (HB.out.trans (hB5.mono HB.out.size))
          have HQ1 := Lib.hid (HQ1.out.on hB5)
          have HQ2 := Lib.hid (HQ2.out.on hB5)
          have HM1 := Lib.hid (MsgAt.on HM1.out hB5)
          have HO5 := Lib.hid ((ho5.base (Nat.le_of_eq HSZ.out.symm)).on hb5)
          have hqx := HQ.out.on hB5
          have HF := Lib.hid (HF.out.below hB5)
          have cr := CR.out _ hqx
          obtain ⟨y0, y1, y2⟩ := HQ1.out.cells
          clear ho5 b3 hq5 hb5 hB5 CO HB HQ hqx
          go_wp2_with fail
          generalize w3.alloc (.cells #[.int .i64 LQ, .int .i64 T, .slice A5 l.length c5] 30) = W5 at *
          generalize w3.heap.size = b5 at *
          refine cr.mono ?_; rintro e w6 ⟨rfl, b6⟩
          have HB5 := Lib.hid (HB5.out.trans (b6.mono HB5.out.size))
          have HQ5 := Lib.hid (HQ5.out.on b6)
          have HQ2 := Lib.hid (HQ2.out.on b6)
          have HQ1 := Lib.hid (HQ1.out.on b6)
          have HM1 := Lib.hid (MsgAt.on HM1.out b6)
          have HO5 := Lib.hid (HO5.out.on b6)
          have HF := Lib.hid (HF.out.below b6)
          clear b6 y0 y1 y2 cr CR HSZ
          obtain ⟨x0, x1, x2, x3, x4, x5, x6⟩ := HM1.out.cells
          have cm := CM.out w6
          go_wp2_with fail; refine cm.mono ?_; rintro e w7 ⟨rfl, b7⟩
          have HB5 := Lib.hid (HB5.out.trans (b7.mono HB5.out.size))
          have HQ5 := Lib.hid (HQ5.out.on b7)
          have HQ2 := Lib.hid (HQ2.out.on b7)
          have HQ1 := Lib.hid (HQ1.out.on b7)
          have HM1 := Lib.hid (MsgAt.on HM1.out b7)
          have HO5 := Lib.hid (HO5.out.on b7)
          have HF := Lib.hid (HF.out.below b7)
          clear b7 x0 x1 x2 x3 x4 x5 x6 cm CM
          obtain ⟨x0, x1, x2, x3, x4, x5, x6⟩ := HM1.out.cells
          have ca := CA.out w7 HF.out
          go_wp2_with fail; refine ca.mono ?_; rintro e w8 ⟨rfl, b8⟩
          have HB5 := Lib.hid (HB5.out.trans (b8.mono HB5.out.size))
          have HQ5 := Lib.hid (HQ5.out.on b8)
          have HQ2 := Lib.hid (HQ2.out.on b8)
          have HQ1 := Lib.hid (HQ1.out.on b8)
          have HM1 := Lib.hid (MsgAt.on HM1.out b8)
          have HO5 := Lib.hid (HO5.out.on b8)
          have HF := Lib.hid (HF.out.below b8)
          clear b8 x0 x1 x2 x3 x4 x5 x6 ca CA
          obtain ⟨z0, z1, z2⟩ := HQ1.out.cells
          obtain ⟨y0, y1, y2⟩ := HQ5.out.cells
          have yf := HQ5.out.frozen
          obtain ⟨x0, x1, x2, x3, x4, x5, x6⟩ := HM1.out.cells
          have hx3 := HX3.out
          have hbm := Joins.below_alloc1 w8 (.cells (mc (⟨e1, n1, s1, i1, q1, k1, d1⟩ : Msg)) 26)
          have HOM := Lib.hid (HO5.out.on hbm)
          have HQ5m := Lib.hid (HQ5.out.on hbm)
          have HQ2m := Lib.hid (HQ2.out.on hbm)
          have HB5m := Lib.hid (HB5.out.trans (hbm.mono HB5.out.size))
          have HSM : Hid (w.heap.size + 3 ≤ (w8.alloc (.cells (mc (⟨e1, n1, s1, i1, q1, k1, d1⟩ : Msg)) 26)).heap.size) := Lib.hid (Nat.le_trans hx3 (Nat.le_of_lt HQ5m.out.lt))
          clear hbm
          go_wp2_with (at_builtin; refine list_appM (by rfl) _ _ rfl (w.heap.size + 3) (w8.alloc (.cells (mc (⟨e1, n1, s1, i1, q1, k1, d1⟩ : Msg)) 26)).heap.size (.slice A5 l.length c5) l [(⟨e1, n1, s1, i1, q1, k1, d1⟩ : Msg)] (some ⟨w8.heap.size, 0, none⟩) 1 rfl rfl HOM.out (Msgs.one (heap_alloc_new w8 _)) HSM.out (by simp; omega) ?_)
          intro u2 w9 hown9 hg9
          have hq9 := HQ5m.out.grown HOM.out hg9
          have hb9 := OwnM.below HOM.out hg9 HSM.out
          have hq2 : FiAt w9 (w.heap.size + 2) 0 0 none 0 0 := (hb9.block _ (by omega)).trans HQ2m.out
          obtain ⟨A6, c6, hu6, -, -⟩ := OwnM.row hown9
          have hn : (l ++ [(⟨e1, n1, s1, i1, q1, k1, d1⟩ : Msg)]).length = l.length + 1 := by simp
          rw [hn] at hu6
          subst hu6
          have hfar := hown9.far_fifo hq9
          have HBY := Lib.hid ((HB5m.out.trans (hb9.mono (by omega))).setCell (p := ⟨b5, 2, none⟩) (by show w.heap.size ≤ b5; omega) (.slice A6 (l.length + 1) c6))
          have HQ5y := Lib.hid (hq9.list A6 (l.length + 1) c6)
          have HQ2y := Lib.hid (hq2.cell1 (b := b5) (i := 2) (by omega) (.slice A6 (l.length + 1) c6))
          have HTY := Lib.hid ((QTold.ofOwn (A0 := none) (l := l ++ [(⟨e1, n1, s1, i1, q1, k1, d1⟩ : Msg)]) (by rw [hn]; exact hown9)).apart (b := b5) (i := 2) hfar (.slice A6 (l.length + 1) c6))
          have HPP : Hid (∀ Y', QTold none w.heap.size Y' (l ++ [(⟨e1, n1, s1, i1, q1, k1, d1⟩ : Msg)]) A6 c6 → Below w.heap.size w Y' → FiPost A LQ T (l ++ [(⟨e1, n1, s1, i1, q1, k1, d1⟩ : Msg)]) 1 0 w (.returned (.tuple #[fiv LQ T A6 (l.length + 1) c6, .int .i64 1, .int .i64 0])) Y') := Lib.hid (fun Y' h1 h2 => ⟨A6, c6, by rw [hn], h1.any, h2⟩)
          clear hn
          clear y0 y1 y2 yf x0 x1 x2 x3 x4 x5 x6 z0 z1 z2
          obtain ⟨y0, y1, y2⟩ := hq9.cells
          have yf := hq9.frozen
          clear hx3 hq9 hb9 hq2 hown9 hg9 hfar HOM HQ5m HQ2m HB5m HSM HM1
          go_upto_region 10 with (fail)
          clear y0 y1 y2 yf HQ5 HQ2 HB5 HO5
          have HQ5 := HQ5y
          have HQ2 := HQ2y
          have HB5 := HBY
          have HT := HTY
          clear HQ5y HQ2y HBY HTY
          generalize w9.setCell ⟨b5, 2, none⟩ (.slice A6 (l.length + 1) c6) = Y at *
          skip
          obtain ⟨y0, y1, y2⟩ := HQ5.out.cells
          obtain ⟨z0, z1, z2⟩ := HQ2.out.cells
          have zf := HQ2.out.frozen
          have HR := Lib.hid (HQ2.out.set LQ (T) A6 (l.length + 1) c6)
          have HBR := Lib.hid (below_set3 HB5.out (b := w.heap.size + 2) (by omega) (.int .i64 LQ) (.int .i64 (T)) (.slice A6 (l.length + 1) c6))
          have HTR := Lib.hid ((HT.out.put3 (b := w.heap.size + 2) (by omega) (.int .i64 LQ) (.int .i64 (T)) (.slice A6 (l.length + 1) c6)).less (S' := w.heap.size) (by omega))
          clear HT HQ2 HB5
          go_wp2_with fail
          exact bodyPost_ret (fii_res Tryd.results26 HR.out rfl rfl rfl) rfl (HPP.out _ HTR.out HBR.out)

end Go.Proofs.YtehajmockicilaaDoor

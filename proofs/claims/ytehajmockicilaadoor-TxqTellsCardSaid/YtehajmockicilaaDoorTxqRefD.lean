/-
  What the document's First, Take and Abort tell.
-/
import Derived.Test.YtehajmockicilaaDoorTxqRefC
namespace Go.Proofs.YtehajmockicilaaDoor
open Go Go.RowKit

set_option maxRecDepth 100000 in
set_option maxHeartbeats 2000000 in
theorem refTakeQ_any (LQ : Int) (A : Option Addr) (c : Nat) (l : List Msg) (w : World) (hq : QIn w A c l) :
    Calls Tryd.prog 39 #[qv LQ A l.length c] w (TakePost LQ A l 0 w) := by
  obtain ⟨I, hI⟩ : ∃ I : Nat, I = 0 := ⟨_, rfl⟩
  rw [← hI]
  have HI := Lib.hid hI
  clear hI
  have q1 := QAt.new w LQ A l.length c
  have b1 := Joins.below_alloc1 w (.cells #[.int .i64 LQ, .slice A l.length c] 64)
  have q2 := QAt.new (w.alloc (.cells #[.int .i64 LQ, .slice A l.length c] 64)) 0 none 0 0
  have b2 := Joins.below_alloc1 (w.alloc (.cells #[.int .i64 LQ, .slice A l.length c] 64)) (.cells #[.int .i64 0, .slice none 0 0] 64)
  have q3 := MsgAt.new ((w.alloc (.cells #[.int .i64 LQ, .slice A l.length c] 64)).alloc (.cells #[.int .i64 0, .slice none 0 0] 64)) zeroM
  have b3 := Joins.below_alloc1 ((w.alloc (.cells #[.int .i64 LQ, .slice A l.length c] 64)).alloc (.cells #[.int .i64 0, .slice none 0 0] 64)) (.cells (mc zeroM) 26)
  rw [World.size_alloc] at q2
  rw [World.size_alloc, World.size_alloc] at q3
  have q1' := (q1.on b2).on b3
  have q2' := q2.on b3
  have hB := (b1.trans (b2.mono b1.size)).trans (b3.mono (Nat.le_trans b1.size b2.size))
  have hq3 := hq.on hB
  have hsz : w.heap.size + 3 = (((w.alloc (.cells #[.int .i64 LQ, .slice A l.length c] 64)).alloc (.cells #[.int .i64 0, .slice none 0 0] 64)).alloc (.cells (mc zeroM) 26)).heap.size := by simp only [World.size_alloc]
  simp only [mc, zeroM] at q1' q2' q3 hB hq3 hsz
  clear q1 q2 b1 b2 b3
  have HPO : Hid (∀ w' A' c', QTold none w.heap.size w' (cutL LQ l I) A' c' → Below w.heap.size w w' → TakePost LQ A l I w (.returned (.tuple #[qv LQ A' (cutL LQ l I).length c', mv (cutM LQ l I), .int .i64 (cutE LQ l I)])) w') := Lib.hid (fun w' A' c' h1 h2 => ⟨_, rfl, ⟨A', c', rfl, h1.of⟩, h2⟩)
  have HX := Lib.hid (fun h => cut_wrong (L := LQ) (l := l) (i := I) h)
  have HL := Lib.hid (fun h h2 => cut_none (L := LQ) (l := l) (i := I) h h2)
  have HO := Lib.hid (fun m h h2 => cut_one (L := LQ) (l := l) (i := I) (m := m) h h2)
  obtain ⟨y0, y1⟩ := q1'.cells
  have hfew := hq.few
  have HQ := Lib.hid hq
  have HB := Lib.hid hB
  have HQ1 := Lib.hid q1'
  have HQ2 := Lib.hid q2'
  have HM3 : Hid (MsgAt _ (w.heap.size + 2) zeroM) := Lib.hid q3
  have HSZ := Lib.hid hsz
  have HQ3 := Lib.hid hq3
  have CR := fun W (h2 : QIn W A c l) => refRightQ_any LQ A c l W h2
  have HOW : Hid (∀ W, QIn W A c l → Calls Tryd.prog 34 #[qv LQ A l.length c] W (OwnPost LQ l W)) := Lib.hid (fun W h => ownQ_any LQ A c l W h)
  clear hq q1' q2' q3 hB hsz
  generalize hR : rightQ LQ l = R at *
  cases R
  · have HEE := Lib.hid (HX.out rfl)
    clear hR
    go_enter Tryd.func39, Tryd.ntmps39
    go_wp2_with fail; refine (CR _ hq3).mono ?_; rintro e w1 ⟨rfl, b2⟩
    have HBX := Lib.hid b2
    clear b2 y0 y1 hq3 CR
    obtain ⟨he, hl, hmm, -⟩ := HEE.out
    have hpo := HPO.out
    rw [he, hl, hmm] at hpo
    have HPP := Lib.hid hpo
    clear he hl hmm hpo
    obtain ⟨v0, v1⟩ := (HQ1.out.on HBX.out).cells
    go_wp2_with fail; refine (HOW.out _ (HQ3.out.on HBX.out)).mono ?_; rintro e w7 ⟨A5, c5, rfl, ht5, b7⟩
    have HBY := Lib.hid (HBX.out.trans (b7.mono HBX.out.size))
    have HBZ := Lib.hid (HB.out.trans (HBY.out.mono HB.out.size))
    have HT5 := Lib.hid (ht5)
    have hq2 := HQ2.out.on HBY.out
    have hm3 := MsgAt.on HM3.out HBY.out
    obtain ⟨z0, z1⟩ := hq2.cells
    have zf := hq2.frozen
    obtain ⟨x0, x1, x2, x3, x4, x5, x6⟩ := hm3.cells
    have xf := hm3.frozen
    simp only [zeroM] at x0 x1 x2 x3 x4 x5 x6
    have HQ4 := Lib.hid (hq2.set LQ A5 l.length c5)
    have HM4 := Lib.hid (msg_far2 hm3 (b := w.heap.size + 1) (by omega) (.int .i64 LQ) (.slice A5 l.length c5))
    have HB4 := Lib.hid (below_set2 HBZ.out (b := w.heap.size + 1) (by omega) (.int .i64 LQ) (.slice A5 l.length c5))
    have HF4 : Hid (∀ k, k ≠ w.heap.size + 1 → ((w7.setCell ⟨w.heap.size + 1, 0, none⟩ (.int .i64 LQ)).setCell ⟨w.heap.size + 1, 1, none⟩ (.slice A5 l.length c5)).heap[k]? = w7.heap[k]?) := Lib.hid (fun k hk => far2 w7 _ _ hk)
    have HSX : Hid (w.heap.size + 3 ≤ w1.heap.size) := Lib.hid (by rw [HSZ.out]; exact HBX.out.size)
    clear hq2 hm3 b7 ht5 v0 v1
    go_wp2_with fail
    have hp7 := HM4.out.set7 zeroM
    have hq7 := que_far7 HQ4.out (b := w.heap.size + 2) (by omega) zeroM
    have hb7 := below_set7 HB4.out (b := w.heap.size + 2) (by omega) zeroM
    have hf7 := fun k (hk : k ≠ w.heap.size + 2) => set7_far ((w7.setCell ⟨w.heap.size + 1, 0, none⟩ (.int .i64 LQ)).setCell ⟨w.heap.size + 1, 1, none⟩ (.slice A5 l.length c5)) hk zeroM
    have hs7 := set7_size ((w7.setCell ⟨w.heap.size + 1, 0, none⟩ (.int .i64 LQ)).setCell ⟨w.heap.size + 1, 1, none⟩ (.slice A5 l.length c5)) (w.heap.size + 2) zeroM
    rw [World.size_setCell, World.size_setCell] at hs7
    have ht7 : QTold none w.heap.size _ _ A5 c5 := (HT5.out.far (b := w.heap.size) (fun ad e => by cases e) HSX.out (fun k hk1 hk2 => (hf7 k hk2).trans (HF4.out k hk1)) hs7).less (by have := HSX.out; omega)
    simp only [set7, zeroM] at hp7 hq7 hb7 ht7
    exact bodyPost_ret (qm_res Tryd.results39 hq7 hp7 rfl rfl rfl) rfl (HPP.out _ _ _ ht7 hb7)
  · by_cases hlt : I < l.length
    · obtain ⟨m, hm⟩ : ∃ m, l[I]? = some m := ⟨_, List.getElem?_eq_getElem hlt⟩
      have hlne : ((l.length : Int) == 0) = false := beq_eq_false_iff_ne.mpr (by omega)
      obtain ⟨ll, hll⟩ : ∃ ll, ll = l.eraseIdx I := ⟨_, rfl⟩
      have hee := HO.out m rfl hm
      rw [← hll] at hee
      have HEE := Lib.hid hee
      have HWO : Hid (∀ W, QIn W A c l → Calls Tryd.prog 65 #[qv LQ A l.length c, .int .i64 (I : Int)] W fun e w' => ∃ A' c', e = .returned (.tuple #[qv LQ A' ll.length c', mv m, .int .i64 0]) ∧ QTold none W.heap.size w' ll A' c' ∧ Below W.heap.size W w') := Lib.hid (fun W h => by rw [hll]; exact refWithout_any LQ A c l I m W h hm)
      clear hee hll hm hR hlt
      go_enter Tryd.func39, Tryd.ntmps39
      go_wp2_with fail; refine (CR _ hq3).mono ?_; rintro e w1 ⟨rfl, b2⟩
      have HBX := Lib.hid b2
      clear b2 y0 y1 hq3 CR
      obtain ⟨he, hl, hmm, -⟩ := HEE.out
      have hpo := HPO.out
      rw [he, hl, hmm] at hpo
      have HPP := Lib.hid hpo
      clear he hl hmm hpo
      obtain ⟨e1, n1, s1, i1, q1, k1, d1⟩ := m
      simp only [mv] at *
      obtain ⟨v0, v1⟩ := (HQ1.out.on HBX.out).cells
      have hwo := HWO.out _ (HQ3.out.on HBX.out)
      rw [HI.out] at hwo; simp only [Int.natCast_zero] at hwo
      go_wp2_with fail; refine hwo.mono ?_; rintro e w7 ⟨A5, c5, rfl, ht5, b7⟩
      have HBY := Lib.hid (HBX.out.trans (b7.mono HBX.out.size))
      have HBZ := Lib.hid (HB.out.trans (HBY.out.mono HB.out.size))
      have HT5 := Lib.hid (ht5)
      have hq2 := HQ2.out.on HBY.out
      have hm3 := MsgAt.on HM3.out HBY.out
      obtain ⟨z0, z1⟩ := hq2.cells
      have zf := hq2.frozen
      obtain ⟨x0, x1, x2, x3, x4, x5, x6⟩ := hm3.cells
      have xf := hm3.frozen
      simp only [zeroM] at x0 x1 x2 x3 x4 x5 x6
      have HQ4 := Lib.hid (hq2.set LQ A5 ll.length c5)
      have HM4 := Lib.hid (msg_far2 hm3 (b := w.heap.size + 1) (by omega) (.int .i64 LQ) (.slice A5 ll.length c5))
      have HB4 := Lib.hid (below_set2 HBZ.out (b := w.heap.size + 1) (by omega) (.int .i64 LQ) (.slice A5 ll.length c5))
      have HF4 : Hid (∀ k, k ≠ w.heap.size + 1 → ((w7.setCell ⟨w.heap.size + 1, 0, none⟩ (.int .i64 LQ)).setCell ⟨w.heap.size + 1, 1, none⟩ (.slice A5 ll.length c5)).heap[k]? = w7.heap[k]?) := Lib.hid (fun k hk => far2 w7 _ _ hk)
      have HSX : Hid (w.heap.size + 3 ≤ w1.heap.size) := Lib.hid (by rw [HSZ.out]; exact HBX.out.size)
      clear hq2 hm3 b7 ht5 v0 v1 hwo
      go_wp2_with fail
      have hp7 := HM4.out.set7 ⟨e1, n1, s1, i1, q1, k1, d1⟩
      have hq7 := que_far7 HQ4.out (b := w.heap.size + 2) (by omega) ⟨e1, n1, s1, i1, q1, k1, d1⟩
      have hb7 := below_set7 HB4.out (b := w.heap.size + 2) (by omega) ⟨e1, n1, s1, i1, q1, k1, d1⟩
      have hf7 := fun k (hk : k ≠ w.heap.size + 2) => set7_far ((w7.setCell ⟨w.heap.size + 1, 0, none⟩ (.int .i64 LQ)).setCell ⟨w.heap.size + 1, 1, none⟩ (.slice A5 ll.length c5)) hk ⟨e1, n1, s1, i1, q1, k1, d1⟩
      have hs7 := set7_size ((w7.setCell ⟨w.heap.size + 1, 0, none⟩ (.int .i64 LQ)).setCell ⟨w.heap.size + 1, 1, none⟩ (.slice A5 ll.length c5)) (w.heap.size + 2) ⟨e1, n1, s1, i1, q1, k1, d1⟩
      rw [World.size_setCell, World.size_setCell] at hs7
      have ht7 : QTold none w.heap.size _ _ A5 c5 := (HT5.out.far (b := w.heap.size) (fun ad e => by cases e) HSX.out (fun k hk1 hk2 => (hf7 k hk2).trans (HF4.out k hk1)) hs7).less (by have := HSX.out; omega)
      simp only [set7] at hp7 hq7 hb7 ht7
      exact bodyPost_ret (qm_res Tryd.results39 hq7 hp7 rfl rfl rfl) rfl (HPP.out _ _ _ ht7 hb7)
    · have hl0 : l.length = 0 := by have := HI.out; omega
      have hlne : ((l.length : Int) == 0) = true := by rw [hl0]; rfl
      have HEE := Lib.hid (HL.out rfl (by rw [HI.out, hl0]))
      clear hl0 hR
      go_enter Tryd.func39, Tryd.ntmps39
      go_wp2_with fail; refine (CR _ hq3).mono ?_; rintro e w1 ⟨rfl, b2⟩
      have HBX := Lib.hid b2
      clear b2 y0 y1 hq3 CR
      obtain ⟨he, hl, hmm, -⟩ := HEE.out
      have hpo := HPO.out
      rw [he, hl, hmm] at hpo
      have HPP := Lib.hid hpo
      clear he hl hmm hpo
      obtain ⟨v0, v1⟩ := (HQ1.out.on HBX.out).cells
      go_wp2_with fail; refine (HOW.out _ (HQ3.out.on HBX.out)).mono ?_; rintro e w7 ⟨A5, c5, rfl, ht5, b7⟩
      have HBY := Lib.hid (HBX.out.trans (b7.mono HBX.out.size))
      have HBZ := Lib.hid (HB.out.trans (HBY.out.mono HB.out.size))
      have HT5 := Lib.hid (ht5)
      have hq2 := HQ2.out.on HBY.out
      have hm3 := MsgAt.on HM3.out HBY.out
      obtain ⟨z0, z1⟩ := hq2.cells
      have zf := hq2.frozen
      obtain ⟨x0, x1, x2, x3, x4, x5, x6⟩ := hm3.cells
      have xf := hm3.frozen
      simp only [zeroM] at x0 x1 x2 x3 x4 x5 x6
      have HQ4 := Lib.hid (hq2.set LQ A5 l.length c5)
      have HM4 := Lib.hid (msg_far2 hm3 (b := w.heap.size + 1) (by omega) (.int .i64 LQ) (.slice A5 l.length c5))
      have HB4 := Lib.hid (below_set2 HBZ.out (b := w.heap.size + 1) (by omega) (.int .i64 LQ) (.slice A5 l.length c5))
      have HF4 : Hid (∀ k, k ≠ w.heap.size + 1 → ((w7.setCell ⟨w.heap.size + 1, 0, none⟩ (.int .i64 LQ)).setCell ⟨w.heap.size + 1, 1, none⟩ (.slice A5 l.length c5)).heap[k]? = w7.heap[k]?) := Lib.hid (fun k hk => far2 w7 _ _ hk)
      have HSX : Hid (w.heap.size + 3 ≤ w1.heap.size) := Lib.hid (by rw [HSZ.out]; exact HBX.out.size)
      clear hq2 hm3 b7 ht5 v0 v1
      go_wp2_with fail
      have hp7 := HM4.out.set7 zeroM
      have hq7 := que_far7 HQ4.out (b := w.heap.size + 2) (by omega) zeroM
      have hb7 := below_set7 HB4.out (b := w.heap.size + 2) (by omega) zeroM
      have hf7 := fun k (hk : k ≠ w.heap.size + 2) => set7_far ((w7.setCell ⟨w.heap.size + 1, 0, none⟩ (.int .i64 LQ)).setCell ⟨w.heap.size + 1, 1, none⟩ (.slice A5 l.length c5)) hk zeroM
      have hs7 := set7_size ((w7.setCell ⟨w.heap.size + 1, 0, none⟩ (.int .i64 LQ)).setCell ⟨w.heap.size + 1, 1, none⟩ (.slice A5 l.length c5)) (w.heap.size + 2) zeroM
      rw [World.size_setCell, World.size_setCell] at hs7
      have ht7 : QTold none w.heap.size _ _ A5 c5 := (HT5.out.far (b := w.heap.size) (fun ad e => by cases e) HSX.out (fun k hk1 hk2 => (hf7 k hk2).trans (HF4.out k hk1)) hs7).less (by have := HSX.out; omega)
      simp only [set7, zeroM] at hp7 hq7 hb7 ht7
      exact bodyPost_ret (qm_res Tryd.results39 hq7 hp7 rfl rfl rfl) rfl (HPP.out _ _ _ ht7 hb7)

set_option maxRecDepth 100000 in
set_option maxHeartbeats 2000000 in
theorem refAbortQ_any (LQ : Int) (A : Option Addr) (c : Nat) (l : List Msg) (n : Int) (w : World) (hq : QIn w A c l) :
    Calls Tryd.prog 46 #[qv LQ A l.length c, .int .i64 n] w (TakePost LQ A l (l.findIdx (isNum n)) w) := by
  have CA := fun W (h : QIn W A c l) => at_any LQ A c l n W h
  have hle := find_le (isNum n) l
  have hat : atI l n = if l.findIdx (isNum n) < l.length then (l.findIdx (isNum n) : Int) else -1 := rfl
  generalize l.findIdx (isNum n) = I at *
  have q1 := QAt.new w LQ A l.length c
  have b1 := Joins.below_alloc1 w (.cells #[.int .i64 LQ, .slice A l.length c] 64)
  have q2 := QAt.new (w.alloc (.cells #[.int .i64 LQ, .slice A l.length c] 64)) 0 none 0 0
  have b2 := Joins.below_alloc1 (w.alloc (.cells #[.int .i64 LQ, .slice A l.length c] 64)) (.cells #[.int .i64 0, .slice none 0 0] 64)
  have q3 := MsgAt.new ((w.alloc (.cells #[.int .i64 LQ, .slice A l.length c] 64)).alloc (.cells #[.int .i64 0, .slice none 0 0] 64)) zeroM
  have b3 := Joins.below_alloc1 ((w.alloc (.cells #[.int .i64 LQ, .slice A l.length c] 64)).alloc (.cells #[.int .i64 0, .slice none 0 0] 64)) (.cells (mc zeroM) 26)
  rw [World.size_alloc] at q2
  rw [World.size_alloc, World.size_alloc] at q3
  have q1' := (q1.on b2).on b3
  have q2' := q2.on b3
  have hB := (b1.trans (b2.mono b1.size)).trans (b3.mono (Nat.le_trans b1.size b2.size))
  have hq3 := hq.on hB
  have hsz : w.heap.size + 3 = (((w.alloc (.cells #[.int .i64 LQ, .slice A l.length c] 64)).alloc (.cells #[.int .i64 0, .slice none 0 0] 64)).alloc (.cells (mc zeroM) 26)).heap.size := by simp only [World.size_alloc]
  simp only [mc, zeroM] at q1' q2' q3 hB hq3 hsz
  clear q1 q2 b1 b2 b3
  have HPO : Hid (∀ w' A' c', QTold none w.heap.size w' (cutL LQ l I) A' c' → Below w.heap.size w w' → TakePost LQ A l I w (.returned (.tuple #[qv LQ A' (cutL LQ l I).length c', mv (cutM LQ l I), .int .i64 (cutE LQ l I)])) w') := Lib.hid (fun w' A' c' h1 h2 => ⟨_, rfl, ⟨A', c', rfl, h1.of⟩, h2⟩)
  have HX := Lib.hid (fun h => cut_wrong (L := LQ) (l := l) (i := I) h)
  have HL := Lib.hid (fun h h2 => cut_none (L := LQ) (l := l) (i := I) h h2)
  have HO := Lib.hid (fun m h h2 => cut_one (L := LQ) (l := l) (i := I) (m := m) h h2)
  obtain ⟨y0, y1⟩ := q1'.cells
  have hfew := hq.few
  have HQ := Lib.hid hq
  have HB := Lib.hid hB
  have HQ1 := Lib.hid q1'
  have HQ2 := Lib.hid q2'
  have HM3 : Hid (MsgAt _ (w.heap.size + 2) zeroM) := Lib.hid q3
  have HSZ := Lib.hid hsz
  have HQ3 := Lib.hid hq3
  have CR := fun W (h2 : QIn W A c l) => refRightQ_any LQ A c l W h2
  have HOW : Hid (∀ W, QIn W A c l → Calls Tryd.prog 34 #[qv LQ A l.length c] W (OwnPost LQ l W)) := Lib.hid (fun W h => ownQ_any LQ A c l W h)
  clear hq q1' q2' q3 hB hsz
  generalize hR : rightQ LQ l = R at *
  cases R
  · have HEE := Lib.hid (HX.out rfl)
    clear hR hat CA
    go_enter Tryd.func46, Tryd.ntmps46
    go_wp2_with fail; refine (CR _ hq3).mono ?_; rintro e w1 ⟨rfl, b2⟩
    have HBX := Lib.hid b2
    clear b2 y0 y1 hq3 CR
    obtain ⟨he, hl, hmm, -⟩ := HEE.out
    have hpo := HPO.out
    rw [he, hl, hmm] at hpo
    have HPP := Lib.hid hpo
    clear he hl hmm hpo
    obtain ⟨v0, v1⟩ := (HQ1.out.on HBX.out).cells
    go_wp2_with fail; refine (HOW.out _ (HQ3.out.on HBX.out)).mono ?_; rintro e w7 ⟨A5, c5, rfl, ht5, b7⟩
    have HBY := Lib.hid (HBX.out.trans (b7.mono HBX.out.size))
    have HBZ := Lib.hid (HB.out.trans (HBY.out.mono HB.out.size))
    have HT5 := Lib.hid (ht5)
    have hq2 := HQ2.out.on HBY.out
    have hm3 := MsgAt.on HM3.out HBY.out
    obtain ⟨z0, z1⟩ := hq2.cells
    have zf := hq2.frozen
    obtain ⟨x0, x1, x2, x3, x4, x5, x6⟩ := hm3.cells
    have xf := hm3.frozen
    simp only [zeroM] at x0 x1 x2 x3 x4 x5 x6
    have HQ4 := Lib.hid (hq2.set LQ A5 l.length c5)
    have HM4 := Lib.hid (msg_far2 hm3 (b := w.heap.size + 1) (by omega) (.int .i64 LQ) (.slice A5 l.length c5))
    have HB4 := Lib.hid (below_set2 HBZ.out (b := w.heap.size + 1) (by omega) (.int .i64 LQ) (.slice A5 l.length c5))
    have HF4 : Hid (∀ k, k ≠ w.heap.size + 1 → ((w7.setCell ⟨w.heap.size + 1, 0, none⟩ (.int .i64 LQ)).setCell ⟨w.heap.size + 1, 1, none⟩ (.slice A5 l.length c5)).heap[k]? = w7.heap[k]?) := Lib.hid (fun k hk => far2 w7 _ _ hk)
    have HSX : Hid (w.heap.size + 3 ≤ w1.heap.size) := Lib.hid (by rw [HSZ.out]; exact HBX.out.size)
    clear hq2 hm3 b7 ht5 v0 v1
    go_wp2_with fail
    have hp7 := HM4.out.set7 zeroM
    have hq7 := que_far7 HQ4.out (b := w.heap.size + 2) (by omega) zeroM
    have hb7 := below_set7 HB4.out (b := w.heap.size + 2) (by omega) zeroM
    have hf7 := fun k (hk : k ≠ w.heap.size + 2) => set7_far ((w7.setCell ⟨w.heap.size + 1, 0, none⟩ (.int .i64 LQ)).setCell ⟨w.heap.size + 1, 1, none⟩ (.slice A5 l.length c5)) hk zeroM
    have hs7 := set7_size ((w7.setCell ⟨w.heap.size + 1, 0, none⟩ (.int .i64 LQ)).setCell ⟨w.heap.size + 1, 1, none⟩ (.slice A5 l.length c5)) (w.heap.size + 2) zeroM
    rw [World.size_setCell, World.size_setCell] at hs7
    have ht7 : QTold none w.heap.size _ _ A5 c5 := (HT5.out.far (b := w.heap.size) (fun ad e => by cases e) HSX.out (fun k hk1 hk2 => (hf7 k hk2).trans (HF4.out k hk1)) hs7).less (by have := HSX.out; omega)
    simp only [set7, zeroM] at hp7 hq7 hb7 ht7
    exact bodyPost_ret (qm_res Tryd.results46 hq7 hp7 rfl rfl rfl) rfl (HPP.out _ _ _ ht7 hb7)
  · by_cases hlt : I < l.length
    · obtain ⟨m, hm⟩ : ∃ m, l[I]? = some m := ⟨_, List.getElem?_eq_getElem hlt⟩
      obtain ⟨ll, hll⟩ : ∃ ll, ll = l.eraseIdx I := ⟨_, rfl⟩
      have hee := HO.out m rfl hm
      rw [← hll] at hee
      have HEE := Lib.hid hee
      rw [if_pos hlt] at hat
      rw [hat] at CA
      have HWO : Hid (∀ W, QIn W A c l → Calls Tryd.prog 65 #[qv LQ A l.length c, .int .i64 (I : Int)] W fun e w' => ∃ A' c', e = .returned (.tuple #[qv LQ A' ll.length c', mv m, .int .i64 0]) ∧ QTold none W.heap.size w' ll A' c' ∧ Below W.heap.size W w') := Lib.hid (fun W h => by rw [hll]; exact refWithout_any LQ A c l I m W h hm)
      clear hee hll hm hR hlt hat
      have hnn : ¬ ((I : Int) < 0) := by omega
      go_enter Tryd.func46, Tryd.ntmps46
      go_wp2_with fail; refine (CR _ hq3).mono ?_; rintro e w1 ⟨rfl, b2⟩
      have HB1 := Lib.hid b2
      clear b2 y0 y1 CR
      obtain ⟨y0, y1⟩ := (HQ1.out.on HB1.out).cells
      go_wp2_with fail; refine (CA _ (hq3.on HB1.out)).mono ?_; rintro e w2 ⟨rfl, b3⟩
      have HBX := Lib.hid (HB1.out.trans (b3.mono HB1.out.size))
      clear b3 y0 y1 hq3 CA
      obtain ⟨he, hl, hmm, -⟩ := HEE.out
      have hpo := HPO.out
      rw [he, hl, hmm] at hpo
      have HPP := Lib.hid hpo
      clear he hl hmm hpo
      obtain ⟨e1, n1, s1, i1, q1, k1, d1⟩ := m
      simp only [mv] at *
      obtain ⟨v0, v1⟩ := (HQ1.out.on HBX.out).cells
      have hwo := HWO.out _ (HQ3.out.on HBX.out)
      skip
      go_wp2_with fail; refine hwo.mono ?_; rintro e w7 ⟨A5, c5, rfl, ht5, b7⟩
      have HBY := Lib.hid (HBX.out.trans (b7.mono HBX.out.size))
      have HBZ := Lib.hid (HB.out.trans (HBY.out.mono HB.out.size))
      have HT5 := Lib.hid (ht5)
      have hq2 := HQ2.out.on HBY.out
      have hm3 := MsgAt.on HM3.out HBY.out
      obtain ⟨z0, z1⟩ := hq2.cells
      have zf := hq2.frozen
      obtain ⟨x0, x1, x2, x3, x4, x5, x6⟩ := hm3.cells
      have xf := hm3.frozen
      simp only [zeroM] at x0 x1 x2 x3 x4 x5 x6
      have HQ4 := Lib.hid (hq2.set LQ A5 ll.length c5)
      have HM4 := Lib.hid (msg_far2 hm3 (b := w.heap.size + 1) (by omega) (.int .i64 LQ) (.slice A5 ll.length c5))
      have HB4 := Lib.hid (below_set2 HBZ.out (b := w.heap.size + 1) (by omega) (.int .i64 LQ) (.slice A5 ll.length c5))
      have HF4 : Hid (∀ k, k ≠ w.heap.size + 1 → ((w7.setCell ⟨w.heap.size + 1, 0, none⟩ (.int .i64 LQ)).setCell ⟨w.heap.size + 1, 1, none⟩ (.slice A5 ll.length c5)).heap[k]? = w7.heap[k]?) := Lib.hid (fun k hk => far2 w7 _ _ hk)
      have HSX : Hid (w.heap.size + 3 ≤ w2.heap.size) := Lib.hid (by rw [HSZ.out]; exact HBX.out.size)
      clear hq2 hm3 b7 ht5 v0 v1 hwo
      go_wp2_with fail
      have hp7 := HM4.out.set7 ⟨e1, n1, s1, i1, q1, k1, d1⟩
      have hq7 := que_far7 HQ4.out (b := w.heap.size + 2) (by omega) ⟨e1, n1, s1, i1, q1, k1, d1⟩
      have hb7 := below_set7 HB4.out (b := w.heap.size + 2) (by omega) ⟨e1, n1, s1, i1, q1, k1, d1⟩
      have hf7 := fun k (hk : k ≠ w.heap.size + 2) => set7_far ((w7.setCell ⟨w.heap.size + 1, 0, none⟩ (.int .i64 LQ)).setCell ⟨w.heap.size + 1, 1, none⟩ (.slice A5 ll.length c5)) hk ⟨e1, n1, s1, i1, q1, k1, d1⟩
      have hs7 := set7_size ((w7.setCell ⟨w.heap.size + 1, 0, none⟩ (.int .i64 LQ)).setCell ⟨w.heap.size + 1, 1, none⟩ (.slice A5 ll.length c5)) (w.heap.size + 2) ⟨e1, n1, s1, i1, q1, k1, d1⟩
      rw [World.size_setCell, World.size_setCell] at hs7
      have ht7 : QTold none w.heap.size _ _ A5 c5 := (HT5.out.far (b := w.heap.size) (fun ad e => by cases e) HSX.out (fun k hk1 hk2 => (hf7 k hk2).trans (HF4.out k hk1)) hs7).less (by have := HSX.out; omega)
      simp only [set7] at hp7 hq7 hb7 ht7
      exact bodyPost_ret (qm_res Tryd.results46 hq7 hp7 rfl rfl rfl) rfl (HPP.out _ _ _ ht7 hb7)
    · rw [if_neg hlt] at hat
      rw [hat] at CA
      have HEE := Lib.hid (HL.out rfl (by omega))
      clear hR hat
      go_enter Tryd.func46, Tryd.ntmps46
      go_wp2_with fail; refine (CR _ hq3).mono ?_; rintro e w1 ⟨rfl, b2⟩
      have HB1 := Lib.hid b2
      clear b2 y0 y1 CR
      obtain ⟨y0, y1⟩ := (HQ1.out.on HB1.out).cells
      go_wp2_with fail; refine (CA _ (hq3.on HB1.out)).mono ?_; rintro e w2 ⟨rfl, b3⟩
      have HBX := Lib.hid (HB1.out.trans (b3.mono HB1.out.size))
      clear b3 y0 y1 hq3 CA
      obtain ⟨he, hl, hmm, -⟩ := HEE.out
      have hpo := HPO.out
      rw [he, hl, hmm] at hpo
      have HPP := Lib.hid hpo
      clear he hl hmm hpo
      obtain ⟨v0, v1⟩ := (HQ1.out.on HBX.out).cells
      go_wp2_with fail; refine (HOW.out _ (HQ3.out.on HBX.out)).mono ?_; rintro e w7 ⟨A5, c5, rfl, ht5, b7⟩
      have HBY := Lib.hid (HBX.out.trans (b7.mono HBX.out.size))
      have HBZ := Lib.hid (HB.out.trans (HBY.out.mono HB.out.size))
      have HT5 := Lib.hid (ht5)
      have hq2 := HQ2.out.on HBY.out
      have hm3 := MsgAt.on HM3.out HBY.out
      obtain ⟨z0, z1⟩ := hq2.cells
      have zf := hq2.frozen
      obtain ⟨x0, x1, x2, x3, x4, x5, x6⟩ := hm3.cells
      have xf := hm3.frozen
      simp only [zeroM] at x0 x1 x2 x3 x4 x5 x6
      have HQ4 := Lib.hid (hq2.set LQ A5 l.length c5)
      have HM4 := Lib.hid (msg_far2 hm3 (b := w.heap.size + 1) (by omega) (.int .i64 LQ) (.slice A5 l.length c5))
      have HB4 := Lib.hid (below_set2 HBZ.out (b := w.heap.size + 1) (by omega) (.int .i64 LQ) (.slice A5 l.length c5))
      have HF4 : Hid (∀ k, k ≠ w.heap.size + 1 → ((w7.setCell ⟨w.heap.size + 1, 0, none⟩ (.int .i64 LQ)).setCell ⟨w.heap.size + 1, 1, none⟩ (.slice A5 l.length c5)).heap[k]? = w7.heap[k]?) := Lib.hid (fun k hk => far2 w7 _ _ hk)
      have HSX : Hid (w.heap.size + 3 ≤ w2.heap.size) := Lib.hid (by rw [HSZ.out]; exact HBX.out.size)
      clear hq2 hm3 b7 ht5 v0 v1
      go_wp2_with fail
      have hp7 := HM4.out.set7 zeroM
      have hq7 := que_far7 HQ4.out (b := w.heap.size + 2) (by omega) zeroM
      have hb7 := below_set7 HB4.out (b := w.heap.size + 2) (by omega) zeroM
      have hf7 := fun k (hk : k ≠ w.heap.size + 2) => set7_far ((w7.setCell ⟨w.heap.size + 1, 0, none⟩ (.int .i64 LQ)).setCell ⟨w.heap.size + 1, 1, none⟩ (.slice A5 l.length c5)) hk zeroM
      have hs7 := set7_size ((w7.setCell ⟨w.heap.size + 1, 0, none⟩ (.int .i64 LQ)).setCell ⟨w.heap.size + 1, 1, none⟩ (.slice A5 l.length c5)) (w.heap.size + 2) zeroM
      rw [World.size_setCell, World.size_setCell] at hs7
      have ht7 : QTold none w.heap.size _ _ A5 c5 := (HT5.out.far (b := w.heap.size) (fun ad e => by cases e) HSX.out (fun k hk1 hk2 => (hf7 k hk2).trans (HF4.out k hk1)) hs7).less (by have := HSX.out; omega)
      simp only [set7, zeroM] at hp7 hq7 hb7 ht7
      exact bodyPost_ret (qm_res Tryd.results46 hq7 hp7 rfl rfl rfl) rfl (HPP.out _ _ _ ht7 hb7)

set_option maxRecDepth 100000 in
set_option maxHeartbeats 2000000 in
theorem refFirstQ_any (LQ : Int) (A : Option Addr) (c : Nat) (l : List Msg) (w : World) (hq : QIn w A c l) :
    Calls Tryd.prog 37 #[qv LQ A l.length c] w fun e w' => e = .returned (.tuple #[mv (cutM LQ l 0), .bool (cutE LQ l 0 == 0)]) ∧ Below w.heap.size w w' := by
  have hfew := hq.few
  have q1 := QAt.new w LQ A l.length c
  have b1 := Joins.below_alloc1 w (.cells #[.int .i64 LQ, .slice A l.length c] 64)
  have q3 := MsgAt.new (w.alloc (.cells #[.int .i64 LQ, .slice A l.length c] 64)) zeroM
  have b3 := Joins.below_alloc1 (w.alloc (.cells #[.int .i64 LQ, .slice A l.length c] 64)) (.cells (mc zeroM) 26)
  rw [World.size_alloc] at q3
  have q1' := q1.on b3
  have hB := b1.trans (b3.mono b1.size)
  have hq3 := hq.on hB
  simp only [mc, zeroM] at q1' q3 hB hq3
  clear q1 b1 b3
  have HX := Lib.hid (fun h => cut_wrong (L := LQ) (l := l) (i := 0) h)
  have HL := Lib.hid (fun h h2 => cut_none (L := LQ) (l := l) (i := 0) h h2)
  have HO := Lib.hid (fun m h h2 => cut_one (L := LQ) (l := l) (i := 0) (m := m) h h2)
  obtain ⟨y0, y1⟩ := q1'.cells
  have HB := Lib.hid hB
  have HQ1 := Lib.hid q1'
  have HM3 : Hid (MsgAt _ (w.heap.size + 1) zeroM) := Lib.hid q3
  have HQ := Lib.hid hq
  have CR := fun W (h2 : QIn W A c l) => refRightQ_any LQ A c l W h2
  clear hq q1' q3 hB
  by_cases hgood : rightQ LQ l = true ∧ 0 < l.length
  · obtain ⟨hr, hlt⟩ := hgood
    obtain ⟨m, hm⟩ : ∃ m, l[0]? = some m := ⟨_, List.getElem?_eq_getElem hlt⟩
    obtain ⟨he, hl, hmm, hf⟩ := HO.out m hr hm
    rw [hr] at CR
    rw [he, hmm]
    have hltI : (0 : Int) < (l.length : Int) := by omega
    have hlne : ((l.length : Int) == 0) = false := beq_eq_false_iff_ne.mpr (by omega)
    clear he hl hmm hf hr
    go_enter Tryd.func37, Tryd.ntmps37
    go_wp2_with fail; refine (CR _ hq3).mono ?_; rintro e w1 ⟨rfl, b2⟩
    have HB2 := Lib.hid (HB.out.trans (b2.mono HB.out.size))
    have hq1 := HQ1.out.on b2
    have hm3 := MsgAt.on HM3.out b2
    obtain ⟨z0, z1⟩ := hq1.cells
    obtain ⟨ad, rfl, hat⟩ := (HQ.out.on HB2.out).at hm
    have hz0 : ad.add (0 * 7) = ad := by unfold Addr.add; rfl
    rw [hz0] at hat
    obtain ⟨x0, x1, x2, x3, x4, x5, x6⟩ := hm3.cells
    have xf := hm3.frozen
    simp only [zeroM] at x0 x1 x2 x3 x4 x5 x6
    have HM3' := Lib.hid hm3
    clear hq1 hm3 b2 CR hq3 hm y0 y1 hz0
    obtain ⟨e1, n1, s1, i1, q1, k1, d1⟩ := m
    obtain ⟨u0, u1, u2, u3, u4, u5, u6⟩ := hat
    go_wp2_with fail
    have hp7 := HM3'.out.set7 ⟨e1, n1, s1, i1, q1, k1, d1⟩
    have hb7 := below_set7 HB2.out (b := w.heap.size + 1) (by omega) ⟨e1, n1, s1, i1, q1, k1, d1⟩
    simp only [set7] at hp7 hb7
    exact bodyPost_ret (mb_res Tryd.results37 hp7 rfl rfl) rfl ⟨rfl, hb7⟩
  · have hE : ∃ E, E ≠ 0 ∧ cutE LQ l 0 = E ∧ cutL LQ l 0 = l ∧ cutM LQ l 0 = zeroM ∧ findI LQ l 0 = 0 := by
      cases hR : rightQ LQ l
      · exact ⟨1, by decide, HX.out hR⟩
      · exact ⟨41, by decide, HL.out hR (by have h2 : ¬ 0 < l.length := fun h => hgood ⟨hR, h⟩; omega)⟩
    obtain ⟨E, hE0, he, hl, hmm, hf⟩ := hE
    rw [he, hmm]
    have HEE : Hid ((E == 0) = false) := Lib.hid (by simpa using hE0)
    generalize hR : rightQ LQ l = R at *
    clear he hl hmm hf hE0
    cases R
    · clear hgood hR
      go_enter Tryd.func37, Tryd.ntmps37
      go_wp2_with fail; refine (CR _ hq3).mono ?_; rintro e w1 ⟨rfl, b2⟩
      have HB2 := Lib.hid (HB.out.trans (b2.mono HB.out.size))
      have hm3 := MsgAt.on HM3.out b2
      obtain ⟨x0, x1, x2, x3, x4, x5, x6⟩ := hm3.cells
      have xf := hm3.frozen
      simp only [zeroM] at x0 x1 x2 x3 x4 x5 x6
      have HM4 := Lib.hid hm3
      clear hm3 b2 CR hq3 y0 y1
      go_wp2_with fail
      have hp7 := HM4.out.set7 zeroM
      have hb7 := below_set7 HB2.out (b := w.heap.size + 1) (by omega) zeroM
      simp only [set7, zeroM] at hp7 hb7
      rw [HEE.out]
      exact bodyPost_ret (mb_res Tryd.results37 hp7 rfl rfl) rfl ⟨rfl, hb7⟩
    · have hl0 : l.length = 0 := by have h2 : ¬ 0 < l.length := fun h => hgood ⟨rfl, h⟩; omega
      have hlne : ((l.length : Int) == 0) = true := by rw [hl0]; rfl
      clear hgood hl0 hR
      go_enter Tryd.func37, Tryd.ntmps37
      go_wp2_with fail; refine (CR _ hq3).mono ?_; rintro e w1 ⟨rfl, b2⟩
      have HB2 := Lib.hid (HB.out.trans (b2.mono HB.out.size))
      have hm3 := MsgAt.on HM3.out b2
      obtain ⟨x0, x1, x2, x3, x4, x5, x6⟩ := hm3.cells
      have xf := hm3.frozen
      obtain ⟨z0, z1⟩ := (HQ1.out.on b2).cells
      simp only [zeroM] at x0 x1 x2 x3 x4 x5 x6
      have HM4 := Lib.hid hm3
      clear hm3 b2 CR hq3 y0 y1
      go_wp2_with fail
      have hp7 := HM4.out.set7 zeroM
      have hb7 := below_set7 HB2.out (b := w.heap.size + 1) (by omega) zeroM
      simp only [set7, zeroM] at hp7 hb7
      rw [HEE.out]
      exact bodyPost_ret (mb_res Tryd.results37 hp7 rfl rfl) rfl ⟨rfl, hb7⟩

end Go.Proofs.YtehajmockicilaaDoor


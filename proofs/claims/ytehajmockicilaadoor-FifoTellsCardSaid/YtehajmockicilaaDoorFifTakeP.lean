/-
  What the program's Take tells.
-/
import Derived.Test.YtehajmockicilaaDoorFifAnsM
namespace Go.Proofs.YtehajmockicilaaDoor
open Go Go.RowKit

set_option maxRecDepth 100000 in
set_option maxHeartbeats 4000000 in
theorem takeFi_any (LQ T : Int) (A : Option Addr) (c : Nat) (l : List Msg) (w : World) (LL : Laid w) (hq : QIn w A c l) :
    Calls Tryd.prog 17 #[fiv LQ T A l.length c] w (FiPostM A LQ T (takeFiL LQ T l) (takeFiM LQ T l) (takeFiE LQ T l) w) := by
  have q1 := FiAt.new w LQ T A l.length c
  have b1 := Joins.below_alloc1 w (.cells #[.int .i64 LQ, .int .i64 T, .slice A l.length c] 30)
  have q2 := FiAt.new (w.alloc (.cells #[.int .i64 LQ, .int .i64 T, .slice A l.length c] 30)) 0 0 none 0 0
  have b2 := Joins.below_alloc1 (w.alloc (.cells #[.int .i64 LQ, .int .i64 T, .slice A l.length c] 30)) (.cells #[.int .i64 0, .int .i64 0, .slice none 0 0] 30)
  have q3 := MsgAt.new ((w.alloc (.cells #[.int .i64 LQ, .int .i64 T, .slice A l.length c] 30)).alloc (.cells #[.int .i64 0, .int .i64 0, .slice none 0 0] 30)) ⟨false, 0, 0, 0, 0, 0, ⟨#[]⟩⟩
  have b3 := Joins.below_alloc1 ((w.alloc (.cells #[.int .i64 LQ, .int .i64 T, .slice A l.length c] 30)).alloc (.cells #[.int .i64 0, .int .i64 0, .slice none 0 0] 30)) (.cells #[.bool false, .int .i64 0, .int .i64 0, .int .i64 0, .int .i64 0, .int .i64 0, .string ⟨#[]⟩] 26)
  rw [World.size_alloc] at q2
  rw [World.size_alloc, World.size_alloc] at q3
  have b23 := b2.trans (b3.mono b2.size)
  have q1' := q1.on b23
  have q2' := q2.on b3
  have hB := b1.trans (b23.mono b1.size)
  have hsz : (((w.alloc (.cells #[.int .i64 LQ, .int .i64 T, .slice A l.length c] 30)).alloc (.cells #[.int .i64 0, .int .i64 0, .slice none 0 0] 30)).alloc (.cells #[.bool false, .int .i64 0, .int .i64 0, .int .i64 0, .int .i64 0, .int .i64 0, .string ⟨#[]⟩] 26)).heap.size = w.heap.size + 3 := by simp only [World.size_alloc]
  obtain ⟨y0, y1, y2⟩ := q1'.cells
  have HQ2 := Lib.hid q2'
  have HM3 : Hid (MsgAt _ (w.heap.size + 2) ⟨false, 0, 0, 0, 0, 0, ⟨#[]⟩⟩) := Lib.hid q3
  have HB := Lib.hid hB
  have HSZ := Lib.hid hsz
  have HLO := Lib.hid hq.low
  have CA := Lib.hid (ansTake_any LQ T A c l _ (LL.below hB) (hq.on hB))
  clear q1 q2 b1 b2 b3 b23 hq q1' q2' q3 hB hsz LL
  generalize takeFiL LQ T l = l' at *
  generalize takeFiM LQ T l = m at *
  generalize takeFiE LQ T l = E at *
  obtain ⟨e1, n1, s1, i1, q1, k1, d1⟩ := m
  simp only [kpv, kpc] at *
  go_enter Tryd.func17, Tryd.ntmps17
  go_wp2_with fail
  generalize ((w.alloc (.cells #[.int .i64 LQ, .int .i64 T, .slice A l.length c] 30)).alloc (.cells #[.int .i64 0, .int .i64 0, .slice none 0 0] 30)).alloc (.cells #[.bool false, .int .i64 0, .int .i64 0, .int .i64 0, .int .i64 0, .int .i64 0, .string ⟨#[]⟩] 26) = X at *
  refine CA.out.mono ?_; rintro e w3 ⟨A5, c5, rfl, ht5, b3⟩
  have hq2 := HQ2.out.on b3
  have hm3 : MsgAt w3 (w.heap.size + 2) ⟨false, 0, 0, 0, 0, 0, ⟨#[]⟩⟩ := MsgAt.on HM3.out b3
  obtain ⟨z0, z1, z2⟩ := hq2.cells
  have zf := hq2.frozen
  obtain ⟨x0, x1, x2, x3, x4, x5, x6⟩ := hm3.cells
  have xf := hm3.frozen
  simp only [mv] at *
  have hr := hq2.set LQ T A5 l'.length c5
  have hbr := below_set3 (HB.out.trans (b3.mono HB.out.size)) (b := w.heap.size + 1) (by omega) (.int .i64 LQ) (.int .i64 T) (.slice A5 l'.length c5)
  have htr := ht5.put3A (b := w.heap.size + 1) (fun ad e => by have := HLO.out ad e; omega) (by rw [HSZ.out]; omega) (.int .i64 LQ) (.int .i64 T) (.slice A5 l'.length c5)
  have hmr := MsgAt.put3 hm3 (b := w.heap.size + 1) (by omega) (.int .i64 LQ) (.int .i64 T) (.slice A5 l'.length c5)
  have HM7 := Lib.hid (hmr.set7 ⟨e1, n1, s1, i1, q1, k1, d1⟩)
  have HR7 := Lib.hid (hr.put7 (b := w.heap.size + 2) (by omega) ⟨e1, n1, s1, i1, q1, k1, d1⟩)
  have HT7 := Lib.hid ((htr.put7A (b := w.heap.size + 2) (fun ad e => by have := HLO.out ad e; omega) (by rw [HSZ.out]; omega) ⟨e1, n1, s1, i1, q1, k1, d1⟩).less (S' := w.heap.size) (by rw [HSZ.out]; omega))
  have HB7 := Lib.hid (below_set7 hbr (b := w.heap.size + 2) (by omega) ⟨e1, n1, s1, i1, q1, k1, d1⟩)
  clear hr hbr htr hmr hq2 hm3 y0 y1 y2 CA b3 ht5 HSZ
  go_wp2_with fail
  have hm7 := HM7.out
  have hr7 := HR7.out
  have ht7 := HT7.out
  have hb7 := HB7.out
  simp only [set7] at hm7 hr7 ht7 hb7
  exact bodyPost_ret (fim_res Tryd.results17 hr7 hm7 rfl rfl rfl) rfl ⟨_, _, rfl, ht7, hb7⟩

end Go.Proofs.YtehajmockicilaaDoor

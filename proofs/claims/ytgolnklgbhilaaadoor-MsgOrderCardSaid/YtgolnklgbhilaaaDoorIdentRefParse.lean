/-
  Identifiers out of bytes: what the document's Parse does.
-/
import Derived.Test.YtgolnklgbhilaaaDoorIdentParse
import Derived.IntWalk
namespace Go.Proofs.YtgolnklgbhilaaaDoor
open Go.RowKit

theorem byte_at (s : ByteArray) (n : Nat) (hn : n < s.size) : s[n] = s.data.toList.getD n 0 := by
  rw [List.getD_eq_getElem?_getD, List.getElem?_eq_getElem (by rw [← Lib.size_eq]; exact hn)]
  rfl

theorem run_at (s : ByteArray) (e : Int) (n : Nat) (he : e = (n : Int)) (hn : n < s.size) (w : World) :
    (Instr.index 9 (.string s) (.int .i64 e)).run Tryd.prog w = .ok (.int .u8 (((s.data.toList.getD n 0).toNat : Nat) : Int)) w := by
  subst he
  rw [← byte_at s n hn]
  rw [run_index_string w 9 s .i64 (n : Int) Tryd.underlying9]
  rw [dif_pos ⟨by omega, by omega⟩]
  rfl

theorem numL_four (l : List UInt8) (h : l.length = 4) : numL l = 16777216 * ((l.getD 0 0).toNat : Int) + 65536 * ((l.getD 1 0).toNat : Int) + 256 * ((l.getD 2 0).toNat : Int) + ((l.getD 3 0).toNat : Int) := by
  match l, h with
  | [a, b, c, d], _ =>
    show ((((0 : Int) * 256 + (a.toNat : Int)) * 256 + (b.toNat : Int)) * 256 + (c.toNat : Int)) * 256 + (d.toNat : Int) = 16777216 * (a.toNat : Int) + 65536 * (b.toNat : Int) + 256 * (c.toNat : Int) + (d.toNat : Int)
    omega

theorem refParse_short (s : ByteArray) (w : World) (hs : s.size < 4) :
    Calls Tryd.prog 37 #[.string s] w (ParsePost s.data.toList w) := by
  have hl : s.data.toList.length = s.size := (Lib.size_eq s).symm
  have HQ := Lib.hid (ps_none s.data.toList 3 (by unfold psOk; rw [decide_eq_false (by omega)]; rfl) (by unfold psE; rw [if_pos (by omega)]))
  clear hl
  go_enter Tryd.func37, Tryd.ntmps37
  go_wp2_with fail
  exact bodyPost_ret (v := .tuple #[.agg #[.bool false, .int .i64 0], .int .i64 3]) (by simp [results, Tryd.results37, go_sem]) rfl (HQ.out _ _ (Joins.below_alloc1 _ _))

theorem refParse_long (s : ByteArray) (w : World) (hs : 4 < s.size) (hm : s.size ≤ maxLen) :
    Calls Tryd.prog 37 #[.string s] w (ParsePost s.data.toList w) := by
  unfold maxLen at hm
  have hl : s.data.toList.length = s.size := (Lib.size_eq s).symm
  have HQ := Lib.hid (ps_none s.data.toList 4 (by unfold psOk; rw [decide_eq_false (by omega)]; rfl) (by unfold psE; rw [if_neg (by omega), if_pos (by omega)]))
  clear hl
  go_enter Tryd.func37, Tryd.ntmps37
  go_wp2_with fail
  exact bodyPost_ret (v := .tuple #[.agg #[.bool false, .int .i64 0], .int .i64 4]) (by simp [results, Tryd.results37, go_sem]) rfl (HQ.out _ _ (Joins.below_alloc1 _ _))

theorem refParse_four (s : ByteArray) (w : World) (hs : s.size = 4) :
    Calls Tryd.prog 37 #[.string s] w (ParsePost s.data.toList w) := by
  have hl : s.data.toList.length = 4 := by rw [← Lib.size_eq, hs]
  have h3 : 4 ≤ s.size := by omega
  have h4 : s.size ≤ 4 := by omega
  obtain ⟨hn0, hn1⟩ := numL_range s.data.toList
  rw [hl] at hn1
  have hn2 : numL s.data.toList < 4294967296 := hn1
  have hB2 : psB s.data.toList = decide (2147483648 ≤ numL s.data.toList) := rfl
  have hN2 : psN s.data.toList = numL s.data.toList % 2147483648 := rfl
  have hq : psOk s.data.toList = rightI (psB s.data.toList) (psN s.data.toList) := by unfold psOk; rw [decide_eq_true hl, Bool.true_and]
  have HQ1 := fun h => Lib.hid (ps_one s.data.toList hl h)
  have HQ0 := fun h => Lib.hid (ps_none s.data.toList 2 h (by unfold psE; rw [if_neg (by omega), if_neg (by omega), h]; rfl))
  rw [hq] at HQ1 HQ0
  have hB := hB2.symm
  have hN := hN2.symm
  clear hq hB2 hN2
  generalize psB s.data.toList = B at HQ1 HQ0 hB
  generalize psN s.data.toList = N at HQ1 HQ0 hN
  have HB := Lib.hid hB; clear hB
  have HN := Lib.hid hN; clear hN
  have HS := Lib.hid hs; clear hs
  have HL := Lib.hid hl; clear hl
  clear hn0 hn1 hn2
  have c1 := fun w => refRight_any B N w
  have k0 := run_at s 0 0 rfl (by omega)
  have k1 := run_at s 1 1 rfl (by omega)
  have k2 := run_at s 2 2 rfl (by omega)
  have k3 := run_at s 3 3 rfl (by omega)
  have hnl := numL_four s.data.toList HL.out
  have b0 := (s.data.toList.getD 0 0).toNat_lt
  have b1 := (s.data.toList.getD 1 0).toNat_lt
  have b2 := (s.data.toList.getD 2 0).toNat_lt
  have b3 := (s.data.toList.getD 3 0).toNat_lt
  generalize (s.data.toList.getD 0 0).toNat = x0 at k0 hnl b0
  generalize (s.data.toList.getD 1 0).toNat = x1 at k1 hnl b1
  generalize (s.data.toList.getD 2 0).toNat = x2 at k2 hnl b2
  generalize (s.data.toList.getD 3 0).toNat = x3 at k3 hnl b3
  have e0 : IntKind.i64.wrap (x0 : Int) = x0 := IntWalk.i64_in _ (by omega)
  have e1 : IntKind.i64.wrap (x1 : Int) = x1 := IntWalk.i64_in _ (by omega)
  have e2 : IntKind.i64.wrap (x2 : Int) = x2 := IntWalk.i64_in _ (by omega)
  have e3 : IntKind.i64.wrap (x3 : Int) = x3 := IntWalk.i64_in _ (by omega)
  have f0 : IntKind.i64.wrap (16777216 * (x0 : Int)) = 16777216 * (x0 : Int) := IntWalk.i64_in _ (by omega)
  have f1 : IntKind.i64.wrap (65536 * (x1 : Int)) = 65536 * (x1 : Int) := IntWalk.i64_in _ (by omega)
  have f2 : IntKind.i64.wrap (256 * (x2 : Int)) = 256 * (x2 : Int) := IntWalk.i64_in _ (by omega)
  have g1 : IntKind.i64.wrap (16777216 * (x0 : Int) + 65536 * (x1 : Int)) = 16777216 * (x0 : Int) + 65536 * (x1 : Int) := IntWalk.i64_in _ (by omega)
  have g2 : IntKind.i64.wrap (16777216 * (x0 : Int) + 65536 * (x1 : Int) + 256 * (x2 : Int)) = 16777216 * (x0 : Int) + 65536 * (x1 : Int) + 256 * (x2 : Int) := IntWalk.i64_in _ (by omega)
  have g3 : IntKind.i64.wrap (16777216 * (x0 : Int) + 65536 * (x1 : Int) + 256 * (x2 : Int) + (x3 : Int)) = numL s.data.toList := (IntWalk.i64_in _ (by omega)).trans hnl.symm
  clear hnl
  have hM0 := (numL_range s.data.toList).1
  have hM1 := (numL_range s.data.toList).2
  rw [HL.out] at hM1
  have hM2 : numL s.data.toList < 4294967296 := hM1
  have hB := HB.out
  have hN := HN.out
  clear hM1
  generalize numL s.data.toList = M at g3 hM0 hM2 hB hN
  cases h : rightI B N
  · rw [h] at c1
    have HQ := HQ0 h
    clear HQ0 HQ1
    have C1 := Lib.hid c1; clear c1
    have H := Lib.hid h; clear h
    go_enter Tryd.func37, Tryd.ntmps37
    go_wp2_with fail
    go_quiet (fail)
    go_wp2_with fail
    refine (C1.out _).mono ?_
    rintro e w1 ⟨rfl, hb1⟩
    obtain ⟨hc, hf⟩ := bcell hb1
    have hz : w.heap.size + 1 < w1.heap.size := by have := hb1.size; simp at this; omega
    have q0 : w1.cell? ⟨w.heap.size, 0, none⟩ = some (.bool false) := (hc _ _ (by simp; omega)).trans (by simp [go_sem])
    have q1 : w1.cell? ⟨w.heap.size, 1, none⟩ = some (.int .i64 0) := (hc _ _ (by simp; omega)).trans (by simp [go_sem])
    go_wp2_with fail
    exact bodyPost_ret (v := .tuple #[.agg #[.bool false, .int .i64 0], .int .i64 2]) (by simp [results, Tryd.results37, go_sem, q0, q1]) rfl (HQ.out _ _ ((((below_drewN (Joins.below_alloc1 _ _) _).alloc (by simp) _).trans (hb1.mono (by simp; omega))).setCell (by simp) _ |>.setCell (by simp) _))
  · rw [h] at c1
    have HQ := HQ1 h
    clear HQ0 HQ1
    have C1 := Lib.hid c1; clear c1
    have H := Lib.hid h; clear h
    go_enter Tryd.func37, Tryd.ntmps37
    go_wp2_with fail
    go_quiet (fail)
    go_wp2_with fail
    refine (C1.out _).mono ?_
    rintro e w1 ⟨rfl, hb1⟩
    obtain ⟨hc, hf⟩ := bcell hb1
    have hz : w.heap.size + 1 < w1.heap.size := by have := hb1.size; simp at this; omega
    have q0 : w1.cell? ⟨w.heap.size, 0, none⟩ = some (.bool false) := (hc _ _ (by simp; omega)).trans (by simp [go_sem])
    have q1 : w1.cell? ⟨w.heap.size, 1, none⟩ = some (.int .i64 0) := (hc _ _ (by simp; omega)).trans (by simp [go_sem])
    go_wp2_with fail
    exact bodyPost_ret (v := .tuple #[.agg #[.bool B, .int .i64 N], .int .i64 0]) (by simp [results, Tryd.results37, go_sem, q0, q1]) rfl (HQ.out _ _ ((((below_drewN (Joins.below_alloc1 _ _) _).alloc (by simp) _).trans (hb1.mono (by simp; omega))).setCell (by simp) _ |>.setCell (by simp) _))

theorem refParse_any (s : ByteArray) (w : World) (hm : s.size ≤ maxLen) :
    Calls Tryd.prog 37 #[.string s] w (ParsePost s.data.toList w) := by
  by_cases h1 : s.size < 4
  · exact refParse_short s w h1
  by_cases h2 : 4 < s.size
  · exact refParse_long s w h2 hm
  exact refParse_four s w (by omega)

end Go.Proofs.YtgolnklgbhilaaaDoor

/-
  The laws' own Lattice, and awake.
-/
import Derived.Test.YtlgbgkiajhcneaaLatBeg
namespace Go.Proofs.Ytlgbgkiajhcneaa
open Go.RowKit

theorem LtAt.frozen {w : World} {b : Nat} {la lg : Int} (h : LtAt w b la lg) (i : Nat) : w.frozen? ⟨b, i, none⟩ = false := by simp [World.frozen?, show w.heap[b]? = _ from h]
theorem LtAt.set {w : World} {b : Nat} {la lg : Int} (h : LtAt w b la lg) (p' q' : Int) : LtAt ((w.setCell ⟨b, 0, none⟩ (.int .i64 p')).setCell ⟨b, 1, none⟩ (.int .i64 q')) b p' q' := set_blk (set_blk h 0 (.int .i64 p')) 1 (.int .i64 q')
def latA (x : Int) : Int := 1 + pickI x 10000
theorem latA_range (x : Int) : 1 ≤ latA x ∧ latA x ≤ 10000 := by
  have := pickI_range x 10000 (by omega)
  unfold latA; omega

set_option maxRecDepth 100000 in
theorem lattice_any (x y : Int) (hx : (Lit.int .i64 x).wf = true) (hy : (Lit.int .i64 y).wf = true) (w : World) :
    Calls Try.prog 10 #[.int .i64 x, .int .i64 y] w fun e w' => e = .returned (lv (latA x) (latA y)) ∧ Below w.heap.size w w' := by
  have c1 := fun W => pick_any x 10000 hx (by omega) W
  have c2 := fun W => pick_any y 10000 hy (by omega) W
  have r1 := pickI_range x 10000 (by omega)
  have r2 := pickI_range y 10000 (by omega)
  unfold latA
  generalize pickI x 10000 = p at *
  generalize pickI y 10000 = q at *
  obtain ⟨r1, r3⟩ := r1
  obtain ⟨r2, r4⟩ := r2
  have HB := Lib.hid (Joins.below_alloc1 w (.cells #[.int .i64 (1 + p), .int .i64 (1 + q)] 23))
  clear hx hy
  go_enter Try.func10, Try.ntmps10
  go_wp2_with fail
  (with_reducible refine (c1 _).mono ?_); rintro e w1 ⟨rfl, rfl⟩
  go_wp2_with fail
  (with_reducible refine (c2 _).mono ?_); rintro e w1 ⟨rfl, rfl⟩
  go_wp2_with fail
  exact bodyPost_ret (v := lv (1 + p) (1 + q)) (by simp [results, Try.results10, go_sem]) rfl ⟨rfl, HB.out⟩

set_option maxRecDepth 100000 in
set_option maxHeartbeats 1000000 in
theorem awake_any (w : World) : Calls Try.prog 9 #[] w fun e w' => e = .returned (.bool true) ∧ Below w.heap.size w w' := by
  have c1 := fun W => epoch_any 3 4 8 W
  rw [show epV 3 4 8 = 1 from by decide, show errB (mayL 3 4 8) = 0 from by decide] at c1
  have c2 := fun W => epoch_any 3 4 12 W
  rw [show epV 3 4 12 = 2 from by decide, show errB (mayL 3 4 12) = 0 from by decide] at c2
  have c3 := fun W => epoch_any 3 4 11 W
  rw [show epV 3 4 11 = 1 from by decide, show errB (mayL 3 4 11) = 0 from by decide] at c3
  have c4 := fun W => next_any 3 4 10 W
  rw [show nextV 3 4 10 = 14 from by decide, show errB (mayL 3 4 10) = 0 from by decide] at c4
  have c5 := fun W => begin_any 3 4 (-2) W
  rw [show begV 3 4 (-2) = -14 from by decide, show errB (begB 3 4 (-2)) = 0 from by decide] at c5
  have c6 := fun W => order_any 3 4 8 12 W
  rw [show orV 3 4 8 12 = -1 from by decide, show errB (orB 3 4 8 12) = 0 from by decide] at c6
  have c7 := fun W => epoch_any 0 0 0 W
  rw [show epV 0 0 0 = 0 from by decide, show errB (mayL 0 0 0) = 1 from by decide] at c7
  have c8 := fun W => active_any 3 4 8 W
  rw [show actL 3 4 8 = true from by decide] at c8
  have c9 := fun W => active_any 3 4 10 W
  rw [show actL 3 4 10 = false from by decide] at c9
  have c10 := fun W => near_any 3 4 (-2) W
  rw [show nearL 3 4 (-2) = true from by decide] at c10
  have c11 := fun W => near_any 3 4 3 W
  rw [show nearL 3 4 3 = false from by decide] at c11
  have c12 := fun W => right_any 3 4 W
  rw [show rightL 3 4 = true from by decide] at c12
  have HL := Lib.hid (LtAt.new w 3 4)
  have HB := Lib.hid (Joins.below_alloc1 w (.cells #[.int .i64 3, .int .i64 4] 23))
  obtain ⟨y0, y1⟩ := HL.out.cells
  go_enter Try.func9, Try.ntmps9
  go_wp2_with fail
  (refine (c1 _).mono ?_); rintro e v1 ⟨rfl, b⟩
  replace HL := Lib.hid (HL.out.on b)
  replace HB := Lib.hid (HB.out.trans (b.mono HB.out.size))
  clear y0 y1 b
  obtain ⟨y0, y1⟩ := HL.out.cells
  go_wp2_with fail
  (refine (c2 _).mono ?_); rintro e v2 ⟨rfl, b⟩
  replace HL := Lib.hid (HL.out.on b)
  replace HB := Lib.hid (HB.out.trans (b.mono HB.out.size))
  clear y0 y1 b
  obtain ⟨y0, y1⟩ := HL.out.cells
  go_wp2_with fail
  (refine (c3 _).mono ?_); rintro e v3 ⟨rfl, b⟩
  replace HL := Lib.hid (HL.out.on b)
  replace HB := Lib.hid (HB.out.trans (b.mono HB.out.size))
  clear y0 y1 b
  obtain ⟨y0, y1⟩ := HL.out.cells
  go_wp2_with fail
  (refine (c4 _).mono ?_); rintro e v4 ⟨rfl, b⟩
  replace HL := Lib.hid (HL.out.on b)
  replace HB := Lib.hid (HB.out.trans (b.mono HB.out.size))
  clear y0 y1 b
  obtain ⟨y0, y1⟩ := HL.out.cells
  go_wp2_with fail
  (refine (c5 _).mono ?_); rintro e v5 ⟨rfl, b⟩
  replace HL := Lib.hid (HL.out.on b)
  replace HB := Lib.hid (HB.out.trans (b.mono HB.out.size))
  clear y0 y1 b
  obtain ⟨y0, y1⟩ := HL.out.cells
  go_wp2_with fail
  (refine (c6 _).mono ?_); rintro e v6 ⟨rfl, b⟩
  replace HL := Lib.hid (HL.out.on b)
  replace HB := Lib.hid (HB.out.trans (b.mono HB.out.size))
  clear y0 y1 b
  obtain ⟨y0, y1⟩ := HL.out.cells
  go_wp2_with fail
  (refine (c7 _).mono ?_); rintro e v7 ⟨rfl, b⟩
  replace HL := Lib.hid (HL.out.on b)
  replace HB := Lib.hid (HB.out.trans (b.mono HB.out.size))
  clear y0 y1 b
  obtain ⟨y0, y1⟩ := HL.out.cells
  go_wp2_with fail
  (refine (c8 _).mono ?_); rintro e v8 ⟨rfl, b⟩
  replace HL := Lib.hid (HL.out.on b)
  replace HB := Lib.hid (HB.out.trans (b.mono HB.out.size))
  clear y0 y1 b
  obtain ⟨y0, y1⟩ := HL.out.cells
  go_wp2_with fail
  (refine (c9 _).mono ?_); rintro e v9 ⟨rfl, b⟩
  replace HL := Lib.hid (HL.out.on b)
  replace HB := Lib.hid (HB.out.trans (b.mono HB.out.size))
  clear y0 y1 b
  obtain ⟨y0, y1⟩ := HL.out.cells
  go_wp2_with fail
  (refine (c10 _).mono ?_); rintro e v10 ⟨rfl, b⟩
  replace HL := Lib.hid (HL.out.on b)
  replace HB := Lib.hid (HB.out.trans (b.mono HB.out.size))
  clear y0 y1 b
  obtain ⟨y0, y1⟩ := HL.out.cells
  go_wp2_with fail
  (refine (c11 _).mono ?_); rintro e v11 ⟨rfl, b⟩
  replace HL := Lib.hid (HL.out.on b)
  replace HB := Lib.hid (HB.out.trans (b.mono HB.out.size))
  clear y0 y1 b
  obtain ⟨y0, y1⟩ := HL.out.cells
  go_wp2_with fail
  (refine (c12 _).mono ?_); rintro e v12 ⟨rfl, b⟩
  replace HL := Lib.hid (HL.out.on b)
  replace HB := Lib.hid (HB.out.trans (b.mono HB.out.size))
  clear y0 y1 b
  obtain ⟨y0, y1⟩ := HL.out.cells
  go_wp2_with fail
  go_ret
  exact ⟨rfl, HB.out⟩

end Go.Proofs.Ytlgbgkiajhcneaa

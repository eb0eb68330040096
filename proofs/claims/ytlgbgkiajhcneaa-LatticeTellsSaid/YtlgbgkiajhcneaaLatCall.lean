/-
  The program's Near, Active, Next, Epoch, Begin and Order: the document's plain functions.
-/
import Derived.Test.YtlgbgkiajhcneaaLatGuard
import Derived.Test.YtlgbgkiajhcneaaLatRef
namespace Go.Proofs.Ytlgbgkiajhcneaa
open Go.RowKit

/-- A number in a box. -/
def BxAt (w : World) (b : Nat) (n : Int) : Prop := w.heap[b]? = some (.cells #[.int .i64 n] 3 (0, 0))
theorem BxAt.new (w : World) (n : Int) : BxAt (w.alloc (.cells #[.int .i64 n] 3)) w.heap.size n := heap_new w _
theorem BxAt.on {w w' : World} {b : Nat} {n : Int} (h : BxAt w b n) (hb : Below w.heap.size w w') : BxAt w' b n := (hb.block b (Array.getElem?_eq_some_iff.1 h).1).trans h
theorem BxAt.cell {w : World} {b : Nat} {n : Int} (h : BxAt w b n) : w.cell? ⟨b, 0, none⟩ = some (.int .i64 n) := cell_of h 0
theorem BxAt.lt {w : World} {b : Nat} {n : Int} (h : BxAt w b n) : b < w.heap.size := (Array.getElem?_eq_some_iff.1 h).1
theorem ret_bi' {a b : Bool} {c d : Int} (h : a = b) (k : c = d) : Ending.returned (.tuple #[.bool a, .int .i64 c]) = .returned (.tuple #[.bool b, .int .i64 d]) := by rw [h, k]
theorem sel_may (la lg t : Int) {T : Type} (x y : T) : sel (rightL la lg && [t].all timeB) x y = if mayL la lg t then x else y := by simp [sel, mayL]
theorem err_may (la lg t : Int) : errB (rightL la lg && [t].all timeB) = errB (mayL la lg t) := by simp [mayL]
theorem half_bound {la lg : Int} (h : rightL la lg = true) : (2 ≤ la + lg ∧ la + lg ≤ 20000) ∧ 0 ≤ lg / 2 ∧ lg / 2 ≤ 5000 := by
  obtain ⟨⟨a0, a1⟩, g0, g1⟩ := (rightL_iff la lg).1 h
  omega
theorem near_sel (la lg d : Int) : sel (rightL la lg && ([] : List Int).all timeB) (inB (-(lg / 2)) (lg / 2) d) false = nearL la lg d := by
  unfold sel nearL
  cases rightL la lg <;> simp
theorem act_sel (la lg t : Int) : sel (rightL la lg && [t].all timeB) (decide (t % (la + lg) < la)) false = actL la lg t := by
  rw [sel_may]
  unfold actL
  cases mayL la lg t <;> simp
theorem next_sel (la lg t : Int) : sel (rightL la lg && [t].all timeB) (nextI la lg t) 0 = nextV la lg t := sel_may _ _ _ _ _
theorem ep_sel (la lg t : Int) : sel (rightL la lg && [t].all timeB) (epI la lg t) 0 = epV la lg t := sel_may _ _ _ _ _
theorem or_sel (la lg x y : Int) : sel (rightL la lg && [x, y].all timeB) (cmpI (epI la lg x) (epI la lg y)) 0 = orV la lg x y := by
  unfold sel orV
  rw [show (rightL la lg && [x, y].all timeB) = orB la lg x y from by unfold orB mayL; simp [Bool.and_assoc]]
theorem beg_sel (la lg n : Int) : errB (begB la lg n) = if mayL la lg n = true then (if timeB (n * (la + lg)) then 0 else 1) else 1 := by
  unfold begB errB
  cases mayL la lg n <;> simp
theorem ord_sel (la lg x y : Int) : (rightL la lg && [x, y].all timeB) = orB la lg x y := by
  unfold orB mayL
  simp [Bool.and_assoc]

set_option maxRecDepth 100000 in
theorem near_any (la lg x : Int) (w : World) :
    Calls Try.prog 14 #[lv la lg, .int .i64 x] w fun e w' => e = .returned (.bool (nearL la lg x)) ∧ Below w.heap.size w w' := by
  have hL := LtAt.new w la lg
  have hB0 := Joins.below_alloc1 w (.cells #[.int .i64 la, .int .i64 lg] 23)
  obtain ⟨W1, hW1⟩ : ∃ W, W = w.alloc (.cells #[.int .i64 la, .int .i64 lg] 23) := ⟨_, rfl⟩
  have hs1 : W1.heap.size = w.heap.size + 1 := by rw [hW1, World.size_alloc]
  rw [← hW1] at hL hB0
  have hX0 := BxAt.new W1 x
  have hC0 := Joins.below_alloc1 W1 (.cells #[.int .i64 x] 3)
  obtain ⟨W2, hW2⟩ : ∃ W, W = W1.alloc (.cells #[.int .i64 x] 3) := ⟨_, rfl⟩
  have hs2 : W2.heap.size = w.heap.size + 2 := by rw [hW2, World.size_alloc, hs1]
  rw [← hW2] at hX0 hC0
  rw [hs1] at hX0
  have hLn := hL.on hC0; clear hL
  have hL := hLn; clear hLn
  have hB1 := hB0.trans (hC0.mono (by rw [hs1]; omega))
  have hBt := hB1
  have hg := guardNear la lg none 0 [] (by simp) ⟨w.heap.size + 1, 0, none⟩ (inB (-(lg / 2)) (lg / 2) x) W2 (Row.nil _ _ _) (fun hr ht W hb => by
    obtain ⟨s1, s2⟩ := half_bound hr
    have l0 : w.heap.size + 1 < W.heap.size := by have := hb.size; have := hX0.lt; omega
    have k0 := (hb.cell (p := ⟨w.heap.size + 1, 0, none⟩) hX0.lt).trans hX0.cell
    exact cNear_any la (la + lg) (lg / 2) x _ W l0 k0 s2)
  obtain ⟨y0, y1⟩ := hL.cells
  have x0 := hX0.cell
  have hmf : ∀ (fn : Fn) (first cap : Array Value) (w : World), (Instr.makeFunc fn first cap).run Try.prog w = .ok (.func fn first cap) w := fun _ _ _ _ => rfl
  rw [near_sel] at hg
  have HG := Lib.hid hg
  have HBT := Lib.hid hBt
  clear hg hBt hX0 hL
  subst hW2 hW1
  go_enter Try.func14, Try.ntmps14
  go_wp2_with fail
  refine HG.out.mono ?_; rintro e v1 ⟨rfl, b1⟩
  have HB9 := Lib.hid (HBT.out.trans (b1.mono HBT.out.size)); clear b1
  go_wp2_with fail
  go_ret
  exact ⟨rfl, HB9.out⟩

set_option maxRecDepth 100000 in
theorem active_any (la lg x : Int) (w : World) :
    Calls Try.prog 24 #[lv la lg, .int .i64 x] w fun e w' => e = .returned (.bool (actL la lg x)) ∧ Below w.heap.size w w' := by
  have hL := LtAt.new w la lg
  have hB0 := Joins.below_alloc1 w (.cells #[.int .i64 la, .int .i64 lg] 23)
  obtain ⟨W1, hW1⟩ : ∃ W, W = w.alloc (.cells #[.int .i64 la, .int .i64 lg] 23) := ⟨_, rfl⟩
  have hs1 : W1.heap.size = w.heap.size + 1 := by rw [hW1, World.size_alloc]
  rw [← hW1] at hL hB0
  have hX0 := BxAt.new W1 x
  have hC0 := Joins.below_alloc1 W1 (.cells #[.int .i64 x] 3)
  obtain ⟨W2, hW2⟩ : ∃ W, W = W1.alloc (.cells #[.int .i64 x] 3) := ⟨_, rfl⟩
  have hs2 : W2.heap.size = w.heap.size + 2 := by rw [hW2, World.size_alloc, hs1]
  rw [← hW2] at hX0 hC0
  rw [hs1] at hX0
  have hLn := hL.on hC0; clear hL
  have hL := hLn; clear hLn
  have hB1 := hB0.trans (hC0.mono (by rw [hs1]; omega))
  have hrow := Row.new W2 [x]
  have hCt := Joins.below_alloc1 W2 (.cells #[.int .i64 x] 3)
  obtain ⟨W3, hW3⟩ : ∃ W, W = W2.alloc (.cells #[.int .i64 x] 3) := ⟨_, rfl⟩
  have hs3 : W3.heap.size = w.heap.size + 3 := by rw [hW3, World.size_alloc, hs2]
  have hrow2 : Row W3 W3.heap.size (some ⟨w.heap.size + 2, 0, none⟩) [x] := by rw [hW3, World.size_alloc, ← hs2]; exact hrow
  rw [← hW3] at hCt
  have hLm := hL.on hCt
  have hX0m := hX0.on hCt
  have hBt := hB1.trans (hCt.mono (by rw [hs2]; omega))
  have hg := guardActive la lg (some ⟨w.heap.size + 2, 0, none⟩) 1 [x] (by simp) ⟨w.heap.size + 1, 0, none⟩ (decide (x % (la + lg) < la)) W3 hrow2 (fun hr ht W hb => by
    obtain ⟨s1, s2⟩ := half_bound hr
    have rx := (timeB_iff x).1 (ht x (by simp))
    have l0 : w.heap.size + 1 < W.heap.size := by have := hb.size; have := hX0m.lt; omega
    have k0 := (hb.cell (p := ⟨w.heap.size + 1, 0, none⟩) hX0m.lt).trans hX0m.cell
    exact cActive_any la (la + lg) (lg / 2) x _ W l0 k0 s1 rx)
  obtain ⟨y0, y1⟩ := hL.cells
  have x0 := hX0.cell
  have hmf : ∀ (fn : Fn) (first cap : Array Value) (w : World), (Instr.makeFunc fn first cap).run Try.prog w = .ok (.func fn first cap) w := fun _ _ _ _ => rfl
  rw [act_sel] at hg
  have HG := Lib.hid hg
  have HBT := Lib.hid hBt
  clear hg hBt hX0 hL
  subst hW3 hW2 hW1
  go_enter Try.func24, Try.ntmps24
  go_wp2_with fail
  refine HG.out.mono ?_; rintro e v1 ⟨rfl, b1⟩
  have HB9 := Lib.hid (HBT.out.trans (b1.mono HBT.out.size)); clear b1
  go_wp2_with fail
  go_ret
  exact ⟨rfl, HB9.out⟩

set_option maxRecDepth 100000 in
theorem next_any (la lg x : Int) (w : World) :
    Calls Try.prog 16 #[lv la lg, .int .i64 x] w fun e w' => e = .returned (.tuple #[.int .i64 (nextV la lg x), .int .i64 (errB (mayL la lg x))]) ∧ Below w.heap.size w w' := by
  have hL := LtAt.new w la lg
  have hB0 := Joins.below_alloc1 w (.cells #[.int .i64 la, .int .i64 lg] 23)
  obtain ⟨W1, hW1⟩ : ∃ W, W = w.alloc (.cells #[.int .i64 la, .int .i64 lg] 23) := ⟨_, rfl⟩
  have hs1 : W1.heap.size = w.heap.size + 1 := by rw [hW1, World.size_alloc]
  rw [← hW1] at hL hB0
  have hX0 := BxAt.new W1 x
  have hC0 := Joins.below_alloc1 W1 (.cells #[.int .i64 x] 3)
  obtain ⟨W2, hW2⟩ : ∃ W, W = W1.alloc (.cells #[.int .i64 x] 3) := ⟨_, rfl⟩
  have hs2 : W2.heap.size = w.heap.size + 2 := by rw [hW2, World.size_alloc, hs1]
  rw [← hW2] at hX0 hC0
  rw [hs1] at hX0
  have hLn := hL.on hC0; clear hL
  have hL := hLn; clear hLn
  have hB1 := hB0.trans (hC0.mono (by rw [hs1]; omega))
  have hrow := Row.new W2 [x]
  have hCt := Joins.below_alloc1 W2 (.cells #[.int .i64 x] 3)
  obtain ⟨W3, hW3⟩ : ∃ W, W = W2.alloc (.cells #[.int .i64 x] 3) := ⟨_, rfl⟩
  have hs3 : W3.heap.size = w.heap.size + 3 := by rw [hW3, World.size_alloc, hs2]
  have hrow2 : Row W3 W3.heap.size (some ⟨w.heap.size + 2, 0, none⟩) [x] := by rw [hW3, World.size_alloc, ← hs2]; exact hrow
  rw [← hW3] at hCt
  have hLm := hL.on hCt
  have hX0m := hX0.on hCt
  have hBt := hB1.trans (hCt.mono (by rw [hs2]; omega))
  have hg := guardNext la lg (some ⟨w.heap.size + 2, 0, none⟩) 1 [x] (by simp) ⟨w.heap.size + 1, 0, none⟩ (nextI la lg x) W3 hrow2 (fun hr ht W hb => by
    obtain ⟨s1, s2⟩ := half_bound hr
    have rx := (timeB_iff x).1 (ht x (by simp))
    have l0 : w.heap.size + 1 < W.heap.size := by have := hb.size; have := hX0m.lt; omega
    have k0 := (hb.cell (p := ⟨w.heap.size + 1, 0, none⟩) hX0m.lt).trans hX0m.cell
    exact cNext_any la (la + lg) (lg / 2) x _ W l0 k0 s1 rx)
  obtain ⟨y0, y1⟩ := hL.cells
  have x0 := hX0.cell
  have hmf : ∀ (fn : Fn) (first cap : Array Value) (w : World), (Instr.makeFunc fn first cap).run Try.prog w = .ok (.func fn first cap) w := fun _ _ _ _ => rfl
  rw [next_sel, err_may] at hg
  have HG := Lib.hid hg
  have HBT := Lib.hid hBt
  clear hg hBt hX0 hL
  subst hW3 hW2 hW1
  go_enter Try.func16, Try.ntmps16
  go_wp2_with fail
  refine HG.out.mono ?_; rintro e v1 ⟨rfl, b1⟩
  have HB9 := Lib.hid (HBT.out.trans (b1.mono HBT.out.size)); clear b1
  go_wp2_with fail
  go_ret2
  exact ⟨rfl, HB9.out⟩

set_option maxRecDepth 100000 in
theorem epoch_any (la lg x : Int) (w : World) :
    Calls Try.prog 18 #[lv la lg, .int .i64 x] w fun e w' => e = .returned (.tuple #[.int .i64 (epV la lg x), .int .i64 (errB (mayL la lg x))]) ∧ Below w.heap.size w w' := by
  have hL := LtAt.new w la lg
  have hB0 := Joins.below_alloc1 w (.cells #[.int .i64 la, .int .i64 lg] 23)
  obtain ⟨W1, hW1⟩ : ∃ W, W = w.alloc (.cells #[.int .i64 la, .int .i64 lg] 23) := ⟨_, rfl⟩
  have hs1 : W1.heap.size = w.heap.size + 1 := by rw [hW1, World.size_alloc]
  rw [← hW1] at hL hB0
  have hX0 := BxAt.new W1 x
  have hC0 := Joins.below_alloc1 W1 (.cells #[.int .i64 x] 3)
  obtain ⟨W2, hW2⟩ : ∃ W, W = W1.alloc (.cells #[.int .i64 x] 3) := ⟨_, rfl⟩
  have hs2 : W2.heap.size = w.heap.size + 2 := by rw [hW2, World.size_alloc, hs1]
  rw [← hW2] at hX0 hC0
  rw [hs1] at hX0
  have hLn := hL.on hC0; clear hL
  have hL := hLn; clear hLn
  have hB1 := hB0.trans (hC0.mono (by rw [hs1]; omega))
  have hrow := Row.new W2 [x]
  have hCt := Joins.below_alloc1 W2 (.cells #[.int .i64 x] 3)
  obtain ⟨W3, hW3⟩ : ∃ W, W = W2.alloc (.cells #[.int .i64 x] 3) := ⟨_, rfl⟩
  have hs3 : W3.heap.size = w.heap.size + 3 := by rw [hW3, World.size_alloc, hs2]
  have hrow2 : Row W3 W3.heap.size (some ⟨w.heap.size + 2, 0, none⟩) [x] := by rw [hW3, World.size_alloc, ← hs2]; exact hrow
  rw [← hW3] at hCt
  have hLm := hL.on hCt
  have hX0m := hX0.on hCt
  have hBt := hB1.trans (hCt.mono (by rw [hs2]; omega))
  have hg := guardEpoch la lg (some ⟨w.heap.size + 2, 0, none⟩) 1 [x] (by simp) ⟨w.heap.size + 1, 0, none⟩ (epI la lg x) W3 hrow2 (fun hr ht W hb => by
    obtain ⟨s1, s2⟩ := half_bound hr
    have rx := (timeB_iff x).1 (ht x (by simp))
    have l0 : w.heap.size + 1 < W.heap.size := by have := hb.size; have := hX0m.lt; omega
    have k0 := (hb.cell (p := ⟨w.heap.size + 1, 0, none⟩) hX0m.lt).trans hX0m.cell
    exact cEpoch_any la (la + lg) (lg / 2) x _ W l0 k0 s1 s2 rx)
  obtain ⟨y0, y1⟩ := hL.cells
  have x0 := hX0.cell
  have hmf : ∀ (fn : Fn) (first cap : Array Value) (w : World), (Instr.makeFunc fn first cap).run Try.prog w = .ok (.func fn first cap) w := fun _ _ _ _ => rfl
  rw [ep_sel, err_may] at hg
  have HG := Lib.hid hg
  have HBT := Lib.hid hBt
  clear hg hBt hX0 hL
  subst hW3 hW2 hW1
  go_enter Try.func18, Try.ntmps18
  go_wp2_with fail
  refine HG.out.mono ?_; rintro e v1 ⟨rfl, b1⟩
  have HB9 := Lib.hid (HBT.out.trans (b1.mono HBT.out.size)); clear b1
  go_wp2_with fail
  go_ret2
  exact ⟨rfl, HB9.out⟩

set_option maxRecDepth 100000 in
theorem order_any (la lg x y : Int) (w : World) :
    Calls Try.prog 20 #[lv la lg, .int .i64 x, .int .i64 y] w fun e w' => e = .returned (.tuple #[.int .i64 (orV la lg x y), .int .i64 (errB (orB la lg x y))]) ∧ Below w.heap.size w w' := by
  have hL := LtAt.new w la lg
  have hB0 := Joins.below_alloc1 w (.cells #[.int .i64 la, .int .i64 lg] 23)
  obtain ⟨W1, hW1⟩ : ∃ W, W = w.alloc (.cells #[.int .i64 la, .int .i64 lg] 23) := ⟨_, rfl⟩
  have hs1 : W1.heap.size = w.heap.size + 1 := by rw [hW1, World.size_alloc]
  rw [← hW1] at hL hB0
  have hX0 := BxAt.new W1 x
  have hC0 := Joins.below_alloc1 W1 (.cells #[.int .i64 x] 3)
  obtain ⟨W2, hW2⟩ : ∃ W, W = W1.alloc (.cells #[.int .i64 x] 3) := ⟨_, rfl⟩
  have hs2 : W2.heap.size = w.heap.size + 2 := by rw [hW2, World.size_alloc, hs1]
  rw [← hW2] at hX0 hC0
  rw [hs1] at hX0
  have hLn := hL.on hC0; clear hL
  have hL := hLn; clear hLn
  have hB1 := hB0.trans (hC0.mono (by rw [hs1]; omega))
  have hX1 := BxAt.new W2 y
  have hC1 := Joins.below_alloc1 W2 (.cells #[.int .i64 y] 3)
  obtain ⟨W3, hW3⟩ : ∃ W, W = W2.alloc (.cells #[.int .i64 y] 3) := ⟨_, rfl⟩
  have hs3 : W3.heap.size = w.heap.size + 3 := by rw [hW3, World.size_alloc, hs2]
  rw [← hW3] at hX1 hC1
  rw [hs2] at hX1
  have hLn := hL.on hC1; clear hL
  have hX0n := hX0.on hC1; clear hX0
  have hL := hLn; clear hLn
  have hX0 := hX0n; clear hX0n
  have hB2 := hB1.trans (hC1.mono (by rw [hs2]; omega))
  have hrow := Row.new W3 [x, y]
  have hCt := Joins.below_alloc1 W3 (.cells #[.int .i64 x, .int .i64 y] 3)
  obtain ⟨W4, hW4⟩ : ∃ W, W = W3.alloc (.cells #[.int .i64 x, .int .i64 y] 3) := ⟨_, rfl⟩
  have hs4 : W4.heap.size = w.heap.size + 4 := by rw [hW4, World.size_alloc, hs3]
  have hrow2 : Row W4 W4.heap.size (some ⟨w.heap.size + 3, 0, none⟩) [x, y] := by rw [hW4, World.size_alloc, ← hs3]; exact hrow
  rw [← hW4] at hCt
  have hLm := hL.on hCt
  have hX0m := hX0.on hCt
  have hX1m := hX1.on hCt
  have hBt := hB2.trans (hCt.mono (by rw [hs3]; omega))
  have hg := guardOrder la lg (some ⟨w.heap.size + 3, 0, none⟩) 2 [x, y] (by simp) ⟨w.heap.size + 1, 0, none⟩ ⟨w.heap.size + 2, 0, none⟩ (cmpI (epI la lg x) (epI la lg y)) W4 hrow2 (fun hr ht W hb => by
    obtain ⟨s1, s2⟩ := half_bound hr
    have rx := (timeB_iff x).1 (ht x (by simp))
    have ry := (timeB_iff y).1 (ht y (by simp))
    have l0 : w.heap.size + 1 < W.heap.size := by have := hb.size; have := hX0m.lt; omega
    have k0 := (hb.cell (p := ⟨w.heap.size + 1, 0, none⟩) hX0m.lt).trans hX0m.cell
    have l1 : w.heap.size + 2 < W.heap.size := by have := hb.size; have := hX1m.lt; omega
    have k1 := (hb.cell (p := ⟨w.heap.size + 2, 0, none⟩) hX1m.lt).trans hX1m.cell
    exact cOrder_any la (la + lg) (lg / 2) x y _ _ W l0 k0 l1 k1 s1 s2 rx ry)
  obtain ⟨y0, y1⟩ := hL.cells
  have x0 := hX0.cell
  have x1 := hX1.cell
  have hmf : ∀ (fn : Fn) (first cap : Array Value) (w : World), (Instr.makeFunc fn first cap).run Try.prog w = .ok (.func fn first cap) w := fun _ _ _ _ => rfl
  rw [or_sel, ord_sel] at hg
  have HG := Lib.hid hg
  have HBT := Lib.hid hBt
  clear hg hBt hX0 hX1 hL
  subst hW4 hW3 hW2 hW1
  go_enter Try.func20, Try.ntmps20
  go_wp2_with fail
  refine HG.out.mono ?_; rintro e v1 ⟨rfl, b1⟩
  have HB9 := Lib.hid (HBT.out.trans (b1.mono HBT.out.size)); clear b1
  go_wp2_with fail
  go_ret2
  exact ⟨rfl, HB9.out⟩

end Go.Proofs.Ytlgbgkiajhcneaa

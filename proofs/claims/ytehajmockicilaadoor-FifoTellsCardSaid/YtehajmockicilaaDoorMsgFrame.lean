/-
  What the frames of layer 4's proofs have in common: messages and arrays of six numbers, opened and shut.
-/
import Derived.Test.YtehajmockicilaaDoorIdentDoor
import Derived.Test.YtehajmockicilaaDoorMsgBase
import Derived.Carry
namespace Go.Proofs.YtehajmockicilaaDoor
open Go Go.ChangeShapes Go.WideShapes Go.ChangeAt Go.RowKit Go.Joins Go.Deep

theorem list7 {α : Type} (l : List α) (h : l.length = 7) : ∃ a b c d e f g, l = [a, b, c, d, e, f, g] := by
  match l, h with
  | [a, b, c, d, e, f, g], _ => exact ⟨a, b, c, d, e, f, g, rfl⟩
theorem list6 {α : Type} (l : List α) (h : l.length = 6) : ∃ a b c d e f, l = [a, b, c, d, e, f] := by
  match l, h with
  | [a, b, c, d, e, f], _ => exact ⟨a, b, c, d, e, f, rfl⟩
theorem list2 {α : Type} (l : List α) (h : l.length = 2) : ∃ a b, l = [a, b] := by
  match l, h with
  | [a, b], _ => exact ⟨a, b, rfl⟩

/-- Its parts are what a program's may be. -/
def WfM (m : Msg) : Prop := (Lit.int .i64 m.n).wf = true ∧ (Lit.int .i64 m.sender).wf = true ∧ (Lit.int .i64 m.inc).wf = true ∧ (Lit.int .i64 m.seq).wf = true ∧ (Lit.int .i64 m.number).wf = true ∧ m.data.size ≤ maxLen

/-- A message as data. -/
def datM (H : Type) (m : Msg) : DataW H := .agg [.agg [.lit (.bool m.ext), .lit (.int .i64 m.n)], .lit (.int .i64 m.sender), .lit (.int .i64 m.inc), .lit (.int .i64 m.seq), .lit (.int .i64 m.number), .lit (.string m.data.data.toList)]

section
variable {H : Type} {enc : TypeId × Value → H} {w : World} {base : Nat} {spare : Nat → Bool} {held : Bool}

set_option maxRecDepth 100000 in
theorem open_msg_cells {fuel : Nat} {cs : List Value} {x : DataW H × List MemPlace} (h : DataW.trod enc Tryd.prog w base spare held fuel 26 cs = some x) :
    ∃ m : Msg, cs = (mc m).toList ∧ x = (datM H m, []) ∧ WfM m := by
  have hc : Tryd.prog.cellsOf 26 = 7 := by kernel_rfl
  have hd : Tryd.prog.cellsOf 24 = 2 := by kernel_rfl
  have hb : Tryd.prog.cellsOf 4 = 1 := by kernel_rfl
  have hi : Tryd.prog.cellsOf 3 = 1 := by kernel_rfl
  have hs : Tryd.prog.cellsOf 9 = 1 := by kernel_rfl
  obtain ⟨xs, n, _, rfl, hl, hlen, hf⟩ := DataW.trod_struct Tryd.underlying26 h
  rw [hc] at hl
  obtain ⟨c0, c1, c2, c3, c4, c5, c6, rfl⟩ := list7 cs hl
  obtain ⟨y0, y1, y2, y3, y4, y5, rfl⟩ := list6 xs hlen
  have f0 : DataW.trod enc Tryd.prog w base spare held n 24 (([c0, c1, c2, c3, c4, c5, c6].drop 0).take (Tryd.prog.cellsOf 24)) = some y0 := hf 0 _ rfl
  have f1 : DataW.trod enc Tryd.prog w base spare held n 3 (([c0, c1, c2, c3, c4, c5, c6].drop 2).take (Tryd.prog.cellsOf 3)) = some y1 := hf 1 _ rfl
  have f2 : DataW.trod enc Tryd.prog w base spare held n 3 (([c0, c1, c2, c3, c4, c5, c6].drop 3).take (Tryd.prog.cellsOf 3)) = some y2 := hf 2 _ rfl
  have f3 : DataW.trod enc Tryd.prog w base spare held n 3 (([c0, c1, c2, c3, c4, c5, c6].drop 4).take (Tryd.prog.cellsOf 3)) = some y3 := hf 3 _ rfl
  have f4 : DataW.trod enc Tryd.prog w base spare held n 3 (([c0, c1, c2, c3, c4, c5, c6].drop 5).take (Tryd.prog.cellsOf 3)) = some y4 := hf 4 _ rfl
  have f5 : DataW.trod enc Tryd.prog w base spare held n 9 (([c0, c1, c2, c3, c4, c5, c6].drop 6).take (Tryd.prog.cellsOf 9)) = some y5 := hf 5 _ rfl
  rw [hd] at f0
  rw [hi] at f1 f2 f3 f4
  rw [hs] at f5
  have f0 : DataW.trod enc Tryd.prog w base spare held n 24 [c0, c1] = some y0 := f0
  obtain ⟨zs, k, _, hz, hl2, hlen2, hg⟩ := DataW.trod_struct Tryd.underlying24 f0
  obtain ⟨z0, z1, rfl⟩ := list2 zs hlen2
  have g0 : DataW.trod enc Tryd.prog w base spare held k 4 (([c0, c1].drop 0).take (Tryd.prog.cellsOf 4)) = some z0 := hg 0 _ rfl
  have g1 : DataW.trod enc Tryd.prog w base spare held k 3 (([c0, c1].drop 1).take (Tryd.prog.cellsOf 3)) = some z1 := hg 1 _ rfl
  rw [hb] at g0
  rw [hi] at g1
  obtain ⟨a0, e0, r0⟩ := DataW.trod_bool Tryd.underlying4 g0
  obtain ⟨a1, e1, r1, w1⟩ := DataW.trod_int Tryd.underlying3 g1
  obtain ⟨a2, e2, r2, w2⟩ := DataW.trod_int Tryd.underlying3 f1
  obtain ⟨a3, e3, r3, w3⟩ := DataW.trod_int Tryd.underlying3 f2
  obtain ⟨a4, e4, r4, w4⟩ := DataW.trod_int Tryd.underlying3 f3
  obtain ⟨a5, e5, r5, w5⟩ := DataW.trod_int Tryd.underlying3 f4
  obtain ⟨a6, e6, r6, w6⟩ := DataW.trod_string Tryd.underlying9 f5
  simp at e0 e1 e2 e3 e4 e5 e6
  subst e0 e1 e2 e3 e4 e5 e6 r0 r1 r2 r3 r4 r5 r6
  have hz' : y0 = (.agg [.lit (.bool a0), .lit (.int .i64 a1)], []) := by simpa using hz
  subst hz'
  exact ⟨⟨a0, a1, a2, a3, a4, a5, a6⟩, rfl, by simp [datM], w1, w2, w3, w4, w5, w6⟩

set_option maxRecDepth 100000 in
theorem shut_msg_cells {m : Msg} (h : WfM m) : DataW.trod enc Tryd.prog w base spare held 3 26 (mc m).toList = some (datM H m, []) := by
  have hc : Tryd.prog.cellsOf 26 = 7 := by kernel_rfl
  have hd : Tryd.prog.cellsOf 24 = 2 := by kernel_rfl
  have hb : Tryd.prog.cellsOf 4 = 1 := by kernel_rfl
  have hi : Tryd.prog.cellsOf 3 = 1 := by kernel_rfl
  have hs : Tryd.prog.cellsOf 9 = 1 := by kernel_rfl
  obtain ⟨h1, h2, h3, h4, h5, h6⟩ := h
  simp [DataW.trod, Tryd.underlying26, Tryd.underlying24, Tryd.underlying4, Tryd.underlying3, Tryd.underlying9, hc, hd, hb, hi, hs, h1, h2, h3, h4, h5, h6, datM]

set_option maxRecDepth 100000 in
theorem open_msg {r : Reach} {b0 : Nat} {v : Value} {d : DataW H} {p : List MemPlace} (hv : Value.okWide Tryd.prog w r b0 26 v) (h : DataW.Trod enc Tryd.prog w base spare held 26 v d p) :
    ∃ m : Msg, v = mv m ∧ d = datM H m ∧ p = [] ∧ WfM m := by
  obtain ⟨cs, rfl, hsz, _⟩ : ∃ cs, v = .agg cs ∧ cs.size = Tryd.prog.cellsOf 26 ∧ Row.okWide Tryd.prog w r b0 26 cs := by
    simpa [Value.okWide, Tryd.underlying26] using hv
  obtain ⟨fuel, hf⟩ := h
  obtain ⟨m, e, hx, hw⟩ := open_msg_cells hf
  simp only [Prod.mk.injEq] at hx
  refine ⟨m, ?_, hx.1, hx.2, hw⟩
  have : cs = mc m := Array.ext' e
  rw [this]
theorem shut_msg {m : Msg} (h : WfM m) : DataW.Trod enc Tryd.prog w base spare held 26 (mv m) (datM H m) [] := ⟨3, shut_msg_cells h⟩

/-- Six numbers. -/
def ints6 (r0 r1 r2 r3 r4 r5 : Int) : Array Value := #[.int .i64 r0, .int .i64 r1, .int .i64 r2, .int .i64 r3, .int .i64 r4, .int .i64 r5]
set_option maxRecDepth 100000 in
theorem open_six_cells {fuel : Nat} {cs : List Value} {x : DataW H × List MemPlace} (h : DataW.trod enc Tryd.prog w base spare held fuel 27 cs = some x) :
    ∃ r0 r1 r2 r3 r4 r5 : Int, cs = (ints6 r0 r1 r2 r3 r4 r5).toList ∧ x = (.agg [.lit (.int .i64 r0), .lit (.int .i64 r1), .lit (.int .i64 r2), .lit (.int .i64 r3), .lit (.int .i64 r4), .lit (.int .i64 r5)], []) ∧ (Lit.int .i64 r0).wf = true ∧ (Lit.int .i64 r1).wf = true ∧ (Lit.int .i64 r2).wf = true ∧ (Lit.int .i64 r3).wf = true ∧ (Lit.int .i64 r4).wf = true ∧ (Lit.int .i64 r5).wf = true := by
  have hc : Tryd.prog.cellsOf 27 = 6 := by kernel_rfl
  have hi : Tryd.prog.cellsOf 3 = 1 := by kernel_rfl
  obtain ⟨xs, n, _, rfl, hl, hlen, hf⟩ := DataW.trod_array Tryd.underlying27 h
  rw [hc] at hl
  obtain ⟨c0, c1, c2, c3, c4, c5, rfl⟩ := list6 cs hl
  obtain ⟨y0, y1, y2, y3, y4, y5, rfl⟩ := list6 xs hlen
  have f0 := hf 0 (by decide)
  have f1 := hf 1 (by decide)
  have f2 := hf 2 (by decide)
  have f3 := hf 3 (by decide)
  have f4 := hf 4 (by decide)
  have f5 := hf 5 (by decide)
  rw [hi] at f0 f1 f2 f3 f4 f5
  obtain ⟨a0, e0, r0, w0⟩ := DataW.trod_int Tryd.underlying3 f0
  obtain ⟨a1, e1, r1, w1⟩ := DataW.trod_int Tryd.underlying3 f1
  obtain ⟨a2, e2, r2, w2⟩ := DataW.trod_int Tryd.underlying3 f2
  obtain ⟨a3, e3, r3, w3⟩ := DataW.trod_int Tryd.underlying3 f3
  obtain ⟨a4, e4, r4, w4⟩ := DataW.trod_int Tryd.underlying3 f4
  obtain ⟨a5, e5, r5, w5⟩ := DataW.trod_int Tryd.underlying3 f5
  simp at e0 e1 e2 e3 e4 e5
  subst e0 e1 e2 e3 e4 e5 r0 r1 r2 r3 r4 r5
  exact ⟨a0, a1, a2, a3, a4, a5, rfl, by simp, w0, w1, w2, w3, w4, w5⟩
set_option maxRecDepth 100000 in
theorem open_six {r : Reach} {b0 : Nat} {v : Value} {d : DataW H} {p : List MemPlace} (hv : Value.okWide Tryd.prog w r b0 27 v) (h : DataW.Trod enc Tryd.prog w base spare held 27 v d p) :
    ∃ r0 r1 r2 r3 r4 r5 : Int, v = .agg #[.int .i64 r0, .int .i64 r1, .int .i64 r2, .int .i64 r3, .int .i64 r4, .int .i64 r5] ∧ d = .agg [.lit (.int .i64 r0), .lit (.int .i64 r1), .lit (.int .i64 r2), .lit (.int .i64 r3), .lit (.int .i64 r4), .lit (.int .i64 r5)] ∧ p = [] ∧ (Lit.int .i64 r0).wf = true ∧ (Lit.int .i64 r1).wf = true ∧ (Lit.int .i64 r2).wf = true ∧ (Lit.int .i64 r3).wf = true ∧ (Lit.int .i64 r4).wf = true ∧ (Lit.int .i64 r5).wf = true := by
  obtain ⟨cs, rfl, hsz, _⟩ : ∃ cs, v = .agg cs ∧ cs.size = Tryd.prog.cellsOf 27 ∧ Row.okWide Tryd.prog w r b0 27 cs := by
    simpa [Value.okWide, Tryd.underlying27] using hv
  obtain ⟨fuel, hf⟩ := h
  obtain ⟨r0, r1, r2, r3, r4, r5, e, hx, hw⟩ := open_six_cells hf
  simp only [Prod.mk.injEq] at hx
  refine ⟨r0, r1, r2, r3, r4, r5, ?_, hx.1, hx.2, hw⟩
  have : cs = ints6 r0 r1 r2 r3 r4 r5 := Array.ext' e
  rw [this]; rfl
set_option maxRecDepth 100000 in
theorem shut_six {r0 r1 r2 r3 r4 r5 : Int} (h0 : (Lit.int .i64 r0).wf = true) (h1 : (Lit.int .i64 r1).wf = true) (h2 : (Lit.int .i64 r2).wf = true) (h3 : (Lit.int .i64 r3).wf = true) (h4 : (Lit.int .i64 r4).wf = true) (h5 : (Lit.int .i64 r5).wf = true) :
    DataW.Trod enc Tryd.prog w base spare held 27 (.agg #[.int .i64 r0, .int .i64 r1, .int .i64 r2, .int .i64 r3, .int .i64 r4, .int .i64 r5]) (.agg [.lit (.int .i64 r0), .lit (.int .i64 r1), .lit (.int .i64 r2), .lit (.int .i64 r3), .lit (.int .i64 r4), .lit (.int .i64 r5)]) [] := by
  have hi : Tryd.prog.cellsOf 3 = 1 := by kernel_rfl
  have hc : Tryd.prog.cellsOf 27 = 6 := by kernel_rfl
  exact ⟨2, by simp [DataW.trod, Value.cells, Tryd.underlying27, Tryd.underlying3, hi, hc, h0, h1, h2, h3, h4, h5, List.range_succ]⟩
end

end Go.Proofs.YtehajmockicilaaDoor

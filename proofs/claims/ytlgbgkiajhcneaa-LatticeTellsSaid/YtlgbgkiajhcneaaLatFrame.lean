/-
  What the frames of layer 11's proofs ask besides: a lattice, and rows of two and of four numbers, opened and shut.
-/
import Derived.Test.YtlgbgkiajhcneaaLatBase
import Derived.ProofKit
import Derived.ChangeSlices
import Derived.Carry
import Derived.OpenShut
import Derived.Test.YtlgbgkiajhcneaaRows
import Derived.LaidMore
import Derived.SizedLaws
namespace Go.Proofs.Ytlgbgkiajhcneaa
open Go Go.ChangeShapes Go.WideShapes Go.ChangeAt Go.RowKit Go.Joins Go.Deep

theorem list4 {α : Type} (l : List α) (h : l.length = 4) : ∃ a b c d, l = [a, b, c, d] := by
  match l, h with
  | [a, b, c, d], _ => exact ⟨a, b, c, d, rfl⟩
theorem list2 {α : Type} (l : List α) (h : l.length = 2) : ∃ a b, l = [a, b] := by
  match l, h with
  | [a, b], _ => exact ⟨a, b, rfl⟩

section
variable {H : Type} {enc : TypeId × Value → H} {w : World} {base : Nat} {spare : Nat → Bool} {held : Bool}
set_option maxRecDepth 100000 in
theorem open_lattice {r : Reach} {b0 : Nat} {v : Value} {d : DataW H} {q : List MemPlace} (hv : Value.okWide Try.prog w r b0 23 v) (h : DataW.Trod enc Try.prog w base spare held 23 v d q) :
    ∃ a0 a1 : Int, v = .agg #[.int .i64 a0, .int .i64 a1] ∧ d = .agg [.lit (.int .i64 a0), .lit (.int .i64 a1)] ∧ q = [] ∧ (Lit.int .i64 a0).wf = true ∧ (Lit.int .i64 a1).wf = true := by
  obtain ⟨cs, rfl, hsz, _⟩ : ∃ cs, v = .agg cs ∧ cs.size = Try.prog.cellsOf 23 ∧ Row.okWide Try.prog w r b0 23 cs := by
    simpa [Value.okWide, Try.underlying23] using hv
  obtain ⟨fuel, hf⟩ := h
  have hf' : DataW.trod enc Try.prog w base spare held fuel 23 cs.toList = some (d, q) := hf
  have hc : Try.prog.cellsOf 23 = 2 := by kernel_rfl
  have hi : Try.prog.cellsOf 3 = 1 := by kernel_rfl
  obtain ⟨xs, n, _, hx, hl, hlen, hff⟩ := DataW.trod_struct Try.underlying23 hf'
  rw [hc] at hl
  obtain ⟨c0, c1, hcs⟩ := list2 _ hl
  obtain ⟨y0, y1, rfl⟩ := list2 xs hlen
  rw [hcs] at hff
  have f0 : DataW.trod enc Try.prog w base spare held n 3 (([c0, c1].drop 0).take (Try.prog.cellsOf 3)) = some y0 := hff 0 _ rfl
  have f1 : DataW.trod enc Try.prog w base spare held n 3 (([c0, c1].drop 1).take (Try.prog.cellsOf 3)) = some y1 := hff 1 _ rfl
  rw [hi] at f0 f1
  obtain ⟨a0, e0, r0, w0⟩ := DataW.trod_int Try.underlying3 f0
  obtain ⟨a1, e1, r1, w1⟩ := DataW.trod_int Try.underlying3 f1
  simp at e0 e1
  subst e0 e1 r0 r1
  have : cs = #[.int .i64 a0, .int .i64 a1] := Array.ext' hcs
  have hd := (Prod.ext_iff.1 hx).1
  have hq := (Prod.ext_iff.1 hx).2
  exact ⟨a0, a1, by rw [this], by simpa using hd, by simpa using hq, w0, w1⟩
set_option maxRecDepth 100000 in
theorem shut_lattice {a0 a1 : Int} (h : (Lit.int .i64 a0).wf = true ∧ (Lit.int .i64 a1).wf = true) : DataW.Trod enc Try.prog w base spare held 23 (.agg #[.int .i64 a0, .int .i64 a1]) (.agg [.lit (.int .i64 a0), .lit (.int .i64 a1)]) [] := by
  have hc : Try.prog.cellsOf 23 = 2 := by kernel_rfl
  have hi : Try.prog.cellsOf 3 = 1 := by kernel_rfl
  obtain ⟨h0, h1⟩ := h
  exact ⟨3, by simp [DataW.trod, Value.cells, Try.underlying23, Try.underlying3, hc, hi, h0, h1]⟩
set_option maxRecDepth 100000 in
theorem open_two {r : Reach} {b0 : Nat} {v : Value} {d : DataW H} {q : List MemPlace} (hv : Value.okWide Try.prog w r b0 30 v) (h : DataW.Trod enc Try.prog w base spare held 30 v d q) :
    ∃ a0 a1 : Int, v = .agg #[.int .i64 a0, .int .i64 a1] ∧ d = .agg [.lit (.int .i64 a0), .lit (.int .i64 a1)] ∧ q = [] ∧ (Lit.int .i64 a0).wf = true ∧ (Lit.int .i64 a1).wf = true := by
  obtain ⟨cs, rfl, hsz, _⟩ : ∃ cs, v = .agg cs ∧ cs.size = Try.prog.cellsOf 30 ∧ Row.okWide Try.prog w r b0 30 cs := by
    simpa [Value.okWide, Try.underlying30] using hv
  obtain ⟨fuel, hf⟩ := h
  have hf' : DataW.trod enc Try.prog w base spare held fuel 30 cs.toList = some (d, q) := hf
  have hc : Try.prog.cellsOf 30 = 2 := by kernel_rfl
  have hi : Try.prog.cellsOf 3 = 1 := by kernel_rfl
  obtain ⟨xs, n, _, hx, hl, hlen, hff⟩ := DataW.trod_array Try.underlying30 hf'
  rw [hc] at hl
  obtain ⟨c0, c1, hcs⟩ := list2 _ hl
  obtain ⟨y0, y1, rfl⟩ := list2 xs hlen
  rw [hcs] at hff
  have f0 := hff 0 (by decide)
  have f1 := hff 1 (by decide)
  rw [hi] at f0 f1
  obtain ⟨a0, e0, r0, w0⟩ := DataW.trod_int Try.underlying3 f0
  obtain ⟨a1, e1, r1, w1⟩ := DataW.trod_int Try.underlying3 f1
  simp at e0 e1
  subst e0 e1 r0 r1
  have : cs = #[.int .i64 a0, .int .i64 a1] := Array.ext' hcs
  have hd := (Prod.ext_iff.1 hx).1
  have hq := (Prod.ext_iff.1 hx).2
  exact ⟨a0, a1, by rw [this], by simpa using hd, by simpa using hq, w0, w1⟩
set_option maxRecDepth 100000 in
theorem shut_two {a0 a1 : Int} (h : (Lit.int .i64 a0).wf = true ∧ (Lit.int .i64 a1).wf = true) : DataW.Trod enc Try.prog w base spare held 30 (.agg #[.int .i64 a0, .int .i64 a1]) (.agg [.lit (.int .i64 a0), .lit (.int .i64 a1)]) [] := by
  have hc : Try.prog.cellsOf 30 = 2 := by kernel_rfl
  have hi : Try.prog.cellsOf 3 = 1 := by kernel_rfl
  obtain ⟨h0, h1⟩ := h
  exact ⟨2, by simp [DataW.trod, Value.cells, Try.underlying30, Try.underlying3, hi, hc, h0, h1, List.range_succ]⟩
set_option maxRecDepth 100000 in
theorem open_four {r : Reach} {b0 : Nat} {v : Value} {d : DataW H} {q : List MemPlace} (hv : Value.okWide Try.prog w r b0 37 v) (h : DataW.Trod enc Try.prog w base spare held 37 v d q) :
    ∃ a0 a1 a2 a3 : Int, v = .agg #[.int .i64 a0, .int .i64 a1, .int .i64 a2, .int .i64 a3] ∧ d = .agg [.lit (.int .i64 a0), .lit (.int .i64 a1), .lit (.int .i64 a2), .lit (.int .i64 a3)] ∧ q = [] ∧ (Lit.int .i64 a0).wf = true ∧ (Lit.int .i64 a1).wf = true ∧ (Lit.int .i64 a2).wf = true ∧ (Lit.int .i64 a3).wf = true := by
  obtain ⟨cs, rfl, hsz, _⟩ : ∃ cs, v = .agg cs ∧ cs.size = Try.prog.cellsOf 37 ∧ Row.okWide Try.prog w r b0 37 cs := by
    simpa [Value.okWide, Try.underlying37] using hv
  obtain ⟨fuel, hf⟩ := h
  have hf' : DataW.trod enc Try.prog w base spare held fuel 37 cs.toList = some (d, q) := hf
  have hc : Try.prog.cellsOf 37 = 4 := by kernel_rfl
  have hi : Try.prog.cellsOf 3 = 1 := by kernel_rfl
  obtain ⟨xs, n, _, hx, hl, hlen, hff⟩ := DataW.trod_array Try.underlying37 hf'
  rw [hc] at hl
  obtain ⟨c0, c1, c2, c3, hcs⟩ := list4 _ hl
  obtain ⟨y0, y1, y2, y3, rfl⟩ := list4 xs hlen
  rw [hcs] at hff
  have f0 := hff 0 (by decide)
  have f1 := hff 1 (by decide)
  have f2 := hff 2 (by decide)
  have f3 := hff 3 (by decide)
  rw [hi] at f0 f1 f2 f3
  obtain ⟨a0, e0, r0, w0⟩ := DataW.trod_int Try.underlying3 f0
  obtain ⟨a1, e1, r1, w1⟩ := DataW.trod_int Try.underlying3 f1
  obtain ⟨a2, e2, r2, w2⟩ := DataW.trod_int Try.underlying3 f2
  obtain ⟨a3, e3, r3, w3⟩ := DataW.trod_int Try.underlying3 f3
  simp at e0 e1 e2 e3
  subst e0 e1 e2 e3 r0 r1 r2 r3
  have : cs = #[.int .i64 a0, .int .i64 a1, .int .i64 a2, .int .i64 a3] := Array.ext' hcs
  have hd := (Prod.ext_iff.1 hx).1
  have hq := (Prod.ext_iff.1 hx).2
  exact ⟨a0, a1, a2, a3, by rw [this], by simpa using hd, by simpa using hq, w0, w1, w2, w3⟩
set_option maxRecDepth 100000 in
theorem shut_four {a0 a1 a2 a3 : Int} (h : (Lit.int .i64 a0).wf = true ∧ (Lit.int .i64 a1).wf = true ∧ (Lit.int .i64 a2).wf = true ∧ (Lit.int .i64 a3).wf = true) : DataW.Trod enc Try.prog w base spare held 37 (.agg #[.int .i64 a0, .int .i64 a1, .int .i64 a2, .int .i64 a3]) (.agg [.lit (.int .i64 a0), .lit (.int .i64 a1), .lit (.int .i64 a2), .lit (.int .i64 a3)]) [] := by
  have hc : Try.prog.cellsOf 37 = 4 := by kernel_rfl
  have hi : Try.prog.cellsOf 3 = 1 := by kernel_rfl
  obtain ⟨h0, h1, h2, h3⟩ := h
  exact ⟨2, by simp [DataW.trod, Value.cells, Try.underlying37, Try.underlying3, hi, hc, h0, h1, h2, h3, List.range_succ]⟩
end
end Go.Proofs.Ytlgbgkiajhcneaa

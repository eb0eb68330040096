/-
  What the frame of the law SchedTells asks besides: a plan, and a spot, opened.
-/
import Derived.Test.YtmklabdfalkldaaSchInts
import Derived.ProofKit
import Derived.ChangeSlices
import Derived.Carry
import Derived.OpenShut
import Derived.Test.YtmklabdfalkldaaRows
import Derived.LaidMore
import Derived.SizedLaws
namespace Go.Proofs.Ytmklabdfalkldaa
open Go Go.ChangeShapes Go.WideShapes Go.ChangeAt Go.RowKit Go.Joins Go.Deep

theorem list4 {α : Type} (l : List α) (h : l.length = 4) : ∃ a b c d, l = [a, b, c, d] := by
  match l, h with
  | [a, b, c, d], _ => exact ⟨a, b, c, d, rfl⟩
theorem list2 {α : Type} (l : List α) (h : l.length = 2) : ∃ a b, l = [a, b] := by
  match l, h with
  | [a, b], _ => exact ⟨a, b, rfl⟩
theorem list_of_each {α : Type} (P : Nat → α → Prop) : ∀ (n : Nat), (∀ i, i < n → ∃ f, P i f) → ∃ l : List α, l.length = n ∧ ∀ i f, l[i]? = some f → P i f
  | 0, _ => ⟨[], rfl, fun i f h => by cases h⟩
  | n + 1, h => by
    obtain ⟨l, hl, hp⟩ := list_of_each P n (fun i hi => h i (by omega))
    obtain ⟨f, hf⟩ := h n (by omega)
    refine ⟨l ++ [f], by rw [List.length_append, hl]; rfl, fun i g hg => ?_⟩
    rcases Nat.lt_trichotomy i n with h1 | h1 | h1
    · rw [List.getElem?_append_left (by omega)] at hg
      exact hp i g hg
    · subst h1
      rw [List.getElem?_append_right (by omega), hl, Nat.sub_self] at hg
      have : f = g := by simpa using hg
      rw [← this]; exact hf
    · rw [List.getElem?_eq_none (by rw [List.length_append, hl, List.length_singleton]; omega)] at hg
      cases hg
def WfS (s : Spot) : Prop := (Lit.int .i64 s.cyc).wf = true ∧ (Lit.int .i64 s.rnd).wf = true ∧ (Lit.int .i64 s.slt).wf = true ∧ (Lit.int .i64 s.tck).wf = true
def datS (H : Type) (s : Spot) : DataW H := .agg [.lit (.int .i64 s.cyc), .lit (.int .i64 s.rnd), .lit (.int .i64 s.slt), .lit (.int .i64 s.tck)]
def scl (s : Spot) : Array Value := #[.int .i64 s.cyc, .int .i64 s.rnd, .int .i64 s.slt, .int .i64 s.tck]

section
variable {H : Type} {enc : TypeId × Value → H} {w : World} {base : Nat} {spare : Nat → Bool} {held : Bool}
set_option maxRecDepth 100000 in
theorem open_spot {r : Reach} {b0 : Nat} {v : Value} {d : DataW H} {q : List MemPlace} (hv : Value.okWide Try.prog w r b0 27 v) (h : DataW.Trod enc Try.prog w base spare held 27 v d q) :
    ∃ s : Spot, v = sv s ∧ d = datS H s ∧ q = [] ∧ WfS s := by
  obtain ⟨cs, rfl, hsz, _⟩ : ∃ cs, v = .agg cs ∧ cs.size = Try.prog.cellsOf 27 ∧ Row.okWide Try.prog w r b0 27 cs := by
    simpa [Value.okWide, Try.underlying27] using hv
  obtain ⟨fuel, hf⟩ := h
  have hf' : DataW.trod enc Try.prog w base spare held fuel 27 cs.toList = some (d, q) := hf
  have hc : Try.prog.cellsOf 27 = 4 := by kernel_rfl
  have hi : Try.prog.cellsOf 3 = 1 := by kernel_rfl
  obtain ⟨xs, n, _, hx, hl, hlen, hff⟩ := DataW.trod_struct Try.underlying27 hf'
  rw [hc] at hl
  obtain ⟨c0, c1, c2, c3, hcs⟩ := list4 _ hl
  obtain ⟨y0, y1, y2, y3, rfl⟩ := list4 xs hlen
  rw [hcs] at hff
  have f0 : DataW.trod enc Try.prog w base spare held n 3 (([c0, c1, c2, c3].drop 0).take (Try.prog.cellsOf 3)) = some y0 := hff 0 _ rfl
  have f1 : DataW.trod enc Try.prog w base spare held n 3 (([c0, c1, c2, c3].drop 1).take (Try.prog.cellsOf 3)) = some y1 := hff 1 _ rfl
  have f2 : DataW.trod enc Try.prog w base spare held n 3 (([c0, c1, c2, c3].drop 2).take (Try.prog.cellsOf 3)) = some y2 := hff 2 _ rfl
  have f3 : DataW.trod enc Try.prog w base spare held n 3 (([c0, c1, c2, c3].drop 3).take (Try.prog.cellsOf 3)) = some y3 := hff 3 _ rfl
  rw [hi] at f0 f1 f2 f3
  obtain ⟨a0, e0, r0, w0⟩ := DataW.trod_int Try.underlying3 f0
  obtain ⟨a1, e1, r1, w1⟩ := DataW.trod_int Try.underlying3 f1
  obtain ⟨a2, e2, r2, w2⟩ := DataW.trod_int Try.underlying3 f2
  obtain ⟨a3, e3, r3, w3⟩ := DataW.trod_int Try.underlying3 f3
  simp at e0 e1 e2 e3
  subst e0 e1 e2 e3 r0 r1 r2 r3
  have : cs = scl ⟨a0, a1, a2, a3⟩ := Array.ext' hcs
  have hd := (Prod.ext_iff.1 hx).1
  have hq := (Prod.ext_iff.1 hx).2
  exact ⟨⟨a0, a1, a2, a3⟩, by rw [this]; rfl, by simpa [datS] using hd, by simpa using hq, w0, w1, w2, w3⟩
set_option maxRecDepth 100000 in
theorem shut_spot {s : Spot} (h : WfS s) : DataW.Trod enc Try.prog w base spare held 27 (sv s) (datS H s) [] := by
  have hc : Try.prog.cellsOf 27 = 4 := by kernel_rfl
  have hi : Try.prog.cellsOf 3 = 1 := by kernel_rfl
  obtain ⟨h1, h2, h3, h4⟩ := h
  refine ⟨3, ?_⟩
  show DataW.trod enc Try.prog w base spare held 3 27 (scl s).toList = _
  simp [DataW.trod, scl, Try.underlying27, Try.underlying3, hc, hi, h1, h2, h3, h4, datS]
end

section
variable {H : Type} {enc : TypeId × Value → H} {w : World} {base : Nat} {held : Bool}
set_option maxRecDepth 100000 in
theorem open_slots {A : Option Addr} {n cap : Nat} {fuel : Nat} {x : DataW H × List MemPlace} (hf : DataW.trod enc Try.prog w base (fun _ => true) held fuel 23 [.slice A n cap] = some x) :
    ∃ l : Pl, n = l.length ∧ l.length ≤ maxLen ∧ Sls w w.heap.size A l := by
  have hc : Try.prog.cellsOf 45 = 2 := by kernel_rfl
  have hi : Try.prog.cellsOf 3 = 1 := by kernel_rfl
  rcases open_slice Try.underlying23 hf with ⟨h0, _⟩ | ⟨a, len, cap', m, n', D, Pp, hcs, hba, hl, hm, hmm, hx, hel⟩
  · have : Value.slice A n cap = .slice none 0 0 := by simpa using h0
    injection this with e1 e2 e3
    subst e1 e2 e3
    exact ⟨[], rfl, by simp, Sls.nil _ _ _⟩
  · have : Value.slice A n cap = .slice (some a) len cap' := by simpa using hcs
    injection this with e1 e2 e3
    subst e1 e2 e3
    rw [if_pos rfl] at hmm
    subst hmm
    have each : ∀ i, i < n → ∃ s : Int × Int, At2 w (a.add (i * 2)) s := by
      intro i hin
      obtain ⟨cs, h1, h2⟩ := hel i (by omega)
      rw [hc] at h1
      obtain ⟨hln, h3, h4⟩ := World.cells?_some h1
      obtain ⟨xs, n2, _, hx2, hl2, hlen2, hff⟩ := DataW.trod_struct Try.underlying45 h2
      rw [hc] at hl2
      obtain ⟨c0, c1, rfl⟩ := list2 _ hl2
      obtain ⟨y0, y1, rfl⟩ := list2 xs hlen2
      have f0 : DataW.trod enc Try.prog w base (fun _ => true) held n2 3 (([c0, c1].drop 0).take (Try.prog.cellsOf 3)) = some y0 := hff 0 _ rfl
      have f1 : DataW.trod enc Try.prog w base (fun _ => true) held n2 3 (([c0, c1].drop 1).take (Try.prog.cellsOf 3)) = some y1 := hff 1 _ rfl
      rw [hi] at f0 f1
      obtain ⟨b0, e0, r0, w0⟩ := DataW.trod_int Try.underlying3 f0
      obtain ⟨b1, e1, r1, w1⟩ := DataW.trod_int Try.underlying3 f1
      simp at e0 e1
      subst e0 e1
      exact ⟨(b0, b1), h4 0 (by omega), h4 1 (by omega)⟩
    obtain ⟨l, hll, hlp⟩ := list_of_each _ n each
    subst hll
    refine ⟨l, rfl, by omega, fun hn => ⟨a, rfl, ?_, hlp⟩⟩
    obtain ⟨s, hs⟩ := each 0 hn
    have := World.block_lt_of_cell? w _ hs.1
    rwa [adb] at this
set_option maxRecDepth 100000 in
theorem open_plan {r : Reach} {b0 : Nat} {v : Value} {d : DataW H} {p : List MemPlace} (hv : Value.okWide Try.prog w r b0 25 v) (h : DataW.Trod enc Try.prog w base (fun _ => true) held 25 v d p) :
    ∃ (A : Option Addr) (c : Nat) (C : Int) (l : Pl), v = pv A l.length c C ∧ l.length ≤ maxLen ∧ Sls w w.heap.size A l := by
  have hc : Try.prog.cellsOf 25 = 2 := by kernel_rfl
  have hi : Try.prog.cellsOf 3 = 1 := by kernel_rfl
  have hs : Try.prog.cellsOf 23 = 1 := by kernel_rfl
  obtain ⟨cs, rfl, hsz, hok⟩ : ∃ cs, v = .agg cs ∧ cs.size = Try.prog.cellsOf 25 ∧ Row.okWide Try.prog w r b0 25 cs := by
    simpa [Value.okWide, Try.underlying25] using hv
  obtain ⟨fuel, hf⟩ := h
  have hf' : DataW.trod enc Try.prog w base (fun _ => true) held fuel 25 cs.toList = some (d, p) := hf
  obtain ⟨xs, n, _, hx, hl, hlen, hff⟩ := DataW.trod_struct Try.underlying25 hf'
  rw [hc] at hl
  obtain ⟨c0, c1, hcs⟩ := list2 _ hl
  obtain ⟨y0, y1, rfl⟩ := list2 xs hlen
  rw [hcs] at hff
  have f0 : DataW.trod enc Try.prog w base (fun _ => true) held n 23 (([c0, c1].drop 0).take (Try.prog.cellsOf 23)) = some y0 := hff 0 _ rfl
  have f1 : DataW.trod enc Try.prog w base (fun _ => true) held n 3 (([c0, c1].drop 1).take (Try.prog.cellsOf 3)) = some y1 := hff 1 _ rfl
  rw [hi] at f1
  rw [hs] at f0
  obtain ⟨a1, e1, r1, w1⟩ := DataW.trod_int Try.underlying3 f1
  simp at e1
  have f0' : DataW.trod enc Try.prog w base (fun _ => true) held n 23 [c0] = some y0 := by simpa using f0
  obtain ⟨A, k, c, rfl⟩ : ∃ A k c, c0 = .slice A k c := by
    rcases open_slice Try.underlying23 f0' with ⟨h0, _⟩ | ⟨a, len, cap', m, n', D, Pl, h0, _⟩
    · exact ⟨none, 0, 0, by simpa using h0⟩
    · exact ⟨some a, len, cap', by simpa using h0⟩
  obtain ⟨l, rfl, hm, hS⟩ := open_slots f0'
  refine ⟨A, c, a1, l, ?_, hm, hS⟩
  rw [e1] at hcs
  have : cs = #[.slice A l.length c, .int .i64 a1] := Array.ext' hcs
  rw [this]
end

end Go.Proofs.Ytmklabdfalkldaa

/-
  What the frames of layer 5's proofs have in common: pieces, rows of four numbers, lists of them, lists of numbers, and what was gathered, opened and shut.
-/
import Derived.Test.YtggeojjiongbbaaFragRaw
import Derived.ProofKit
import Derived.ChangeSlices
import Derived.Carry
import Derived.OpenShut
import Derived.ShutString
import Derived.Test.YtggeojjiongbbaaRows
import Derived.LaidMore
import Derived.SizedLaws
namespace Go.Proofs.Ytggeojjiongbbaa
open Go Go.ChangeShapes Go.WideShapes Go.ChangeAt Go.RowKit Go.Joins Go.Deep

theorem list4 {α : Type} (l : List α) (h : l.length = 4) : ∃ a b c d, l = [a, b, c, d] := by
  match l, h with
  | [a, b, c, d], _ => exact ⟨a, b, c, d, rfl⟩
theorem list3 {α : Type} (l : List α) (h : l.length = 3) : ∃ a b c, l = [a, b, c] := by
  match l, h with
  | [a, b, c], _ => exact ⟨a, b, c, rfl⟩

/-- Its parts are what a program's may be. -/
def WfP (p : Pc) : Prop := (Lit.int .i64 p.seq).wf = true ∧ (Lit.int .i64 p.at').wf = true ∧ (Lit.int .i64 p.of').wf = true ∧ p.bytes.size ≤ maxLen
def datP (H : Type) (p : Pc) : DataW H := .agg [.lit (.int .i64 p.seq), .lit (.int .i64 p.at'), .lit (.int .i64 p.of'), .lit (.string p.bytes.data.toList)]
def datR (H : Type) (r : Raw) : DataW H := .agg [.lit (.int .i64 r.a), .lit (.int .i64 r.b), .lit (.int .i64 r.c), .lit (.int .i64 r.d)]

section
variable {H : Type} {enc : TypeId × Value → H} {w : World} {base : Nat} {spare : Nat → Bool} {held : Bool}

set_option maxRecDepth 100000 in
theorem open_piece_cells {fuel : Nat} {cs : List Value} {x : DataW H × List MemPlace} (h : DataW.trod enc Try.prog w base spare held fuel 23 cs = some x) :
    ∃ p : Pc, cs = (pcl p).toList ∧ x = (datP H p, []) ∧ WfP p := by
  have hc : Try.prog.cellsOf 23 = 4 := by kernel_rfl
  have hi : Try.prog.cellsOf 3 = 1 := by kernel_rfl
  have hs : Try.prog.cellsOf 9 = 1 := by kernel_rfl
  obtain ⟨xs, n, _, rfl, hl, hlen, hf⟩ := DataW.trod_struct Try.underlying23 h
  rw [hc] at hl
  obtain ⟨c0, c1, c2, c3, rfl⟩ := list4 cs hl
  obtain ⟨y0, y1, y2, y3, rfl⟩ := list4 xs hlen
  have f0 : DataW.trod enc Try.prog w base spare held n 3 (([c0, c1, c2, c3].drop 0).take (Try.prog.cellsOf 3)) = some y0 := hf 0 _ rfl
  have f1 : DataW.trod enc Try.prog w base spare held n 3 (([c0, c1, c2, c3].drop 1).take (Try.prog.cellsOf 3)) = some y1 := hf 1 _ rfl
  have f2 : DataW.trod enc Try.prog w base spare held n 3 (([c0, c1, c2, c3].drop 2).take (Try.prog.cellsOf 3)) = some y2 := hf 2 _ rfl
  have f3 : DataW.trod enc Try.prog w base spare held n 9 (([c0, c1, c2, c3].drop 3).take (Try.prog.cellsOf 9)) = some y3 := hf 3 _ rfl
  rw [hi] at f0 f1 f2
  rw [hs] at f3
  obtain ⟨a0, e0, r0, w0⟩ := DataW.trod_int Try.underlying3 f0
  obtain ⟨a1, e1, r1, w1⟩ := DataW.trod_int Try.underlying3 f1
  obtain ⟨a2, e2, r2, w2⟩ := DataW.trod_int Try.underlying3 f2
  obtain ⟨a3, e3, r3, w3⟩ := DataW.trod_string Try.underlying9 f3
  simp at e0 e1 e2 e3
  subst e0 e1 e2 e3 r0 r1 r2 r3
  exact ⟨⟨a0, a1, a2, a3⟩, rfl, by simp [datP], w0, w1, w2, w3⟩
set_option maxRecDepth 100000 in
theorem shut_piece_cells {p : Pc} (h : WfP p) : DataW.trod enc Try.prog w base spare held 3 23 (pcl p).toList = some (datP H p, []) := by
  have hc : Try.prog.cellsOf 23 = 4 := by kernel_rfl
  have hi : Try.prog.cellsOf 3 = 1 := by kernel_rfl
  have hs : Try.prog.cellsOf 9 = 1 := by kernel_rfl
  obtain ⟨h1, h2, h3, h4⟩ := h
  simp [DataW.trod, Try.underlying23, Try.underlying3, Try.underlying9, hc, hi, hs, h1, h2, h3, h4, datP]
set_option maxRecDepth 100000 in
theorem open_piece {r : Reach} {b0 : Nat} {v : Value} {d : DataW H} {q : List MemPlace} (hv : Value.okWide Try.prog w r b0 23 v) (h : DataW.Trod enc Try.prog w base spare held 23 v d q) :
    ∃ p : Pc, v = pv p ∧ d = datP H p ∧ q = [] ∧ WfP p := by
  obtain ⟨cs, rfl, hsz, _⟩ : ∃ cs, v = .agg cs ∧ cs.size = Try.prog.cellsOf 23 ∧ Row.okWide Try.prog w r b0 23 cs := by
    simpa [Value.okWide, Try.underlying23] using hv
  obtain ⟨fuel, hf⟩ := h
  obtain ⟨m, e, hx, hw⟩ := open_piece_cells hf
  simp only [Prod.mk.injEq] at hx
  refine ⟨m, ?_, hx.1, hx.2, hw⟩
  have : cs = pcl m := Array.ext' e
  rw [this]
theorem shut_piece {p : Pc} (h : WfP p) : DataW.Trod enc Try.prog w base spare held 23 (pv p) (datP H p) [] := ⟨3, shut_piece_cells h⟩

def rcl (r : Raw) : Array Value := #[.int .i64 r.a, .int .i64 r.b, .int .i64 r.c, .int .i64 r.d]
set_option maxRecDepth 100000 in
theorem open_four_cells {fuel : Nat} {cs : List Value} {x : DataW H × List MemPlace} (h : DataW.trod enc Try.prog w base spare held fuel 24 cs = some x) :
    ∃ r : Raw, cs = (rcl r).toList ∧ x = (datR H r, []) ∧ WfR r := by
  have hc : Try.prog.cellsOf 24 = 4 := by kernel_rfl
  have hi : Try.prog.cellsOf 3 = 1 := by kernel_rfl
  obtain ⟨xs, n, _, rfl, hl, hlen, hf⟩ := DataW.trod_array Try.underlying24 h
  rw [hc] at hl
  obtain ⟨c0, c1, c2, c3, rfl⟩ := list4 cs hl
  obtain ⟨y0, y1, y2, y3, rfl⟩ := list4 xs hlen
  have f0 := hf 0 (by decide)
  have f1 := hf 1 (by decide)
  have f2 := hf 2 (by decide)
  have f3 := hf 3 (by decide)
  rw [hi] at f0 f1 f2 f3
  obtain ⟨a0, e0, r0, w0⟩ := DataW.trod_int Try.underlying3 f0
  obtain ⟨a1, e1, r1, w1⟩ := DataW.trod_int Try.underlying3 f1
  obtain ⟨a2, e2, r2, w2⟩ := DataW.trod_int Try.underlying3 f2
  obtain ⟨a3, e3, r3, w3⟩ := DataW.trod_int Try.underlying3 f3
  simp at e0 e1 e2 e3
  subst e0 e1 e2 e3 r0 r1 r2 r3
  exact ⟨⟨a0, a1, a2, a3⟩, rfl, by simp [datR], w0, w1, w2, w3⟩
set_option maxRecDepth 100000 in
theorem open_four {r : Reach} {b0 : Nat} {v : Value} {d : DataW H} {p : List MemPlace} (hv : Value.okWide Try.prog w r b0 24 v) (h : DataW.Trod enc Try.prog w base spare held 24 v d p) :
    ∃ r : Raw, v = rv r ∧ d = datR H r ∧ p = [] ∧ WfR r := by
  obtain ⟨cs, rfl, hsz, _⟩ : ∃ cs, v = .agg cs ∧ cs.size = Try.prog.cellsOf 24 ∧ Row.okWide Try.prog w r b0 24 cs := by
    simpa [Value.okWide, Try.underlying24] using hv
  obtain ⟨fuel, hf⟩ := h
  obtain ⟨q, e, hx, hw⟩ := open_four_cells hf
  simp only [Prod.mk.injEq] at hx
  refine ⟨q, ?_, hx.1, hx.2, hw⟩
  have : cs = rcl q := Array.ext' e
  rw [this]; rfl
set_option maxRecDepth 100000 in
theorem shut_four {r : Raw} (h : WfR r) : DataW.Trod enc Try.prog w base spare held 24 (rv r) (datR H r) [] := by
  have hi : Try.prog.cellsOf 3 = 1 := by kernel_rfl
  have hc : Try.prog.cellsOf 24 = 4 := by kernel_rfl
  obtain ⟨h0, h1, h2, h3⟩ := h
  exact ⟨2, by simp [DataW.trod, Value.cells, Try.underlying24, Try.underlying3, hi, hc, h0, h1, h2, h3, List.range_succ, datR]⟩
end

/-- What holds of each of n things holds of a list's. -/
theorem list_of_each {α : Type} (P : Nat → α → Prop) : ∀ (n : Nat), (∀ i, i < n → ∃ f, P i f) → ∃ l : List α, l.length = n ∧ ∀ i f, l[i]? = some f → P i f
  | 0, _ => ⟨[], rfl, fun i f h => by cases h⟩
  | n + 1, h => by
    obtain ⟨l, hl, hp⟩ := list_of_each P n (fun i hi => h i (by omega))
    obtain ⟨f, hf⟩ := h n (by omega)
    refine ⟨l ++ [f], by rw [List.length_append, hl]; rfl, fun i g hg => ?_⟩
    rcases Nat.lt_trichotomy i n with h1 | h1 | h1
    · rw [List.getElem?_append_left (by omega)] at hg
      exact hp i g hg
    · subst h1
      rw [List.getElem?_append_right (by omega), hl, Nat.sub_self] at hg
      have : f = g := by simpa using hg
      rw [← this]; exact hf
    · rw [List.getElem?_eq_none (by rw [List.length_append, hl, List.length_singleton]; omega)] at hg
      cases hg

/-- Raw rows, as a law gets them. -/
structure RawsOk (w : World) (A : Option Addr) (c : Nat) (l : List Raw) : Prop where
  row : Raws w w.heap.size A l
  len : l.length ≤ c ∧ c ≤ maxLen
  wf : ∀ r ∈ l, WfR r
/-- Texts, as a law gets them. -/
structure StrsOk (w : World) (A : Option Addr) (c : Nat) (l : List ByteArray) : Prop where
  row : Strs w w.heap.size A l
  len : l.length ≤ c ∧ c ≤ maxLen
  wf : ∀ d ∈ l, d.size ≤ maxLen

section
variable {H : Type} {enc : TypeId × Value → H} {w : World} {base : Nat} {held : Bool}
set_option maxRecDepth 100000 in
theorem open_raws {v : Value} {d : DataW H} {p : List MemPlace} (hv : ∃ a n c, v = .slice a n c) (h : DataW.Trod enc Try.prog w base (fun _ => true) held 44 v d p) :
    ∃ (A : Option Addr) (cap : Nat) (l : List Raw), v = .slice A l.length cap ∧ RawsOk w A cap l := by
  obtain ⟨A, n, cap, rfl⟩ := hv
  obtain ⟨fuel, hf⟩ := h
  have hc : Try.prog.cellsOf 24 = 4 := by kernel_rfl
  rcases open_slice Try.underlying44 hf with ⟨h0, _⟩ | ⟨a, len, cap', m, n', D, Pl, hcs, hba, hl, hm, hmm, hx, hel⟩
  · have : Value.slice A n cap = .slice none 0 0 := by simpa [Value.cells] using h0
    injection this with e1 e2 e3
    subst e1 e2 e3
    exact ⟨none, 0, [], rfl, fun h => absurd h (by simp), ⟨Nat.le_refl _, by unfold maxLen; omega⟩, fun r h => by cases h⟩
  · have : Value.slice A n cap = .slice (some a) len cap' := by simpa [Value.cells] using hcs
    injection this with e1 e2 e3
    subst e1 e2 e3
    rw [if_pos rfl] at hmm
    subst hmm
    have each : ∀ i, i < n → ∃ r : Raw, At4R w (a.add (i * 4)) r ∧ WfR r := by
      intro i hin
      obtain ⟨cs, h1, h2⟩ := hel i (by omega)
      rw [hc] at h1
      obtain ⟨_, h3, h4⟩ := World.cells?_some h1
      obtain ⟨r, hcs4, _, hw⟩ := open_four_cells h2
      subst hcs4
      have q0 := h4 0 (by omega)
      have q1 := h4 1 (by omega)
      have q2 := h4 2 (by omega)
      have q3 := h4 3 (by omega)
      exact ⟨r, ⟨q0, q1, q2, q3⟩, hw⟩
    obtain ⟨l, hll, hlp⟩ := list_of_each _ n each
    subst hll
    refine ⟨some a, _, l, rfl, fun hn => ⟨a, rfl, ?_, fun j r hr => (hlp j r hr).1⟩, ⟨hl, hm⟩, fun r hr => ?_⟩
    · obtain ⟨r, hr, _⟩ := each 0 hn
      have := World.block_lt_of_cell? w _ hr.1
      rwa [adb] at this
    · obtain ⟨j, hj⟩ := List.getElem?_of_mem hr
      exact (hlp j r hj).2
set_option maxRecDepth 100000 in
theorem open_texts {A : Option Addr} {n cap : Nat} {fuel : Nat} {x : DataW H × List MemPlace} (hf : DataW.trod enc Try.prog w base (fun _ => true) held fuel 27 [.slice A n cap] = some x) :
    ∃ l : List ByteArray, n = l.length ∧ StrsOk w A cap l := by
  have hc : Try.prog.cellsOf 9 = 1 := by kernel_rfl
  rcases open_slice Try.underlying27 hf with ⟨h0, _⟩ | ⟨a, len, cap', m, n', D, Pl, hcs, hba, hl, hm, hmm, hx, hel⟩
  · have : Value.slice A n cap = .slice none 0 0 := by simpa using h0
    injection this with e1 e2 e3
    subst e1 e2 e3
    exact ⟨[], rfl, fun h => absurd h (by simp), ⟨Nat.le_refl _, by unfold maxLen; omega⟩, fun r h => by cases h⟩
  · have : Value.slice A n cap = .slice (some a) len cap' := by simpa using hcs
    injection this with e1 e2 e3
    subst e1 e2 e3
    rw [if_pos rfl] at hmm
    subst hmm
    have each : ∀ i, i < n → ∃ d : ByteArray, w.cell? (a.add i) = some (.string d) ∧ d.size ≤ maxLen := by
      intro i hin
      obtain ⟨cs, h1, h2⟩ := hel i (by omega)
      rw [hc] at h1
      obtain ⟨h5, h3, h4⟩ := World.cells?_some h1
      obtain ⟨d, hd, _, hw⟩ := DataW.trod_string Try.underlying9 h2
      subst hd
      have q0 := h4 0 (by omega)
      rw [Nat.mul_one] at q0
      have e0 : (a.add i).add 0 = a.add i := by unfold Addr.add; rfl
      rw [e0] at q0
      exact ⟨d, q0, hw⟩
    obtain ⟨l, hll, hlp⟩ := list_of_each _ n each
    subst hll
    refine ⟨l, rfl, fun hn => ⟨a, rfl, ?_, fun j r hr => (hlp j r hr).1⟩, ⟨hl, hm⟩, fun r hr => ?_⟩
    · obtain ⟨r, hr, _⟩ := each 0 hn
      have := World.block_lt_of_cell? w _ hr
      rwa [adb] at this
    · obtain ⟨j, hj⟩ := List.getElem?_of_mem hr
      exact (hlp j r hj).2
set_option maxRecDepth 100000 in
theorem open_gather {r : Reach} {b0 : Nat} {v : Value} {d : DataW H} {p : List MemPlace} (hv : Value.okWide Try.prog w r b0 46 v) (h : DataW.Trod enc Try.prog w base (fun _ => true) held 46 v d p) :
    ∃ (i q : Int) (A : Option Addr) (c : Nat) (l : List ByteArray), v = gv i q (.slice A l.length c) ∧ (Lit.int .i64 i).wf = true ∧ (Lit.int .i64 q).wf = true ∧ StrsOk w A c l := by
  have hc : Try.prog.cellsOf 46 = 3 := by kernel_rfl
  have hi : Try.prog.cellsOf 3 = 1 := by kernel_rfl
  have hs : Try.prog.cellsOf 27 = 1 := by kernel_rfl
  obtain ⟨cs, rfl, hsz, hok⟩ : ∃ cs, v = .agg cs ∧ cs.size = Try.prog.cellsOf 46 ∧ Row.okWide Try.prog w r b0 46 cs := by
    simpa [Value.okWide, Try.underlying46] using hv
  obtain ⟨fuel, hf⟩ := h
  have hf' : DataW.trod enc Try.prog w base (fun _ => true) held fuel 46 cs.toList = some (d, p) := hf
  obtain ⟨xs, n, _, hx, hl, hlen, hff⟩ := DataW.trod_struct Try.underlying46 hf'
  rw [hc] at hl
  obtain ⟨c0, c1, c2, hcs⟩ := list3 _ hl
  obtain ⟨y0, y1, y2, rfl⟩ := list3 xs hlen
  rw [hcs] at hff
  have f0 : DataW.trod enc Try.prog w base (fun _ => true) held n 3 (([c0, c1, c2].drop 0).take (Try.prog.cellsOf 3)) = some y0 := hff 0 _ rfl
  have f1 : DataW.trod enc Try.prog w base (fun _ => true) held n 3 (([c0, c1, c2].drop 1).take (Try.prog.cellsOf 3)) = some y1 := hff 1 _ rfl
  have f2 : DataW.trod enc Try.prog w base (fun _ => true) held n 27 (([c0, c1, c2].drop 2).take (Try.prog.cellsOf 27)) = some y2 := hff 2 _ rfl
  rw [hi] at f0 f1
  rw [hs] at f2
  obtain ⟨a0, e0, r0, w0⟩ := DataW.trod_int Try.underlying3 f0
  obtain ⟨a1, e1, r1, w1⟩ := DataW.trod_int Try.underlying3 f1
  simp at e0 e1
  have f2' : DataW.trod enc Try.prog w base (fun _ => true) held n 27 [c2] = some y2 := by simpa using f2
  obtain ⟨A, k, c, rfl⟩ : ∃ A k c, c2 = .slice A k c := by
    rcases open_slice Try.underlying27 f2' with ⟨h0, _⟩ | ⟨a, len, cap', m, n', D, Pl, h0, _⟩
    · exact ⟨none, 0, 0, by simpa using h0⟩
    · exact ⟨some a, len, cap', by simpa using h0⟩
  obtain ⟨l, rfl, hS⟩ := open_texts f2'
  refine ⟨a0, a1, A, c, l, ?_, w0, w1, hS⟩
  rw [e0, e1] at hcs
  have : cs = #[.int .i64 a0, .int .i64 a1, .slice A l.length c] := Array.ext' hcs
  rw [this]
end

end Go.Proofs.Ytggeojjiongbbaa

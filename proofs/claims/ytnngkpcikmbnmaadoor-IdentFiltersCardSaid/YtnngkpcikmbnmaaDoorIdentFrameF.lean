/-
  What the frame of the law IdentFilters asks besides: a slice of filters, opened.
-/
import Derived.Test.YtnngkpcikmbnmaaDoorIdentFrame
import Derived.Test.YtnngkpcikmbnmaaDoorIdentFilters
import Derived.Carry
namespace Go.Proofs.YtnngkpcikmbnmaaDoor
open Go Go.ChangeShapes Go.WideShapes Go.ChangeAt Go.RowKit Go.Joins Go.Deep

/-- What holds of each of n things holds of a list's. -/
theorem list_of_each {α : Type} (P : Nat → α → Prop) : ∀ (n : Nat), (∀ i, i < n → ∃ f, P i f) → ∃ l : List α, l.length = n ∧ ∀ i f, l[i]? = some f → P i f
  | 0, _ => ⟨[], rfl, fun i f h => by cases h⟩
  | n + 1, h => by
    obtain ⟨l, hl, hp⟩ := list_of_each P n (fun i hi => h i (by omega))
    obtain ⟨f, hf⟩ := h n (by omega)
    refine ⟨l ++ [f], by rw [List.length_append, hl]; rfl, fun i g hg => ?_⟩
    rcases Nat.lt_trichotomy i n with h1 | h1 | h1
    · rw [List.getElem?_append_left (by omega)] at hg
      exact hp i g hg
    · subst h1
      rw [List.getElem?_append_right (by omega), hl, Nat.sub_self] at hg
      have : f = g := by simpa using hg
      rw [← this]; exact hf
    · rw [List.getElem?_eq_none (by rw [List.length_append, hl, List.length_singleton]; omega)] at hg
      cases hg

theorem list_three {α : Type} (l : List α) (h : l.length = 3) : ∃ a b c, l = [a, b, c] := by
  match l, h with
  | [a, b, c], _ => exact ⟨a, b, c, rfl⟩

section
variable {H : Type} {enc : TypeId × Value → H} {w : World} {base : Nat} {held : Bool}

theorem open_filters {v : Value} {d : DataW H} {p : List MemPlace} (hv : ∃ a n c, v = .slice a n c) (h : DataW.Trod enc Tryd.prog w base (fun _ => true) held 37 v d p) :
    ∃ (A : Option Addr) (n cap : Nat), v = .slice A n cap ∧ FiltersIn w A n cap := by
  obtain ⟨A, n, cap, rfl⟩ := hv
  refine ⟨A, n, cap, rfl, ?_⟩
  obtain ⟨fuel, hf⟩ := h
  have hc : Tryd.prog.cellsOf 40 = 3 := by kernel_rfl
  have hb : Tryd.prog.cellsOf 4 = 1 := by kernel_rfl
  have hi : Tryd.prog.cellsOf 3 = 1 := by kernel_rfl
  rcases open_slice Tryd.underlying37 hf with ⟨h0, _⟩ | ⟨a, len, cap', m, n', D, Pl, hcs, hba, hl, hm, hmm, hx, hel⟩
  · have : Value.slice A n cap = .slice none 0 0 := by simpa [Value.cells] using h0
    injection this with e1 e2 e3
    exact .inl ⟨e1, e2, e3⟩
  · have : Value.slice A n cap = .slice (some a) len cap' := by simpa [Value.cells] using hcs
    injection this with e1 e2 e3
    subst e1 e2 e3
    rw [if_pos rfl] at hmm
    subst hmm
    rcases Nat.eq_zero_or_pos n with h0 | h0
    · exact .inr (.inl ⟨a, rfl, h0⟩)
    · have each : ∀ i, i < n → ∃ f : Bool × Int × Int, w.cell? (a.add (i * 3)) = some (.bool f.1) ∧ w.cell? ⟨(a.add (i * 3)).block, (a.add (i * 3)).off + 1, none⟩ = some (.int .i64 f.2.1) ∧ w.cell? ⟨(a.add (i * 3)).block, (a.add (i * 3)).off + 2, none⟩ = some (.int .i64 f.2.2) := by
        intro i hin
        obtain ⟨cs, h1, h2⟩ := hel i (by omega)
        rw [hc] at h1
        obtain ⟨_, h3, h4⟩ := World.cells?_some h1
        obtain ⟨y0, y1, y2, k, _, _, t0, t1, t2⟩ := trod_struct3 Tryd.underlying40 h2
        obtain ⟨c0, c1, c2, rfl⟩ := list_three cs h3
        simp only [hb, hi] at t0 t1 t2
        obtain ⟨b, g0, _⟩ := DataW.trod_bool Tryd.underlying4 t0
        obtain ⟨x, g1, _, _⟩ := DataW.trod_int Tryd.underlying3 t1
        obtain ⟨y, g2, _, _⟩ := DataW.trod_int Tryd.underlying3 t2
        simp at g0 g1 g2
        subst g0 g1 g2
        have q0 := h4 0 (by omega)
        have q1 := h4 1 (by omega)
        have q2 := h4 2 (by omega)
        exact ⟨(b, x, y), q0, q1, q2⟩
      obtain ⟨l, hll, hlp⟩ := list_of_each _ n each
      refine .inr (.inr ⟨a, l, rfl, hll, ⟨?_, hlp⟩, hl, hm⟩)
      obtain ⟨f, hf1, _, _⟩ := each 0 h0
      have := World.block_lt_of_cell? w _ hf1
      rwa [add_block] at this
end

end Go.Proofs.YtnngkpcikmbnmaaDoor

/-
  What the frames of layer 12's proofs ask besides: slices of numbers, and of pairs of numbers, opened.
-/
import Derived.Test.YtplnmkeopdmanaaCliBase
import Derived.ProofKit
import Derived.ChangeSlices
import Derived.Carry
import Derived.SizedLaws
namespace Go.Proofs.Ytplnmkeopdmanaa
open Go Go.ChangeShapes Go.WideShapes Go.ChangeAt Go.RowKit Go.Joins Go.Deep

structure IntsOk (w : World) (A : Option Addr) (c : Nat) (l : List Int) : Prop where
  row : Row w w.heap.size A l
  len : l.length ≤ c ∧ c ≤ maxLen
  wf : ∀ n ∈ l, (Lit.int .i64 n).wf = true

section
variable {H : Type} {enc : TypeId × Value → H} {w : World} {base : Nat} {held : Bool}
theorem open_ints_ok {v : Value} {d : DataW H} {p : List MemPlace} (hv : ∃ a n c, v = .slice a n c) (h : DataW.Trod enc Try.prog w base (fun _ => true) held 30 v d p) :
    ∃ (A : Option Addr) (c : Nat) (l : List Int), v = .slice A l.length c ∧ IntsOk w A c l := by
  obtain ⟨A, n, cap, rfl⟩ := hv
  obtain ⟨fuel, hf⟩ := h
  rcases open_ints Try.underlying30 Try.underlying3 (by kernel_rfl) hf with ⟨h0, _⟩ | ⟨a, len, cap', zs, hcs, hb, hl, hm, hz, hx, hcell, hwf⟩
  · have : Value.slice A n cap = .slice none 0 0 := by simpa [Value.cells] using h0
    injection this with e1 e2 e3
    subst e1 e2 e3
    exact ⟨none, 0, [], rfl, fun hn => absurd hn (by simp), ⟨Nat.le_refl _, by unfold maxLen; omega⟩, fun n hn => by cases hn⟩
  · have : Value.slice A n cap = .slice (some a) len cap' := by simpa [Value.cells] using hcs
    injection this with e1 e2 e3
    subst e1 e2 e3
    rw [if_pos rfl] at hz
    have hlen : (zs.take n).length = n := by rw [List.length_take]; omega
    have at_ : ∀ j x, (zs.take n)[j]? = some x → w.cell? (a.add j) = some (.int .i64 x) := fun j x hx => by
      have hj : j < n := by have := (List.getElem?_eq_some_iff.1 hx).1; omega
      rw [List.getElem?_take_of_lt hj] at hx
      rw [hcell j (by omega)]
      simp [List.getD, hx]
    refine ⟨some a, cap, zs.take n, by rw [hlen], fun hn => ⟨a, rfl, ?_, at_⟩, ⟨by omega, hm⟩, fun x hx => hwf x (List.mem_of_mem_take hx)⟩
    have h0 := World.block_lt_of_cell? w _ (at_ 0 _ (List.getElem?_eq_getElem hn))
    rwa [adb] at h0
end


/-- What holds of each of n things holds of a list's. -/
theorem list_of_each {α : Type} (P : Nat → α → Prop) : ∀ (n : Nat), (∀ i, i < n → ∃ f, P i f) → ∃ l : List α, l.length = n ∧ ∀ i f, l[i]? = some f → P i f
  | 0, _ => ⟨[], rfl, fun i f h => by cases h⟩
  | n + 1, h => by
    obtain ⟨l, hl, hp⟩ := list_of_each P n (fun i hi => h i (by omega))
    obtain ⟨f, hf⟩ := h n (by omega)
    refine ⟨l ++ [f], by rw [List.length_append, hl]; rfl, fun i g hg => ?_⟩
    rcases Nat.lt_trichotomy i n with h1 | h1 | h1
    · rw [List.getElem?_append_left (by omega)] at hg
      exact hp i g hg
    · subst h1
      rw [List.getElem?_append_right (by omega), hl, Nat.sub_self] at hg
      have : f = g := by simpa using hg
      rw [← this]; exact hf
    · rw [List.getElem?_eq_none (by rw [List.length_append, hl, List.length_singleton]; omega)] at hg
      cases hg

/-- Pairs of numbers as they lie in memory, below block B. -/
def At2 (w : World) (p : Addr) (s : Int × Int) : Prop := w.cell? p = some (.int .i64 s.1) ∧ w.cell? ⟨p.block, p.off + 1, none⟩ = some (.int .i64 s.2)
def Prs (w : World) (B : Nat) (A : Option Addr) (l : List (Int × Int)) : Prop :=
  0 < l.length → ∃ ad, A = some ad ∧ ad.block < B ∧ ∀ j s, l[j]? = some s → At2 w (ad.add (j * 2)) s
theorem Prs.below {w w' : World} {B B' : Nat} {A : Option Addr} {l : List (Int × Int)} (h : Prs w B A l) (hb : Below B' w w') (hB : B ≤ B') : Prs w' B A l := fun hn => by
  obtain ⟨ad, e, hk, hc⟩ := h hn
  refine ⟨ad, e, hk, fun j f hf => ?_⟩
  obtain ⟨h1, h2⟩ := hc j f hf
  exact ⟨(hb.cell (by rw [adb]; omega)).trans h1, (hb.cell (by show (ad.add (j * 2)).block < _; rw [adb]; omega)).trans h2⟩
structure PrsOk (w : World) (A : Option Addr) (c : Nat) (l : List (Int × Int)) : Prop where
  row : Prs w w.heap.size A l
  len : l.length ≤ c ∧ c ≤ maxLen
  wf : ∀ r ∈ l, (Lit.int .i64 r.1).wf = true ∧ (Lit.int .i64 r.2).wf = true

theorem list2 {α : Type} (l : List α) (h : l.length = 2) : ∃ a b, l = [a, b] := by
  match l, h with
  | [a, b], _ => exact ⟨a, b, rfl⟩

section
variable {H : Type} {enc : TypeId × Value → H} {w : World} {base : Nat} {held : Bool}
set_option maxRecDepth 100000 in
theorem open_pair_cells {spare : Nat → Bool} {fuel : Nat} {cs : List Value} {x : DataW H × List MemPlace} (hf : DataW.trod enc Try.prog w base spare held fuel 38 cs = some x) :
    ∃ s : Int × Int, cs = [.int .i64 s.1, .int .i64 s.2] ∧ (Lit.int .i64 s.1).wf = true ∧ (Lit.int .i64 s.2).wf = true := by
  have hc : Try.prog.cellsOf 38 = 2 := by kernel_rfl
  have hi : Try.prog.cellsOf 3 = 1 := by kernel_rfl
  obtain ⟨xs, n, _, hx, hl, hlen, hff⟩ := DataW.trod_array Try.underlying38 hf
  rw [hc] at hl
  obtain ⟨c0, c1, hcs⟩ := list2 _ hl
  obtain ⟨y0, y1, rfl⟩ := list2 xs hlen
  rw [hcs] at hff
  have f0 := hff 0 (by decide)
  have f1 := hff 1 (by decide)
  rw [hi] at f0 f1
  obtain ⟨a0, e0, r0, w0⟩ := DataW.trod_int Try.underlying3 f0
  obtain ⟨a1, e1, r1, w1⟩ := DataW.trod_int Try.underlying3 f1
  simp at e0 e1
  subst e0 e1
  exact ⟨(a0, a1), hcs, w0, w1⟩
set_option maxRecDepth 100000 in
theorem open_pairs {v : Value} {d : DataW H} {p : List MemPlace} (hv : ∃ a n c, v = .slice a n c) (h : DataW.Trod enc Try.prog w base (fun _ => true) held 37 v d p) :
    ∃ (A : Option Addr) (cap : Nat) (l : List (Int × Int)), v = .slice A l.length cap ∧ PrsOk w A cap l := by
  obtain ⟨A, n, cap, rfl⟩ := hv
  obtain ⟨fuel, hf⟩ := h
  have hc : Try.prog.cellsOf 38 = 2 := by kernel_rfl
  rcases open_slice Try.underlying37 hf with ⟨h0, _⟩ | ⟨a, len, cap', m, n', D, Pl, hcs, hba, hl, hm, hmm, hx, hel⟩
  · have : Value.slice A n cap = .slice none 0 0 := by simpa [Value.cells] using h0
    injection this with e1 e2 e3
    subst e1 e2 e3
    exact ⟨none, 0, [], rfl, fun h => absurd h (by simp), ⟨Nat.le_refl _, by unfold maxLen; omega⟩, fun r h => by cases h⟩
  · have : Value.slice A n cap = .slice (some a) len cap' := by simpa [Value.cells] using hcs
    injection this with e1 e2 e3
    subst e1 e2 e3
    rw [if_pos rfl] at hmm
    subst hmm
    have each : ∀ i, i < n → ∃ r : Int × Int, At2 w (a.add (i * 2)) r ∧ (Lit.int .i64 r.1).wf = true ∧ (Lit.int .i64 r.2).wf = true := by
      intro i hin
      obtain ⟨cs, h1, h2⟩ := hel i (by omega)
      rw [hc] at h1
      obtain ⟨_, h3, h4⟩ := World.cells?_some h1
      obtain ⟨r, hcs4, hw⟩ := open_pair_cells h2
      subst hcs4
      have q0 := h4 0 (by omega)
      have q1 := h4 1 (by omega)
      exact ⟨r, ⟨q0, q1⟩, hw⟩
    obtain ⟨l, hll, hlp⟩ := list_of_each _ n each
    subst hll
    refine ⟨some a, _, l, rfl, fun hn => ⟨a, rfl, ?_, fun j r hr => (hlp j r hr).1⟩, ⟨hl, hm⟩, fun r hr => ?_⟩
    · obtain ⟨r, hr, _⟩ := each 0 hn
      have := World.block_lt_of_cell? w _ hr.1
      rwa [adb] at this
    · obtain ⟨j, hj⟩ := List.getElem?_of_mem hr
      exact (hlp j r hj).2
end

end Go.Proofs.Ytplnmkeopdmanaa

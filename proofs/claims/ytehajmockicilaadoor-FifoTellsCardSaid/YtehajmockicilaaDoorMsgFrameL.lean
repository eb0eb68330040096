/-
  What the frames of layer 4's proofs ask besides: slices of messages, and of rows of six numbers, opened.
-/
import Derived.Test.YtehajmockicilaaDoorMsgFrame
import Derived.Test.YtehajmockicilaaDoorMsgRawL
namespace Go.Proofs.YtehajmockicilaaDoor
open Go Go.ChangeShapes Go.WideShapes Go.ChangeAt Go.RowKit Go.Joins Go.Deep

/-- What holds of each of n things holds of a list's. -/
theorem list_of_each {α : Type} (P : Nat → α → Prop) : ∀ (n : Nat), (∀ i, i < n → ∃ f, P i f) → ∃ l : List α, l.length = n ∧ ∀ i f, l[i]? = some f → P i f
  | 0, _ => ⟨[], rfl, fun i f h => by cases h⟩
  | n + 1, h => by
    obtain ⟨l, hl, hp⟩ := list_of_each P n (fun i hi => h i (by omega))
    obtain ⟨f, hf⟩ := h n (by omega)
    refine ⟨l ++ [f], by rw [List.length_append, hl]; rfl, fun i g hg => ?_⟩
    rcases Nat.lt_trichotomy i n with h1 | h1 | h1
    · rw [List.getElem?_append_left (by omega)] at hg
      exact hp i g hg
    · subst h1
      rw [List.getElem?_append_right (by omega), hl, Nat.sub_self] at hg
      have : f = g := by simpa using hg
      rw [← this]; exact hf
    · rw [List.getElem?_eq_none (by rw [List.length_append, hl, List.length_singleton]; omega)] at hg
      cases hg
theorem cell_add (w : World) (a : Addr) (k : Nat) (h : 0 < k) : w.cell? (a.add k) = w.cell? ⟨a.block, a.off + k, none⟩ := by rw [addr_off a k h]

section
variable {H : Type} {enc : TypeId × Value → H} {w : World} {base : Nat} {held : Bool}

set_option maxRecDepth 100000 in
theorem open_rows {v : Value} {d : DataW H} {p : List MemPlace} (hv : ∃ a n c, v = .slice a n c) (h : DataW.Trod enc Tryd.prog w base (fun _ => true) held 22 v d p) :
    ∃ (A : Option Addr) (cap : Nat) (l : List Raw), v = .slice A l.length cap ∧ RowsOk w A cap l := by
  obtain ⟨A, n, cap, rfl⟩ := hv
  obtain ⟨fuel, hf⟩ := h
  have hc : Tryd.prog.cellsOf 27 = 6 := by kernel_rfl
  rcases open_slice Tryd.underlying22 hf with ⟨h0, _⟩ | ⟨a, len, cap', m, n', D, Pl, hcs, hba, hl, hm, hmm, hx, hel⟩
  · have : Value.slice A n cap = .slice none 0 0 := by simpa [Value.cells] using h0
    injection this with e1 e2 e3
    subst e1 e2 e3
    exact ⟨none, 0, [], rfl, fun h => absurd h (by simp), ⟨Nat.le_refl _, by unfold maxLen; omega⟩, fun j r h => by cases h⟩
  · have : Value.slice A n cap = .slice (some a) len cap' := by simpa [Value.cells] using hcs
    injection this with e1 e2 e3
    subst e1 e2 e3
    rw [if_pos rfl] at hmm
    subst hmm
    have each : ∀ i, i < n → ∃ r : Raw, At6 w (a.add (i * 6)) r ∧ WfR r := by
      intro i hin
      obtain ⟨cs, h1, h2⟩ := hel i (by omega)
      rw [hc] at h1
      obtain ⟨_, h3, h4⟩ := World.cells?_some h1
      obtain ⟨r0, r1, r2, r3, r4, r5, hcs6, _, hw⟩ := open_six_cells h2
      subst hcs6
      have q0 := h4 0 (by omega)
      have q1 := h4 1 (by omega)
      have q2 := h4 2 (by omega)
      have q3 := h4 3 (by omega)
      have q4 := h4 4 (by omega)
      have q5 := h4 5 (by omega)
      exact ⟨⟨r0, r1, r2, r3, r4, r5⟩, ⟨q0, q1, q2, q3, q4, q5⟩, hw⟩
    obtain ⟨l, hll, hlp⟩ := list_of_each _ n each
    subst hll
    refine ⟨some a, _, l, rfl, fun hn => ⟨a, rfl, ?_, fun j r hr => (hlp j r hr).1⟩, ⟨hl, hm⟩, fun j r hr => (hlp j r hr).2⟩
    obtain ⟨r, hr, _⟩ := each 0 hn
    have := World.block_lt_of_cell? w _ hr.1
    rwa [adb] at this

theorem mem_weights (P : Program) (e : TypeId) : ∀ (l : List (DataW H)) (i : Nat) (d : DataW H), l[i]? = some d → ∀ n ∈ d.weights P e, n ∈ DataW.weightsAll P e l
  | [], _, _, h, _, _ => by cases h
  | x :: l, 0, d, h, n, hn => by
    have : x = d := by simpa using h
    subst this
    simp only [DataW.weightsAll, List.mem_append]
    exact .inl hn
  | x :: l, i + 1, d, h, n, hn => by
    simp only [DataW.weightsAll, List.mem_append]
    exact .inr (mem_weights P e l i d (by simpa using h) n hn)

set_option maxRecDepth 100000 in
theorem open_msgs {v : Value} {d : DataW H} {p : List MemPlace} (hv : ∃ a n c, v = .slice a n c) (h : DataW.Trod enc Tryd.prog w base (fun _ => true) held 28 v d p) :
    ∃ (A : Option Addr) (cap : Nat) (l : List Msg), v = .slice A l.length cap ∧ Msgs w w.heap.size A l ∧ (l.length ≤ cap ∧ cap ≤ maxLen) ∧ ∀ (j : Nat) (m : Msg), l[j]? = some m → m.data.size ∈ d.weights Tryd.prog 28 := by
  obtain ⟨A, n, cap, rfl⟩ := hv
  obtain ⟨fuel, hf⟩ := h
  have hc : Tryd.prog.cellsOf 26 = 7 := by kernel_rfl
  rcases open_slice Tryd.underlying28 hf with ⟨h0, _⟩ | ⟨a, len, cap', m, n', D, Pl, hcs, hba, hl, hm, hmm, hx, hel⟩
  · have : Value.slice A n cap = .slice none 0 0 := by simpa [Value.cells] using h0
    injection this with e1 e2 e3
    subst e1 e2 e3
    exact ⟨none, 0, [], rfl, fun h => absurd h (by simp), ⟨Nat.le_refl _, by unfold maxLen; omega⟩, fun j r h => by cases h⟩
  · have : Value.slice A n cap = .slice (some a) len cap' := by simpa [Value.cells] using hcs
    injection this with e1 e2 e3
    subst e1 e2 e3
    rw [if_pos rfl] at hmm
    subst hmm
    obtain ⟨sp, hd⟩ : ∃ sp, d = .slice ((List.range n).map D) sp := ⟨_, (Prod.ext_iff.1 hx).1⟩
    have each : ∀ i, i < n → ∃ r : Msg, At7 w (a.add (i * 7)) r ∧ D i = datM H r := by
      intro i hin
      obtain ⟨cs, h1, h2⟩ := hel i (by omega)
      rw [hc] at h1
      obtain ⟨_, h3, h4⟩ := World.cells?_some h1
      obtain ⟨r, hcs7, hy, hw⟩ := open_msg_cells h2
      subst hcs7
      have q0 := h4 0 (by omega)
      have q1 := h4 1 (by omega)
      have q2 := h4 2 (by omega)
      have q3 := h4 3 (by omega)
      have q4 := h4 4 (by omega)
      have q5 := h4 5 (by omega)
      have q6 := h4 6 (by omega)
      exact ⟨r, ⟨q0, q1, q2, q3, q4, q5, q6⟩, (Prod.ext_iff.1 hy).1⟩
    obtain ⟨l, hll, hlp⟩ := list_of_each _ n each
    subst hll
    refine ⟨some a, _, l, rfl, fun hn => ⟨a, rfl, ?_, fun j r hr => (hlp j r hr).1⟩, ⟨hl, hm⟩, fun j r hr => ?_⟩
    · obtain ⟨r, hr, _⟩ := each 0 hn
      have := World.block_lt_of_cell? w _ hr.1
      rwa [adb] at this
    · have hj := (List.getElem?_eq_some_iff.1 hr).1
      have hw : r.data.size ∈ (datM H r).weights Tryd.prog 26 := by
        have hu := Tryd.underlying26
        unfold datM
        rw [DataW.weights, hu]
        exact DataW.weights_mem_each (j := 5) (t := 9) (d := .lit (.string r.data.data.toList)) rfl rfl _ (by simp only [DataW.weights, List.mem_singleton]; exact Lib.size_eq r.data)
      rw [hd]
      simp only [DataW.weights, Tryd.underlying28, List.mem_cons, List.mem_append]
      refine .inr (.inl (mem_weights _ _ _ j (datM H r) ?_ _ hw))
      rw [List.getElem?_map, List.getElem?_range hj, Option.map_some, (hlp j r hr).2]
end

end Go.Proofs.YtehajmockicilaaDoor

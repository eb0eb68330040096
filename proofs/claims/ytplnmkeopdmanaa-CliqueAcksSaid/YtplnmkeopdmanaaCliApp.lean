/-
  'append(u, v...)' of two lists of numbers, u the call's own: as a step of a region of either kind.
-/
import Derived.Test.YtplnmkeopdmanaaCliBase
import Derived.Deep.RegionLaw
import Derived.Laws.OwnMore
namespace Go.Proofs.Ytplnmkeopdmanaa
open Go.RowKit

/-- A list that the call itself has made. -/
def Own (w : World) (B : Nat) (u : Value) (l : List Int) : Prop := w.ownsRow B 3 1 u l.length (l.map (Value.int .i64))
theorem Own.nil (w : World) (B : Nat) : Own w B (.slice none 0 0) [] := World.ownsRow_nil _ _ _ _

theorem run_app_none (w : World) (B : Nat) (ty : TypeId) (u : Value) (l : List Int) (c : Nat) (h : Own w B u l) :
    (Builtin.append_ #[30, 30] ty #[u, .slice none 0 c]).run Try.prog w = .ok u w := by
  obtain ⟨i0, hi, hz0, hz1, hz2⟩ := info_parts int_info
  have hu := Try.underlying30
  rcases h.2 with ⟨rfl, h0⟩ | ⟨g, cap, cur, rfl, _, _, hn, _⟩
  · simp [Builtin.append_, run_underlying hu, sizeOf, typeInfo, hi, Builtin.lenOf, Builtin.firstCells]
  · simp [Builtin.append_, run_underlying hu, sizeOf, typeInfo, hi, Builtin.lenOf, Builtin.firstCells, hn, storeCells]

set_option maxRecDepth 100000 in
theorem run_app (w : World) (B B' : Nat) (ty : TypeId) (u : Value) (l m : List Int) (A : Option Addr) (c : Nat) (h : Own w B u l) (hr : Row w B' A m) (hB : B ≤ w.heap.size) (hl : l.length + m.length ≤ 1000) :
    ∃ u' w', (Builtin.append_ #[30, 30] ty #[u, .slice A m.length c]).run Try.prog w = .ok u' w' ∧ Own w' B u' (l ++ m) ∧ w.grownBy w' u.ownBlock := by
  obtain ⟨i0, hi, hz0, hz1, hz2⟩ := info_parts int_info
  by_cases hm : m = []
  · subst hm
    cases A with
    | none => exact ⟨u, w, run_app_none w B ty u l c h, by rw [List.append_nil]; exact h, World.grownBy.refl w _⟩
    | some ad =>
      obtain ⟨u', w', h1, h2, h3, _⟩ := run_append_own_at (P := Try.prog) w B 30 ty 3 i0 _ 1 8 Try.underlying30 hi hz0 hz1 hz2 rfl (by decide) u _ _ h ad 0 c [] rfl (fun j x hx => by simp at hx) (fun x hx => by simp at hx) (by unfold maxLen; omega) (by omega) hB
      exact ⟨u', w', h1, by rw [List.append_nil]; unfold Own; simpa using h2, h3⟩
  · obtain ⟨ad, rfl, _, hc⟩ := hr (List.length_pos_iff.2 hm)
    obtain ⟨u', w', h1, h2, h3, _⟩ := run_append_own_at (P := Try.prog) w B 30 ty 3 i0 _ 1 8 Try.underlying30 hi hz0 hz1 hz2 rfl (by decide) u _ _ h ad m.length c (m.map (Value.int .i64)) (by simp)
      (fun j x hx => by
        rw [List.getElem?_map] at hx
        cases hy : m[j]? with
        | none => rw [hy] at hx; cases hx
        | some y =>
          rw [hy] at hx
          injection hx with hx
          rw [← hx]; exact hc j y hy)
      (fun x hx => by
        obtain ⟨y, _, rfl⟩ := List.mem_map.1 hx
        rfl) (by unfold maxLen; omega) (by omega) hB
    exact ⟨u', w', h1, by unfold Own; rw [List.length_append, List.map_append]; exact h2, h3⟩

section
variable {ops : Array Oper} {rest : List Oper} {o : Oper} {a : Act} {w : World} {K : Act → World → Prop} {Q : Exit → Act → World → Prop} {E : Prop}

set_option maxRecDepth 100000 in
theorem wp_app (s x : Operand) (ho : o.op = .call { callee := .builtin .append, args := #[s, x], argTypes := #[30, 30] })
    (B B' : Nat) (u : Value) (l m : List Int) (A : Option Addr) (c : Nat) (hs : a.eval s = u) (hx : a.eval x = .slice A m.length c) (h : Own w B u l) (hr : Row w B' A m) (hB : B ≤ w.heap.size) (hl : l.length + m.length ≤ 1000)
    (hK : ∀ u' w', Own w' B u' (l ++ m) → w.grownBy w' u.ownBlock → K (a.put o.dst u') w') : o.wp Try.prog a w K Q := by
  obtain ⟨u', w', hrun, h2, h3⟩ := run_app w B B' o.type u l m A c h hr hB hl
  unfold Oper.wp
  simp [execOp, ho, resolve, invoke, builtin, hs, hx, hrun, Result.andThen]
  exact hK u' w' h2 h3
theorem step_app (hg : o.guard = none) (s x : Operand) (ho : o.op = .call { callee := .builtin .append, args := #[s, x], argTypes := #[30, 30] })
    (B B' : Nat) (u : Value) (l m : List Int) (A : Option Addr) (c : Nat) (hs : a.eval s = u) (hx : a.eval x = .slice A m.length c) (h : Own w B u l) (hr : Row w B' A m) (hB : B ≤ w.heap.size) (hl : l.length + m.length ≤ 1000)
    (hK : ∀ u' w', Own w' B u' (l ++ m) → w.grownBy w' u.ownBlock → K (a.put o.dst u') w') : if Region.wanted o (yielded ops a.tmps) = true then Oper.wp Try.prog o a w K Q else E := by
  rw [if_pos (by simp [Region.wanted, hg])]
  exact wp_app s x ho B B' u l m A c hs hx h hr hB hl hK
theorem list_app (hw : Region.wanted o (yielded ops a.tmps) = true) (s x : Operand) (ho : o.op = .call { callee := .builtin .append, args := #[s, x], argTypes := #[30, 30] })
    (B B' : Nat) (u : Value) (l m : List Int) (A : Option Addr) (c : Nat) (hs : a.eval s = u) (hx : a.eval x = .slice A m.length c) (h : Own w B u l) (hr : Row w B' A m) (hB : B ≤ w.heap.size) (hl : l.length + m.length ≤ 1000)
    (hK : ∀ u' w', Own w' B u' (l ++ m) → w.grownBy w' u.ownBlock → wpList Try.prog ops Q rest (a.put o.dst u') w') : wpList Try.prog ops Q (o :: rest) a w :=
  wpList_step fun K hK' => by
    rw [if_pos hw]
    exact wp_app s x ho B B' u l m A c hs hx h hr hB hl fun u' w' h1 h2 => hK' _ _ (hK u' w' h1 h2)
end

theorem Own.row {w : World} {B : Nat} {u : Value} {l : List Int} (h : Own w B u l) : ∃ A c, u = .slice A l.length c ∧ l.length ≤ c ∧ Row w w.heap.size A l := Row.of_own h
theorem Own.below {w w' : World} {B : Nat} {u : Value} {l : List Int} (h : Own w B u l) (hg : w.grownBy w' u.ownBlock) (hB : B ≤ w.heap.size) : Below B w w' :=
  (Below.refl B w).grown hg hB fun g e => (World.ownsRow.lt h g e).1

theorem Own.on {w w' : World} {B : Nat} {u : Value} {l : List Int} (h : Own w B u l) (hb : Below w.heap.size w w') : Own w' B u l := by
  refine ⟨h.1, h.2.imp id ?_⟩
  rintro ⟨g, cap, cur, e1, e2, e3, e4⟩
  exact ⟨g, cap, cur, e1, e2, (hb.block g (Array.getElem?_eq_some_iff.1 e3).1).trans e3, e4⟩
theorem Own.more {w : World} {B B' : Nat} {u : Value} {l : List Int} (h : Own w B u l) (hB : B' ≤ B) : Own w B' u l :=
  ⟨h.1, h.2.imp id (by rintro ⟨g, cap, cur, k1, k2, k3⟩; exact ⟨g, cap, cur, k1, by omega, k3⟩)⟩

end Go.Proofs.Ytplnmkeopdmanaa

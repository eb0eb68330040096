/-
  'append(u, v...)' of two lists of messages, u the call's own: as a step of a region of either kind.
-/
import Derived.Test.YtehajmockicilaaDoorMsgList
import Derived.Maps.AppendAt
import Derived.Laws.OwnMore
namespace Go.Proofs.YtehajmockicilaaDoor
open Go.RowKit

/-- A list's cells. -/
def mcl (m : Msg) : List Value := [.bool m.ext, .int .i64 m.n, .int .i64 m.sender, .int .i64 m.inc, .int .i64 m.seq, .int .i64 m.number, .string m.data]
def lcl (l : List Msg) : List Value := l.flatMap mcl
set_option maxRecDepth 100000 in
theorem lcl_length (l : List Msg) : (lcl l).length = l.length * 7 := by
  induction l with
  | nil => rfl
  | cons m l ih =>
    show (mcl m ++ lcl l).length = (l.length + 1) * 7
    rw [List.length_append, ih]
    show 7 + _ = _
    omega
theorem lcl_append (a b : List Msg) : lcl (a ++ b) = lcl a ++ lcl b := List.flatMap_append
set_option maxRecDepth 100000 in
theorem lcl_at : ∀ (l : List Msg) (j k : Nat), k < 7 → (lcl l)[j * 7 + k]? = (l[j]?).bind fun m => (mcl m)[k]?
  | [], j, k, hk => by simp [lcl]
  | m :: l, 0, k, hk => by
    show (mcl m ++ lcl l)[0 * 7 + k]? = _
    rw [Nat.zero_mul, Nat.zero_add, List.getElem?_append_left (by show k < 7; exact hk)]
    rfl
  | m :: l, j + 1, k, hk => by
    show (mcl m ++ lcl l)[(j + 1) * 7 + k]? = _
    rw [List.getElem?_append_right (by show 7 ≤ _; omega)]
    show (lcl l)[(j + 1) * 7 + k - 7]? = _
    rw [show (j + 1) * 7 + k - 7 = j * 7 + k by omega, lcl_at l j k hk]
    rfl

theorem msg_info : (Tryd.prog.info? 26).map (fun i => (i.zero, i.size, i.bytes)) = some (some (mv zeroM), 7, 64) := by kernel_rfl

/-- A list that the call itself has made. -/
def OwnM (w : World) (B : Nat) (u : Value) (l : List Msg) : Prop := w.ownsRow B 26 7 u l.length (lcl l)
theorem OwnM.nil (w : World) (B : Nat) : OwnM w B (.slice none 0 0) [] := World.ownsRow_nil _ _ _ _

theorem addr_off (p : Addr) (k : Nat) (h : 0 < k) : p.add k = ⟨p.block, p.off + k, none⟩ := by
  unfold Addr.add
  rw [if_neg (by omega)]
set_option maxRecDepth 100000 in
/-- Its cells, one by one. -/
theorem At7.cell {w : World} {p : Addr} {m : Msg} (h : At7 w p m) (k : Nat) (v : Value) (hv : (mcl m)[k]? = some v) : w.cell? (p.add k) = some v := by
  obtain ⟨h0, h1, h2, h3, h4, h5, h6⟩ := h
  have hk : k < 7 := (List.getElem?_eq_some_iff.1 hv).1
  rcases (show k = 0 ∨ k = 1 ∨ k = 2 ∨ k = 3 ∨ k = 4 ∨ k = 5 ∨ k = 6 by omega) with rfl | rfl | rfl | rfl | rfl | rfl | rfl
  · have e : p.add 0 = p := by unfold Addr.add; rfl
    rw [e, h0]; simpa [mcl] using hv
  · rw [addr_off p 1 (by omega), h1]; simpa [mcl] using hv
  · rw [addr_off p 2 (by omega), h2]; simpa [mcl] using hv
  · rw [addr_off p 3 (by omega), h3]; simpa [mcl] using hv
  · rw [addr_off p 4 (by omega), h4]; simpa [mcl] using hv
  · rw [addr_off p 5 (by omega), h5]; simpa [mcl] using hv
  · rw [addr_off p 6 (by omega), h6]; simpa [mcl] using hv
set_option maxRecDepth 100000 in
theorem At7.of_cells {w : World} {p : Addr} {m : Msg} (h : ∀ k v, (mcl m)[k]? = some v → w.cell? (p.add k) = some v) : At7 w p m := by
  have e : p.add 0 = p := by unfold Addr.add; rfl
  have h0 := h 0 _ rfl
  rw [e] at h0
  have g : ∀ k, 0 < k → ∀ v, (mcl m)[k]? = some v → w.cell? ⟨p.block, p.off + k, none⟩ = some v := fun k hk v hv => by rw [← addr_off p k hk]; exact h k v hv
  exact ⟨h0, g 1 (by omega) _ rfl, g 2 (by omega) _ rfl, g 3 (by omega) _ rfl, g 4 (by omega) _ rfl, g 5 (by omega) _ rfl, g 6 (by omega) _ rfl⟩
set_option maxRecDepth 100000 in
theorem OwnM.row {w : World} {B : Nat} {u : Value} {l : List Msg} (h : OwnM w B u l) : ∃ A c, u = .slice A l.length c ∧ l.length ≤ c ∧ Msgs w w.heap.size A l := by
  have hh := h
  rcases h.2 with ⟨rfl, h0⟩ | ⟨g, cap, cur, rfl, hb, hr, hn, hm, hs, ht⟩
  · exact ⟨none, 0, by rw [h0], by omega, fun hn => absurd hn (by omega)⟩
  · refine ⟨_, cap, rfl, hn, fun _ => ⟨_, rfl, (Array.getElem?_eq_some_iff.1 hr).1, fun j m hm => At7.of_cells fun k v hv => ?_⟩⟩
    have hk : k < 7 := (List.getElem?_eq_some_iff.1 hv).1
    have hj : (lcl l)[j * 7 + k]? = some v := by rw [lcl_at l j k hk, hm]; exact hv
    rw [Go.Deep.add_add]
    exact World.ownsRow.cells hh (g := g) rfl _ _ hj
theorem OwnM.below {w w' : World} {B : Nat} {u : Value} {l : List Msg} (h : OwnM w B u l) (hg : w.grownBy w' u.ownBlock) (hB : B ≤ w.heap.size) : Below B w w' :=
  (Below.refl B w).grown hg hB fun g e => (World.ownsRow.lt h g e).1
theorem OwnM.on {w w' : World} {B : Nat} {u : Value} {l : List Msg} (h : OwnM w B u l) (hb : Below w.heap.size w w') : OwnM w' B u l := by
  refine ⟨h.1, h.2.imp id ?_⟩
  rintro ⟨g, cap, cur, e1, e2, e3, e4⟩
  exact ⟨g, cap, cur, e1, e2, (hb.block g (Array.getElem?_eq_some_iff.1 e3).1).trans e3, e4⟩
theorem OwnM.base {w : World} {B B' : Nat} {u : Value} {l : List Msg} (h : OwnM w B u l) (hB : B' ≤ B) : OwnM w B' u l := by
  refine ⟨h.1, h.2.imp id ?_⟩
  rintro ⟨g, cap, cur, e1, e2, e3⟩
  exact ⟨g, cap, cur, e1, by omega, e3⟩

set_option maxRecDepth 100000 in
theorem run_appM_none (w : World) (B : Nat) (ty : TypeId) (u : Value) (l : List Msg) (c : Nat) (h : OwnM w B u l) :
    (Builtin.append_ #[28, 28] ty #[u, .slice none 0 c]).run Tryd.prog w = .ok u w := by
  obtain ⟨i0, hi, hz0, hz1, hz2⟩ := info_parts msg_info
  have hu := Tryd.underlying28
  rcases h.2 with ⟨rfl, h0⟩ | ⟨g, cap, cur, rfl, _, _, hn, _⟩
  · simp [Builtin.append_, run_underlying hu, sizeOf, typeInfo, hi, Builtin.lenOf, Builtin.firstCells]
  · simp [Builtin.append_, run_underlying hu, sizeOf, typeInfo, hi, Builtin.lenOf, Builtin.firstCells, hn, storeCells]

set_option maxRecDepth 100000 in
theorem run_appM (w : World) (B B' : Nat) (ty : TypeId) (u : Value) (l m : List Msg) (A : Option Addr) (c : Nat) (h : OwnM w B u l) (hr : Msgs w B' A m) (hB : B ≤ w.heap.size) (hl : l.length + m.length ≤ 1000) :
    ∃ u' w', (Builtin.append_ #[28, 28] ty #[u, .slice A m.length c]).run Tryd.prog w = .ok u' w' ∧ OwnM w' B u' (l ++ m) ∧ w.grownBy w' u.ownBlock := by
  obtain ⟨i0, hi, hz0, hz1, hz2⟩ := info_parts msg_info
  by_cases hm : m = []
  · subst hm
    cases A with
    | none => exact ⟨u, w, run_appM_none w B ty u l c h, by rw [List.append_nil]; exact h, World.grownBy.refl w _⟩
    | some ad =>
      obtain ⟨u', w', h1, h2, h3, _⟩ := run_append_own_at (P := Tryd.prog) w B 28 ty 26 i0 _ 7 64 Tryd.underlying28 hi hz0 hz1 hz2 rfl (by decide) u _ _ h ad 0 c [] rfl (fun j x hx => by simp at hx) (fun x hx => by simp at hx) (by unfold maxLen; omega) (by omega) hB
      exact ⟨u', w', h1, by rw [List.append_nil]; unfold OwnM; simpa using h2, h3⟩
  · obtain ⟨ad, rfl, _, hc⟩ := hr (List.length_pos_iff.2 hm)
    obtain ⟨u', w', h1, h2, h3, _⟩ := run_append_own_at (P := Tryd.prog) w B 28 ty 26 i0 _ 7 64 Tryd.underlying28 hi hz0 hz1 hz2 rfl (by decide) u _ _ h ad m.length c (lcl m) (lcl_length m)
      (fun j x hx => by
        have hj : j < (lcl m).length := (List.getElem?_eq_some_iff.1 hx).1
        rw [lcl_length] at hj
        have e : j = j / 7 * 7 + j % 7 := by omega
        rw [e, lcl_at m _ _ (Nat.mod_lt _ (by omega))] at hx
        cases hy : m[j / 7]? with
        | none => rw [hy] at hx; cases hx
        | some y =>
          rw [hy] at hx
          have := (hc _ y hy).cell (j % 7) x hx
          rw [Go.Deep.add_add, ← e] at this
          exact this)
      (fun x hx => by
        obtain ⟨y, _, hy⟩ := List.mem_flatMap.1 hx
        simp [mcl] at hy
        rcases hy with rfl | rfl | rfl | rfl | rfl | rfl | rfl <;> rfl) (by unfold maxLen; omega) (by omega) hB
    exact ⟨u', w', h1, by unfold OwnM; rw [List.length_append, lcl_append]; exact h2, h3⟩

section
variable {ops : Array Oper} {rest : List Oper} {o : Oper} {a : Act} {w : World} {K : Act → World → Prop} {Q : Exit → Act → World → Prop}

set_option maxRecDepth 100000 in
theorem wp_appM (s x : Operand) (ho : o.op = .call { callee := .builtin .append, args := #[s, x], argTypes := #[28, 28] })
    (B B' : Nat) (u : Value) (l m : List Msg) (A : Option Addr) (c : Nat) (hs : a.eval s = u) (hx : a.eval x = .slice A m.length c) (h : OwnM w B u l) (hr : Msgs w B' A m) (hB : B ≤ w.heap.size) (hl : l.length + m.length ≤ 1000)
    (hK : ∀ u' w', OwnM w' B u' (l ++ m) → w.grownBy w' u.ownBlock → K (a.put o.dst u') w') : o.wp Tryd.prog a w K Q := by
  obtain ⟨u', w', hrun, h2, h3⟩ := run_appM w B B' o.type u l m A c h hr hB hl
  unfold Oper.wp
  simp [execOp, ho, resolve, invoke, builtin, hs, hx, hrun, Result.andThen]
  exact hK u' w' h2 h3
set_option maxRecDepth 100000 in
theorem list_appM (hw : Region.wanted o (yielded ops a.tmps) = true) (s x : Operand) (ho : o.op = .call { callee := .builtin .append, args := #[s, x], argTypes := #[28, 28] })
    (B B' : Nat) (u : Value) (l m : List Msg) (A : Option Addr) (c : Nat) (hs : a.eval s = u) (hx : a.eval x = .slice A m.length c) (h : OwnM w B u l) (hr : Msgs w B' A m) (hB : B ≤ w.heap.size) (hl : l.length + m.length ≤ 1000)
    (hK : ∀ u' w', OwnM w' B u' (l ++ m) → w.grownBy w' u.ownBlock → wpList Tryd.prog ops Q rest (a.put o.dst u') w') : wpList Tryd.prog ops Q (o :: rest) a w :=
  wpList_step fun K hK' => by
    rw [if_pos hw]
    exact wp_appM s x ho B B' u l m A c hs hx h hr hB hl fun u' w' h1 h2 => hK' _ _ (hK u' w' h1 h2)
end

end Go.Proofs.YtehajmockicilaaDoor

/-
  Lists of slots that the call itself has made: append to them, store into them; worlds in which nothing but some blocks was written.
-/
import Derived.Test.YtmklabdfalkldaaSchRefL
import Derived.Maps.AppendAt
import Derived.Laws.OwnMore
namespace Go.Proofs.Ytmklabdfalkldaa
open Go.RowKit

/-- A world in which nothing but blocks of P was written. -/
structure Touch (P : Nat → Prop) (w w' : World) : Prop where
  os : w'.os = w.os
  tape : w'.tape = w.tape
  output : w'.output = w.output
  size : w.heap.size ≤ w'.heap.size
  block : ∀ k, k < w.heap.size → ¬ P k → w'.heap[k]? = w.heap[k]?
theorem Touch.refl (P : Nat → Prop) (w : World) : Touch P w w := ⟨rfl, rfl, rfl, Nat.le_refl _, fun _ _ _ => rfl⟩
theorem Touch.trans {P : Nat → Prop} {a b c : World} (h : Touch P a b) (k : Touch P b c) : Touch P a c :=
  ⟨k.os.trans h.os, k.tape.trans h.tape, k.output.trans h.output, Nat.le_trans h.size k.size, fun i hi hp => (k.block i (Nat.lt_of_lt_of_le hi h.size) hp).trans (h.block i hi hp)⟩
theorem Touch.of {P : Nat → Prop} {a b : World} (h : Below a.heap.size a b) : Touch P a b := ⟨h.os, h.tape, h.output, h.size, fun i hi _ => h.block i hi⟩
theorem Touch.setCell {P : Nat → Prop} {a b : World} (h : Touch P a b) (p : Addr) (hp : P p.block) (v : Value) : Touch P a (b.setCell p v) :=
  ⟨h.os, h.tape, h.output, by simpa using h.size, fun i hi hn => (Below.heap_setCell _ _ _ _ (fun e => hn (by rw [e]; exact hp))).trans (h.block i hi hn)⟩
theorem Touch.below {P : Nat → Prop} {a b : World} (h : Touch P a b) (B : Nat) (hB : B ≤ a.heap.size) (hp : ∀ k, P k → B ≤ k) : Below B a b :=
  ⟨h.os, h.tape, h.output, h.size, fun i hi => h.block i (Nat.lt_of_lt_of_le hi hB) fun e => absurd (hp i e) (by omega)⟩
theorem Touch.grown {P : Nat → Prop} {a b c : World} {o : Option Nat} (h : Touch P a b) (hg : b.grownBy c o) (ho : ∀ g, o = some g → a.heap.size ≤ g) : Touch P a c := by
  have hb := (Below.refl a.heap.size b).grown hg h.size ho
  exact ⟨hb.os.trans h.os, hb.tape.trans h.tape, hb.output.trans h.output, Nat.le_trans h.size hb.size, fun i hi hp => (hb.block i hi).trans (h.block i hi hp)⟩

theorem ownsRow_below {w w' : World} {B : Nat} {e : TypeId} {size n : Nat} {u : Value} {xs : List Value} (h : w.ownsRow B e size u n xs) (hg : w.grownBy w' u.ownBlock) (hB : B ≤ w.heap.size) : Below B w w' :=
  (Below.refl B w).grown hg hB fun g e => (World.ownsRow.lt h g e).1
theorem ownsRow_on {w w' : World} {B : Nat} {e : TypeId} {size n : Nat} {u : Value} {xs : List Value} (h : w.ownsRow B e size u n xs) (hb : Below w.heap.size w w') : w'.ownsRow B e size u n xs := by
  refine ⟨h.1, h.2.imp id ?_⟩
  rintro ⟨g, cap, cur, e1, e2, e3, e4⟩
  exact ⟨g, cap, cur, e1, e2, (hb.block g (Array.getElem?_eq_some_iff.1 e3).1).trans e3, e4⟩
theorem own_more {w : World} {B B' : Nat} {e : TypeId} {k n : Nat} {u : Value} {xs : List Value} (h : w.ownsRow B e k u n xs) (hB : B' ≤ B) : w.ownsRow B' e k u n xs :=
  ⟨h.1, h.2.imp id (by rintro ⟨g, cap, cur, k1, k2, k3⟩; exact ⟨g, cap, cur, k1, by omega, k3⟩)⟩
theorem own_far {w w' : World} {B : Nat} {e : TypeId} {k n : Nat} {u : Value} {xs : List Value} (h : w.ownsRow B e k u n xs) (hk : ∀ g, u.ownBlock = some g → w'.heap[g]? = w.heap[g]?) : w'.ownsRow B e k u n xs := by
  refine ⟨h.1, h.2.imp id ?_⟩
  rintro ⟨g, cap, cur, rfl, e2, e3, e4⟩
  exact ⟨g, cap, cur, rfl, e2, (hk g rfl).trans e3, e4⟩
/-- A row of one type lies in no block of another. -/
theorem own_apart {w : World} {B : Nat} {e : TypeId} {k n : Nat} {u : Value} {xs : List Value} (h : w.ownsRow B e k u n xs) {b : Nat} {cs : Array Value} {T : TypeId} (hb : w.heap[b]? = some (.cells cs T (0, 0))) (hT : T ≠ e) : ∀ g, u.ownBlock = some g → g ≠ b := by
  intro g hg hgb
  subst hgb
  rcases h.2 with ⟨rfl, _⟩ | ⟨g', cap, cur, rfl, _, hh, _⟩
  · cases hg
  · have e1 : g' = g := by simpa [Value.ownBlock] using hg
    subst e1
    rw [hb] at hh
    injection hh with hh
    injection hh with h1 h2
    exact hT h2

/-! ## Slots -/
def slc (s : Int × Int) : List Value := [.int .i64 s.1, .int .i64 s.2]
def slcs (l : Pl) : List Value := l.flatMap slc
theorem slcs_length (l : Pl) : (slcs l).length = l.length * 2 := by
  induction l with
  | nil => rfl
  | cons m l ih =>
    show (slc m ++ slcs l).length = (l.length + 1) * 2
    rw [List.length_append, ih]
    show 2 + _ = _
    omega
theorem slcs_append (a b : Pl) : slcs (a ++ b) = slcs a ++ slcs b := List.flatMap_append
theorem slcs_at : ∀ (l : Pl) (j k : Nat), k < 2 → (slcs l)[j * 2 + k]? = (l[j]?).bind fun m => (slc m)[k]?
  | [], j, k, hk => by simp [slcs]
  | m :: l, 0, k, hk => by
    show (slc m ++ slcs l)[0 * 2 + k]? = _
    rw [Nat.zero_mul, Nat.zero_add, List.getElem?_append_left (by show k < 2; exact hk)]
    rfl
  | m :: l, j + 1, k, hk => by
    show (slc m ++ slcs l)[(j + 1) * 2 + k]? = _
    rw [List.getElem?_append_right (by show 2 ≤ _; omega)]
    show (slcs l)[(j + 1) * 2 + k - 2]? = _
    rw [show (j + 1) * 2 + k - 2 = j * 2 + k by omega, slcs_at l j k hk]
    rfl
theorem sl_info : (Try.prog.info? 45).map (fun i => (i.zero, i.size, i.bytes)) = some (some (.agg #[.int .i64 0, .int .i64 0]), 2, 16) := by kernel_rfl
/-- A list of slots that the call itself has made. -/
def OwnL (w : World) (B : Nat) (u : Value) (l : Pl) : Prop := w.ownsRow B 45 2 u l.length (slcs l)
theorem OwnL.nil (w : World) (B : Nat) : OwnL w B (.slice none 0 0) [] := World.ownsRow_nil _ _ _ _
theorem addr_off (p : Addr) (k : Nat) (h : 0 < k) : p.add k = ⟨p.block, p.off + k, none⟩ := by
  unfold Addr.add
  rw [if_neg (by omega)]
theorem addr_zero (p : Addr) : p.add 0 = p := by unfold Addr.add; rfl
theorem At2.cell {w : World} {p : Addr} {s : Int × Int} (h : At2 w p s) (k : Nat) (v : Value) (hv : (slc s)[k]? = some v) : w.cell? (p.add k) = some v := by
  obtain ⟨h0, h1⟩ := h
  have hk : k < 2 := (List.getElem?_eq_some_iff.1 hv).1
  rcases (show k = 0 ∨ k = 1 by omega) with rfl | rfl
  · rw [addr_zero, h0]; simpa [slc] using hv
  · rw [addr_off p 1 (by omega), h1]; simpa [slc] using hv
theorem At2.of_cells {w : World} {p : Addr} {s : Int × Int} (h : ∀ k v, (slc s)[k]? = some v → w.cell? (p.add k) = some v) : At2 w p s := by
  have h0 := h 0 _ rfl
  rw [addr_zero] at h0
  exact ⟨h0, by rw [← addr_off p 1 (by omega)]; exact h 1 _ rfl⟩
theorem OwnL.row {w : World} {B : Nat} {u : Value} {l : Pl} (h : OwnL w B u l) : ∃ A c, u = .slice A l.length c ∧ l.length ≤ c ∧ Sls w w.heap.size A l := by
  have hh := h
  rcases h.2 with ⟨rfl, h0⟩ | ⟨g, cap, cur, rfl, hb, hr, hn, hm, hs, ht⟩
  · exact ⟨none, 0, by rw [h0], by omega, fun hn => absurd hn (by omega)⟩
  · refine ⟨_, cap, rfl, hn, fun _ => ⟨_, rfl, (Array.getElem?_eq_some_iff.1 hr).1, fun j m hm => At2.of_cells fun k v hv => ?_⟩⟩
    have hk : k < 2 := (List.getElem?_eq_some_iff.1 hv).1
    have hj : (slcs l)[j * 2 + k]? = some v := by rw [slcs_at l j k hk, hm]; exact hv
    rw [Go.Deep.add_add]
    exact World.ownsRow.cells hh (g := g) rfl _ _ hj
/-- What a slice is, that holds a list of the call's own. -/
theorem OwnL.slice {w : World} {B n c : Nat} {A : Option Addr} {l : Pl} (h : OwnL w B (.slice A n c) l) : n = l.length ∧ Sls w w.heap.size A l := by
  obtain ⟨A', c', e, -, h'⟩ := h.row
  injection e with e1 e2 e3
  subst e1
  exact ⟨e2, h'⟩
theorem slcs_set (l : Pl) (j k : Nat) (hk : k < 2) (s : Int × Int) (v : Value) (s' : Int × Int) (hs : l[j]? = some s) (hv : (slc s).set k v = slc s') : (slcs l).set (j * 2 + k) v = slcs (l.set j s') := by
  induction l generalizing j with
  | nil => simp at hs
  | cons m l ih =>
    cases j with
    | zero =>
      have e : m = s := by simpa using hs
      subst e
      show (slc m ++ slcs l).set (0 * 2 + k) v = slc s' ++ slcs l
      rw [Nat.zero_mul, Nat.zero_add, List.set_append_left _ _ (by show k < 2; exact hk), hv]
    | succ j =>
      show (slc m ++ slcs l).set ((j + 1) * 2 + k) v = slc m ++ slcs (l.set j s')
      rw [List.set_append_right _ _ (by show 2 ≤ _; omega)]
      show slc m ++ (slcs l).set ((j + 1) * 2 + k - 2) v = _
      rw [show (j + 1) * 2 + k - 2 = j * 2 + k by omega, ih j (by simpa using hs)]
/-- What there is, if there is one slot or more; and what a store makes of it. -/
theorem OwnL.one {w : World} {B : Nat} {u : Value} {l : Pl} (h : OwnL w B u l) (hl : 0 < l.length) : ∃ g c, u = .slice (some ⟨g, 0, none⟩) l.length c ∧ B ≤ g ∧ g < w.heap.size ∧ l.length ≤ c ∧ Sls w w.heap.size (some ⟨g, 0, none⟩) l ∧ (∀ j, w.frozen? ⟨g, j, none⟩ = false) ∧
    ∀ (j : Nat) (s s' : Int × Int) (k : Nat) (v : Value), k < 2 → l[j]? = some s → (slc s).set k v = slc s' → OwnL (w.setCell ⟨g, j * 2 + k, none⟩ v) B u (l.set j s') := by
  have hh := h
  obtain ⟨A, c, e, hc, hS⟩ := h.row
  rcases h.2 with ⟨rfl, h0⟩ | ⟨g, cap, cur, rfl, hb, hr, hn, hm, hs, ht⟩
  · omega
  · have hlt := (Array.getElem?_eq_some_iff.1 hr).1
    injection e with e1 e2 e3
    subst e1 e3
    refine ⟨g, cap, rfl, hb, hlt, hn, hS, fun j => World.ownsRow.frozenAt hh j, fun j s s' k v hk hs hv => ?_⟩
    have := World.ownsRow.stored hh (j * 2 + k) v
    unfold OwnL
    rw [List.length_set, ← slcs_set l j k hk s v s' hs hv]
    exact this.1

set_option maxRecDepth 100000 in
theorem run_appL (w : World) (B B' : Nat) (ty : TypeId) (u : Value) (l m : Pl) (A : Option Addr) (c : Nat) (h : OwnL w B u l) (hr : Sls w B' A m) (hm : m ≠ []) (hB : B ≤ w.heap.size) (hl : l.length + m.length ≤ 1000) :
    ∃ u' w', (Builtin.append_ #[23, 23] ty #[u, .slice A m.length c]).run Try.prog w = .ok u' w' ∧ OwnL w' B u' (l ++ m) ∧ w.grownBy w' u.ownBlock := by
  obtain ⟨i0, hi, hz0, hz1, hz2⟩ := info_parts sl_info
  obtain ⟨ad, rfl, _, hc⟩ := hr (List.length_pos_iff.2 hm)
  obtain ⟨u', w', h1, h2, h3, _⟩ := run_append_own_at (P := Try.prog) w B 23 ty 45 i0 _ 2 16 Try.underlying23 hi hz0 hz1 hz2 rfl (by decide) u _ _ h ad m.length c (slcs m) (slcs_length m)
    (fun j x hx => by
      have hj : j < (slcs m).length := (List.getElem?_eq_some_iff.1 hx).1
      rw [slcs_length] at hj
      have e : j = j / 2 * 2 + j % 2 := by omega
      rw [e, slcs_at m _ _ (Nat.mod_lt _ (by omega))] at hx
      cases hy : m[j / 2]? with
      | none => rw [hy] at hx; cases hx
      | some y =>
        rw [hy] at hx
        have := (hc _ y hy).cell (j % 2) x hx
        rw [Go.Deep.add_add, ← e] at this
        exact this)
    (fun x hx => by
      obtain ⟨y, _, hy⟩ := List.mem_flatMap.1 hx
      simp [slc] at hy
      rcases hy with rfl | rfl <;> rfl) (by unfold maxLen; omega) (by omega) hB
  exact ⟨u', w', h1, by unfold OwnL; rw [List.length_append, slcs_append]; exact h2, h3⟩

section
variable {ops : Array Oper} {rest : List Oper} {o : Oper} {a : Act} {w : World} {K : Act → World → Prop} {Q : Exit → Act → World → Prop}
set_option maxRecDepth 100000 in
theorem wp_appL (s x : Operand) (ho : o.op = .call { callee := .builtin .append, args := #[s, x], argTypes := #[23, 23] })
    (B B' : Nat) (u : Value) (l m : Pl) (A : Option Addr) (c : Nat) (hs : a.eval s = u) (hx : a.eval x = .slice A m.length c) (h : OwnL w B u l) (hr : Sls w B' A m) (hm : m ≠ []) (hB : B ≤ w.heap.size) (hl : l.length + m.length ≤ 1000)
    (hK : ∀ u' w', OwnL w' B u' (l ++ m) → w.grownBy w' u.ownBlock → K (a.put o.dst u') w') : o.wp Try.prog a w K Q := by
  obtain ⟨u', w', hrun, h2, h3⟩ := run_appL w B B' o.type u l m A c h hr hm hB hl
  unfold Oper.wp
  simp [execOp, ho, resolve, invoke, builtin, hs, hx, hrun, Result.andThen]
  exact hK u' w' h2 h3
set_option maxRecDepth 100000 in
theorem list_appL (hw : Region.wanted o (yielded ops a.tmps) = true) (s x : Operand) (ho : o.op = .call { callee := .builtin .append, args := #[s, x], argTypes := #[23, 23] })
    (B B' : Nat) (u : Value) (l m : Pl) (A : Option Addr) (c : Nat) (hs : a.eval s = u) (hx : a.eval x = .slice A m.length c) (h : OwnL w B u l) (hr : Sls w B' A m) (hm : m ≠ []) (hB : B ≤ w.heap.size) (hl : l.length + m.length ≤ 1000)
    (hK : ∀ u' w', OwnL w' B u' (l ++ m) → w.grownBy w' u.ownBlock → wpList Try.prog ops Q rest (a.put o.dst u') w') : wpList Try.prog ops Q (o :: rest) a w :=
  wpList_step fun K hK' => by
    rw [if_pos hw]
    exact wp_appL s x ho B B' u l m A c hs hx h hr hm hB hl fun u' w' h1 h2 => hK' _ _ (hK u' w' h1 h2)
end

theorem PlAt.frozen {w : World} {b : Nat} {A : Option Addr} {n k : Nat} {c : Int} (h : PlAt w b A n k c) (i : Nat) : w.frozen? ⟨b, i, none⟩ = false := by simp [World.frozen?, show w.heap[b]? = _ from h]
theorem PlAt.set0 {w : World} {b : Nat} {A : Option Addr} {n k : Nat} {c : Int} (h : PlAt w b A n k c) (A' : Option Addr) (n' k' : Nat) : PlAt (w.setCell ⟨b, 0, none⟩ (.slice A' n' k')) b A' n' k' c := set_blk h 0 (.slice A' n' k')
theorem PlAt.set1 {w : World} {b : Nat} {A : Option Addr} {n k : Nat} {c : Int} (h : PlAt w b A n k c) (c' : Int) : PlAt (w.setCell ⟨b, 1, none⟩ (.int .i64 c')) b A n k c' := set_blk h 1 (.int .i64 c')
theorem PlAt.far {w : World} {b : Nat} {A : Option Addr} {n k : Nat} {c : Int} (h : PlAt w b A n k c) {b' i : Nat} (hne : b ≠ b') (x : Value) : PlAt (w.setCell ⟨b', i, none⟩ x) b A n k c := (Below.heap_setCell _ _ _ _ hne).trans h
theorem PlAt.grown {w w' : World} {b : Nat} {A : Option Addr} {n k : Nat} {c : Int} {ob : Option Nat} (h : PlAt w b A n k c) (hg : w.grownBy w' ob) (hne : ∀ g, ob = some g → g ≠ b) : PlAt w' b A n k c :=
  (hg.block b (Array.getElem?_eq_some_iff.1 h).1 (fun e => hne b e.symm rfl)).trans h
theorem Sls.one {w : World} {g : Nat} {s : Int × Int} (h : w.heap[g]? = some (.cells #[.int .i64 s.1, .int .i64 s.2] 45 (0, 0))) : Sls w w.heap.size (some ⟨g, 0, none⟩) [s] := fun _ => by
  have hl := (Array.getElem?_eq_some_iff.1 h).1
  refine ⟨_, rfl, hl, fun j x hx => ?_⟩
  have hj : j < 1 := (List.getElem?_eq_some_iff.1 hx).1
  have ej : j = 0 := by omega
  subst ej
  have e : x = s := by simpa using hx.symm
  subst e
  rw [Nat.zero_mul, addr_zero]
  exact ⟨(cell_of h 0).trans rfl, (cell_of h 1).trans rfl⟩

end Go.Proofs.Ytmklabdfalkldaa

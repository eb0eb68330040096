/-
  Lists that the call itself has made: of texts, and of pieces; append to them; a list of texts made whole.
-/
import Derived.Test.YtggeojjiongbbaaFragList
import Derived.Test.YtggeojjiongbbaaFragMay
import Derived.Maps.AppendAt
import Derived.Laws.OwnMore
namespace Go.Proofs.Ytggeojjiongbbaa
open Go.RowKit

theorem str_info : (Try.prog.info? 9).map (fun i => (i.zero, i.size, i.bytes)) = some (some (.string ⟨#[]⟩), 1, 16) := by kernel_rfl
theorem pc_info : (Try.prog.info? 23).map (fun i => (i.zero, i.size, i.bytes)) = some (some (pv zeroP), 4, 40) := by kernel_rfl

theorem ownsRow_below {w w' : World} {B : Nat} {e : TypeId} {size n : Nat} {u : Value} {xs : List Value} (h : w.ownsRow B e size u n xs) (hg : w.grownBy w' u.ownBlock) (hB : B ≤ w.heap.size) : Below B w w' :=
  (Below.refl B w).grown hg hB fun g e => (World.ownsRow.lt h g e).1
theorem ownsRow_on {w w' : World} {B : Nat} {e : TypeId} {size n : Nat} {u : Value} {xs : List Value} (h : w.ownsRow B e size u n xs) (hb : Below w.heap.size w w') : w'.ownsRow B e size u n xs := by
  refine ⟨h.1, h.2.imp id ?_⟩
  rintro ⟨g, cap, cur, e1, e2, e3, e4⟩
  exact ⟨g, cap, cur, e1, e2, (hb.block g (Array.getElem?_eq_some_iff.1 e3).1).trans e3, e4⟩
theorem ownsRow_base {w : World} {B B' : Nat} {e : TypeId} {size n : Nat} {u : Value} {xs : List Value} (h : w.ownsRow B e size u n xs) (hB : B' ≤ B) : w.ownsRow B' e size u n xs := by
  refine ⟨h.1, h.2.imp id ?_⟩
  rintro ⟨g, cap, cur, e1, e2, e3⟩
  exact ⟨g, cap, cur, e1, by omega, e3⟩
/-- All but what is the row's own lies as it lay. -/
theorem ownsRow_past {w : World} {B b : Nat} {e T : TypeId} {size n : Nat} {u : Value} {xs : List Value} {Z : Array Value} (h : w.ownsRow B e size u n xs) (hZ : w.heap[b]? = some (.cells Z T (0, 0))) (hne : T ≠ e) : u.ownBlock ≠ some b := by
  intro he
  rcases h.2 with ⟨rfl, _⟩ | ⟨g, cap, cur, rfl, _, hg, _⟩
  · simp [Value.ownBlock] at he
  · simp only [Value.ownBlock, Option.some.injEq] at he
    subst he
    rw [hg] at hZ
    injection hZ with hZ
    injection hZ with _ h2 _
    exact hne h2.symm

/-! ## Texts -/
/-- A list of texts that the call itself has made. -/
def OwnS (w : World) (B : Nat) (u : Value) (l : List ByteArray) : Prop := w.ownsRow B 9 1 u l.length (l.map Value.string)
theorem OwnS.nil (w : World) (B : Nat) : OwnS w B (.slice none 0 0) [] := World.ownsRow_nil _ _ _ _
theorem OwnS.row {w : World} {B : Nat} {u : Value} {l : List ByteArray} (h : OwnS w B u l) : ∃ A c, u = .slice A l.length c ∧ l.length ≤ c ∧ Strs w w.heap.size A l := by
  have hh := h
  rcases h.2 with ⟨rfl, h0⟩ | ⟨g, cap, cur, rfl, hb, hr, hn, hm, hs, ht⟩
  · exact ⟨none, 0, by rw [h0], by omega, fun hn => absurd hn (by omega)⟩
  · refine ⟨_, cap, rfl, hn, fun _ => ⟨_, rfl, (Array.getElem?_eq_some_iff.1 hr).1, fun j d hd => ?_⟩⟩
    exact World.ownsRow.cells hh (g := g) rfl j _ (by rw [List.getElem?_map, hd]; rfl)
/-- What there is, if there is one text or more. -/
theorem OwnS.one {w : World} {B : Nat} {u : Value} {l : List ByteArray} (h : OwnS w B u l) (hl : 0 < l.length) : ∃ g c, u = .slice (some ⟨g, 0, none⟩) l.length c ∧ B ≤ g ∧ g < w.heap.size ∧ l.length ≤ c ∧ Strs w w.heap.size (some ⟨g, 0, none⟩) l ∧ (∀ j, w.frozen? ⟨g, j, none⟩ = false) ∧
    ∀ (j : Nat) (d : ByteArray), OwnS (w.setCell ⟨g, j, none⟩ (.string d)) B u (l.set j d) ∧ w.grownBy (w.setCell ⟨g, j, none⟩ (.string d)) (some g) := by
  have hh := h
  rcases h.2 with ⟨rfl, h0⟩ | ⟨g, cap, cur, rfl, hb, hr, hn, hm, hs, ht⟩
  · omega
  · have hlt := (Array.getElem?_eq_some_iff.1 hr).1
    refine ⟨g, cap, rfl, hb, hlt, hn, fun _ => ⟨_, rfl, hlt, fun j d hd => World.ownsRow.cells hh (g := g) rfl j _ (by rw [List.getElem?_map, hd]; rfl)⟩, fun j => World.ownsRow.frozenAt hh j, fun j d => ?_⟩
    have := World.ownsRow.stored hh j (.string d)
    refine ⟨?_, this.2⟩
    unfold OwnS
    rw [List.length_set, List.map_set]
    exact this.1
theorem OwnS.block {w : World} {B b : Nat} {T : TypeId} {u : Value} {l : List ByteArray} {Z : Array Value} (h : OwnS w B u l) (hZ : w.heap[b]? = Option.some (.cells Z T (0, 0))) (hne : T ≠ 9) : u.ownBlock ≠ Option.some b := ownsRow_past h hZ hne

set_option maxRecDepth 100000 in
theorem run_appS_none (w : World) (B : Nat) (ty : TypeId) (u : Value) (l : List ByteArray) (c : Nat) (h : OwnS w B u l) :
    (Builtin.append_ #[27, 27] ty #[u, .slice none 0 c]).run Try.prog w = .ok u w := by
  obtain ⟨i0, hi, hz0, hz1, hz2⟩ := info_parts str_info
  have hu := Try.underlying27
  rcases h.2 with ⟨rfl, h0⟩ | ⟨g, cap, cur, rfl, _, _, hn, _⟩
  · simp [Builtin.append_, run_underlying hu, sizeOf, typeInfo, hi, Builtin.lenOf, Builtin.firstCells]
  · simp [Builtin.append_, run_underlying hu, sizeOf, typeInfo, hi, Builtin.lenOf, Builtin.firstCells, hn, storeCells]
set_option maxRecDepth 100000 in
theorem run_appS (w : World) (B B' : Nat) (ty : TypeId) (u : Value) (l m : List ByteArray) (A : Option Addr) (c : Nat) (h : OwnS w B u l) (hr : Strs w B' A m) (hB : B ≤ w.heap.size) (hl : l.length + m.length ≤ 8796093022207) :
    ∃ u' w', (Builtin.append_ #[27, 27] ty #[u, .slice A m.length c]).run Try.prog w = .ok u' w' ∧ OwnS w' B u' (l ++ m) ∧ w.grownBy w' u.ownBlock := by
  obtain ⟨i0, hi, hz0, hz1, hz2⟩ := info_parts str_info
  by_cases hm : m = []
  · subst hm
    cases A with
    | none => exact ⟨u, w, run_appS_none w B ty u l c h, by rw [List.append_nil]; exact h, World.grownBy.refl w _⟩
    | some ad =>
      obtain ⟨u', w', h1, h2, h3, _⟩ := run_append_own_at (P := Try.prog) w B 27 ty 9 i0 _ 1 16 Try.underlying27 hi hz0 hz1 hz2 rfl (by decide) u _ _ h ad 0 c [] rfl (fun j x hx => by simp at hx) (fun x hx => by simp at hx) (by unfold maxLen; omega) (by omega) hB
      exact ⟨u', w', h1, by rw [List.append_nil]; unfold OwnS; simpa using h2, h3⟩
  · obtain ⟨ad, rfl, _, hc⟩ := hr (List.length_pos_iff.2 hm)
    obtain ⟨u', w', h1, h2, h3, _⟩ := run_append_own_at (P := Try.prog) w B 27 ty 9 i0 _ 1 16 Try.underlying27 hi hz0 hz1 hz2 rfl (by decide) u _ _ h ad m.length c (m.map Value.string) (by simp)
      (fun j x hx => by
        rw [List.getElem?_map] at hx
        cases hy : m[j]? with
        | none => rw [hy] at hx; cases hx
        | some y =>
          rw [hy] at hx
          have : Value.string y = x := by simpa using hx
          rw [← this]; exact hc j y hy)
      (fun x hx => by
        obtain ⟨y, _, rfl⟩ := List.mem_map.1 hx
        rfl) (by unfold maxLen; omega) (by omega) hB
    exact ⟨u', w', h1, by unfold OwnS; rw [List.length_append, List.map_append]; exact h2, h3⟩

/-! ## Pieces -/
def pcl' (p : Pc) : List Value := [.int .i64 p.seq, .int .i64 p.at', .int .i64 p.of', .string p.bytes]
def lclP (l : List Pc) : List Value := l.flatMap pcl'
set_option maxRecDepth 100000 in
theorem lclP_length (l : List Pc) : (lclP l).length = l.length * 4 := by
  induction l with
  | nil => rfl
  | cons m l ih =>
    show (pcl' m ++ lclP l).length = (l.length + 1) * 4
    rw [List.length_append, ih]
    show 4 + _ = _
    omega
theorem lclP_append (a b : List Pc) : lclP (a ++ b) = lclP a ++ lclP b := List.flatMap_append
set_option maxRecDepth 100000 in
theorem lclP_at : ∀ (l : List Pc) (j k : Nat), k < 4 → (lclP l)[j * 4 + k]? = (l[j]?).bind fun m => (pcl' m)[k]?
  | [], j, k, hk => by simp [lclP]
  | m :: l, 0, k, hk => by
    show (pcl' m ++ lclP l)[0 * 4 + k]? = _
    rw [Nat.zero_mul, Nat.zero_add, List.getElem?_append_left (by show k < 4; exact hk)]
    rfl
  | m :: l, j + 1, k, hk => by
    show (pcl' m ++ lclP l)[(j + 1) * 4 + k]? = _
    rw [List.getElem?_append_right (by show 4 ≤ _; omega)]
    show (lclP l)[(j + 1) * 4 + k - 4]? = _
    rw [show (j + 1) * 4 + k - 4 = j * 4 + k by omega, lclP_at l j k hk]
    rfl
/-- A list of pieces that the call itself has made. -/
def OwnP (w : World) (B : Nat) (u : Value) (l : List Pc) : Prop := w.ownsRow B 23 4 u l.length (lclP l)
theorem OwnP.nil (w : World) (B : Nat) : OwnP w B (.slice none 0 0) [] := World.ownsRow_nil _ _ _ _
theorem addr_off (p : Addr) (k : Nat) (h : 0 < k) : p.add k = ⟨p.block, p.off + k, none⟩ := by
  unfold Addr.add
  rw [if_neg (by omega)]
set_option maxRecDepth 100000 in
theorem At4.of_cells {w : World} {p : Addr} {m : Pc} (h : ∀ k v, (pcl' m)[k]? = some v → w.cell? (p.add k) = some v) : At4 w p m := by
  have e : p.add 0 = p := by unfold Addr.add; rfl
  have h0 := h 0 _ rfl
  rw [e] at h0
  have g : ∀ k, 0 < k → ∀ v, (pcl' m)[k]? = some v → w.cell? ⟨p.block, p.off + k, none⟩ = some v := fun k hk v hv => by rw [← addr_off p k hk]; exact h k v hv
  exact ⟨h0, g 1 (by omega) _ rfl, g 2 (by omega) _ rfl, g 3 (by omega) _ rfl⟩
set_option maxRecDepth 100000 in
theorem OwnP.row {w : World} {B : Nat} {u : Value} {l : List Pc} (h : OwnP w B u l) : ∃ A c, u = .slice A l.length c ∧ l.length ≤ c ∧ Pcs w w.heap.size A l := by
  have hh := h
  rcases h.2 with ⟨rfl, h0⟩ | ⟨g, cap, cur, rfl, hb, hr, hn, hm, hs, ht⟩
  · exact ⟨none, 0, by rw [h0], by omega, fun hn => absurd hn (by omega)⟩
  · refine ⟨_, cap, rfl, hn, fun _ => ⟨_, rfl, (Array.getElem?_eq_some_iff.1 hr).1, fun j m hm => At4.of_cells fun k v hv => ?_⟩⟩
    have hk : k < 4 := (List.getElem?_eq_some_iff.1 hv).1
    have hj : (lclP l)[j * 4 + k]? = some v := by rw [lclP_at l j k hk, hm]; exact hv
    rw [Go.Deep.add_add]
    exact World.ownsRow.cells hh (g := g) rfl _ _ hj
set_option maxRecDepth 100000 in
theorem run_appP (w : World) (B : Nat) (ty : TypeId) (u : Value) (l : List Pc) (m : Pc) (h : OwnP w B u l) (hb : Nat) (hr : w.heap[hb]? = some (.cells (pcl m) 23 (0, 0))) (hB : B ≤ w.heap.size) (hl : l.length ≤ 1000) :
    ∃ u' w', (Builtin.append_ #[30, 30] ty #[u, .slice (some ⟨hb, 0, none⟩) 1 1]).run Try.prog w = .ok u' w' ∧ OwnP w' B u' (l ++ [m]) ∧ w.grownBy w' u.ownBlock := by
  obtain ⟨i0, hi, hz0, hz1, hz2⟩ := info_parts pc_info
  obtain ⟨u', w', h1, h2, h3, _⟩ := run_append_own_at (P := Try.prog) w B 30 ty 23 i0 _ 4 40 Try.underlying30 hi hz0 hz1 hz2 rfl (by decide) u _ _ h ⟨hb, 0, none⟩ 1 1 (pcl' m) rfl
    (fun j x hx => by
      have e : (⟨hb, 0, none⟩ : Addr).add j = ⟨hb, j, none⟩ := by unfold Addr.add; split <;> simp_all
      rw [e, cell_of hr j]
      have e2 : (pcl m)[j]? = (pcl' m)[j]? := by simp [pcl, pcl']
      rw [e2]; exact hx)
    (fun x hx => by
      simp [pcl'] at hx
      rcases hx with rfl | rfl | rfl | rfl <;> rfl) (by unfold maxLen; omega) (by omega) hB
  refine ⟨u', w', h1, ?_, h3⟩
  unfold OwnP
  rw [List.length_append, lclP_append]
  exact h2

end Go.Proofs.Ytggeojjiongbbaa

/-
  Lists of numbers as they lie in memory, and lists that a call itself has made; raw numbers; a slice of numbers, as a law gets it.
-/
import Derived.Test.YtllbhbekpnmlnaaRows
import Derived.Test.YtllbhbekpnmlnaaProg
import Derived.Test.YtllbhbekpnmlnaaClkMath
import Derived.WalkKit
import Derived.WalkSpells
import Derived.WalkLawsBesides
import Derived.Below
import Derived.Lib.Hide
import Derived.Lib.SmallJoins
import Derived.IntWalk
import Derived.OpenShut
import Derived.OwnWalk
import Derived.Maps.AppendAt
import Derived.Deep.RegionLaw
import Derived.Laws.OwnMore
import Derived.Deep.QuietTactic
import Derived.BigQuiet
import Derived.BigRegion
import Derived.ProofKit
import Derived.ChangeSlices
import Derived.Carry
namespace Go.Proofs.Ytllbhbekpnmlnaa
open Go Go.ChangeShapes Go.WideShapes Go.ChangeAt Go.RowKit

theorem ret_i {a b : Int} (h : a = b) : Ending.returned (.int .i64 a) = .returned (.int .i64 b) := by rw [h]
theorem ret_b {a b : Bool} (h : a = b) : Ending.returned (.bool a) = .returned (.bool b) := by rw [h]
theorem w64 (n : Int) (h1 : -9223372036854775808 ≤ n) (h2 : n ≤ 9223372036854775807) : wrap64 n = n := by
  unfold wrap64
  omega
theorem below_drewN {B : Nat} {a w : World} (h : Below B a w) (n : Nat) : Below B a (w.drewN n) := ⟨h.os, h.tape, h.output, h.size, h.block⟩
theorem turned {P : Program} {f : FuncId} {args : Array Value} {W : World} {v : Value} (h : Calls P f args W fun e w' => e = .returned v ∧ W = w') : Calls P f args W fun e w' => e = .returned v ∧ w' = W :=
  h.mono fun _ _ ⟨a, b⟩ => ⟨a, b.symm⟩
theorem heap_new (w : World) (o : Obj) : (w.alloc o).heap[w.heap.size]? = some o := by rw [← World.alloc_eq]; exact Array.getElem?_push_size

/-- A list of numbers as it lies in memory, below block B. -/
def Row (w : World) (B : Nat) (A : Option Addr) (l : List Int) : Prop :=
  0 < l.length → ∃ ad, A = some ad ∧ ad.block < B ∧ ∀ j x, l[j]? = some x → w.cell? (ad.add j) = some (.int .i64 x)
theorem adb (a : Addr) (n : Nat) : (a.add n).block = a.block := by unfold Addr.add; split <;> rfl
theorem Row.keep {w w' : World} {B : Nat} {A : Option Addr} {l : List Int} (h : Row w B A l) (hk : ∀ p : Addr, p.block < B → w'.cell? p = w.cell? p) : Row w' B A l := fun hn => by
  obtain ⟨ad, e, hb, hc⟩ := h hn
  exact ⟨ad, e, hb, fun j x hx => (hk _ (by rw [adb]; exact hb)).trans (hc j x hx)⟩
theorem Row.below {w w' : World} {B B' : Nat} {A : Option Addr} {l : List Int} (h : Row w B A l) (hb : Below B' w w') (hB : B ≤ B') : Row w' B A l :=
  h.keep fun _ hp => hb.cell (Nat.lt_of_lt_of_le hp hB)
theorem Row.more {w : World} {B B' : Nat} {A : Option Addr} {l : List Int} (h : Row w B A l) (hB : B ≤ B') : Row w B' A l := fun hn => by
  obtain ⟨ad, e, hb, hc⟩ := h hn
  exact ⟨ad, e, by omega, hc⟩
theorem Row.on {w w' : World} {A : Option Addr} {l : List Int} (h : Row w w.heap.size A l) (hb : Below w.heap.size w w') : Row w' w'.heap.size A l := (h.below hb (Nat.le_refl _)).more hb.size
theorem Row.nil (w : World) (B : Nat) (A : Option Addr) : Row w B A [] := fun h => absurd h (by simp)
theorem Row.of_own {w : World} {base : Nat} {e : TypeId} {u : Value} {l : List Int} (h : w.ownsRow base e 1 u l.length (l.map (Value.int .i64))) : ∃ A c, u = .slice A l.length c ∧ l.length ≤ c ∧ Row w w.heap.size A l := by
  rcases h.2 with ⟨rfl, h0⟩ | ⟨g, cap, cur, rfl, hb, hh, hn, hm, hs, ht⟩
  · exact ⟨none, 0, by rw [h0], by omega, fun hn => absurd hn (by omega)⟩
  · refine ⟨_, cap, rfl, hn, fun _ => ⟨_, rfl, (Array.getElem?_eq_some_iff.1 hh).1, fun j x hx => ?_⟩⟩
    have hj : (l.map (Value.int .i64))[j]? = some (.int .i64 x) := by rw [List.getElem?_map, hx]; rfl
    exact h.cells (g := g) rfl j _ hj
/-- The same list, cut. -/
theorem Row.take {w : World} {B : Nat} {A : Option Addr} {l : List Int} (h : Row w B A l) (n : Nat) : Row w B A (l.take n) := fun hn => by
  obtain ⟨ad, e, hb, hc⟩ := h (by rw [List.length_take] at hn; omega)
  refine ⟨ad, e, hb, fun j x hx => hc j x ?_⟩
  have hj : j < (l.take n).length := (List.getElem?_eq_some_iff.1 hx).1
  rw [List.length_take] at hj
  rwa [List.getElem?_take_of_lt (by omega)] at hx
theorem Row.drop {w : World} {B : Nat} {ad : Addr} {l : List Int} (h : Row w B (some ad) l) (n : Nat) : Row w B (some (ad.add n)) (l.drop n) := fun hn => by
  obtain ⟨ad', e, hb, hc⟩ := h (by rw [List.length_drop] at hn; omega)
  obtain rfl := Option.some.inj e
  refine ⟨_, rfl, by rw [adb]; exact hb, fun j x hx => ?_⟩
  rw [List.getElem?_drop] at hx
  rw [Go.Deep.add_add]
  exact hc _ _ hx
/-- What a statement's own list is. -/
theorem Row.new (W : World) (l : List Int) : Row (W.alloc (.cells (l.map (Value.int .i64)).toArray 3)) (W.heap.size + 1) (some ⟨W.heap.size, 0, none⟩) l := fun _ =>
  ⟨_, rfl, by show W.heap.size < _; omega, fun j x hx => by
    have e : ((⟨W.heap.size, 0, none⟩ : Addr).add j) = ⟨W.heap.size, j, none⟩ := by unfold Addr.add; split <;> simp_all
    rw [e]
    unfold World.cell?
    rw [heap_new]
    simp [hx]⟩

theorem int_info : (Try.prog.info? 3).map (fun i => (i.zero, i.size, i.bytes)) = some (some (.int .i64 0), 1, 8) := by kernel_rfl
/-- A list that the call itself has made. -/
def Own (w : World) (B : Nat) (u : Value) (l : List Int) : Prop := w.ownsRow B 3 1 u l.length (l.map (Value.int .i64))
theorem Own.nil (w : World) (B : Nat) : Own w B (.slice none 0 0) [] := World.ownsRow_nil _ _ _ _
theorem Own.row {w : World} {B : Nat} {u : Value} {l : List Int} (h : Own w B u l) : ∃ A c, u = .slice A l.length c ∧ l.length ≤ c ∧ Row w w.heap.size A l := Row.of_own h
theorem Own.below {w w' : World} {B : Nat} {u : Value} {l : List Int} (h : Own w B u l) (hg : w.grownBy w' u.ownBlock) (hB : B ≤ w.heap.size) : Below B w w' :=
  (Below.refl B w).grown hg hB fun g e => (World.ownsRow.lt h g e).1
theorem Own.on {w w' : World} {B : Nat} {u : Value} {l : List Int} (h : Own w B u l) (hb : Below w.heap.size w w') : Own w' B u l := by
  refine ⟨h.1, h.2.imp id ?_⟩
  rintro ⟨g, cap, cur, e1, e2, e3, e4⟩
  exact ⟨g, cap, cur, e1, e2, (hb.block g (Array.getElem?_eq_some_iff.1 e3).1).trans e3, e4⟩
theorem Own.more {w : World} {B B' : Nat} {u : Value} {l : List Int} (h : Own w B u l) (hB : B' ≤ B) : Own w B' u l :=
  ⟨h.1, h.2.imp id (by rintro ⟨g, cap, cur, k1, k2, k3⟩; exact ⟨g, cap, cur, k1, by omega, k3⟩)⟩
/-- What there is, if there is one number or more; and what a store makes of it. -/
theorem Own.one {w : World} {B : Nat} {u : Value} {l : List Int} (h : Own w B u l) (hl : 0 < l.length) : ∃ g c, u = .slice (some ⟨g, 0, none⟩) l.length c ∧ B ≤ g ∧ g < w.heap.size ∧ l.length ≤ c ∧ (∀ j x, l[j]? = some x → w.cell? ⟨g, j, none⟩ = some (.int .i64 x)) ∧ (∀ j, w.frozen? ⟨g, j, none⟩ = false) ∧
    ∀ (j : Nat) (x : Int), Own (w.setCell ⟨g, j, none⟩ (.int .i64 x)) B u (l.set j x) ∧ w.grownBy (w.setCell ⟨g, j, none⟩ (.int .i64 x)) u.ownBlock := by
  have hh := h
  rcases h.2 with ⟨rfl, h0⟩ | ⟨g, cap, cur, rfl, hb, hr, hn, hm, hs, ht⟩
  · omega
  · have hlt := (Array.getElem?_eq_some_iff.1 hr).1
    refine ⟨g, cap, rfl, hb, hlt, hn, fun j x hx => ?_, fun j => World.ownsRow.frozenAt hh j, fun j x => ?_⟩
    · have hj : (l.map (Value.int .i64))[j]? = some (.int .i64 x) := by rw [List.getElem?_map, hx]; rfl
      have := World.ownsRow.cells hh (g := g) rfl j _ hj
      rwa [show (⟨g, 0, none⟩ : Addr).add j = ⟨g, j, none⟩ from by unfold Addr.add; split <;> simp_all] at this
    · have := World.ownsRow.stored hh j (.int .i64 x)
      refine ⟨?_, by simpa [Value.ownBlock] using this.2⟩
      unfold Own
      rw [List.length_set, List.map_set]
      exact this.1

theorem run_app_none (w : World) (B : Nat) (ty : TypeId) (u : Value) (l : List Int) (c : Nat) (h : Own w B u l) :
    (Builtin.append_ #[22, 22] ty #[u, .slice none 0 c]).run Try.prog w = .ok u w := by
  obtain ⟨i0, hi, hz0, hz1, hz2⟩ := info_parts int_info
  have hu := Try.underlying22
  rcases h.2 with ⟨rfl, h0⟩ | ⟨g, cap, cur, rfl, _, _, hn, _⟩
  · simp [Builtin.append_, run_underlying hu, sizeOf, typeInfo, hi, Builtin.lenOf, Builtin.firstCells]
  · simp [Builtin.append_, run_underlying hu, sizeOf, typeInfo, hi, Builtin.lenOf, Builtin.firstCells, hn, storeCells]
set_option maxRecDepth 100000 in
theorem run_app (w : World) (B B' : Nat) (ty : TypeId) (u : Value) (l m : List Int) (A : Option Addr) (c : Nat) (h : Own w B u l) (hr : Row w B' A m) (hB : B ≤ w.heap.size) (hl : l.length + m.length ≤ 1000) :
    ∃ u' w', (Builtin.append_ #[22, 22] ty #[u, .slice A m.length c]).run Try.prog w = .ok u' w' ∧ Own w' B u' (l ++ m) ∧ w.grownBy w' u.ownBlock := by
  obtain ⟨i0, hi, hz0, hz1, hz2⟩ := info_parts int_info
  by_cases hm : m = []
  · subst hm
    cases A with
    | none => exact ⟨u, w, run_app_none w B ty u l c h, by rw [List.append_nil]; exact h, World.grownBy.refl w _⟩
    | some ad =>
      obtain ⟨u', w', h1, h2, h3, _⟩ := run_append_own_at (P := Try.prog) w B 22 ty 3 i0 _ 1 8 Try.underlying22 hi hz0 hz1 hz2 rfl (by decide) u _ _ h ad 0 c [] rfl (fun j x hx => by simp at hx) (fun x hx => by simp at hx) (by unfold maxLen; omega) (by omega) hB
      exact ⟨u', w', h1, by rw [List.append_nil]; unfold Own; simpa using h2, h3⟩
  · obtain ⟨ad, rfl, _, hc⟩ := hr (List.length_pos_iff.2 hm)
    obtain ⟨u', w', h1, h2, h3, _⟩ := run_append_own_at (P := Try.prog) w B 22 ty 3 i0 _ 1 8 Try.underlying22 hi hz0 hz1 hz2 rfl (by decide) u _ _ h ad m.length c (m.map (Value.int .i64)) (by simp)
      (fun j x hx => by
        rw [List.getElem?_map] at hx
        cases hy : m[j]? with
        | none => rw [hy] at hx; cases hx
        | some y =>
          rw [hy] at hx
          injection hx with hx
          rw [← hx]; exact hc j y hy)
      (fun x hx => by
        obtain ⟨y, _, rfl⟩ := List.mem_map.1 hx
        rfl) (by unfold maxLen; omega) (by omega) hB
    exact ⟨u', w', h1, by unfold Own; rw [List.length_append, List.map_append]; exact h2, h3⟩

section
variable {ops : Array Oper} {rest : List Oper} {o : Oper} {a : Act} {w : World} {K : Act → World → Prop} {Q : Exit → Act → World → Prop} {E : Prop}
set_option maxRecDepth 100000 in
theorem wp_app (s x : Operand) (ho : o.op = .call { callee := .builtin .append, args := #[s, x], argTypes := #[22, 22] })
    (B B' : Nat) (u : Value) (l m : List Int) (A : Option Addr) (c : Nat) (hs : a.eval s = u) (hx : a.eval x = .slice A m.length c) (h : Own w B u l) (hr : Row w B' A m) (hB : B ≤ w.heap.size) (hl : l.length + m.length ≤ 1000)
    (hK : ∀ u' w', Own w' B u' (l ++ m) → w.grownBy w' u.ownBlock → K (a.put o.dst u') w') : o.wp Try.prog a w K Q := by
  obtain ⟨u', w', hrun, h2, h3⟩ := run_app w B B' o.type u l m A c h hr hB hl
  unfold Oper.wp
  simp [execOp, ho, resolve, invoke, builtin, hs, hx, hrun, Result.andThen]
  exact hK u' w' h2 h3
theorem step_app (hg : o.guard = none) (s x : Operand) (ho : o.op = .call { callee := .builtin .append, args := #[s, x], argTypes := #[22, 22] })
    (B B' : Nat) (u : Value) (l m : List Int) (A : Option Addr) (c : Nat) (hs : a.eval s = u) (hx : a.eval x = .slice A m.length c) (h : Own w B u l) (hr : Row w B' A m) (hB : B ≤ w.heap.size) (hl : l.length + m.length ≤ 1000)
    (hK : ∀ u' w', Own w' B u' (l ++ m) → w.grownBy w' u.ownBlock → K (a.put o.dst u') w') : if Region.wanted o (yielded ops a.tmps) = true then Oper.wp Try.prog o a w K Q else E := by
  rw [if_pos (by simp [Region.wanted, hg])]
  exact wp_app s x ho B B' u l m A c hs hx h hr hB hl hK
theorem list_app (hw : Region.wanted o (yielded ops a.tmps) = true) (s x : Operand) (ho : o.op = .call { callee := .builtin .append, args := #[s, x], argTypes := #[22, 22] })
    (B B' : Nat) (u : Value) (l m : List Int) (A : Option Addr) (c : Nat) (hs : a.eval s = u) (hx : a.eval x = .slice A m.length c) (h : Own w B u l) (hr : Row w B' A m) (hB : B ≤ w.heap.size) (hl : l.length + m.length ≤ 1000)
    (hK : ∀ u' w', Own w' B u' (l ++ m) → w.grownBy w' u.ownBlock → wpList Try.prog ops Q rest (a.put o.dst u') w') : wpList Try.prog ops Q (o :: rest) a w :=
  wpList_step fun K hK' => by
    rw [if_pos hw]
    exact wp_app s x ho B B' u l m A c hs hx h hr hB hl fun u' w' h1 h2 => hK' _ _ (hK u' w' h1 h2)
end

/-! ## Raw numbers -/
def pickI (c n : Int) : Int := (if c < 0 then -(c + 1) else c) % n
theorem pickI_range (c n : Int) (hn : 0 < n) : 0 ≤ pickI c n ∧ pickI c n < n := ⟨Int.emod_nonneg _ (by omega), Int.emod_lt_of_pos _ hn⟩
theorem pick_neg_value (c n : Int) (hc : (Lit.int .i64 c).wf = true) (h : c < 0) : (wrap64 (-wrap64 (c + 1))).tmod n = pickI c n := by
  have hb := bounds_i64 hc
  rw [w64 (c + 1) (by omega) (by omega), w64 _ (by omega) (by omega), Int.tmod_eq_emod_of_nonneg (by omega)]
  unfold pickI
  rw [if_pos h]
theorem pick_pos_value (c n : Int) (h : ¬ c < 0) : c % n = pickI c n := by
  unfold pickI
  rw [if_neg h]
theorem pick_any (c n : Int) (hc : (Lit.int .i64 c).wf = true) (hn : 0 < n) (w : World) :
    Calls Try.prog 11 #[.int .i64 c, .int .i64 n] w fun e w' => e = .returned (.int .i64 (pickI c n)) ∧ w = w' := by
  by_cases h : c < 0
  · have hv := Lib.hid (pick_neg_value c n hc h)
    have HC := Lib.hid hc; clear hc
    go_enter Try.func11, Try.ntmps11
    go_wp2
    go_ret
    exact ⟨congrArg (fun n => Ending.returned (.int .i64 n)) hv.out, rfl⟩
  · have hv := Lib.hid (pick_pos_value c n h)
    have h0 : 0 ≤ c := by omega
    have HC := Lib.hid hc; clear hc
    go_enter Try.func11, Try.ntmps11
    go_wp2
    go_ret
    exact ⟨congrArg (fun n => Ending.returned (.int .i64 n)) hv.out, rfl⟩

structure IntsOk (w : World) (A : Option Addr) (c : Nat) (l : List Int) : Prop where
  row : Row w w.heap.size A l
  len : l.length ≤ c ∧ c ≤ maxLen
  wf : ∀ n ∈ l, (Lit.int .i64 n).wf = true

section
variable {H : Type} {enc : TypeId × Value → H} {w : World} {base : Nat} {held : Bool}
theorem open_ints_ok {v : Value} {d : DataW H} {p : List MemPlace} (hv : ∃ a n c, v = .slice a n c) (h : DataW.Trod enc Try.prog w base (fun _ => true) held 22 v d p) :
    ∃ (A : Option Addr) (c : Nat) (l : List Int), v = .slice A l.length c ∧ IntsOk w A c l := by
  obtain ⟨A, n, cap, rfl⟩ := hv
  obtain ⟨fuel, hf⟩ := h
  rcases open_ints Try.underlying22 Try.underlying3 (by kernel_rfl) hf with ⟨h0, _⟩ | ⟨a, len, cap', zs, hcs, hb, hl, hm, hz, hx, hcell, hwf⟩
  · have : Value.slice A n cap = .slice none 0 0 := by simpa [Value.cells] using h0
    injection this with e1 e2 e3
    subst e1 e2 e3
    exact ⟨none, 0, [], rfl, fun hn => absurd hn (by simp), ⟨Nat.le_refl _, by unfold maxLen; omega⟩, fun n hn => by cases hn⟩
  · have : Value.slice A n cap = .slice (some a) len cap' := by simpa [Value.cells] using hcs
    injection this with e1 e2 e3
    subst e1 e2 e3
    rw [if_pos rfl] at hz
    have hlen : (zs.take n).length = n := by rw [List.length_take]; omega
    have at_ : ∀ j x, (zs.take n)[j]? = some x → w.cell? (a.add j) = some (.int .i64 x) := fun j x hx => by
      have hj : j < n := by have := (List.getElem?_eq_some_iff.1 hx).1; omega
      rw [List.getElem?_take_of_lt hj] at hx
      rw [hcell j (by omega)]
      simp [List.getD, hx]
    refine ⟨some a, cap, zs.take n, by rw [hlen], fun hn => ⟨a, rfl, ?_, at_⟩, ⟨by omega, hm⟩, fun x hx => hwf x (List.mem_of_mem_take hx)⟩
    have h0 := World.block_lt_of_cell? w _ (at_ 0 _ (List.getElem?_eq_getElem hn))
    rwa [adb] at h0
end

end Go.Proofs.Ytllbhbekpnmlnaa

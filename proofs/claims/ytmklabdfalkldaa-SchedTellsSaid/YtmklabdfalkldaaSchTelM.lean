/-
  The law SchedTells: which plans may be, their slots, and where times stand, is as the document says.
-/
import Derived.Test.YtmklabdfalkldaaSchOddM
import Derived.Test.YtmklabdfalkldaaSchRefL
namespace Go.Proofs.Ytmklabdfalkldaa
open Go.RowKit

/-- Two numbers in a block; four spots in a block; a plan of some. -/
def Tw (W : World) (q : Nat) (x y : Int) : Prop := W.heap[q]? = some (.cells #[.int .i64 x, .int .i64 y] 3 (0, 0))
theorem Tw.on {W W' : World} {q : Nat} {x y : Int} (h : Tw W q x y) (hb : Below W.heap.size W W') : Tw W' q x y := (hb.block q (Array.getElem?_eq_some_iff.1 h).1).trans h
theorem Tw.at {W : World} {q : Nat} {x y : Int} (h : Tw W q x y) (j : Nat) (hj : j < 2) : ∃ z, W.cell? ⟨q, j, none⟩ = some (.int .i64 z) := by
  rcases (show j = 0 ∨ j = 1 by omega) with rfl | rfl
  · exact ⟨x, (cell_of h 0).trans rfl⟩
  · exact ⟨y, (cell_of h 1).trans rfl⟩
def SpotOf (W : World) (q j : Nat) (s : Spot) : Prop := W.cell? ⟨q, j * 4, none⟩ = some (.int .i64 s.cyc) ∧ W.cell? ⟨q, j * 4 + 1, none⟩ = some (.int .i64 s.rnd) ∧ W.cell? ⟨q, j * 4 + 2, none⟩ = some (.int .i64 s.slt) ∧ W.cell? ⟨q, j * 4 + 3, none⟩ = some (.int .i64 s.tck)
theorem SpotOf.on {W W' : World} {q j : Nat} {s : Spot} (h : SpotOf W q j s) (hb : Below W.heap.size W W') : SpotOf W' q j s := by
  obtain ⟨h1, h2, h3, h4⟩ := h
  have hq := World.block_lt_of_cell? W _ h1
  exact ⟨(hb.cell hq).trans h1, (hb.cell (p := ⟨q, j * 4 + 1, none⟩) hq).trans h2, (hb.cell (p := ⟨q, j * 4 + 2, none⟩) hq).trans h3, (hb.cell (p := ⟨q, j * 4 + 3, none⟩) hq).trans h4⟩
def PlanOf (W : World) (q j : Nat) (A : Option Addr) (c : Nat) (C : Int) (l : Pl) : Prop :=
  W.cell? ⟨q, j * 2, none⟩ = some (.slice A l.length c) ∧ W.cell? ⟨q, j * 2 + 1, none⟩ = some (.int .i64 C) ∧ Sls W W.heap.size A l ∧ l.length ≤ maxLen
theorem PlanOf.on {W W' : World} {q j : Nat} {A : Option Addr} {c : Nat} {C : Int} {l : Pl} (h : PlanOf W q j A c C l) (hb : Below W.heap.size W W') : PlanOf W' q j A c C l := by
  obtain ⟨h1, h2, h3, h4⟩ := h
  have hq := World.block_lt_of_cell? W _ h1
  exact ⟨(hb.cell hq).trans h1, (hb.cell (p := ⟨q, j * 2 + 1, none⟩) hq).trans h2, (h3.on hb).more hb.size, h4⟩
def Plans (W : World) (q : Nat) : Prop := ∀ j : Nat, j < 3 → ∃ A c C l, PlanOf W q j A c C l
theorem Plans.on {W W' : World} {q : Nat} (h : Plans W q) (hb : Below W.heap.size W W') : Plans W' q := fun j hj => by obtain ⟨a, b, c, d, e⟩ := h j hj; exact ⟨a, b, c, d, e.on hb⟩
def Spots (W : World) (q : Nat) : Prop := ∀ j : Nat, j < 4 → ∃ y, SpotOf W q j y
theorem Spots.on {W W' : World} {q : Nat} (h : Spots W q) (hb : Below W.heap.size W W') : Spots W' q := fun j hj => by obtain ⟨y, e⟩ := h j hj; exact ⟨y, e.on hb⟩
theorem four_spots {W : World} {q : Nat} {a b c d : Spot} (h : W.heap[q]? = some (.cells #[.int .i64 a.cyc, .int .i64 a.rnd, .int .i64 a.slt, .int .i64 a.tck, .int .i64 b.cyc, .int .i64 b.rnd, .int .i64 b.slt, .int .i64 b.tck, .int .i64 c.cyc, .int .i64 c.rnd, .int .i64 c.slt, .int .i64 c.tck, .int .i64 d.cyc, .int .i64 d.rnd, .int .i64 d.slt, .int .i64 d.tck] 27 (0, 0))) : Spots W q := fun j hj => by
  rcases (show j = 0 ∨ j = 1 ∨ j = 2 ∨ j = 3 by omega) with rfl | rfl | rfl | rfl
  · exact ⟨a, (cell_of h 0).trans rfl, (cell_of h 1).trans rfl, (cell_of h 2).trans rfl, (cell_of h 3).trans rfl⟩
  · exact ⟨b, (cell_of h 4).trans rfl, (cell_of h 5).trans rfl, (cell_of h 6).trans rfl, (cell_of h 7).trans rfl⟩
  · exact ⟨c, (cell_of h 8).trans rfl, (cell_of h 9).trans rfl, (cell_of h 10).trans rfl, (cell_of h 11).trans rfl⟩
  · exact ⟨d, (cell_of h 12).trans rfl, (cell_of h 13).trans rfl, (cell_of h 14).trans rfl, (cell_of h 15).trans rfl⟩
theorem three_plans {W : World} {q : Nat} {A1 A2 A3 : Option Addr} {n1 c1 n2 c2 n3 c3 : Nat} {C1 C2 C3 : Int} {l1 l2 l3 : Pl}
    (h : W.heap[q]? = some (.cells #[.slice A1 n1 c1, .int .i64 C1, .slice A2 n2 c2, .int .i64 C2, .slice A3 n3 c3, .int .i64 C3] 25 (0, 0)))
    (e1 : l1.length = n1) (e2 : l2.length = n2) (e3 : l3.length = n3) (s1 : Sls W W.heap.size A1 l1) (s2 : Sls W W.heap.size A2 l2) (s3 : Sls W W.heap.size A3 l3) (m1 : l1.length ≤ maxLen) (m2 : l2.length ≤ maxLen) (m3 : l3.length ≤ maxLen) :
    Plans W q := fun j hj => by
  subst e1 e2 e3
  rcases (show j = 0 ∨ j = 1 ∨ j = 2 by omega) with rfl | rfl | rfl
  · exact ⟨A1, c1, C1, l1, (cell_of h 0).trans rfl, (cell_of h 1).trans rfl, s1, m1⟩
  · exact ⟨A2, c2, C2, l2, (cell_of h 2).trans rfl, (cell_of h 3).trans rfl, s2, m2⟩
  · exact ⟨A3, c3, C3, l3, (cell_of h 4).trans rfl, (cell_of h 5).trans rfl, s3, m3⟩

/-- append, whatever stands behind. -/
theorem wp_appA {o : Oper} {a : Act} {w : World} {K : Act → World → Prop} {Q : Exit → Act → World → Prop} (s x : Operand) (ho : o.op = .call { callee := .builtin .append, args := #[s, x], argTypes := #[23, 23] })
    (B B' : Nat) (u : Value) (l m : Pl) (A : Option Addr) (c : Nat) (hs : a.eval s = u) (hx : a.eval x = .slice A m.length c) (h : OwnL w B u l) (hr : Sls w B' A m) (hB : B ≤ w.heap.size) (hl : l.length + m.length ≤ 1000)
    (hK : ∀ u' w', OwnL w' B u' (l ++ m) → w.grownBy w' u.ownBlock → K (a.put o.dst u') w') : o.wp Try.prog a w K Q := by
  by_cases hm : m = []
  · subst hm
    obtain ⟨i0, hi, hz0, hz1, hz2⟩ := info_parts sl_info
    have hrun : ∃ u' w', (Builtin.append_ #[23, 23] o.type #[u, .slice A ([] : Pl).length c]).run Try.prog w = .ok u' w' ∧ OwnL w' B u' (l ++ []) ∧ w.grownBy w' u.ownBlock := by
      cases A with
      | none =>
        refine ⟨u, w, ?_, by rw [List.append_nil]; exact h, World.grownBy.refl w _⟩
        have hu := Try.underlying23
        rcases h.2 with ⟨rfl, h0⟩ | ⟨g, cap, cur, rfl, _, _, hn, _⟩
        · simp [Builtin.append_, run_underlying hu, sizeOf, typeInfo, hi, Builtin.lenOf, Builtin.firstCells]
        · simp [Builtin.append_, run_underlying hu, sizeOf, typeInfo, hi, Builtin.lenOf, Builtin.firstCells, hn, storeCells]
      | some ad =>
        obtain ⟨u', w', h1, h2, h3, _⟩ := run_append_own_at (P := Try.prog) w B 23 o.type 45 i0 _ 2 16 Try.underlying23 hi hz0 hz1 hz2 rfl (by decide) u _ _ h ad 0 c [] rfl (fun j x hx => by simp at hx) (fun x hx => by simp at hx) (by unfold maxLen; simp at hl; omega) (by simp at hl; omega) hB
        exact ⟨u', w', h1, by rw [List.append_nil]; unfold OwnL; simpa using h2, h3⟩
    obtain ⟨u', w', hrun, h2, h3⟩ := hrun
    unfold Oper.wp
    simp [execOp, ho, resolve, invoke, builtin, hs, hx]
    simp at hrun
    simp [hrun, Result.andThen]
    exact hK u' w' h2 h3
  · exact wp_appL s x ho B B' u l m A c hs hx h hr hm hB hl hK
def BoxP (W : World) (g : Nat) (v : Value) (C : Int) : Prop := W.heap[g]? = some (.cells #[v, .int .i64 C] 25 (0, 0))
theorem BoxP.new (W : World) (v : Value) (C : Int) : BoxP (W.alloc (.cells #[v, .int .i64 C] 25)) W.heap.size v C := heap_alloc_new W _
theorem BoxP.on {W W' : World} {g : Nat} {v : Value} {C : Int} (h : BoxP W g v C) (hb : Below W.heap.size W W') : BoxP W' g v C := (hb.block g (Array.getElem?_eq_some_iff.1 h).1).trans h
theorem BoxP.cells {W : World} {g : Nat} {v : Value} {C : Int} (h : BoxP W g v C) : W.cell? ⟨g, 0, none⟩ = some v ∧ W.cell? ⟨g, 1, none⟩ = some (.int .i64 C) := ⟨cell_of h 0, cell_of h 1⟩
theorem BoxP.frozen {W : World} {g : Nat} {v : Value} {C : Int} (h : BoxP W g v C) (i : Nat) : W.frozen? ⟨g, i, none⟩ = false := by simp [World.frozen?, show W.heap[g]? = _ from h]
theorem BoxP.apart {W : World} {g : Nat} {v : Value} {C : Int} (h : BoxP W g v C) {b : Nat} {cs : Array Value} (hb : W.heap[b]? = some (.cells cs 45 (0, 0))) (i j : Nat) (x y : Value) : ((W.setCell ⟨g, i, none⟩ x).setCell ⟨g, j, none⟩ y).heap[b]? = W.heap[b]? := by
  have hne : b ≠ g := fun e => by
    subst e
    rw [show W.heap[b]? = _ from h] at hb
    injection hb with hb
    injection hb with h1 h2
    exact absurd h2 (by decide)
  exact (Below.heap_setCell _ _ _ _ hne).trans (Below.heap_setCell _ _ _ _ hne)
theorem own_kept {W W' : World} {B n : Nat} {u : Value} {xs : List Value} (h : W.ownsRow B 45 2 u n xs) (hk : ∀ (b : Nat) (cs : Array Value), W.heap[b]? = some (.cells cs 45 (0, 0)) → W'.heap[b]? = W.heap[b]?) : W'.ownsRow B 45 2 u n xs := by
  refine own_far h fun g hg => ?_
  rcases h.2 with ⟨rfl, _⟩ | ⟨g', cap, cur, rfl, _, hh, _⟩
  · cases hg
  · have e1 : g' = g := by simpa [Value.ownBlock] using hg
    subst e1
    exact hk _ _ hh
theorem BoxP.set {W : World} {g : Nat} {v : Value} {C : Int} (h : BoxP W g v C) (v' : Value) (C' : Int) : BoxP ((W.setCell ⟨g, 0, none⟩ v').setCell ⟨g, 1, none⟩ (.int .i64 C')) g v' C' := set_blk (set_blk h 0 v') 1 (.int .i64 C')

/-- The outermost loops of a code, in their order. -/
def loopsOf : Code → List Code
  | .loop c => [c]
  | .seq a b => loopsOf a ++ loopsOf b
  | .block _ c => loopsOf c
  | .scope c => loopsOf c
  | .cond _ a b => loopsOf a ++ loopsOf b
  | _ => []
noncomputable def tel1 : Code := (((Try.f3.body.map loopsOf).getD []).getD 0 .skip)
noncomputable def tel2 : Code := (loopsOf tel1).getD 0 .skip
noncomputable def tel3 : Code := (loopsOf tel1).getD 1 .skip
noncomputable def tel4 : Code := (loopsOf tel1).getD 2 .skip
noncomputable def tel5 : Code := (loopsOf tel4).getD 0 .skip

end Go.Proofs.Ytmklabdfalkldaa

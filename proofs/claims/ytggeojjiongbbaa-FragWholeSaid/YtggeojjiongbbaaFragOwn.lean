/-
  What was gathered, in memory of its own: by the document; boxes of what was gathered.
-/
import Derived.Test.YtggeojjiongbbaaFragApp
import Derived.Test.YtggeojjiongbbaaFragWhole
import Derived.Test.YtggeojjiongbbaaFragDec
import Derived.BigRegion
import Derived.Deep.RegionLaw
namespace Go.Proofs.Ytggeojjiongbbaa
open Go.RowKit

abbrev gv (i q : Int) (S : Value) : Value := .agg #[.int .i64 i, .int .i64 q, S]
abbrev gcl (i q : Int) (S : Value) : Array Value := #[.int .i64 i, .int .i64 q, S]
/-- Block g is what was gathered. -/
def GatAt (w : World) (g : Nat) (i q : Int) (S : Value) : Prop := w.heap[g]? = some (.cells (gcl i q S) 46 (0, 0))
theorem GatAt.new (w : World) (i q : Int) (S : Value) : GatAt (w.alloc (.cells (gcl i q S) 46)) w.heap.size i q S := heap_alloc_new w _
theorem GatAt.lt {w : World} {g : Nat} {i q : Int} {S : Value} (h : GatAt w g i q S) : g < w.heap.size := (Array.getElem?_eq_some_iff.1 h).1
theorem GatAt.on {w w' : World} {g : Nat} {i q : Int} {S : Value} (h : GatAt w g i q S) (hb : Below w.heap.size w w') : GatAt w' g i q S := (hb.block g h.lt).trans h
theorem GatAt.grown {w w' : World} {g : Nat} {row : Option Nat} {i q : Int} {S : Value} (h : GatAt w g i q S) (hg : w.grownBy w' row) (hne : row ≠ some g) : GatAt w' g i q S := (hg.block g h.lt (fun e => hne e.symm)).trans h
theorem GatAt.cells {w : World} {g : Nat} {i q : Int} {S : Value} (h : GatAt w g i q S) : (w.cell? ⟨g, 0, none⟩ = some (.int .i64 i) ∧ w.cell? ⟨g, 1, none⟩ = some (.int .i64 q) ∧ w.cell? ⟨g, 2, none⟩ = some S) ∧ ∀ j, w.frozen? ⟨g, j, none⟩ = false :=
  ⟨⟨(cell_of h 0).trans rfl, (cell_of h 1).trans rfl, (cell_of h 2).trans rfl⟩, fun j => by simp [World.frozen?, show w.heap[g]? = _ from h]⟩
/-- All of it stored, cell by cell. -/
def put3 (w : World) (g : Nat) (i q : Int) (S : Value) : World := ((w.setCell ⟨g, 0, none⟩ (.int .i64 i)).setCell ⟨g, 1, none⟩ (.int .i64 q)).setCell ⟨g, 2, none⟩ S
theorem put3_blk {w : World} {g : Nat} {a b : Int} {T : Value} (h : GatAt w g a b T) (i q : Int) (S : Value) : GatAt (put3 w g i q S) g i q S := by
  have e0 := set_blk h 0 (.int .i64 i)
  have e1 := set_blk e0 1 (.int .i64 q)
  have e2 := set_blk e1 2 S
  exact e2
theorem put3_grown (w : World) (g : Nat) (i q : Int) (S : Value) : w.grownBy (put3 w g i q S) (some g) :=
  ⟨rfl, rfl, rfl, by unfold put3; simp, fun k _ hne => by
    have h : k ≠ g := fun e => hne (by rw [e])
    unfold put3
    rw [Below.heap_setCell _ _ _ _ h, Below.heap_setCell _ _ _ _ h, Below.heap_setCell _ _ _ _ h]⟩
theorem put3_below {B : Nat} {a w : World} (h : Below B a w) {g : Nat} (hg : B ≤ g) (i q : Int) (S : Value) : Below B a (put3 w g i q S) :=
  (((h.setCell (p := ⟨g, 0, none⟩) hg _).setCell (p := ⟨g, 1, none⟩) hg _).setCell (p := ⟨g, 2, none⟩) hg _)
theorem OwnS.on {w w' : World} {B : Nat} {u : Value} {l : List ByteArray} (h : OwnS w B u l) (hb : Below w.heap.size w w') : OwnS w' B u l := ownsRow_on h hb
theorem OwnS.base {w : World} {B B' : Nat} {u : Value} {l : List ByteArray} (h : OwnS w B u l) (hB : B' ≤ B) : OwnS w B' u l := ownsRow_base h hB
theorem OwnS.grown {w w' : World} {B b : Nat} {u : Value} {l : List ByteArray} (h : OwnS w B u l) (hg : w.grownBy w' (some b)) (hne : u.ownBlock ≠ some b) : OwnS w' B u l := World.ownsRow.kept h hg (.inr hne)
theorem Strs.grown {w w' : World} {B b : Nat} {A : Option Addr} {l : List ByteArray} (h : Strs w B A l) (hg : w.grownBy w' (some b)) (hb : B ≤ b) (hB : B ≤ w.heap.size) : Strs w' B A l :=
  h.keep fun p hp => World.cell?_of_block (hg.block p.block (by omega) (fun e => by injection e with e; omega))

set_option maxRecDepth 100000 in
/-- append as a step of a region that draws its order, its run being known. -/
theorem step_appS {ops : Array Oper} {o : Oper} {a : Act} {w w' : World} {u v1 v2 : Value} {K : Act → World → Prop} {Q : Exit → Act → World → Prop} {E : Prop} (hg : o.guard = none) (s x : Operand)
    (ho : o.op = .call { callee := .builtin .append, args := #[s, x], argTypes := #[27, 27] }) (hs : a.eval s = v1) (hx : a.eval x = v2)
    (hrun : (Builtin.append_ #[27, 27] o.type #[v1, v2]).run Try.prog w = .ok u w') (hK : K (a.put o.dst u) w') :
    if Region.wanted o (yielded ops a.tmps) = true then Oper.wp Try.prog o a w K Q else E := by
  rw [if_pos (by simp [Region.wanted, hg])]
  unfold Oper.wp
  simp [execOp, ho, resolve, invoke, builtin, hs, hx, hrun, Result.andThen]
  exact hK

def OwnPost (i q : Int) (l : List ByteArray) (w : World) (e : Ending) (w' : World) : Prop := ∃ u, e = .returned (gv i q u) ∧ OwnS w' w.heap.size u l ∧ Below w.heap.size w w'

set_option maxRecDepth 100000 in
set_option maxHeartbeats 2000000 in
theorem refOwn_any (A : Option Addr) (c : Nat) (i q : Int) (l : List ByteArray) (w : World) (hA : Strs w w.heap.size A l) (hl : l.length ≤ 1000000) :
    Calls Try.prog 23 #[gv i q (.slice A l.length c)] w (OwnPost i q l w) := by
  have hW := Joins.below_alloc1 w (.cells (gcl i q (.slice A l.length c)) 46)
  have hS := hA.below hW (Nat.le_refl _)
  have hG := GatAt.new w i q (.slice A l.length c)
  have hs1 : (w.alloc (.cells (gcl i q (.slice A l.length c)) 46)).heap.size = w.heap.size + 1 := by simp
  generalize hW1 : w.alloc (.cells (gcl i q (.slice A l.length c)) 46) = W1 at *
  have hV := Joins.below_alloc1 W1 (.cells (gcl 0 0 (.slice none 0 0)) 46)
  have hR := GatAt.new W1 0 0 (.slice none 0 0)
  have hG2 := hG.on hV
  have hS2 := hS.below hV (by omega)
  have hW2' := hW.trans (hV.mono (by omega))
  generalize hW2 : W1.alloc (.cells (gcl 0 0 (.slice none 0 0)) 46) = W2 at *
  have hlt2 : W1.heap.size < W2.heap.size := hR.lt
  obtain ⟨u, W3, hrun, hown, hgr⟩ := run_appS W2.drew (w.heap.size) w.heap.size 27 (.slice none 0 0) [] l A c (OwnS.nil _ _) (hS2.keep fun _ _ => rfl) (by show w.heap.size ≤ W2.heap.size; omega) (by simp; omega)
  rw [List.nil_append] at hown
  have hG3 : GatAt W3 w.heap.size i q (.slice A l.length c) := GatAt.grown (w := W2.drew) hG2 hgr (by simp [Value.ownBlock])
  have hR3 : GatAt W3 W1.heap.size 0 0 (.slice none 0 0) := GatAt.grown (w := W2.drew) hR hgr (by simp [Value.ownBlock])
  have HB3 := Lib.hid (hW2'.drew.grown hgr (by show w.heap.size ≤ W2.heap.size; omega) (fun g e => by simp [Value.ownBlock] at e))
  have HN : Hid (u.ownBlock ≠ some W1.heap.size) := Lib.hid (hown.block hR3 (by decide))
  have HO := Lib.hid hown
  have HR3 := Lib.hid hR3
  obtain ⟨A2, c2, hu, _, _⟩ := hown.row
  have hne : ¬ W1.heap.size = w.heap.size := by omega
  have HLE : Hid (w.heap.size ≤ W1.heap.size) := Lib.hid (by omega)
  obtain ⟨⟨x0, x1, x2⟩, _⟩ := hG2.cells
  obtain ⟨⟨y0, y1, y2⟩, _⟩ := hG3.cells
  obtain ⟨⟨r0, r1, r2⟩, hfz⟩ := hR3.cells
  have HX := Lib.hid (put3_blk hR3 i q u)
  have HY := Lib.hid (put3_grown W3 W1.heap.size i q u)
  have HZ := Lib.hid (put3_below HB3.out (by omega : w.heap.size ≤ W1.heap.size) i q u)
  clear hown hgr hG hG2 hG3 hR hR3 hS hS2 hV hW2' hW hs1 hA hlt2 HB3 HLE
  subst hu
  unfold put3 at HX HY HZ
  go_enter Try.func23, Try.ntmps23
  go_wp2_with fail
  go_region_law (refine step_appS rfl (.const (.slice none 0 0)) (.tmp 8) rfl rfl (by simp [Act.eval]) hrun ?_)
  all_goals
    go_wp2_with fail
    obtain ⟨⟨s0, s1, s2⟩, _⟩ := HX.out.cells
    exact bodyPost_ret (v := gv i q (.slice A2 l.length c2)) (by simp [results, Try.results23, go_sem, s0, s1, s2]) rfl ⟨_, rfl, HO.out.grown HY.out HN.out, HZ.out⟩

end Go.Proofs.Ytggeojjiongbbaa

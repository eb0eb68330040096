/-
  Ears as values and as they lie in memory; small calls of layer 12; what a slot does to an ear, by what is heard.
-/
import Derived.Test.YtplnmkeopdmanaaVecRefList
import Derived.Test.YtplnmkeopdmanaaRows
import Derived.WalkKit
import Derived.WalkSpells
import Derived.WalkLawsBesides
import Derived.Below
import Derived.Lib.Hide
import Derived.Lib.SmallJoins
import Derived.IntWalk
import Derived.OpenShut
import Derived.OwnWalk
import Derived.Maps.AppendAt
import Derived.Deep.RegionLaw
import Derived.Laws.OwnMore
import Derived.Deep.QuietTactic
import Derived.BigQuiet
import Derived.BigRegion
import Derived.ProofKit
import Derived.MapKept
namespace Go.Proofs.Ytplnmkeopdmanaa
open Go Go.ChangeShapes Go.WideShapes Go.ChangeAt Go.RowKit

theorem heap_new (w : World) (o : Obj) : (w.alloc o).heap[w.heap.size]? = some o := by rw [← World.alloc_eq]; exact Array.getElem?_push_size
theorem cell_of {W : World} {b : Nat} {cells : Array Value} {t : TypeId} {x : Nat × Nat} (h : W.heap[b]? = some (.cells cells t x)) (i : Nat) : W.cell? ⟨b, i, none⟩ = cells[i]? := by simp [World.cell?, h]
theorem Row.on {w w' : World} {A : Option Addr} {l : List Int} (h : Row w w.heap.size A l) (hb : Below w.heap.size w w') : Row w' w'.heap.size A l := (h.below hb (Nat.le_refl _)).more hb.size
theorem Row.take {w : World} {B : Nat} {A : Option Addr} {l : List Int} (h : Row w B A l) (n : Nat) : Row w B A (l.take n) := fun hn => by
  obtain ⟨ad, e, hb, hc⟩ := h (by rw [List.length_take] at hn; omega)
  refine ⟨ad, e, hb, fun j x hx => hc j x ?_⟩
  have hj : j < (l.take n).length := (List.getElem?_eq_some_iff.1 hx).1
  rw [List.length_take] at hj
  rwa [List.getElem?_take_of_lt (by omega)] at hx
/-- What a statement's own list is. -/
theorem Row.new (W : World) (l : List Int) : Row (W.alloc (.cells (l.map (Value.int .i64)).toArray 3)) (W.heap.size + 1) (some ⟨W.heap.size, 0, none⟩) l := fun _ =>
  ⟨_, rfl, by show W.heap.size < _; omega, fun j x hx => by
    have e : ((⟨W.heap.size, 0, none⟩ : Addr).add j) = ⟨W.heap.size, j, none⟩ := by unfold Addr.add; split <;> simp_all
    rw [e]
    unfold World.cell?
    rw [heap_new]
    simp [hx]⟩

/-! ## Raw numbers -/
def pickI (c n : Int) : Int := (if c < 0 then -(c + 1) else c) % n
theorem pickI_range (c n : Int) (hn : 0 < n) : 0 ≤ pickI c n ∧ pickI c n < n := ⟨Int.emod_nonneg _ (by omega), Int.emod_lt_of_pos _ hn⟩
theorem pick_neg_value (c n : Int) (hc : (Lit.int .i64 c).wf = true) (h : c < 0) : (wrap64 (-wrap64 (c + 1))).tmod n = pickI c n := by
  have hb := bounds_i64 hc
  rw [w64 (c + 1) (by omega) (by omega), w64 _ (by omega) (by omega), Int.tmod_eq_emod_of_nonneg (by omega)]
  unfold pickI
  rw [if_pos h]
theorem pick_pos_value (c n : Int) (h : ¬ c < 0) : c % n = pickI c n := by
  unfold pickI
  rw [if_neg h]
theorem pick_any (c n : Int) (hc : (Lit.int .i64 c).wf = true) (hn : 0 < n) (w : World) :
    Calls Try.prog 10 #[.int .i64 c, .int .i64 n] w fun e w' => e = .returned (.int .i64 (pickI c n)) ∧ w = w' := by
  by_cases h : c < 0
  · have hv := Lib.hid (pick_neg_value c n hc h)
    have HC := Lib.hid hc; clear hc
    go_enter Try.func10, Try.ntmps10
    go_wp2
    go_ret
    exact ⟨congrArg (fun n => Ending.returned (.int .i64 n)) hv.out, rfl⟩
  · have hv := Lib.hid (pick_pos_value c n h)
    have h0 : 0 ≤ c := by omega
    have HC := Lib.hid hc; clear hc
    go_enter Try.func10, Try.ntmps10
    go_wp2
    go_ret
    exact ⟨congrArg (fun n => Ending.returned (.int .i64 n)) hv.out, rfl⟩

/-! ## Small calls -/
def inB (a b n : Int) : Bool := decide (a ≤ n) && decide (n ≤ b)
theorem inB_iff (a b n : Int) : inB a b n = true ↔ a ≤ n ∧ n ≤ b := by unfold inB; simp
theorem inB_not (a b n : Int) : inB a b n = false ↔ n < a ∨ b < n := by
  rw [← Bool.not_eq_true, inB_iff]; omega
set_option maxRecDepth 100000 in
theorem within_any (a b n : Int) (w : World) :
    Calls Try.prog 30 #[.int .i64 a, .int .i64 b, .int .i64 n] w fun e w' => e = .returned (.bool (inB a b n)) ∧ w = w' := by
  by_cases h1 : a ≤ n
  · go_enter Try.func30, Try.ntmps30
    go_wp2_with fail
    go_ret
    exact ⟨ret_b (by simp [inB, h1]), rfl⟩
  · go_enter Try.func30, Try.ntmps30
    go_wp2_with fail
    go_ret
    exact ⟨ret_b (by unfold inB; rw [decide_eq_false (by omega)]; rfl), rfl⟩
theorem inB_node (n : Int) : inB 0 15 n = nodeB n := rfl
theorem isNode_any (n : Int) (w : World) :
    Calls Try.prog 26 #[.int .i64 n] w fun e w' => e = .returned (.bool (nodeB n)) ∧ w = w' := by
  have c1 := fun W => within_any 0 15 n W
  rw [inB_node] at c1
  go_enter Try.func26, Try.ntmps26
  go_wp2_with fail; refine (c1 _).mono ?_; rintro e w1 ⟨rfl, rfl⟩
  go_wp2_with fail
  go_ret
  exact ⟨rfl, rfl⟩

def moreI (n : Int) : Int := if 1073741824 ≤ n then n else wrap64 (n + 1)
theorem moreI_small (n : Int) (h0 : 0 ≤ n) (h : n < 1073741824) : moreI n = n + 1 := by
  unfold moreI; rw [if_neg (by omega), w64 _ (by omega) (by omega)]
theorem more_any (n : Int) (w : World) :
    Calls Try.prog 36 #[.int .i64 n] w fun e w' => e = .returned (.int .i64 (moreI n)) ∧ w = w' := by
  by_cases h : 1073741824 ≤ n
  · have HV : Hid (n = moreI n) := Lib.hid (by unfold moreI; rw [if_pos h])
    go_enter Try.func36, Try.ntmps36
    go_wp2_with fail
    go_ret
    exact ⟨ret_i HV.out, rfl⟩
  · have HV : Hid (wrap64 (n + 1) = moreI n) := Lib.hid (by unfold moreI; rw [if_neg h])
    go_enter Try.func36, Try.ntmps36
    go_wp2_with fail
    go_ret
    exact ⟨ret_i HV.out, rfl⟩
def olderI (n : Int) : Int := min (max n 0) 999 + 1
theorem olderI_small (n : Int) (h0 : 0 ≤ n) (h : n ≤ 999) : olderI n = n + 1 := by unfold olderI; omega
theorem older_any (n : Int) (w : World) :
    Calls Try.prog 29 #[.int .i64 n] w fun e w' => e = .returned (.int .i64 (olderI n)) ∧ w = w' := by
  have HV : Hid (min (max n 0) 999 + 1 = olderI n) := Lib.hid rfl
  go_enter Try.func29, Try.ntmps29
  go_wp2 <;> (go_ret; refine ⟨ret_i ?_, rfl⟩; rw [← HV.out]; omega)

/-! ## Ears -/
structure Er where
  h : Int
  g : Int
  b : Int
abbrev ev (e : Er) : Value := .agg #[.int .i64 e.h, .int .i64 e.g, .int .i64 e.b]
def ErAt (w : World) (b : Nat) (e : Er) : Prop := w.heap[b]? = some (.cells #[.int .i64 e.h, .int .i64 e.g, .int .i64 e.b] 26 (0, 0))
theorem ErAt.new (w : World) (e : Er) : ErAt (w.alloc (.cells #[.int .i64 e.h, .int .i64 e.g, .int .i64 e.b] 26)) w.heap.size e := heap_new w _
theorem ErAt.on {w w' : World} {b : Nat} {e : Er} (h : ErAt w b e) (hb : Below w.heap.size w w') : ErAt w' b e := (hb.block b (Array.getElem?_eq_some_iff.1 h).1).trans h
theorem ErAt.cells {w : World} {b : Nat} {e : Er} (h : ErAt w b e) : w.cell? ⟨b, 0, none⟩ = some (.int .i64 e.h) ∧ w.cell? ⟨b, 1, none⟩ = some (.int .i64 e.g) ∧ w.cell? ⟨b, 2, none⟩ = some (.int .i64 e.b) := ⟨cell_of h 0, cell_of h 1, cell_of h 2⟩
theorem ErAt.frozen {w : World} {b : Nat} {e : Er} (h : ErAt w b e) (i : Nat) : w.frozen? ⟨b, i, none⟩ = false := by simp [World.frozen?, show w.heap[b]? = _ from h]
theorem ErAt.lt {w : World} {b : Nat} {e : Er} (h : ErAt w b e) : b < w.heap.size := (Array.getElem?_eq_some_iff.1 h).1
theorem set_blk {w : World} {b : Nat} {cs : Array Value} {t : TypeId} (h : w.heap[b]? = some (.cells cs t (0, 0))) (i : Nat) (v : Value) : (w.setCell ⟨b, i, none⟩ v).heap[b]? = some (.cells (cs.setIfInBounds i v) t (0, 0)) := by
  simp [World.setCell, Array.getElem?_modify, h]
theorem ErAt.set {w : World} {b : Nat} {e : Er} (h : ErAt w b e) (f : Er) : ErAt (((w.setCell ⟨b, 0, none⟩ (.int .i64 f.h)).setCell ⟨b, 1, none⟩ (.int .i64 f.g)).setCell ⟨b, 2, none⟩ (.int .i64 f.b)) b f := set_blk (set_blk (set_blk h 0 (.int .i64 f.h)) 1 (.int .i64 f.g)) 2 (.int .i64 f.b)
theorem below_set3 {B : Nat} {a w : World} (h : Below B a w) {b : Nat} (hB : B ≤ b) (x y z : Value) : Below B a (((w.setCell ⟨b, 0, none⟩ x).setCell ⟨b, 1, none⟩ y).setCell ⟨b, 2, none⟩ z) :=
  ((h.setCell (p := ⟨b, 0, none⟩) hB x).setCell (p := ⟨b, 1, none⟩) hB y).setCell (p := ⟨b, 2, none⟩) hB z

def staysB (e : Er) : Bool := decide (e.b ≤ e.g)
theorem stays_any (e : Er) (w : World) :
    Calls Try.prog 15 #[ev e] w fun r w' => r = .returned (.bool (staysB e)) ∧ Below w.heap.size w w' := by
  have hE := ErAt.new w e
  have HB := Lib.hid (Joins.below_alloc1 w (.cells #[.int .i64 e.h, .int .i64 e.g, .int .i64 e.b] 26))
  obtain ⟨y0, y1, y2⟩ := hE.cells
  clear hE
  obtain ⟨h, g, b⟩ := e
  go_enter Try.func15, Try.ntmps15
  go_wp2_with fail
  go_ret
  exact ⟨ret_b (by unfold staysB; rfl), HB.out⟩

def goodE (e : Er) (n : Int) : Er := ⟨withI e.h n, moreI e.g, e.b⟩
def badE (e : Er) : Er := ⟨e.h, e.g, moreI e.b⟩
def hearE (e : Er) (n k : Int) : Er := if nodeB n then (if k = 1 then goodE e n else if k = 2 then badE e else e) else e
theorem hear_good (e : Er) (n : Int) (h : nodeB n = true) : hearE e n 1 = goodE e n := by unfold hearE; rw [if_pos h]; rfl
theorem hear_bad (e : Er) (n : Int) (h : nodeB n = true) : hearE e n 2 = badE e := by unfold hearE; rw [if_pos h]; rfl
theorem hear_off (e : Er) (n k : Int) (h : nodeB n = false) : hearE e n k = e := by unfold hearE; rw [h]; rfl
theorem hear_none (e : Er) (n k : Int) (h1 : k ≠ 1) (h2 : k ≠ 2) : hearE e n k = e := by unfold hearE; rw [if_neg h1, if_neg h2]; split <;> rfl

end Go.Proofs.Ytplnmkeopdmanaa

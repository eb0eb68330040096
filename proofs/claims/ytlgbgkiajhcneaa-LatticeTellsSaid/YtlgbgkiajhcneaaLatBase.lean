/-
  Lists of numbers as they lie in memory; lattices as they lie in memory; raw numbers; quotients.
-/
import Derived.Test.YtlgbgkiajhcneaaRows
import Derived.Test.YtlgbgkiajhcneaaProg
import Derived.WalkKit
import Derived.WalkSpells
import Derived.WalkLawsBesides
import Derived.Below
import Derived.Lib.Hide
import Derived.Lib.SmallJoins
import Derived.IntWalk
import Derived.OpenShut
import Derived.OwnWalk
import Derived.Maps.AppendAt
import Derived.Deep.RegionLaw
import Derived.Laws.OwnMore
import Derived.Deep.QuietTactic
import Derived.BigQuiet
import Derived.BigRegion
import Derived.ProofKit
import Derived.ChangeSlices
import Derived.Carry
namespace Go.Proofs.Ytlgbgkiajhcneaa
open Go Go.ChangeShapes Go.WideShapes Go.ChangeAt Go.RowKit

theorem ret_i {a b : Int} (h : a = b) : Ending.returned (.int .i64 a) = .returned (.int .i64 b) := by rw [h]
theorem ret_b {a b : Bool} (h : a = b) : Ending.returned (.bool a) = .returned (.bool b) := by rw [h]
theorem w64 (n : Int) (h1 : -9223372036854775808 ≤ n) (h2 : n ≤ 9223372036854775807) : wrap64 n = n := by
  unfold wrap64
  omega
theorem below_drewN {B : Nat} {a w : World} (h : Below B a w) (n : Nat) : Below B a (w.drewN n) := ⟨h.os, h.tape, h.output, h.size, h.block⟩
theorem turned {P : Program} {f : FuncId} {args : Array Value} {W : World} {v : Value} (h : Calls P f args W fun e w' => e = .returned v ∧ W = w') : Calls P f args W fun e w' => e = .returned v ∧ w' = W :=
  h.mono fun _ _ ⟨a, b⟩ => ⟨a, b.symm⟩
theorem heap_new (w : World) (o : Obj) : (w.alloc o).heap[w.heap.size]? = some o := by rw [← World.alloc_eq]; exact Array.getElem?_push_size

/-- A list of numbers as it lies in memory, below block B. -/
def Row (w : World) (B : Nat) (A : Option Addr) (l : List Int) : Prop :=
  0 < l.length → ∃ ad, A = some ad ∧ ad.block < B ∧ ∀ j x, l[j]? = some x → w.cell? (ad.add j) = some (.int .i64 x)
theorem adb (a : Addr) (n : Nat) : (a.add n).block = a.block := by unfold Addr.add; split <;> rfl
theorem Row.keep {w w' : World} {B : Nat} {A : Option Addr} {l : List Int} (h : Row w B A l) (hk : ∀ p : Addr, p.block < B → w'.cell? p = w.cell? p) : Row w' B A l := fun hn => by
  obtain ⟨ad, e, hb, hc⟩ := h hn
  exact ⟨ad, e, hb, fun j x hx => (hk _ (by rw [adb]; exact hb)).trans (hc j x hx)⟩
theorem Row.below {w w' : World} {B B' : Nat} {A : Option Addr} {l : List Int} (h : Row w B A l) (hb : Below B' w w') (hB : B ≤ B') : Row w' B A l :=
  h.keep fun _ hp => hb.cell (Nat.lt_of_lt_of_le hp hB)
theorem Row.more {w : World} {B B' : Nat} {A : Option Addr} {l : List Int} (h : Row w B A l) (hB : B ≤ B') : Row w B' A l := fun hn => by
  obtain ⟨ad, e, hb, hc⟩ := h hn
  exact ⟨ad, e, by omega, hc⟩
theorem Row.on {w w' : World} {A : Option Addr} {l : List Int} (h : Row w w.heap.size A l) (hb : Below w.heap.size w w') : Row w' w'.heap.size A l := (h.below hb (Nat.le_refl _)).more hb.size
theorem Row.nil (w : World) (B : Nat) (A : Option Addr) : Row w B A [] := fun h => absurd h (by simp)
/-- The same list, cut. -/
theorem Row.take {w : World} {B : Nat} {A : Option Addr} {l : List Int} (h : Row w B A l) (n : Nat) : Row w B A (l.take n) := fun hn => by
  obtain ⟨ad, e, hb, hc⟩ := h (by rw [List.length_take] at hn; omega)
  refine ⟨ad, e, hb, fun j x hx => hc j x ?_⟩
  have hj : j < (l.take n).length := (List.getElem?_eq_some_iff.1 hx).1
  rw [List.length_take] at hj
  rwa [List.getElem?_take_of_lt (by omega)] at hx
theorem Row.drop {w : World} {B : Nat} {ad : Addr} {l : List Int} (h : Row w B (some ad) l) (n : Nat) : Row w B (some (ad.add n)) (l.drop n) := fun hn => by
  obtain ⟨ad', e, hb, hc⟩ := h (by rw [List.length_drop] at hn; omega)
  obtain rfl := Option.some.inj e
  refine ⟨_, rfl, by rw [adb]; exact hb, fun j x hx => ?_⟩
  rw [List.getElem?_drop] at hx
  rw [Go.Deep.add_add]
  exact hc _ _ hx
/-- What a statement's own list is. -/
theorem Row.new (W : World) (l : List Int) : Row (W.alloc (.cells (l.map (Value.int .i64)).toArray 3)) (W.heap.size + 1) (some ⟨W.heap.size, 0, none⟩) l := fun _ =>
  ⟨_, rfl, by show W.heap.size < _; omega, fun j x hx => by
    have e : ((⟨W.heap.size, 0, none⟩ : Addr).add j) = ⟨W.heap.size, j, none⟩ := by unfold Addr.add; split <;> simp_all
    rw [e]
    unfold World.cell?
    rw [heap_new]
    simp [hx]⟩


theorem cell_of {W : World} {b : Nat} {cells : Array Value} {t : TypeId} {x : Nat × Nat} (h : W.heap[b]? = some (.cells cells t x)) (i : Nat) : W.cell? ⟨b, i, none⟩ = cells[i]? := by simp [World.cell?, h]
/-- A lattice, as a value and in a box. -/
abbrev lv (a g : Int) : Value := .agg #[.int .i64 a, .int .i64 g]
def LtAt (w : World) (b : Nat) (a g : Int) : Prop := w.heap[b]? = some (.cells #[.int .i64 a, .int .i64 g] 23 (0, 0))
theorem LtAt.new (w : World) (a g : Int) : LtAt (w.alloc (.cells #[.int .i64 a, .int .i64 g] 23)) w.heap.size a g := heap_new w _
theorem LtAt.on {w w' : World} {b : Nat} {a g : Int} (h : LtAt w b a g) (hb : Below w.heap.size w w') : LtAt w' b a g := (hb.block b (Array.getElem?_eq_some_iff.1 h).1).trans h
theorem LtAt.cells {w : World} {b : Nat} {a g : Int} (h : LtAt w b a g) : w.cell? ⟨b, 0, none⟩ = some (.int .i64 a) ∧ w.cell? ⟨b, 1, none⟩ = some (.int .i64 g) := ⟨cell_of h 0, cell_of h 1⟩
theorem LtAt.lt {w : World} {b : Nat} {a g : Int} (h : LtAt w b a g) : b < w.heap.size := (Array.getElem?_eq_some_iff.1 h).1

def inB (a b n : Int) : Bool := decide (a ≤ n) && decide (n ≤ b)
theorem inB_iff (a b n : Int) : inB a b n = true ↔ a ≤ n ∧ n ≤ b := by unfold inB; simp
theorem inB_not (a b n : Int) : inB a b n = false ↔ n < a ∨ b < n := by
  rw [← Bool.not_eq_true, inB_iff]; omega
set_option maxRecDepth 100000 in
theorem within_any (a b n : Int) (w : World) :
    Calls Try.prog 26 #[.int .i64 a, .int .i64 b, .int .i64 n] w fun e w' => e = .returned (.bool (inB a b n)) ∧ w = w' := by
  by_cases h1 : a ≤ n
  · go_enter Try.func26, Try.ntmps26
    go_wp2_with fail
    go_ret
    exact ⟨ret_b (by simp [inB, h1]), rfl⟩
  · go_enter Try.func26, Try.ntmps26
    go_wp2_with fail
    go_ret
    exact ⟨ret_b (by unfold inB; rw [decide_eq_false (by omega)]; rfl), rfl⟩

theorem down_neg (n b : Int) (hb : 0 < b) (h : n.tmod b < 0) : n.tdiv b - 1 = n / b ∧ n.tmod b + b = n % b := by
  have h1 := Int.mul_tdiv_add_tmod n b
  have h2 := Int.mul_ediv_add_emod n b
  have h3 := Int.emod_nonneg n (show b ≠ 0 by omega)
  have h4 := Int.emod_lt_of_pos n hb
  have h5 : -b < n.tmod b := by
    have := Int.lt_tmod_of_pos n hb
    omega
  have e : b * (n / b - n.tdiv b) = n.tmod b - n % b := by rw [Int.mul_sub]; omega
  have hq : n / b - n.tdiv b = -1 := by
    rcases Int.lt_trichotomy (n / b - n.tdiv b) (-1) with hlt | heq | hgt
    · have : b * (n / b - n.tdiv b) ≤ b * (-2) := Int.mul_le_mul_of_nonneg_left (by omega) (by omega)
      omega
    · exact heq
    · have : b * 0 ≤ b * (n / b - n.tdiv b) := Int.mul_le_mul_of_nonneg_left (by omega) (by omega)
      omega
  rw [hq] at e
  omega
theorem down_pos (n b : Int) (hb : 0 < b) (h : ¬ n.tmod b < 0) : n.tdiv b = n / b ∧ n.tmod b = n % b := by
  have h1 := Int.mul_tdiv_add_tmod n b
  have h2 := Int.mul_ediv_add_emod n b
  have h3 := Int.emod_nonneg n (show b ≠ 0 by omega)
  have h4 := Int.emod_lt_of_pos n hb
  have h5 := Int.tmod_lt_of_pos n hb
  have e : b * (n / b - n.tdiv b) = n.tmod b - n % b := by rw [Int.mul_sub]; omega
  have hq : n / b - n.tdiv b = 0 := by
    rcases Int.lt_trichotomy (n / b - n.tdiv b) 0 with hlt | heq | hgt
    · have : b * (n / b - n.tdiv b) ≤ b * (-1) := Int.mul_le_mul_of_nonneg_left (by omega) (by omega)
      omega
    · exact heq
    · have : b * 1 ≤ b * (n / b - n.tdiv b) := Int.mul_le_mul_of_nonneg_left (by omega) (by omega)
      omega
  rw [hq] at e
  omega

theorem tdiv_bound (n b : Int) : -n.natAbs ≤ n.tdiv b ∧ n.tdiv b ≤ n.natAbs := by
  have h := Int.natAbs_tdiv_le_natAbs n b
  omega
theorem tmod_bound (n b : Int) (hb : 0 < b) : -b < n.tmod b ∧ n.tmod b < b := by
  have h1 := Int.tmod_lt_of_pos n hb
  have h2 := Int.lt_tmod_of_pos n hb
  omega

theorem ret_ii {a b c d : Int} (h : a = b) (k : c = d) : Ending.returned (.tuple #[.int .i64 a, .int .i64 c]) = .returned (.tuple #[.int .i64 b, .int .i64 d]) := by rw [h, k]

set_option maxRecDepth 100000 in
theorem down_any (n b : Int) (hb : 0 < b) (hb2 : b ≤ 1048576) (hn : -4611686018427387904 ≤ n ∧ n ≤ 4611686018427387904) (w : World) :
    Calls Try.prog 37 #[.int .i64 n, .int .i64 b] w fun e w' => e = .returned (.int .i64 (n / b)) ∧ w = w' := by
  have h0 : b ≠ 0 := by omega
  obtain ⟨hn, hn2⟩ := hn
  obtain ⟨q1, q2⟩ := tdiv_bound n b
  obtain ⟨r1, r2⟩ := tmod_bound n b hb
  have HY := Lib.hid (down_neg n b hb)
  have HN := Lib.hid (down_pos n b hb)
  have hw1 : wrap64 (n.tdiv b) = n.tdiv b := w64 _ (by omega) (by omega)
  by_cases hr : n.tmod b < 0
  · have H1 := Lib.hid (HY.out hr).1
    clear HY HN
    go_enter Try.func37, Try.ntmps37
    go_wp2_with fail
    go_ret
    exact ⟨ret_i H1.out, rfl⟩
  · have H1 := Lib.hid (HN.out hr).1
    clear HY HN
    go_enter Try.func37, Try.ntmps37
    go_wp2_with fail
    go_ret
    exact ⟨ret_i H1.out, rfl⟩

/-! ## Raw numbers -/
def pickI (c n : Int) : Int := (if c < 0 then -(c + 1) else c) % n
theorem pickI_range (c n : Int) (hn : 0 < n) : 0 ≤ pickI c n ∧ pickI c n < n := ⟨Int.emod_nonneg _ (by omega), Int.emod_lt_of_pos _ hn⟩
theorem pick_neg_value (c n : Int) (hc : (Lit.int .i64 c).wf = true) (h : c < 0) : (wrap64 (-wrap64 (c + 1))).tmod n = pickI c n := by
  have hb := bounds_i64 hc
  rw [w64 (c + 1) (by omega) (by omega), w64 _ (by omega) (by omega), Int.tmod_eq_emod_of_nonneg (by omega)]
  unfold pickI
  rw [if_pos h]
theorem pick_pos_value (c n : Int) (h : ¬ c < 0) : c % n = pickI c n := by
  unfold pickI
  rw [if_neg h]
theorem pick_any (c n : Int) (hc : (Lit.int .i64 c).wf = true) (hn : 0 < n) (w : World) :
    Calls Try.prog 11 #[.int .i64 c, .int .i64 n] w fun e w' => e = .returned (.int .i64 (pickI c n)) ∧ w = w' := by
  by_cases h : c < 0
  · have hv := Lib.hid (pick_neg_value c n hc h)
    have HC := Lib.hid hc; clear hc
    go_enter Try.func11, Try.ntmps11
    go_wp2
    go_ret
    exact ⟨congrArg (fun n => Ending.returned (.int .i64 n)) hv.out, rfl⟩
  · have hv := Lib.hid (pick_pos_value c n h)
    have h0 : 0 ≤ c := by omega
    have HC := Lib.hid hc; clear hc
    go_enter Try.func11, Try.ntmps11
    go_wp2
    go_ret
    exact ⟨congrArg (fun n => Ending.returned (.int .i64 n)) hv.out, rfl⟩


end Go.Proofs.Ytlgbgkiajhcneaa

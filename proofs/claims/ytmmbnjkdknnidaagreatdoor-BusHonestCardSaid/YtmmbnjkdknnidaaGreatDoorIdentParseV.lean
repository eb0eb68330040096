/-
  Identifiers out of bytes: what ident.Parse does, and the document's.
-/
import Derived.Test.YtmmbnjkdknnidaaGreatDoorRows
import Derived.Lib.LaidTab
import Derived.Lib.SmallJoins
import Derived.WalkKit
import Derived.WalkSpells
import Derived.WalkLawsBesides
import Derived.Below
import Derived.Lib.Hide
import Derived.Lib.Strings
import Derived.Lib.Bytes
import Derived.Deep.RegionWith
import Derived.Deep.QuietTactic
import Derived.BigQuiet
import Derived.Deep.RegionHeld3
import Derived.Deep.DrawnRows
import Derived.Test.YtmmbnjkdknnidaaGreatDoorIdentBitsV
namespace Go.Proofs.YtmmbnjkdknnidaaGreatDoor
open Lib (hid)
open Go.RowKit
def Laid (w : World) : Prop := Lib.TabIs Tryz.prog w "omnibus/ident.greatest" .i64 [2047, 536870911]
theorem greatest_at : Tryz.prog.globalNamed "omnibus/ident.greatest" = some 0 := by kernel_rfl
theorem Laid.below {w w' : World} (h : Laid w) (hb : Below w.heap.size w w') : Laid w' :=
 Joins.tab_stays greatest_at h hb (Nat.le_refl _)
theorem Laid.alloc {w : World} (h : Laid w) (o : Obj) : Laid (w.alloc o) := h.below (Joins.below_alloc1 w o)
theorem Laid.zero {w : World} (h : Laid w) : w.cell? ⟨0, 0, none⟩ = some (.int .i64 2047) :=
 Lib.TabIs.cell (i := 0) h greatest_at (by decide)
theorem Laid.one {w : World} (h : Laid w) : w.cell? ⟨0, 1, none⟩ = some (.int .i64 536870911) :=
 Lib.TabIs.cell (i := 1) h greatest_at (by decide)
theorem turned {P : Program} {f : FuncId} {args : Array Value} {W : World} {v : Value} (h : Calls P f args W fun e w' => e = .returned v ∧ W = w') : Calls P f args W fun e w' => e = .returned v ∧ w' = W :=
 h.mono fun _ _ ⟨a, b⟩ => ⟨a, b.symm⟩
theorem below_drewN {B : Nat} {a w : World} (h : Below B a w) (n : Nat) : Below B a (w.drewN n) := ⟨h.os, h.tape, h.output, h.size, h.block⟩
theorem below_trans {a b c : World} (h : Below a.heap.size a b) (k : Below b.heap.size b c) : Below a.heap.size a c := h.trans (k.mono h.size)
theorem bcell {W w1 : World} (hb : Below W.heap.size W w1) : (∀ b o, b < W.heap.size → w1.cell? ⟨b, o, none⟩ = W.cell? ⟨b, o, none⟩) ∧ (∀ b o, b < W.heap.size → w1.frozen? ⟨b, o, none⟩ = W.frozen? ⟨b, o, none⟩) :=
 ⟨fun b o h => hb.cell (p := ⟨b, o, none⟩) h, fun b o h => hb.frozen (p := ⟨b, o, none⟩) h⟩
def txt (l : List UInt8) : ByteArray := ⟨l.toArray⟩
theorem txt_data (l : List UInt8) : (txt l).data.toList = l := rfl
theorem txt_size (l : List UInt8) : (txt l).size = l.length := by simp [txt, ByteArray.size]
def lim (b : Bool) : Int := if b = true then 536870911 else 2047
def rightI (b : Bool) (n : Int) : Bool := decide (0 ≤ n) && decide (n ≤ lim b)
theorem lim_true : lim true = 536870911 := rfl
theorem lim_false : lim false = 2047 := rfl
theorem lim_range (b : Bool) : 2047 ≤ lim b ∧ lim b ≤ 536870911 := by cases b <;> simp [lim]
theorem most_any (b : Bool) (w : World) (L : Laid w) :
  Calls Tryz.prog 174 #[.bool b] w fun e w' => e = .returned (.int .i64 (lim b)) ∧ w = w' := by
 have h0 := L.zero
 have h1 := L.one
 cases b
 ·go_enter Tryz.func174, Tryz.ntmps174
  go_wp2
  go_ret
  exact ⟨rfl, rfl⟩
 ·go_enter Tryz.func174, Tryz.ntmps174
  go_wp2
  go_ret
  exact ⟨rfl, rfl⟩
theorem rightI_of (b : Bool) (n : Int) (h : 0 ≤ n) : decide (n ≤ lim b) = rightI b n := by
 unfold rightI
 rw [decide_eq_true h, Bool.true_and]
theorem rightI_neg (b : Bool) (n : Int) (h : ¬ 0 ≤ n) : false = rightI b n := by
 unfold rightI
 rw [decide_eq_false h, Bool.false_and]
theorem within_any (b : Bool) (n : Int) (w : World) (L : Laid w) :
  Calls Tryz.prog 167 #[.bool b, .int .i64 n] w fun e w' => e = .returned (.bool (rightI b n)) ∧ w = w' := by
 by_cases h : 0 ≤ n
 ·have hd : decide (0 ≤ n) = true := by simpa using h
  have hr := hid (rightI_of b n h)
  go_enter Tryz.func167, Tryz.ntmps167
  go_wp2_with fail
  refine (most_any b _ L).mono ?_
  rintro e w' ⟨rfl, rfl⟩
  go_wp2_with fail
  go_ret
  exact ⟨congrArg (fun b => Ending.returned (.bool b)) hr.out, rfl⟩
 ·have hd : decide (0 ≤ n) = false := by simpa using h
  have hr := hid (rightI_neg b n h)
  go_enter Tryz.func167, Tryz.ntmps167
  go_wp2_with fail
  go_ret
  exact ⟨congrArg (fun b => Ending.returned (.bool b)) hr.out, rfl⟩
theorem right_any (b : Bool) (n : Int) (w : World) (L : Laid w) :
  Calls Tryz.prog 152 #[.agg #[.bool b, .int .i64 n]] w fun e w' => e = .returned (.bool (rightI b n)) ∧ Below w.heap.size w w' := by
 go_enter Tryz.func152, Tryz.ntmps152
 go_wp2_with fail
 refine (within_any b n _ (L.alloc _)).mono ?_
 rintro e w' ⟨rfl, rfl⟩
 go_wp2_with fail
 go_ret
 exact ⟨rfl, Joins.below_alloc1 _ _⟩
theorem refLimit_any (b : Bool) (w : World) :
  Calls Tryz.prog 150 #[.bool b] w fun e w' => e = .returned (.int .i64 (lim b)) ∧ w = w' := by
 cases b
 ·go_enter Tryz.func150, Tryz.ntmps150
  go_wp2
  go_ret
  exact ⟨rfl, rfl⟩
 ·go_enter Tryz.func150, Tryz.ntmps150
  go_wp2
  go_ret
  exact ⟨rfl, rfl⟩
theorem refRight_any (b : Bool) (n : Int) (w : World) :
  Calls Tryz.prog 125 #[.agg #[.bool b, .int .i64 n]] w fun e w' => e = .returned (.bool (rightI b n)) ∧ Below w.heap.size w w' := by
 by_cases h : 0 ≤ n
 ·have hd : decide (0 ≤ n) = true := by simpa using h
  have hr := hid (rightI_of b n h)
  have c1 := hid (fun w => refLimit_any b w)
  go_enter Tryz.func125, Tryz.ntmps125
  go_wp2_with fail
  go_quiet ((go_at_call 150; exact Calls.quiet_of_same (turned (c1.out _))))
  go_wp2_with fail
  go_ret
  exact ⟨congrArg (fun b => Ending.returned (.bool b)) hr.out, below_drewN (Joins.below_alloc1 _ _) _⟩
 ·have hd : decide (0 ≤ n) = false := by simpa using h
  have hr := hid (rightI_neg b n h)
  go_enter Tryz.func125, Tryz.ntmps125
  go_wp2_with fail
  go_quiet (fail)
  go_wp2_with fail
  go_ret
  exact ⟨congrArg (fun b => Ending.returned (.bool b)) hr.out, below_drewN (Joins.below_alloc1 _ _) _⟩
def keyI (b : Bool) (n : Int) : Int := if b = true then 524288 * (n / 262144) + 262144 + n % 262144 else 524288 * n
def keyV (b : Bool) (n : Int) : Int := if rightI b n = true then keyI b n else 0
def keyE (b : Bool) (n : Int) : Int := if rightI b n = true then 0 else 1
theorem right_range {b : Bool} {n : Int} (h : rightI b n = true) : 0 ≤ n ∧ n ≤ lim b := by
 unfold rightI at h
 simpa using h
theorem key_short (n : Int) : n * 524288 = keyI false n := by
 show _ = 524288 * n
 omega
theorem key_wide (n : Int) (h0 : 0 ≤ n) (h1 : n ≤ 536870911) :
  bits BinOp.or IntKind.i64 (bits BinOp.or IntKind.i64 (n / 262144 * 524288) 262144) (bits BinOp.and IntKind.i64 n 262143) = keyI true n := by
 have e1 : bits BinOp.or IntKind.i64 (n / 262144 * 524288) 262144 = n / 262144 * 524288 + 262144 := i64_or_parts 19 (by omega) _ _ (by omega) (by omega) (by omega) (by omega) (by omega)
 rw [e1, i64_low18, i64_or_parts 18 (by omega) _ _ (by omega) (by omega) (by omega) (by omega) (by omega)]
 show _ = 524288 * (n / 262144) + 262144 + n % 262144
 omega
theorem key_any (b : Bool) (n : Int) (w : World) (L : Laid w) :
  Calls Tryz.prog 170 #[.agg #[.bool b, .int .i64 n]] w fun e w' => e = .returned (.tuple #[.int .i64 (keyV b n), .int .i64 (keyE b n)]) ∧ Below w.heap.size w w' := by
 cases h : rightI b n
 ·have hc := fun w L => right_any b n w L
  rw [h] at hc
  have ev : keyV b n = 0 := by unfold keyV; rw [h]; rfl
  have ee : keyE b n = 1 := by unfold keyE; rw [h]; rfl
  rw [ev, ee]
  clear ev ee
  have HC := hid hc; clear hc
  have H := hid h; clear h
  go_enter Tryz.func170, Tryz.ntmps170
  go_wp2_with fail
  refine (HC.out _ (L.alloc _)).mono ?_
  rintro e w1 ⟨rfl, hb⟩
  go_wp2_with fail
  go_ret2
  exact ⟨rfl, (Joins.below_alloc1 _ _).trans (hb.mono (by simp))⟩
 ·have hc := fun w L => right_any b n w L
  rw [h] at hc
  have ev : keyV b n = keyI b n := by unfold keyV; rw [h]; rfl
  have ee : keyE b n = 0 := by unfold keyE; rw [h]; rfl
  rw [ev, ee]
  clear ev ee
  have HC := hid hc; clear hc
  have hr := right_range h
  have H := hid h; clear h
  obtain ⟨h0, h1⟩ := hr
  cases b
  ·rw [lim_false] at h1
   go_enter Tryz.func170, Tryz.ntmps170
   go_wp2_with fail
   refine (HC.out _ (L.alloc _)).mono ?_
   rintro e w1 ⟨rfl, hb⟩
   obtain ⟨hc, hf⟩ := bcell hb
   go_wp2_with fail
   go_ret2
   exact ⟨congrArg (fun n => Ending.returned (.tuple #[.int .i64 n, .int .i64 0])) (key_short n), (Joins.below_alloc1 _ _).trans (hb.mono (by simp))⟩
  ·rw [lim_true] at h1
   go_enter Tryz.func170, Tryz.ntmps170
   go_wp2_with fail
   refine (HC.out _ (L.alloc _)).mono ?_
   rintro e w1 ⟨rfl, hb⟩
   obtain ⟨hc, hf⟩ := bcell hb
   go_wp2_with fail
   go_ret2
   exact ⟨congrArg (fun n => Ending.returned (.tuple #[.int .i64 n, .int .i64 0])) (key_wide n h0 h1), (Joins.below_alloc1 _ _).trans (hb.mono (by simp))⟩
theorem refKey_any (b : Bool) (n : Int) (w : World) :
  Calls Tryz.prog 161 #[.agg #[.bool b, .int .i64 n]] w fun e w' => e = .returned (.tuple #[.int .i64 (keyV b n), .int .i64 (keyE b n)]) ∧ Below w.heap.size w w' := by
 cases h : rightI b n
 ·have hc := fun w => refRight_any b n w
  rw [h] at hc
  have ev : keyV b n = 0 := by unfold keyV; rw [h]; rfl
  have ee : keyE b n = 1 := by unfold keyE; rw [h]; rfl
  rw [ev, ee]
  clear ev ee
  have HC := hid hc; clear hc
  have H := hid h; clear h
  go_enter Tryz.func161, Tryz.ntmps161
  go_wp2_with fail
  refine (HC.out _).mono ?_
  rintro e w1 ⟨rfl, hb⟩
  go_wp2_with fail
  go_ret2
  exact ⟨rfl, (Joins.below_alloc1 _ _).trans (hb.mono (by simp))⟩
 ·have hc := fun w => refRight_any b n w
  rw [h] at hc
  have ev : keyV b n = keyI b n := by unfold keyV; rw [h]; rfl
  have ee : keyE b n = 0 := by unfold keyE; rw [h]; rfl
  rw [ev, ee]
  clear ev ee
  have HC := hid hc; clear hc
  have hr := right_range h
  have H := hid h; clear h
  obtain ⟨h0, h1⟩ := hr
  cases b
  ·rw [lim_false] at h1
   go_enter Tryz.func161, Tryz.ntmps161
   go_wp2_with fail
   refine (HC.out _).mono ?_
   rintro e w1 ⟨rfl, hb⟩
   obtain ⟨hc, hf⟩ := bcell hb
   go_wp2_with fail
   go_ret2
   exact ⟨rfl, (Joins.below_alloc1 _ _).trans (hb.mono (by simp))⟩
  ·rw [lim_true] at h1
   go_enter Tryz.func161, Tryz.ntmps161
   go_wp2_with fail
   refine (HC.out _).mono ?_
   rintro e w1 ⟨rfl, hb⟩
   obtain ⟨hc, hf⟩ := bcell hb
   go_wp2_with fail
   go_ret2
   exact ⟨rfl, (Joins.below_alloc1 _ _).trans (hb.mono (by simp))⟩
def lessI (b : Bool) (n : Int) (c : Bool) (m : Int) : Bool := rightI b n && (rightI c m && decide (keyI b n < keyI c m))
theorem keyV_right {b : Bool} {n : Int} (h : rightI b n = true) : keyV b n = keyI b n := by unfold keyV; rw [h]; rfl
theorem keyE_right {b : Bool} {n : Int} (h : rightI b n = true) : keyE b n = 0 := by unfold keyE; rw [h]; rfl
theorem keyV_wrong {b : Bool} {n : Int} (h : rightI b n = false) : keyV b n = 0 := by unfold keyV; rw [h]; rfl
theorem keyE_wrong {b : Bool} {n : Int} (h : rightI b n = false) : keyE b n = 1 := by unfold keyE; rw [h]; rfl
theorem less_any (b : Bool) (n : Int) (c : Bool) (m : Int) (w : World) (L : Laid w) :
  Calls Tryz.prog 159 #[.agg #[.bool b, .int .i64 n], .agg #[.bool c, .int .i64 m]] w fun e w' => e = .returned (.bool (lessI b n c m)) ∧ Below w.heap.size w w' := by
 have c1 := fun w L => key_any b n w L
 have c2 := fun w L => key_any c m w L
 obtain ⟨r, hr⟩ : ∃ r, r = lessI b n c m := ⟨_, rfl⟩
 rw [← hr]
 unfold lessI at hr
 cases h1 : rightI b n
 ·rw [keyV_wrong h1, keyE_wrong h1] at c1
  rw [h1, Bool.false_and] at hr
  generalize keyV c m = K2 at c2
  generalize keyE c m = E2 at c2
  have C1 := hid c1; clear c1
  have C2 := hid c2; clear c2
  have H1 := hid h1; clear h1
  subst hr
  go_enter Tryz.func159, Tryz.ntmps159
  go_wp2_with fail
  refine (C1.out _ ((L.alloc _).alloc _)).mono ?_
  rintro e w1 ⟨rfl, hb1⟩
  obtain ⟨hc, hf⟩ := bcell hb1
  go_wp2_with fail
  refine (C2.out _ (((L.alloc _).alloc _).below hb1)).mono ?_
  rintro e w2 ⟨rfl, hb2⟩
  go_wp2_with fail
  go_ret
  exact ⟨rfl, (Joins.below_alloc2 _ _ _).trans ((hb1.mono (by simp; omega)).trans (hb2.mono (by have := hb1.size; simp at this; omega)))⟩
 ·rw [keyV_right h1, keyE_right h1] at c1
  rw [h1, Bool.true_and] at hr
  cases h2 : rightI c m
  ·rw [keyV_wrong h2, keyE_wrong h2] at c2
   rw [h2, Bool.false_and] at hr
   generalize keyI b n = K1 at c1
   have C1 := hid c1; clear c1
   have C2 := hid c2; clear c2
   have H1 := hid h1; clear h1
   have H2 := hid h2; clear h2
   subst hr
   go_enter Tryz.func159, Tryz.ntmps159
   go_wp2_with fail
   refine (C1.out _ ((L.alloc _).alloc _)).mono ?_
   rintro e w1 ⟨rfl, hb1⟩
   obtain ⟨hc, hf⟩ := bcell hb1
   go_wp2_with fail
   refine (C2.out _ (((L.alloc _).alloc _).below hb1)).mono ?_
   rintro e w2 ⟨rfl, hb2⟩
   go_wp2_with fail
   go_ret
   exact ⟨rfl, (Joins.below_alloc2 _ _ _).trans ((hb1.mono (by simp; omega)).trans (hb2.mono (by have := hb1.size; simp at this; omega)))⟩
  ·rw [keyV_right h2, keyE_right h2] at c2
   rw [h2, Bool.true_and] at hr
   generalize keyI b n = K1 at c1 hr
   generalize keyI c m = K2 at c2 hr
   have C1 := hid c1; clear c1
   have C2 := hid c2; clear c2
   have H1 := hid h1; clear h1
   have H2 := hid h2; clear h2
   have HR := hid hr; clear hr
   go_enter Tryz.func159, Tryz.ntmps159
   go_wp2_with fail
   refine (C1.out _ ((L.alloc _).alloc _)).mono ?_
   rintro e w1 ⟨rfl, hb1⟩
   obtain ⟨hc, hf⟩ := bcell hb1
   go_wp2_with fail
   refine (C2.out _ (((L.alloc _).alloc _).below hb1)).mono ?_
   rintro e w2 ⟨rfl, hb2⟩
   go_wp2_with fail
   go_ret
   exact ⟨congrArg (fun b => Ending.returned (.bool b)) HR.out.symm, (Joins.below_alloc2 _ _ _).trans ((hb1.mono (by simp; omega)).trans (hb2.mono (by have := hb1.size; simp at this; omega)))⟩
theorem refLess_any (b : Bool) (n : Int) (c : Bool) (m : Int) (w : World) :
  Calls Tryz.prog 137 #[.agg #[.bool b, .int .i64 n], .agg #[.bool c, .int .i64 m]] w fun e w' => e = .returned (.bool (lessI b n c m)) ∧ Below w.heap.size w w' := by
 have c1 := fun w => refKey_any b n w
 have c2 := fun w => refKey_any c m w
 obtain ⟨r, hr⟩ : ∃ r, r = lessI b n c m := ⟨_, rfl⟩
 rw [← hr]
 unfold lessI at hr
 cases h1 : rightI b n
 ·rw [keyV_wrong h1, keyE_wrong h1] at c1
  rw [h1, Bool.false_and] at hr
  generalize keyV c m = K2 at c2
  generalize keyE c m = E2 at c2
  have C1 := hid c1; clear c1
  have C2 := hid c2; clear c2
  have H1 := hid h1; clear h1
  subst hr
  go_enter Tryz.func137, Tryz.ntmps137
  go_wp2_with fail
  refine (C1.out _).mono ?_
  rintro e w1 ⟨rfl, hb1⟩
  obtain ⟨hc, hf⟩ := bcell hb1
  go_wp2_with fail
  refine (C2.out _).mono ?_
  rintro e w2 ⟨rfl, hb2⟩
  go_wp2_with fail
  go_ret
  exact ⟨rfl, (Joins.below_alloc2 _ _ _).trans ((hb1.mono (by simp; omega)).trans (hb2.mono (by have := hb1.size; simp at this; omega)))⟩
 ·rw [keyV_right h1, keyE_right h1] at c1
  rw [h1, Bool.true_and] at hr
  cases h2 : rightI c m
  ·rw [keyV_wrong h2, keyE_wrong h2] at c2
   rw [h2, Bool.false_and] at hr
   generalize keyI b n = K1 at c1
   have C1 := hid c1; clear c1
   have C2 := hid c2; clear c2
   have H1 := hid h1; clear h1
   have H2 := hid h2; clear h2
   subst hr
   go_enter Tryz.func137, Tryz.ntmps137
   go_wp2_with fail
   refine (C1.out _).mono ?_
   rintro e w1 ⟨rfl, hb1⟩
   obtain ⟨hc, hf⟩ := bcell hb1
   go_wp2_with fail
   refine (C2.out _).mono ?_
   rintro e w2 ⟨rfl, hb2⟩
   go_wp2_with fail
   go_ret
   exact ⟨rfl, (Joins.below_alloc2 _ _ _).trans ((hb1.mono (by simp; omega)).trans (hb2.mono (by have := hb1.size; simp at this; omega)))⟩
  ·rw [keyV_right h2, keyE_right h2] at c2
   rw [h2, Bool.true_and] at hr
   generalize keyI b n = K1 at c1 hr
   generalize keyI c m = K2 at c2 hr
   have C1 := hid c1; clear c1
   have C2 := hid c2; clear c2
   have H1 := hid h1; clear h1
   have H2 := hid h2; clear h2
   have HR := hid hr; clear hr
   go_enter Tryz.func137, Tryz.ntmps137
   go_wp2_with fail
   refine (C1.out _).mono ?_
   rintro e w1 ⟨rfl, hb1⟩
   obtain ⟨hc, hf⟩ := bcell hb1
   go_wp2_with fail
   refine (C2.out _).mono ?_
   rintro e w2 ⟨rfl, hb2⟩
   go_wp2_with fail
   go_ret
   exact ⟨congrArg (fun b => Ending.returned (.bool b)) HR.out.symm, (Joins.below_alloc2 _ _ _).trans ((hb1.mono (by simp; omega)).trans (hb2.mono (by have := hb1.size; simp at this; omega)))⟩
def numI (b : Bool) (n : Int) : Int := if b = true then n + 2147483648 else n
def octet (n : Int) : UInt8 := UInt8.ofNat (n % 256).toNat
def four (n : Int) : List UInt8 := [octet (n / 16777216), octet (n / 65536), octet (n / 256), octet n]
def printI (b : Bool) (n : Int) : List UInt8 := if rightI b n = true then four (numI b n) else []
theorem octet_small (n : Int) (h : 0 ≤ n) : UInt8.ofNat n.toNat = octet n := by
 unfold octet
 apply UInt8.toNat_inj.1
 simp
 omega
theorem octet_of (x y : Int) (h0 : 0 ≤ x) (h : x % 256 = y % 256) : UInt8.ofNat x.toNat = octet y := by
 rw [octet_small x h0]
 unfold octet
 rw [h]
theorem list4 {a b c d a' b' c' d' : UInt8} (h1 : a = a') (h2 : b = b') (h3 : c = c') (h4 : d = d') : [a, b, c, d] = [a', b', c', d'] := by rw [h1, h2, h3, h4]
theorem four_bytes (w : World) (a b c d : Int) : (convert 42 9 (.slice (some ⟨w.heap.size, 0, none⟩) 4 4)).run Tryz.prog (w.alloc (.cells #[.int .u8 a, .int .u8 b, .int .u8 c, .int .u8 d] 5)) = .ok (.string (txt [UInt8.ofNat a.toNat, UInt8.ofNat b.toNat, UInt8.ofNat c.toNat, UInt8.ofNat d.toNat])) (w.alloc (.cells #[.int .u8 a, .int .u8 b, .int .u8 c, .int .u8 d] 5)) := by
 refine run_convert_bytes_arg (P := Tryz.prog) _ 42 5 Tryz.underlying42 Tryz.underlying5 w.heap.size 0 4 4 [a, b, c, d] rfl ?_ 9 Tryz.underlying9
 intro i hi
 have : i = 0 ∨ i = 1 ∨ i = 2 ∨ i = 3 := by omega
 rcases this with rfl | rfl | rfl | rfl <;> simp [go_sem]
theorem print_any (b : Bool) (n : Int) (w : World) (L : Laid w) :
  Calls Tryz.prog 155 #[.agg #[.bool b, .int .i64 n]] w fun e w' => e = .returned (.tuple #[.string (txt (printI b n)), .int .i64 (keyE b n)]) ∧ Below w.heap.size w w' := by
 cases h : rightI b n
 ·have hc := fun w L => right_any b n w L
  rw [h] at hc
  have ev : printI b n = [] := by unfold printI; rw [h]; rfl
  rw [ev, keyE_wrong h]
  clear ev
  have HC := hid hc; clear hc
  have H := hid h; clear h
  go_enter Tryz.func155, Tryz.ntmps155
  go_wp2_with fail
  refine (HC.out _ (L.alloc _)).mono ?_
  rintro e w1 ⟨rfl, hb⟩
  go_wp2_with fail
  go_ret2
  exact ⟨rfl, (Joins.below_alloc1 _ _).trans (hb.mono (by simp))⟩
 ·have hc := fun w L => right_any b n w L
  rw [h] at hc
  have ev : printI b n = four (numI b n) := by unfold printI; rw [h]; rfl
  rw [ev, keyE_right h]
  clear ev
  have HC := hid hc; clear hc
  have hr := right_range h
  have H := hid h; clear h
  obtain ⟨h0, h1⟩ := hr
  cases b
  ·rw [lim_false] at h1
   go_enter Tryz.func155, Tryz.ntmps155
   go_wp2_with fail
   refine (HC.out _ (L.alloc _)).mono ?_
   rintro e w1 ⟨rfl, hb⟩
   obtain ⟨hc, hf⟩ := bcell hb
   have h4 := four_bytes
   go_wp2_with fail
   go_ret2
   refine ⟨congrArg (fun l => Ending.returned (.tuple #[.string (txt l), .int .i64 0])) ?_, ((Joins.below_alloc1 _ _).trans (hb.mono (by simp))).alloc (by have := hb.size; simp at this; omega) _⟩
   unfold four
   show _ = [octet (n / 16777216), octet (n / 65536), octet (n / 256), octet (n)]
   exact list4 (octet_of _ _ (by omega) (by omega)) (octet_of _ _ (by omega) (by omega)) (octet_of _ _ (by omega) (by omega)) (octet_of _ _ (by omega) (by omega))
  ·rw [lim_true] at h1
   have hor := i64_or_bit31 n h0 (by omega)
   go_enter Tryz.func155, Tryz.ntmps155
   go_wp2_with fail
   refine (HC.out _ (L.alloc _)).mono ?_
   rintro e w1 ⟨rfl, hb⟩
   obtain ⟨hc, hf⟩ := bcell hb
   have h4 := four_bytes
   go_wp2_with fail
   go_ret2
   refine ⟨congrArg (fun l => Ending.returned (.tuple #[.string (txt l), .int .i64 0])) ?_, ((Joins.below_alloc1 _ _).trans (hb.mono (by simp))).alloc (by have := hb.size; simp at this; omega) _⟩
   unfold four
   show _ = [octet ((n + 2147483648) / 16777216), octet ((n + 2147483648) / 65536), octet ((n + 2147483648) / 256), octet ((n + 2147483648))]
   exact list4 (octet_of _ _ (by omega) (by omega)) (octet_of _ _ (by omega) (by omega)) (octet_of _ _ (by omega) (by omega)) (octet_of _ _ (by omega) (by omega))
def numL (l : List UInt8) : Int := l.foldl (fun n c => n * 256 + (c.toNat : Int)) 0
def psB (l : List UInt8) : Bool := decide (2147483648 ≤ numL l)
def psN (l : List UInt8) : Int := numL l % 2147483648
def psOk (l : List UInt8) : Bool := decide (l.length = 4) && rightI (psB l) (psN l)
def psRB (l : List UInt8) : Bool := psOk l && psB l
def psRN (l : List UInt8) : Int := if psOk l = true then psN l else 0
def psE (l : List UInt8) : Int := if l.length < 4 then 3 else if 4 < l.length then 4 else if psOk l = true then 0 else 2
def ParsePost (l : List UInt8) (w : World) (e : Ending) (w' : World) : Prop := e = .returned (.tuple #[.agg #[.bool (psRB l), .int .i64 (psRN l)], .int .i64 (psE l)]) ∧ Below w.heap.size w w'
theorem numL_snoc (l : List UInt8) (c : UInt8) : numL (l ++ [c]) = numL l * 256 + (c.toNat : Int) := by
 unfold numL
 rw [List.foldl_append]; rfl
theorem numL_take (l : List UInt8) (k : Nat) (h : k < l.length) : numL (l.take (k + 1)) = numL (l.take k) * 256 + (l[k].toNat : Int) := by
 rw [List.take_succ_eq_append_getElem h, numL_snoc]
theorem numL_range : ∀ (l : List UInt8), 0 ≤ numL l ∧ numL l < ((256 ^ l.length : Nat) : Int) := by
 intro l
 suffices h : ∀ (k : Nat), k ≤ l.length → 0 ≤ numL (l.take k) ∧ numL (l.take k) < ((256 ^ k : Nat) : Int) by
  have := h l.length (Nat.le_refl _)
  rwa [List.take_length] at this
 intro k
 induction k with
 | zero => intro _; rw [List.take_zero]; exact ⟨Int.le_refl 0, by decide⟩
 | succ k ih =>
  intro hk
  obtain ⟨h1, h2⟩ := ih (by omega)
  rw [numL_take l k (by omega)]
  have hc := l[k].toNat_lt
  rw [Nat.pow_succ]
  omega
theorem numL_part (l : List UInt8) (k : Nat) (hk : k ≤ 3) : 0 ≤ numL (l.take k) ∧ numL (l.take k) < 16777216 := by
 have h := numL_range (l.take k)
 have h2 : (l.take k).length ≤ 3 := by rw [List.length_take]; omega
 have h3 : (256 : Nat) ^ (l.take k).length ≤ 256 ^ 3 := Nat.pow_le_pow_right (by omega) h2
 omega
theorem ps_none (l : List UInt8) (E : Int) (hok : psOk l = false) (hE : psE l = E) : ∀ w w', Below w.heap.size w w' → ParsePost l w (.returned (.tuple #[.agg #[.bool false, .int .i64 0], .int .i64 E])) w' := by
 intro w w' hb
 refine ⟨?_, hb⟩
 have e1 : psRB l = false := by unfold psRB; rw [hok]; rfl
 have e2 : psRN l = 0 := by unfold psRN; rw [hok]; rfl
 rw [e1, e2, hE]
theorem ps_one (l : List UInt8) (hl : l.length = 4) (hok : psOk l = true) : ∀ w w', Below w.heap.size w w' → ParsePost l w (.returned (.tuple #[.agg #[.bool (psB l), .int .i64 (psN l)], .int .i64 0])) w' := by
 intro w w' hb
 refine ⟨?_, hb⟩
 have e1 : psRB l = psB l := by unfold psRB; rw [hok]; rfl
 have e2 : psRN l = psN l := by unfold psRN; rw [hok]; rfl
 have e3 : psE l = 0 := by unfold psE; rw [if_neg (by omega), if_neg (by omega), hok]; rfl
 rw [e1, e2, e3]
theorem parse_bit (n : Int) (h0 : 0 ≤ n) (h1 : n < 4294967296) : (bits BinOp.and IntKind.i64 n 2147483648 != 0) = decide (2147483648 ≤ n) := by
 rw [i64_bit31]
 by_cases h : 2147483648 ≤ n
 ·rw [decide_eq_true h]
  have : n / 2147483648 % 2 * 2147483648 = 2147483648 := by omega
  rw [this]; rfl
 ·rw [decide_eq_false h]
  have : n / 2147483648 % 2 * 2147483648 = 0 := by omega
  rw [this]; rfl
theorem parse_short (s : ByteArray) (w : World) (hs : s.size < 4) :
  Calls Tryz.prog 177 #[.string s] w (ParsePost s.data.toList w) := by
 have hl : s.data.toList.length = s.size := (Lib.size_eq s).symm
 have HQ := hid (ps_none s.data.toList 3 (by unfold psOk; rw [decide_eq_false (by omega)]; rfl) (by unfold psE; rw [if_pos (by omega)]))
 clear hl
 go_enter Tryz.func177, Tryz.ntmps177
 go_wp2_with fail
 exact bodyPost_ret (v := .tuple #[.agg #[.bool false, .int .i64 0], .int .i64 3]) (by simp [results, Tryz.results177, go_sem]) rfl (HQ.out _ _ (Joins.below_alloc1 _ _))
theorem parse_long (s : ByteArray) (w : World) (hs : 4 < s.size) (hm : s.size ≤ maxLen) :
  Calls Tryz.prog 177 #[.string s] w (ParsePost s.data.toList w) := by
 unfold maxLen at hm
 have hl : s.data.toList.length = s.size := (Lib.size_eq s).symm
 have HQ := hid (ps_none s.data.toList 4 (by unfold psOk; rw [decide_eq_false (by omega)]; rfl) (by unfold psE; rw [if_neg (by omega), if_pos (by omega)]))
 clear hl
 go_enter Tryz.func177, Tryz.ntmps177
 go_wp2_with fail
 exact bodyPost_ret (v := .tuple #[.agg #[.bool false, .int .i64 0], .int .i64 4]) (by simp [results, Tryz.results177, go_sem]) rfl (HQ.out _ _ (Joins.below_alloc1 _ _))
theorem wrap_byte (c : UInt8) : wrap64 (c.toNat : Int) = (c.toNat : Int) := by
 have hc := c.toNat_lt
 unfold wrap64
 omega
theorem parse_four (s : ByteArray) (w : World) (L : Laid w) (hs : s.size = 4) :
  Calls Tryz.prog 177 #[.string s] w (ParsePost s.data.toList w) := by
 have hl : s.data.toList.length = 4 := by rw [← Lib.size_eq, hs]
 have h3 : 4 ≤ s.size := by omega
 have h4 : s.size ≤ 4 := by omega
 obtain ⟨hn0, hn1⟩ := numL_range s.data.toList
 rw [hl] at hn1
 have hn2 : numL s.data.toList < 4294967296 := hn1
 have hB := parse_bit (numL s.data.toList) hn0 hn2
 have hN := i64_drop31 (numL s.data.toList) hn0 hn2
 have hB2 : psB s.data.toList = decide (2147483648 ≤ numL s.data.toList) := rfl
 have hN2 : psN s.data.toList = numL s.data.toList % 2147483648 := rfl
 rw [← hB2] at hB
 rw [← hN2] at hN
 have hq : psOk s.data.toList = rightI (psB s.data.toList) (psN s.data.toList) := by unfold psOk; rw [decide_eq_true hl, Bool.true_and]
 have HQ1 := fun h => hid (ps_one s.data.toList hl h)
 have HQ0 := fun h => hid (ps_none s.data.toList 2 h (by unfold psE; rw [if_neg (by omega), if_neg (by omega), h]; rfl))
 rw [hq] at HQ1 HQ0
 clear hq hB2 hN2
 generalize psB s.data.toList = B at HQ1 HQ0 hB
 generalize psN s.data.toList = N at HQ1 HQ0 hN
 have HB := hid hB; clear hB
 have HN := hid hN; clear hN
 have HS := hid hs; clear hs
 have HL := hid hl; clear hl
 clear hn0 hn1 hn2
 have c1 := fun w L => right_any B N w L
 cases h : rightI B N
 ·rw [h] at c1
  have HQ := HQ0 h
  clear HQ0 HQ1
  have C1 := hid c1; clear c1
  have H := hid h; clear h
  go_enter Tryz.func177, Tryz.ntmps177
  go_wp2_with fail
  go_loop [4, 15] (fun n i => ∃ k : Nat, k ≤ 4 ∧ i = .int .i64 k ∧ n = .int .i64 (numL (s.data.toList.take k))) (fun _ i => 4 - (intOf i).toNat)
  case atStart => exact ⟨0, Nat.zero_le _, rfl, rfl⟩
  case round =>
   obtain ⟨k, hk, rfl, rfl⟩ := hrel
   by_cases hlt : k < 4
   ·have hks : k < s.size := by omega
    obtain ⟨hp0, hp1⟩ := numL_part s.data.toList k (by omega)
    have HN := hid (numL_take s.data.toList k (by rw [HL.out]; exact hlt))
    go_wp2_with fail
    go_round
    case rel =>
     refine ⟨k + 1, by omega, by go_num, ?_⟩
     rw [wrap_byte, HN.out, i64_byte _ _ hp0 hp1]; rfl
    case measure => simp [intOf]; omega
   ·have hk4 : s.data.toList.take k = s.data.toList := List.take_of_length_le (by rw [HL.out]; omega)
    rw [hk4]
    have HK := hid hk4; clear hk4
    have hB := HB.out
    have hN := HN.out
    generalize numL s.data.toList = M at hB hN
    go_wp2_with fail
    refine (C1.out _ ((L.alloc _).alloc _)).mono ?_
    rintro e w1 ⟨rfl, hb1⟩
    obtain ⟨hc, hf⟩ := bcell hb1
    have hz : w.heap.size + 1 < w1.heap.size := by have := hb1.size; simp at this; omega
    have q0 : w1.cell? ⟨w.heap.size, 0, none⟩ = some (.bool false) := (hc _ _ (by simp; omega)).trans (by simp [go_sem])
    have q1 : w1.cell? ⟨w.heap.size, 1, none⟩ = some (.int .i64 0) := (hc _ _ (by simp; omega)).trans (by simp [go_sem])
    go_wp2_with fail
    exact bodyPost_ret (v := .tuple #[.agg #[.bool false, .int .i64 0], .int .i64 2]) (by simp [results, Tryz.results177, go_sem, q0, q1]) rfl (HQ.out _ _ ((((Joins.below_alloc2 _ _ _).trans (hb1.mono (by simp; omega))).setCell (by simp) _).setCell (by simp) _))
 ·rw [h] at c1
  have HQ := HQ1 h
  clear HQ0 HQ1
  have C1 := hid c1; clear c1
  have H := hid h; clear h
  go_enter Tryz.func177, Tryz.ntmps177
  go_wp2_with fail
  go_loop [4, 15] (fun n i => ∃ k : Nat, k ≤ 4 ∧ i = .int .i64 k ∧ n = .int .i64 (numL (s.data.toList.take k))) (fun _ i => 4 - (intOf i).toNat)
  case atStart => exact ⟨0, Nat.zero_le _, rfl, rfl⟩
  case round =>
   obtain ⟨k, hk, rfl, rfl⟩ := hrel
   by_cases hlt : k < 4
   ·have hks : k < s.size := by omega
    obtain ⟨hp0, hp1⟩ := numL_part s.data.toList k (by omega)
    have HN := hid (numL_take s.data.toList k (by rw [HL.out]; exact hlt))
    go_wp2_with fail
    go_round
    case rel =>
     refine ⟨k + 1, by omega, by go_num, ?_⟩
     rw [wrap_byte, HN.out, i64_byte _ _ hp0 hp1]; rfl
    case measure => simp [intOf]; omega
   ·have hk4 : s.data.toList.take k = s.data.toList := List.take_of_length_le (by rw [HL.out]; omega)
    rw [hk4]
    have HK := hid hk4; clear hk4
    have hB := HB.out
    have hN := HN.out
    generalize numL s.data.toList = M at hB hN
    go_wp2_with fail
    refine (C1.out _ ((L.alloc _).alloc _)).mono ?_
    rintro e w1 ⟨rfl, hb1⟩
    obtain ⟨hc, hf⟩ := bcell hb1
    have hz : w.heap.size + 1 < w1.heap.size := by have := hb1.size; simp at this; omega
    have q0 : w1.cell? ⟨w.heap.size, 0, none⟩ = some (.bool false) := (hc _ _ (by simp; omega)).trans (by simp [go_sem])
    have q1 : w1.cell? ⟨w.heap.size, 1, none⟩ = some (.int .i64 0) := (hc _ _ (by simp; omega)).trans (by simp [go_sem])
    go_wp2_with fail
    exact bodyPost_ret (v := .tuple #[.agg #[.bool B, .int .i64 N], .int .i64 0]) (by simp [results, Tryz.results177, go_sem, q0, q1]) rfl (HQ.out _ _ ((((Joins.below_alloc2 _ _ _).trans (hb1.mono (by simp; omega))).setCell (by simp) _).setCell (by simp) _))
theorem parse_any (s : ByteArray) (w : World) (L : Laid w) (hm : s.size ≤ maxLen) :
  Calls Tryz.prog 177 #[.string s] w (ParsePost s.data.toList w) := by
 by_cases h1 : s.size < 4
 ·exact parse_short s w h1
 by_cases h2 : 4 < s.size
 ·exact parse_long s w h2 hm
 exact parse_four s w L (by omega)
end Go.Proofs.YtmmbnjkdknnidaaGreatDoor

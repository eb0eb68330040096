/-
  What the frame of the law BusHonest asks besides: one fault, opened and shut.
-/
import Derived.ProofKit
import Derived.LaidMore
import Derived.OpenShut
import Derived.ShutString
import Derived.ChangeOld
import Derived.SizedLaws
import Derived.Stop.Joined
import Derived.Test.YtmmbnjkdknnidaaGreatDoorIdentParseV
import Derived.Carry
import Derived.Test.YtmmbnjkdknnidaaGreatDoorMsgOwnV
import Derived.Test.YtmmbnjkdknnidaaGreatDoorMsgRowsV
import Derived.ChangeSlices
import Derived.Test.YtmmbnjkdknnidaaGreatDoorFrRightV
import Derived.BigRegion
import Derived.Test.YtmmbnjkdknnidaaGreatDoorRows
import Derived.Test.YtmmbnjkdknnidaaGreatDoorFragPickV
import Derived.Test.YtmmbnjkdknnidaaGreatDoorFragGatV
import Derived.Deep.DeepCutAuto
import Derived.Test.YtmmbnjkdknnidaaGreatDoorBusAwakeV
import Derived.Test.YtmmbnjkdknnidaaGreatDoorBusDecV
set_option maxRecDepth 100000
namespace Go.Proofs.YtmmbnjkdknnidaaGreatDoor
open Go Go.ChangeShapes Go.WideShapes Go.ChangeAt Go.RowKit Go.Joins
theorem own : ownKnob Tryz.prog.godebug = none := by kernel_rfl
theorem laidOut : laidOutB Tryz.prog = true := by kernel_rfl
theorem door_met (os : Os) (args : Array Value) : laidMetH Tryz.prog [("omnibus/ident.greatest", Rows.laid_omnibus_ident_greatest)] ((World.doorLaid Tryz.prog 400 os).forCall (fun _ _ => 0) ⟨#[], args, []⟩).memory :=
 laidMetH_of_parts3 (fuel := 8) (laidMet_of_run' 8 (by kernel_rfl) (by kernel_rfl)) (by kernel_rfl) (by kernel_rfl)
theorem laid_of {W : World} (h : laidMetH Tryz.prog [("omnibus/ident.greatest", Rows.laid_omnibus_ident_greatest)] W) : Laid W := by
 rw [MakeChecks.laidMetH_plain _ _ _ (by kernel_rfl)] at h
 exact Lib.tabIs_of_head (k := .i64) (zs := [2047, 536870911]) (rest := []) greatest_at (t := 199) (by kernel_rfl) Tryz.underlying199 Tryz.underlying3 (by kernel_rfl) (by kernel_rfl) h
section
variable {H : Type} {enc : TypeId × Value → H} {w : World} {base : Nat} {spare : Nat → Bool} {held : Bool}
end
end Go.Proofs.YtmmbnjkdknnidaaGreatDoor
namespace Go.Proofs.YtmmbnjkdknnidaaGreatDoor
open Go Go.ChangeShapes Go.WideShapes Go.ChangeAt Go.RowKit Go.Joins Go.Deep
theorem list6 {α : Type} (l : List α) (h : l.length = 6) : ∃ a b c d e f, l = [a, b, c, d, e, f] := by
 match l, h with
 | [a, b, c, d, e, f], _ => exact ⟨a, b, c, d, e, f, rfl⟩
section
variable {H : Type} {enc : TypeId × Value → H} {w : World} {base : Nat} {spare : Nat → Bool} {held : Bool}
def ints6 (r0 r1 r2 r3 r4 r5 : Int) : Array Value := #[.int .i64 r0, .int .i64 r1, .int .i64 r2, .int .i64 r3, .int .i64 r4, .int .i64 r5]
theorem open_six_cells {fuel : Nat} {cs : List Value} {x : DataW H × List MemPlace} (h : DataW.trod enc Tryz.prog w base spare held fuel 120 cs = some x) :
  ∃ r0 r1 r2 r3 r4 r5 : Int, cs = (ints6 r0 r1 r2 r3 r4 r5).toList ∧ x = (.agg [.lit (.int .i64 r0), .lit (.int .i64 r1), .lit (.int .i64 r2), .lit (.int .i64 r3), .lit (.int .i64 r4), .lit (.int .i64 r5)], []) ∧ (Lit.int .i64 r0).wf = true ∧ (Lit.int .i64 r1).wf = true ∧ (Lit.int .i64 r2).wf = true ∧ (Lit.int .i64 r3).wf = true ∧ (Lit.int .i64 r4).wf = true ∧ (Lit.int .i64 r5).wf = true := by
 have hc : Tryz.prog.cellsOf 120 = 6 := by kernel_rfl
 have hi : Tryz.prog.cellsOf 3 = 1 := by kernel_rfl
 obtain ⟨xs, n, _, rfl, hl, hlen, hf⟩ := DataW.trod_array Tryz.underlying120 h
 rw [hc] at hl
 obtain ⟨c0, c1, c2, c3, c4, c5, rfl⟩ := list6 cs hl
 obtain ⟨y0, y1, y2, y3, y4, y5, rfl⟩ := list6 xs hlen
 have f0 := hf 0 (by decide)
 have f1 := hf 1 (by decide)
 have f2 := hf 2 (by decide)
 have f3 := hf 3 (by decide)
 have f4 := hf 4 (by decide)
 have f5 := hf 5 (by decide)
 rw [hi] at f0 f1 f2 f3 f4 f5
 obtain ⟨a0, e0, r0, w0⟩ := DataW.trod_int Tryz.underlying3 f0
 obtain ⟨a1, e1, r1, w1⟩ := DataW.trod_int Tryz.underlying3 f1
 obtain ⟨a2, e2, r2, w2⟩ := DataW.trod_int Tryz.underlying3 f2
 obtain ⟨a3, e3, r3, w3⟩ := DataW.trod_int Tryz.underlying3 f3
 obtain ⟨a4, e4, r4, w4⟩ := DataW.trod_int Tryz.underlying3 f4
 obtain ⟨a5, e5, r5, w5⟩ := DataW.trod_int Tryz.underlying3 f5
 simp at e0 e1 e2 e3 e4 e5
 subst e0 e1 e2 e3 e4 e5 r0 r1 r2 r3 r4 r5
 exact ⟨a0, a1, a2, a3, a4, a5, rfl, by simp, w0, w1, w2, w3, w4, w5⟩
end
end Go.Proofs.YtmmbnjkdknnidaaGreatDoor
namespace Go.Proofs.YtmmbnjkdknnidaaGreatDoor
open Go Go.ChangeShapes Go.WideShapes Go.ChangeAt Go.RowKit Go.Joins Go.Deep
theorem list_of_each {α : Type} (P : Nat → α → Prop) : ∀ (n : Nat), (∀ i, i < n → ∃ f, P i f) → ∃ l : List α, l.length = n ∧ ∀ i f, l[i]? = some f → P i f
 | 0, _ => ⟨[], rfl, fun i f h => by cases h⟩
 | n + 1, h => by
  obtain ⟨l, hl, hp⟩ := list_of_each P n (fun i hi => h i (by omega))
  obtain ⟨f, hf⟩ := h n (by omega)
  refine ⟨l ++ [f], by rw [List.length_append, hl]; rfl, fun i g hg => ?_⟩
  rcases Nat.lt_trichotomy i n with h1 | h1 | h1
  ·rw [List.getElem?_append_left (by omega)] at hg
   exact hp i g hg
  ·subst h1
   rw [List.getElem?_append_right (by omega), hl, Nat.sub_self] at hg
   have : f = g := by simpa using hg
   rw [← this]; exact hf
  ·rw [List.getElem?_eq_none (by rw [List.length_append, hl, List.length_singleton]; omega)] at hg
   cases hg
section
variable {H : Type} {enc : TypeId × Value → H} {w : World} {base : Nat} {held : Bool}
theorem open_rows {v : Value} {d : DataW H} {p : List MemPlace} (hv : ∃ a n c, v = .slice a n c) (h : DataW.Trod enc Tryz.prog w base (fun _ => true) held 25 v d p) :
  ∃ (A : Option Addr) (cap : Nat) (l : List Raw), v = .slice A l.length cap ∧ RowsOk w A cap l := by
 obtain ⟨A, n, cap, rfl⟩ := hv
 obtain ⟨fuel, hf⟩ := h
 have hc : Tryz.prog.cellsOf 120 = 6 := by kernel_rfl
 rcases open_slice Tryz.underlying25 hf with ⟨h0, _⟩ | ⟨a, len, cap', m, n', D, Pl, hcs, hba, hl, hm, hmm, hx, hel⟩
 ·have : Value.slice A n cap = .slice none 0 0 := by simpa [Value.cells] using h0
  injection this with e1 e2 e3
  subst e1 e2 e3
  exact ⟨none, 0, [], rfl, fun h => absurd h (by simp), ⟨Nat.le_refl _, by unfold maxLen; omega⟩, fun j r h => by cases h⟩
 ·have : Value.slice A n cap = .slice (some a) len cap' := by simpa [Value.cells] using hcs
  injection this with e1 e2 e3
  subst e1 e2 e3
  rw [if_pos rfl] at hmm
  subst hmm
  have each : ∀ i, i < n → ∃ r : Raw, At6 w (a.add (i * 6)) r ∧ WfR r := by
   intro i hin
   obtain ⟨cs, h1, h2⟩ := hel i (by omega)
   rw [hc] at h1
   obtain ⟨_, h3, h4⟩ := World.cells?_some h1
   obtain ⟨r0, r1, r2, r3, r4, r5, hcs6, _, hw⟩ := open_six_cells h2
   subst hcs6
   have q0 := h4 0 (by omega)
   have q1 := h4 1 (by omega)
   have q2 := h4 2 (by omega)
   have q3 := h4 3 (by omega)
   have q4 := h4 4 (by omega)
   have q5 := h4 5 (by omega)
   exact ⟨⟨r0, r1, r2, r3, r4, r5⟩, ⟨q0, q1, q2, q3, q4, q5⟩, hw⟩
  obtain ⟨l, hll, hlp⟩ := list_of_each _ n each
  subst hll
  refine ⟨some a, _, l, rfl, fun hn => ⟨a, rfl, ?_, fun j r hr => (hlp j r hr).1⟩, ⟨hl, hm⟩, fun j r hr => (hlp j r hr).2⟩
  obtain ⟨r, hr, _⟩ := each 0 hn
  have := World.block_lt_of_cell? w _ hr.1
  rwa [adb] at this
end
end Go.Proofs.YtmmbnjkdknnidaaGreatDoor
namespace Go.Proofs.YtmmbnjkdknnidaaGreatDoor
open Go Go.ChangeShapes Go.WideShapes Go.ChangeAt Go.RowKit Go.Joins Go.Deep
theorem list3 {α : Type} (l : List α) (h : l.length = 3) : ∃ a b c, l = [a, b, c] := by
 match l, h with
 | [a, b, c], _ => exact ⟨a, b, c, rfl⟩
structure Three where
 n0 : Int
 n1 : Int
 n2 : Int
def Wf3 (t : Three) : Prop := (Lit.int .i64 t.n0).wf = true ∧ (Lit.int .i64 t.n1).wf = true ∧ (Lit.int .i64 t.n2).wf = true
section
variable {H : Type} {enc : TypeId × Value → H} {w : World} {base : Nat} {spare : Nat → Bool} {held : Bool}
def ints3 (t : Three) : Array Value := #[.int .i64 t.n0, .int .i64 t.n1, .int .i64 t.n2]
def dat3 (H : Type) (t : Three) : DataW H := .agg [.lit (.int .i64 t.n0), .lit (.int .i64 t.n1), .lit (.int .i64 t.n2)]
theorem open_three_cells {fuel : Nat} {cs : List Value} {x : DataW H × List MemPlace} (h : DataW.trod enc Tryz.prog w base spare held fuel 24 cs = some x) :
  ∃ t : Three, cs = (ints3 t).toList ∧ x = (dat3 H t, []) ∧ Wf3 t := by
 have hc : Tryz.prog.cellsOf 24 = 3 := by kernel_rfl
 have hi : Tryz.prog.cellsOf 3 = 1 := by kernel_rfl
 obtain ⟨xs, n, _, rfl, hl, hlen, hf⟩ := DataW.trod_array Tryz.underlying24 h
 rw [hc] at hl
 obtain ⟨c0, c1, c2, rfl⟩ := list3 cs hl
 obtain ⟨y0, y1, y2, rfl⟩ := list3 xs hlen
 have f0 := hf 0 (by decide)
 have f1 := hf 1 (by decide)
 have f2 := hf 2 (by decide)
 rw [hi] at f0 f1 f2
 obtain ⟨a0, e0, r0, w0⟩ := DataW.trod_int Tryz.underlying3 f0
 obtain ⟨a1, e1, r1, w1⟩ := DataW.trod_int Tryz.underlying3 f1
 obtain ⟨a2, e2, r2, w2⟩ := DataW.trod_int Tryz.underlying3 f2
 simp at e0 e1 e2
 subst e0 e1 e2 r0 r1 r2
 exact ⟨⟨a0, a1, a2⟩, rfl, by simp [dat3], w0, w1, w2⟩
theorem open_three {r : Reach} {b0 : Nat} {v : Value} {d : DataW H} {p : List MemPlace} (hv : Value.okWide Tryz.prog w r b0 24 v) (h : DataW.Trod enc Tryz.prog w base spare held 24 v d p) :
  ∃ t : Three, v = .agg #[.int .i64 t.n0, .int .i64 t.n1, .int .i64 t.n2] ∧ d = dat3 H t ∧ p = [] ∧ Wf3 t := by
 obtain ⟨cs, rfl, hsz, _⟩ : ∃ cs, v = .agg cs ∧ cs.size = Tryz.prog.cellsOf 24 ∧ Row.okWide Tryz.prog w r b0 24 cs := by
  simpa [Value.okWide, Tryz.underlying24] using hv
 obtain ⟨fuel, hf⟩ := h
 obtain ⟨t, e, hx, hw⟩ := open_three_cells hf
 simp only [Prod.mk.injEq] at hx
 refine ⟨t, ?_, hx.1, hx.2, hw⟩
 have : cs = ints3 t := Array.ext' e
 rw [this]; rfl
theorem shut_three {t : Three} (h : Wf3 t) : DataW.Trod enc Tryz.prog w base spare held 24 (.agg #[.int .i64 t.n0, .int .i64 t.n1, .int .i64 t.n2]) (dat3 H t) [] := by
 have hi : Tryz.prog.cellsOf 3 = 1 := by kernel_rfl
 have hc : Tryz.prog.cellsOf 24 = 3 := by kernel_rfl
 obtain ⟨h0, h1, h2⟩ := h
 exact ⟨2, by simp [DataW.trod, Value.cells, Tryz.underlying24, Tryz.underlying3, hi, hc, h0, h1, h2, List.range_succ, dat3]⟩
end
section
variable {H : Type} {enc : TypeId × Value → H} {w : World} {base : Nat} {held : Bool}
theorem open_incs_cells {A : Option Addr} {n cap : Nat} {fuel : Nat} {x : DataW H × List MemPlace} (hf : DataW.trod enc Tryz.prog w base (fun _ => true) held fuel 22 [.slice A n cap] = some x) :
  ∃ l : List Int, n = l.length ∧ IncsOk w A cap l := by
 rcases open_ints Tryz.underlying22 Tryz.underlying3 (by kernel_rfl) hf with ⟨h0, _⟩ | ⟨a, len, cap', zs, hcs, hb, hl, hm, hz, hx, hcell, hwf⟩
 ·have : Value.slice A n cap = .slice none 0 0 := by simpa using h0
  injection this with e1 e2 e3
  subst e1 e2 e3
  exact ⟨[], rfl, V.Row.nil _ _ _, ⟨Nat.le_refl _, by unfold maxLen; omega⟩, fun n hn => by cases hn⟩
 ·have : Value.slice A n cap = .slice (some a) len cap' := by simpa using hcs
  injection this with e1 e2 e3
  subst e1 e2 e3
  rw [if_pos rfl] at hz
  have hlen : (zs.take n).length = n := by rw [List.length_take]; omega
  have at_ : ∀ j x, (zs.take n)[j]? = some x → w.cell? (a.add j) = some (.int .i64 x) := fun j x hx => by
   have hj : j < n := by have := (List.getElem?_eq_some_iff.1 hx).1; omega
   rw [List.getElem?_take_of_lt hj] at hx
   rw [hcell j (by omega)]
   simp [List.getD, hx]
  refine ⟨zs.take n, hlen.symm, fun hn => ⟨a, rfl, ?_, at_⟩, ⟨by omega, hm⟩, fun x hx => hwf x (List.mem_of_mem_take hx)⟩
  have h0 := World.block_lt_of_cell? w _ (at_ 0 _ (List.getElem?_eq_getElem hn))
  rwa [adb] at h0
theorem open_incs {v : Value} {d : DataW H} {p : List MemPlace} (hv : ∃ a n c, v = .slice a n c) (h : DataW.Trod enc Tryz.prog w base (fun _ => true) held 22 v d p) :
  ∃ (A : Option Addr) (c : Nat) (l : List Int), v = .slice A l.length c ∧ IncsOk w A c l := by
 obtain ⟨A, n, cap, rfl⟩ := hv
 obtain ⟨fuel, hf⟩ := h
 obtain ⟨l, rfl, hl⟩ := open_incs_cells (by simpa [Value.cells] using hf)
 exact ⟨A, cap, l, rfl, hl⟩
end
end Go.Proofs.YtmmbnjkdknnidaaGreatDoor
namespace Go.Proofs.YtmmbnjkdknnidaaGreatDoor.F
open Go Go.ChangeShapes Go.WideShapes Go.ChangeAt Go.RowKit Go.Joins Go.Deep
theorem list4 {α : Type} (l : List α) (h : l.length = 4) : ∃ a b c d, l = [a, b, c, d] := by
 match l, h with
 | [a, b, c, d], _ => exact ⟨a, b, c, d, rfl⟩
def datR (H : Type) (r : Raw) : DataW H := .agg [.lit (.int .i64 r.a), .lit (.int .i64 r.b), .lit (.int .i64 r.c), .lit (.int .i64 r.d)]
section
variable {H : Type} {enc : TypeId × Value → H} {w : World} {base : Nat} {spare : Nat → Bool} {held : Bool}
def rcl (r : Raw) : Array Value := #[.int .i64 r.a, .int .i64 r.b, .int .i64 r.c, .int .i64 r.d]
theorem open_four_cells {fuel : Nat} {cs : List Value} {x : DataW H × List MemPlace} (h : DataW.trod enc Tryz.prog w base spare held fuel 23 cs = some x) :
  ∃ r : Raw, cs = (rcl r).toList ∧ x = (datR H r, []) ∧ WfR r := by
 have hc : Tryz.prog.cellsOf 23 = 4 := by kernel_rfl
 have hi : Tryz.prog.cellsOf 3 = 1 := by kernel_rfl
 obtain ⟨xs, n, _, rfl, hl, hlen, hf⟩ := DataW.trod_array Tryz.underlying23 h
 rw [hc] at hl
 obtain ⟨c0, c1, c2, c3, rfl⟩ := list4 cs hl
 obtain ⟨y0, y1, y2, y3, rfl⟩ := list4 xs hlen
 have f0 := hf 0 (by decide)
 have f1 := hf 1 (by decide)
 have f2 := hf 2 (by decide)
 have f3 := hf 3 (by decide)
 rw [hi] at f0 f1 f2 f3
 obtain ⟨a0, e0, r0, w0⟩ := DataW.trod_int Tryz.underlying3 f0
 obtain ⟨a1, e1, r1, w1⟩ := DataW.trod_int Tryz.underlying3 f1
 obtain ⟨a2, e2, r2, w2⟩ := DataW.trod_int Tryz.underlying3 f2
 obtain ⟨a3, e3, r3, w3⟩ := DataW.trod_int Tryz.underlying3 f3
 simp at e0 e1 e2 e3
 subst e0 e1 e2 e3 r0 r1 r2 r3
 exact ⟨⟨a0, a1, a2, a3⟩, rfl, by simp [datR], w0, w1, w2, w3⟩
theorem open_four {r : Reach} {b0 : Nat} {v : Value} {d : DataW H} {p : List MemPlace} (hv : Value.okWide Tryz.prog w r b0 23 v) (h : DataW.Trod enc Tryz.prog w base spare held 23 v d p) :
  ∃ r : Raw, v = rv r ∧ d = datR H r ∧ p = [] ∧ WfR r := by
 obtain ⟨cs, rfl, hsz, _⟩ : ∃ cs, v = .agg cs ∧ cs.size = Tryz.prog.cellsOf 23 ∧ Row.okWide Tryz.prog w r b0 23 cs := by
  simpa [Value.okWide, Tryz.underlying23] using hv
 obtain ⟨fuel, hf⟩ := h
 obtain ⟨q, e, hx, hw⟩ := open_four_cells hf
 simp only [Prod.mk.injEq] at hx
 refine ⟨q, ?_, hx.1, hx.2, hw⟩
 have : cs = rcl q := Array.ext' e
 rw [this]; rfl
theorem shut_four {r : Raw} (h : WfR r) : DataW.Trod enc Tryz.prog w base spare held 23 (rv r) (datR H r) [] := by
 have hi : Tryz.prog.cellsOf 3 = 1 := by kernel_rfl
 have hc : Tryz.prog.cellsOf 23 = 4 := by kernel_rfl
 obtain ⟨h0, h1, h2, h3⟩ := h
 exact ⟨2, by simp [DataW.trod, Value.cells, Tryz.underlying23, Tryz.underlying3, hi, hc, h0, h1, h2, h3, List.range_succ, datR]⟩
end
section
variable {H : Type} {enc : TypeId × Value → H} {w : World} {base : Nat} {held : Bool}
end
end Go.Proofs.YtmmbnjkdknnidaaGreatDoor.F
namespace Go.Proofs.YtmmbnjkdknnidaaGreatDoor
open Go Go.ChangeShapes Go.WideShapes Go.ChangeAt Go.RowKit Go.Joins Go.Deep
theorem list3_9 {α : Type} (l : List α) (h : l.length = 3) : ∃ a b c, l = [a, b, c] := by
 match l, h with
 | [a, b, c], _ => exact ⟨a, b, c, rfl⟩
section
variable {H : Type} {enc : TypeId × Value → H} {w : World} {base : Nat} {held : Bool}
end
end Go.Proofs.YtmmbnjkdknnidaaGreatDoor
namespace Go.Proofs.YtmmbnjkdknnidaaGreatDoor
open Go Go.ChangeShapes Go.WideShapes Go.ChangeAt Go.RowKit Go.Joins Go.Deep
section
variable {H : Type} {enc : TypeId × Value → H} {w : World} {base : Nat} {spare : Nat → Bool} {held : Bool}
theorem open_fault {r : Reach} {b0 : Nat} {v : Value} {d : DataW H} {q : List MemPlace} (hv : Value.okWide Tryz.prog w r b0 61 v) (h : DataW.Trod enc Tryz.prog w base spare held 61 v d q) :
  ∃ a0 a1 a2 : Int, v = .agg #[.int .i64 a0, .int .i64 a1, .int .i64 a2] ∧ d = .agg [.lit (.int .i64 a0), .lit (.int .i64 a1), .lit (.int .i64 a2)] ∧ q = [] ∧ (Lit.int .i64 a0).wf = true ∧ (Lit.int .i64 a1).wf = true ∧ (Lit.int .i64 a2).wf = true := by
 obtain ⟨cs, rfl, hsz, _⟩ : ∃ cs, v = .agg cs ∧ cs.size = Tryz.prog.cellsOf 61 ∧ Row.okWide Tryz.prog w r b0 61 cs := by
  simpa [Value.okWide, Tryz.underlying61] using hv
 obtain ⟨fuel, hf⟩ := h
 have hf' : DataW.trod enc Tryz.prog w base spare held fuel 61 cs.toList = some (d, q) := hf
 have hc : Tryz.prog.cellsOf 61 = 3 := by kernel_rfl
 have hi : Tryz.prog.cellsOf 3 = 1 := by kernel_rfl
 obtain ⟨xs, n, _, hx, hl, hlen, hff⟩ := DataW.trod_struct Tryz.underlying61 hf'
 rw [hc] at hl
 obtain ⟨c0, c1, c2, hcs⟩ := list3_9 _ hl
 obtain ⟨y0, y1, y2, rfl⟩ := list3_9 xs hlen
 rw [hcs] at hff
 have f0 : DataW.trod enc Tryz.prog w base spare held n 3 (([c0, c1, c2].drop 0).take (Tryz.prog.cellsOf 3)) = some y0 := hff 0 _ rfl
 have f1 : DataW.trod enc Tryz.prog w base spare held n 3 (([c0, c1, c2].drop 1).take (Tryz.prog.cellsOf 3)) = some y1 := hff 1 _ rfl
 have f2 : DataW.trod enc Tryz.prog w base spare held n 3 (([c0, c1, c2].drop 2).take (Tryz.prog.cellsOf 3)) = some y2 := hff 2 _ rfl
 rw [hi] at f0 f1 f2
 obtain ⟨a0, e0, r0, w0⟩ := DataW.trod_int Tryz.underlying3 f0
 obtain ⟨a1, e1, r1, w1⟩ := DataW.trod_int Tryz.underlying3 f1
 obtain ⟨a2, e2, r2, w2⟩ := DataW.trod_int Tryz.underlying3 f2
 simp at e0 e1 e2
 subst e0 e1 e2 r0 r1 r2
 have : cs = #[.int .i64 a0, .int .i64 a1, .int .i64 a2] := Array.ext' hcs
 have hd := (Prod.ext_iff.1 hx).1
 have hq := (Prod.ext_iff.1 hx).2
 exact ⟨a0, a1, a2, by rw [this], by simpa using hd, by simpa using hq, w0, w1, w2⟩
theorem shut_fault {a0 a1 a2 : Int} (h : (Lit.int .i64 a0).wf = true ∧ (Lit.int .i64 a1).wf = true ∧ (Lit.int .i64 a2).wf = true) : DataW.Trod enc Tryz.prog w base spare held 61 (.agg #[.int .i64 a0, .int .i64 a1, .int .i64 a2]) (.agg [.lit (.int .i64 a0), .lit (.int .i64 a1), .lit (.int .i64 a2)]) [] := by
 have hc : Tryz.prog.cellsOf 61 = 3 := by kernel_rfl
 have hi : Tryz.prog.cellsOf 3 = 1 := by kernel_rfl
 obtain ⟨h0, h1, h2⟩ := h
 exact ⟨3, by simp [DataW.trod, Value.cells, Tryz.underlying61, Tryz.underlying3, hc, hi, h0, h1, h2]⟩
end
end Go.Proofs.YtmmbnjkdknnidaaGreatDoor

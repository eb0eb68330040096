/-
  What was gathered, and a piece put to it: plain mathematics; the memory in which both lie.
-/
import Derived.Test.YtmmbnjkdknnidaaGreatDoorFragTripV
import Derived.Test.YtmmbnjkdknnidaaGreatDoorFragEncPV
import Derived.Test.YtmmbnjkdknnidaaGreatDoorCloneV
import Derived.BigRegion
import Derived.Deep.RegionLaw
import Derived.Laws.MakeOwn
import Derived.Test.YtmmbnjkdknnidaaGreatDoorFragSplitV
set_option maxHeartbeats 1000000
set_option maxRecDepth 100000
namespace Go.Proofs.YtmmbnjkdknnidaaGreatDoor.F
open Lib (hid)
open Go.RowKit
theorem clone_any (s : ByteArray) (hs : s.size ≤ 281474976710656) (w : World) :
  Calls Tryz.prog 104 #[.string s] w fun e w' => e = .returned (.string s) ∧ Below w.heap.size w w' := by
 go_enter Tryz.func104, Tryz.ntmps104
 go_wp2_with (go_at_call 138; refine (stringsliteClone _ _ hs).mono ?_; rintro e w' ⟨rfl, hb⟩)
 go_ret
 exact ⟨rfl, hb⟩
def numB (l : List UInt8) : Nat := l.foldl (fun n b => n * 256 + b.toNat) 0
theorem numB_take (l : List UInt8) (k : Nat) (h : k < l.length) : numB (l.take (k + 1)) = numB (l.take k) * 256 + (l.getD k 0).toNat := by
 unfold numB
 rw [List.take_succ_eq_append_getElem h, List.foldl_append, List.getD_eq_getElem?_getD, List.getElem?_eq_getElem h]
 rfl
theorem numB_small (l : List UInt8) (h : l.length ≤ 1) : numB l < 256 := by
 match l, h with
 | [], _ => decide
 | [x], _ => show 0 * 256 + x.toNat < 256; have := x.toNat_lt; omega
theorem numB_one (x : UInt8) : numB [x] = x.toNat := by show 0 * 256 + x.toNat = _; omega
theorem numB_two (x y : UInt8) : numB [x, y] = 256 * x.toNat + y.toNat := by show (0 * 256 + x.toNat) * 256 + y.toNat = _; omega
theorem i64_or_nat (a b : Nat) (ha : a < 256) (hb : b < 256) : bits .or .i64 ((a : Int) * 256) (b : Int) = (a : Int) * 256 + (b : Int) := by
 have e : (a * 256) ||| b = a * 256 + b := by
  have := Nat.shiftLeft_add_eq_or_of_lt (i := 8) (b := b) (by omega) a
  rw [Nat.shiftLeft_eq] at this
  exact this.symm
 have e1 : (a : Int) * 256 = ((a * 256 : Nat) : Int) := by omega
 rw [e1]
 unfold bits
 simp only [ofInt_i64_nat]
 show IntKind.i64.wrap (((BitVec.ofNat 64 (a * 256) ||| BitVec.ofNat 64 b).toNat : Nat) : Int) = _
 rw [BitVec.toNat_or, BitVec.toNat_ofNat, BitVec.toNat_ofNat, Nat.mod_eq_of_lt (by omega), Nat.mod_eq_of_lt (by omega), e, wrap_i64_small _ (by omega)]
 omega
theorem number_any (s : ByteArray) (hs : s.size ≤ 2) (w : World) : Calls Tryz.prog 140 #[.string s] w fun e w' => e = .returned (.int .i64 (numB s.data.toList)) ∧ w = w' := by
 have hl := Lib.size_eq s
 have HL := hid hl; clear hl
 obtain ⟨R, hR⟩ : ∃ R, R = numB s.data.toList := ⟨_, rfl⟩
 rw [← hR]
 have HR := hid hR; clear hR
 have hs' : (s.size : Int) ≤ 2 := by omega
 go_enter Tryz.func140, Tryz.ntmps140
 go_wp2
 go_loopw [3, 7] (fun n ix wr => ∃ k : Nat, k ≤ s.size ∧ ix = .int .i64 k ∧ n = .int .i64 (numB (s.data.toList.take k)) ∧ w = wr) (fun _ ix _ => s.size - (intOf ix).toNat)
 case atStart => exact ⟨0, by omega, rfl, rfl, rfl⟩
 case round =>
  obtain ⟨k, hk, rfl, rfl, rfl⟩ := hrel
  by_cases hlt : k < s.size
  ·have ha := run_at s k k rfl hlt
   have hb := numB_small (s.data.toList.take k) (by rw [List.length_take]; omega)
   have HT := hid (numB_take s.data.toList k (by rw [← HL.out]; exact hlt))
   have hx := (s.data.toList.getD k 0).toNat_lt
   generalize numB (s.data.toList.take k) = N at *
   generalize (s.data.toList.getD k 0).toNat = X at *
   have hor := i64_or_nat N X hb hx
   have hw : IntKind.i64.wrap (X : Int) = X := IntWalk.i64_in _ (by omega)
   go_wp2_with fail
   go_roundw
   case rel => exact ⟨k + 1, by omega, by go_num, by rw [HT.out]; go_num, trivial⟩
   case measure => simp [intOf]; omega
  ·have ek : k = s.size := by omega
   subst ek
   have e : s.data.toList.take s.size = s.data.toList := List.take_of_length_le (by rw [HL.out]; exact Nat.le_refl _)
   go_wp2_with fail
   go_ret
   exact ⟨ret_i (by rw [HR.out, e]), rfl⟩
theorem grown_of_below {w w' : World} (h : Below w.heap.size w w') (row : Option Nat) : w.grownBy w' row := ⟨h.os, h.tape, h.output, h.size, fun k hk _ => h.block k hk⟩
theorem below_of_grown {B b : Nat} {a w w' : World} (h : Below B a w) (hg : w.grownBy w' (some b)) (hb : B ≤ b) (hs : B ≤ w.heap.size) : Below B a w' := h.grown hg hs fun g e => by cases e; exact hb
theorem grown_setCell (w : World) (B i : Nat) (v : Value) : w.grownBy (w.setCell ⟨B, i, none⟩ v) (some B) :=
 ⟨rfl, rfl, rfl, by simp, fun k _ hne => Below.heap_setCell _ _ _ _ fun e => hne (by rw [e])⟩
def TextAt (w : World) (B : Nat) (s : ByteArray) : Prop := w.heap[B]? = some (.cells #[.string s] 9 (0, 0))
theorem TextAt.on {w w' : World} {B : Nat} {s : ByteArray} (h : TextAt w B s) (hb : Below w.heap.size w w') : TextAt w' B s := (hb.block B (Array.getElem?_eq_some_iff.1 h).1).trans h
theorem TextAt.set {w : World} {B : Nat} {s : ByteArray} (h : TextAt w B s) (t : ByteArray) : TextAt (w.setCell ⟨B, 0, none⟩ (.string t)) B t := by
 have := set_blk h 0 (.string t)
 exact this
theorem taker_any (s : ByteArray) (w : World) : Calls Tryz.prog 139 #[.string s] w fun e w' => e = .returned (.func (.func 162) #[] #[.pointer (some ⟨w.heap.size, 0, none⟩)]) ∧ w' = w.alloc (.cells #[.string s] 9) := by
 go_enter Tryz.func139, Tryz.ntmps139
 go_wp2
 go_ret
 exact ⟨rfl, rfl⟩
theorem take_any (B n : Nat) (s : ByteArray) (w : World) (hB : TextAt w B s) (hn : n ≤ s.size) (hs : s.size ≤ 281474976710656) :
  Calls Tryz.prog 162 #[.int .i64 n, .pointer (some ⟨B, 0, none⟩)] w fun e w' => e = .returned (.string (txt (s.data.toList.take n))) ∧ (w.grownBy w' (some B) ∧ TextAt w' B (txt (s.data.toList.drop n))) := by
 have k1 := run_to s n n rfl hn
 have k2 := run_from s n n rfl hn
 have c0 : w.cell? ⟨B, 0, none⟩ = some (.string s) := (cell_of hB 0).trans rfl
 have hfz : w.frozen? ⟨B, 0, none⟩ = false := by simp [World.frozen?, show w.heap[B]? = _ from hB]
 have cc := fun w => clone_any (txt (s.data.toList.take n)) (by rw [txt_size, List.length_take, ← Lib.size_eq]; omega) w
 have hT := hB.set (txt (s.data.toList.drop n))
 have hg := grown_setCell w B 0 (.string (txt (s.data.toList.drop n)))
 generalize txt (s.data.toList.take n) = T1 at *
 generalize txt (s.data.toList.drop n) = T2 at *
 have HT := hid hT; clear hT
 have HG := hid hg; clear hg hB
 go_enter Tryz.func162, Tryz.ntmps162
 go_wp2_with fail; refine (cc _).mono ?_; rintro e w1 ⟨rfl, b1⟩
 have HB1 := hid b1; clear b1
 go_wp2_with fail
 go_ret
 exact ⟨rfl, HG.out.trans (grown_of_below HB1.out _), HT.out.on HB1.out⟩
theorem PcAt.lt {w : World} {g : Nat} {p : Pc} (h : PcAt w g p) : g < w.heap.size := (Array.getElem?_eq_some_iff.1 h).1
theorem PcAt.grown {w w' : World} {g b : Nat} {p : Pc} (h : PcAt w g p) (hg : w.grownBy w' (some b)) (hne : g ≠ b) : PcAt w' g p :=
 (hg.block g h.lt (fun e => hne (Option.some.inj e))).trans h
end Go.Proofs.YtmmbnjkdknnidaaGreatDoor.F

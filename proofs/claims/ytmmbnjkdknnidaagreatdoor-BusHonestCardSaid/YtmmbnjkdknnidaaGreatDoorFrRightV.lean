/-
  Which frames may be, by the program.
-/
import Derived.BigRegion
import Derived.Test.YtmmbnjkdknnidaaGreatDoorEntDecV
import Derived.Test.YtmmbnjkdknnidaaGreatDoorIdentBitsV
import Derived.Test.YtmmbnjkdknnidaaGreatDoorMsgDecPV
import Derived.Deep.RegionHeld3
import Derived.Test.YtmmbnjkdknnidaaGreatDoorOncePhaseV
import Derived.Test.YtmmbnjkdknnidaaGreatDoorEntRawV
import Derived.Test.YtmmbnjkdknnidaaGreatDoorVecRefListV
import Derived.Test.YtmmbnjkdknnidaaGreatDoorMsgRowsV
import Derived.Test.YtmmbnjkdknnidaaGreatDoorFrMathV
import Derived.Test.YtmmbnjkdknnidaaGreatDoorFragEncPV
import Derived.RangeFuncNested
import Derived.Test.YtmmbnjkdknnidaaGreatDoorMsgEncPV
import Derived.Test.YtmmbnjkdknnidaaGreatDoorEntEncV
set_option maxHeartbeats 16000000
set_option maxRecDepth 100000
namespace Go.Proofs.YtmmbnjkdknnidaaGreatDoor
open Lib (hid)
open Go.RowKit
structure Touch (P : Nat → Prop) (w w' : World) : Prop where
 os : w'.os = w.os
 tape : w'.tape = w.tape
 output : w'.output = w.output
 size : w.heap.size ≤ w'.heap.size
 block : ∀ k, k < w.heap.size → ¬ P k → w'.heap[k]? = w.heap[k]?
theorem Touch.refl (P : Nat → Prop) (w : World) : Touch P w w := ⟨rfl, rfl, rfl, Nat.le_refl _, fun _ _ _ => rfl⟩
theorem Touch.trans {P : Nat → Prop} {a b c : World} (h : Touch P a b) (k : Touch P b c) : Touch P a c :=
 ⟨k.os.trans h.os, k.tape.trans h.tape, k.output.trans h.output, Nat.le_trans h.size k.size, fun i hi hp => (k.block i (Nat.lt_of_lt_of_le hi h.size) hp).trans (h.block i hi hp)⟩
theorem Touch.mono {P P' : Nat → Prop} {a b : World} (h : Touch P a b) (hp : ∀ k, k < a.heap.size → P k → P' k) : Touch P' a b :=
 ⟨h.os, h.tape, h.output, h.size, fun i hi hn => h.block i hi fun e => hn (hp i hi e)⟩
theorem Touch.of {P : Nat → Prop} {a b : World} (h : Below a.heap.size a b) : Touch P a b := ⟨h.os, h.tape, h.output, h.size, fun i hi _ => h.block i hi⟩
theorem Touch.setCell {P : Nat → Prop} {a b : World} (h : Touch P a b) (p : Addr) (hp : P p.block) (v : Value) : Touch P a (b.setCell p v) :=
 ⟨h.os, h.tape, h.output, by simpa using h.size, fun i hi hn => (Below.heap_setCell _ _ _ _ (fun e => hn (by rw [e]; exact hp))).trans (h.block i hi hn)⟩
theorem Touch.below {P : Nat → Prop} {a b : World} (h : Touch P a b) (B : Nat) (hB : B ≤ a.heap.size) (hp : ∀ k, P k → B ≤ k) : Below B a b :=
 ⟨h.os, h.tape, h.output, h.size, fun i hi => h.block i (Nat.lt_of_lt_of_le hi hB) fun e => absurd (hp i e) (by omega)⟩
def CurAt (w : World) (b : Nat) (l : List UInt8) : Prop := w.heap[b]? = some (.cells #[.string (txt l)] 171 (0, 0))
theorem CurAt.on {w w' : World} {b : Nat} {l : List UInt8} (h : CurAt w b l) (hb : Below w.heap.size w w') : CurAt w' b l := (hb.block b (Array.getElem?_eq_some_iff.1 h).1).trans h
theorem CurAt.cell {w : World} {b : Nat} {l : List UInt8} (h : CurAt w b l) : w.cell? ⟨b, 0, none⟩ = some (.string (txt l)) := (cell_of h 0).trans rfl
theorem CurAt.frozen {w : World} {b : Nat} {l : List UInt8} (h : CurAt w b l) : w.frozen? ⟨b, 0, none⟩ = false := by simp [World.frozen?, show w.heap[b]? = _ from h]
theorem CurAt.set {w : World} {b : Nat} {l : List UInt8} (h : CurAt w b l) (l' : List UInt8) : CurAt (w.setCell ⟨b, 0, none⟩ (.string (txt l'))) b l' := set_blk h 0 (.string (txt l'))
theorem take_short (b n : Nat) (l : List UInt8) (w : World) (h : CurAt w b l) (hn : l.length < n) (_hn2 : n ≤ 1000) :
  Calls Tryz.prog 171 #[.pointer (some ⟨b, 0, none⟩), .int .i64 n] w fun e w' => e = .returned (.tuple #[.string ⟨#[]⟩, .bool false]) ∧ w' = w := by
 have c0 := h.cell
 have hlt : ((txt l).size : Int) < n := by rw [txt_size]; omega
 clear h
 go_enter Tryz.func171, Tryz.ntmps171
 go_wp2_with fail
 go_ret2
 exact ⟨rfl, rfl⟩
theorem take_long (b n : Nat) (l : List UInt8) (w : World) (h : CurAt w b l) (hn : n ≤ l.length) (_hl : l.length ≤ 281474976710656) :
  Calls Tryz.prog 171 #[.pointer (some ⟨b, 0, none⟩), .int .i64 n] w fun e w' => e = .returned (.tuple #[.string (txt (l.take n)), .bool true]) ∧ w' = w.setCell ⟨b, 0, none⟩ (.string (txt (l.drop n))) := by
 have c0 := h.cell
 have hfz := h.frozen
 have hlt : ¬ ((txt l).size : Int) < n := by rw [txt_size]; omega
 have k1 := run_to (txt l) n n rfl (by rw [txt_size]; exact hn)
 have k2 := run_from (txt l) n n rfl (by rw [txt_size]; exact hn)
 rw [txt_data] at k1 k2
 clear h
 generalize txt (l.take n) = T1 at *
 generalize txt (l.drop n) = T2 at *
 generalize txt l = T0 at *
 go_enter Tryz.func171, Tryz.ntmps171
 go_wp2_with fail
 go_ret2
 exact ⟨rfl, rfl⟩
theorem take_min (l : List UInt8) (n : Nat) : l.take (min n l.length) = l.take n := by
 rcases Nat.le_total n l.length with h | h
 ·rw [Nat.min_eq_left h]
 ·rw [Nat.min_eq_right h, List.take_length, List.take_of_length_le h]
theorem ahead_any (b n : Nat) (l : List UInt8) (w : World) (h : CurAt w b l) :
  Calls Tryz.prog 172 #[.pointer (some ⟨b, 0, none⟩), .int .i64 n] w fun e w' => e = .returned (.string (txt (l.take n))) ∧ ∃ k, w' = w.drewN k := by
 have c0 := h.cell
 have k1 := run_to (txt l) (min (n : Int) ((txt l).size : Int)) (min n l.length) (by rw [txt_size]; omega) (by rw [txt_size]; omega)
 rw [txt_data, take_min l n] at k1
 clear h
 have hz : (0 : Int) ≤ ((txt l).size : Int) := by omega
 generalize txt (l.take n) = T1 at *
 generalize txt l = T0 at *
 go_enter Tryz.func172, Tryz.ntmps172
 go_wp2_with fail
 go_quiet (fail)
 go_wp2_with fail
 go_ret
 exact ⟨rfl, _, rfl⟩
theorem rest_any (b : Nat) (l : List UInt8) (w : World) (h : CurAt w b l) (hl : l.length ≤ 281474976710656) :
  Calls Tryz.prog 142 #[.pointer (some ⟨b, 0, none⟩)] w fun e w' => e = .returned (.string (txt l)) ∧ Below w.heap.size w w' := by
 have c0 := h.cell
 have cc := fun W => clone_any (txt l) (by rw [txt_size]; exact hl) W
 clear h
 generalize txt l = T0 at *
 go_enter Tryz.func142, Tryz.ntmps142
 go_wp2_with fail; refine (cc _).mono ?_; rintro e w1 ⟨rfl, b1⟩
 go_wp2_with fail
 go_ret
 exact ⟨rfl, b1⟩
def numB (l : List UInt8) : Nat := l.foldl (fun n b => n * 256 + b.toNat) 0
theorem numB_take (l : List UInt8) (k : Nat) (h : k < l.length) : numB (l.take (k + 1)) = numB (l.take k) * 256 + (l.getD k 0).toNat := by
 unfold numB
 rw [List.take_succ_eq_append_getElem h, List.foldl_append, List.getD_eq_getElem?_getD, List.getElem?_eq_getElem h]
 rfl
theorem numB_small (l : List UInt8) (h : l.length ≤ 1) : numB l < 256 := by
 match l, h with
 | [], _ => decide
 | [x], _ => show 0 * 256 + x.toNat < 256; have := x.toNat_lt; omega
theorem shl_or (a b : Nat) (ha : a < 256) (hb : b < 256) : bits .or .i64 ((a : Int) * 256) (b : Int) = (a : Int) * 256 + (b : Int) := by
 have e : (a * 256) ||| b = a * 256 + b := by
  have := Nat.shiftLeft_add_eq_or_of_lt (i := 8) (b := b) (by omega) a
  rw [Nat.shiftLeft_eq] at this
  exact this.symm
 have e1 : (a : Int) * 256 = ((a * 256 : Nat) : Int) := by omega
 rw [e1, i64_or_nat _ _ (by omega) (by omega), e]
 omega
def putK (Z : Array Value) (size : Nat) (l : List UInt8) (os : List Nat) : Nat → Array Value
 | 0 => Z
 | k + 1 => (putK Z size l os k).setIfInBounds (os.getD k 0) (.int .i64 (numB ((l.drop (size * k)).take size)))
theorem putK_size (Z : Array Value) (size : Nat) (l : List UInt8) (os : List Nat) : ∀ k, (putK Z size l os k).size = Z.size
 | 0 => rfl
 | k + 1 => by show (Array.setIfInBounds _ _ _).size = _; rw [Array.size_setIfInBounds, putK_size Z size l os k]
theorem numbers_any (b e g size : Nat) (os : List Nat) (Z : Array Value) (T : TypeId) (l : List UInt8) (w : World) (h : CurAt w b l) (hZ : w.heap[e]? = some (.cells Z T (0, 0))) (hbe : b ≠ e) (hbg : g ≠ b) (heg : g ≠ e) (hg : g < w.heap.size)
  (hos : ∀ j o, os[j]? = some o → w.cell? ⟨g, j, none⟩ = some (.pointer (some ⟨e, o, none⟩)) ∧ o < Z.size) (hol : os.length ≤ 3) (hs1 : 1 ≤ size) (hs2 : size ≤ 2) (hl : l.length ≤ 281474976710656) :
  Calls Tryz.prog 164 #[.pointer (some ⟨b, 0, none⟩), .int .i64 size, .slice (some ⟨g, 0, none⟩) os.length os.length] w fun en w' =>
   ∃ k, en = .returned (.bool (decide (size * os.length ≤ l.length))) ∧ (size * os.length ≤ l.length → k = os.length) ∧ CurAt w' b (l.drop (size * k)) ∧ w'.heap[e]? = some (.cells (putK Z size l os k) T (0, 0)) ∧ Touch (fun x => x = b ∨ x = e) w w' := by
 have HOS := hid hos; clear hos
 go_enter Tryz.func164, Tryz.ntmps164
 go_wp2_with fail
 go_loopw [8, 9, 10, 11, 14] (fun _ _ _ _ ix wr => ∃ k : Nat, k ≤ os.length ∧ size * k ≤ l.length ∧ ix = .int .i64 k ∧ CurAt wr b (l.drop (size * k)) ∧ wr.heap[e]? = some (.cells (putK Z size l os k) T (0, 0)) ∧ Touch (fun x => x = b ∨ x = e) w wr) (fun _ _ _ _ ix _ => os.length - (intOf ix).toNat)
 case atStart => exact ⟨0, by omega, by omega, rfl, h, hZ, Touch.refl _ _⟩
 case round =>
  obtain ⟨k, hk, hkl, rfl, hc, hz, ht⟩ := hrel
  have HC := hid hc; clear hc
  have HZ := hid hz; clear hz
  have HT := hid ht; clear ht
  by_cases hlt : k < os.length
  ·obtain ⟨o, ho⟩ : ∃ o, os[k]? = some o := ⟨_, List.getElem?_eq_getElem hlt⟩
   obtain ⟨hp, hoZ⟩ := HOS.out k o ho
   have hgw : wr.heap[g]? = w.heap[g]? := HT.out.block g hg (by omega)
   have hp2 : wr.cell? ⟨g, k, none⟩ = some (.pointer (some ⟨e, o, none⟩)) := (World.cell?_of_block hgw).trans hp
   by_cases hsz : size ≤ (l.drop (size * k)).length
   ·have ct := take_long b size (l.drop (size * k)) wr HC.out hsz (by rw [List.length_drop]; omega)
    have hbl : ((l.drop (size * k)).take size).length = size := by rw [List.length_take]; omega
    have hdd : (l.drop (size * k)).drop size = l.drop (size * (k + 1)) := by rw [List.drop_drop, Nat.mul_succ]
    have hkn : size * (k + 1) ≤ l.length := by rw [List.length_drop] at hsz; rw [Nat.mul_succ]; omega
    have hpk : putK Z size l os (k + 1) = (putK Z size l os k).setIfInBounds o (.int .i64 (numB ((l.drop (size * k)).take size))) := by
     show (putK Z size l os k).setIfInBounds (os.getD k 0) _ = _
     rw [getD_at ho]
    rw [hdd] at ct
    have hc1 : CurAt (wr.setCell ⟨b, 0, none⟩ (.string (txt (l.drop (size * (k + 1)))))) b (l.drop (size * (k + 1))) := HC.out.set _
    have hz1 : (wr.setCell ⟨b, 0, none⟩ (.string (txt (l.drop (size * (k + 1)))))).heap[e]? = some (.cells (putK Z size l os k) T (0, 0)) := (Below.heap_setCell _ _ _ _ (fun h => hbe h.symm)).trans HZ.out
    have ht1 := HT.out.setCell ⟨b, 0, none⟩ (.inl rfl) (.string (txt (l.drop (size * (k + 1)))))
    have hoz : o < (putK Z size l os k).size := by rw [putK_size]; exact hoZ
    have hcz : (wr.setCell ⟨b, 0, none⟩ (.string (txt (l.drop (size * (k + 1)))))).cell? ⟨e, o, none⟩ = some ((putK Z size l os k)[o]) := by
     rw [cell_of hz1]; exact Array.getElem?_eq_getElem hoz
    have hfz : (wr.setCell ⟨b, 0, none⟩ (.string (txt (l.drop (size * (k + 1)))))).frozen? ⟨e, o, none⟩ = false := by simp only [World.frozen?, hz1]; rfl
    have hz2 := set_blk hz1 o (.int .i64 0)
    have hc2 : CurAt ((wr.setCell ⟨b, 0, none⟩ (.string (txt (l.drop (size * (k + 1)))))).setCell ⟨e, o, none⟩ (.int .i64 0)) b (l.drop (size * (k + 1))) := (Below.heap_setCell _ _ _ _ hbe).trans hc1
    have ht2 := ht1.setCell ⟨e, o, none⟩ (.inr rfl) (.int .i64 0)
    generalize (putK Z size l os k)[o] = old at *
    have HPK := hid hpk; clear hpk
    have HKN := hid hkn; clear hkn
    have HBL := hid hbl; clear hbl
    have HOZ := hid hoz; clear hoz
    have HZ2 := hid hz2; clear hz2 hz1
    have HC2 := hid hc2; clear hc2 hc1
    have HT2 := hid ht2; clear ht2 ht1
    generalize (l.drop (size * k)).take size = bs at *
    clear hdd hgw hsz hp ho HC HZ
    generalize putK Z size l os k = ZK at *
    go_wp2_with fail; refine ct.mono ?_; rintro en w1 ⟨rfl, rfl⟩
    go_upto_region 8 with (fail)
    clear ct hcz hfz
    generalize (wr.setCell ⟨b, 0, none⟩ (.string (txt (l.drop (size * (k + 1)))))).setCell ⟨e, o, none⟩ (.int .i64 0) = W2 at *
    go_wp2_with fail
    go_loopw [11, 29] (fun _ ix wq => ∃ i : Nat, i ≤ size ∧ ix = .int .i64 i ∧ CurAt wq b (l.drop (size * (k + 1))) ∧ wq.heap[e]? = some (.cells (ZK.setIfInBounds o (.int .i64 (numB (bs.take i)))) T (0, 0)) ∧ Touch (fun x => x = b ∨ x = e) w wq) (fun _ ix _ => size - (intOf ix).toNat)
    case atStart => exact ⟨0, by omega, rfl, HC2.out, HZ2.out, HT2.out⟩
    case round =>
     obtain ⟨i, hi, rfl, hc, hz, ht⟩ := hrel
     have HC := hid hc; clear hc
     have HZ := hid hz
     have HT3 := hid ht; clear ht HC2 HZ2 HT2 HT
     by_cases hil : i < size
     ·have hx := run_at (txt bs) i i rfl (by rw [txt_size, HBL.out]; exact hil)
      rw [txt_data] at hx
      have hxb := (bs.getD i 0).toNat_lt
      have hns := numB_small (bs.take i) (by rw [List.length_take]; omega)
      have HNT := hid (numB_take bs i (by rw [HBL.out]; exact hil))
      have hcz : wr.cell? ⟨e, o, none⟩ = some (.int .i64 (numB (bs.take i))) := by
       rw [cell_of hz, Array.getElem?_setIfInBounds, if_pos rfl, if_pos HOZ.out]
      have hfz : wr.frozen? ⟨e, o, none⟩ = false := by simp only [World.frozen?, hz]; rfl
      generalize (bs.getD i 0).toNat = X at *
      generalize numB (bs.take i) = N at *
      have hor := shl_or N X hns hxb
      have hw : IntKind.i64.wrap (X : Int) = X := IntWalk.i64_in _ (by omega)
      clear hz
      go_wp2_with fail
      go_region
      have hz3 := set_blk HZ.out o (.int .i64 ((N : Int) * 256 + (X : Int)))
      have hc3 : CurAt ((wr.setCell ⟨e, o, none⟩ (.int .i64 ((N : Int) * 256 + (X : Int)))).drew) b (l.drop (size * (k + 1))) := (Below.heap_setCell _ _ _ _ hbe).trans HC.out
      have ht3 := HT3.out.setCell ⟨e, o, none⟩ (.inr rfl) (.int .i64 ((N : Int) * 256 + (X : Int)))
      have ht4 : Touch (fun x => x = b ∨ x = e) w ((wr.setCell ⟨e, o, none⟩ (.int .i64 ((N : Int) * 256 + (X : Int)))).drew) := ⟨ht3.os, ht3.tape, ht3.output, ht3.size, ht3.block⟩
      have hz4 : ((wr.setCell ⟨e, o, none⟩ (.int .i64 ((N : Int) * 256 + (X : Int)))).drew).heap[e]? = some (.cells (ZK.setIfInBounds o (.int .i64 (numB (bs.take (i + 1))))) T (0, 0)) := by
       rw [HNT.out]
       have h5 : (wr.setCell ⟨e, o, none⟩ (.int .i64 ((N : Int) * 256 + (X : Int)))).heap[e]? = _ := hz3
       rw [Array.setIfInBounds_setIfInBounds] at h5
       exact h5
      have HZ4 := hid hz4
      have HC4 := hid hc3
      have HT4 := hid ht4
      clear hz3 hc3 ht3 ht4 hz4 hcz hfz
      generalize (wr.setCell ⟨e, o, none⟩ (.int .i64 ((N : Int) * 256 + (X : Int)))).drew = W9 at *
      go_wp2_with fail
      go_roundw
      case rel => exact ⟨i + 1, by omega, by go_num, HC4.out, HZ4.out, HT4.out⟩
      case measure => simp [intOf]; omega
     ·have eis : i = size := by omega
      subst eis
      go_wp2_with fail
      go_roundw
      case rel => exact ⟨k + 1, by omega, HKN.out, by go_num, HC.out, by rw [HPK.out]; have h2 := HZ.out; rwa [List.take_of_length_le (by rw [HBL.out]; exact Nat.le_refl _)] at h2, HT3.out⟩
      case measure => simp [intOf]; omega
   ·have ct := take_short b size (l.drop (size * k)) wr HC.out (by omega) (by omega)
    have hno : ¬ size * os.length ≤ l.length := by
     rw [List.length_drop] at hsz
     have : size * (k + 1) ≤ size * os.length := Nat.mul_le_mul_left _ hlt
     rw [Nat.mul_succ] at this
     omega
    have HNO := hid hno
    clear hno hgw hp ho
    go_wp2_with fail; refine ct.mono ?_; rintro en w1 ⟨rfl, rfl⟩
    go_wp2_with fail
    go_ret
    exact ⟨k, ret_b (by rw [decide_eq_false HNO.out]), fun hh => absurd hh HNO.out, HC.out, HZ.out, HT.out⟩
  ·have ek : k = os.length := by omega
   subst ek
   go_wp2_with fail
   go_ret
   exact ⟨os.length, ret_b (by rw [decide_eq_true hkl]), fun _ => rfl, HC.out, HZ.out, HT.out⟩
theorem numB_pair (l : List UInt8) (i : Nat) (h : i + 2 ≤ l.length) : ((numB ((l.drop i).take 2) : Nat) : Int) = pairL l i := by
 have e : (l.drop i).take 2 = [l.getD i 0, l.getD (i + 1) 0] := by
  rw [List.drop_eq_getElem_cons (by omega), List.drop_eq_getElem_cons (by omega)]
  rw [List.getD_eq_getElem?_getD, List.getD_eq_getElem?_getD, List.getElem?_eq_getElem (by omega), List.getElem?_eq_getElem (by omega)]
  rfl
 rw [e]
 show (((0 * 256 + (l.getD i 0).toNat) * 256 + (l.getD (i + 1) 0).toNat : Nat) : Int) = pairL l i
 unfold pairL
 omega
theorem numB_byte (l : List UInt8) (h : 1 ≤ l.length) : numB (l.take 1) = (l.getD 0 0).toNat := by
 match l, h with
 | x :: t, _ => show 0 * 256 + x.toNat = x.toNat; omega
theorem CurAt.entry {w : World} {b e : Nat} {l : List UInt8} {t ep mem : Int} {u v : Value} (h : CurAt w b l) (k : EntAt w e t ep mem u v) : b ≠ e := by
 intro h1
 subst h1
 unfold EntAt at k
 rw [show w.heap[b]? = _ from h] at k
 injection k with k
 injection k with k1 k2
 exact absurd k2 (by decide)
theorem numbers_three (b e g : Nat) (l : List UInt8) (t ep mem : Int) (u v : Value) (X : World) (h : CurAt X b l) (k : EntAt X e t ep mem u v) (hg : X.heap[g]? = some (.cells #[.pointer (some ⟨e, 0, none⟩), .pointer (some ⟨e, 1, none⟩), .pointer (some ⟨e, 2, none⟩)] 127 (0, 0))) (hl : l.length ≤ 281474976710656) :
  Calls Tryz.prog 164 #[.pointer (some ⟨b, 0, none⟩), .int .i64 2, .slice (some ⟨g, 0, none⟩) 3 3] X fun en w' =>
   en = .returned (.bool (decide (6 ≤ l.length))) ∧ (∃ l' t' ep' mem', CurAt w' b l' ∧ EntAt w' e t' ep' mem' u v ∧ (6 ≤ l.length → l' = l.drop 6 ∧ t' = pairL l 0 ∧ ep' = pairL l 2 ∧ mem' = pairL l 4)) ∧ Touch (fun x => x = b ∨ x = e) X w' := by
 have hgb : g ≠ b := by
  intro h1; subst h1
  rw [show X.heap[g]? = _ from h] at hg
  injection hg with hg; injection hg with k1 k2
  exact absurd k2 (by decide)
 have hge : g ≠ e := by
  intro h1; subst h1
  rw [show X.heap[g]? = _ from k] at hg
  injection hg with hg; injection hg with k1 k2
  exact absurd k2 (by decide)
 have hc := numbers_any b e g 2 [0, 1, 2] #[.int .i64 t, .int .i64 ep, .int .i64 mem, u, v] 37 l X h k (h.entry k) hgb hge (Array.getElem?_eq_some_iff.1 hg).1 (fun j o ho => by
  have hj : j < 3 := (List.getElem?_eq_some_iff.1 ho).1
  rcases (show j = 0 ∨ j = 1 ∨ j = 2 by omega) with rfl | rfl | rfl
  ·have e1 : 0 = o := by simpa using ho
   subst e1; exact ⟨(cell_of hg 0).trans rfl, by simp⟩
  ·have e1 : 1 = o := by simpa using ho
   subst e1; exact ⟨(cell_of hg 1).trans rfl, by simp⟩
  ·have e1 : 2 = o := by simpa using ho
   subst e1; exact ⟨(cell_of hg 2).trans rfl, by simp⟩) (by simp) (by omega) (by omega) hl
 refine hc.mono ?_
 rintro en w' ⟨m, he, hm, h1, h2, h3⟩
 refine ⟨by simpa using he, ?_, h3⟩
 have h6 : 6 ≤ l.length → m = 3 := fun h6 => hm (by simpa using h6)
 by_cases hm3 : m = 3
 ·subst hm3
  refine ⟨l.drop (2 * 3), _, _, _, h1, h2, fun hh => ⟨rfl, ?_, ?_, ?_⟩⟩
  ·exact numB_pair l 0 (by omega)
  ·exact numB_pair l 2 (by omega)
  ·exact numB_pair l 4 (by omega)
 ·have hn : ¬ 6 ≤ l.length := fun h => hm3 (h6 h)
  have hex : ∃ t' ep' mem', EntAt w' e t' ep' mem' u v := by
   have hgen : ∀ m, ∃ t' ep' mem' : Int, putK #[.int .i64 t, .int .i64 ep, .int .i64 mem, u, v] 2 l [0, 1, 2] m = #[.int .i64 t', .int .i64 ep', .int .i64 mem', u, v] := by
    intro m
    induction m with
    | zero => exact ⟨t, ep, mem, rfl⟩
    | succ m ih =>
     obtain ⟨a, b', c', e1⟩ := ih
     show ∃ t' ep' mem' : Int, (putK _ 2 l [0, 1, 2] m).setIfInBounds ([0, 1, 2].getD m 0) _ = _
     rw [e1]
     match m with
     | 0 => exact ⟨_, b', c', rfl⟩
     | 1 => exact ⟨a, _, c', rfl⟩
     | 2 => exact ⟨a, b', _, rfl⟩
     | m + 3 => exact ⟨_, b', c', rfl⟩
   obtain ⟨t', ep', mem', e1⟩ := hgen m
   rw [e1] at h2
   exact ⟨t', ep', mem', h2⟩
  obtain ⟨t', ep', mem', h4⟩ := hex
  exact ⟨_, t', ep', mem', h1, h4, fun h => absurd h hn⟩
theorem numbers_one (b e g size : Nat) (l : List UInt8) (n : Int) (X : World) (h : CurAt X b l) (k : X.heap[e]? = some (.cells #[.int .i64 n] 3 (0, 0))) (hg : X.heap[g]? = some (.cells #[.pointer (some ⟨e, 0, none⟩)] 127 (0, 0))) (hs1 : 1 ≤ size) (hs2 : size ≤ 2) (hl : l.length ≤ 281474976710656) :
  Calls Tryz.prog 164 #[.pointer (some ⟨b, 0, none⟩), .int .i64 size, .slice (some ⟨g, 0, none⟩) 1 1] X fun en w' =>
   en = .returned (.bool (decide (size ≤ l.length))) ∧ (∃ l' n', CurAt w' b l' ∧ w'.heap[e]? = some (.cells #[.int .i64 n'] 3 (0, 0)) ∧ (size ≤ l.length → l' = l.drop size ∧ n' = numB (l.take size))) ∧ Touch (fun x => x = b ∨ x = e) X w' := by
 have hgb : g ≠ b := by
  intro h1; subst h1
  rw [show X.heap[g]? = _ from h] at hg
  injection hg with hg; injection hg with k1 k2
  exact absurd k2 (by decide)
 have hge : g ≠ e := by
  intro h1; subst h1
  rw [k] at hg
  injection hg with hg; injection hg with k1 k2
  exact absurd k2 (by decide)
 have hne : b ≠ e := by
  intro h1
  subst h1
  rw [show X.heap[b]? = _ from h] at k
  injection k with k
  injection k with k1 k2
  exact absurd k2 (by decide)
 have hc := numbers_any b e g size [0] #[.int .i64 n] 3 l X h k hne hgb hge (Array.getElem?_eq_some_iff.1 hg).1 (fun j o ho => by
  have hj : j = 0 := by have := (List.getElem?_eq_some_iff.1 ho).1; simp at this; exact this
  subst hj
  have e1 : 0 = o := by simpa using ho
  subst e1; exact ⟨(cell_of hg 0).trans rfl, by simp⟩) (by simp) hs1 hs2 hl
 refine hc.mono ?_
 rintro en w' ⟨m, he, hm, h1, h2, h3⟩
 refine ⟨by simpa using he, ?_, h3⟩
 by_cases hm1 : m = 1
 ·subst hm1
  exact ⟨_, _, h1, h2, fun hh => ⟨by rw [Nat.mul_one], by rw [Nat.mul_zero]; rfl⟩⟩
 ·have hn : ¬ size ≤ l.length := fun h => hm1 (hm (by simpa using h))
  have hgen : ∀ m, ∃ n' : Int, putK #[.int .i64 n] size l [0] m = #[.int .i64 n'] := by
   intro m
   induction m with
   | zero => exact ⟨n, rfl⟩
   | succ m ih =>
    obtain ⟨a, e1⟩ := ih
    show ∃ n' : Int, (putK _ size l [0] m).setIfInBounds ([0].getD m 0) _ = _
    rw [e1]
    match m with
    | 0 => exact ⟨_, rfl⟩
    | m + 1 => exact ⟨_, rfl⟩
  obtain ⟨n', e1⟩ := hgen m
  rw [e1] at h2
  exact ⟨_, n', h1, h2, fun h => absurd h hn⟩
theorem Touch.grown {P : Nat → Prop} {a b c : World} {ob : Option Nat} (h : Touch P a b) (hg : b.grownBy c ob) (ho : ∀ g, ob = some g → a.heap.size ≤ g) : Touch P a c :=
 ⟨hg.os.trans h.os, hg.tape.trans h.tape, hg.output.trans h.output, Nat.le_trans h.size hg.size, fun k hk hp => (hg.block k (Nat.lt_of_lt_of_le hk h.size) (fun e => by have := ho k e.symm; omega)).trans (h.block k hk hp)⟩
theorem Touch.join {P Q : Nat → Prop} {a b c : World} (h : Touch P a b) (k : Touch Q b c) (hq : ∀ x, x < a.heap.size → Q x → P x) : Touch P a c :=
 ⟨k.os.trans h.os, k.tape.trans h.tape, k.output.trans h.output, Nat.le_trans h.size k.size, fun i hi hn => (k.block i (Nat.lt_of_lt_of_le hi h.size) (fun q => hn (hq i hi q))).trans (h.block i hi hn)⟩
theorem CurAt.grown {w w' : World} {b : Nat} {l : List UInt8} {ob : Option Nat} (h : CurAt w b l) (hg : w.grownBy w' ob) (hne : ∀ g, ob = some g → g ≠ b) : CurAt w' b l :=
 (hg.block b (Array.getElem?_eq_some_iff.1 h).1 (fun e => hne b e.symm rfl)).trans h
theorem CurAt.far {w : World} {b b' i : Nat} {l : List UInt8} (h : CurAt w b l) (hne : b ≠ b') (x : Value) : CurAt (w.setCell ⟨b', i, none⟩ x) b l := (Below.heap_setCell _ _ _ _ hne).trans h
theorem hMany_count (l : List UInt8) : V.countI (pairL l 4) = (hMany l : Int) := rfl
def HeadPost (b e : Nat) (l : List UInt8) (w : World) (en : Ending) (w' : World) : Prop :=
 ∃ ok : Bool, en = .returned (.bool ok) ∧ Touch (fun x => x = b ∨ x = e) w w' ∧
  (ok = true → 6 + 2 * hMany l ≤ l.length ∧ CurAt w' b (l.drop (6 + 2 * hMany l)) ∧ ∃ A c, EntAt w' e (pairL l 0) (pairL l 2) (pairL l 4) (.slice A (hMany l) c) (.slice none 0 0) ∧ V.Own w' w.heap.size (.slice A (hMany l) c) (incsN l (hMany l))) ∧
  (ok = false → ¬ 6 + 2 * hMany l ≤ l.length ∧ (∃ t ep mem A n c, EntAt w' e t ep mem (.slice A n c) (.slice none 0 0)) ∧ ∃ l', CurAt w' b l')
theorem head_any (b e : Nat) (l : List UInt8) (w : World) (h : CurAt w b l) (k : EntAt w e 0 0 0 (.slice none 0 0) (.slice none 0 0)) (hl : l.length ≤ 281474976710656) :
  Calls Tryz.prog 163 #[.pointer (some ⟨b, 0, none⟩), .pointer (some ⟨e, 0, none⟩)] w (HeadPost b e l w) := by
 have hbe := h.entry k
 obtain ⟨ok, hok⟩ : ∃ ok, ok = decide (6 ≤ l.length) := ⟨_, rfl⟩
 have N3 := hid (fun g X hX kX hg => numbers_three b e g l 0 0 0 (.slice none 0 0) (.slice none 0 0) X hX kX hg hl)
 rw [← hok] at N3
 have HOK := hid hok; clear hok
 have HC := hid h; clear h
 have HE := hid k; clear k
 go_enter Tryz.func163, Tryz.ntmps163
 go_wp2_with fail
 have HV : ∃ O : Nat → (Nat → Value) → World → Prop, O = (fun ix u wv => match ix with
  | 0 => u 0 = .pointer (some ⟨b, 0, none⟩)
  | 1 => u 1 = .pointer (some ⟨b, 0, none⟩)
  | 2 => u 2 = .pointer (some ⟨b, 0, none⟩)
  | 3 => u 3 = .pointer (some ⟨e, 0, none⟩)
  | 4 => u 4 = .pointer (some ⟨e, 0, none⟩)
  | 5 => u 5 = .pointer (some ⟨e, 0, none⟩)
  | 6 => u 6 = .pointer (some ⟨e, 0, none⟩)
  | 7 => u 7 = .pointer (some ⟨e, 0, none⟩)
  | 8 => u 8 = .pointer (some ⟨e, 1, none⟩)
  | 9 => u 9 = .pointer (some ⟨e, 0, none⟩)
  | 10 => u 10 = .pointer (some ⟨e, 0, none⟩)
  | 11 => u 11 = .pointer (some ⟨e, 2, none⟩)
  | 12 => ∃ g, u 12 = .slice (some ⟨g, 0, none⟩) 3 3 ∧ wv.heap[g]? = some (.cells #[.pointer (some ⟨e, 0, none⟩), .pointer (some ⟨e, 1, none⟩), .pointer (some ⟨e, 2, none⟩)] 127 (0, 0))
  | 13 => u 13 = .bool ok ∧ ∃ l' t' ep' mem', CurAt wv b l' ∧ EntAt wv e t' ep' mem' (.slice none 0 0) (.slice none 0 0) ∧ (6 ≤ l.length → l' = l.drop 6 ∧ t' = pairL l 0 ∧ ep' = pairL l 2 ∧ mem' = pairL l 4)
  | 14 => u 14 = .bool (!ok)
  | _ => True) := ⟨_, rfl⟩
 obtain ⟨O, hd7⟩ := HV
 have O0 : ∀ u wv, O 0 u wv = (u 0 = .pointer (some ⟨b, 0, none⟩)) := fun _ _ => by subst hd7; rfl
 have O1 : ∀ u wv, O 1 u wv = (u 1 = .pointer (some ⟨b, 0, none⟩)) := fun _ _ => by subst hd7; rfl
 have O2 : ∀ u wv, O 2 u wv = (u 2 = .pointer (some ⟨b, 0, none⟩)) := fun _ _ => by subst hd7; rfl
 have O3 : ∀ u wv, O 3 u wv = (u 3 = .pointer (some ⟨e, 0, none⟩)) := fun _ _ => by subst hd7; rfl
 have O4 : ∀ u wv, O 4 u wv = (u 4 = .pointer (some ⟨e, 0, none⟩)) := fun _ _ => by subst hd7; rfl
 have O5 : ∀ u wv, O 5 u wv = (u 5 = .pointer (some ⟨e, 0, none⟩)) := fun _ _ => by subst hd7; rfl
 have O6 : ∀ u wv, O 6 u wv = (u 6 = .pointer (some ⟨e, 0, none⟩)) := fun _ _ => by subst hd7; rfl
 have O7 : ∀ u wv, O 7 u wv = (u 7 = .pointer (some ⟨e, 0, none⟩)) := fun _ _ => by subst hd7; rfl
 have O8 : ∀ u wv, O 8 u wv = (u 8 = .pointer (some ⟨e, 1, none⟩)) := fun _ _ => by subst hd7; rfl
 have O9 : ∀ u wv, O 9 u wv = (u 9 = .pointer (some ⟨e, 0, none⟩)) := fun _ _ => by subst hd7; rfl
 have O10 : ∀ u wv, O 10 u wv = (u 10 = .pointer (some ⟨e, 0, none⟩)) := fun _ _ => by subst hd7; rfl
 have O11 : ∀ u wv, O 11 u wv = (u 11 = .pointer (some ⟨e, 2, none⟩)) := fun _ _ => by subst hd7; rfl
 have O12 : ∀ u wv, O 12 u wv = (∃ g, u 12 = .slice (some ⟨g, 0, none⟩) 3 3 ∧ wv.heap[g]? = some (.cells #[.pointer (some ⟨e, 0, none⟩), .pointer (some ⟨e, 1, none⟩), .pointer (some ⟨e, 2, none⟩)] 127 (0, 0))) := fun _ _ => by subst hd7; rfl
 have O13 : ∀ u wv, O 13 u wv = (u 13 = .bool ok ∧ ∃ l' t' ep' mem', CurAt wv b l' ∧ EntAt wv e t' ep' mem' (.slice none 0 0) (.slice none 0 0) ∧ (6 ≤ l.length → l' = l.drop 6 ∧ t' = pairL l 0 ∧ ep' = pairL l 2 ∧ mem' = pairL l 4)) := fun _ _ => by subst hd7; rfl
 have O14 : ∀ u wv, O 14 u wv = (u 14 = .bool (!ok)) := fun _ _ => by subst hd7; rfl
 have HVD := hid hd7
 clear hd7
 refine region_phase (V := O) (drop := fun jx ix => (jx == 13 && ix == 12)) (G := fun L wv => (L 13 = false → CurAt wv b l ∧ EntAt wv e 0 0 0 (.slice none 0 0) (.slice none 0 0)) ∧ Touch (fun x => x = b ∨ x = e) w wv) (Rel := fun jx wv wv' => jx = 13 ∨ Below wv.heap.size wv wv') (by kernel_rfl) (by kernel_rfl) ⟨fun _ => ⟨HC.out.on (Below.refl _ _).drew, HE.out.on (Below.refl _ _).drew⟩, Touch.of (Below.refl _ _).drew⟩ ?hmonop1 ?hdepp1 ⟨?s0_p1, ?s1_p1, ?s2_p1, ?s3_p1, ?s4_p1, ?s5_p1, ?s6_p1, ?s7_p1, ?s8_p1, ?s9_p1, ?s10_p1, ?s11_p1, ?s12_p1, ?s13_p1, ?s14_p1, trivial⟩ ?behindp1
 case hmonop1 =>
  intro ix jx u wv wv' hij hw hd hr
  rw [HVD.out]
  dsimp only
  split <;> intro h <;> first | exact trivial | exact h | (rcases hr with rfl | hb; (focus first | exact absurd rfl hij | (simp at hd; done) | (exact Bool.noConfusion (hw.symm.trans (show _ = true from by kernel_rfl)))); (first | (obtain ⟨g, e, hg⟩ := h; exact ⟨g, e, (hb.block g (Array.getElem?_eq_some_iff.1 hg).1).trans hg⟩) | (obtain ⟨hv, l', t', ep', mem', h1, h2, h3⟩ := h; exact ⟨hv, l', t', ep', mem', h1.on hb, h2.on hb, h3⟩)))
 case hdepp1 =>
  intro ix u u' wv h1 h2
  rw [HVD.out]
  dsimp only
  split <;> intro h <;> first | exact trivial | (rw [← h1]; exact h) | exact h
 case s0_p1 =>
  refine oweP rfl fun a wx val L hG hi hW hV hN hO K hK => ?_
  have e0 : a.tmps[0]? = some (.pointer (some ⟨b, 0, none⟩)) := (hO 0).trans (by rfl)
  clear hV hN hO
  go_simp
  exact hK.out _ _ (by rw [O0, upd_at] <;> (congr 1 <;> omega)) (.inr (Below.refl _ _)) (⟨fun h => hG.1 (upL_false h), hG.2⟩)
 case s1_p1 =>
  refine oweP rfl fun a wx val L hG hi hW hV hN hO K hK => ?_
  have e6 := hN 0 6
  have f6 := hV 0
  rw [O0] at f6; rw [f6] at e6; clear f6
  clear hV hN hO
  go_simp
  exact hK.out _ _ (by rw [O1, upd_at] <;> (congr 1 <;> omega)) (.inr (Below.refl _ _)) (⟨fun h => hG.1 (upL_false h), hG.2⟩)
 case s2_p1 =>
  refine oweP rfl fun a wx val L hG hi hW hV hN hO K hK => ?_
  have e7 := hN 1 7
  have f7 := hV 1
  rw [O1] at f7; rw [f7] at e7; clear f7
  clear hV hN hO
  go_simp
  exact hK.out _ _ (by rw [O2, upd_at] <;> (congr 1 <;> omega)) (.inr (Below.refl _ _)) (⟨fun h => hG.1 (upL_false h), hG.2⟩)
 case s3_p1 =>
  refine oweP rfl fun a wx val L hG hi hW hV hN hO K hK => ?_
  have e1 : a.tmps[1]? = some (.pointer (some ⟨e, 0, none⟩)) := (hO 1).trans (by rfl)
  clear hV hN hO
  go_simp
  exact hK.out _ _ (by rw [O3, upd_at] <;> (congr 1 <;> omega)) (.inr (Below.refl _ _)) (⟨fun h => hG.1 (upL_false h), hG.2⟩)
 case s4_p1 =>
  refine oweP rfl fun a wx val L hG hi hW hV hN hO K hK => ?_
  have e9 := hN 3 9
  have f9 := hV 3
  rw [O3] at f9; rw [f9] at e9; clear f9
  clear hV hN hO
  go_simp
  exact hK.out _ _ (by rw [O4, upd_at] <;> (congr 1 <;> omega)) (.inr (Below.refl _ _)) (⟨fun h => hG.1 (upL_false h), hG.2⟩)
 case s5_p1 =>
  refine oweP rfl fun a wx val L hG hi hW hV hN hO K hK => ?_
  have e10 := hN 4 10
  have f10 := hV 4
  rw [O4] at f10; rw [f10] at e10; clear f10
  clear hV hN hO
  go_simp
  exact hK.out _ _ (by rw [O5, upd_at] <;> (congr 1 <;> omega)) (.inr (Below.refl _ _)) (⟨fun h => hG.1 (upL_false h), hG.2⟩)
 case s6_p1 =>
  refine oweP rfl fun a wx val L hG hi hW hV hN hO K hK => ?_
  have e1 : a.tmps[1]? = some (.pointer (some ⟨e, 0, none⟩)) := (hO 1).trans (by rfl)
  clear hV hN hO
  go_simp
  exact hK.out _ _ (by rw [O6, upd_at] <;> (congr 1 <;> omega)) (.inr (Below.refl _ _)) (⟨fun h => hG.1 (upL_false h), hG.2⟩)
 case s7_p1 =>
  refine oweP rfl fun a wx val L hG hi hW hV hN hO K hK => ?_
  have e12 := hN 6 12
  have f12 := hV 6
  rw [O6] at f12; rw [f12] at e12; clear f12
  clear hV hN hO
  go_simp
  exact hK.out _ _ (by rw [O7, upd_at] <;> (congr 1 <;> omega)) (.inr (Below.refl _ _)) (⟨fun h => hG.1 (upL_false h), hG.2⟩)
 case s8_p1 =>
  refine oweP rfl fun a wx val L hG hi hW hV hN hO K hK => ?_
  have e13 := hN 7 13
  have f13 := hV 7
  rw [O7] at f13; rw [f13] at e13; clear f13
  clear hV hN hO
  go_simp
  exact hK.out _ _ (by rw [O8, upd_at] <;> (congr 1 <;> omega)) (.inr (Below.refl _ _)) (⟨fun h => hG.1 (upL_false h), hG.2⟩)
 case s9_p1 =>
  refine oweP rfl fun a wx val L hG hi hW hV hN hO K hK => ?_
  have e1 : a.tmps[1]? = some (.pointer (some ⟨e, 0, none⟩)) := (hO 1).trans (by rfl)
  clear hV hN hO
  go_simp
  exact hK.out _ _ (by rw [O9, upd_at] <;> (congr 1 <;> omega)) (.inr (Below.refl _ _)) (⟨fun h => hG.1 (upL_false h), hG.2⟩)
 case s10_p1 =>
  refine oweP rfl fun a wx val L hG hi hW hV hN hO K hK => ?_
  have e15 := hN 9 15
  have f15 := hV 9
  rw [O9] at f15; rw [f15] at e15; clear f15
  clear hV hN hO
  go_simp
  exact hK.out _ _ (by rw [O10, upd_at] <;> (congr 1 <;> omega)) (.inr (Below.refl _ _)) (⟨fun h => hG.1 (upL_false h), hG.2⟩)
 case s11_p1 =>
  refine oweP rfl fun a wx val L hG hi hW hV hN hO K hK => ?_
  have e16 := hN 10 16
  have f16 := hV 10
  rw [O10] at f16; rw [f16] at e16; clear f16
  clear hV hN hO
  go_simp
  exact hK.out _ _ (by rw [O11, upd_at] <;> (congr 1 <;> omega)) (.inr (Below.refl _ _)) (⟨fun h => hG.1 (upL_false h), hG.2⟩)
 case s12_p1 =>
  refine oweP rfl fun a wx val L hG hi hW hV hN hO K hK => ?_
  have e11 := hN 5 11
  have f11 := hV 5
  rw [O5] at f11; rw [f11] at e11; clear f11
  have e14 := hN 8 14
  have f14 := hV 8
  rw [O8] at f14; rw [f14] at e14; clear f14
  have e17 := hN 11 17
  have f17 := hV 11
  rw [O11] at f17; rw [f17] at e17; clear f17
  clear hV hN hO
  go_simp
  have hb := Joins.below_alloc1 wx (.cells #[.pointer (some ⟨e, 0, none⟩), .pointer (some ⟨e, 1, none⟩), .pointer (some ⟨e, 2, none⟩)] 127)
  exact hK.out _ _ (by rw [O12, upd_at]; exact ⟨_, rfl, heap_alloc_new _ _⟩) (.inr hb) (⟨fun h => ⟨(hG.1 (upL_false h)).1.on hb, (hG.1 (upL_false h)).2.on hb⟩, hG.2.trans (Touch.of hb)⟩)
 case s13_p1 =>
  refine oweP rfl fun a wx val L hG hi hW hV hN hO K hK => ?_
  have e8 := hN 2 8
  have f8 := hV 2
  rw [O2] at f8; rw [f8] at e8; clear f8
  have e18 := hN 12 18
  have f18 := hV 12
  rw [O12] at f18; obtain ⟨g, hv, hgg⟩ := f18; rw [hv] at e18
  clear hV hN hO
  have hCE := hG.1 hi
  go_simp
  refine (N3.out g wx hCE.1 hCE.2 hgg).mono ?_
  rintro en w11 ⟨rfl, hfx, htx⟩
  exact hK.out _ _ (by rw [O13, upd_at]; exact ⟨rfl, hfx⟩) (.inl rfl) ⟨fun h => (upL_self h).elim, hG.2.trans htx⟩
 case s14_p1 =>
  refine oweP rfl fun a wx val L hG hi hW hV hN hO K hK => ?_
  have e19 := hN 13 19
  have f19 := hV 13
  rw [O13] at f19; obtain ⟨hv, hfx⟩ := f19; rw [hv] at e19
  clear hV hN hO
  go_simp
  exact hK.out _ _ (by rw [O14, upd_at] <;> (congr 1 <;> omega)) (.inr (Below.refl _ _)) (⟨fun h => hG.1 (upL_false h), hG.2⟩)
 intro val wx L hG hV
 have f0 := hV 0
 rw [O0] at f0
 have f1 := hV 1
 rw [O1] at f1
 have f2 := hV 2
 rw [O2] at f2
 have f3 := hV 3
 rw [O3] at f3
 have f4 := hV 4
 rw [O4] at f4
 have f5 := hV 5
 rw [O5] at f5
 have f6 := hV 6
 rw [O6] at f6
 have f7 := hV 7
 rw [O7] at f7
 have f8 := hV 8
 rw [O8] at f8
 have f9 := hV 9
 rw [O9] at f9
 have f10 := hV 10
 rw [O10] at f10
 have f11 := hV 11
 rw [O11] at f11
 have f13 := hV 13
 rw [O13] at f13
 have f14 := hV 14
 rw [O14] at f14
 clear hV O0 O1 O2 O3 O4 O5 O6 O7 O8 O9 O10 O11 O12 O13 O14
 simp only [putAll, Act.put, List.setIfInBounds_toArray, List.set_cons_zero, List.set_cons_succ]
 generalize val 0 = z0, val 1 = z1, val 2 = z2, val 3 = z3, val 4 = z4, val 5 = z5, val 6 = z6, val 7 = z7, val 8 = z8, val 9 = z9, val 10 = z10, val 11 = z11, val 12 = z12, val 13 = z13, val 14 = z14 at *
 subst f0 f1 f2 f3 f4 f5 f6 f7 f8 f9 f10 f11 f14
 clear HVD
 obtain ⟨hv19, l', t', ep', mem', hc1, he1, h61⟩ := f13
 rw [hv19]; clear hv19
 have HC1 := hid hc1
 have HE1 := hid he1
 have HT1 := hid hG.2
 clear hc1 he1 hG
 cases ok
 ·have hn6 : ¬ 6 ≤ l.length := by have := HOK.out; intro h; rw [decide_eq_true h] at this; cases this
  have HN6 := hid hn6; clear hn6 h61
  go_wp2_with fail
  go_ret
  exact ⟨false, rfl, HT1.out, fun h => (by cases h), fun _ => ⟨by have := HN6.out; omega, ⟨t', ep', mem', none, 0, 0, HE1.out⟩, l', HC1.out⟩⟩
 ·have h6 : 6 ≤ l.length := by have := HOK.out; exact of_decide_eq_true this.symm
  obtain ⟨rfl, rfl, rfl, rfl⟩ := h61 h6
  have cc := fun W => V.count_any (pairL l 4) W
  rw [hMany_count] at cc
  have hM16 := hMany_le l
  have HPI : Hid (∀ k, 6 + 2 * (k + 1) ≤ l.length → ((numB ((l.drop (6 + 2 * k)).take 2) : Nat) : Int) = pairL l (6 + 2 * k)) := hid fun k hk => numB_pair l (6 + 2 * k) (by omega)
  generalize hPT : pairL l 0 = PT at *
  generalize hPE : pairL l 2 = PE at *
  generalize hPM : pairL l 4 = PM at *
  have HPP := hid (And.intro hPT (And.intro hPE hPM)); clear hPT hPE hPM
  obtain ⟨y0, y1, y2, y3, y4⟩ := HE1.out.cells
  go_wp2_with fail; refine (cc _).mono ?_; rintro en w3 ⟨rfl, q3⟩
  have HC3 := hid (HC1.out.on q3)
  have HE3 := hid (HE1.out.on q3)
  have HT3 := hid (HT1.out.trans (Touch.of q3))
  clear q3 cc y0 y1 y2 y3 y4 HC1 HE1 HT1
  go_wp2_with fail
  go_loopw [5, 26] (fun _ ix wr => ∃ (k : Nat) (A : Option Addr) (n c : Nat), k ≤ hMany l ∧ 6 + 2 * k ≤ l.length ∧ ix = .int .i64 k ∧ n = k ∧ CurAt wr b (l.drop (6 + 2 * k)) ∧ EntAt wr e PT PE PM (.slice A n c) (.slice none 0 0) ∧ V.Own wr w.heap.size (.slice A n c) (incsN l k) ∧ Touch (fun x => x = b ∨ x = e) w wr) (fun _ ix _ => hMany l - (intOf ix).toNat)
  case atStart => exact ⟨0, none, 0, 0, by omega, h6, rfl, rfl, HC3.out, HE3.out, V.Own.nil _ _, HT3.out⟩
  case round =>
   obtain ⟨k, A, n, c, hk, hkl, rfl, hnk, hc, he, hu, ht⟩ := hrel
   have HC := hid hc; clear hc
   have HE := hid he; clear he
   have HU := hid hu; clear hu
   have HT := hid ht; clear ht HC3 HE3 HT3
   have HNK := hid hnk; clear hnk
   by_cases hlt : k < hMany l
   ·have hbn := Joins.below_alloc1 wr (.cells #[.int .i64 0] 3)
    have hib : (wr.alloc (.cells #[.int .i64 0] 3)).heap[wr.heap.size]? = some (.cells #[.int .i64 0] 3 (0, 0)) := heap_alloc_new wr _
    have HC1 := hid (HC.out.on hbn)
    have HE1 := hid (HE.out.on hbn)
    have HU1 := hid (ownsRow_on HU.out hbn)
    have HT1 := hid (HT.out.trans (Touch.of hbn))
    have HI1 := hid hib
    have HUL : Hid (∀ g, (Value.slice A n c).ownBlock = some g → g < wr.heap.size ∧ w.heap.size ≤ g) := hid (fun g hg => ⟨(HU.out.lt g hg).2, (HU.out.lt g hg).1⟩)
    have hsz : w.heap.size ≤ wr.heap.size := HT.out.size
    have hin : ¬ (wr.heap.size = b ∨ wr.heap.size = e) := by
     have h1 := (Array.getElem?_eq_some_iff.1 HC.out).1
     have h2 := (Array.getElem?_eq_some_iff.1 HE.out).1
     omega
    clear hib hbn HC HE HU HT
    go_upto_region 6 with (fail)
    generalize wr.alloc (.cells #[.int .i64 0] 3) = W1 at *
    generalize wr.heap.size = ib at *
    have hb2 := Joins.below_alloc1 W1 (.cells #[.pointer (some ⟨ib, 0, none⟩)] 127)
    have hgg := heap_alloc_new W1 (.cells #[.pointer (some ⟨ib, 0, none⟩)] 127)
    obtain ⟨ok, hok⟩ : ∃ ok, ok = decide (2 ≤ (l.drop (6 + 2 * k)).length) := ⟨_, rfl⟩
    have N1 := numbers_one b ib W1.heap.size 2 (l.drop (6 + 2 * k)) 0 _ (HC1.out.on hb2) ((hb2.block ib (Array.getElem?_eq_some_iff.1 HI1.out).1).trans HI1.out) hgg (by omega) (by omega) (by rw [List.length_drop]; omega)
    rw [← hok] at N1
    have HOK := hid hok; clear hok hgg
    have HB2 := hid hb2; clear hb2
    go_wp2_with fail; refine N1.mono ?_; rintro en w4 ⟨rfl, ⟨l', X, hc4, hi4, h24⟩, ht4⟩
    have HT2 : Hid (Touch (fun x => x = ib ∨ x = b) (W1.alloc (.cells #[.pointer (some ⟨ib, 0, none⟩)] 127)) w4) := hid (ht4.mono fun x _ hx => by omega)
    have HC4 := hid hc4; clear hc4
    have HE4 : Hid (EntAt w4 e PT PE PM (.slice A n c) (.slice none 0 0)) := hid ((ht4.block e (by have := (Array.getElem?_eq_some_iff.1 HE1.out).1; have := HB2.out.size; omega) (by omega)).trans (HE1.out.on HB2.out))
    have hU2 := ownsRow_on HU1.out HB2.out
    have hob := own_apart HU1.out HC1.out (by decide)
    have HU4 : Hid (V.Own w4 w.heap.size (.slice A n c) (incsN l k)) := hid (own_far hU2 (fun g hg => ht4.block g (hU2.lt g hg).2 (by have h1 := hob g hg; have h2 := (HUL.out g hg).1; omega)))
    have HT4 := hid ((HT1.out.trans (Touch.of HB2.out)).join ht4 (fun x hx hq => by omega))
    have HI4 := hid hi4
    have HS4 : Hid (w.heap.size ≤ w4.heap.size) := hid HT4.out.size
    have HOI : Hid (∀ g, (Value.slice A n c).ownBlock = some g → g ≠ ib) := hid (fun g hg => by have := (HUL.out g hg).1; omega)
    have HIW : Hid (w.heap.size ≤ ib) := hid hsz
    have HNB : Hid (b ≠ e ∧ ib ≠ b ∧ ib ≠ e) := hid (by omega)
    clear hU2 hob ht4 hi4 HC1 HE1 HU1 HT1 HI1 HB2 HT2
    cases ok
    ·have hn2 : ¬ 6 + 2 * hMany l ≤ l.length := by
      have h1 := HOK.out
      intro h2
      rw [List.length_drop, decide_eq_true (by omega)] at h1
      cases h1
     have HN2 := hid hn2; clear hn2 h24
     go_wp2_with fail
     go_ret
     exact ⟨false, rfl, HT4.out, fun h => (by cases h), fun _ => ⟨HN2.out, ⟨PT, PE, PM, A, n, c, HE4.out⟩, l', HC4.out⟩⟩
    ·have h2 : 2 ≤ (l.drop (6 + 2 * k)).length := of_decide_eq_true HOK.out.symm
     obtain ⟨rfl, rfl⟩ := h24 h2
     have hk2 : 6 + 2 * (k + 1) ≤ l.length := by rw [List.length_drop] at h2; omega
     rw [List.drop_drop, show 6 + 2 * k + 2 = 6 + 2 * (k + 1) by omega] at HC4
     rw [HPI.out k hk2] at HI4
     have HNX : Hid (incsN l (k + 1) = incsN l k ++ [pairL l (6 + 2 * k)]) := hid rfl
     generalize pairL l (6 + 2 * k) = X at *
     have HLN : Hid ((incsN l (k + 1)).length = n + 1) := hid (by rw [incsN_length, HNK.out])
     have HNL : Hid ((incsN l k).length + [X].length ≤ 1000) := hid (by rw [incsN_length]; simp; omega)
     have HK2 := hid hk2; clear hk2 h2 h24
     go_wp2_with fail
     have HV : ∃ O : Nat → (Nat → Value) → World → Prop, O = (fun ix u wv => match ix with
      | 0 => u 0 = .pointer (some ⟨e, 0, none⟩)
      | 1 => u 1 = .pointer (some ⟨e, 0, none⟩)
      | 2 => u 2 = .pointer (some ⟨e, 0, none⟩)
      | 3 => u 3 = .pointer (some ⟨e, 3, none⟩)
      | 4 => u 4 = .slice A n c
      | 5 => u 5 = .int .i64 X
      | 6 => ∃ g, u 6 = .slice (some ⟨g, 0, none⟩) 1 1 ∧ wv.heap[g]? = some (.cells #[.int .i64 X] 3 (0, 0))
      | 7 => ∃ A9 c9, u 7 = .slice A9 (n + 1) c9 ∧ V.Own wv w.heap.size (.slice A9 (n + 1) c9) (incsN l (k + 1))
      | 8 => u 8 = .pointer (some ⟨e, 0, none⟩)
      | 9 => u 9 = .pointer (some ⟨e, 3, none⟩)
      | 10 => ∃ A9 c9, EntAt wv e PT PE PM (.slice A9 (n + 1) c9) (.slice none 0 0) ∧ V.Own wv w.heap.size (.slice A9 (n + 1) c9) (incsN l (k + 1))
      | _ => True) := ⟨_, rfl⟩
     obtain ⟨O, hd7⟩ := HV
     have O0 : ∀ u wv, O 0 u wv = (u 0 = .pointer (some ⟨e, 0, none⟩)) := fun _ _ => by subst hd7; rfl
     have O1 : ∀ u wv, O 1 u wv = (u 1 = .pointer (some ⟨e, 0, none⟩)) := fun _ _ => by subst hd7; rfl
     have O2 : ∀ u wv, O 2 u wv = (u 2 = .pointer (some ⟨e, 0, none⟩)) := fun _ _ => by subst hd7; rfl
     have O3 : ∀ u wv, O 3 u wv = (u 3 = .pointer (some ⟨e, 3, none⟩)) := fun _ _ => by subst hd7; rfl
     have O4 : ∀ u wv, O 4 u wv = (u 4 = .slice A n c) := fun _ _ => by subst hd7; rfl
     have O5 : ∀ u wv, O 5 u wv = (u 5 = .int .i64 X) := fun _ _ => by subst hd7; rfl
     have O6 : ∀ u wv, O 6 u wv = (∃ g, u 6 = .slice (some ⟨g, 0, none⟩) 1 1 ∧ wv.heap[g]? = some (.cells #[.int .i64 X] 3 (0, 0))) := fun _ _ => by subst hd7; rfl
     have O7 : ∀ u wv, O 7 u wv = (∃ A9 c9, u 7 = .slice A9 (n + 1) c9 ∧ V.Own wv w.heap.size (.slice A9 (n + 1) c9) (incsN l (k + 1))) := fun _ _ => by subst hd7; rfl
     have O8 : ∀ u wv, O 8 u wv = (u 8 = .pointer (some ⟨e, 0, none⟩)) := fun _ _ => by subst hd7; rfl
     have O9 : ∀ u wv, O 9 u wv = (u 9 = .pointer (some ⟨e, 3, none⟩)) := fun _ _ => by subst hd7; rfl
     have O10 : ∀ u wv, O 10 u wv = (∃ A9 c9, EntAt wv e PT PE PM (.slice A9 (n + 1) c9) (.slice none 0 0) ∧ V.Own wv w.heap.size (.slice A9 (n + 1) c9) (incsN l (k + 1))) := fun _ _ => by subst hd7; rfl
     have HVD := hid hd7
     clear hd7
     refine region_phase (V := O) (drop := fun jx ix => (jx == 7 && ix == 6) || (jx == 10 && ix == 6) || (jx == 10 && ix == 7)) (G := fun L wv => (L 10 = false → EntAt wv e PT PE PM (.slice A n c) (.slice none 0 0)) ∧ (L 7 = false → V.Own wv w.heap.size (.slice A n c) (incsN l k)) ∧ CurAt wv b (l.drop (6 + 2 * (k + 1))) ∧ (L 8 = false → wv.heap[ib]? = some (.cells #[.int .i64 X] 3 (0, 0))) ∧ Touch (fun x => x = b ∨ x = e) w wv ∧ w.heap.size ≤ wv.heap.size) (Rel := fun jx wv wv' => jx = 7 ∨ jx = 10 ∨ Below wv.heap.size wv wv') (by kernel_rfl) (by kernel_rfl) ⟨fun _ => HE4.out.on (Below.refl _ _).drew, fun _ => ownsRow_on HU4.out (Below.refl _ _).drew, HC4.out.on (Below.refl _ _).drew, fun _ => HI4.out, HT4.out.trans (Touch.of (Below.refl _ _).drew), HS4.out⟩ ?hmonop2 ?hdepp2 ⟨?s0_p2, ?s1_p2, ?s2_p2, ?s3_p2, ?s4_p2, ?s5_p2, ?s6_p2, ?s7_p2, ?s8_p2, ?s9_p2, ?s10_p2, trivial⟩ ?behindp2
     case hmonop2 =>
      intro ix jx u wv wv' hij hw hd hr
      rw [HVD.out]
      dsimp only
      split <;> intro h <;> first | exact trivial | exact h | (rcases hr with rfl | rfl | hb; (focus first | exact absurd rfl hij | (simp at hd; done) | (exact Bool.noConfusion (hw.symm.trans (show _ = true from by kernel_rfl)))); (focus first | exact absurd rfl hij | (simp at hd; done) | (exact Bool.noConfusion (hw.symm.trans (show _ = true from by kernel_rfl)))); (first | (obtain ⟨g, e, hg⟩ := h; exact ⟨g, e, (hb.block g (Array.getElem?_eq_some_iff.1 hg).1).trans hg⟩) | (obtain ⟨A9, c9, e, hg⟩ := h; first | exact ⟨A9, c9, e, ownsRow_on hg hb⟩ | exact ⟨A9, c9, e.on hb, ownsRow_on hg hb⟩)))
     case hdepp2 =>
      intro ix u u' wv h1 h2
      rw [HVD.out]
      dsimp only
      split <;> intro h <;> first | exact trivial | (rw [← h1]; exact h) | exact h
     case s0_p2 =>
      refine oweP rfl fun a wx val L hG hi hW hV hN hO K hK => ?_
      have e1 : a.tmps[1]? = some (.pointer (some ⟨e, 0, none⟩)) := (hO 1).trans (by rfl)
      clear hV hN hO
      go_simp
      exact hK.out _ _ (by rw [O0, upd_at] <;> (congr 1 <;> omega)) (.inr (.inr (Below.refl _ _))) (⟨fun h => hG.1 (upL_false h), fun h => hG.2.1 (upL_false h), hG.2.2.1, fun h => hG.2.2.2.1 (upL_false h), hG.2.2.2.2.1, hG.2.2.2.2.2⟩)
     case s1_p2 =>
      refine oweP rfl fun a wx val L hG hi hW hV hN hO K hK => ?_
      have e1 : a.tmps[1]? = some (.pointer (some ⟨e, 0, none⟩)) := (hO 1).trans (by rfl)
      clear hV hN hO
      go_simp
      exact hK.out _ _ (by rw [O1, upd_at] <;> (congr 1 <;> omega)) (.inr (.inr (Below.refl _ _))) (⟨fun h => hG.1 (upL_false h), fun h => hG.2.1 (upL_false h), hG.2.2.1, fun h => hG.2.2.2.1 (upL_false h), hG.2.2.2.2.1, hG.2.2.2.2.2⟩)
     case s2_p2 =>
      refine oweP rfl fun a wx val L hG hi hW hV hN hO K hK => ?_
      have e35 := hN 1 35
      have f35 := hV 1
      rw [O1] at f35; rw [f35] at e35; clear f35
      clear hV hN hO
      go_simp
      exact hK.out _ _ (by rw [O2, upd_at] <;> (congr 1 <;> omega)) (.inr (.inr (Below.refl _ _))) (⟨fun h => hG.1 (upL_false h), fun h => hG.2.1 (upL_false h), hG.2.2.1, fun h => hG.2.2.2.1 (upL_false h), hG.2.2.2.2.1, hG.2.2.2.2.2⟩)
     case s3_p2 =>
      refine oweP rfl fun a wx val L hG hi hW hV hN hO K hK => ?_
      have e36 := hN 2 36
      have f36 := hV 2
      rw [O2] at f36; rw [f36] at e36; clear f36
      clear hV hN hO
      go_simp
      exact hK.out _ _ (by rw [O3, upd_at] <;> (congr 1 <;> omega)) (.inr (.inr (Below.refl _ _))) (⟨fun h => hG.1 (upL_false h), fun h => hG.2.1 (upL_false h), hG.2.2.1, fun h => hG.2.2.2.1 (upL_false h), hG.2.2.2.2.1, hG.2.2.2.2.2⟩)
     case s4_p2 =>
      refine oweP rfl fun a wx val L hG hi hW hV hN hO K hK => ?_
      have e37 := hN 3 37
      have f37 := hV 3
      rw [O3] at f37; rw [f37] at e37; clear f37
      clear hV hN hO
      obtain ⟨y0, y1, y2, y3, y4⟩ := (hG.1 (hW 10)).cells
      go_simp
      exact hK.out _ _ (by rw [O4, upd_at] <;> (congr 1 <;> omega)) (.inr (.inr (Below.refl _ _))) (⟨fun h => hG.1 (upL_false h), fun h => hG.2.1 (upL_false h), hG.2.2.1, fun h => hG.2.2.2.1 (upL_false h), hG.2.2.2.2.1, hG.2.2.2.2.2⟩)
     case s5_p2 =>
      refine oweP rfl fun a wx val L hG hi hW hV hN hO K hK => ?_
      have e5 : a.tmps[5]? = some (.pointer (some ⟨ib, 0, none⟩)) := (hO 5).trans (by rfl)
      clear hV hN hO
      have x0 : wx.cell? ⟨ib, 0, none⟩ = some (.int .i64 X) := (cell_of (hG.2.2.2.1 (hW 8)) 0).trans rfl
      go_simp
      exact hK.out _ _ (by rw [O5, upd_at] <;> (congr 1 <;> omega)) (.inr (.inr (Below.refl _ _))) (⟨fun h => hG.1 (upL_false h), fun h => hG.2.1 (upL_false h), hG.2.2.1, fun h => hG.2.2.2.1 (upL_false h), hG.2.2.2.2.1, hG.2.2.2.2.2⟩)
     case s6_p2 =>
      refine oweP rfl fun a wx val L hG hi hW hV hN hO K hK => ?_
      have e39 := hN 5 39
      have f39 := hV 5
      rw [O5] at f39; rw [f39] at e39; clear f39
      clear hV hN hO
      go_simp
      have hb := Joins.below_alloc1 wx (.cells #[.int .i64 X] 3)
      exact hK.out _ _ (by rw [O6, upd_at]; exact ⟨_, rfl, heap_alloc_new _ _⟩) (.inr (.inr hb)) (⟨fun h => (hG.1 (upL_false h)).on hb, fun h => ownsRow_on (hG.2.1 (upL_false h)) hb, hG.2.2.1.on hb, fun h => (hb.block ib (Array.getElem?_eq_some_iff.1 (hG.2.2.2.1 (upL_false h))).1).trans (hG.2.2.2.1 (upL_false h)), hG.2.2.2.2.1.trans (Touch.of hb), Nat.le_trans hG.2.2.2.2.2 hb.size⟩)
     case s7_p2 =>
      refine oweP rfl fun a wx val L hG hi hW hV hN hO K hK => ?_
      have e38 := hN 4 38
      have f38 := hV 4
      rw [O4] at f38; rw [f38] at e38; clear f38
      have e40 := hN 6 40
      have f40 := hV 6
      rw [O6] at f40; obtain ⟨g, hv, hgg⟩ := f40; rw [hv] at e40
      clear hV hN hO
      have hOw := hG.2.1 hi
      have hEn := hG.1 (hW 10)
      refine V.wp_app (.tmp 38) (.tmp 40) rfl w.heap.size (g + 1) (.slice A n c) (incsN l k) [X] (some ⟨g, 0, none⟩) 1 (by simp [Act.eval, e38]) (by simp [Act.eval, e40]) hOw (row_one hgg) hG.2.2.2.2.2 HNL.out ?_
      intro u' w5 hown5 hg5
      rw [← HNX.out] at hown5
      obtain ⟨A9, c9, rfl, -, -⟩ := V.Own.row hown5
      rw [HLN.out] at hown5 ⊢
      exact hK.out _ _ (by rw [O7, upd_at]; exact ⟨A9, c9, rfl, hown5⟩) (.inl rfl) ⟨fun h => hEn.grown hg5 (own_apart hOw hEn (by decide)), fun h => (upL_self h).elim, hG.2.2.1.grown hg5 (own_apart hOw hG.2.2.1 (by decide)), fun h => (hg5.block ib (Array.getElem?_eq_some_iff.1 (hG.2.2.2.1 (upL_false h))).1 (fun e => HOI.out ib e.symm rfl)).trans (hG.2.2.2.1 (upL_false h)), hG.2.2.2.2.1.grown hg5 (fun g e => (hOw.lt g e).1), Nat.le_trans hG.2.2.2.2.2 hg5.size⟩
     case s8_p2 =>
      refine oweP rfl fun a wx val L hG hi hW hV hN hO K hK => ?_
      have e34 := hN 0 34
      have f34 := hV 0
      rw [O0] at f34; rw [f34] at e34; clear f34
      clear hV hN hO
      go_simp
      exact hK.out _ _ (by rw [O8, upd_at] <;> (congr 1 <;> omega)) (.inr (.inr (Below.refl _ _))) (⟨fun h => hG.1 (upL_false h), fun h => hG.2.1 (upL_false h), hG.2.2.1, fun h => hG.2.2.2.1 (upL_false h), hG.2.2.2.2.1, hG.2.2.2.2.2⟩)
     case s9_p2 =>
      refine oweP rfl fun a wx val L hG hi hW hV hN hO K hK => ?_
      have e42 := hN 8 42
      have f42 := hV 8
      rw [O8] at f42; rw [f42] at e42; clear f42
      clear hV hN hO
      go_simp
      exact hK.out _ _ (by rw [O9, upd_at] <;> (congr 1 <;> omega)) (.inr (.inr (Below.refl _ _))) (⟨fun h => hG.1 (upL_false h), fun h => hG.2.1 (upL_false h), hG.2.2.1, fun h => hG.2.2.2.1 (upL_false h), hG.2.2.2.2.1, hG.2.2.2.2.2⟩)
     case s10_p2 =>
      refine oweP rfl fun a wx val L hG hi hW hV hN hO K hK => ?_
      have e43 := hN 9 43
      have f43 := hV 9
      rw [O9] at f43; rw [f43] at e43; clear f43
      have e41 := hN 7 41
      have f41 := hV 7
      rw [O7] at f41; obtain ⟨A9, c9, hv, hoo⟩ := f41; rw [hv] at e41
      clear hV hN hO
      have hEn := hG.1 hi
      obtain ⟨y0, y1, y2, y3, y4⟩ := hEn.cells
      have hf := hEn.frozen 3
      go_simp
      exact hK.out undef (wx.setCell ⟨e, 3, none⟩ (.slice A9 (n + 1) c9)) (by rw [O10]; exact ⟨A9, c9, hEn.set3 _, own_far hoo (fun g hg => Below.heap_setCell _ _ _ _ (own_apart hoo hEn (by decide) g hg))⟩) (.inr (.inl rfl)) ⟨fun h => (upL_self h).elim, fun h => own_far (hG.2.1 (upL_false h)) (fun g hg => Below.heap_setCell _ _ _ _ (own_apart (hG.2.1 (upL_false h)) hEn (by decide) g hg)), hG.2.2.1.far HNB.out.1 _, fun h => (Below.heap_setCell _ _ _ _ HNB.out.2.2).trans (hG.2.2.2.1 (upL_false h)), hG.2.2.2.2.1.setCell ⟨e, 3, none⟩ (.inr rfl) _, Nat.le_trans hG.2.2.2.2.2 (Nat.le_of_eq (World.size_setCell _ _ _).symm)⟩
     intro val wx L hG hV
     have f0 := hV 0
     rw [O0] at f0
     have f1 := hV 1
     rw [O1] at f1
     have f2 := hV 2
     rw [O2] at f2
     have f3 := hV 3
     rw [O3] at f3
     have f4 := hV 4
     rw [O4] at f4
     have f5 := hV 5
     rw [O5] at f5
     have f8 := hV 8
     rw [O8] at f8
     have f9 := hV 9
     rw [O9] at f9
     have f10 := hV 10
     rw [O10] at f10
     clear hV O0 O1 O2 O3 O4 O5 O6 O7 O8 O9 O10
     simp only [putAll, Act.put, List.setIfInBounds_toArray, List.set_cons_zero, List.set_cons_succ]
     generalize val 0 = z0, val 1 = z1, val 2 = z2, val 3 = z3, val 4 = z4, val 5 = z5, val 6 = z6, val 7 = z7, val 8 = z8, val 9 = z9 at *
     subst f0 f1 f2 f3 f4 f5 f8 f9
     clear HVD
     obtain ⟨A9, c9, he9, hu9⟩ := f10
     have HE9 := hid he9
     have HU9 := hid hu9
     have HC9 := hid hG.2.2.1
     have HT9 := hid hG.2.2.2.2.1
     have HNN : Hid (n + 1 = k + 1) := hid (by have := HNK.out; omega)
     clear he9 hu9 hG
     go_wp2_with fail
     go_roundw
     case rel => exact ⟨k + 1, A9, n + 1, c9, by omega, HK2.out, by go_num, HNN.out, HC9.out, HE9.out, HU9.out, HT9.out⟩
     case measure => simp [intOf]; omega
   ·have ek : k = hMany l := by omega
    subst ek
    have hnn := HNK.out
    subst hnn
    obtain ⟨rfl, rfl, rfl⟩ := HPP.out
    go_wp2_with fail
    go_ret
    exact ⟨true, rfl, HT.out, fun _ => ⟨hkl, HC.out, A, c, HE.out, HU.out⟩, fun h => (by cases h)⟩
theorem decN_take (l : List UInt8) (n : Nat) (h : 12 ≤ n) : decN (l.take n) = decN l := by
 unfold decN
 rw [getD_take l n 11 (by omega)]
theorem decM_take (l : List UInt8) (h : decN l ≤ 8) : decM (l.take 20) = decM l := by
 unfold decM
 rw [decN_take l 20 (by omega), take4 l 20 (by omega), getD_take l 20 4 (by omega), pair_take l 20 5 (by omega), pair_take l 20 7 (by omega), pair_take l 20 9 (by omega)]
 have e : ((l.take 20).drop 12).take (decN l) = (l.drop 12).take (decN l) := by
  rw [List.drop_take, List.take_take, show min (decN l) (20 - 12) = decN l by omega]
 rw [e]
theorem decE_take (l : List UInt8) : decE (l.take 20) = decE l := by
 unfold decE
 by_cases h12 : l.length < 12
 ·rw [if_pos (by rw [List.length_take]; omega), if_pos h12]
 ·rw [if_neg (by rw [List.length_take]; omega), if_neg h12, decN_take l 20 (by omega)]
  by_cases h8 : 8 < decN l
  ·rw [if_pos h8, if_pos h8]
  ·rw [if_neg h8, if_neg h8, take4 l 20 (by omega), decM_take l (by omega)]
   by_cases hs : l.length < 12 + decN l
   ·rw [if_pos (by rw [List.length_take]; omega), if_pos hs]
   ·rw [if_neg (by rw [List.length_take]; omega), if_neg hs]
theorem decE_zero {l : List UInt8} (h : decE l = 0) : decN l ≤ 8 ∧ 12 + decN l ≤ l.length := by
 have := decE_facts h
 omega
theorem decR_take (l : List UInt8) : decR (l.take 20) = decR l := by
 unfold decR
 rw [decE_take]
 by_cases h : decE l = 0
 ·rw [if_pos h, if_pos h, decM_take l (decE_zero h).1]
 ·rw [if_neg h, if_neg h]
theorem taken_len {l : List UInt8} : (decRest (l.take 20)).length ≤ (l.take 20).length ∧ (decE l = 0 → (l.take 20).length - (decRest (l.take 20)).length = 12 + decN l) := by
 unfold decRest
 rw [decE_take]
 by_cases h : decE l = 0
 ·obtain ⟨h8, h12⟩ := decE_zero h
  rw [if_pos h, decN_take l 20 (by omega)]
  refine ⟨by rw [List.length_drop]; omega, fun _ => ?_⟩
  rw [List.length_drop, List.length_take]
  omega
 ·rw [if_neg h]
  exact ⟨by simp, fun h' => absurd h' h⟩
def MsgPost (b : Nat) (l : List UInt8) (w : World) (en : Ending) (w' : World) : Prop :=
 en = .returned (.tuple #[mv (decR l), .int .i64 (decE l)]) ∧ Touch (fun x => x = b) w w' ∧ (decE l = 0 → CurAt w' b (decRest l)) ∧ ∃ l', CurAt w' b l'
theorem message_any (b : Nat) (l : List UInt8) (w : World) (L : Laid w) (h : CurAt w b l) (hl : l.length ≤ 281474976710656) :
  Calls Tryz.prog 165 #[.pointer (some ⟨b, 0, none⟩)] w (MsgPost b l w) := by
 have hbw := (Array.getElem?_eq_some_iff.1 h).1
 have b0 := Joins.below_alloc1 w (.cells #[.bool false, .int .i64 0, .int .i64 0, .int .i64 0, .int .i64 0, .int .i64 0, .string ⟨#[]⟩] 109)
 have s0 := heap_alloc_new w (.cells #[.bool false, .int .i64 0, .int .i64 0, .int .i64 0, .int .i64 0, .int .i64 0, .string ⟨#[]⟩] 109)
 have c0 := h.on b0
 have L0 := L.below b0
 have HB0 := hid b0; clear b0
 have HS0 : Hid (Seven (w.alloc (.cells #[.bool false, .int .i64 0, .int .i64 0, .int .i64 0, .int .i64 0, .int .i64 0, .string ⟨#[]⟩] 109)) w.heap.size) := hid ⟨_, s0, rfl⟩
 have HC0 := hid c0; clear c0 s0
 have HL0 := hid L0; clear L0 L h
 obtain ⟨hlen, hcons⟩ := taken_len (l := l)
 have h20 : (l.take 20).length ≤ 20 := by rw [List.length_take]; omega
 have htl : (l.take 20).length ≤ l.length := by rw [List.length_take]; omega
 have cd := fun W L' => decP_any (txt (l.take 20)) W L' (by rw [txt_size]; omega)
 unfold DecPost at cd
 simp only [txt_data] at cd
 rw [decE_take, decR_take] at cd
 have ha := fun W (hc : CurAt W b l) => ahead_any b 20 l W hc
 generalize hX : l.take 20 = X at *
 have HAH := hid ha; clear ha
 have HCD := hid cd; clear cd
 have HTL := hid (fun W (hc : CurAt W b l) => take_long b (X.length - (decRest X).length) l W hc (by omega) hl)
 have hnn : ((X.length - (decRest X).length : Nat) : Int) = (X.length : Int) - (decRest X).length := by omega
 rw [hnn] at HTL
 have hsub : IntKind.i64.wrap ((X.length : Int) - (decRest X).length) = (X.length : Int) - (decRest X).length := IntWalk.i64_in _ (by omega)
 have htx : (txt X).size = X.length := txt_size _
 have htr : (txt (decRest X)).size = (decRest X).length := txt_size _
 have HFIN : Hid (decE l = 0 → l.drop (X.length - (decRest X).length) = decRest l) := hid (fun h0 => by
  rw [hcons h0]; unfold decRest; rw [if_pos h0])
 clear hcons hlen h20 htl hX
 generalize hR : decR l = M at *
 generalize hE : decE l = E at *
 have HRE := hid (And.intro hR hE); clear hR hE
 go_enter Tryz.func165, Tryz.ntmps165
 go_upto_region 1 with (fail)
 generalize w.alloc (.cells #[.bool false, .int .i64 0, .int .i64 0, .int .i64 0, .int .i64 0, .int .i64 0, .string ⟨#[]⟩] 109) = W0 at *
 generalize hws : w.heap.size = r0 at *
 go_wp2_with fail; refine (HAH.out _ HC0.out).mono ?_; rintro en w1 ⟨rfl, n1, rfl⟩
 have hd1 := below_drewN (Below.refl W0.heap.size W0) n1
 have HB1 := hid (HB0.out.trans (hd1.mono (by have := HB0.out.size; rw [hws] at this; exact this)))
 have HC1 := hid (HC0.out.on hd1)
 have HS1 := hid (HS0.out.below hd1)
 have HL1 := hid (HL0.out.below hd1)
 clear hd1
 generalize W0.drewN n1 = W1 at *
 go_wp2_with fail; refine (HCD.out _ HL1.out).mono ?_; rintro en w2 ⟨rfl, b2⟩
 have HB2 := hid (HB1.out.trans (b2.mono (by have := HB1.out.size; rw [hws] at this; exact this)))
 have HC2 := hid (HC1.out.on b2)
 have HS2 := hid (HS1.out.below b2)
 clear b2
 have b3 := Joins.below_alloc1 w2 (.cells (mc M) 109)
 have m3 : MsgAt (w2.alloc (.cells (mc M) 109)) w2.heap.size M := heap_alloc_new w2 _
 have HB3 := hid (HB2.out.trans (b3.mono (by have := HB2.out.size; rw [hws] at this; exact this)))
 have HC3 := hid (HC2.out.on b3)
 have HS3 := hid (HS2.out.below b3)
 have HM3 := hid m3
 clear b3 m3 HC2 HS2 HC1 HS1 HC0 HS0 HB0 HB1 HB2
 obtain ⟨me, mn, ms, mi, mq, mu, md⟩ := M
 simp only [mv, mc] at *
 go_upto_region 3 with (fail)
 generalize w2.alloc (.cells #[.bool me, .int .i64 mn, .int .i64 ms, .int .i64 mi, .int .i64 mq, .int .i64 mu, .string md] 109) = W3 at *
 generalize w2.heap.size = gm at *
 go_wp2_with fail; refine (HTL.out _ HC3.out).mono ?_; rintro en w4 ⟨rfl, rfl⟩
 generalize l.drop (X.length - (decRest X).length) = Y at *
 have hne : b ≠ r0 := by omega
 have hcb := HC3.out.set Y
 have hgb : gm ≠ b := by
  intro h1
  have h2 := HM3.out
  rw [h1] at h2
  unfold MsgAt at h2
  rw [show W3.heap[b]? = _ from HC3.out] at h2
  injection h2 with h2; injection h2 with k1 k2
  exact absurd k2 (by decide)
 have HC4 := hid hcb
 have HM4 : Hid (MsgAt (W3.setCell ⟨b, 0, none⟩ (.string (txt Y))) gm ⟨me, mn, ms, mi, mq, mu, md⟩) := hid ((Below.heap_setCell _ _ _ _ hgb).trans HM3.out)
 have HS4 : Hid (Seven (W3.setCell ⟨b, 0, none⟩ (.string (txt Y))) r0) := hid (by
  obtain ⟨Z, h1, h2⟩ := HS3.out
  exact ⟨Z, (Below.heap_setCell _ _ _ _ (fun e => hne e.symm)).trans h1, h2⟩)
 have HT4 := hid ((Touch.of (P := fun x => x = b) (by rw [hws]; exact HB3.out)).setCell ⟨b, 0, none⟩ rfl (.string (txt Y)))
 clear hcb hgb HC3 HM3 HS3 HB3
 generalize W3.setCell ⟨b, 0, none⟩ (.string (txt Y)) = W4 at *
 obtain ⟨_, x0, x1, x2, x3, x4, x5, x6⟩ := Holds.of_blk HM4.out
 simp only at x0 x1 x2 x3 x4 x5 x6
 obtain ⟨z0, z1, z2, z3, z4, z5, z6, ⟨q0, q1, q2, q3, q4, q5, q6⟩, hfz⟩ := HS4.out.cells
 go_wp2_with fail
 have hp := put7_blk HS4.out ⟨me, mn, ms, mi, mq, mu, md⟩
 have hcf : CurAt (put7 W4 r0 ⟨me, mn, ms, mi, mq, mu, md⟩) b Y := (put7_far W4 hne _).trans HC4.out
 have htf : Touch (fun x => x = b) w (put7 W4 r0 ⟨me, mn, ms, mi, mq, mu, md⟩) := by
  unfold put7
  have hw : ∀ {U : World} {i : Nat} {x : Value}, Touch (fun x => x = b) w U → Touch (fun x => x = b) w (U.setCell ⟨r0, i, none⟩ x) := fun {U i x} h => ⟨h.os, h.tape, h.output, by simpa using h.size, fun k hk hn => (Below.heap_setCell _ _ _ _ (by show k ≠ r0; omega)).trans (h.block k hk hn)⟩
  exact hw (hw (hw (hw (hw (hw (hw HT4.out))))))
 obtain ⟨_, r0', r1, r2, r3, r4, r5, r6⟩ := Holds.of_blk hp
 simp only at r0' r1 r2 r3 r4 r5 r6
 unfold put7 at r0' r1 r2 r3 r4 r5 r6 hcf htf
 refine bodyPost_ret (v := .tuple #[.agg #[.bool me, .int .i64 mn, .int .i64 ms, .int .i64 mi, .int .i64 mq, .int .i64 mu, .string md], .int .i64 E]) (by simp [results, Tryz.results165, go_sem, r0', r1, r2, r3, r4, r5, r6]) rfl ⟨?_, htf, fun h0 => ?_, _, hcf⟩
 ·rw [HRE.out.1, HRE.out.2]
 ·rw [HRE.out.2] at h0
  rw [← HFIN.out h0]; exact hcf
def rdE (l : List UInt8) : Int := if l.length < 6 then 3 else if l.length < 7 + 2 * hMany l then 3 else if 16 < eN l then 2 else errK (bodyL l) (eN l)
theorem decEE_rd (l : List UInt8) : decEE l = if rdE l = 0 then (if rightE (entD l) = true then 0 else 2) else rdE l := by
 unfold decEE rdE
 by_cases h1 : l.length < 6
 ·rw [if_pos h1, if_pos h1]; rfl
 ·rw [if_neg h1, if_neg h1]
  by_cases h2 : l.length < 7 + 2 * hMany l
  ·rw [if_pos h2, if_pos h2]; rfl
  ·rw [if_neg h2, if_neg h2]
   by_cases h3 : 16 < eN l
   ·rw [if_pos h3, if_pos h3]; rfl
   ·rw [if_neg h3, if_neg h3]
theorem Touch.trans' {P : Nat → Prop} {a b c : World} {r : Nat} (h : Touch P a b) (k : Below r b c) (hr : a.heap.size ≤ r) : Touch P a c :=
 ⟨k.os.trans h.os, k.tape.trans h.tape, k.output.trans h.output, Nat.le_trans h.size k.size, fun i hi hn => (k.block i (Nat.lt_of_lt_of_le hi hr)).trans (h.block i hi hn)⟩
theorem CurAt.putE {w : World} {b r : Nat} {l : List UInt8} (h : CurAt w b l) (hne : b ≠ r) {t ep mem : Int} {u v : Value} : CurAt (putE w r t ep mem u v) b l := (putE_far w hne t ep mem u v).trans h
theorem Touch.putE {P : Nat → Prop} {w w' : World} (h : Touch P w w') {r : Nat} (hr : w.heap.size ≤ r) {t ep mem : Int} {u v : Value} : Touch P w (putE w' r t ep mem u v) :=
 h.trans' (putE_below (Below.refl r w') (Nat.le_refl r) t ep mem u v) hr
def EntryPost (b : Nat) (l : List UInt8) (w : World) (en : Ending) (w' : World) : Prop :=
 ∃ t ep mem A n c A' n' c', en = .returned (.tuple #[ev t ep mem (.slice A n c) (.slice A' n' c'), .int .i64 (rdE l)]) ∧ Touch (fun x => x = b) w w' ∧ (∃ l', CurAt w' b l') ∧
  (rdE l = 0 → t = pairL l 0 ∧ ep = pairL l 2 ∧ mem = pairL l 4 ∧ V.Own w' w.heap.size (.slice A n c) (incsN l (hMany l)) ∧ OwnM w' w.heap.size (.slice A' n' c') (msgK (bodyL l) (eN l)) ∧ CurAt w' b (restK (bodyL l) (eN l)))
theorem entry_any (b B : Nat) (l : List UInt8) (w : World) (hBb : B ≤ b) (hBw : B ≤ w.heap.size) (LB : ∀ w', Below B w w' → Laid w') (h : CurAt w b l) (hl : l.length ≤ 281474976710656) :
  Calls Tryz.prog 141 #[.pointer (some ⟨b, 0, none⟩)] w (EntryPost b l w) := by
 have hbw := (Array.getElem?_eq_some_iff.1 h).1
 have bb := Joins.below_alloc2 w (.cells #[.int .i64 0, .int .i64 0, .int .i64 0, .slice none 0 0, .slice none 0 0] 37) (.cells #[.int .i64 0, .int .i64 0, .int .i64 0, .slice none 0 0, .slice none 0 0] 37)
 have er := (EntAt.new w 0 0 0 (.slice none 0 0) (.slice none 0 0)).on (Joins.below_alloc1 _ (.cells #[.int .i64 0, .int .i64 0, .int .i64 0, .slice none 0 0, .slice none 0 0] 37))
 have ee := EntAt.new (w.alloc (.cells #[.int .i64 0, .int .i64 0, .int .i64 0, .slice none 0 0, .slice none 0 0] 37)) 0 0 0 (.slice none 0 0) (.slice none 0 0)
 rw [World.size_alloc] at ee
 have cc := h.on bb
 have htt := Touch.of (P := fun x => x = b) bb
 have hsz := bb.size
 have HLB : Hid (∀ w', Touch (fun x => x = b) w w' → Laid w') := hid (fun w' ht => LB w' (ht.below B hBw (fun k hk => by omega)))
 clear LB h
 go_enter Tryz.func141, Tryz.ntmps141
 go_upto_region 2 with (fail)
 obtain ⟨W0, hW0⟩ : ∃ W0, W0 = (w.alloc (.cells #[.int .i64 0, .int .i64 0, .int .i64 0, .slice none 0 0, .slice none 0 0] 37)).alloc (.cells #[.int .i64 0, .int .i64 0, .int .i64 0, .slice none 0 0, .slice none 0 0] 37) := ⟨_, rfl⟩
 rw [← hW0] at er ee cc htt hsz bb
 rw [← hW0]
 have HBR : Hid (b ≠ w.heap.size) := hid (by omega)
 have HRW : Hid (w.heap.size ≤ w.heap.size) := hid (Nat.le_refl _)
 have HRE : Hid (w.heap.size ≠ w.heap.size + 1) := hid (by omega)
 have hlt2 : w.heap.size + 1 < W0.heap.size := (Array.getElem?_eq_some_iff.1 ee).1
 clear hW0
 have ch := head_any b (w.heap.size + 1) l W0 cc ee hl
 have HT0 := hid htt; clear htt
 have HR0 := hid er; clear er
 have HSZ := hid hsz
 have HLT2 := hid hlt2
 clear cc ee bb
 unfold HeadPost at ch
 go_wp2_with fail; refine ch.mono ?_; rintro en w1 ⟨ok, rfl, ht1, hok, hnok⟩
 clear ch
 have HT1 := hid (HT0.out.join ht1 (fun x hx hq => by omega))
 have HR1 : Hid (EntAt w1 w.heap.size 0 0 0 (.slice none 0 0) (.slice none 0 0)) := hid ((ht1.block w.heap.size (by omega) (by omega)).trans HR0.out)
 cases ok
 ·obtain ⟨hn, ⟨t, ep, mem, A, n, c, he⟩, l', hc⟩ := hnok rfl
  have hrd : rdE l = 3 := by
   unfold rdE
   by_cases h6 : l.length < 6
   ·rw [if_pos h6]
   ·rw [if_neg h6, if_pos (by omega)]
  have HRD := hid hrd; clear hrd hn hok hnok ht1
  have HE1 := hid he; clear he
  have HC1 := hid hc; clear hc
  obtain ⟨y0, y1, y2, y3, y4⟩ := HE1.out.cells
  obtain ⟨p0, p1, p2, p3, p4⟩ := HR1.out.cells
  have f0 := HR1.out.frozen 0
  have f1 := HR1.out.frozen 1
  have f2 := HR1.out.frozen 2
  have f3 := HR1.out.frozen 3
  have f4 := HR1.out.frozen 4
  go_wp2_with fail
  have hpz := putE_at HR1.out t ep mem (.slice A n c) (.slice none 0 0)
  have hcz := HC1.out.putE HBR.out (t := t) (ep := ep) (mem := mem) (u := (.slice A n c)) (v := (.slice none 0 0))
  have htz := HT1.out.putE HRW.out (t := t) (ep := ep) (mem := mem) (u := (.slice A n c)) (v := (.slice none 0 0))
  obtain ⟨r0', r1, r2, r3, r4⟩ := hpz.cells
  unfold putE at r0' r1 r2 r3 r4 hcz htz
  exact bodyPost_ret (v := .tuple #[ev t ep mem (.slice A n c) (.slice none 0 0), .int .i64 3]) (by simp [results, Tryz.results141, go_sem, r0', r1, r2, r3, r4]) rfl ⟨t, ep, mem, A, n, c, none, 0, 0, by rw [HRD.out], htz, ⟨_, hcz⟩, fun h0 => absurd h0 (by rw [HRD.out]; first | decide | assumption)⟩
 ·obtain ⟨hlen, hc, A, c, he, hu⟩ := hok rfl
  have HC1 := hid hc; clear hc
  have HE1 := hid he; clear he
  have HU1 : Hid (V.Own w1 w.heap.size (.slice A (hMany l) c) (incsN l (hMany l))) := hid ⟨hu.1, hu.2.imp id (by rintro ⟨g, cap, cur, k1, k2, k3⟩; exact ⟨g, cap, cur, k1, by omega, k3⟩)⟩
  have hM16 := hMany_le l
  have HRS : Hid (∀ E, (if l.length < 7 + 2 * hMany l then (3 : Int) else if 16 < eN l then 2 else errK (bodyL l) (eN l)) = E → rdE l = E) := hid (fun E h => by unfold rdE; rw [if_neg (by omega)]; exact h)
  have hle1 : (l.drop (6 + 2 * hMany l)).length = l.length - (6 + 2 * hMany l) := List.length_drop
  have hby : 7 + 2 * hMany l ≤ l.length → (((numB ((l.drop (6 + 2 * hMany l)).take 1) : Nat) : Int) = (eN l : Int)) ∧ (l.drop (6 + 2 * hMany l)).drop 1 = bodyL l := fun h7 => by
   refine ⟨?_, ?_⟩
   ·rw [numB_byte _ (by omega)]
    unfold eN
    rw [getD_drop]
    rfl
   ·rw [List.drop_drop]; unfold bodyL; rw [show 6 + 2 * hMany l + 1 = 7 + 2 * hMany l by omega]
  have HBY := hid hby; clear hby
  have hs1 : w.heap.size + 1 < w1.heap.size := Nat.lt_of_lt_of_le HLT2.out ht1.size
  clear hok hnok ht1 hu
  generalize hPT : pairL l 0 = PT at *
  generalize hPE : pairL l 2 = PE at *
  generalize hPM : pairL l 4 = PM at *
  have HPP := hid (And.intro hPT.symm (And.intro hPE.symm hPM.symm)); clear hPT hPE hPM
  have hbn := Joins.below_alloc1 w1 (.cells #[.int .i64 0] 3)
  have hib : (w1.alloc (.cells #[.int .i64 0] 3)).heap[w1.heap.size]? = some (.cells #[.int .i64 0] 3 (0, 0)) := heap_alloc_new w1 _
  have HC2 := hid (HC1.out.on hbn)
  have HE2 := hid (HE1.out.on hbn)
  have HR2 := hid (HR1.out.on hbn)
  have HU2 := hid (ownsRow_on HU1.out hbn)
  have HT2 := hid (HT1.out.trans (Touch.of hbn))
  have HI2 := hid hib
  have HUL : Hid (∀ g, (Value.slice A (hMany l) c).ownBlock = some g → g < w1.heap.size) := hid (fun g hg => (HU1.out.lt g hg).2)
  have hs2 := hbn.size
  have hbw1 : b < w1.heap.size := (Array.getElem?_eq_some_iff.1 HC1.out).1
  clear hib hbn HC1 HE1 HR1 HU1 HT1
  go_upto_region 5 with (fail)
  generalize w1.alloc (.cells #[.int .i64 0] 3) = W2 at *
  generalize w1.heap.size = ib at *
  have hb3 := Joins.below_alloc1 W2 (.cells #[.pointer (some ⟨ib, 0, none⟩)] 127)
  have hgg := heap_alloc_new W2 (.cells #[.pointer (some ⟨ib, 0, none⟩)] 127)
  obtain ⟨ok, hok⟩ : ∃ ok, ok = decide (1 ≤ (l.drop (6 + 2 * hMany l)).length) := ⟨_, rfl⟩
  have N1 := numbers_one b ib W2.heap.size 1 (l.drop (6 + 2 * hMany l)) 0 _ (HC2.out.on hb3) ((hb3.block ib (Array.getElem?_eq_some_iff.1 HI2.out).1).trans HI2.out) hgg (by omega) (by omega) (by omega)
  rw [← hok] at N1
  have HOK := hid hok; clear hok hgg
  have HB3 := hid hb3; clear hb3
  go_wp2_with fail; refine N1.mono ?_; rintro en w4 ⟨rfl, ⟨l', X, hc4, hi4, h14⟩, ht4⟩
  have hib2 : ib < W2.heap.size := (Array.getElem?_eq_some_iff.1 HI2.out).1
  have hU3 := ownsRow_on HU2.out HB3.out
  have hob := own_apart HU2.out HC2.out (by decide)
  have HE4 : Hid (EntAt w4 (w.heap.size + 1) PT PE PM (.slice A (hMany l) c) (.slice none 0 0)) := hid ((ht4.block _ (by have := HB3.out.size; omega) (by omega)).trans (HE2.out.on HB3.out))
  have HR4 : Hid (EntAt w4 w.heap.size 0 0 0 (.slice none 0 0) (.slice none 0 0)) := hid ((ht4.block _ (by have := HB3.out.size; omega) (by omega)).trans (HR2.out.on HB3.out))
  have HU4 : Hid (V.Own w4 w.heap.size (.slice A (hMany l) c) (incsN l (hMany l))) := hid (own_far hU3 (fun g hg => ht4.block g (hU3.lt g hg).2 (by have h1 := hob g hg; have h2 := HUL.out g hg; omega)))
  have HT4 := hid ((HT2.out.trans (Touch.of HB3.out)).join ht4 (fun x hx hq => by omega))
  have HC4 := hid hc4; clear hc4
  have hi4c := (cell_of hi4 0).trans rfl
  have hs4 : w.heap.size + 1 < w4.heap.size := by have := ht4.size; have := HB3.out.size; omega
  clear hU3 hob ht4 HE2 HR2 HU2 HT2 HC2 HB3 N1 HI2
  cases ok
  ·have hn7 : l.length < 7 + 2 * hMany l := by
    have h1 := HOK.out
    rcases Nat.lt_or_ge l.length (7 + 2 * hMany l) with h | h
    ·exact h
    ·rw [decide_eq_true (by omega)] at h1; cases h1
   have HRD := hid (HRS.out 3 (by rw [if_pos hn7]))
   clear HRS hn7 h14 hi4
   obtain ⟨y0, y1, y2, y3, y4⟩ := HE4.out.cells
   obtain ⟨p0, p1, p2, p3, p4⟩ := HR4.out.cells
   have f0 := HR4.out.frozen 0
   have f1 := HR4.out.frozen 1
   have f2 := HR4.out.frozen 2
   have f3 := HR4.out.frozen 3
   have f4 := HR4.out.frozen 4
   go_wp2_with fail
   have hpz := putE_at HR4.out PT PE PM (.slice A (hMany l) c) (.slice none 0 0)
   have hcz := HC4.out.putE HBR.out (t := PT) (ep := PE) (mem := PM) (u := (.slice A (hMany l) c)) (v := (.slice none 0 0))
   have htz := HT4.out.putE HRW.out (t := PT) (ep := PE) (mem := PM) (u := (.slice A (hMany l) c)) (v := (.slice none 0 0))
   obtain ⟨r0', r1, r2, r3, r4⟩ := hpz.cells
   unfold putE at r0' r1 r2 r3 r4 hcz htz
   exact bodyPost_ret (v := .tuple #[ev PT PE PM (.slice A (hMany l) c) (.slice none 0 0), .int .i64 3]) (by simp [results, Tryz.results141, go_sem, r0', r1, r2, r3, r4]) rfl ⟨PT, PE, PM, A, _, c, none, 0, 0, by rw [HRD.out], htz, ⟨_, hcz⟩, fun h0 => absurd h0 (by rw [HRD.out]; first | decide | assumption)⟩
  ·have h1 : 1 ≤ (l.drop (6 + 2 * hMany l)).length := of_decide_eq_true HOK.out.symm
   obtain ⟨rfl, rfl⟩ := h14 h1
   have h7 : 7 + 2 * hMany l ≤ l.length := by omega
   obtain ⟨hn1, hn2⟩ := HBY.out h7
   rw [hn1] at hi4c
   rw [hn2] at HC4
   have hN : eN l < 256 := by unfold eN; exact (l.getD _ 0).toNat_lt
   have HRT : Hid (∀ E, (if 16 < eN l then (2 : Int) else errK (bodyL l) (eN l)) = E → rdE l = E) := hid (fun E h => HRS.out E (by rw [if_neg (by omega)]; exact h))
   clear HRS hn1 hn2 h1 h14 HBY hi4
   by_cases h16 : 16 < eN l
   ·have HRD := hid (HRT.out 2 (by rw [if_pos h16]))
    have h17 : (16 : Int) < (eN l : Int) := by omega
    clear HRT
    obtain ⟨y0, y1, y2, y3, y4⟩ := HE4.out.cells
    obtain ⟨p0, p1, p2, p3, p4⟩ := HR4.out.cells
    have f0 := HR4.out.frozen 0
    have f1 := HR4.out.frozen 1
    have f2 := HR4.out.frozen 2
    have f3 := HR4.out.frozen 3
    have f4 := HR4.out.frozen 4
    go_wp2_with fail
    have hpz := putE_at HR4.out PT PE PM (.slice A (hMany l) c) (.slice none 0 0)
    have hcz := HC4.out.putE HBR.out (t := PT) (ep := PE) (mem := PM) (u := (.slice A (hMany l) c)) (v := (.slice none 0 0))
    have htz := HT4.out.putE HRW.out (t := PT) (ep := PE) (mem := PM) (u := (.slice A (hMany l) c)) (v := (.slice none 0 0))
    obtain ⟨r0', r1, r2, r3, r4⟩ := hpz.cells
    unfold putE at r0' r1 r2 r3 r4 hcz htz
    exact bodyPost_ret (v := .tuple #[ev PT PE PM (.slice A (hMany l) c) (.slice none 0 0), .int .i64 2]) (by simp [results, Tryz.results141, go_sem, r0', r1, r2, r3, r4]) rfl ⟨PT, PE, PM, A, _, c, none, 0, 0, by rw [HRD.out], htz, ⟨_, hcz⟩, fun h0 => absurd h0 (by rw [HRD.out]; first | decide | assumption)⟩
   ·have HRU : Hid (rdE l = errK (bodyL l) (eN l)) := hid (HRT.out _ (by rw [if_neg h16]))
    have h17 : ¬ (16 : Int) < (eN l : Int) := by omega
    clear HRT
    have HU0 : Hid (OwnM w4 w.heap.size (.slice none 0 0) (msgK (bodyL l) 0)) := hid (OwnM.nil _ _)
    have hbdl : (bodyL l).length ≤ l.length := by unfold bodyL; rw [List.length_drop]; omega
    generalize hBd : bodyL l = Bd at *
    generalize hNN : eN l = NN at *
    generalize hMN : hMany l = MN at *
    generalize hIN : incsN l MN = IN at *
    have HEQ := hid (And.intro hBd (And.intro hNN (And.intro hMN hIN))); clear hBd hNN hMN hIN
    go_wp2_with fail
    go_loopw [6, 7, 23] (fun _ _ ix wz => ∃ (j : Nat) (A' : Option Addr) (n' c' : Nat), j ≤ NN ∧ ix = .int .i64 j ∧ n' = j ∧ errK Bd j = 0 ∧ (restK Bd j).length ≤ Bd.length ∧ EntAt wz (w.heap.size + 1) PT PE PM (.slice A MN c) (.slice A' n' c') ∧ V.Own wz w.heap.size (.slice A MN c) IN ∧ OwnM wz w.heap.size (.slice A' n' c') (msgK Bd j) ∧ EntAt wz w.heap.size 0 0 0 (.slice none 0 0) (.slice none 0 0) ∧ Touch (fun x => x = b) w wz ∧ CurAt wz b (restK Bd j)) (fun _ _ ix _ => NN - (intOf ix).toNat)
    case atStart => exact ⟨0, none, 0, 0, by omega, rfl, rfl, rfl, Nat.le_refl _, HE4.out, HU4.out, HU0.out, HR4.out, HT4.out, HC4.out⟩
    case round =>
    obtain ⟨j, A', n', c', hj, rfl, hnj, herr, hrl, he, hu, hv, hr, ht, hc⟩ := hrel
    have hszw : w.heap.size + 1 < wr.heap.size := (Array.getElem?_eq_some_iff.1 he).1
    have HJE := hid he; clear he
    have HJU := hid hu; clear hu
    have HJV := hid hv; clear hv
    have HJR := hid hr; clear hr
    have HJT := hid ht; clear ht
    have HJC := hid hc; clear hc
    have HNJ := hid hnj; clear hnj
    have HERR := hid herr; clear herr
    have HRL := hid hrl; clear hrl
    clear HE4 HU4 HU0 HR4 HT4 HC4
    by_cases hjl : (j : Int) < NN
    ·have hjn : j < NN := by omega
     have cm := message_any b (restK Bd j) wr (HLB.out wr HJT.out) HJC.out (by have := HRL.out; omega)
     unfold MsgPost at cm
     by_cases hde : decE (restK Bd j) = 0
     ·rw [hde] at cm
      have HEN : Hid (errK Bd (j + 1) = 0) := hid (errK_next Bd HERR.out hde)
      have HRN : Hid ((restK Bd (j + 1)).length ≤ Bd.length) := hid (by
       show (decRest (restK Bd j)).length ≤ _
       unfold decRest
       rw [if_pos hde, List.length_drop]
       have := HRL.out
       omega)
      have HMNX : Hid (msgK Bd (j + 1) = msgK Bd j ++ [decR (restK Bd j)]) := hid rfl
      have HRS : Hid (decRest (restK Bd j) = restK Bd (j + 1)) := hid rfl
      rw [HRS.out] at cm
      have HLM : Hid ((msgK Bd j).length + [decR (restK Bd j)].length ≤ 1000) := hid (by rw [msgK_length]; simp; omega)
      have HLN : Hid ((msgK Bd (j + 1)).length = n' + 1) := hid (by rw [msgK_length, HNJ.out])
      clear hde
      generalize decR (restK Bd j) = MM at *
      have hq8 := fun (w7 : World) => Joins.below_alloc1 w7 (.cells (mc MM) 109)
      have hm8 := fun (w7 : World) => (show MsgAt (w7.alloc (.cells (mc MM) 109)) w7.heap.size MM from heap_alloc_new w7 _)
      obtain ⟨me, mn, ms, mi, mq, mu, md⟩ := MM
      simp only [mv, mc] at *
      go_wp2_with fail; refine cm.mono ?_; rintro en w7 ⟨rfl, t7, hc7, -⟩
      have hc7 := hc7 trivial
      have hE7 := (t7.block _ (by omega) (by omega)).trans HJE.out
      have hR7 := (t7.block _ (by omega) (by omega)).trans HJR.out
      have hobu := own_apart HJU.out HJC.out (by decide)
      have hobv := own_apart HJV.out HJC.out (by decide)
      have hU7 := own_far HJU.out (fun g hg => t7.block g (HJU.out.lt g hg).2 (by have h1 := hobu g hg; omega))
      have hV7 := own_far HJV.out (fun g hg => t7.block g (HJV.out.lt g hg).2 (by have h1 := hobv g hg; omega))
      have q8 := hq8 w7
      have HE8 : Hid (EntAt (w7.alloc (.cells #[.bool me, .int .i64 mn, .int .i64 ms, .int .i64 mi, .int .i64 mq, .int .i64 mu, .string md] 109)) (w.heap.size + 1) PT PE PM (.slice A MN c) (.slice A' n' c')) := hid (EntAt.on hE7 q8)
      have HR8 : Hid (EntAt (w7.alloc (.cells #[.bool me, .int .i64 mn, .int .i64 ms, .int .i64 mi, .int .i64 mq, .int .i64 mu, .string md] 109)) w.heap.size 0 0 0 (.slice none 0 0) (.slice none 0 0)) := hid (EntAt.on hR7 q8)
      have HU8 := hid (ownsRow_on hU7 q8)
      have HV8 := hid (ownsRow_on hV7 q8)
      have HC8 := hid (hc7.on q8)
      have HT8 := hid ((HJT.out.trans t7).trans (Touch.of q8))
      have HM8 := hid (hm8 w7)
      have HZ8 : Hid (w.heap.size ≤ (w7.alloc (.cells #[.bool me, .int .i64 mn, .int .i64 ms, .int .i64 mi, .int .i64 mq, .int .i64 mu, .string md] 109)).heap.size) := hid (by have := t7.size; have := q8.size; omega)
      clear t7 hc7 hE7 hR7 hobu hobv hU7 hV7 q8 hq8 hm8 cm HJE HJU HJV HJR HJT HJC
      go_upto_region 14 with (fail)
      generalize w7.alloc (.cells #[.bool me, .int .i64 mn, .int .i64 ms, .int .i64 mi, .int .i64 mq, .int .i64 mu, .string md] 109) = W8 at *
      generalize w7.heap.size = gm at *
      obtain ⟨_, x0, x1, x2, x3, x4, x5, x6⟩ := Holds.of_blk HM8.out
      simp only at x0 x1 x2 x3 x4 x5 x6
      obtain ⟨y0, y1, y2, y3, y4⟩ := HE8.out.cells
      have hb8 := Joins.below_alloc1 W8 (.cells #[.bool me, .int .i64 mn, .int .i64 ms, .int .i64 mi, .int .i64 mq, .int .i64 mu, .string md] 109)
      have h1 : MsgAt (W8.alloc (.cells #[.bool me, .int .i64 mn, .int .i64 ms, .int .i64 mi, .int .i64 mq, .int .i64 mu, .string md] 109)) W8.heap.size ⟨me, mn, ms, mi, mq, mu, md⟩ := heap_alloc_new W8 _
      have HB1 := hid hb8
      have HMO := hid (Msgs.one h1)
      have hz9 := Nat.le_trans HZ8.out hb8.size
      have HZ9 := hid hz9
      have HVE := hid (ownsRow_on HV8.out hb8)
      clear hb8 h1 hz9
      go_wp2_with (at_builtin; refine list_appM (by rfl) _ _ rfl w.heap.size _ (.slice A' n' c') (msgK Bd j) [⟨me, mn, ms, mi, mq, mu, md⟩] (some ⟨W8.heap.size, 0, none⟩) 1 rfl rfl HVE.out HMO.out HZ9.out HLM.out ?_)
      intro v' w9 hown9 hg9
      rw [← HMNX.out] at hown9
      obtain ⟨A9, c9, rfl, -, -⟩ := hown9.row
      rw [HLN.out] at hown9 ⊢
      have HO9 := hid hown9
      have hE1 := HE8.out.on HB1.out
      have HE9 := hid (hE1.grown hg9 (own_apart HVE.out hE1 (by decide)))
      have hU1 := ownsRow_on HU8.out HB1.out
      have hR1 := HR8.out.on HB1.out
      have HR9 := hid (hR1.grown hg9 (own_apart HVE.out hR1 (by decide)))
      have hC1 := HC8.out.on HB1.out
      have HC9 := hid (hC1.grown hg9 (own_apart HVE.out hC1 (by decide)))
      have HT9 := hid ((HT8.out.trans (Touch.of HB1.out)).grown hg9 (fun g e => (HVE.out.lt g e).1))
      have HU9 : Hid (V.Own w9 w.heap.size (.slice A MN c) IN) := hid (own_far hU1 (fun g hg => hg9.block g (hU1.lt g hg).2 (fun e => own_kinds hU1 HVE.out (by decide) g hg g e.symm rfl)))
      clear hown9 hg9 hE1 hU1 hR1 hC1 HE8 HU8 HV8 HR8 HC8 HT8 HZ8 HM8 HB1 HMO HZ9 HVE x0 x1 x2 x3 x4 x5 x6 y0 y1 y2 y3 y4
      obtain ⟨y0, y1, y2, y3, y4⟩ := HE9.out.cells
      have f4 := HE9.out.frozen 4
      go_upto_region 15 with (fail)
      have hf9 := own_apart HO9.out HE9.out (by decide)
      have hfu := own_apart HU9.out HE9.out (by decide)
      have K1 := hid (HE9.out.set4 (.slice A9 (n' + 1) c9))
      have K2 : Hid (OwnM (w9.setCell ⟨w.heap.size + 1, 4, none⟩ (.slice A9 (n' + 1) c9)) w.heap.size (.slice A9 (n' + 1) c9) (msgK Bd (j + 1))) := hid (own_far HO9.out (fun g hg => Below.heap_setCell _ _ _ _ (hf9 g hg)))
      have K3 : Hid (V.Own (w9.setCell ⟨w.heap.size + 1, 4, none⟩ (.slice A9 (n' + 1) c9)) w.heap.size (.slice A MN c) IN) := hid (own_far HU9.out (fun g hg => Below.heap_setCell _ _ _ _ (hfu g hg)))
      have K4 := hid (HR9.out.far (b' := w.heap.size + 1) (i := 4) HRE.out (.slice A9 (n' + 1) c9))
      have K5 := hid (HT9.out.trans' ((Below.refl w.heap.size w9).setCell (p := ⟨w.heap.size + 1, 4, none⟩) (Nat.le_succ _) (.slice A9 (n' + 1) c9)) (Nat.le_refl _))
      have K6 : Hid (CurAt (w9.setCell ⟨w.heap.size + 1, 4, none⟩ (.slice A9 (n' + 1) c9)) b (restK Bd (j + 1))) := hid ((Below.heap_setCell _ _ _ _ (by show b ≠ w.heap.size + 1; omega)).trans HC9.out)
      clear hf9 hfu HE9 HO9 HU9 HR9 HT9 HC9 y0 y1 y2 y3 y4 f4
      generalize w9.setCell ⟨w.heap.size + 1, 4, none⟩ (.slice A9 (n' + 1) c9) = W10 at *
      have HNN2 : Hid (n' + 1 = j + 1) := hid (by have := HNJ.out; omega)
      have qj : IntKind.i64.wrap ((j : Int) + 1) = (j : Int) + 1 := IntWalk.i64_in _ (by omega)
      go_wp2_with fail
      go_roundw
      case rel => exact ⟨j + 1, A9, n' + 1, c9, by omega, by go_num, HNN2.out, HEN.out, HRN.out, K1.out, K3.out, K2.out, K4.out, K5.out, K6.out⟩
      case measure => simp [intOf]; omega
     ·have hdz : ((decE (restK Bd j) : Int) != 0) = true := by simpa using hde
      have HRD : Hid (rdE l = decE (restK Bd j)) := hid (HRU.out.trans (errK_at Bd hjn HERR.out hde))
      have HDE := hid hde; clear hde
      generalize decE (restK Bd j) = E at *
      generalize decR (restK Bd j) = MM at *
      obtain ⟨me, mn, ms, mi, mq, mu, md⟩ := MM
      simp only [mv] at cm
      go_wp2_with fail; refine cm.mono ?_; rintro en w7 ⟨rfl, t7, -, l7, hc7⟩
      have q8 := Joins.below_alloc1 w7 (.cells #[.bool me, .int .i64 mn, .int .i64 ms, .int .i64 mi, .int .i64 mq, .int .i64 mu, .string md] 109)
      have hE7 : EntAt w7 (w.heap.size + 1) PT PE PM (.slice A MN c) (.slice A' n' c') := (t7.block _ (by omega) (by omega)).trans HJE.out
      have hR7 : EntAt w7 w.heap.size 0 0 0 (.slice none 0 0) (.slice none 0 0) := (t7.block _ (by omega) (by omega)).trans HJR.out
      have HE8 := hid (hE7.on q8)
      have HR8 := hid (hR7.on q8)
      have HC8 := hid (hc7.on q8)
      have HT8 := hid ((HJT.out.trans t7).trans (Touch.of q8))
      clear t7 hc7 q8 hE7 hR7 cm HJE HJU HJV HJR HJT HJC
      go_upto_region 13 with (fail)
      generalize w7.alloc (.cells #[.bool me, .int .i64 mn, .int .i64 ms, .int .i64 mi, .int .i64 mq, .int .i64 mu, .string md] 109) = W8 at *
      obtain ⟨y0, y1, y2, y3, y4⟩ := HE8.out.cells
      obtain ⟨p0, p1, p2, p3, p4⟩ := HR8.out.cells
      have f0 := HR8.out.frozen 0
      have f1 := HR8.out.frozen 1
      have f2 := HR8.out.frozen 2
      have f3 := HR8.out.frozen 3
      have f4 := HR8.out.frozen 4
      go_wp2_with fail
      have hpz := putE_at HR8.out PT PE PM (.slice A MN c) (.slice A' n' c')
      have hcz := HC8.out.putE HBR.out (t := PT) (ep := PE) (mem := PM) (u := (.slice A MN c)) (v := (.slice A' n' c'))
      have htz := HT8.out.putE HRW.out (t := PT) (ep := PE) (mem := PM) (u := (.slice A MN c)) (v := (.slice A' n' c'))
      obtain ⟨r0', r1, r2, r3, r4⟩ := hpz.cells
      unfold putE at r0' r1 r2 r3 r4 hcz htz
      exact bodyPost_ret (v := .tuple #[ev PT PE PM (.slice A MN c) (.slice A' n' c'), .int .i64 E]) (by simp [results, Tryz.results141, go_sem, r0', r1, r2, r3, r4]) rfl ⟨PT, PE, PM, A, _, c, A', _, c', by rw [HRD.out], htz, ⟨_, hcz⟩, fun h0 => absurd h0 (by rw [HRD.out]; exact HDE.out)⟩
    ·have ejn : j = NN := by omega
     have HRD : Hid (rdE l = 0) := hid (HRU.out.trans (by rw [← ejn]; exact HERR.out))
     obtain ⟨y0, y1, y2, y3, y4⟩ := HJE.out.cells
     obtain ⟨p0, p1, p2, p3, p4⟩ := HJR.out.cells
     have f0 := HJR.out.frozen 0
     have f1 := HJR.out.frozen 1
     have f2 := HJR.out.frozen 2
     have f3 := HJR.out.frozen 3
     have f4 := HJR.out.frozen 4
     go_wp2_with fail
     have hpz := putE_at HJR.out PT PE PM (.slice A MN c) (.slice A' n' c')
     have hcz := HJC.out.putE HBR.out (t := PT) (ep := PE) (mem := PM) (u := (.slice A MN c)) (v := (.slice A' n' c'))
     have htz := HJT.out.putE HRW.out (t := PT) (ep := PE) (mem := PM) (u := (.slice A MN c)) (v := (.slice A' n' c'))
     have huz : V.Own (putE wr w.heap.size PT PE PM (.slice A MN c) (.slice A' n' c')) w.heap.size (.slice A MN c) IN := own_far HJU.out (fun g hg => putE_far _ (own_apart HJU.out HJR.out (by decide) g hg) _ _ _ _ _)
     have hvz : OwnM (putE wr w.heap.size PT PE PM (.slice A MN c) (.slice A' n' c')) w.heap.size (.slice A' n' c') (msgK Bd j) := own_far HJV.out (fun g hg => putE_far _ (own_apart HJV.out HJR.out (by decide) g hg) _ _ _ _ _)
     obtain ⟨r0', r1, r2, r3, r4⟩ := hpz.cells
     unfold putE at r0' r1 r2 r3 r4 hcz htz huz hvz
     obtain ⟨q1, q2, q3, q4⟩ := HEQ.out
     refine bodyPost_ret (v := .tuple #[ev PT PE PM (.slice A MN c) (.slice A' n' c'), .int .i64 0]) (by simp [results, Tryz.results141, go_sem, r0', r1, r2, r3, r4]) rfl ⟨PT, PE, PM, A, _, c, A', _, c', by rw [HRD.out], htz, ⟨_, hcz⟩, fun _ => ?_⟩
     rw [q1, q2, q3, q4, ← ejn]
     exact ⟨HPP.out.1, HPP.out.2.1, HPP.out.2.2, huz, hvz, hcz⟩
theorem own_more {w : World} {B B' : Nat} {e : TypeId} {k n : Nat} {u : Value} {xs : List Value} (h : w.ownsRow B e k u n xs) (hB : B' ≤ B) : w.ownsRow B' e k u n xs :=
 ⟨h.1, h.2.imp id (by rintro ⟨g, cap, cur, k1, k2, k3⟩; exact ⟨g, cap, cur, k1, by omega, k3⟩)⟩
theorem txt_data' (s : ByteArray) : txt s.data.toList = s := by unfold txt; cases s; simp
theorem rest_len (l : List UInt8) : ∀ k, (restK l k).length ≤ l.length
 | 0 => Nat.le_refl _
 | k + 1 => by
  show (decRest (restK l k)).length ≤ _
  have h := rest_len l k
  unfold decRest
  split
  ·rw [List.length_drop]; omega
  ·simp
theorem rest_small (l : List UInt8) (hl : l.length ≤ 140737488355328) : (restK (bodyL l) (eN l)).length ≤ 281474976710656 := by
 have h := rest_len (bodyL l) (eN l)
 have h2 : (bodyL l).length ≤ l.length := by unfold bodyL; rw [List.length_drop]; omega
 omega
theorem decEP_any (s : ByteArray) (hs : s.size ≤ 140737488355328) (w : World) (L : Laid w) :
  Calls Tryz.prog 109 #[.string s] w (DecEPost s.data.toList w) := by
 have hl := Lib.size_eq s
 obtain ⟨l, hll⟩ : ∃ l, s.data.toList = l := ⟨_, rfl⟩
 have hst : s = txt l := by rw [← hll]; exact (txt_data' s).symm
 rw [hll] at hl ⊢
 subst hst
 have hlen : l.length ≤ 140737488355328 := by omega
 clear hl hll
 have bb := Joins.below_alloc2 w (.cells #[.int .i64 0, .int .i64 0, .int .i64 0, .slice none 0 0, .slice none 0 0] 37) (.cells #[.string (txt l)] 171)
 have er := (EntAt.new w 0 0 0 (.slice none 0 0) (.slice none 0 0)).on (Joins.below_alloc1 _ (.cells #[.string (txt l)] 171))
 have cc : CurAt ((w.alloc (.cells #[.int .i64 0, .int .i64 0, .int .i64 0, .slice none 0 0, .slice none 0 0] 37)).alloc (.cells #[.string (txt l)] 171)) (w.heap.size + 1) l := by
  have := heap_alloc_new (w.alloc (.cells #[.int .i64 0, .int .i64 0, .int .i64 0, .slice none 0 0, .slice none 0 0] 37)) (.cells #[.string (txt l)] 171)
  rw [World.size_alloc] at this
  exact this
 have HL := hid L; clear L
 go_enter Tryz.func109, Tryz.ntmps109
 go_upto_region 2 with (fail)
 obtain ⟨W0, hW0⟩ : ∃ W0, W0 = (w.alloc (.cells #[.int .i64 0, .int .i64 0, .int .i64 0, .slice none 0 0, .slice none 0 0] 37)).alloc (.cells #[.string (txt l)] 171) := ⟨_, rfl⟩
 rw [← hW0] at er cc bb
 rw [← hW0]
 clear hW0
 have hsz := bb.size
 have hbl : w.heap.size + 1 < W0.heap.size := (Array.getElem?_eq_some_iff.1 cc).1
 have ce := entry_any (w.heap.size + 1) w.heap.size l W0 (Nat.le_succ _) hsz (fun w' hb => HL.out.below (bb.trans hb)) cc (by omega)
 have HBB := hid bb; clear bb
 have HER := hid er; clear er
 clear cc
 unfold EntryPost at ce
 go_wp2_with fail; refine ce.mono ?_; rintro en w2 ⟨t, ep, mem, A, n, c, A', n', c', rfl, ht, ⟨l', hc'⟩, hok⟩
 clear ce
 have hb2 : Below w.heap.size w w2 := HBB.out.trans (ht.below w.heap.size hsz (fun k hk => by omega))
 have hR2 : EntAt w2 w.heap.size 0 0 0 (.slice none 0 0) (.slice none 0 0) := (ht.block _ (by omega) (by omega)).trans HER.out
 have q8 := Joins.below_alloc1 w2 (.cells #[.int .i64 t, .int .i64 ep, .int .i64 mem, .slice A n c, .slice A' n' c'] 37)
 have HE3 := hid (EntAt.new w2 t ep mem (.slice A n c) (.slice A' n' c'))
 have HB3 := hid (hb2.trans (q8.mono hb2.size))
 have HR3 := hid (hR2.on q8)
 have hEBR : w.heap.size + 1 < w2.heap.size := Nat.lt_of_lt_of_le hbl ht.size
 by_cases hrd : rdE l = 0
 ·obtain ⟨rfl, rfl, rfl, hu, hv, hc⟩ := hok hrd
  have HC3 := hid (hc.on q8)
  have HU3 := hid (own_more (ownsRow_on hu q8) hsz)
  have HV3 := hid (own_more (ownsRow_on hv q8) hsz)
  rw [hrd]
  have HONE := hid (fun h => decE_one (l := l) h w)
  have HDE : Hid (∀ E, (if rightE (entD l) = true then (0 : Int) else 2) = E → decEE l = E) := hid (fun E h => by rw [decEE_rd, if_pos hrd]; exact h)
  have HENT : Hid (entD l = ⟨pairL l 0, pairL l 2, pairL l 4, incsN l (hMany l), msgK (bodyL l) (eN l)⟩) := hid rfl
  have HLR : Hid ((restK (bodyL l) (eN l)).length ≤ 281474976710656) := hid (rest_small l hlen)
  clear hu hv hc hc' hb2 hR2 hok ht HER HBB hrd
  go_upto_region 5 with (fail)
  generalize hW3 : w2.alloc (.cells #[.int .i64 (pairL l 0), .int .i64 (pairL l 2), .int .i64 (pairL l 4), .slice A n c, .slice A' n' c'] 37) = W3 at *
  clear q8 hW3
  generalize w2.heap.size = EB at *
  obtain ⟨hn1, hrow1⟩ := own_slice HU3.out
  obtain ⟨hn2, hrow2⟩ := ownM_slice HV3.out
  have hM16 := hMany_le l
  have hN : eN l < 256 := by unfold eN; exact (l.getD _ 0).toNat_lt
  have cR := rightEP_any (entD l) A c A' c' W3 (HL.out.below HB3.out) hrow1 hrow2 (by rw [HENT.out]; show (incsN l (hMany l)).length ≤ maxLen; rw [incsN_length]; unfold maxLen; omega) (by rw [HENT.out]; show (msgK (bodyL l) (eN l)).length ≤ maxLen; rw [msgK_length]; unfold maxLen; omega) (fun m hm => Nat.le_trans (msgK_small (bodyL l) (eN l) m hm) (by unfold maxLen; decide))
  have hre : rightE (entD l) = rightE ⟨pairL l 0, pairL l 2, pairL l 4, incsN l (hMany l), msgK (bodyL l) (eN l)⟩ := by rw [HENT.out]
  rw [HENT.out] at cR
  simp only at cR
  rw [← hn1, ← hn2, ← hre] at cR
  clear hre hn1 hn2 hrow1 hrow2 hM16 hN HENT
  generalize hPT : pairL l 0 = PT at *
  generalize hPE : pairL l 2 = PE at *
  generalize hPM : pairL l 4 = PM at *
  generalize hIN : incsN l (hMany l) = IN at *
  generalize hMS : msgK (bodyL l) (eN l) = MS at *
  generalize hRS : restK (bodyL l) (eN l) = RS at *
  clear hPT hPE hPM hIN hMS hRS
  obtain ⟨y0, y1, y2, y3, y4⟩ := HE3.out.cells
  cases hri : rightE (entD l)
  ·rw [hri] at cR
   have HD := hid (decE_none (HDE.out 2 (by rw [hri]; rfl)) (by omega) w ())
   clear HDE hri HONE
   go_wp2_with fail; refine cR.mono ?_; rintro e w7 ⟨rfl, q7⟩
   have HR8 := hid (HR3.out.on q7)
   have HB8 := hid (HB3.out.trans (q7.mono HB3.out.size))
   clear q7 cR y0 y1 y2 y3 y4
   obtain ⟨p0, p1, p2, p3, p4⟩ := HR8.out.cells
   have f0 := HR8.out.frozen 0
   have f1 := HR8.out.frozen 1
   have f2 := HR8.out.frozen 2
   have f3 := HR8.out.frozen 3
   have f4 := HR8.out.frozen 4
   go_wp2_with fail
   have hpz := putE_at HR8.out 0 0 0 (.slice none 0 0) (.slice none 0 0)
   obtain ⟨r0, r1, r2, r3, r4⟩ := hpz.cells
   have hbz := putE_below HB8.out (Nat.le_refl _) 0 0 0 (.slice none 0 0) (.slice none 0 0)
   unfold putE at r0 r1 r2 r3 r4 hbz
   exact bodyPost_ret (v := .tuple #[ev 0 0 0 (.slice none 0 0) (.slice none 0 0), .string ⟨#[]⟩, .int .i64 2]) (by simp [results, Tryz.results109, go_sem, r0, r1, r2, r3, r4]) rfl (HD.out _ hbz)
  ·rw [hri] at cR
   have hone := HONE.out (HDE.out 0 (by rw [hri]; rfl))
   have HON := hid hone
   clear HDE hri HONE hone
   go_wp2_with fail; refine cR.mono ?_; rintro e w7 ⟨rfl, q7⟩
   have HR8 := hid (HR3.out.on q7)
   have HE8 := hid (HE3.out.on q7)
   have HU8 := hid (ownsRow_on HU3.out q7)
   have HV8 := hid (ownsRow_on HV3.out q7)
   have HC8 := hid (HC3.out.on q7)
   have HB8 := hid (HB3.out.trans (q7.mono HB3.out.size))
   clear q7 cR y0 y1 y2 y3 y4 HR3 HE3 HU3 HV3 HC3 HB3
   have HEB : Hid (EB ≠ w.heap.size) := hid (by omega)
   have HRL : Hid (w.heap.size ≤ w7.heap.size) := hid HB8.out.size
   go_wp2_with fail
   generalize hR : w.heap.size = R at *
   have HV : ∃ O : Nat → (Nat → Value) → World → Prop, O = (fun ix u wv => match ix with
    | 0 => u 0 = ev PT PE PM (.slice A n c) (.slice A' n' c')
    | 1 => u 1 = .pointer (some ⟨R + 1, 0, none⟩)
    | 2 => u 2 = .string (txt RS)
    | 3 => EntAt wv R PT PE PM (.slice A n c) (.slice A' n' c')
    | 4 => u 4 = .string (txt RS)
    | 5 => u 5 = .int .i64 0
    | _ => True) := ⟨_, rfl⟩
   obtain ⟨O, hd7⟩ := HV
   have O0 : ∀ u wv, O 0 u wv = (u 0 = ev PT PE PM (.slice A n c) (.slice A' n' c')) := fun _ _ => by subst hd7; rfl
   have O1 : ∀ u wv, O 1 u wv = (u 1 = .pointer (some ⟨R + 1, 0, none⟩)) := fun _ _ => by subst hd7; rfl
   have O2 : ∀ u wv, O 2 u wv = (u 2 = .string (txt RS)) := fun _ _ => by subst hd7; rfl
   have O3 : ∀ u wv, O 3 u wv = (EntAt wv R PT PE PM (.slice A n c) (.slice A' n' c')) := fun _ _ => by subst hd7; rfl
   have O4 : ∀ u wv, O 4 u wv = (u 4 = .string (txt RS)) := fun _ _ => by subst hd7; rfl
   have O5 : ∀ u wv, O 5 u wv = (u 5 = .int .i64 0) := fun _ _ => by subst hd7; rfl
   have HVD := hid hd7
   clear hd7
   refine region_phase (V := O) (drop := fun _ _ => false) (G := fun L wv => (L 3 = false → EntAt wv R 0 0 0 (.slice none 0 0) (.slice none 0 0)) ∧ EntAt wv EB PT PE PM (.slice A n c) (.slice A' n' c') ∧ CurAt wv (R + 1) RS ∧ V.Own wv R (.slice A n c) IN ∧ OwnM wv R (.slice A' n' c') MS ∧ Below R w wv ∧ R ≤ wv.heap.size) (Rel := fun jx wv wv' => jx = 3 ∨ Below wv.heap.size wv wv') (by kernel_rfl) (by kernel_rfl) ⟨fun _ => HR8.out.on (Below.refl _ _).drew, HE8.out.on (Below.refl _ _).drew, HC8.out.on (Below.refl _ _).drew, ownsRow_on HU8.out (Below.refl _ _).drew, ownsRow_on HV8.out (Below.refl _ _).drew, HB8.out.trans ((Below.refl _ _).drew.mono HRL.out), HRL.out⟩ ?hmonop1 ?hdepp1 ⟨?s0_p1, ?s1_p1, ?s2_p1, ?s3_p1, ?s4_p1, ?s5_p1, trivial⟩ ?behindp1
   case hmonop1 =>
    intro ix jx u wv wv' hij hw hd hr
    rw [HVD.out]
    dsimp only
    split <;> intro h <;> first | exact trivial | exact h | (rcases hr with rfl | hb; (focus first | exact absurd rfl hij | (simp at hd; done) | (exact Bool.noConfusion (hw.symm.trans (show _ = true from by kernel_rfl)))); (first | (exact h.on hb)))
   case hdepp1 =>
    intro ix u u' wv h1 h2
    rw [HVD.out]
    dsimp only
    split <;> intro h <;> first | exact trivial | (rw [← h1]; exact h) | exact h
   case s0_p1 =>
    refine oweP rfl fun a wx val L hG hi hW hV hN hO K hK => ?_
    have e6 : a.tmps[6]? = some (.pointer (some ⟨EB, 0, none⟩)) := (hO 6).trans (by rfl)
    clear hV hN hO
    obtain ⟨y0, y1, y2, y3, y4⟩ := hG.2.1.cells
    go_simp
    exact hK.out _ _ (by rw [O0, upd_at] <;> (congr 1 <;> omega)) (.inr (Below.refl _ _)) (⟨fun h => hG.1 (upL_false h), hG.2⟩)
   case s1_p1 =>
    refine oweP rfl fun a wx val L hG hi hW hV hN hO K hK => ?_
    have e5 : a.tmps[5]? = some (.pointer (some ⟨R + 1, 0, none⟩)) := (hO 5).trans (by rfl)
    clear hV hN hO
    go_simp
    exact hK.out _ _ (by rw [O1, upd_at] <;> (congr 1 <;> omega)) (.inr (Below.refl _ _)) (⟨fun h => hG.1 (upL_false h), hG.2⟩)
   case s2_p1 =>
    refine oweP rfl fun a wx val L hG hi hW hV hN hO K hK => ?_
    have e24 := hN 1 24
    have f24 := hV 1
    rw [O1] at f24; rw [f24] at e24; clear f24
    clear hV hN hO
    go_simp
    refine (rest_any (R + 1) RS _ hG.2.2.1 HLR.out).mono ?_
    rintro e w11 ⟨rfl, hb⟩
    exact hK.out _ _ (by rw [O2, upd_at]) (.inr (hb)) (⟨fun h => (hG.1 (upL_false h)).on hb, hG.2.1.on hb, hG.2.2.1.on hb, ownsRow_on hG.2.2.2.1 hb, ownsRow_on hG.2.2.2.2.1 hb, hG.2.2.2.2.2.1.trans (hb.mono hG.2.2.2.2.2.2), Nat.le_trans hG.2.2.2.2.2.2 hb.size⟩)
   case s3_p1 =>
    refine oweP rfl fun a wx val L hG hi hW hV hN hO K hK => ?_
    have e2 : a.tmps[2]? = some (.pointer (some ⟨R, 0, none⟩)) := (hO 2).trans (by rfl)
    have e23 := hN 0 23
    have f23 := hV 0
    rw [O0] at f23; rw [f23] at e23; clear f23
    clear hV hN hO
    have hR0 := hG.1 hi
    obtain ⟨p0, p1, p2, p3, p4⟩ := hR0.cells
    have f0 := hR0.frozen 0
    have f1 := hR0.frozen 1
    have f2 := hR0.frozen 2
    have f3 := hR0.frozen 3
    have f4 := hR0.frozen 4
    go_simp
    exact hK.out undef (putE wx R PT PE PM (.slice A n c) (.slice A' n' c')) (by rw [O3]; exact putE_at hR0 _ _ _ _ _) (.inl rfl) ⟨fun h => (upL_self h).elim, (putE_far _ HEB.out _ _ _ _ _).trans hG.2.1, hG.2.2.1.putE (by omega), own_far hG.2.2.2.1 (fun g hg => putE_far _ (own_apart hG.2.2.2.1 hR0 (by decide) g hg) _ _ _ _ _), own_far hG.2.2.2.2.1 (fun g hg => putE_far _ (own_apart hG.2.2.2.2.1 hR0 (by decide) g hg) _ _ _ _ _), putE_below hG.2.2.2.2.2.1 (Nat.le_refl _) _ _ _ _ _, Nat.le_trans hG.2.2.2.2.2.2 (putE_below (Below.refl R wx) (Nat.le_refl _) _ _ _ _ _).size⟩
   case s4_p1 =>
    refine oweP rfl fun a wx val L hG hi hW hV hN hO K hK => ?_
    have e25 := hN 2 25
    have f25 := hV 2
    rw [O2] at f25; rw [f25] at e25; clear f25
    clear hV hN hO
    go_simp
    exact hK.out _ _ (by rw [O4, upd_at] <;> (congr 1 <;> omega)) (.inr (Below.refl _ _)) (⟨fun h => hG.1 (upL_false h), hG.2⟩)
   case s5_p1 =>
    refine oweP rfl fun a wx val L hG hi hW hV hN hO K hK => ?_
    clear hV hN hO
    go_simp
    exact hK.out _ _ (by rw [O5, upd_at] <;> (congr 1 <;> omega)) (.inr (Below.refl _ _)) (⟨fun h => hG.1 (upL_false h), hG.2⟩)
   intro val wx L hG hV
   have f0 := hV 0
   rw [O0] at f0
   have f1 := hV 1
   rw [O1] at f1
   have f2 := hV 2
   rw [O2] at f2
   have f3 := hV 3
   rw [O3] at f3
   have f4 := hV 4
   rw [O4] at f4
   have f5 := hV 5
   rw [O5] at f5
   clear hV O0 O1 O2 O3 O4 O5
   simp only [putAll, Act.put, List.setIfInBounds_toArray, List.set_cons_zero, List.set_cons_succ]
   generalize val 0 = z0, val 1 = z1, val 2 = z2, val 4 = z4, val 5 = z5 at *
   subst f0 f1 f2 f4 f5
   clear HVD
   obtain ⟨r0, r1, r2, r3, r4⟩ := f3.cells
   have hfin := HON.out (.slice A n c) (.slice A' n' c') wx hG.2.2.2.1 hG.2.2.2.2.1 hG.2.2.2.2.2.1
   go_wp2_with fail
   exact bodyPost_ret (v := .tuple #[ev PT PE PM (.slice A n c) (.slice A' n' c'), .string (txt RS), .int .i64 0]) (by simp [results, Tryz.results109, go_sem, r0, r1, r2, r3, r4]) rfl hfin
 ·have HD := hid (decE_none (E := rdE l) (by rw [decEE_rd, if_neg hrd]) hrd w ())
  have hdz : ((rdE l : Int) != 0) = true := by simpa using hrd
  clear hok hc' hb2 hR2 ht HER HBB HE3
  generalize rdE l = E at *
  go_upto_region 4 with (fail)
  generalize hW3 : w2.alloc (.cells #[.int .i64 t, .int .i64 ep, .int .i64 mem, .slice A n c, .slice A' n' c'] 37) = W3 at *
  clear q8 hW3
  obtain ⟨p0, p1, p2, p3, p4⟩ := HR3.out.cells
  have f0 := HR3.out.frozen 0
  have f1 := HR3.out.frozen 1
  have f2 := HR3.out.frozen 2
  have f3 := HR3.out.frozen 3
  have f4 := HR3.out.frozen 4
  go_wp2_with fail
  have hpz := putE_at HR3.out 0 0 0 (.slice none 0 0) (.slice none 0 0)
  obtain ⟨r0, r1, r2, r3, r4⟩ := hpz.cells
  have hbz := putE_below HB3.out (Nat.le_refl _) 0 0 0 (.slice none 0 0) (.slice none 0 0)
  unfold putE at r0 r1 r2 r3 r4 hbz
  exact bodyPost_ret (v := .tuple #[ev 0 0 0 (.slice none 0 0) (.slice none 0 0), .string ⟨#[]⟩, .int .i64 E]) (by simp [results, Tryz.results109, go_sem, r0, r1, r2, r3, r4]) rfl (HD.out _ hbz)
theorem pick6_any (c n : Int) (hc : (Lit.int .i64 c).wf = true) (hn : 0 < n) (w : World) :
  Calls Tryz.prog 79 #[.int .i64 c, .int .i64 n] w fun e w' => e = .returned (.int .i64 (pickI c n)) ∧ w = w' := by
 by_cases h : c < 0
 ·have hv := hid (pick_neg_value c n hc h)
  have HC := hid hc; clear hc
  go_enter Tryz.func79, Tryz.ntmps79
  go_wp2
  go_ret
  exact ⟨ret_i hv.out, rfl⟩
 ·have hv := hid (pick_pos_value c n h)
  have h0 : 0 ≤ c := by omega
  have HC := hid hc; clear hc
  go_enter Tryz.func79, Tryz.ntmps79
  go_wp2
  go_ret
  exact ⟨ret_i hv.out, rfl⟩
def RawPost (x : Ent) (w : World) (e : Ending) (w' : World) : Prop :=
 ∃ u v, e = .returned (ev x.t x.ep x.mem u v) ∧ V.Own w' w.heap.size u x.incs ∧ OwnM w' w.heap.size v x.msgs ∧ Below w.heap.size w w'
def At3 (w : World) (b : Nat) (n0 n1 n2 : Int) : Prop := w.heap[b]? = some (.cells #[.int .i64 n0, .int .i64 n1, .int .i64 n2] 24 (0, 0))
theorem At3.on {w w' : World} {b : Nat} {n0 n1 n2 : Int} (h : At3 w b n0 n1 n2) (hb : Below w.heap.size w w') : At3 w' b n0 n1 n2 := (hb.block b (Array.getElem?_eq_some_iff.1 h).1).trans h
theorem At3.cells {w : World} {b : Nat} {n0 n1 n2 : Int} (h : At3 w b n0 n1 n2) : w.cell? ⟨b, 0, none⟩ = some (.int .i64 n0) ∧ w.cell? ⟨b, 1, none⟩ = some (.int .i64 n1) ∧ w.cell? ⟨b, 2, none⟩ = some (.int .i64 n2) :=
 ⟨cell_of h 0, cell_of h 1, cell_of h 2⟩
theorem dataV_small (r : Raw) : (dataV r).size ≤ maxLen := by
 have : (dataV r).size ≤ 4 := by unfold dataV; rw [ByteArray.size_extract]; exact Nat.le_trans (Nat.sub_le _ _) (Nat.min_le_right _ _)
 unfold maxLen; omega
theorem rawE_any (n0 n1 n2 : Int) (k0 : (Lit.int .i64 n0).wf = true) (k1 : (Lit.int .i64 n1).wf = true) (k2 : (Lit.int .i64 n2).wf = true) (A : Option Addr) (c : Nat) (incs : List Int) (A' : Option Addr) (c' : Nat) (raw : List Raw) (w : World)
  (h : V.Row w w.heap.size A incs) (hR : RowsIn w w.heap.size A' raw) (hil : incs.length ≤ maxLen) (hrl : raw.length ≤ maxLen) (hwi : ∀ x ∈ incs, (Lit.int .i64 x).wf = true) (hwr : ∀ r ∈ raw, WfR r) :
  Calls Tryz.prog 43 #[.agg #[.int .i64 n0, .int .i64 n1, .int .i64 n2], .slice A incs.length c, .slice A' raw.length c'] w (RawPost (entV n0 n1 n2 incs raw) w) := by
 unfold maxLen at hil hrl
 have c1 := fun W => pick6_any n0 65535 k0 (by omega) W
 have c2 := fun W => pick6_any n1 65535 k1 (by omega) W
 have c3 := fun W => pick6_any n2 65536 k2 (by omega) W
 have r1 := pickI_range n0 65535 (by omega)
 have r2 := pickI_range n1 65535 (by omega)
 have r3 := pickI_range n2 65536 (by omega)
 obtain ⟨X, hX⟩ : ∃ X, entV n0 n1 n2 incs raw = X := ⟨_, rfl⟩
 rw [hX]
 have HX : Hid (X = ⟨1 + pickI n0 65535, 1 + pickI n1 65535, pickI n2 65536, incsV incs (V.listI (pickI n2 65536)).length, sortL (msgsV (pickI n2 65536) incs raw (manyV (pickI n2 65536) raw))⟩) := hid hX.symm
 clear hX
 generalize pickI n0 65535 = p0 at *
 generalize pickI n1 65535 = p1 at *
 generalize pickI n2 65536 = p2 at *
 have C1 := hid c1; clear c1
 have C2 := hid c2; clear c2
 have C3 := hid c3; clear c3
 have HI := hid h; clear h
 have HRR := hid hR; clear hR
 have HWI := hid hwi; clear hwi
 have HWR := hid hwr; clear hwr
 clear k0 k1 k2
 go_enter Tryz.func43, Tryz.ntmps43
 have bb := Joins.below_alloc2 w (.cells #[.int .i64 n0, .int .i64 n1, .int .i64 n2] 24) (.cells #[.int .i64 0, .int .i64 0, .int .i64 0, .slice none 0 0, .slice none 0 0] 37)
 have ha : At3 ((w.alloc (.cells #[.int .i64 n0, .int .i64 n1, .int .i64 n2] 24)).alloc (.cells #[.int .i64 0, .int .i64 0, .int .i64 0, .slice none 0 0, .slice none 0 0] 37)) w.heap.size n0 n1 n2 := At3.on (heap_alloc_new w _) (Joins.below_alloc1 _ _)
 have hr := EntAt.new (w.alloc (.cells #[.int .i64 n0, .int .i64 n1, .int .i64 n2] 24)) 0 0 0 (.slice none 0 0) (.slice none 0 0)
 rw [World.size_alloc] at hr
 go_wp2_with fail
 obtain ⟨W0, hW0⟩ : ∃ W0, W0 = (w.alloc (.cells #[.int .i64 n0, .int .i64 n1, .int .i64 n2] 24)).alloc (.cells #[.int .i64 0, .int .i64 0, .int .i64 0, .slice none 0 0, .slice none 0 0] 37) := ⟨_, rfl⟩
 rw [← hW0] at ha hr bb
 rw [← hW0]
 clear hW0
 have hlt : w.heap.size + 1 < W0.heap.size := (Array.getElem?_eq_some_iff.1 hr).1
 have HA := hid ha; clear ha
 have HR := hid hr; clear hr
 have HB := hid bb; clear bb
 have HLT := hid hlt; clear hlt
 obtain ⟨EB, hEB⟩ : ∃ EB, W0.heap.size = EB := ⟨_, rfl⟩
 have HEB := hid hEB; clear hEB
 have g1 : IntKind.i64.wrap (1 + p0) = 1 + p0 := IntWalk.i64_in _ (by omega)
 have g2 : IntKind.i64.wrap (1 + p1) = 1 + p1 := IntWalk.i64_in _ (by omega)
 have G1 := hid g1; clear g1
 have G2 := hid g2; clear g2
 have HP := hid (And.intro r1 (And.intro r2 r3)); clear r1 r2 r3
 have hlt1 : w.heap.size + 1 < EB := by have := HLT.out; have := HEB.out; omega
 have HV : ∃ O : Nat → (Nat → Value) → World → Prop, O = (fun ix u wv => match ix with
  | 0 => u 0 = .pointer (some ⟨w.heap.size, 0, none⟩)
  | 1 => u 1 = .int .i64 n0
  | 2 => u 2 = .int .i64 p0
  | 3 => u 3 = .int .i64 (1 + p0)
  | 4 => u 4 = .pointer (some ⟨w.heap.size, 1, none⟩)
  | 5 => u 5 = .int .i64 n1
  | 6 => u 6 = .int .i64 p1
  | 7 => u 7 = .int .i64 (1 + p1)
  | 8 => u 8 = .pointer (some ⟨w.heap.size, 2, none⟩)
  | 9 => u 9 = .int .i64 n2
  | 10 => u 10 = .int .i64 p2
  | 11 => u 11 = .agg #[.int .i64 (1 + p0), .int .i64 (1 + p1), .int .i64 p2, .slice none 0 0, .slice none 0 0]
  | 12 => u 12 = .pointer (some ⟨EB, 0, none⟩) ∧ EntAt wv EB 0 0 0 (.slice none 0 0) (.slice none 0 0)
  | 13 => u 12 = .pointer (some ⟨EB, 0, none⟩) ∧ EntAt wv EB (1 + p0) (1 + p1) p2 (.slice none 0 0) (.slice none 0 0)
  | _ => True) := ⟨_, rfl⟩
 obtain ⟨O, hd7⟩ := HV
 have O0 : ∀ u wv, O 0 u wv = (u 0 = .pointer (some ⟨w.heap.size, 0, none⟩)) := fun _ _ => by subst hd7; rfl
 have O1 : ∀ u wv, O 1 u wv = (u 1 = .int .i64 n0) := fun _ _ => by subst hd7; rfl
 have O2 : ∀ u wv, O 2 u wv = (u 2 = .int .i64 p0) := fun _ _ => by subst hd7; rfl
 have O3 : ∀ u wv, O 3 u wv = (u 3 = .int .i64 (1 + p0)) := fun _ _ => by subst hd7; rfl
 have O4 : ∀ u wv, O 4 u wv = (u 4 = .pointer (some ⟨w.heap.size, 1, none⟩)) := fun _ _ => by subst hd7; rfl
 have O5 : ∀ u wv, O 5 u wv = (u 5 = .int .i64 n1) := fun _ _ => by subst hd7; rfl
 have O6 : ∀ u wv, O 6 u wv = (u 6 = .int .i64 p1) := fun _ _ => by subst hd7; rfl
 have O7 : ∀ u wv, O 7 u wv = (u 7 = .int .i64 (1 + p1)) := fun _ _ => by subst hd7; rfl
 have O8 : ∀ u wv, O 8 u wv = (u 8 = .pointer (some ⟨w.heap.size, 2, none⟩)) := fun _ _ => by subst hd7; rfl
 have O9 : ∀ u wv, O 9 u wv = (u 9 = .int .i64 n2) := fun _ _ => by subst hd7; rfl
 have O10 : ∀ u wv, O 10 u wv = (u 10 = .int .i64 p2) := fun _ _ => by subst hd7; rfl
 have O11 : ∀ u wv, O 11 u wv = (u 11 = .agg #[.int .i64 (1 + p0), .int .i64 (1 + p1), .int .i64 p2, .slice none 0 0, .slice none 0 0]) := fun _ _ => by subst hd7; rfl
 have O12 : ∀ u wv, O 12 u wv = (u 12 = .pointer (some ⟨EB, 0, none⟩) ∧ EntAt wv EB 0 0 0 (.slice none 0 0) (.slice none 0 0)) := fun _ _ => by subst hd7; rfl
 have O13 : ∀ u wv, O 13 u wv = (u 12 = .pointer (some ⟨EB, 0, none⟩) ∧ EntAt wv EB (1 + p0) (1 + p1) p2 (.slice none 0 0) (.slice none 0 0)) := fun _ _ => by subst hd7; rfl
 have HVD := hid hd7
 clear hd7
 refine region_phase (V := O) (drop := fun jx ix => (jx == 13 && ix == 12)) (G := fun L wv => (L 12 = false → wv.heap.size = EB) ∧ At3 wv w.heap.size n0 n1 n2 ∧ EntAt wv (w.heap.size + 1) 0 0 0 (.slice none 0 0) (.slice none 0 0) ∧ Below w.heap.size w wv) (Rel := fun jx wv wv' => jx = 12 ∨ jx = 13 ∨ Below wv.heap.size wv wv') (by kernel_rfl) (by kernel_rfl) ⟨fun _ => HEB.out, HA.out.on (Below.refl _ _).drew, HR.out.on (Below.refl _ _).drew, HB.out.trans ((Below.refl _ _).drew.mono HB.out.size)⟩ ?hmonop1 ?hdepp1 ⟨?s0_p1, ?s1_p1, ?s2_p1, ?s3_p1, ?s4_p1, ?s5_p1, ?s6_p1, ?s7_p1, ?s8_p1, ?s9_p1, ?s10_p1, ?s11_p1, ?s12_p1, ?s13_p1, trivial⟩ ?behindp1
 case hmonop1 =>
  intro ix jx u wv wv' hij hw hd hr
  rw [HVD.out]
  dsimp only
  split <;> intro h <;> first | exact trivial | exact h | (rcases hr with rfl | rfl | hb; (focus first | exact absurd rfl hij | (simp at hd; done) | (exact Bool.noConfusion (hw.symm.trans (show _ = true from by kernel_rfl)))); (focus first | exact absurd rfl hij | (simp at hd; done) | (exact Bool.noConfusion (hw.symm.trans (show _ = true from by kernel_rfl)))); (first | (exact ⟨h.1, h.2.on hb⟩)))
 case hdepp1 =>
  intro ix u u' wv h1 h2
  rw [HVD.out]
  dsimp only
  split <;> intro h <;> first | exact trivial | (rw [← h1]; exact h) | (exact ⟨(h2 12 (by kernel_rfl)).symm.trans h.1, h.2⟩) | exact h
 case s0_p1 =>
  refine oweP rfl fun a wx val L hG hi hW hV hN hO K hK => ?_
  have e3 : a.tmps[3]? = some (.pointer (some ⟨w.heap.size, 0, none⟩)) := (hO 3).trans (by rfl)
  clear hV hN hO
  go_simp
  exact hK.out _ _ (by rw [O0, upd_at] <;> (congr 1 <;> omega)) (.inr (.inr (Below.refl _ _))) (⟨fun h => hG.1 (upL_false h), hG.2⟩)
 case s1_p1 =>
  refine oweP rfl fun a wx val L hG hi hW hV hN hO K hK => ?_
  have e14 := hN 0 14
  have f14 := hV 0
  rw [O0] at f14; rw [f14] at e14; clear f14
  clear hV hN hO
  obtain ⟨a0, a1, a2⟩ := hG.2.1.cells
  go_simp
  exact hK.out _ _ (by rw [O1, upd_at] <;> (congr 1 <;> omega)) (.inr (.inr (Below.refl _ _))) (⟨fun h => hG.1 (upL_false h), hG.2⟩)
 case s2_p1 =>
  refine oweP rfl fun a wx val L hG hi hW hV hN hO K hK => ?_
  have e15 := hN 1 15
  have f15 := hV 1
  rw [O1] at f15; rw [f15] at e15; clear f15
  clear hV hN hO
  go_simp
  refine (C1.out _).mono ?_
  rintro e w11 ⟨rfl, rfl⟩
  exact hK.out _ _ (by rw [O2, upd_at]) (.inr (.inr (Below.refl _ _))) (⟨fun h => hG.1 (upL_false h), hG.2⟩)
 case s3_p1 =>
  refine oweP rfl fun a wx val L hG hi hW hV hN hO K hK => ?_
  have e16 := hN 2 16
  have f16 := hV 2
  rw [O2] at f16; rw [f16] at e16; clear f16
  clear hV hN hO
  have g1 := G1.out
  go_simp
  exact hK.out _ _ (by rw [O3, upd_at] <;> (congr 1 <;> omega)) (.inr (.inr (Below.refl _ _))) (⟨fun h => hG.1 (upL_false h), hG.2⟩)
 case s4_p1 =>
  refine oweP rfl fun a wx val L hG hi hW hV hN hO K hK => ?_
  have e3 : a.tmps[3]? = some (.pointer (some ⟨w.heap.size, 0, none⟩)) := (hO 3).trans (by rfl)
  clear hV hN hO
  go_simp
  exact hK.out _ _ (by rw [O4, upd_at] <;> (congr 1 <;> omega)) (.inr (.inr (Below.refl _ _))) (⟨fun h => hG.1 (upL_false h), hG.2⟩)
 case s5_p1 =>
  refine oweP rfl fun a wx val L hG hi hW hV hN hO K hK => ?_
  have e18 := hN 4 18
  have f18 := hV 4
  rw [O4] at f18; rw [f18] at e18; clear f18
  clear hV hN hO
  obtain ⟨a0, a1, a2⟩ := hG.2.1.cells
  go_simp
  exact hK.out _ _ (by rw [O5, upd_at] <;> (congr 1 <;> omega)) (.inr (.inr (Below.refl _ _))) (⟨fun h => hG.1 (upL_false h), hG.2⟩)
 case s6_p1 =>
  refine oweP rfl fun a wx val L hG hi hW hV hN hO K hK => ?_
  have e19 := hN 5 19
  have f19 := hV 5
  rw [O5] at f19; rw [f19] at e19; clear f19
  clear hV hN hO
  go_simp
  refine (C2.out _).mono ?_
  rintro e w11 ⟨rfl, rfl⟩
  exact hK.out _ _ (by rw [O6, upd_at]) (.inr (.inr (Below.refl _ _))) (⟨fun h => hG.1 (upL_false h), hG.2⟩)
 case s7_p1 =>
  refine oweP rfl fun a wx val L hG hi hW hV hN hO K hK => ?_
  have e20 := hN 6 20
  have f20 := hV 6
  rw [O6] at f20; rw [f20] at e20; clear f20
  clear hV hN hO
  have g2 := G2.out
  go_simp
  exact hK.out _ _ (by rw [O7, upd_at] <;> (congr 1 <;> omega)) (.inr (.inr (Below.refl _ _))) (⟨fun h => hG.1 (upL_false h), hG.2⟩)
 case s8_p1 =>
  refine oweP rfl fun a wx val L hG hi hW hV hN hO K hK => ?_
  have e3 : a.tmps[3]? = some (.pointer (some ⟨w.heap.size, 0, none⟩)) := (hO 3).trans (by rfl)
  clear hV hN hO
  go_simp
  exact hK.out _ _ (by rw [O8, upd_at] <;> (congr 1 <;> omega)) (.inr (.inr (Below.refl _ _))) (⟨fun h => hG.1 (upL_false h), hG.2⟩)
 case s9_p1 =>
  refine oweP rfl fun a wx val L hG hi hW hV hN hO K hK => ?_
  have e22 := hN 8 22
  have f22 := hV 8
  rw [O8] at f22; rw [f22] at e22; clear f22
  clear hV hN hO
  obtain ⟨a0, a1, a2⟩ := hG.2.1.cells
  go_simp
  exact hK.out _ _ (by rw [O9, upd_at] <;> (congr 1 <;> omega)) (.inr (.inr (Below.refl _ _))) (⟨fun h => hG.1 (upL_false h), hG.2⟩)
 case s10_p1 =>
  refine oweP rfl fun a wx val L hG hi hW hV hN hO K hK => ?_
  have e23 := hN 9 23
  have f23 := hV 9
  rw [O9] at f23; rw [f23] at e23; clear f23
  clear hV hN hO
  go_simp
  refine (C3.out _).mono ?_
  rintro e w11 ⟨rfl, rfl⟩
  exact hK.out _ _ (by rw [O10, upd_at]) (.inr (.inr (Below.refl _ _))) (⟨fun h => hG.1 (upL_false h), hG.2⟩)
 case s11_p1 =>
  refine oweP rfl fun a wx val L hG hi hW hV hN hO K hK => ?_
  have e17 := hN 3 17
  have f17 := hV 3
  rw [O3] at f17; rw [f17] at e17; clear f17
  have e21 := hN 7 21
  have f21 := hV 7
  rw [O7] at f21; rw [f21] at e21; clear f21
  have e24 := hN 10 24
  have f24 := hV 10
  rw [O10] at f24; rw [f24] at e24; clear f24
  clear hV hN hO
  go_simp
  exact hK.out _ _ (by rw [O11, upd_at] <;> (congr 1 <;> omega)) (.inr (.inr (Below.refl _ _))) (⟨fun h => hG.1 (upL_false h), hG.2⟩)
 case s12_p1 =>
  refine oweP rfl fun a wx val L hG hi hW hV hN hO K hK => ?_
  clear hV hN hO
  have he := hG.1 hi
  go_simp
  have hb := Joins.below_alloc1 wx (.cells #[.int .i64 0, .int .i64 0, .int .i64 0, .slice none 0 0, .slice none 0 0] 37)
  exact hK.out _ _ (by rw [O12, upd_at]; exact ⟨rfl, by rw [← he]; exact EntAt.new wx 0 0 0 _ _⟩) (.inl rfl) ⟨fun h => (upL_self h).elim, hG.2.1.on hb, hG.2.2.1.on hb, hG.2.2.2.trans (hb.mono hG.2.2.2.size)⟩
 case s13_p1 =>
  refine oweP rfl fun a wx val L hG hi hW hV hN hO K hK => ?_
  have e7 := hN 12 7
  have f7 := hV 12
  rw [O12] at f7; obtain ⟨hv, hee⟩ := f7; rw [hv] at e7
  have e25 := hN 11 25
  have f25 := hV 11
  rw [O11] at f25; rw [f25] at e25; clear f25
  clear hV hN hO
  obtain ⟨q0, q1, q2, q3, q4⟩ := hee.cells
  have f0 := hee.frozen 0
  have f1 := hee.frozen 1
  have f2 := hee.frozen 2
  have f3 := hee.frozen 3
  have f4 := hee.frozen 4
  go_simp
  exact hK.out undef (putE wx EB (1 + p0) (1 + p1) p2 (.slice none 0 0) (.slice none 0 0)) (by rw [O13, upd_ne _ _ (by decide)]; exact ⟨hv, putE_at hee _ _ _ _ _⟩) (.inr (.inl rfl)) ⟨fun h => by have h9 := hG.1 (upL_false h); unfold putE; simpa using h9, (putE_far _ (by omega) _ _ _ _ _).trans hG.2.1, (putE_far _ (by omega) _ _ _ _ _).trans hG.2.2.1, putE_below hG.2.2.2 (by omega) _ _ _ _ _⟩
 intro val wx L hG hV
 have f0 := hV 0
 rw [O0] at f0
 have f1 := hV 1
 rw [O1] at f1
 have f2 := hV 2
 rw [O2] at f2
 have f3 := hV 3
 rw [O3] at f3
 have f4 := hV 4
 rw [O4] at f4
 have f5 := hV 5
 rw [O5] at f5
 have f6 := hV 6
 rw [O6] at f6
 have f7 := hV 7
 rw [O7] at f7
 have f8 := hV 8
 rw [O8] at f8
 have f9 := hV 9
 rw [O9] at f9
 have f10 := hV 10
 rw [O10] at f10
 have f11 := hV 11
 rw [O11] at f11
 have f13 := hV 13
 rw [O13] at f13
 clear hV O0 O1 O2 O3 O4 O5 O6 O7 O8 O9 O10 O11 O12 O13
 simp only [putAll, Act.put, List.setIfInBounds_toArray, List.set_cons_zero, List.set_cons_succ]
 generalize val 0 = z0, val 1 = z1, val 2 = z2, val 3 = z3, val 4 = z4, val 5 = z5, val 6 = z6, val 7 = z7, val 8 = z8, val 9 = z9, val 10 = z10, val 11 = z11, val 12 = z12 at *
 subst f0 f1 f2 f3 f4 f5 f6 f7 f8 f9 f10 f11
 clear HVD
 obtain ⟨rfl, he13⟩ := f13
 have HE1 := hid he13; clear he13
 have HR1 := hid hG.2.2.1
 have HB1 := hid hG.2.2.2
 clear hG HA HR HB
 obtain ⟨y0, y1, y2, y3, y4⟩ := HE1.out.cells
 go_wp2_with fail; refine (V.refList_any p2 _).mono ?_; rintro e w2 ⟨u, rfl, hu, b2⟩
 obtain ⟨AL, cL, rfl, hcL, -⟩ := V.Row.of_own hu
 have HE2 := hid (HE1.out.on b2)
 have HR2 := hid (HR1.out.on b2)
 have HB2 := hid (HB1.out.trans (b2.mono HB1.out.size))
 have HU := hid hu
 have HAP := hid (own_apart hu HE2.out (by decide))
 have hL16 := V.listI_length p2
 have hEB2 : EB < w2.heap.size := (Array.getElem?_eq_some_iff.1 HE2.out).1
 clear b2 hu y0 y1 y2 y3 y4 HE1 HR1 HB1
 generalize hLL : (V.listI p2).length = LL at *
 have HLL := hid hLL; clear hLL
 go_wp2_with fail
 go_loopw [9, 10] (fun ix _ wr => ∃ (k : Nat) (A1 : Option Addr) (m1 c1 : Nat), k ≤ LL ∧ ix = .int .i64 k ∧ m1 = k ∧ EntAt wr EB (1 + p0) (1 + p1) p2 (.slice A1 m1 c1) (.slice none 0 0) ∧ V.Own wr w2.heap.size (.slice A1 m1 c1) (incsV incs k) ∧ Touch (fun x => x = EB) w2 wr) (fun ix _ _ => LL - (intOf ix).toNat)
 case atStart => exact ⟨0, none, 0, 0, by omega, rfl, rfl, HE2.out, V.Own.nil _ _, Touch.refl _ _⟩
 case round =>
 obtain ⟨k, A1, m1, c1, hk, rfl, hm1, he, ho, ht⟩ := hrel
 have HNK := hid hm1; clear hm1
 have HJE := hid he; clear he
 have HJO := hid ho; clear ho
 have HJT := hid ht; clear ht
 clear HE2
 by_cases hkl : (k : Int) < LL
 ·have HNX : Hid (incsV incs (k + 1) = incsV incs k ++ [incV incs k]) := hid (by unfold incsV; rw [List.range_succ, List.map_append]; rfl)
  have hIV0 := incV_range incs k
  obtain ⟨IV, hIV⟩ : ∃ IV, incV incs k = IV := ⟨_, rfl⟩
  rw [hIV] at HNX hIV0
  have HLN : Hid ((incsV incs (k + 1)).length = m1 + 1) := hid (by unfold incsV; rw [List.length_map, List.length_range, HNK.out])
  have HNL : Hid ((incsV incs k).length + [IV].length ≤ 1000) := hid (by unfold incsV; simp; omega)
  by_cases h0 : 0 < incs.length
  ·have h0' : (0 : Int) < incs.length := by omega
   obtain ⟨x, hx⟩ : ∃ x, incs[k % incs.length]? = some x := ⟨_, List.getElem?_eq_getElem (Nat.mod_lt _ h0)⟩
   have hiv : 1 + pickI x 65535 = IV := by rw [← hIV]; unfold incV; rw [if_pos h0, getD_at hx]
   have cp := fun W => pick6_any x 65535 (HWI.out x (List.mem_of_getElem? hx)) (by omega) W
   have hbw : Below w.heap.size w wr := HB2.out.trans (HJT.out.below w.heap.size (HB2.out.size) (fun j hj => by omega))
   obtain ⟨adi, rfl, -, hac⟩ := (HI.out.below hbw (Nat.le_refl _)) h0
   have hxc := hac _ x hx
   have hq : (k : Int) % (incs.length : Int) = ((k % incs.length : Nat) : Int) := (Int.natCast_emod _ _).symm
   have hql : ((k % incs.length : Nat) : Int) < incs.length := by have := Nat.mod_lt k h0; omega
   have hq0 : (0 : Int) ≤ ((k % incs.length : Nat) : Int) := by omega
   have g5 : IntKind.i64.wrap (1 + pickI x 65535) = IV := by rw [IntWalk.i64_in _ (by omega)]; exact hiv
   generalize pickI x 65535 = px at *
   have hne : ¬ (incs.length : Int) = 0 := by omega
   clear hx hac hbw hIV hiv
   generalize k % incs.length = kq at *
   go_wp2_with fail; refine (cp _).mono ?_; rintro e w4 ⟨rfl, rfl⟩
   clear hxc cp hq hql hq0
   have hb8 := Joins.below_alloc1 wr (.cells #[.int .i64 IV] 3)
   have HMO := hid (row_one (heap_alloc_new wr (.cells #[.int .i64 IV] 3)))
   have HVE := hid (ownsRow_on HJO.out hb8)
   have HZ9 := hid (Nat.le_trans HJT.out.size hb8.size)
   have hE1 := HJE.out.on hb8
   have HE1 := hid hE1
   have HT1 := hid (HJT.out.trans (Touch.of hb8))
   obtain ⟨y0, y1, y2, y3, y4⟩ := HJE.out.cells
   clear hb8 hE1 HJE HJO HJT
   go_wp2_with (at_builtin; refine V.list_app (by rfl) _ _ rfl w2.heap.size _ (.slice A1 m1 c1) (incsV incs k) [IV] (some ⟨wr.heap.size, 0, none⟩) 1 rfl rfl HVE.out HMO.out HZ9.out HNL.out ?_)
   intro v' w9 hown9 hg9
   rw [← HNX.out] at hown9
   obtain ⟨A9, c9, rfl, -, -⟩ := V.Own.row hown9
   rw [HLN.out] at hown9 ⊢
   have HO9 := hid hown9
   have HE9 := hid (HE1.out.grown hg9 (own_apart HVE.out HE1.out (by decide)))
   have HT9 := hid (HT1.out.grown hg9 (fun g e => (HVE.out.lt g e).1))
   clear hown9 hg9 HE1 HT1 HVE HMO HZ9 y0 y1 y2 y3 y4
   obtain ⟨y0, y1, y2, y3, y4⟩ := HE9.out.cells
   have f3 := HE9.out.frozen 3
   go_upto_region 5 with (fail)
   have hf9 := own_apart HO9.out HE9.out (by decide)
   have K1 := hid (HE9.out.set3 (.slice A9 (m1 + 1) c9))
   have K2 : Hid (V.Own (w9.setCell ⟨EB, 3, none⟩ (.slice A9 (m1 + 1) c9)) w2.heap.size (.slice A9 (m1 + 1) c9) (incsV incs (k + 1))) := hid (own_far HO9.out (fun g hg => Below.heap_setCell _ _ _ _ (hf9 g hg)))
   have K3 := hid (HT9.out.setCell ⟨EB, 3, none⟩ rfl (.slice A9 (m1 + 1) c9))
   clear hf9 HE9 HO9 HT9 y0 y1 y2 y3 y4 f3
   generalize w9.setCell ⟨EB, 3, none⟩ (.slice A9 (m1 + 1) c9) = W10 at *
   have HNN2 : Hid (m1 + 1 = k + 1) := hid (by have := HNK.out; omega)
   have qj : IntKind.i64.wrap ((k : Int) + 1) = (k : Int) + 1 := IntWalk.i64_in _ (by omega)
   go_wp2_with fail
   go_roundw
   case rel => exact ⟨k + 1, A9, m1 + 1, c9, by omega, by go_num, HNN2.out, K1.out, K2.out, K3.out⟩
   case measure => simp [intOf]; omega
  ·have h0' : ¬ (0 : Int) < incs.length := by omega
   have hiv : (1 : Int) = IV := by rw [← hIV]; unfold incV; rw [if_neg h0]
   clear hIV
   subst hiv
   have hb8 := Joins.below_alloc1 wr (.cells #[.int .i64 1] 3)
   have HMO := hid (row_one (heap_alloc_new wr (.cells #[.int .i64 1] 3)))
   have HVE := hid (ownsRow_on HJO.out hb8)
   have HZ9 := hid (Nat.le_trans HJT.out.size hb8.size)
   have hE1 := HJE.out.on hb8
   have HE1 := hid hE1
   have HT1 := hid (HJT.out.trans (Touch.of hb8))
   obtain ⟨y0, y1, y2, y3, y4⟩ := HJE.out.cells
   clear hb8 hE1 HJE HJO HJT
   go_wp2_with (at_builtin; refine V.list_app (by rfl) _ _ rfl w2.heap.size _ (.slice A1 m1 c1) (incsV incs k) [1] (some ⟨wr.heap.size, 0, none⟩) 1 rfl rfl HVE.out HMO.out HZ9.out HNL.out ?_)
   intro v' w9 hown9 hg9
   rw [← HNX.out] at hown9
   obtain ⟨A9, c9, rfl, -, -⟩ := V.Own.row hown9
   rw [HLN.out] at hown9 ⊢
   have HO9 := hid hown9
   have HE9 := hid (HE1.out.grown hg9 (own_apart HVE.out HE1.out (by decide)))
   have HT9 := hid (HT1.out.grown hg9 (fun g e => (HVE.out.lt g e).1))
   clear hown9 hg9 HE1 HT1 HVE HMO HZ9 y0 y1 y2 y3 y4
   obtain ⟨y0, y1, y2, y3, y4⟩ := HE9.out.cells
   have f3 := HE9.out.frozen 3
   go_upto_region 5 with (fail)
   have hf9 := own_apart HO9.out HE9.out (by decide)
   have K1 := hid (HE9.out.set3 (.slice A9 (m1 + 1) c9))
   have K2 : Hid (V.Own (w9.setCell ⟨EB, 3, none⟩ (.slice A9 (m1 + 1) c9)) w2.heap.size (.slice A9 (m1 + 1) c9) (incsV incs (k + 1))) := hid (own_far HO9.out (fun g hg => Below.heap_setCell _ _ _ _ (hf9 g hg)))
   have K3 := hid (HT9.out.setCell ⟨EB, 3, none⟩ rfl (.slice A9 (m1 + 1) c9))
   clear hf9 HE9 HO9 HT9 y0 y1 y2 y3 y4 f3
   generalize w9.setCell ⟨EB, 3, none⟩ (.slice A9 (m1 + 1) c9) = W10 at *
   have HNN2 : Hid (m1 + 1 = k + 1) := hid (by have := HNK.out; omega)
   have qj : IntKind.i64.wrap ((k : Int) + 1) = (k : Int) + 1 := IntWalk.i64_in _ (by omega)
   go_wp2_with fail
   go_roundw
   case rel => exact ⟨k + 1, A9, m1 + 1, c9, by omega, by go_num, HNN2.out, K1.out, K2.out, K3.out⟩
   case measure => simp [intOf]; omega
 ·have ekl : k = LL := by omega
  have hm1 : m1 = LL := by have := HNK.out; omega
  rw [ekl] at HJO
  clear hk HNK ekl
  subst hm1
  have HUr : Hid (wr.ownsRow _ 3 1 (.slice AL m1 cL) m1 ((V.listI p2).map (Value.int .i64))) := hid (own_far HU.out (fun g hg => HJT.out.block g (HU.out.lt g hg).2 (HAP.out g hg)))
  have HRowL : Hid (V.Row wr wr.heap.size AL (V.listI p2)) := hid (by obtain ⟨A9, c9, e9, -, h9⟩ := V.Row.of_own (u := .slice AL m1 cL) (l := V.listI p2) (by rw [HLL.out]; exact HUr.out); injection e9 with e1 e2 e3; rw [e1]; exact h9)
  have HRowI : Hid (V.Row wr wr.heap.size A1 (incsV incs m1)) := hid (own_slice HJO.out).2
  have HBW : Hid (Below w.heap.size w wr) := hid (HB2.out.trans (HJT.out.below w.heap.size (HB2.out.size) (fun j hj => by omega)))
  have HRW : Hid (RowsIn wr w.heap.size A' raw) := hid (HRR.out.below HBW.out (Nat.le_refl _))
  have HRE : Hid (EntAt wr (w.heap.size + 1) 0 0 0 (.slice none 0 0) (.slice none 0 0)) := hid ((HJT.out.block _ (by omega) (by omega)).trans HR2.out)
  clear HJT HUr HU HAP
  generalize wr = WA at *
  go_wp2_with fail
  go_loopw [11, 12, 13] (fun v ix _ wz => ∃ (j : Nat) (A2 : Option Addr) (m2 c2 : Nat), j ≤ m1 ∧ j ≤ raw.length ∧ ix = .int .i64 j ∧ m2 = j ∧ v = .slice A2 m2 c2 ∧ OwnM wz WA.heap.size (.slice A2 m2 c2) (msgsV p2 incs raw j) ∧ Below WA.heap.size WA wz) (fun _ ix _ _ => m1 - (intOf ix).toNat)
  case atStart => exact ⟨0, none, 0, 0, by omega, by omega, rfl, rfl, rfl, OwnM.nil _ _, Below.refl _ _⟩
  case round =>
  obtain ⟨j, A2, m2, c2, hj1, hj2, rfl, hm2, rfl, ho, hb⟩ := hrel
  have HNJ := hid hm2; clear hm2
  have HKO := hid ho; clear ho
  have HKB := hid hb; clear hb
  rcases (show ((j : Int) < raw.length ∧ (j : Int) < m1) ∨ (¬ (j : Int) < raw.length) ∨ ((j : Int) < raw.length ∧ ¬ (j : Int) < m1) by omega) with ⟨hI, hI8⟩ | hI | ⟨hI, hI8⟩
  ·-- a row
   have hjr : j < raw.length := by omega
   obtain ⟨r, hr⟩ : ∃ r, raw[j]? = some r := ⟨_, List.getElem?_eq_getElem hjr⟩
   obtain ⟨ad, rfl, had, hac⟩ := HRW.out (by omega)
   have h6 := (hac j r hr).keep (w' := wr) fun q hq => HKB.out.cell (by rw [hq, adb]; have := HBW.out.size; omega)
   have hpb : (ad.add (j * 6)).block < wr.heap.size := by rw [adb]; have := HBW.out.size; have := HKB.out.size; omega
   have hwf := HWR.out r (List.mem_of_getElem? hr)
   have cpk := fun W => pick6_any r.r4 5 hwf.2.2.2.2.1 (by omega) W
   have hq := pickI_range r.r4 5 (by omega)
   have cmsg := fun W => rmsg_any r hwf (dataV r) (dataV_small r) W
   have HNX : Hid (msgsV p2 incs raw (j + 1) = msgsV p2 incs raw j ++ [senV (rmsg (dataV r) r) ((V.listI p2).getD j 0) (incV incs j)]) := hid (by unfold msgsV; rw [List.range_succ, List.map_append]; show _ ++ [msgV p2 incs (raw.getD j zeroRaw) j] = _; rw [getD_at hr]; rfl)
   generalize hMM : rmsg (dataV r) r = MM at *
   unfold dataV at cmsg
   generalize pickI r.r4 5 = Q at *
   have H6 := hid h6; clear h6
   have HPB := hid hpb; clear hpb
   have CPK := hid cpk; clear cpk
   have CMSG := hid cmsg; clear cmsg
   have HQ := hid hq; clear hq
   clear hac hr hwf hMM
   obtain ⟨r0, r1, r2, r3, r4, r5⟩ := r
   obtain ⟨me, mn, ms, mi, mq, mu, md⟩ := MM
   simp only [mv, senV] at *
   go_wp2_with fail
   have HV : ∃ O : Nat → (Nat → Value) → World → Prop, O = (fun ix u wv => match ix with
    | 0 => u 0 = .slice (some ad) raw.length c'
    | 1 => u 1 = .int .i64 (j : Int)
    | 2 => u 2 = .pointer (some (ad.add (j * 6)))
    | 3 => u 3 = .agg #[.int .i64 r0, .int .i64 r1, .int .i64 r2, .int .i64 r3, .int .i64 r4, .int .i64 r5]
    | 4 => u 4 = .slice (some ad) raw.length c'
    | 5 => u 5 = .int .i64 (j : Int)
    | 6 => u 6 = .pointer (some (ad.add (j * 6)))
    | 7 => u 7 = .pointer (some ⟨(ad.add (j * 6)).block, (ad.add (j * 6)).off + 4, none⟩)
    | 8 => u 8 = .int .i64 r4
    | 9 => u 9 = .int .i64 Q
    | 10 => u 10 = .string ((⟨#[100, 97, 116, 97]⟩ : ByteArray).extract 0 Q.toNat)
    | 11 => u 11 = .agg #[.bool me, .int .i64 mn, .int .i64 ms, .int .i64 mi, .int .i64 mq, .int .i64 mu, .string md]
    | 12 => ∃ g, u 12 = .pointer (some ⟨g, 0, none⟩) ∧ wr.heap.size ≤ g ∧ MsgAt wv g zeroM
    | 13 => ∃ g, u 12 = .pointer (some ⟨g, 0, none⟩) ∧ wr.heap.size ≤ g ∧ MsgAt wv g ⟨me, mn, ms, mi, mq, mu, md⟩
    | _ => True) := ⟨_, rfl⟩
   obtain ⟨O, hd7⟩ := HV
   have O0 : ∀ u wv, O 0 u wv = (u 0 = .slice (some ad) raw.length c') := fun _ _ => by subst hd7; rfl
   have O1 : ∀ u wv, O 1 u wv = (u 1 = .int .i64 (j : Int)) := fun _ _ => by subst hd7; rfl
   have O2 : ∀ u wv, O 2 u wv = (u 2 = .pointer (some (ad.add (j * 6)))) := fun _ _ => by subst hd7; rfl
   have O3 : ∀ u wv, O 3 u wv = (u 3 = .agg #[.int .i64 r0, .int .i64 r1, .int .i64 r2, .int .i64 r3, .int .i64 r4, .int .i64 r5]) := fun _ _ => by subst hd7; rfl
   have O4 : ∀ u wv, O 4 u wv = (u 4 = .slice (some ad) raw.length c') := fun _ _ => by subst hd7; rfl
   have O5 : ∀ u wv, O 5 u wv = (u 5 = .int .i64 (j : Int)) := fun _ _ => by subst hd7; rfl
   have O6 : ∀ u wv, O 6 u wv = (u 6 = .pointer (some (ad.add (j * 6)))) := fun _ _ => by subst hd7; rfl
   have O7 : ∀ u wv, O 7 u wv = (u 7 = .pointer (some ⟨(ad.add (j * 6)).block, (ad.add (j * 6)).off + 4, none⟩)) := fun _ _ => by subst hd7; rfl
   have O8 : ∀ u wv, O 8 u wv = (u 8 = .int .i64 r4) := fun _ _ => by subst hd7; rfl
   have O9 : ∀ u wv, O 9 u wv = (u 9 = .int .i64 Q) := fun _ _ => by subst hd7; rfl
   have O10 : ∀ u wv, O 10 u wv = (u 10 = .string ((⟨#[100, 97, 116, 97]⟩ : ByteArray).extract 0 Q.toNat)) := fun _ _ => by subst hd7; rfl
   have O11 : ∀ u wv, O 11 u wv = (u 11 = .agg #[.bool me, .int .i64 mn, .int .i64 ms, .int .i64 mi, .int .i64 mq, .int .i64 mu, .string md]) := fun _ _ => by subst hd7; rfl
   have O12 : ∀ u wv, O 12 u wv = (∃ g, u 12 = .pointer (some ⟨g, 0, none⟩) ∧ wr.heap.size ≤ g ∧ MsgAt wv g zeroM) := fun _ _ => by subst hd7; rfl
   have O13 : ∀ u wv, O 13 u wv = (∃ g, u 12 = .pointer (some ⟨g, 0, none⟩) ∧ wr.heap.size ≤ g ∧ MsgAt wv g ⟨me, mn, ms, mi, mq, mu, md⟩) := fun _ _ => by subst hd7; rfl
   have HVD := hid hd7
   clear hd7
   refine region_phase (V := O) (drop := fun jx ix => (jx == 13 && ix == 12)) (G := fun L wv => Below wr.heap.size wr wv) (Rel := fun jx wv wv' => jx = 13 ∨ Below wv.heap.size wv wv') (by kernel_rfl) (by kernel_rfl) (Below.refl _ _).drew ?hmonop2 ?hdepp2 ⟨?s0_p2, ?s1_p2, ?s2_p2, ?s3_p2, ?s4_p2, ?s5_p2, ?s6_p2, ?s7_p2, ?s8_p2, ?s9_p2, ?s10_p2, ?s11_p2, ?s12_p2, ?s13_p2, trivial⟩ ?behindp2
   case hmonop2 =>
    intro ix jx u wv wv' hij hw hd hr
    rw [HVD.out]
    dsimp only
    split <;> intro h <;> first | exact trivial | exact h | (rcases hr with rfl | hb; (focus first | exact absurd rfl hij | (simp at hd; done) | (exact Bool.noConfusion (hw.symm.trans (show _ = true from by kernel_rfl)))); (first | (obtain ⟨g, e, hg, hm⟩ := h; exact ⟨g, e, hg, hm.on hb⟩)))
   case hdepp2 =>
    intro ix u u' wv h1 h2
    rw [HVD.out]
    dsimp only
    split <;> intro h <;> first | exact trivial | (rw [← h1]; exact h) | (obtain ⟨g, e, h⟩ := h; exact ⟨g, (h2 12 (by kernel_rfl)).symm.trans e, h⟩) | exact h
   case s0_p2 =>
    refine oweP rfl fun a wx val L hG hi hW hV hN hO K hK => ?_
    have e2 : a.tmps[2]? = some (.slice (some ad) raw.length c') := (hO 2).trans (by rfl)
    clear hV hN hO
    go_simp
    exact hK.out _ _ (by rw [O0, upd_at] <;> (congr 1 <;> omega)) (.inr (Below.refl _ _)) (hG)
   case s1_p2 =>
    refine oweP rfl fun a wx val L hG hi hW hV hN hO K hK => ?_
    have e12 : a.tmps[12]? = some (.int .i64 (j : Int)) := (hO 12).trans (by rfl)
    clear hV hN hO
    go_simp
    exact hK.out _ _ (by rw [O1, upd_at] <;> (congr 1 <;> omega)) (.inr (Below.refl _ _)) (hG)
   case s2_p2 =>
    refine oweP rfl fun a wx val L hG hi hW hV hN hO K hK => ?_
    have e65 := hN 0 65
    have f65 := hV 0
    rw [O0] at f65; rw [f65] at e65; clear f65
    have e66 := hN 1 66
    have f66 := hV 1
    rw [O1] at f66; rw [f66] at e66; clear f66
    clear hV hN hO
    go_simp
    exact hK.out _ _ (by rw [O2, upd_at] <;> (congr 1 <;> omega)) (.inr (Below.refl _ _)) (hG)
   case s3_p2 =>
    refine oweP rfl fun a wx val L hG hi hW hV hN hO K hK => ?_
    have e67 := hN 2 67
    have f67 := hV 2
    rw [O2] at f67; rw [f67] at e67; clear f67
    clear hV hN hO
    obtain ⟨b0, b1, b2, b3, b4, b5⟩ := H6.out.keep fun q hq => hG.cell (by rw [hq]; exact HPB.out)
    simp only at b0 b1 b2 b3 b4 b5
    go_simp
    exact hK.out _ _ (by rw [O3, upd_at] <;> (congr 1 <;> omega)) (.inr (Below.refl _ _)) (hG)
   case s4_p2 =>
    refine oweP rfl fun a wx val L hG hi hW hV hN hO K hK => ?_
    have e2 : a.tmps[2]? = some (.slice (some ad) raw.length c') := (hO 2).trans (by rfl)
    clear hV hN hO
    go_simp
    exact hK.out _ _ (by rw [O4, upd_at] <;> (congr 1 <;> omega)) (.inr (Below.refl _ _)) (hG)
   case s5_p2 =>
    refine oweP rfl fun a wx val L hG hi hW hV hN hO K hK => ?_
    have e12 : a.tmps[12]? = some (.int .i64 (j : Int)) := (hO 12).trans (by rfl)
    clear hV hN hO
    go_simp
    exact hK.out _ _ (by rw [O5, upd_at] <;> (congr 1 <;> omega)) (.inr (Below.refl _ _)) (hG)
   case s6_p2 =>
    refine oweP rfl fun a wx val L hG hi hW hV hN hO K hK => ?_
    have e69 := hN 4 69
    have f69 := hV 4
    rw [O4] at f69; rw [f69] at e69; clear f69
    have e70 := hN 5 70
    have f70 := hV 5
    rw [O5] at f70; rw [f70] at e70; clear f70
    clear hV hN hO
    go_simp
    exact hK.out _ _ (by rw [O6, upd_at] <;> (congr 1 <;> omega)) (.inr (Below.refl _ _)) (hG)
   case s7_p2 =>
    refine oweP rfl fun a wx val L hG hi hW hV hN hO K hK => ?_
    have e71 := hN 6 71
    have f71 := hV 6
    rw [O6] at f71; rw [f71] at e71; clear f71
    clear hV hN hO
    go_simp
    exact hK.out _ _ (by rw [O7, upd_at] <;> (congr 1 <;> omega)) (.inr (Below.refl _ _)) (hG)
   case s8_p2 =>
    refine oweP rfl fun a wx val L hG hi hW hV hN hO K hK => ?_
    have e72 := hN 7 72
    have f72 := hV 7
    rw [O7] at f72; rw [f72] at e72; clear f72
    clear hV hN hO
    obtain ⟨b0, b1, b2, b3, b4, b5⟩ := H6.out.keep fun q hq => hG.cell (by rw [hq]; exact HPB.out)
    simp only at b0 b1 b2 b3 b4 b5
    go_simp
    exact hK.out _ _ (by rw [O8, upd_at] <;> (congr 1 <;> omega)) (.inr (Below.refl _ _)) (hG)
   case s9_p2 =>
    refine oweP rfl fun a wx val L hG hi hW hV hN hO K hK => ?_
    have e73 := hN 8 73
    have f73 := hV 8
    rw [O8] at f73; rw [f73] at e73; clear f73
    clear hV hN hO
    go_simp
    refine (CPK.out _).mono ?_
    rintro e w11 ⟨rfl, rfl⟩
    exact hK.out _ _ (by rw [O9, upd_at]) (.inr (Below.refl _ _)) (hG)
   case s10_p2 =>
    refine oweP rfl fun a wx val L hG hi hW hV hN hO K hK => ?_
    have e74 := hN 9 74
    have f74 := hV 9
    rw [O9] at f74; rw [f74] at e74; clear f74
    clear hV hN hO
    have q0 := HQ.out.1
    have q1 : Q ≤ 4 := by have := HQ.out.2; omega
    go_simp
    exact hK.out _ _ (by rw [O10, upd_at] <;> (congr 1 <;> omega)) (.inr (Below.refl _ _)) (hG)
   case s11_p2 =>
    refine oweP rfl fun a wx val L hG hi hW hV hN hO K hK => ?_
    have e68 := hN 3 68
    have f68 := hV 3
    rw [O3] at f68; rw [f68] at e68; clear f68
    have e75 := hN 10 75
    have f75 := hV 10
    rw [O10] at f75; rw [f75] at e75; clear f75
    clear hV hN hO
    go_simp
    refine (CMSG.out _).mono ?_
    rintro e w11 ⟨rfl, hb⟩
    exact hK.out _ _ (by rw [O11, upd_at]) (.inr (hb)) (hG.trans (hb.mono hG.size))
   case s12_p2 =>
    refine oweP rfl fun a wx val L hG hi hW hV hN hO K hK => ?_
    clear hV hN hO
    go_simp
    have hb := Joins.below_alloc1 wx (.cells (mc zeroM) 109)
    exact hK.out _ _ (by rw [O12, upd_at]; exact ⟨_, rfl, hG.size, heap_alloc_new _ _⟩) (.inr hb) (hG.trans (hb.mono hG.size))
   case s13_p2 =>
    refine oweP rfl fun a wx val L hG hi hW hV hN hO K hK => ?_
    have e13 := hN 12 13
    have f13 := hV 12
    rw [O12] at f13; obtain ⟨g, hv, hg9, hmm⟩ := f13; rw [hv] at e13
    have e76 := hN 11 76
    have f76 := hV 11
    rw [O11] at f76; rw [f76] at e76; clear f76
    clear hV hN hO
    obtain ⟨z0, z1, z2, z3, z4, z5, z6, ⟨x0, x1, x2, x3, x4, x5, x6⟩, hfz⟩ := (Seven.of_at hmm).cells
    go_simp
    exact hK.out undef (put7 wx g ⟨me, mn, ms, mi, mq, mu, md⟩) (by rw [O13, upd_ne _ _ (by decide)]; exact ⟨g, hv, hg9, put7_blk (Seven.of_at hmm) _⟩) (.inl rfl) (put7_below hG hg9 _)
   intro val wx L hG hV
   have f0 := hV 0
   rw [O0] at f0
   have f1 := hV 1
   rw [O1] at f1
   have f2 := hV 2
   rw [O2] at f2
   have f3 := hV 3
   rw [O3] at f3
   have f4 := hV 4
   rw [O4] at f4
   have f5 := hV 5
   rw [O5] at f5
   have f6 := hV 6
   rw [O6] at f6
   have f7 := hV 7
   rw [O7] at f7
   have f8 := hV 8
   rw [O8] at f8
   have f9 := hV 9
   rw [O9] at f9
   have f10 := hV 10
   rw [O10] at f10
   have f11 := hV 11
   rw [O11] at f11
   have f13 := hV 13
   rw [O13] at f13
   clear hV O0 O1 O2 O3 O4 O5 O6 O7 O8 O9 O10 O11 O12 O13
   simp only [putAll, Act.put, List.setIfInBounds_toArray, List.set_cons_zero, List.set_cons_succ]
   generalize val 0 = z0, val 1 = z1, val 2 = z2, val 3 = z3, val 4 = z4, val 5 = z5, val 6 = z6, val 7 = z7, val 8 = z8, val 9 = z9, val 10 = z10, val 11 = z11, val 12 = z12 at *
   subst f0 f1 f2 f3 f4 f5 f6 f7 f8 f9 f10 f11
   clear HVD
   obtain ⟨g, hz12, hg9, hmm⟩ := f13
   subst hz12
   have HG0 := hid hG; clear hG
   have HHX := hid (HKB.out.trans (HG0.out.mono HKB.out.size))
   have hjm : j < m1 := by omega
   obtain ⟨sx, hsx⟩ : ∃ x, (V.listI p2)[j]? = some x := ⟨_, List.getElem?_eq_getElem (by rw [HLL.out]; exact hjm)⟩
   obtain ⟨ix, hix⟩ : ∃ x, incV incs j = x := ⟨_, rfl⟩
   have hixx : (incsV incs m1)[j]? = some ix := by unfold incsV; rw [List.getElem?_map, List.getElem?_range hjm, ← hix]; rfl
   have HNY : Hid (msgsV p2 incs raw (j + 1) = msgsV p2 incs raw j ++ [⟨me, mn, sx, ix, mq, mu, md⟩]) := hid (by rw [HNX.out, getD_at hsx, hix])
   obtain ⟨adl, rfl, hadl, hlc⟩ := HRowL.out (by rw [HLL.out]; omega)
   obtain ⟨adi, rfl, hadi, hic⟩ := HRowI.out (by unfold incsV; simp; omega)
   have hls := (HHX.out.cell (p := adl.add j) (by rw [V.adb]; exact hadl)).trans (hlc j sx hsx)
   have hj0 : (0 : Int) ≤ j := by omega
   have HLM : Hid ((msgsV p2 incs raw j).length + [(⟨me, mn, sx, ix, mq, mu, md⟩ : Msg)].length ≤ 1000) := hid (by unfold msgsV; simp; omega)
   have HLN : Hid ((msgsV p2 incs raw (j + 1)).length = m2 + 1) := hid (by unfold msgsV; rw [List.length_map, List.length_range, HNJ.out])
   obtain ⟨_, x0, x1, x2, x3, x4, x5, x6⟩ := Holds.of_blk hmm
   simp only at x0 x1 x2 x3 x4 x5 x6
   obtain ⟨_, _, _, _, _, _, _, _, hfz⟩ := (Seven.of_at hmm).cells
   have HM0 := hid hmm; clear hmm
   have HG9 := hid hg9
   clear hlc hix HNX H6 HPB CPK CMSG HQ
   go_upto_region 16 with (fail)
   have HM1 : Hid (MsgAt (wx.setCell ⟨g, 2, none⟩ (.int .i64 sx)) g ⟨me, mn, sx, mi, mq, mu, md⟩) := hid (set_blk HM0.out 2 _)
   have HG1 := hid (HG0.out.setCell (p := ⟨g, 2, none⟩) HG9.out (.int .i64 sx))
   clear x0 x1 x2 x3 x4 x5 x6 hfz hls HHX HM0 HG0
   generalize wx.setCell ⟨g, 2, none⟩ (.int .i64 sx) = W1 at *
   have HHX := hid (HKB.out.trans (HG1.out.mono HKB.out.size))
   have his := (HHX.out.cell (p := adi.add j) (by rw [V.adb]; exact hadi)).trans (hic j ix hixx)
   obtain ⟨y0, y1, y2, y3, y4⟩ := (HJE.out.on HHX.out).cells
   obtain ⟨_, x0, x1, x2, x3, x4, x5, x6⟩ := Holds.of_blk HM1.out
   simp only at x0 x1 x2 x3 x4 x5 x6
   obtain ⟨_, _, _, _, _, _, _, _, hfz⟩ := (Seven.of_at HM1.out).cells
   go_upto_region 17 with (fail)
   have HM2 : Hid (MsgAt (W1.setCell ⟨g, 3, none⟩ (.int .i64 ix)) g ⟨me, mn, sx, ix, mq, mu, md⟩) := hid (set_blk HM1.out 3 _)
   have HG2 := hid (HG1.out.setCell (p := ⟨g, 3, none⟩) HG9.out (.int .i64 ix))
   clear x0 x1 x2 x3 x4 x5 x6 hfz his HHX HM1 HG1 y0 y1 y2 y3 y4
   generalize W1.setCell ⟨g, 3, none⟩ (.int .i64 ix) = W2 at *
   obtain ⟨_, x0, x1, x2, x3, x4, x5, x6⟩ := Holds.of_blk HM2.out
   simp only at x0 x1 x2 x3 x4 x5 x6
   have hb8 := Joins.below_alloc1 W2 (.cells #[.bool me, .int .i64 mn, .int .i64 sx, .int .i64 ix, .int .i64 mq, .int .i64 mu, .string md] 109)
   have h1 : MsgAt (W2.alloc (.cells #[.bool me, .int .i64 mn, .int .i64 sx, .int .i64 ix, .int .i64 mq, .int .i64 mu, .string md] 109)) W2.heap.size ⟨me, mn, sx, ix, mq, mu, md⟩ := heap_alloc_new W2 _
   have HB1 := hid (HG2.out.trans (hb8.mono HG2.out.size))
   have HMO := hid (Msgs.one h1)
   have HVE := hid (ownsRow_on HKO.out HB1.out)
   have HZ9 := hid (Nat.le_trans HKB.out.size HB1.out.size)
   clear hb8 h1 HM2 HG2
   go_wp2_with (at_builtin; refine list_appM (by rfl) _ _ rfl WA.heap.size _ (.slice A2 m2 c2) (msgsV p2 incs raw j) [⟨me, mn, sx, ix, mq, mu, md⟩] (some ⟨W2.heap.size, 0, none⟩) 1 rfl rfl HVE.out HMO.out HZ9.out HLM.out ?_)
   intro v' w9 hown9 hg9
   rw [← HNY.out] at hown9
   obtain ⟨A9, c9, rfl, -, -⟩ := hown9.row
   rw [HLN.out] at hown9 ⊢
   have HO9 := hid hown9
   have HT9 := hid ((HKB.out.trans (HB1.out.mono HKB.out.size)).grown hg9 HZ9.out (fun g e => (HVE.out.lt g e).1))
   clear hown9 hg9 HB1 HMO HVE HZ9 x0 x1 x2 x3 x4 x5 x6
   have HNN2 : Hid (m2 + 1 = j + 1) := hid (by have := HNJ.out; omega)
   have qj : IntKind.i64.wrap ((j : Int) + 1) = (j : Int) + 1 := IntWalk.i64_in _ (by omega)
   go_wp2_with fail
   go_roundw
   case rel => exact ⟨j + 1, A9, m2 + 1, c9, by omega, by omega, by go_num, HNN2.out, rfl, HO9.out, HT9.out⟩
   case measure => simp [intOf]; omega
  ·-- rows are over
   have hjm : j = manyV p2 raw := by unfold manyV; rw [HLL.out]; omega
   obtain ⟨hn2, hrow2⟩ := ownM_slice HKO.out
   have cs := refSort_any A2 c2 wr.heap.size (msgsV p2 incs raw j) wr hrow2 (Nat.le_refl _) (by unfold msgsV; simp; omega)
   rw [← hn2, hjm] at cs
   have HE5 := hid (HJE.out.on HKB.out)
   have HR5 := hid (HRE.out.on HKB.out)
   have HO5 := hid (ownsRow_on HJO.out HKB.out)
   have HB5 := hid (HBW.out.trans (HKB.out.mono HBW.out.size))
   have hszr := HB5.out.size
   clear hrow2 hn2
   go_wp2_with fail; refine cs.mono ?_; rintro e w5 ⟨v, rfl, hv, b5⟩
   obtain ⟨A9, c9, rfl, -, -⟩ := hv.row
   generalize hSL : (sortL (msgsV p2 incs raw (manyV p2 raw))).length = SL at *
   have HE6 := hid (HE5.out.on b5)
   have HR6 := hid (HR5.out.on b5)
   have HO6 := hid (own_more (ownsRow_on HO5.out b5) HB2.out.size)
   have HB6 := hid (HB5.out.trans (b5.mono hszr))
   have HV6 := hid (own_more hv hszr)
   have HSL := hid hSL
   clear hSL hv b5 cs HE5 HR5 HO5 HB5
   obtain ⟨y0, y1, y2, y3, y4⟩ := HE6.out.cells
   have f4 := HE6.out.frozen 4
   go_upto_region 19 with (fail)
   have hfi := own_apart HO6.out HE6.out (by decide)
   have hfm := own_apart HV6.out HE6.out (by decide)
   have K1 := hid (HE6.out.set4 (.slice A9 SL c9))
   have K2 := hid (own_far (w' := w5.setCell ⟨EB, 4, none⟩ (.slice A9 SL c9)) HO6.out (fun g hg => Below.heap_setCell _ _ _ _ (hfi g hg)))
   have K3 := hid (own_far (w' := w5.setCell ⟨EB, 4, none⟩ (.slice A9 SL c9)) HV6.out (fun g hg => Below.heap_setCell _ _ _ _ (hfm g hg)))
   have K4 := hid (HR6.out.far (b' := EB) (i := 4) (by omega) (.slice A9 SL c9))
   have K5 := hid (HB6.out.setCell (p := ⟨EB, 4, none⟩) (by show w.heap.size ≤ EB; omega) (.slice A9 SL c9))
   clear hfi hfm HE6 HR6 HO6 HB6 HV6 y0 y1 y2 y3 y4 f4
   generalize w5.setCell ⟨EB, 4, none⟩ (.slice A9 SL c9) = W6 at *
   obtain ⟨y0, y1, y2, y3, y4⟩ := K1.out.cells
   obtain ⟨q0, q1, q2, q3, q4⟩ := K4.out.cells
   have f0 := K4.out.frozen 0
   have f1 := K4.out.frozen 1
   have f2 := K4.out.frozen 2
   have f3 := K4.out.frozen 3
   have f4 := K4.out.frozen 4
   go_wp2_with fail
   have hpz := putE_at K4.out (1 + p0) (1 + p1) p2 (.slice A1 m1 c1) (.slice A9 SL c9)
   obtain ⟨r0, r1, r2, r3, r4⟩ := hpz.cells
   have hu := own_far (w' := putE W6 (w.heap.size + 1) (1 + p0) (1 + p1) p2 (.slice A1 m1 c1) (.slice A9 SL c9)) K2.out (fun g hg => putE_far _ (own_apart K2.out K4.out (by decide) g hg) _ _ _ _ _)
   have hv := own_far (w' := putE W6 (w.heap.size + 1) (1 + p0) (1 + p1) p2 (.slice A1 m1 c1) (.slice A9 SL c9)) K3.out (fun g hg => putE_far _ (own_apart K3.out K4.out (by decide) g hg) _ _ _ _ _)
   have hbz := putE_below K5.out (b := w.heap.size + 1) (Nat.le_succ _) (1 + p0) (1 + p1) p2 (.slice A1 m1 c1) (.slice A9 SL c9)
   unfold putE at r0 r1 r2 r3 r4 hu hv hbz
   refine bodyPost_ret (v := ev (1 + p0) (1 + p1) p2 (.slice A1 m1 c1) (.slice A9 SL c9)) (by simp [results, Tryz.results43, go_sem, r0, r1, r2, r3, r4]) rfl ?_
   rw [HX.out]
   exact ⟨_, _, rfl, hu, hv, hbz⟩
  ·-- members are over
   have hjm : j = manyV p2 raw := by unfold manyV; rw [HLL.out]; omega
   obtain ⟨hn2, hrow2⟩ := ownM_slice HKO.out
   have cs := refSort_any A2 c2 wr.heap.size (msgsV p2 incs raw j) wr hrow2 (Nat.le_refl _) (by unfold msgsV; simp; omega)
   rw [← hn2, hjm] at cs
   have HE5 := hid (HJE.out.on HKB.out)
   have HR5 := hid (HRE.out.on HKB.out)
   have HO5 := hid (ownsRow_on HJO.out HKB.out)
   have HB5 := hid (HBW.out.trans (HKB.out.mono HBW.out.size))
   have hszr := HB5.out.size
   clear hrow2 hn2
   go_wp2_with fail; refine cs.mono ?_; rintro e w5 ⟨v, rfl, hv, b5⟩
   obtain ⟨A9, c9, rfl, -, -⟩ := hv.row
   generalize hSL : (sortL (msgsV p2 incs raw (manyV p2 raw))).length = SL at *
   have HE6 := hid (HE5.out.on b5)
   have HR6 := hid (HR5.out.on b5)
   have HO6 := hid (own_more (ownsRow_on HO5.out b5) HB2.out.size)
   have HB6 := hid (HB5.out.trans (b5.mono hszr))
   have HV6 := hid (own_more hv hszr)
   have HSL := hid hSL
   clear hSL hv b5 cs HE5 HR5 HO5 HB5
   obtain ⟨y0, y1, y2, y3, y4⟩ := HE6.out.cells
   have f4 := HE6.out.frozen 4
   go_upto_region 19 with (fail)
   have hfi := own_apart HO6.out HE6.out (by decide)
   have hfm := own_apart HV6.out HE6.out (by decide)
   have K1 := hid (HE6.out.set4 (.slice A9 SL c9))
   have K2 := hid (own_far (w' := w5.setCell ⟨EB, 4, none⟩ (.slice A9 SL c9)) HO6.out (fun g hg => Below.heap_setCell _ _ _ _ (hfi g hg)))
   have K3 := hid (own_far (w' := w5.setCell ⟨EB, 4, none⟩ (.slice A9 SL c9)) HV6.out (fun g hg => Below.heap_setCell _ _ _ _ (hfm g hg)))
   have K4 := hid (HR6.out.far (b' := EB) (i := 4) (by omega) (.slice A9 SL c9))
   have K5 := hid (HB6.out.setCell (p := ⟨EB, 4, none⟩) (by show w.heap.size ≤ EB; omega) (.slice A9 SL c9))
   clear hfi hfm HE6 HR6 HO6 HB6 HV6 y0 y1 y2 y3 y4 f4
   generalize w5.setCell ⟨EB, 4, none⟩ (.slice A9 SL c9) = W6 at *
   obtain ⟨y0, y1, y2, y3, y4⟩ := K1.out.cells
   obtain ⟨q0, q1, q2, q3, q4⟩ := K4.out.cells
   have f0 := K4.out.frozen 0
   have f1 := K4.out.frozen 1
   have f2 := K4.out.frozen 2
   have f3 := K4.out.frozen 3
   have f4 := K4.out.frozen 4
   go_wp2_with fail
   have hpz := putE_at K4.out (1 + p0) (1 + p1) p2 (.slice A1 m1 c1) (.slice A9 SL c9)
   obtain ⟨r0, r1, r2, r3, r4⟩ := hpz.cells
   have hu := own_far (w' := putE W6 (w.heap.size + 1) (1 + p0) (1 + p1) p2 (.slice A1 m1 c1) (.slice A9 SL c9)) K2.out (fun g hg => putE_far _ (own_apart K2.out K4.out (by decide) g hg) _ _ _ _ _)
   have hv := own_far (w' := putE W6 (w.heap.size + 1) (1 + p0) (1 + p1) p2 (.slice A1 m1 c1) (.slice A9 SL c9)) K3.out (fun g hg => putE_far _ (own_apart K3.out K4.out (by decide) g hg) _ _ _ _ _)
   have hbz := putE_below K5.out (b := w.heap.size + 1) (Nat.le_succ _) (1 + p0) (1 + p1) p2 (.slice A1 m1 c1) (.slice A9 SL c9)
   unfold putE at r0 r1 r2 r3 r4 hu hv hbz
   refine bodyPost_ret (v := ev (1 + p0) (1 + p1) p2 (.slice A1 m1 c1) (.slice A9 SL c9)) (by simp [results, Tryz.results43, go_sem, r0, r1, r2, r3, r4]) rfl ?_
   rw [HX.out]
   exact ⟨_, _, rfl, hu, hv, hbz⟩
structure IncsOk (w : World) (A : Option Addr) (c : Nat) (l : List Int) : Prop where
 row : V.Row w w.heap.size A l
 len : l.length ≤ c ∧ c ≤ maxLen
 wf : ∀ n ∈ l, (Lit.int .i64 n).wf = true
structure Inp (w : World) (A : Option Addr) (incs : List Int) (A' : Option Addr) (raw : List Raw) : Prop where
 row : V.Row w w.heap.size A incs
 raws : RowsIn w w.heap.size A' raw
 li : incs.length ≤ maxLen
 lr : raw.length ≤ maxLen
 wi : ∀ x ∈ incs, (Lit.int .i64 x).wf = true
 wr : ∀ r ∈ raw, WfR r
theorem RowsIn.more {w : World} {B B' : Nat} {A : Option Addr} {l : List Raw} (h : RowsIn w B A l) (hB : B ≤ B') : RowsIn w B' A l := fun hn => by
 obtain ⟨ad, e, hb, hc⟩ := h hn
 exact ⟨ad, e, Nat.lt_of_lt_of_le hb hB, hc⟩
theorem Inp.on {w w' : World} {A A' : Option Addr} {incs : List Int} {raw : List Raw} (h : Inp w A incs A' raw) (hb : Below w.heap.size w w') : Inp w' A incs A' raw :=
 ⟨(h.row.below hb (Nat.le_refl _)).more hb.size, (h.raws.below hb (Nat.le_refl _)).more hb.size, h.li, h.lr, h.wi, h.wr⟩
theorem Inp.of {w : World} {A A' : Option Addr} {c c' : Nat} {incs : List Int} {raw : List Raw} (h : IncsOk w A c incs) (h' : RowsOk w A' c' raw) : Inp w A incs A' raw :=
 ⟨h.row, h'.1, Nat.le_trans h.len.1 h.len.2, Nat.le_trans h'.2.1.1 h'.2.1.2, h.wf, fun r hr => by
  obtain ⟨j, hj⟩ := List.getElem?_of_mem hr
  exact h'.2.2 j r hj⟩
theorem At3.new (w : World) (n0 n1 n2 : Int) : At3 (w.alloc (.cells #[.int .i64 n0, .int .i64 n1, .int .i64 n2] 24)) w.heap.size n0 n1 n2 := heap_alloc_new w _
abbrev fc (f : Fr) (u v : Value) : Array Value := #[.int .i64 f.snd, .int .i64 f.rnd, .int .i64 f.inc, .int .i64 f.term, .int .i64 f.role, .int .i64 f.vote, .int .i64 f.hrd, .int .i64 f.last, .int .i64 f.lterm, .int .i64 f.ack, .int .i64 f.com, .int .i64 f.prv, .int .i64 f.pterm, u, v]
abbrev fv (f : Fr) (u v : Value) : Value := .agg #[.int .i64 f.snd, .int .i64 f.rnd, .int .i64 f.inc, .int .i64 f.term, .int .i64 f.role, .int .i64 f.vote, .int .i64 f.hrd, .int .i64 f.last, .int .i64 f.lterm, .int .i64 f.ack, .int .i64 f.com, .int .i64 f.prv, .int .i64 f.pterm, u, v]
def FrAt (w : World) (b : Nat) (f : Fr) (u v : Value) : Prop := w.heap[b]? = some (.cells (fc f u v) 29 (0, 0))
theorem FrAt.new (w : World) (f : Fr) (u v : Value) : FrAt (w.alloc (.cells (fc f u v) 29)) w.heap.size f u v := heap_alloc_new w _
theorem FrAt.on {w w' : World} {b : Nat} {f : Fr} {u v : Value} (h : FrAt w b f u v) (hb : Below w.heap.size w w') : FrAt w' b f u v :=
 (hb.block b (Array.getElem?_eq_some_iff.1 h).1).trans h
theorem row_cells {w : World} {g : Nat} {l : List Int} (h : w.heap[g]? = some (.cells (l.map (Value.int .i64)).toArray 3 (0, 0))) : V.Row w (g + 1) (some ⟨g, 0, none⟩) l := fun _ => by
 refine ⟨_, rfl, by show g < g + 1; omega, fun j x hx => ?_⟩
 rw [cell_zero_addE, cell_of h j]
 simp [hx]
theorem refNumbers_any (f : Fr) (u v : Value) (w : World) :
  Calls Tryz.prog 50 #[fv f u v] w fun e w' => ∃ A, e = .returned (.slice A 10 10) ∧ V.Row w' w'.heap.size A (numsF f) ∧ Below w.heap.size w w' := by
 have hb := Joins.below_alloc2 w (.cells (fc f u v) 29) (.cells ((numsF f).map (Value.int .i64)).toArray 3)
 have hr : V.Row ((w.alloc (.cells (fc f u v) 29)).alloc (.cells ((numsF f).map (Value.int .i64)).toArray 3)) ((w.alloc (.cells (fc f u v) 29)).heap.size + 1) (some ⟨(w.alloc (.cells (fc f u v) 29)).heap.size, 0, none⟩) (numsF f) := row_cells (heap_alloc_new _ _)
 rw [World.size_alloc] at hr
 have HB := hid hb
 have HR := hid (hr.more (B' := ((w.alloc (.cells (fc f u v) 29)).alloc (.cells ((numsF f).map (Value.int .i64)).toArray 3)).heap.size) (by simp))
 clear hb hr
 go_enter Tryz.func50, Tryz.ntmps50
 go_wp2_with fail
 go_ret
 exact ⟨_, rfl, HR.out, HB.out⟩
theorem within7_any (a b n : Int) (w : World) :
  Calls Tryz.prog 51 #[.int .i64 a, .int .i64 b, .int .i64 n] w fun e w' => e = .returned (.bool (decide (a ≤ n) && decide (n ≤ b))) ∧ w = w' := by
 go_enter Tryz.func51, Tryz.ntmps51
 by_cases h1 : a ≤ n
 ·go_wp2_with fail
  go_ret
  exact ⟨ret_b (by simp [h1]), rfl⟩
 ·go_wp2_with fail
  go_ret
  exact ⟨ret_b (by rw [decide_eq_false (by omega)]; rfl), rfl⟩
def EntCells (w : World) (p : Addr) (x : Ent) (A : Option Addr) (c : Nat) (A' : Option Addr) (c' : Nat) : Prop :=
 w.cell? p = some (.int .i64 x.t) ∧ w.cell? ⟨p.block, p.off + 1, none⟩ = some (.int .i64 x.ep) ∧ w.cell? ⟨p.block, p.off + 2, none⟩ = some (.int .i64 x.mem) ∧ w.cell? ⟨p.block, p.off + 3, none⟩ = some (.slice A x.incs.length c) ∧ w.cell? ⟨p.block, p.off + 4, none⟩ = some (.slice A' x.msgs.length c')
theorem EntCells.keep {w w' : World} {p : Addr} {x : Ent} {A A' : Option Addr} {c c' : Nat} (h : EntCells w p x A c A' c') (hk : ∀ q : Addr, q.block = p.block → w'.cell? q = w.cell? q) : EntCells w' p x A c A' c' :=
 ⟨(hk p rfl).trans h.1, (hk ⟨p.block, p.off + 1, none⟩ rfl).trans h.2.1, (hk ⟨p.block, p.off + 2, none⟩ rfl).trans h.2.2.1, (hk ⟨p.block, p.off + 3, none⟩ rfl).trans h.2.2.2.1, (hk ⟨p.block, p.off + 4, none⟩ rfl).trans h.2.2.2.2⟩
def Ents (w : World) (B : Nat) (A : Option Addr) (l : List Ent) : Prop :=
 0 < l.length → ∃ ad, A = some ad ∧ ad.block < B ∧ ∀ (j : Nat) (x : Ent), l[j]? = some x → ∃ A1 c1 A2 c2, EntCells w (ad.add (j * 5)) x A1 c1 A2 c2 ∧ V.Row w B A1 x.incs ∧ Msgs w B A2 x.msgs
theorem Ents.below {w w' : World} {B B' : Nat} {A : Option Addr} {l : List Ent} (h : Ents w B A l) (hb : Below B' w w') (hB : B ≤ B') : Ents w' B A l := fun hn => by
 obtain ⟨ad, e, hl, hc⟩ := h hn
 refine ⟨ad, e, hl, fun j x hx => ?_⟩
 obtain ⟨A1, c1, A2, c2, h1, h2, h3⟩ := hc j x hx
 exact ⟨A1, c1, A2, c2, h1.keep fun q hq => hb.cell (Nat.lt_of_lt_of_le (by rw [hq, adb]; exact hl) hB), h2.below hb hB, h3.below hb hB⟩
theorem Ents.more {w : World} {B B' : Nat} {A : Option Addr} {l : List Ent} (h : Ents w B A l) (hB : B ≤ B') : Ents w B' A l := fun hn => by
 obtain ⟨ad, e, hl, hc⟩ := h hn
 refine ⟨ad, e, Nat.lt_of_lt_of_le hl hB, fun j x hx => ?_⟩
 obtain ⟨A1, c1, A2, c2, h1, h2, h3⟩ := hc j x hx
 exact ⟨A1, c1, A2, c2, h1, h2.more hB, h3.more hB⟩
theorem Ents.nil (w : World) (B : Nat) (A : Option Addr) : Ents w B A [] := fun h => absurd h (by simp)
theorem FrAt.cells {w : World} {b : Nat} {f : Fr} {u v : Value} (h : FrAt w b f u v) : w.cell? ⟨b, 0, none⟩ = some (.int .i64 f.snd) ∧ w.cell? ⟨b, 1, none⟩ = some (.int .i64 f.rnd) ∧ w.cell? ⟨b, 2, none⟩ = some (.int .i64 f.inc) ∧ w.cell? ⟨b, 3, none⟩ = some (.int .i64 f.term) ∧ w.cell? ⟨b, 4, none⟩ = some (.int .i64 f.role) ∧ w.cell? ⟨b, 5, none⟩ = some (.int .i64 f.vote) ∧ w.cell? ⟨b, 6, none⟩ = some (.int .i64 f.hrd) ∧ w.cell? ⟨b, 7, none⟩ = some (.int .i64 f.last) ∧ w.cell? ⟨b, 8, none⟩ = some (.int .i64 f.lterm) ∧ w.cell? ⟨b, 9, none⟩ = some (.int .i64 f.ack) ∧ w.cell? ⟨b, 10, none⟩ = some (.int .i64 f.com) ∧ w.cell? ⟨b, 11, none⟩ = some (.int .i64 f.prv) ∧ w.cell? ⟨b, 12, none⟩ = some (.int .i64 f.pterm) ∧ w.cell? ⟨b, 13, none⟩ = some u ∧ w.cell? ⟨b, 14, none⟩ = some v :=
 ⟨cell_of h 0, cell_of h 1, cell_of h 2, cell_of h 3, cell_of h 4, cell_of h 5, cell_of h 6, cell_of h 7, cell_of h 8, cell_of h 9, cell_of h 10, cell_of h 11, cell_of h 12, cell_of h 13, cell_of h 14⟩
end Go.Proofs.YtmmbnjkdknnidaaGreatDoor
namespace Go.Proofs.YtmmbnjkdknnidaaGreatDoor
open Lib (hid)
open Go.RowKit Go.Shelf
attribute [local go_sem] Oper.semAt_some
def fldN (x : Fin 10) : Nat := [1, 2, 3, 6, 7, 8, 9, 10, 11, 12].getD x.1 0
def numN (f : Fr) (x : Fin 10) : Int := (numsF f).getD x.1 0
def setN (f : Fr) (x : Fin 10) (n : Int) : Fr := match x.1 with
 | 0 => { f with rnd := n }
 | 1 => { f with inc := n }
 | 2 => { f with term := n }
 | 3 => { f with hrd := n }
 | 4 => { f with last := n }
 | 5 => { f with lterm := n }
 | 6 => { f with ack := n }
 | 7 => { f with com := n }
 | 8 => { f with prv := n }
 | _ => { f with pterm := n }
def allN : List (Fin 10) := [0, 1, 2, 3, 4, 5, 6, 7, 8, 9]
theorem allN_nums (f : Fr) : allN.map (numN f) = numsF f := rfl
theorem fin10 (x : Fin 10) : x = 0 ∨ x = 1 ∨ x = 2 ∨ x = 3 ∨ x = 4 ∨ x = 5 ∨ x = 6 ∨ x = 7 ∨ x = 8 ∨ x = 9 := by revert x; decide
theorem FrAt.num {w : World} {g : Nat} {f : Fr} {u v : Value} (h : FrAt w g f u v) (x : Fin 10) : w.cell? ⟨g, fldN x, none⟩ = some (.int .i64 (numN f x)) := by
 rcases fin10 x with rfl | rfl | rfl | rfl | rfl | rfl | rfl | rfl | rfl | rfl
 ·exact cell_of h 1
 ·exact cell_of h 2
 ·exact cell_of h 3
 ·exact cell_of h 6
 ·exact cell_of h 7
 ·exact cell_of h 8
 ·exact cell_of h 9
 ·exact cell_of h 10
 ·exact cell_of h 11
 ·exact cell_of h 12
theorem FrAt.frozen {w : World} {g : Nat} {f : Fr} {u v : Value} (h : FrAt w g f u v) (i : Nat) : w.frozen? ⟨g, i, none⟩ = false := by simp [World.frozen?, show w.heap[g]? = _ from h]
theorem FrAt.setN {w : World} {g : Nat} {f : Fr} {u v : Value} (h : FrAt w g f u v) (x : Fin 10) (n : Int) : FrAt (w.setCell ⟨g, fldN x, none⟩ (.int .i64 n)) g (setN f x n) u v := by
 rcases fin10 x with rfl | rfl | rfl | rfl | rfl | rfl | rfl | rfl | rfl | rfl
 ·exact set_blk h 1 _
 ·exact set_blk h 2 _
 ·exact set_blk h 3 _
 ·exact set_blk h 6 _
 ·exact set_blk h 7 _
 ·exact set_blk h 8 _
 ·exact set_blk h 9 _
 ·exact set_blk h 10 _
 ·exact set_blk h 11 _
 ·exact set_blk h 12 _
abbrev PtrBox (W : World) (b g : Nat) : Prop := Boxed W b 126 (.pointer (some ⟨g, 0, none⟩))
theorem numbers_in (m : Nat) (g : Nat) (w : World) : CallsIn Fence.wide m Tryz.prog 84 #[.pointer (some ⟨g, 0, none⟩)] w fun e w' => e = .returned (.func (.func 126) #[] #[.pointer (some ⟨w.heap.size, 0, none⟩)]) ∧ w' = w.alloc (.cells #[.pointer (some ⟨g, 0, none⟩)] 126) := by
 refine callsIn_wide.2 ?_
 go_enter Tryz.func84, Tryz.ntmps84
 go_wp2
 go_ret
 exact ⟨rfl, rfl⟩
theorem nums_each (m : Nat) (hm : 1 ≤ m) (l b g : Nat) (J Jx : List (Fin 10) → World → Prop) (W : World)
  (hY : ∀ pre x W, J pre W → pre.length < 10 → YieldAt Fence.wide (m - 1) Tryz.prog l #[.pointer (some ⟨g, fldN x, none⟩)] W fun e W' =>
   (e = .returned (.bool true) ∧ J (pre ++ [x]) W' ∧ Keeps b W W') ∨ (e = .returned (.bool false) ∧ Jx (pre ++ [x]) W'))
  (hB : PtrBox W b g) (h0 : J [] W) :
  CallsIn Fence.wide m Tryz.prog 126 #[.func (.yield l) #[] #[], .pointer (some ⟨b, 0, none⟩)] W fun e W' => (∃ u, e = .returned u) ∧
   ((∃ ys, ys = allN ∧ J ys W') ∨ (∃ pre, pre <+: allN ∧ Jx pre W')) := by
 refine callsIn_of_wp Tryz.func126 rfl trivial ?_ rfl
 simp only [Tryz.ntmps126, List.size_toArray, List.length_cons, List.length_nil, Nat.reduceAdd, Nat.reduceSub, Array.replicate_succ, Array.replicate_zero, List.push_toArray, List.append_toArray, List.nil_append, List.cons_append]
 have HY := hid hY; clear hY
 have V0 := hB
 have x0 := V0.cell
 have hY0 : YieldAt Fence.wide (m - 1) Tryz.prog l #[.pointer (some ⟨g, 1, none⟩)] W fun e W' => (e = .returned (.bool true) ∧ J ([] ++ [0]) W' ∧ Keeps b W W') ∨ (e = .returned (.bool false) ∧ Jx ([] ++ [0]) W') := HY.out [] 0 W h0 (by simp)
 obtain ⟨fn0, tmps0, assign0, body0, hy0, hR0⟩ := hY0
 clear h0
 gi_wp2_with fail
 refine hR0.mono ?_
 clear hy0 hR0 x0
 rintro e W0 (⟨rfl, h0, hk⟩ | ⟨rfl, hJx⟩)
 rotate_left
 ·gi_wp2
  (repeat first | (refine ⟨trivial, ?_⟩; gi_wp2) | (refine ⟨fun _ h => (by cases h), ?_⟩; gi_wp2))
  go_end0
  exact ⟨⟨_, rfl⟩, .inr ⟨_, by decide, hJx⟩⟩
 have V1 : PtrBox W0 b g := Eq.trans hk V0
 clear hk V0
 have V0 := V1; clear V1
 have x0 := V0.cell
 have hY1 : YieldAt Fence.wide (m - 1) Tryz.prog l #[.pointer (some ⟨g, 2, none⟩)] W0 fun e W' => (e = .returned (.bool true) ∧ J (([] ++ [0]) ++ [1]) W' ∧ Keeps b W0 W') ∨ (e = .returned (.bool false) ∧ Jx (([] ++ [0]) ++ [1]) W') := HY.out ([] ++ [0]) 1 W0 h0 (by simp)
 obtain ⟨fn1, tmps1, assign1, body1, hy1, hR1⟩ := hY1
 clear h0
 gi_wp2_with fail
 refine hR1.mono ?_
 clear hy1 hR1 x0
 rintro e W1 (⟨rfl, h0, hk⟩ | ⟨rfl, hJx⟩)
 rotate_left
 ·gi_wp2
  (repeat first | (refine ⟨trivial, ?_⟩; gi_wp2) | (refine ⟨fun _ h => (by cases h), ?_⟩; gi_wp2))
  go_end0
  exact ⟨⟨_, rfl⟩, .inr ⟨_, by decide, hJx⟩⟩
 have V1 : PtrBox W1 b g := Eq.trans hk V0
 clear hk V0
 have V0 := V1; clear V1
 have x0 := V0.cell
 have hY2 : YieldAt Fence.wide (m - 1) Tryz.prog l #[.pointer (some ⟨g, 3, none⟩)] W1 fun e W' => (e = .returned (.bool true) ∧ J ((([] ++ [0]) ++ [1]) ++ [2]) W' ∧ Keeps b W1 W') ∨ (e = .returned (.bool false) ∧ Jx ((([] ++ [0]) ++ [1]) ++ [2]) W') := HY.out (([] ++ [0]) ++ [1]) 2 W1 h0 (by simp)
 obtain ⟨fn2, tmps2, assign2, body2, hy2, hR2⟩ := hY2
 clear h0
 gi_wp2_with fail
 refine hR2.mono ?_
 clear hy2 hR2 x0
 rintro e W2 (⟨rfl, h0, hk⟩ | ⟨rfl, hJx⟩)
 rotate_left
 ·gi_wp2
  (repeat first | (refine ⟨trivial, ?_⟩; gi_wp2) | (refine ⟨fun _ h => (by cases h), ?_⟩; gi_wp2))
  go_end0
  exact ⟨⟨_, rfl⟩, .inr ⟨_, by decide, hJx⟩⟩
 have V1 : PtrBox W2 b g := Eq.trans hk V0
 clear hk V0
 have V0 := V1; clear V1
 have x0 := V0.cell
 have hY3 : YieldAt Fence.wide (m - 1) Tryz.prog l #[.pointer (some ⟨g, 6, none⟩)] W2 fun e W' => (e = .returned (.bool true) ∧ J (((([] ++ [0]) ++ [1]) ++ [2]) ++ [3]) W' ∧ Keeps b W2 W') ∨ (e = .returned (.bool false) ∧ Jx (((([] ++ [0]) ++ [1]) ++ [2]) ++ [3]) W') := HY.out ((([] ++ [0]) ++ [1]) ++ [2]) 3 W2 h0 (by simp)
 obtain ⟨fn3, tmps3, assign3, body3, hy3, hR3⟩ := hY3
 clear h0
 gi_wp2_with fail
 refine hR3.mono ?_
 clear hy3 hR3 x0
 rintro e W3 (⟨rfl, h0, hk⟩ | ⟨rfl, hJx⟩)
 rotate_left
 ·gi_wp2
  (repeat first | (refine ⟨trivial, ?_⟩; gi_wp2) | (refine ⟨fun _ h => (by cases h), ?_⟩; gi_wp2))
  go_end0
  exact ⟨⟨_, rfl⟩, .inr ⟨_, by decide, hJx⟩⟩
 have V1 : PtrBox W3 b g := Eq.trans hk V0
 clear hk V0
 have V0 := V1; clear V1
 have x0 := V0.cell
 have hY4 : YieldAt Fence.wide (m - 1) Tryz.prog l #[.pointer (some ⟨g, 7, none⟩)] W3 fun e W' => (e = .returned (.bool true) ∧ J ((((([] ++ [0]) ++ [1]) ++ [2]) ++ [3]) ++ [4]) W' ∧ Keeps b W3 W') ∨ (e = .returned (.bool false) ∧ Jx ((((([] ++ [0]) ++ [1]) ++ [2]) ++ [3]) ++ [4]) W') := HY.out (((([] ++ [0]) ++ [1]) ++ [2]) ++ [3]) 4 W3 h0 (by simp)
 obtain ⟨fn4, tmps4, assign4, body4, hy4, hR4⟩ := hY4
 clear h0
 gi_wp2_with fail
 refine hR4.mono ?_
 clear hy4 hR4 x0
 rintro e W4 (⟨rfl, h0, hk⟩ | ⟨rfl, hJx⟩)
 rotate_left
 ·gi_wp2
  (repeat first | (refine ⟨trivial, ?_⟩; gi_wp2) | (refine ⟨fun _ h => (by cases h), ?_⟩; gi_wp2))
  go_end0
  exact ⟨⟨_, rfl⟩, .inr ⟨_, by decide, hJx⟩⟩
 have V1 : PtrBox W4 b g := Eq.trans hk V0
 clear hk V0
 have V0 := V1; clear V1
 have x0 := V0.cell
 have hY5 : YieldAt Fence.wide (m - 1) Tryz.prog l #[.pointer (some ⟨g, 8, none⟩)] W4 fun e W' => (e = .returned (.bool true) ∧ J (((((([] ++ [0]) ++ [1]) ++ [2]) ++ [3]) ++ [4]) ++ [5]) W' ∧ Keeps b W4 W') ∨ (e = .returned (.bool false) ∧ Jx (((((([] ++ [0]) ++ [1]) ++ [2]) ++ [3]) ++ [4]) ++ [5]) W') := HY.out ((((([] ++ [0]) ++ [1]) ++ [2]) ++ [3]) ++ [4]) 5 W4 h0 (by simp)
 obtain ⟨fn5, tmps5, assign5, body5, hy5, hR5⟩ := hY5
 clear h0
 gi_wp2_with fail
 refine hR5.mono ?_
 clear hy5 hR5 x0
 rintro e W5 (⟨rfl, h0, hk⟩ | ⟨rfl, hJx⟩)
 rotate_left
 ·gi_wp2
  (repeat first | (refine ⟨trivial, ?_⟩; gi_wp2) | (refine ⟨fun _ h => (by cases h), ?_⟩; gi_wp2))
  go_end0
  exact ⟨⟨_, rfl⟩, .inr ⟨_, by decide, hJx⟩⟩
 have V1 : PtrBox W5 b g := Eq.trans hk V0
 clear hk V0
 have V0 := V1; clear V1
 have x0 := V0.cell
 have hY6 : YieldAt Fence.wide (m - 1) Tryz.prog l #[.pointer (some ⟨g, 9, none⟩)] W5 fun e W' => (e = .returned (.bool true) ∧ J ((((((([] ++ [0]) ++ [1]) ++ [2]) ++ [3]) ++ [4]) ++ [5]) ++ [6]) W' ∧ Keeps b W5 W') ∨ (e = .returned (.bool false) ∧ Jx ((((((([] ++ [0]) ++ [1]) ++ [2]) ++ [3]) ++ [4]) ++ [5]) ++ [6]) W') := HY.out (((((([] ++ [0]) ++ [1]) ++ [2]) ++ [3]) ++ [4]) ++ [5]) 6 W5 h0 (by simp)
 obtain ⟨fn6, tmps6, assign6, body6, hy6, hR6⟩ := hY6
 clear h0
 gi_wp2_with fail
 refine hR6.mono ?_
 clear hy6 hR6 x0
 rintro e W6 (⟨rfl, h0, hk⟩ | ⟨rfl, hJx⟩)
 rotate_left
 ·gi_wp2
  (repeat first | (refine ⟨trivial, ?_⟩; gi_wp2) | (refine ⟨fun _ h => (by cases h), ?_⟩; gi_wp2))
  go_end0
  exact ⟨⟨_, rfl⟩, .inr ⟨_, by decide, hJx⟩⟩
 have V1 : PtrBox W6 b g := Eq.trans hk V0
 clear hk V0
 have V0 := V1; clear V1
 have x0 := V0.cell
 have hY7 : YieldAt Fence.wide (m - 1) Tryz.prog l #[.pointer (some ⟨g, 10, none⟩)] W6 fun e W' => (e = .returned (.bool true) ∧ J (((((((([] ++ [0]) ++ [1]) ++ [2]) ++ [3]) ++ [4]) ++ [5]) ++ [6]) ++ [7]) W' ∧ Keeps b W6 W') ∨ (e = .returned (.bool false) ∧ Jx (((((((([] ++ [0]) ++ [1]) ++ [2]) ++ [3]) ++ [4]) ++ [5]) ++ [6]) ++ [7]) W') := HY.out ((((((([] ++ [0]) ++ [1]) ++ [2]) ++ [3]) ++ [4]) ++ [5]) ++ [6]) 7 W6 h0 (by simp)
 obtain ⟨fn7, tmps7, assign7, body7, hy7, hR7⟩ := hY7
 clear h0
 gi_wp2_with fail
 refine hR7.mono ?_
 clear hy7 hR7 x0
 rintro e W7 (⟨rfl, h0, hk⟩ | ⟨rfl, hJx⟩)
 rotate_left
 ·gi_wp2
  (repeat first | (refine ⟨trivial, ?_⟩; gi_wp2) | (refine ⟨fun _ h => (by cases h), ?_⟩; gi_wp2))
  go_end0
  exact ⟨⟨_, rfl⟩, .inr ⟨_, by decide, hJx⟩⟩
 have V1 : PtrBox W7 b g := Eq.trans hk V0
 clear hk V0
 have V0 := V1; clear V1
 have x0 := V0.cell
 have hY8 : YieldAt Fence.wide (m - 1) Tryz.prog l #[.pointer (some ⟨g, 11, none⟩)] W7 fun e W' => (e = .returned (.bool true) ∧ J ((((((((([] ++ [0]) ++ [1]) ++ [2]) ++ [3]) ++ [4]) ++ [5]) ++ [6]) ++ [7]) ++ [8]) W' ∧ Keeps b W7 W') ∨ (e = .returned (.bool false) ∧ Jx ((((((((([] ++ [0]) ++ [1]) ++ [2]) ++ [3]) ++ [4]) ++ [5]) ++ [6]) ++ [7]) ++ [8]) W') := HY.out (((((((([] ++ [0]) ++ [1]) ++ [2]) ++ [3]) ++ [4]) ++ [5]) ++ [6]) ++ [7]) 8 W7 h0 (by simp)
 obtain ⟨fn8, tmps8, assign8, body8, hy8, hR8⟩ := hY8
 clear h0
 gi_wp2_with fail
 refine hR8.mono ?_
 clear hy8 hR8 x0
 rintro e W8 (⟨rfl, h0, hk⟩ | ⟨rfl, hJx⟩)
 rotate_left
 ·gi_wp2
  (repeat first | (refine ⟨trivial, ?_⟩; gi_wp2) | (refine ⟨fun _ h => (by cases h), ?_⟩; gi_wp2))
  go_end0
  exact ⟨⟨_, rfl⟩, .inr ⟨_, by decide, hJx⟩⟩
 have V1 : PtrBox W8 b g := Eq.trans hk V0
 clear hk V0
 have V0 := V1; clear V1
 have x0 := V0.cell
 have hY9 : YieldAt Fence.wide (m - 1) Tryz.prog l #[.pointer (some ⟨g, 12, none⟩)] W8 fun e W' => (e = .returned (.bool true) ∧ J (((((((((([] ++ [0]) ++ [1]) ++ [2]) ++ [3]) ++ [4]) ++ [5]) ++ [6]) ++ [7]) ++ [8]) ++ [9]) W' ∧ Keeps b W8 W') ∨ (e = .returned (.bool false) ∧ Jx (((((((((([] ++ [0]) ++ [1]) ++ [2]) ++ [3]) ++ [4]) ++ [5]) ++ [6]) ++ [7]) ++ [8]) ++ [9]) W') := HY.out ((((((((([] ++ [0]) ++ [1]) ++ [2]) ++ [3]) ++ [4]) ++ [5]) ++ [6]) ++ [7]) ++ [8]) 9 W8 h0 (by simp)
 obtain ⟨fn9, tmps9, assign9, body9, hy9, hR9⟩ := hY9
 clear h0
 gi_wp2_with fail
 refine hR9.mono ?_
 clear hy9 hR9 x0
 rintro e W9 (⟨rfl, h0, hk⟩ | ⟨rfl, hJx⟩)
 rotate_left
 ·gi_wp2
  (repeat first | (refine ⟨trivial, ?_⟩; gi_wp2) | (refine ⟨fun _ h => (by cases h), ?_⟩; gi_wp2))
  go_end0
  exact ⟨⟨_, rfl⟩, .inr ⟨_, by decide, hJx⟩⟩
 clear hk
 gi_wp2
 go_end0
 exact ⟨⟨_, rfl⟩, .inl ⟨_, rfl, h0⟩⟩
theorem nums_stop (m : Nat) (hm : 1 ≤ m) (b g : Nat) (w : World) (hB : PtrBox w b g) :
  SeqStopsK Fence.wide m Tryz.prog 126 #[.pointer (some ⟨b, 0, none⟩)] (fun x : Fin 10 => #[.pointer (some ⟨g, fldN x, none⟩)]) (Keeps b) (fun ys => ys = allN) (fun pre => pre <+: allN) 10 w := fun l J Jx W hW _ _ hY h0 =>
 nums_each m hm l b g J Jx W hY ((hW.block b (Array.getElem?_eq_some_iff.1 hB).1).trans hB) h0
end Go.Proofs.YtmmbnjkdknnidaaGreatDoor
namespace Go.Proofs.YtmmbnjkdknnidaaGreatDoor
open Lib (hid)
open Go.RowKit Go.Shelf
attribute [local go_sem] Oper.semAt_some
theorem frAt_kept {X Y : World} {g : Nat} {f : Fr} {u v : Value} {row : Option Nat} (h : FrAt X g f u v) (hg : X.grownBy Y row) (hrow : ∀ r, row = some r → ∃ o : Obj, X.heap[r]? = some o ∧ o.isCells = false) : FrAt Y g f u v :=
 (hg.block g (Array.getElem?_eq_some_iff.1 h).1 fun e' => by
  obtain ⟨o, ho, hc⟩ := hrow g e'.symm
  rw [show X.heap[g]? = _ from h] at ho; cases ho; cases hc).trans h
theorem frAt_own {β : Type} (g : Nat) (f : Fr) (u v : Value) : Own (fun (_ : β) W => FrAt W g f u v) := fun _ _ _ _ h hg hrow => frAt_kept h hg hrow
def countB (f : Fr) : Bool := (numsF f).all wordB && decide (0 < f.inc)
theorem count_all {f : Fr} (h : ∀ x ∈ allN, wordB (numN f x) = true) : decide (0 < f.inc) = countB f := by
 have e : (numsF f).all wordB = true := by
  rw [← allN_nums, List.all_map, List.all_eq_true]
  exact h
 unfold countB
 rw [e, Bool.true_and]
theorem count_not {f : Fr} {x : Fin 10} (h : wordB (numN f x) = false) : false = countB f := by
 have e : (numsF f).all wordB = false := by
  rw [← allN_nums, List.all_map, List.all_eq_false]
  exact ⟨x, by rcases fin10 x with rfl | rfl | rfl | rfl | rfl | rfl | rfl | rfl | rfl | rfl <;> decide, by simp [h]⟩
 unfold countB
 rw [e, Bool.false_and]
theorem counted_in (m : Nat) (hm : 4 ≤ m) (f : Fr) (u v : Value) (w : World) : CallsIn Fence.wide m Tryz.prog 52 #[fv f u v] w fun e W' => e = .returned (.bool (countB f)) ∧ Below w.heap.size w W' := by
 have h1 : 1 ≤ m := by omega
 refine callsIn_of_wp_marks Tryz.func52 rfl trivial ?_ rfl
 simp only [Tryz.ntmps52, List.size_toArray, List.length_cons, List.length_nil, Nat.reduceAdd, Nat.reduceSub, Array.replicate_succ, Array.replicate_zero, List.push_toArray, List.append_toArray, List.nil_append, List.cons_append]
 gi_wp2_with fail
 refine ⟨trivial, (numbers_in (m - 1) _ _).mono ?_⟩
 rintro e w' ⟨rfl, rfl⟩
 gi_wp2_with fail
 have bV := (Boxed.new (w.alloc (.cells (fc f u v) 29)) 4 (.bool false)).alloc (.cells #[.pointer (some ⟨w.heap.size, 0, none⟩)] 126)
 have bF := (FrAt.new w f u v).on (Joins.below_alloc2 (w.alloc (.cells (fc f u v) 29)) (.cells #[.bool false] 4) (.cells #[.pointer (some ⟨w.heap.size, 0, none⟩)] 126))
 have bP : PtrBox _ _ _ := Boxed.new ((w.alloc (.cells (fc f u v) 29)).alloc (.cells #[.bool false] 4)) 126 (.pointer (some ⟨w.heap.size, 0, none⟩))
 have bB : Below w.heap.size w (((w.alloc (.cells (fc f u v) 29)).alloc (.cells #[.bool false] 4)).alloc (.cells #[.pointer (some ⟨w.heap.size, 0, none⟩)] 126)) := (((Below.refl _ w).alloc (Nat.le_refl _) _).alloc (by simp) _).alloc (by simp; omega) _
 have hs3 : (((w.alloc (.cells (fc f u v) 29)).alloc (.cells #[.bool false] 4)).alloc (.cells #[.pointer (some ⟨w.heap.size, 0, none⟩)] 126)).heap.size = w.heap.size + 3 := by simp
 simp only [World.size_alloc] at bV bP
 simp only [fc] at *
 generalize ((w.alloc (.cells #[.int .i64 f.snd, .int .i64 f.rnd, .int .i64 f.inc, .int .i64 f.term, .int .i64 f.role, .int .i64 f.vote, .int .i64 f.hrd, .int .i64 f.last, .int .i64 f.lterm, .int .i64 f.ack, .int .i64 f.com, .int .i64 f.prv, .int .i64 f.pterm, u, v] 29)).alloc (.cells #[.bool false] 4)).alloc (.cells #[.pointer (some ⟨w.heap.size, 0, none⟩)] 126) = X3 at *
 refine wpIn_rangeFunc_ownG rfl h1 (gf := 126) (lb := #[.pointer (some ⟨w.heap.size + 2, 0, none⟩)]) rfl trivial (enters_of Tryz.func126 (by kernel_rfl) rfl)
  (nums_stop (m - 1) (by omega) (w.heap.size + 2) w.heap.size _ bP) Keeps.trans (Keeps.past (by omega)) (Below.refl _ _) (fun _ => rfl)
  (fun pre W => ((∃ u, Boxed W (w.heap.size + 1) 4 u) ∧ Below w.heap.size w W) ∧ (FrAt W w.heap.size f u v ∧ w.heap.size + 3 ≤ W.heap.size) ∧ ∀ x ∈ pre, wordB (numN f x) = true)
  (fun c pre W => c = .ret ∧ (∃ p x, pre = p ++ [x] ∧ wordB (numN f x) = false) ∧ Boxed W (w.heap.size + 1) 4 (.bool false) ∧ Below w.heap.size w W)
  (OwnFrom.and (OwnFrom.and (fun _ X Y row ⟨u, hs⟩ hg hr => ⟨u, (Own.from (boxed_own _ _ (fun _ : Unit => u)) _) () X Y row hs hg hr⟩) (ownFrom_below (Nat.le_refl _) (by omega))) (OwnFrom.and (OwnFrom.and (Own.from (frAt_own _ _ _ _) _) (fun s A B row hs hg hr => Nat.le_trans hs hg.size)) (fun s A B row hs hg hr => hs)))
  (fun c => OwnFrom.and (fun _ _ _ _ h _ _ => h) (OwnFrom.and (fun _ _ _ _ h _ _ => h) (OwnFrom.and (Own.from (boxed_own _ _ (fun _ => .bool false)) _) (ownFrom_below (Nat.le_refl _) (by omega)))))
  ⟨⟨⟨_, bV⟩, bB⟩, ⟨bF, by omega⟩, fun x hx => absurd hx (by simp)⟩
  ?a1 ?assign ?body ?done ?stop
 case assign =>
  intro l x W K hK
  gi_wp2
  exact hK
 case body =>
  rintro r pre x W ⟨⟨⟨u', hv⟩, hB⟩, ⟨hF, hW⟩, hne⟩ hlt
  have hc := hv.cell
  have hf := hv.frozen
  have x0 := hF.num x
  clear hlt
  have HNE := hid hne; clear hne
  have cw := fun W => CallsIn.inRound r (callsIn_wide (n := m - 1 - 1 - 1) |>.2 (within7_any 0 65535 (numN f x) W))
  have ew : (decide (0 ≤ numN f x) && decide (numN f x ≤ 65535)) = wordB (numN f x) := rfl
  rw [ew] at cw
  cases ht : wordB (numN f x)
  ·rw [ht] at cw
   have HT := hid ht; clear ht ew
   generalize fldN x = q at *
   gi_wp2_with fail
   refine ⟨trivial, fun _ => by omega, (cw _).mono ?_⟩
   rintro e W1 ⟨rfl, rfl⟩
   gi_wp2_with fail
   refine ⟨(KeepsOthers.setCell _ _ _).from _, rfl, ⟨pre, x, rfl, HT.out⟩, hv.set _, hB.setCell (p := ⟨w.heap.size + 1, 0, none⟩) (by show w.heap.size ≤ w.heap.size + 1; omega) _⟩
  ·rw [ht] at cw
   have HT := hid ht; clear ht ew
   generalize fldN x = q at *
   gi_wp2_with fail
   refine ⟨trivial, fun _ => by omega, (cw _).mono ?_⟩
   rintro e W1 ⟨rfl, rfl⟩
   gi_wp2_with fail
   refine ⟨KeepsFrom.refl _ _, Keeps.refl _ _, ⟨⟨_, hv⟩, hB⟩, ⟨hF, hW⟩, ?_⟩
   intro y hy
   rcases List.mem_append.1 hy with h | h
   ·exact HNE.out y h
   ·rw [List.mem_singleton.1 h]; exact HT.out
 case done =>
  rintro D ys W hD rfl ⟨⟨⟨u', hv⟩, hB⟩, ⟨hF, hW⟩, hne⟩ hK
  have hc := hv.cell
  have hf := hv.frozen
  have y2 := hF.num 1
  have y2 : W.cell? ⟨w.heap.size, 2, none⟩ = some (.int .i64 f.inc) := y2
  have HE := hid (count_all hne)
  clear hne
  gi_wp2
  have hv2 := hv.set (.bool (decide (0 < f.inc)))
  have hB2 := hB.setCell (p := ⟨w.heap.size + 1, 0, none⟩) (by show w.heap.size ≤ w.heap.size + 1; omega) (.bool (decide (0 < f.inc)))
  have hK2 := (Below.heap_setCell W ⟨w.heap.size + 1, 0, none⟩ (.bool (decide (0 < f.inc))) D (by show D ≠ w.heap.size + 1; omega)).trans hK
  generalize W.setCell ⟨w.heap.size + 1, 0, none⟩ (.bool (decide (0 < f.inc))) = V at *
  refine ⟨by simp, .inl ⟨_, _, rfl, run_takeDeferred hK2, ?_⟩⟩
  have hc5 := (hv2.kept (grownBy_putObj' V D (.deferred none)) (fun e => by have := Option.some.inj e; omega)).cell
  refine ⟨.bool (decide (0 < f.inc)), by simp [results, Tryz.f52, go_sem, hc5], ret_b HE.out, hB2.trans (belowK_b (w := w) (Nat.le_refl _) V D _ _ (by omega) hK2 rfl rfl)⟩
 case stop =>
  rintro D c pre W hD hpre ⟨rfl, ⟨p, x, rfl, hx⟩, hv, hB⟩ hK
  have hc := hv.cell
  have HE := hid (count_not hx)
  clear hpre
  gi_wp2
  refine ⟨by simp, .inl ⟨_, _, rfl, run_takeDeferred hK, ?_⟩⟩
  have hc5 := (hv.kept (grownBy_putObj' W D (.deferred none)) (fun e => by have := Option.some.inj e; omega)).cell
  refine ⟨.bool false, by simp [results, Tryz.f52, go_sem, hc5], ret_b HE.out, hB.trans (belowK_b (w := w) (Nat.le_refl _) W D _ _ (by omega) hK rfl rfl)⟩
theorem countedF_any (f : Fr) (u v : Value) (w : World) : Calls Tryz.prog 52 #[fv f u v] w fun e W' => e = .returned (.bool (countB f)) ∧ Below w.heap.size w W' := callsIn_wide.1 (counted_in 4 (Nat.le_refl _) f u v w)
end Go.Proofs.YtmmbnjkdknnidaaGreatDoor
namespace Go.Proofs.YtmmbnjkdknnidaaGreatDoor
open Lib (hid)
open Go.RowKit
theorem must_yes (e : Int) (w : World) : Calls Tryz.prog 62 #[.bool true, .int .i64 e] w fun x w' => x = .returned (.tuple #[]) ∧ w = w' := by
 go_enter Tryz.func62, Tryz.ntmps62
 go_wp2_with fail
 go_end0
 exact ⟨rfl, rfl⟩
def upW (e : Int) : List PanicEntry := [{ v := .iface 91 (.agg #[.int .i64 e]), recovered := false }]
theorem must_no (e : Int) (w : World) : Calls Tryz.prog 62 #[.bool false, .int .i64 e] w fun x w' => x = .panicked (upW e) ∧ Below w.heap.size w w' := by
 go_enter Tryz.func62, Tryz.ntmps62
 go_wp2_with fail
 exact ⟨rfl, rfl, Below.refl _ _⟩
theorem oneP_any (A : Option Addr) (c : Nat) (l : List F.Pc) (w : World) (h : F.Pcs w w.heap.size A l) (hl : l.length ≤ maxLen) (hd : ∀ p ∈ l, p.bytes.size ≤ maxLen) :
  Calls Tryz.prog 53 #[.slice A l.length c, .func (.func 54) #[] #[]] w fun e w' => e = .returned (.bool (oneB F.rightP l)) ∧ Below w.heap.size w w' := by
 unfold maxLen at hl
 match l, h, hl, hd with
 | [], _, _, _ =>
  go_enter Tryz.func53, Tryz.ntmps53
  go_wp2_with fail
  go_ret
  exact ⟨rfl, Below.refl _ _⟩
 | [p], h, _, hd =>
  have cp := fun W => F.rightP_any p (hd p (by simp)) W
  obtain ⟨ad, rfl, hadb, hcc⟩ := h (by simp)
  obtain ⟨x0, x1, x2, x3⟩ := hcc 0 p rfl
  rw [show ad.add (0 * 4) = ad from by unfold Addr.add; rfl] at x0 x1 x2 x3
  have e : oneB F.rightP [p] = F.rightP p := rfl
  rw [e]
  clear hcc e h hd hadb
  generalize F.rightP p = R at *
  simp only [List.length_singleton]
  go_enter Tryz.func53, Tryz.ntmps53
  go_wp2_with fail; refine (cp _).mono ?_; rintro e w1 ⟨rfl, b1⟩
  go_wp2_with fail
  go_ret
  exact ⟨rfl, b1⟩
 | p :: q :: r, _, hl, _ =>
  have hn : 2 ≤ (p :: q :: r).length := by simp
  have e : oneB F.rightP (p :: q :: r) = false := rfl
  rw [e]
  generalize (p :: q :: r).length = n at *
  have g1 : ((n : Int) == 0) = false := by simp; omega
  have g2 : ((n : Int) == 1) = false := by simp; omega
  go_enter Tryz.func53, Tryz.ntmps53
  go_wp2_with fail
  go_ret
  exact ⟨rfl, Below.refl _ _⟩
theorem oneE_any (A : Option Addr) (c : Nat) (l : List Ent) (w : World) (L : Laid w) (h : Ents w w.heap.size A l) (hl : l.length ≤ maxLen) (hd : ∀ x ∈ l, x.incs.length ≤ maxLen ∧ x.msgs.length ≤ maxLen ∧ ∀ m ∈ x.msgs, m.data.size ≤ maxLen) :
  Calls Tryz.prog 55 #[.slice A l.length c, .func (.func 56) #[] #[]] w fun e w' => e = .returned (.bool (oneB rightE l)) ∧ Below w.heap.size w w' := by
 unfold maxLen at hl
 match l, h, hl, hd with
 | [], _, _, _ =>
  go_enter Tryz.func55, Tryz.ntmps55
  go_wp2_with fail
  go_ret
  exact ⟨rfl, Below.refl _ _⟩
 | [p], h, _, hd =>
  obtain ⟨d1, d2, d3⟩ := hd p (by simp)
  obtain ⟨ad, rfl, hadb, hcc⟩ := h (by simp)
  obtain ⟨P1, q1, P2, q2, hcl, hrow, hms⟩ := hcc 0 p rfl
  obtain ⟨x0, x1, x2, x3, x4⟩ := hcl
  rw [show ad.add (0 * 5) = ad from by unfold Addr.add; rfl] at x0 x1 x2 x3 x4
  have cp := rightEP_any p P1 q1 P2 q2 w L hrow hms d1 d2 d3
  have e : oneB rightE [p] = rightE p := rfl
  rw [e]
  clear hcc e h hd hadb hrow hms d1 d2 d3 L
  generalize rightE p = R at *
  simp only [List.length_singleton]
  go_enter Tryz.func55, Tryz.ntmps55
  go_wp2_with fail; refine cp.mono ?_; rintro e w1 ⟨rfl, b1⟩
  go_wp2_with fail
  go_ret
  exact ⟨rfl, b1⟩
 | p :: q :: r, _, hl, _ =>
  have hn : 2 ≤ (p :: q :: r).length := by simp
  have e : oneB rightE (p :: q :: r) = false := rfl
  rw [e]
  generalize (p :: q :: r).length = n at *
  have g1 : ((n : Int) == 0) = false := by simp; omega
  have g2 : ((n : Int) == 1) = false := by simp; omega
  go_enter Tryz.func55, Tryz.ntmps55
  go_wp2_with fail
  go_ret
  exact ⟨rfl, Below.refl _ _⟩
def SmallF (f : Fr) : Prop := f.ps.length ≤ maxLen ∧ f.es.length ≤ maxLen ∧ (∀ p ∈ f.ps, p.bytes.size ≤ maxLen) ∧ ∀ x ∈ f.es, x.incs.length ≤ maxLen ∧ x.msgs.length ≤ maxLen ∧ ∀ m ∈ x.msgs, m.data.size ≤ maxLen
theorem rightF_chain (f : Fr) : rightF f = ((((((decide (0 ≤ f.snd) && decide (f.snd ≤ 15)) && (decide (0 ≤ f.role) && decide (f.role ≤ 2))) && (decide (-1 ≤ f.vote) && decide (f.vote ≤ 15))) && countB f) && oneB F.rightP f.ps) && oneB rightE f.es) := by
 have e : decide (1 ≤ f.inc) = decide (0 < f.inc) := by rw [decide_eq_decide]; omega
 unfold rightF countB
 rw [e]
 generalize (numsF f).all wordB = a
 generalize decide (0 < f.inc) = b
 generalize oneB F.rightP f.ps = p
 generalize oneB rightE f.es = q
 generalize (decide (0 ≤ f.snd) && decide (f.snd ≤ 15)) = x
 generalize (decide (0 ≤ f.role) && decide (f.role ≤ 2)) = y
 generalize (decide (-1 ≤ f.vote) && decide (f.vote ≤ 15)) = z
 revert a b p q x y z; decide
theorem rightFP_any (f : Fr) (A : Option Addr) (c : Nat) (A' : Option Addr) (c' : Nat) (w : World) (L : Laid w) (hP : F.Pcs w w.heap.size A f.ps) (hE : Ents w w.heap.size A' f.es) (hs : SmallF f) :
  Calls Tryz.prog 19 #[fv f (.slice A f.ps.length c) (.slice A' f.es.length c')] w fun e w' => e = .returned (.bool (rightF f)) ∧ Below w.heap.size w w' := by
 obtain ⟨s1, s2, s3, s4⟩ := hs
 have HR := hid (rightF_chain f)
 have b0 := Joins.below_alloc1 w (.cells (fc f (.slice A f.ps.length c) (.slice A' f.es.length c')) 29)
 have a0 := FrAt.new w f (.slice A f.ps.length c) (.slice A' f.es.length c')
 have p0 := (hP.below b0 (Nat.le_refl _)).more b0.size
 have e0 := (hE.below b0 (Nat.le_refl _)).more b0.size
 have L0 := L.below b0
 have c1 := fun W => within7_any 0 15 f.snd W
 have c2 := fun W => within7_any 0 2 f.role W
 have c3 := fun W => within7_any (-1) 15 f.vote W
 have c4 := fun W => countedF_any f (.slice A f.ps.length c) (.slice A' f.es.length c') W
 have HB0 := hid b0
 have HA0 := hid a0
 have HP0 := hid p0
 have HE0 := hid e0
 have HL0 := hid L0
 obtain ⟨y0, y1, y2, y3, y4, y5, y6, y7, y8, y9, y10, y11, y12, y13, y14⟩ := a0.cells
 clear b0 a0 p0 e0 L0 L hP hE
 generalize rightF f = R at *
 generalize (decide (0 ≤ f.snd) && decide (f.snd ≤ 15)) = b1 at *
 generalize (decide (0 ≤ f.role) && decide (f.role ≤ 2)) = b2 at *
 generalize (decide (-1 ≤ f.vote) && decide (f.vote ≤ 15)) = b3 at *
 generalize countB f = b4 at *
 go_enter Tryz.func19, Tryz.ntmps19
 go_wp2_with fail; refine (c1 _).mono ?_; rintro e w1 ⟨rfl, rfl⟩
 cases b1
 ·go_wp2_with fail
  go_ret
  exact ⟨ret_b (by rw [HR.out]; simp), HB0.out⟩
 go_wp2_with fail; refine (c2 _).mono ?_; rintro e w1 ⟨rfl, rfl⟩
 cases b2
 ·go_wp2_with fail
  go_ret
  exact ⟨ret_b (by rw [HR.out]; simp), HB0.out⟩
 go_wp2_with fail; refine (c3 _).mono ?_; rintro e w1 ⟨rfl, rfl⟩
 cases b3
 ·go_wp2_with fail
  go_ret
  exact ⟨ret_b (by rw [HR.out]; simp), HB0.out⟩
 go_wp2_with fail; refine (c4 _).mono ?_; rintro e w1 ⟨rfl, q1⟩
 have HB1 := hid (HB0.out.trans (q1.mono HB0.out.size))
 have HA1 := hid (HA0.out.on q1)
 have HP1 := hid ((HP0.out.below q1 (Nat.le_refl _)).more q1.size)
 have HE1 := hid ((HE0.out.below q1 (Nat.le_refl _)).more q1.size)
 have HL1 := hid (HL0.out.below q1)
 clear q1 y0 y1 y2 y3 y4 y5 y6 y7 y8 y9 y10 y11 y12 y13 y14 HB0 HA0 HP0 HE0 HL0
 cases b4
 ·go_wp2_with fail
  go_ret
  exact ⟨ret_b (by rw [HR.out]; simp), HB1.out⟩
 obtain ⟨-, -, -, -, -, -, -, -, -, -, -, -, -, y13, y14⟩ := HA1.out.cells
 have c5 := fun W => oneP_any A c f.ps W
 go_wp2_with fail; refine (c5 _ HP1.out s1 s3).mono ?_; rintro e w2 ⟨rfl, q1⟩
 have HB2 := hid (HB1.out.trans (q1.mono HB1.out.size))
 have HA2 := hid (HA1.out.on q1)
 have HE2 := hid ((HE1.out.below q1 (Nat.le_refl _)).more q1.size)
 have HL2 := hid (HL1.out.below q1)
 clear q1 y13 y14 HB1 HA1 HP1 HE1 HL1 c5
 generalize oneB F.rightP f.ps = b5 at *
 cases b5
 ·go_wp2_with fail
  go_ret
  exact ⟨ret_b (by rw [HR.out]; simp), HB2.out⟩
 obtain ⟨-, -, -, -, -, -, -, -, -, -, -, -, -, -, y14⟩ := HA2.out.cells
 have c6 := fun W => oneE_any A' c' f.es W
 go_wp2_with fail; refine (c6 _ HL2.out HE2.out s2 s4).mono ?_; rintro e w3 ⟨rfl, q1⟩
 have HB3 := hid (HB2.out.trans (q1.mono HB2.out.size))
 clear q1 y14
 go_wp2_with fail
 go_ret
 exact ⟨ret_b (by rw [HR.out]; simp), HB3.out⟩
end Go.Proofs.YtmmbnjkdknnidaaGreatDoor

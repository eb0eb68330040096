/-
  What crc.Close and crc.Open do.
-/
import Derived.Lib.Bytes
import Derived.Lib.Strings
import Derived.Deep.RegionWith
import Derived.Deep.QuietTactic
import Derived.BigQuiet
import Derived.Deep.RegionHeld3
import Derived.Deep.DrawnRows
import Derived.Test.YtmmbnjkdknnidaaGreatDoorCrcAddV
import Derived.Test.YtmmbnjkdknnidaaGreatDoorCloneV
set_option maxHeartbeats 400000
namespace Go.Proofs.YtmmbnjkdknnidaaGreatDoor.C
open Lib (hid)
open Go.RowKit
def txt (l : List UInt8) : ByteArray := ⟨l.toArray⟩
theorem txt_data (l : List UInt8) : (txt l).data.toList = l := rfl
theorem txt_size (l : List UInt8) : (txt l).size = l.length := by simp [txt, ByteArray.size]
theorem txt_toList (l : List UInt8) : (txt l).toList = l := ByteArray.toList_mk l
theorem txt_of (s : ByteArray) : s = txt s.data.toList := rfl
theorem two_bytes (w : World) (a b : Int) : (convert 42 9 (.slice (some ⟨w.heap.size, 0, none⟩) 2 2)).run Tryz.prog (w.alloc (.cells #[.int .u8 a, .int .u8 b] 5)) = .ok (.string (txt [UInt8.ofNat a.toNat, UInt8.ofNat b.toNat])) (w.alloc (.cells #[.int .u8 a, .int .u8 b] 5)) := by
 refine run_convert_bytes_arg (P := Tryz.prog) _ 42 5 Tryz.underlying42 Tryz.underlying5 w.heap.size 0 2 2 [a, b] rfl ?_ 9 Tryz.underlying9
 intro i hi
 have : i = 0 ∨ i = 1 := by omega
 rcases this with rfl | rfl <;> simp [go_sem]
theorem tail_any (s : ByteArray) (w : World) (hs : s.size ≤ maxLen) :
  Calls Tryz.prog 76 #[.string s] w fun e w' => e = .returned (.string (txt (Crc16.tail s.data.toList))) ∧ Below w.heap.size w w' := by
 obtain ⟨r, hr⟩ : ∃ r, r = Crc16.sum s.data.toList := ⟨_, rfl⟩
 have hrl := r.isLt
 have hf : Crc16.tail s.data.toList = [UInt8.ofNat ((r.toNat : Int) / 256).toNat, UInt8.ofNat ((r.toNat : Int) % 256).toNat] := by
  rw [hr]
  have e1 : UInt8.ofNat (((Crc16.sum s.data.toList).toNat : Int) / 256).toNat = Crc16.hi (Crc16.sum s.data.toList) := rfl
  have e2 : UInt8.ofNat (((Crc16.sum s.data.toList).toNat : Int) % 256).toNat = Crc16.lo (Crc16.sum s.data.toList) := by
   unfold Crc16.lo
   apply UInt8.toNat_inj.1
   simp
   omega
  rw [e1, e2]; rfl
 have HF := hid hf; clear hf
 have hsum := sum_any s w hs
 rw [← hr] at hsum
 clear hr
 have HS := hid hsum; clear hsum
 have hc := two_bytes
 go_enter Tryz.func76, Tryz.ntmps76
 go_wp2_with (go_at_call 121; refine HS.out.mono ?_; rintro e w' ⟨rfl, rfl⟩)
 go_ret
 rw [HF.out]
 exact ⟨rfl, (Below.refl _ _).alloc (Nat.le_refl _) _⟩
theorem close_any (s : ByteArray) (w : World) (hs : s.size < 2000) :
  Calls Tryz.prog 41 #[.string s] w fun e w' => e = .returned (.string (txt (Crc16.close s.data.toList))) ∧ Below w.heap.size w w' := by
 have hs' : s.size ≤ maxLen := by unfold maxLen; omega
 have hn : ¬ 9223372036854775807 < s.size + (txt (Crc16.tail s.data.toList)).size := by rw [txt_size]; simp [Crc16.tail]; omega
 go_enter Tryz.func41, Tryz.ntmps41
 go_wp2_with (go_at_call 76; refine (tail_any s _ hs').mono ?_; rintro e w' ⟨rfl, hb⟩)
 go_ret
 exact ⟨rfl, hb⟩
theorem clone_any (s : ByteArray) (w : World) (hs : s.size ≤ 281474976710656) :
  Calls Tryz.prog 104 #[.string s] w fun e w' => e = .returned (.string s) ∧ Below w.heap.size w w' := by
 go_enter Tryz.func104, Tryz.ntmps104
 go_wp2_with (go_at_call 138; refine (stringsliteClone _ _ hs).mono ?_; rintro e w' ⟨rfl, hb⟩)
 go_ret
 exact ⟨rfl, hb⟩
theorem run_front (s : ByteArray) (e : Int) (n : Nat) (he : e = (n : Int)) (hn : n ≤ s.size) (w : World) :
  (Instr.slice 9 (.string s) none (some (.int .i64 e)) none).run Tryz.prog w = .ok (.string (txt (s.data.toList.take n))) w := by
 subst he
 rw [run_slice_string_to_if w 9 s .i64 n Tryz.underlying9, if_pos ⟨by omega, by omega⟩, Lib.extract_eq]
 rfl
theorem run_back (s : ByteArray) (e : Int) (n : Nat) (he : e = (n : Int)) (hn : n ≤ s.size) (w : World) :
  (Instr.slice 9 (.string s) (some (.int .i64 e)) none none).run Tryz.prog w = .ok (.string (txt (s.data.toList.drop n))) w := by
 subst he
 rw [run_slice_string_from_if w 9 s .i64 n Tryz.underlying9, if_pos ⟨by omega, by omega⟩, Lib.extract_eq]
 have : (s.data.toList.drop n).take (s.size - n) = s.data.toList.drop n := List.take_of_length_le (by rw [List.length_drop, ← Lib.size_eq]; omega)
 rw [Int.toNat_natCast, this]
 rfl
def isClosed (l : List UInt8) : Bool := decide (2 ≤ l.length) && (Crc16.close (l.take (l.length - 2)) == l)
def opened (l : List UInt8) : List UInt8 := if isClosed l = true then l.take (l.length - 2) else []
theorem closed_tail (l : List UInt8) (h : 2 ≤ l.length) : isClosed l = (Crc16.tail (l.take (l.length - 2)) == l.drop (l.length - 2)) := by
 unfold isClosed
 rw [decide_eq_true h, Bool.true_and, Bool.eq_iff_iff, beq_iff_eq, beq_iff_eq]
 unfold Crc16.close
 constructor
 ·intro e
  have h1 : (l.take (l.length - 2)).length = l.length - 2 := by rw [List.length_take]; omega
  have e2 := congrArg (List.drop (l.length - 2)) e
  rwa [List.drop_append_of_le_length (by omega), List.drop_of_length_le (by omega), List.nil_append] at e2
 ·intro e
  rw [e, List.take_append_drop]
theorem open_short (s : ByteArray) (w : World) (hs : s.size < 2) :
  Calls Tryz.prog 61 #[.string s] w fun e w' => e = .returned (.tuple #[.string (txt []), .bool false]) ∧ Below w.heap.size w w' := by
 have hd : decide ((s.size : Int) - 2 < 0) = true := by simp; omega
 go_enter Tryz.func61, Tryz.ntmps61
 go_wp2
 go_quiet (fail)
 go_wp2
 go_ret2
 exact ⟨rfl, below_drewN (Below.refl _ _) _⟩
theorem open_long (s : ByteArray) (w : World) (hs : s.size < 2000) (h2 : 2 ≤ s.size) :
  Calls Tryz.prog 61 #[.string s] w fun e w' => e = .returned (.tuple #[.string (txt (opened s.data.toList)), .bool (isClosed s.data.toList)]) ∧ Below w.heap.size w w' := by
 have hs' : s.size ≤ maxLen := by unfold maxLen; omega
 have hd : decide ((s.size : Int) - 2 < 0) = false := by simp; omega
 have hi0 : (0 : Int) ≤ (s.size : Int) - 2 := by omega
 have hi1 : (s.size : Int) - 2 ≤ (s.size : Int) := by omega
 have k1 := run_front s ((s.size : Int) - 2) (s.size - 2) (by omega) (by omega)
 have k2 := run_back s ((s.size : Int) - 2) (s.size - 2) (by omega) (by omega)
 have hl : s.data.toList.length = s.size := (Lib.size_eq s).symm
 have hcl := closed_tail s.data.toList (by omega)
 rw [hl] at hcl
 obtain ⟨F, hF⟩ : ∃ F, F = txt (s.data.toList.take (s.size - 2)) := ⟨_, rfl⟩
 obtain ⟨B, hB⟩ : ∃ B, B = txt (s.data.toList.drop (s.size - 2)) := ⟨_, rfl⟩
 rw [← hF] at k1
 rw [← hB] at k2
 have hFd : F.data.toList = s.data.toList.take (s.size - 2) := by rw [hF]; rfl
 have hFs : F.size < 2000 := by rw [hF, txt_size, List.length_take]; omega
 have hFm : F.size ≤ maxLen := by unfold maxLen; omega
 have ht := fun w => tail_any F w hFm
 rw [hFd] at ht
 obtain ⟨T, hT⟩ : ∃ T, T = txt (Crc16.tail (s.data.toList.take (s.size - 2))) := ⟨_, rfl⟩
 rw [← hT] at ht
 have hq : (T.toList == B.toList) = isClosed s.data.toList := by
  rw [hT, hB, txt_toList, txt_toList, hcl]
 have HT := hid ht; clear ht
 have HF := hid hF; clear hF hFd
 clear hT hB hcl
 have HL := hid hl; clear hl
 cases hc : isClosed s.data.toList
 ·rw [hc] at hq
  have hq2 : (!(T.toList == B.toList)) = true := by rw [hq]; rfl
  have HC := hid hc; clear hc
  go_enter Tryz.func61, Tryz.ntmps61
  go_wp2
  go_region_held3 (fun _ => True) (trivial) (first | (go_at_call 76; refine (HT.out _).mono ?_; rintro e w' ⟨rfl, hb⟩))
  go_wp2
  go_ret2
  unfold opened
  rw [HC.out]
  exact ⟨rfl, ((Below.refl _ _).drew).trans hb⟩
 ·rw [hc] at hq
  have hq2 : (!(T.toList == B.toList)) = false := by rw [hq]; rfl
  have HC := hid hc; clear hc
  go_enter Tryz.func61, Tryz.ntmps61
  go_wp2
  go_region_held3 (fun _ => True) (trivial) (first | (go_at_call 76; refine (HT.out _).mono ?_; rintro e w' ⟨rfl, hb⟩))
  go_wp2_with (go_at_call 104; refine (clone_any _ _ (by omega)).mono ?_; rintro e w1 ⟨rfl, hb1⟩)
  go_ret2
  have ho : opened s.data.toList = s.data.toList.take (s.size - 2) := by unfold opened; rw [HC.out, if_pos rfl, HL.out]
  rw [ho, ← HF.out]
  exact ⟨rfl, (((Below.refl _ _).drew).trans hb).trans (hb1.mono (by have := hb.size; simpa using this))⟩
theorem open_any (s : ByteArray) (w : World) (hs : s.size < 2000) :
  Calls Tryz.prog 61 #[.string s] w fun e w' => e = .returned (.tuple #[.string (txt (opened s.data.toList)), .bool (isClosed s.data.toList)]) ∧ Below w.heap.size w w' := by
 by_cases h2 : 2 ≤ s.size
 ·exact open_long s w hs h2
 ·have hc : isClosed s.data.toList = false := by
   unfold isClosed
   rw [decide_eq_false (by rw [← Lib.size_eq]; exact h2)]; rfl
  have ho : opened s.data.toList = [] := by unfold opened; rw [hc]; rfl
  rw [hc, ho]
  exact open_short s w (by omega)
end Go.Proofs.YtmmbnjkdknnidaaGreatDoor.C

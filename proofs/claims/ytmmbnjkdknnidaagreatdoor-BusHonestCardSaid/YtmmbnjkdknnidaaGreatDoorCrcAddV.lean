/-
  What crc.Add and crc.Sum do: the sum's steps, byte by byte.
-/
import Derived.Test.YtmmbnjkdknnidaaGreatDoorRows
import Derived.WalkKit
import Derived.WalkSpells
import Derived.WalkLawsBesides
import Derived.ScopeJumps
import Derived.Lib.Hide
import Derived.Test.YtmmbnjkdknnidaaGreatDoorCrcMathV
import Derived.Test.YtmmbnjkdknnidaaGreatDoorIdentBitsV
set_option maxHeartbeats 1000000
namespace Go.Proofs.YtmmbnjkdknnidaaGreatDoor.C
open Lib (hid)
open Go.RowKit
theorem unlike_eq (X B : Nat) (hX : X < 65536) (hB : B < 9223372036854775808) :
  (bits BinOp.and IntKind.i64 (bits BinOp.xor IntKind.i64 (X : Int) (B : Int)) 32768 != 0) = (decide (32768 ≤ X) != B.testBit 15) := by
 rw [i64_xor_nat X B (by omega) hB]
 have h := i64_bit_any ((X ^^^ B : Nat) : Int) 15 (by omega)
 have e : (((2 ^ 15 : Nat) : Nat) : Int) = 32768 := rfl
 rw [e] at h
 rw [h]
 have e2 : (((X ^^^ B : Nat) : Int) % 65536).toNat = (X ^^^ B) % 2 ^ 16 := by
  show _ = _ % 65536
  omega
 rw [e2, Nat.testBit_mod_two_pow, Nat.testBit_xor]
 have e3 : X.testBit 15 = decide (32768 ≤ X) := by
  rw [Nat.testBit_eq_decide_div_mod_eq]
  apply decide_eq_decide.2
  omega
 rw [e3]; simp
theorem twice_low (X : Nat) : bits BinOp.and IntKind.i64 ((X : Int) * 2) 65535 = ((2 * X % 65536 : Nat) : Int) := by
 rw [i64_low16]; omega
theorem xor_poly (Y : Nat) (hY : Y < 65536) : bits BinOp.xor IntKind.i64 (Y : Int) 4129 = ((Y ^^^ 4129 : Nat) : Int) :=
 i64_xor_nat Y 4129 (by omega) (by omega)
theorem poly_lt (Y : Nat) (hY : Y < 65536) : Y ^^^ 4129 < 65536 := Nat.xor_lt_two_pow (n := 16) hY (by omega)
theorem step_true (X : Nat) (b : Bool) (hX : X < 65536) (h : (decide (32768 ≤ X) != b) = true) :
  Crc16.step (BitVec.ofNat 16 X) b = BitVec.ofNat 16 ((2 * X % 65536) ^^^ 4129) := by
 apply BitVec.eq_of_toNat_eq
 have hm : (BitVec.ofNat 16 X).msb = decide (32768 ≤ X) := by
  rw [BitVec.msb_eq_decide, BitVec.toNat_ofNat, Nat.mod_eq_of_lt (by omega)]
 unfold Crc16.step
 rw [hm, h]
 simp only [if_true, BitVec.toNat_xor, BitVec.toNat_shiftLeft, BitVec.toNat_ofNat]
 rw [Nat.mod_eq_of_lt (poly_lt _ (by omega) : _ < 2 ^ 16), Nat.mod_eq_of_lt (by omega : X < 2 ^ 16), Nat.shiftLeft_eq]
 rw [show X * 2 ^ 1 = 2 * X from by omega]
theorem step_false (X : Nat) (b : Bool) (hX : X < 65536) (h : (decide (32768 ≤ X) != b) = false) :
  Crc16.step (BitVec.ofNat 16 X) b = BitVec.ofNat 16 (2 * X % 65536) := by
 apply BitVec.eq_of_toNat_eq
 have hm : (BitVec.ofNat 16 X).msb = decide (32768 ≤ X) := by
  rw [BitVec.msb_eq_decide, BitVec.toNat_ofNat, Nat.mod_eq_of_lt (by omega)]
 unfold Crc16.step
 rw [hm, h]
 simp [Nat.shiftLeft_eq]
 omega
def Left (X k : Nat) (c : UInt8) (r : BitVec 16) : Prop := Crc16.feed (BitVec.ofNat 16 X) ((Crc16.bits c).drop k) = r
theorem left_step (X k : Nat) (c : UInt8) (r : BitVec 16) (hk : k < 8) (h : Left X k c r) :
  Crc16.feed (Crc16.step (BitVec.ofNat 16 X) (c.toNat.testBit (7 - k))) ((Crc16.bits c).drop (k + 1)) = r := by
 unfold Left at h
 have hl : k < (Crc16.bits c).length := by rw [Crc16.bits_length]; exact hk
 rw [List.drop_eq_getElem_cons hl] at h
 have hg : (Crc16.bits c)[k] = c.toNat.testBit (7 - k) := by
  have := Crc16.bits_get c k hk
  rw [List.getElem?_eq_getElem hl] at this
  simpa using this
 rw [hg] at h
 exact h
theorem bit_at (c k : Nat) (hk : k < 8) : (c * 2 ^ (8 + k)).testBit 15 = c.testBit (7 - k) := by
 rw [Nat.testBit_mul_two_pow, decide_eq_true (by omega : 8 + k ≤ 15), Bool.true_and, show 15 - (8 + k) = 7 - k from by omega]
theorem left_yes (X k B : Nat) (c : UInt8) (r : BitVec 16) (hk : k < 8) (hX : X < 65536) (hB : B = c.toNat * 2 ^ (8 + k)) (h : Left X k c r) (ht : (decide (32768 ≤ X) != B.testBit 15) = true) : Left ((2 * X % 65536) ^^^ 4129) (k + 1) c r := by
 have := left_step X k c r hk h
 rw [hB, bit_at _ _ hk] at ht
 rwa [step_true X _ hX ht] at this
theorem left_no (X k B : Nat) (c : UInt8) (r : BitVec 16) (hk : k < 8) (hX : X < 65536) (hB : B = c.toNat * 2 ^ (8 + k)) (h : Left X k c r) (ht : (decide (32768 ≤ X) != B.testBit 15) = false) : Left (2 * X % 65536) (k + 1) c r := by
 have := left_step X k c r hk h
 rw [hB, bit_at _ _ hk] at ht
 rwa [step_false X _ hX ht] at this
theorem left_end (X : Nat) (c : UInt8) (r : BitVec 16) (hX : X < 65536) (h : Left X 8 c r) : (X : Int) = (r.toNat : Int) := by
 unfold Left at h
 rw [List.drop_eq_nil_of_le (by rw [Crc16.bits_length]; omega)] at h
 rw [← h]
 show (X : Int) = ((BitVec.ofNat 16 X).toNat : Int)
 rw [BitVec.toNat_ofNat, Nat.mod_eq_of_lt (by omega)]
theorem addByte_nat (X0 : Nat) (hX0 : X0 < 65536) (c : UInt8) (r : BitVec 16) (hr : Hid (Left X0 0 c r)) (w : World) :
  Calls Tryz.prog 166 #[.int .i64 (X0 : Int), .int .u8 (c.toNat : Int)] w fun e w' => e = .returned (.int .i64 (r.toNat : Int)) ∧ w = w' := by
 have hc := c.toNat_lt
 generalize hC : c.toNat = C at *
 have HC := hid hC; clear hC
 obtain ⟨B0, hB0⟩ : ∃ B0 : Nat, B0 = C * 2 ^ (8 + 0) := ⟨_, rfl⟩
 have eB : (C : Int) * 256 = (B0 : Int) := by rw [hB0]; omega
 have hB0l : B0 < 65536 := by omega
 have HB0 := hid hB0; clear hB0
 have t0 := unlike_eq X0 B0 hX0 (by omega)
 go_enter Tryz.func166, Tryz.ntmps166
 go_wp2
 refine wp_scope_jumps 0 (fun a' w' => w = w' ∧ ∃ (X B L k : Nat) (u1 u2 u3 u4 u7 u8 u9 u10 u11 u12 u13 u14 u15 u16 u17 u18 u19 u20 u21 u22 u23 u24 u25 u26 u27 u28 : Value), a' = { tmps := #[.int .i64 (X : Int), u1, u2, u3, u4, .int .i64 (B : Int), .int .i64 (L : Int), u7, u8, u9, u10, u11, u12, u13, u14, u15, u16, u17, u18, u19, u20, u21, u22, u23, u24, u25, u26, u27, u28], defers := [] } ∧ X < 65536 ∧ B < 16777216 ∧ 1 ≤ L ∧ L ≤ 7 ∧ L + k = 8 ∧ B = c.toNat * 2 ^ (8 + k) ∧ Left X k c r) (fun a' _ => (intOf (a'.tmps.getD 6 undef)).toNat) rfl ?_ ?_
 ·by_cases ht : (decide (32768 ≤ X0) != B0.testBit 15) = true
  ·have HL := hid (left_yes X0 0 B0 c r (by omega) hX0 (by rw [HC.out]; exact HB0.out) hr.out ht)
   rw [ht] at t0
   have HT := hid ht; clear ht
   have t1 := twice_low X0
   obtain ⟨Y, hY⟩ : ∃ Y, Y = 2 * X0 % 65536 := ⟨_, rfl⟩
   rw [← hY] at HL t1
   have hYl : Y < 65536 := by omega
   clear hY
   have t2 := xor_poly Y hYl
   have hZl := poly_lt Y hYl
   obtain ⟨Z, hZ⟩ : ∃ Z, Z = Y ^^^ 4129 := ⟨_, rfl⟩
   rw [← hZ] at HL t2 hZl
   clear hZ
   go_wp2
   go_step3
   go_wp2
   go_step3
   have eB2 : (B0 : Int) * 2 = ((2 * B0 : Nat) : Int) := by omega
   rw [eB2]
   exact ⟨rfl, rfl, Z, 2 * B0, 7, 1, _, _, _, _, _, _, _, _, _, _, _, _, _, _, _, _, _, _, _, _, _, _, _, _, _, _, rfl, hZl, by omega, by omega, by omega, by omega, by have := HB0.out; rw [HC.out]; omega, HL.out⟩
  ·have ht : (decide (32768 ≤ X0) != B0.testBit 15) = false := by simpa using ht
   have HL := hid (left_no X0 0 B0 c r (by omega) hX0 (by rw [HC.out]; exact HB0.out) hr.out ht)
   rw [ht] at t0
   have HT := hid ht; clear ht
   have t1 := twice_low X0
   obtain ⟨Z, hZ⟩ : ∃ Z, Z = 2 * X0 % 65536 := ⟨_, rfl⟩
   rw [← hZ] at HL t1
   have hZl : Z < 65536 := by omega
   clear hZ
   go_wp2
   go_step3
   go_wp2
   go_step3
   have eB2 : (B0 : Int) * 2 = ((2 * B0 : Nat) : Int) := by omega
   rw [eB2]
   exact ⟨rfl, rfl, Z, 2 * B0, 7, 1, _, _, _, _, _, _, _, _, _, _, _, _, _, _, _, _, _, _, _, _, _, _, _, _, _, _, rfl, hZl, by omega, by omega, by omega, by omega, by have := HB0.out; rw [HC.out]; omega, HL.out⟩
 ·rintro a' w' ⟨rfl, X, B, L, k, u1, u2, u3, u4, u7, u8, u9, u10, u11, u12, u13, u14, u15, u16, u17, u18, u19, u20, u21, u22, u23, u24, u25, u26, u27, u28, rfl, hX, hB, hL1, hL2, hLk, hBe, hLeft⟩
  have HB := hid hBe; clear hBe
  have HLeft := hid hLeft; clear hLeft
  clear eB t0
  have t0 := unlike_eq X B hX (by omega)
  have HK := hid hLk
  by_cases ht : (decide (32768 ≤ X) != B.testBit 15) = true
  ·have HL := hid (left_yes X k B c r (by omega) hX HB.out HLeft.out ht)
   rw [ht] at t0
   have HT := hid ht; clear ht
   have t1 := twice_low X
   obtain ⟨Y, hY⟩ : ∃ Y, Y = 2 * X % 65536 := ⟨_, rfl⟩
   rw [← hY] at HL t1
   have hYl : Y < 65536 := by omega
   clear hY
   have t2 := xor_poly Y hYl
   have hZl := poly_lt Y hYl
   obtain ⟨Z, hZ⟩ : ∃ Z, Z = Y ^^^ 4129 := ⟨_, rfl⟩
   rw [← hZ] at HL t2 hZl
   clear hZ
   clear hLk
   by_cases hl : L = 1
   ·subst hl
    go_wp2
    simp only [Exit.jump]
    go_ret
    have hk : k = 7 := by have := HK.out; omega
    have he := left_end Z c r hZl (by have := HL.out; rwa [hk] at this)
    rw [he]
    exact ⟨rfl, rfl⟩
   ·have hl2 : 1 < L := by omega
    clear hl
    go_wp2
    go_step3
    have eB2 : (B : Int) * 2 = ((2 * B : Nat) : Int) := by omega
    have eL : (L : Int) - 1 = ((L - 1 : Nat) : Int) := by omega
    rw [eB2, eL]
    refine ⟨rfl, ⟨rfl, Z, 2 * B, L - 1, k + 1, _, _, _, _, _, _, _, _, _, _, _, _, _, _, _, _, _, _, _, _, _, _, _, _, _, _, rfl, hZl, ?_, by omega, by omega, by have := HK.out; omega, ?_, HL.out⟩, ?_⟩
    ·have := HB.out
     have hk : k ≤ 7 := by have := HK.out; omega
     have h2 : 2 ^ (8 + k) ≤ 2 ^ 15 := Nat.pow_le_pow_right (by omega) (by omega)
     have h3 : c.toNat * 2 ^ (8 + k) ≤ 255 * 2 ^ 15 := Nat.mul_le_mul (by have := HC.out; omega) h2
     omega
    ·rw [HB.out, show 8 + (k + 1) = (8 + k) + 1 from by omega, Nat.pow_succ]
     rw [Nat.mul_comm 2, Nat.mul_assoc]
    ·simp [intOf]
     omega
  ·have ht : (decide (32768 ≤ X) != B.testBit 15) = false := by simpa using ht
   have HL := hid (left_no X k B c r (by omega) hX HB.out HLeft.out ht)
   rw [ht] at t0
   have HT := hid ht; clear ht
   have t1 := twice_low X
   obtain ⟨Z, hZ⟩ : ∃ Z, Z = 2 * X % 65536 := ⟨_, rfl⟩
   rw [← hZ] at HL t1
   have hZl : Z < 65536 := by omega
   clear hZ
   clear hLk
   by_cases hl : L = 1
   ·subst hl
    go_wp2
    simp only [Exit.jump]
    go_ret
    have hk : k = 7 := by have := HK.out; omega
    have he := left_end Z c r hZl (by have := HL.out; rwa [hk] at this)
    rw [he]
    exact ⟨rfl, rfl⟩
   ·have hl2 : 1 < L := by omega
    clear hl
    go_wp2
    go_step3
    have eB2 : (B : Int) * 2 = ((2 * B : Nat) : Int) := by omega
    have eL : (L : Int) - 1 = ((L - 1 : Nat) : Int) := by omega
    rw [eB2, eL]
    refine ⟨rfl, ⟨rfl, Z, 2 * B, L - 1, k + 1, _, _, _, _, _, _, _, _, _, _, _, _, _, _, _, _, _, _, _, _, _, _, _, _, _, _, rfl, hZl, ?_, by omega, by omega, by have := HK.out; omega, ?_, HL.out⟩, ?_⟩
    ·have := HB.out
     have hk : k ≤ 7 := by have := HK.out; omega
     have h2 : 2 ^ (8 + k) ≤ 2 ^ 15 := Nat.pow_le_pow_right (by omega) (by omega)
     have h3 : c.toNat * 2 ^ (8 + k) ≤ 255 * 2 ^ 15 := Nat.mul_le_mul (by have := HC.out; omega) h2
     omega
    ·rw [HB.out, show 8 + (k + 1) = (8 + k) + 1 from by omega, Nat.pow_succ]
     rw [Nat.mul_comm 2, Nat.mul_assoc]
    ·simp [intOf]
     omega
theorem addByte_any (x : BitVec 16) (c : UInt8) (w : World) :
  Calls Tryz.prog 166 #[.int .i64 (x.toNat : Int), .int .u8 (c.toNat : Int)] w fun e w' => e = .returned (.int .i64 ((Crc16.addB x c).toNat : Int)) ∧ w = w' := by
 refine addByte_nat x.toNat x.isLt c _ ?_ w
 show Left _ _ _ _
 unfold Left Crc16.addB
 rw [List.drop_zero, BitVec.ofNat_toNat, BitVec.setWidth_eq]
theorem new_any (w : World) : Calls Tryz.prog 147 #[] w fun e w' => e = .returned (.int .i64 65535) ∧ w = w' := by
 go_enter Tryz.func147, Tryz.ntmps147
 go_wp2
 go_ret
 exact ⟨rfl, rfl⟩
def reg (r : Int) : BitVec 16 := BitVec.ofInt 16 r
theorem reg_toNat (r : Int) : ((reg r).toNat : Int) = r % 65536 := by
 unfold reg
 rw [BitVec.toNat_ofInt]
 omega
theorem add_take (x : BitVec 16) (l : List UInt8) (k : Nat) (h : k < l.length) : Crc16.add x (l.take (k + 1)) = Crc16.addB (Crc16.add x (l.take k)) l[k] := by
 rw [List.take_succ_eq_append_getElem h, Crc16.add_append]; rfl
theorem add_any (r : Int) (s : ByteArray) (w : World) (hs : s.size ≤ maxLen) :
  Calls Tryz.prog 146 #[.int .i64 r, .string s] w fun e w' => e = .returned (.int .i64 ((Crc16.add (reg r) s.data.toList).toNat : Int)) ∧ w = w' := by
 unfold maxLen at hs
 have t0 := i64_low16 r
 rw [← reg_toNat] at t0
 obtain ⟨x, hx⟩ : ∃ x, x = reg r := ⟨_, rfl⟩
 rw [← hx] at t0
 rw [← hx]
 clear hx
 go_enter Tryz.func146, Tryz.ntmps146
 go_wp2
 go_loop [0, 10] (fun r i => ∃ (k : Nat) (y : BitVec 16), k ≤ s.size ∧ i = .int .i64 k ∧ r = .int .i64 (y.toNat : Int) ∧ y = Crc16.add x (s.data.toList.take k)) (fun _ i => s.size - (intOf i).toNat)
 case atStart => exact ⟨0, x, Nat.zero_le _, rfl, rfl, rfl⟩
 case round =>
  obtain ⟨k, y, hk, rfl, rfl, hy⟩ := hrel
  have HY := hid hy; clear hy
  by_cases hlt : k < s.size
  ·have HN := hid (add_take x s.data.toList k (by simpa using hlt))
   go_wp2_with (go_at_call 166; refine (addByte_any _ _ _).mono ?_; rintro e w' ⟨rfl, rfl⟩)
   go_round
   case rel =>
    refine ⟨k + 1, _, by omega, by go_num, rfl, ?_⟩
    rw [HN.out, ← HY.out]
    rfl
   case measure => simp [intOf]; omega
  ·go_wp2
   go_ret
   have hk' : k = s.data.toList.length := by simp; omega
   rw [HY.out, hk', List.take_length]
   exact ⟨rfl, rfl⟩
theorem sum_any (s : ByteArray) (w : World) (hs : s.size ≤ maxLen) :
  Calls Tryz.prog 121 #[.string s] w fun e w' => e = .returned (.int .i64 ((Crc16.sum s.data.toList).toNat : Int)) ∧ w = w' := by
 go_enter Tryz.func121, Tryz.ntmps121
 go_wp2_with (first | (go_at_call 147; refine (new_any _).mono ?_; rintro e w' ⟨rfl, rfl⟩) | (go_at_call 146; refine (add_any _ _ _ hs).mono ?_; rintro e w' ⟨rfl, rfl⟩))
 go_ret
 exact ⟨rfl, rfl⟩
end Go.Proofs.YtmmbnjkdknnidaaGreatDoor.C

/-
  What the document's own answers of layer 1 do: they are the same sums, closed texts and bursts.
-/
import Derived.OpenShut
import Derived.Test.YtlhopgadhkjflaaGreatDoorCrcBurstQ
namespace Go.Proofs.YtlhopgadhkjflaaGreatDoor.C
open Go.RowKit
theorem close_length (l : List UInt8) : (Crc16.close l).length = l.length + 2 := by
 unfold Crc16.close Crc16.tail
 rw [List.length_append]; rfl
theorem isClosed_close (l : List UInt8) : isClosed (Crc16.close l) = true := by
 unfold isClosed
 have e : (Crc16.close l).take ((Crc16.close l).length - 2) = l := by
  rw [close_length, show l.length + 2 - 2 = l.length from by omega]
  unfold Crc16.close
  rw [List.take_append_of_le_length (by omega), List.take_length]
 rw [e, decide_eq_true (by rw [close_length]; omega)]
 simp
theorem opened_close (l : List UInt8) : opened (Crc16.close l) = l := by
 unfold opened
 rw [isClosed_close, if_pos rfl, close_length, show l.length + 2 - 2 = l.length from by omega]
 unfold Crc16.close
 rw [List.take_append_of_le_length (by omega), List.take_length]
theorem sum_of_closed (l : List UInt8) (h : isClosed l = true) : Crc16.sum l = 0#16 := by
 unfold isClosed at h
 rw [Bool.and_eq_true, decide_eq_true_eq, beq_iff_eq] at h
 exact (Crc16.close_of_sum l h.1).1 h.2
theorem closed_burst (l : List UInt8) (K M : Nat) : isClosed (Crc16.burst (Crc16.close l) K M) = (Crc16.burst (Crc16.close l) K M == Crc16.close l) := by
 rw [Bool.eq_iff_iff, beq_iff_eq]
 constructor
 ·intro h
  have h1 := sum_of_closed _ h
  exact Crc16.burst_told (Crc16.close l) K M 65535#16 (h1.trans (Crc16.sum_close l).symm)
 ·intro h
  rw [h]
  exact isClosed_close l
end Go.Proofs.YtlhopgadhkjflaaGreatDoor.C
namespace Go.Proofs.YtlhopgadhkjflaaGreatDoor.C
open Go.RowKit
theorem tmod_value (n : Int) : (n.tmod 65536 < 0 → n.tmod 65536 + 65536 = n % 65536) ∧ (0 ≤ n.tmod 65536 → n.tmod 65536 = n % 65536) ∧ -65536 < n.tmod 65536 := by
 rcases Int.lt_or_le n 0 with h | h
 ·have e : n.tmod 65536 = -((-n) % 65536) := by
   have h1 : (- -n).tmod 65536 = -((-n).tmod 65536) := Int.neg_tmod ..
   rw [Int.neg_neg] at h1
   rw [h1, Int.tmod_eq_emod_of_nonneg (by omega)]
  rw [e]
  omega
 ·rw [Int.tmod_eq_emod_of_nonneg h]
  omega
theorem refMod_any (n : Int) (w : World) :
  Calls Tryz.prog 118 #[.int .i64 n] w fun e w' => e = .returned (.int .i64 (n % 65536)) ∧ w = w' := by
 obtain ⟨h1, h2, h3⟩ := tmod_value n
 obtain ⟨t, ht⟩ : ∃ t, n.tmod 65536 = t := ⟨_, rfl⟩
 rw [ht] at h1 h2 h3
 by_cases h : t < 0
 ·have HV := Lib.hid (h1 h)
  clear h1 h2
  go_enter Tryz.func118, Tryz.ntmps118
  go_wp2
  go_ret
  rw [← HV.out]
  exact ⟨rfl, rfl⟩
 ·have h0 : 0 ≤ t := by omega
  have HV := Lib.hid (h2 h0)
  clear h1 h2 h
  go_enter Tryz.func118, Tryz.ntmps118
  go_wp2
  go_ret
  rw [← HV.out]
  exact ⟨rfl, rfl⟩
theorem refNew_any (w : World) : Calls Tryz.prog 103 #[] w fun e w' => e = .returned (.int .i64 65535) ∧ w = w' := by
 go_enter Tryz.func103, Tryz.ntmps103
 go_wp2
 go_ret
 exact ⟨rfl, rfl⟩
theorem low_bit (c j : Nat) (hc : c < 65536) : bits BinOp.and IntKind.i64 ((c : Int) / 2 ^ j) 1 = (((if c.testBit j then 1 else 0 : Nat)) : Int) := by
 have e : (c : Int) / 2 ^ j = ((c / 2 ^ j : Nat) : Int) := by simp
 have hd : c / 2 ^ j < 65536 := Nat.lt_of_le_of_lt (Nat.div_le_self _ _) hc
 have h := i64_and_nat (c / 2 ^ j) 1 (by omega) (by omega)
 have e1 : ((1 : Nat) : Int) = 1 := rfl
 rw [e1] at h
 rw [e, h, nat_mask1, Nat.testBit_eq_decide_div_mod_eq]
 rcases Nat.mod_two_eq_zero_or_one (c / 2 ^ j) with h2 | h2 <;> rw [h2] <;> simp
theorem ref_unlike (c j X : Nat) (hX : X < 65536) : ((((if c.testBit j then 1 else 0 : Nat)) : Int) != (X : Int) / 32768) = (decide (32768 ≤ X) != c.testBit j) := by
 have h1 : (X : Int) / 32768 = if 32768 ≤ X then 1 else 0 := by split <;> omega
 rw [h1]
 by_cases h : 32768 ≤ X <;> cases c.testBit j <;> simp [h]
theorem ref_twice (X : Nat) : 2 * (X : Int) % 65536 = ((2 * X % 65536 : Nat) : Int) := by omega
set_option maxHeartbeats 1000000 in
theorem refAdd_any (r : Int) (s : ByteArray) (w : World) (hs : s.size ≤ maxLen) :
  Calls Tryz.prog 102 #[.int .i64 r, .string s] w fun e w' => e = .returned (.int .i64 ((Crc16.add (reg r) s.data.toList).toNat : Int)) ∧ w = w' := by
 unfold maxLen at hs
 have hm := refMod_any r
 rw [← reg_toNat] at hm
 obtain ⟨x, hx⟩ : ∃ x, x = reg r := ⟨_, rfl⟩
 rw [← hx] at hm
 rw [← hx]
 clear hx
 have HM := Lib.hid hm; clear hm
 go_enter Tryz.func102, Tryz.ntmps102
 go_wp2_with fail
 refine (HM.out _).mono ?_
 rintro e w1 ⟨rfl, rfl⟩
 go_wp2_with fail
 go_loop [5, 6] (fun r i => ∃ (k : Nat) (y : BitVec 16), k ≤ s.size ∧ i = .int .i64 k ∧ r = .int .i64 (y.toNat : Int) ∧ y = Crc16.add x (s.data.toList.take k)) (fun _ i => s.size - (intOf i).toNat)
 case atStart => exact ⟨0, x, Nat.zero_le _, rfl, rfl, rfl⟩
 case round =>
  obtain ⟨k, y, hk, rfl, rfl, hy⟩ := hrel
  have HY := Lib.hid hy; clear hy
  by_cases hlt : k < s.size
  ·have HN := Lib.hid (add_take x s.data.toList k (by simpa using hlt))
   go_wp2_with fail
   obtain ⟨R, hR⟩ : ∃ R, R = Crc16.addB y s[k] := ⟨_, rfl⟩
   have hl0 : Left y.toNat 0 s[k] R := by
    unfold Left
    rw [hR, List.drop_zero, BitVec.ofNat_toNat, BitVec.setWidth_eq]; rfl
   have HL0 := Lib.hid hl0; clear hl0
   have HR := Lib.hid hR; clear hR
   have hc := (s[k]).toNat_lt
   have hy16 := y.isLt
   go_loop [5, 7] (fun v5 v7 => ∃ (X m : Nat) (z : Int), m ≤ 8 ∧ X < 65536 ∧ v5 = .int .i64 X ∧ v7 = .int .i64 z ∧ z = (m : Int) - 1 ∧ Left X (8 - m) s[k] R) (fun _ v7 => (intOf v7 + 1).toNat)
   case atStart => exact ⟨y.toNat, 8, 7, by omega, hy16, rfl, rfl, by omega, HL0.out⟩
   case round =>
    obtain ⟨X, m, z, hm8, hX, rfl, rfl, hz, hLeft⟩ := hrel
    by_cases hm0 : m = 0
    ·have hz0 : z < 0 := by omega
     subst hm0
     have HE := Lib.hid (left_end X s[k] R hX hLeft)
     clear hLeft hz
     go_wp2_with fail
     go_round
     case rel =>
      refine ⟨k + 1, R, by omega, by go_num, congrArg (Value.int IntKind.i64) HE.out, ?_⟩
      rw [HN.out, ← HY.out]
      exact HR.out
     case measure => simp [intOf]; omega
    ·obtain ⟨j, rfl⟩ : ∃ j, m = j + 1 := ⟨m - 1, by omega⟩
     have hz2 : z = (j : Int) := by omega
     subst hz2
     have hj8 : j < 8 := by omega
     clear hm0 hz hm8
     have e1 : 8 - (j + 1) < 8 := by omega
     have e2 : 7 - (8 - (j + 1)) = j := by omega
     have e3 : 8 - (j + 1) + 1 = 8 - j := by omega
     have hls := left_step X (8 - (j + 1)) s[k] R e1 hLeft
     rw [e2, e3] at hls
     clear hLeft e1 e2 e3
     have k1 := low_bit (s[k]).toNat j (by omega)
     have k2 := ref_unlike (s[k]).toNat j X hX
     have k3 := ref_twice X
     by_cases ht : (decide (32768 ≤ X) != (s[k]).toNat.testBit j) = true
     ·rw [step_true X _ hX ht] at hls
      rw [ht] at k2
      have HT := Lib.hid ht; clear ht
      obtain ⟨Y, hY⟩ : ∃ Y, Y = 2 * X % 65536 := ⟨_, rfl⟩
      rw [← hY] at hls k3
      have hYl : Y < 65536 := by omega
      clear hY
      have k4 := xor_poly Y hYl
      have hZl := poly_lt Y hYl
      obtain ⟨Z, hZ⟩ : ∃ Z, Z = Y ^^^ 4129 := ⟨_, rfl⟩
      rw [← hZ] at hls k4 hZl
      clear hZ
      have HLS := Lib.hid hls; clear hls
      generalize hbit : (((if (s[k]).toNat.testBit j then 1 else 0 : Nat)) : Int) = bit at k1 k2
      have HBIT := Lib.hid hbit; clear hbit
      go_wp2_with fail
      go_round
      case rel => exact ⟨Z, j, _, by omega, hZl, rfl, rfl, rfl, HLS.out⟩
      case measure => simp [intOf]
     ·have ht : (decide (32768 ≤ X) != (s[k]).toNat.testBit j) = false := by simpa using ht
      rw [step_false X _ hX ht] at hls
      rw [ht] at k2
      have HT := Lib.hid ht; clear ht
      obtain ⟨Z, hZ⟩ : ∃ Z, Z = 2 * X % 65536 := ⟨_, rfl⟩
      rw [← hZ] at hls k3
      have K3 := Lib.hid k3
      have hZl : Z < 65536 := by omega
      clear hZ
      have HLS := Lib.hid hls; clear hls
      generalize hbit : (((if (s[k]).toNat.testBit j then 1 else 0 : Nat)) : Int) = bit at k1 k2
      have HBIT := Lib.hid hbit; clear hbit
      go_wp2_with fail
      go_round
      case rel => exact ⟨Z, j, _, by omega, hZl, congrArg (Value.int IntKind.i64) K3.out, rfl, rfl, HLS.out⟩
      case measure => simp [intOf]
  ·go_wp2
   go_ret
   have hk' : k = s.data.toList.length := by simp; omega
   rw [HY.out, hk', List.take_length]
   exact ⟨rfl, rfl⟩
end Go.Proofs.YtlhopgadhkjflaaGreatDoor.C

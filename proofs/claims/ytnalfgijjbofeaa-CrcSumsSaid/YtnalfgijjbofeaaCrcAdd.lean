/-
  What crc.Add and crc.Sum do: the sum's steps, byte by byte.
-/
import Derived.Test.YtnalfgijjbofeaaCrcByte
namespace Go.Proofs.Ytnalfgijjbofeaa
open Go.RowKit

/-- A register as any number comes in. -/
def reg (r : Int) : BitVec 16 := BitVec.ofInt 16 r
theorem reg_toNat (r : Int) : ((reg r).toNat : Int) = r % 65536 := by
  unfold reg
  rw [BitVec.toNat_ofInt]
  omega
theorem reg_nat (x : BitVec 16) : reg (x.toNat : Int) = x := by
  unfold reg
  apply BitVec.eq_of_toNat_eq
  rw [BitVec.toNat_ofInt]
  have := x.isLt
  omega

theorem add_take (x : BitVec 16) (l : List UInt8) (k : Nat) (h : k < l.length) : Crc16.add x (l.take (k + 1)) = Crc16.addB (Crc16.add x (l.take k)) l[k] := by
  rw [List.take_succ_eq_append_getElem h, Crc16.add_append]; rfl

set_option maxHeartbeats 1000000 in
theorem add_any (r : Int) (s : ByteArray) (w : World) (hs : s.size ≤ maxLen) :
    Calls Try.prog 11 #[.int .i64 r, .string s] w fun e w' => e = .returned (.int .i64 ((Crc16.add (reg r) s.data.toList).toNat : Int)) ∧ w = w' := by
  unfold maxLen at hs
  have t0 := i64_low16 r
  rw [← reg_toNat] at t0
  obtain ⟨x, hx⟩ : ∃ x, x = reg r := ⟨_, rfl⟩
  rw [← hx] at t0
  rw [← hx]
  clear hx
  go_enter Try.func11, Try.ntmps11
  go_wp2
  go_loop [0, 10] (fun r i => ∃ (k : Nat) (y : BitVec 16), k ≤ s.size ∧ i = .int .i64 k ∧ r = .int .i64 (y.toNat : Int) ∧ y = Crc16.add x (s.data.toList.take k)) (fun _ i => s.size - (intOf i).toNat)
  case atStart => exact ⟨0, x, Nat.zero_le _, rfl, rfl, rfl⟩
  case round =>
    obtain ⟨k, y, hk, rfl, rfl, hy⟩ := hrel
    have HY := Lib.hid hy; clear hy
    by_cases hlt : k < s.size
    · have HN := Lib.hid (add_take x s.data.toList k (by simpa using hlt))
      go_wp2_with (go_at_call 23; refine (addByte_any _ _ _).mono ?_; rintro e w' ⟨rfl, rfl⟩)
      go_round
      case rel =>
        refine ⟨k + 1, _, by omega, by go_num, rfl, ?_⟩
        rw [HN.out, ← HY.out]
        rfl
      case measure => simp [intOf]; omega
    · go_wp2
      go_ret
      have hk' : k = s.data.toList.length := by simp; omega
      rw [HY.out, hk', List.take_length]
      exact ⟨rfl, rfl⟩

theorem sum_any (s : ByteArray) (w : World) (hs : s.size ≤ maxLen) :
    Calls Try.prog 13 #[.string s] w fun e w' => e = .returned (.int .i64 ((Crc16.sum s.data.toList).toNat : Int)) ∧ w = w' := by
  go_enter Try.func13, Try.ntmps13
  go_wp2_with (first | (go_at_call 22; refine (new_any _).mono ?_; rintro e w' ⟨rfl, rfl⟩) | (go_at_call 11; refine (add_any _ _ _ hs).mono ?_; rintro e w' ⟨rfl, rfl⟩))
  go_ret
  exact ⟨rfl, rfl⟩

end Go.Proofs.Ytnalfgijjbofeaa

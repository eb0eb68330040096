/-
  What the program's small functions of vectors do: bit, Has, With, Without, All.
-/
import Derived.Test.YtmklabdfalkldaaVecBits
import Derived.Test.YtmklabdfalkldaaProg
import Derived.WalkKit
import Derived.Below
import Derived.Lib.Hide
namespace Go.Proofs.Ytmklabdfalkldaa
open Go.RowKit

theorem ret_i {a b : Int} (h : a = b) : Ending.returned (.int .i64 a) = .returned (.int .i64 b) := by rw [h]
theorem ret_b {a b : Bool} (h : a = b) : Ending.returned (.bool a) = .returned (.bool b) := by rw [h]

theorem w64 (n : Int) (h1 : -9223372036854775808 ≤ n) (h2 : n ≤ 9223372036854775807) : wrap64 n = n := by
  unfold wrap64
  omega
theorem pow_cast (k : Nat) : (2 : Int) ^ k = ((2 ^ k : Nat) : Int) := by rw [Int.natCast_pow]; rfl
theorem w64_pow (k : Nat) (hk : k ≤ 16) : wrap64 ((2 : Int) ^ k) = ((2 ^ k : Nat) : Int) := by
  rw [pow_cast]
  have h : 2 ^ k ≤ 2 ^ 16 := Nat.pow_le_pow_right (by omega) hk
  generalize 2 ^ k = p at *
  exact w64 _ (by omega) (by omega)
theorem w64_pow_less (k : Nat) (hk : k ≤ 16) : wrap64 (wrap64 ((2 : Int) ^ k) - 1) = ((2 ^ k - 1 : Nat) : Int) := by
  rw [w64_pow k hk]
  have h : 2 ^ k ≤ 2 ^ 16 := Nat.pow_le_pow_right (by omega) hk
  have h0 : 0 < 2 ^ k := Nat.pow_pos (by omega)
  generalize 2 ^ k = p at *
  rw [w64 _ (by omega) (by omega)]
  omega

theorem bit_any (n : Int) (w : World) : Calls Try.prog 44 #[.int .i64 n] w fun e w' => e = .returned (.int .i64 (bitI n)) ∧ w = w' := by
  by_cases h : 0 ≤ n ∧ n < 16
  · obtain ⟨h0, h1⟩ := h
    have hv : wrap64 ((2 : Int) ^ n.toNat) = bitI n := by
      rw [w64_pow _ (by omega)]
      unfold bitI
      rw [if_pos ((nodeB_iff n).2 ⟨h0, by omega⟩)]
    have HV := Lib.hid hv; clear hv
    go_enter Try.func44, Try.ntmps44
    go_wp2
    go_ret
    exact ⟨ret_i HV.out, rfl⟩
  · have hv : (0 : Int) = bitI n := by
      unfold bitI
      rw [if_neg]
      rw [nodeB_iff]; omega
    have HV := Lib.hid hv; clear hv
    rcases Int.lt_or_le n 0 with h0 | h0
    · go_enter Try.func44, Try.ntmps44
      go_wp2
      go_ret
      exact ⟨ret_i HV.out, rfl⟩
    · have h1 : 16 ≤ n := by omega
      go_enter Try.func44, Try.ntmps44
      go_wp2
      go_ret
      exact ⟨ret_i HV.out, rfl⟩

theorem allI_low (n : Int) (h : n ≤ 0) : allI n = 0 := by
  unfold allI allN
  have : (min (max n 0) 16).toNat = 0 := by omega
  rw [this]; rfl
theorem allI_high (n : Int) (h : 16 ≤ n) : allI n = 65535 := by
  unfold allI allN
  have : (min (max n 0) 16).toNat = 16 := by omega
  rw [this]; rfl
theorem allI_mid (n : Int) (h0 : 0 ≤ n) (h : n ≤ 16) : allI n = ((2 ^ n.toNat - 1 : Nat) : Int) := by
  unfold allI allN
  have : (min (max n 0) 16).toNat = n.toNat := by omega
  rw [this]

theorem has_any (v n : Int) (w : World) : Calls Try.prog 48 #[.int .i64 v, .int .i64 n] w fun e w' => e = .returned (.bool (hasB v n)) ∧ w = w' := by
  have HV := Lib.hid (has_bits v n)
  go_enter Try.func48, Try.ntmps48
  go_wp2_with fail; refine (bit_any n _).mono ?_; rintro e w1 ⟨rfl, rfl⟩
  go_wp2_with fail
  go_ret
  exact ⟨ret_b HV.out, rfl⟩
theorem with_any (v n : Int) (w : World) : Calls Try.prog 33 #[.int .i64 v, .int .i64 n] w fun e w' => e = .returned (.int .i64 (withI v n)) ∧ w = w' := by
  have HV := Lib.hid (with_bits v n)
  go_enter Try.func33, Try.ntmps33
  go_wp2_with fail; refine (bit_any n _).mono ?_; rintro e w1 ⟨rfl, rfl⟩
  go_wp2_with fail
  go_ret
  exact ⟨ret_i HV.out, rfl⟩
end Go.Proofs.Ytmklabdfalkldaa

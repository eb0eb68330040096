/-
  A whole number below 2^53, made a floating one and cut again, is as it was.
-/
import Derived.Laws.FloatArith
namespace Go.Proofs.Ytmklabdfalkldaa
open Ieee

theorem cut_zero_drop (n : Nat) : Toward.even.cut false n 0 = n := by
  unfold Toward.cut
  simp [Nat.mod_one]

theorem nearest_small (m : Nat) (h0 : m ≠ 0) (h : m < 2 ^ 53) : double.nearest false m 0 = (m.log2 + 1022) * 2 ^ 52 + m * 2 ^ (52 - m.log2) ∧ m.log2 ≤ 52 ∧ 2 ^ 52 ≤ m * 2 ^ (52 - m.log2) ∧ m * 2 ^ (52 - m.log2) < 2 ^ 53 := by
  have hL : m.log2 ≤ 52 := by have := (Nat.log2_lt h0).2 h; omega
  have h1 := Nat.log2_self_le h0
  have h2 := Nat.lt_log2_self (n := m)
  generalize hl : m.log2 = L at *
  have e52 : 2 ^ L * 2 ^ (52 - L) = 2 ^ 52 := by rw [← Nat.pow_add]; congr 1; omega
  have e53 : 2 ^ (L + 1) * 2 ^ (52 - L) = 2 ^ 53 := by rw [← Nat.pow_add]; congr 1; omega
  have k1 : 2 ^ 52 ≤ m * 2 ^ (52 - L) := by rw [← e52]; exact Nat.mul_le_mul_right _ h1
  have k2 : m * 2 ^ (52 - L) < 2 ^ 53 := by rw [← e53]; exact Nat.mul_lt_mul_of_pos_right h2 (Nat.two_pow_pos _)
  refine ⟨?_, hL, k1, k2⟩
  unfold Format.nearest
  rw [if_neg h0, hl]
  have ep : double.leastPlace = -1074 := by decide
  have ef : (double.fractionBits : Int) = 52 := rfl
  have el : max ((0 : Int) + (L : Int) - (double.fractionBits : Int)) double.leastPlace = (L : Int) - 52 := by rw [ep, ef]; omega
  rw [el, ep]
  have e1 : ((0 : Int) - ((L : Int) - 52)).toNat = 52 - L := by omega
  have e2 : ((L : Int) - 52 - 0).toNat = 0 := by omega
  have e3 : ((L : Int) - 52 - -1074).toNat = L + 1022 := by omega
  simp only [e1, e2, e3, cut_zero_drop, Nat.shiftLeft_eq]
  have eb : double.binade = 2 ^ 52 := rfl
  have ei : double.infRung = 2047 * 2 ^ 52 := by decide +kernel
  rw [eb, ei]
  unfold Format.word
  rw [if_neg (by decide)]
  apply Nat.min_eq_left
  generalize m * 2 ^ (52 - L) = K at *
  omega

theorem trip_small (m : Nat) (h : m < 2 ^ 53) : (double.read (double.nearest false m 0)).toInt .zero = some (m : Int) := by
  rcases Nat.eq_zero_or_pos m with rfl | hm
  · decide +kernel
  obtain ⟨e, hL, k1, k2⟩ := nearest_small m (by omega) h
  rw [e]
  have hp : m * 2 ^ (52 - m.log2) / 2 ^ (52 - m.log2) = m := Nat.mul_div_cancel _ (Nat.two_pow_pos _)
  have hlg : (m * 2 ^ (52 - m.log2)).log2 = 52 := by
    have a := (Nat.log2_lt (n := m * 2 ^ (52 - m.log2)) (by omega)).2 k2
    have b := (Nat.le_log2 (n := m * 2 ^ (52 - m.log2)) (by omega)).2 k1
    omega
  generalize m.log2 = L at *
  generalize hK : m * 2 ^ (52 - L) = K at *
  unfold Format.read
  have eb : double.binade = 2 ^ 52 := rfl
  have ei : double.infRung = 2047 * 2 ^ 52 := by decide +kernel
  have es : double.signWeight = 2 ^ 63 := rfl
  have ep : double.leastPlace = -1074 := by decide
  simp only [eb, ei, es, ep]
  have r1 : ((L + 1022) * 2 ^ 52 + K) / 2 ^ 63 % 2 = 0 := by omega
  have r2 : ((L + 1022) * 2 ^ 52 + K) % 2 ^ 63 = (L + 1022) * 2 ^ 52 + K := by omega
  have r3 : 2 ^ 52 + ((L + 1022) * 2 ^ 52 + K) % 2 ^ 52 = K := by omega
  have r4 : ((L + 1022) * 2 ^ 52 + K) / 2 ^ 52 - 1 = L + 1022 := by omega
  rw [r1, r2, if_neg (by omega), if_pos (by omega), r3, r4]
  have e5 : ((-1074 : Int) + ((L + 1022 : Nat) : Int)) = (L : Int) - 52 := by omega
  rw [e5]
  unfold Datum.toInt Datum.integral
  have e6 : ((L : Int) - 52).toNat = 0 := by omega
  have e7 : (-((L : Int) - 52)).toNat = 52 - L := by omega
  simp only [e6, e7, Nat.shiftLeft_zero]
  unfold Toward.cut
  have e8 : min (52 - L) (K.log2 + 2) = 52 - L := by omega
  simp only [e8, Nat.shiftLeft_eq, Nat.one_mul, hp, Bool.toNat_false, Nat.add_zero]
  simp [signed]

theorem float_trip (n : Int) (h0 : 0 ≤ n) (h1 : n < 9007199254740992) : floatToIntVal .f64 (floatOfInt .f64 n) .i64 = some n := by
  obtain ⟨m, rfl⟩ := Int.eq_ofNat_of_zero_le h0
  have hm : m < 2 ^ 53 := by omega
  unfold floatToIntVal floatOfInt FloatKind.decode FloatKind.nearest FloatKind.encode FloatKind.format
  have e : decide ((m : Int) < 0) = false := by simp
  rw [show (Format.write double (Datum.number (decide ((m : Int) < 0)) (m : Int).natAbs 0)) = double.nearest false m 0 by rw [e]; rfl]
  simp only [trip_small m hm]
  rw [if_pos]
  refine ⟨?_, ?_⟩
  · show (-9223372036854775808 : Int) ≤ _
    omega
  · show _ ≤ (9223372036854775807 : Int)
    omega
end Go.Proofs.Ytmklabdfalkldaa

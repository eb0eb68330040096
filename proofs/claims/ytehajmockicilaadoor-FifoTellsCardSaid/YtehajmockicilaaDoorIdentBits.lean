/-
  Plain facts on whole numbers' bits that layer 2 asks for, in the walk's own spelling.
-/
import Derived.Test.YtehajmockicilaaDoorBitLaws
namespace Go.Proofs.YtehajmockicilaaDoor

theorem wrap_i64_in (n : Int) (h1 : -9223372036854775808 ≤ n) (h2 : n ≤ 9223372036854775807) : IntKind.i64.wrap n = n := by
  simp only [IntKind.wrap, IntKind.bits, IntKind.signed]
  simp
  omega

theorem i64_or_nat (a b : Nat) (ha : a < 9223372036854775808) (hb : b < 9223372036854775808) : bits .or .i64 (a : Int) (b : Int) = ((a ||| b : Nat) : Int) := by
  have hx : a ||| b < 2 ^ 63 := Nat.or_lt_two_pow (by simpa using ha) (by simpa using hb)
  unfold bits
  simp only [ofInt_i64_nat]
  show IntKind.i64.wrap (((BitVec.ofNat 64 a ||| BitVec.ofNat 64 b).toNat : Nat) : Int) = _
  rw [BitVec.toNat_or, BitVec.toNat_ofNat, BitVec.toNat_ofNat, Nat.mod_eq_of_lt (by omega), Nat.mod_eq_of_lt (by omega)]
  exact wrap_i64_small _ (by omega)

theorem ofInt_toNat (a : Int) : (BitVec.ofInt 64 a).toNat = (a % 18446744073709551616).toNat := BitVec.toNat_ofInt ..

theorem dvd_pow (k : Nat) (hk : k ≤ 63) : ∃ m : Nat, 18446744073709551616 = 2 ^ k * m := ⟨2 ^ (64 - k), by rw [← Nat.pow_add, show k + (64 - k) = 64 from by omega]⟩

/-- Parts that share no bit: one is added to the other. -/
theorem i64_or_parts (k : Nat) (hk : k ≤ 62) (a r : Int) (ha : a % ((2 ^ k : Nat) : Int) = 0) (h0 : 0 ≤ r) (hr : r < ((2 ^ k : Nat) : Int)) (h1 : -9223372036854775808 ≤ a) (h2 : a ≤ 4611686018427387904) :
    bits .or .i64 a r = a + r := by
  have hp : (2 : Nat) ^ k ≤ 4611686018427387904 := Nat.pow_le_pow_right (by omega) hk
  unfold bits
  show IntKind.i64.wrap (((BitVec.ofInt 64 a ||| BitVec.ofInt 64 r).toNat : Nat) : Int) = _
  rw [BitVec.toNat_or, ofInt_toNat, ofInt_toNat]
  have hd : (a % 18446744073709551616).toNat % 2 ^ k = 0 := by
    obtain ⟨m, hm⟩ := dvd_pow k (by omega)
    have e : (((a % 18446744073709551616).toNat % 2 ^ k : Nat) : Int) = 0 := by
      rw [Int.natCast_emod, Int.toNat_of_nonneg (by omega), show (18446744073709551616 : Int) = ((2 ^ k : Nat) : Int) * (m : Int) from by rw [← Int.natCast_mul, ← hm]; rfl,
        Int.emod_emod_of_dvd _ (Int.dvd_mul_right _ _), ha]
    omega
  have hr2 : (r % 18446744073709551616).toNat < 2 ^ k := by omega
  rw [nat_join k _ _ hd hr2]
  simp only [IntKind.wrap, IntKind.bits, IntKind.signed]
  simp
  omega

theorem i64_and_bit (a : Int) (j : Nat) (hj : j ≤ 62) : bits .and .i64 a ((2 ^ j : Nat) : Int) = a / ((2 ^ j : Nat) : Int) % 2 * ((2 ^ j : Nat) : Int) := by
  have hp : (2 : Nat) ^ j ≤ 4611686018427387904 := Nat.pow_le_pow_right (by omega) hj
  have hpos : 0 < 2 ^ j := Nat.pow_pos (by omega)
  rw [i64_and_any a (2 ^ j) (by omega), nat_bit]
  obtain ⟨m, hm⟩ := dvd_pow (j + 1) (by omega)
  rw [Int.natCast_mul]
  congr 1
  rw [Int.natCast_emod, Int.natCast_ediv, Int.toNat_of_nonneg (by omega)]
  have e : (18446744073709551616 : Int) = ((2 ^ j : Nat) : Int) * (2 * (m : Int)) := by
    have : (18446744073709551616 : Nat) = 2 ^ j * (2 * m) := by rw [hm, Nat.pow_succ]; rw [Nat.mul_assoc]
    have h2 := congrArg (fun n : Nat => (n : Int)) this
    simp only [Int.natCast_mul] at h2
    exact h2
  rw [e]
  have hc : ((2 ^ j : Nat) : Int) ≠ 0 := by omega
  rw [Int.emod_def a, Int.mul_assoc, Int.sub_mul_ediv_left _ _ hc, Int.mul_assoc]
  generalize (m : Int) * _ = Y
  omega

theorem i64_low (a : Int) (k : Nat) (hk : k ≤ 62) : bits .and .i64 a ((2 ^ k - 1 : Nat) : Int) = a % ((2 ^ k : Nat) : Int) := by
  have hp : (2 : Nat) ^ k ≤ 4611686018427387904 := Nat.pow_le_pow_right (by omega) hk
  rw [i64_and_any a (2 ^ k - 1) (by omega), Nat.and_two_pow_sub_one_eq_mod]
  obtain ⟨m, hm⟩ := dvd_pow k (by omega)
  rw [Int.natCast_emod, Int.toNat_of_nonneg (by omega), show (18446744073709551616 : Int) = ((2 ^ k : Nat) : Int) * (m : Int) from by rw [← Int.natCast_mul, ← hm]; rfl,
        Int.emod_emod_of_dvd _ (Int.dvd_mul_right _ _)]

theorem i64_low18 (a : Int) : bits .and .i64 a 262143 = a % 262144 := i64_low a 18 (by omega)
theorem i64_bit18 (a : Int) : bits .and .i64 a 262144 = a / 262144 % 2 * 262144 := i64_and_bit a 18 (by omega)
theorem i64_bit31 (a : Int) : bits .and .i64 a 2147483648 = a / 2147483648 % 2 * 2147483648 := i64_and_bit a 31 (by omega)

/-- What lacks a bit takes it on. -/
theorem i64_or_bit31 (a : Int) (h0 : 0 ≤ a) (h1 : a < 2147483648) : bits .or .i64 a 2147483648 = a + 2147483648 := by
  have h := i64_or_nat a.toNat 2147483648 (by omega) (by omega)
  rw [Int.toNat_of_nonneg h0] at h
  have e : ((2147483648 : Nat) : Int) = 2147483648 := rfl
  rw [e] at h
  rw [h, Nat.or_comm, nat_join 31 _ _ (by omega) (by omega)]
  omega

theorem i64_drop31 (a : Int) (h0 : 0 ≤ a) (h1 : a < 4294967296) : bits .andNot .i64 a 2147483648 = a % 2147483648 := by
  unfold bits
  show IntKind.i64.wrap (((BitVec.ofInt 64 a &&& ~~~(BitVec.ofInt 64 2147483648)).toNat : Nat) : Int) = _
  have e : a.toNat &&& 18446744071562067967 = a.toNat % 2147483648 := by
    apply Nat.eq_of_testBit_eq
    intro i
    rw [Nat.testBit_and, show (2147483648 : Nat) = 2 ^ 31 from rfl, Nat.testBit_mod_two_pow]
    by_cases h : i < 31
    · have : Nat.testBit 18446744071562067967 i = true := by
        have h2 : ∀ j : Fin 31, Nat.testBit 18446744071562067967 j.val = true := by decide
        exact h2 ⟨i, h⟩
      rw [this, Bool.and_true, decide_eq_true h, Bool.true_and]
    · rw [decide_eq_false h, Bool.false_and]
      by_cases h3 : i = 31
      · subst h3
        have : Nat.testBit 18446744071562067967 31 = false := by decide
        rw [this, Bool.and_false]
      · have h4 : a.toNat < 2 ^ i := Nat.lt_of_lt_of_le (show a.toNat < 2 ^ 32 by omega) (Nat.pow_le_pow_right (by omega) (by omega))
        rw [Nat.testBit_lt_two_pow h4, Bool.false_and]
  rw [BitVec.toNat_and, ofInt_toNat, show (~~~(BitVec.ofInt 64 2147483648)).toNat = 18446744071562067967 from by decide]
  rw [show (a % 18446744073709551616).toNat = a.toNat from by omega, e]
  rw [wrap_i64_small _ (by omega)]
  omega

/-- A byte behind a number. -/
theorem i64_byte (a : Int) (c : UInt8) (h0 : 0 ≤ a) (h1 : a < 16777216) : bits .or .i64 (a * 256) (c.toNat : Int) = a * 256 + (c.toNat : Int) := by
  have hc := c.toNat_lt
  exact i64_or_parts 8 (by omega) (a * 256) (c.toNat : Int) (by omega) (by omega) (by omega) (by omega) (by omega)

end Go.Proofs.YtehajmockicilaaDoor

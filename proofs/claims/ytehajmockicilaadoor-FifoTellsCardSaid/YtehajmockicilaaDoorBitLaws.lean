/-
  Plain facts on the bit operations of whole numbers of 64 bits, in the walk's own spelling.
-/
import Derived.WalkKit
namespace Go.Proofs.YtehajmockicilaaDoor

theorem ofInt_i64_nat (a : Nat) : BitVec.ofInt IntKind.i64.bits (a : Int) = BitVec.ofNat 64 a := by
  show BitVec.ofInt 64 (a : Int) = BitVec.ofNat 64 a
  exact BitVec.ofInt_natCast ..

theorem wrap_i64_small (n : Nat) (h : n < 9223372036854775808) : IntKind.i64.wrap (n : Int) = (n : Int) := by
  simp only [IntKind.wrap, IntKind.bits, IntKind.signed]
  simp
  omega

theorem i64_xor_nat (a b : Nat) (ha : a < 9223372036854775808) (hb : b < 9223372036854775808) : bits .xor .i64 (a : Int) (b : Int) = ((a ^^^ b : Nat) : Int) := by
  have hx : a ^^^ b < 2 ^ 63 := Nat.xor_lt_two_pow (by simpa using ha) (by simpa using hb)
  unfold bits
  simp only [ofInt_i64_nat]
  show IntKind.i64.wrap (((BitVec.ofNat 64 a ^^^ BitVec.ofNat 64 b).toNat : Nat) : Int) = _
  rw [BitVec.toNat_xor, BitVec.toNat_ofNat, BitVec.toNat_ofNat, Nat.mod_eq_of_lt (by omega), Nat.mod_eq_of_lt (by omega)]
  exact wrap_i64_small _ (by omega)

theorem i64_and_nat (a b : Nat) (ha : a < 9223372036854775808) (hb : b < 9223372036854775808) : bits .and .i64 (a : Int) (b : Int) = ((a &&& b : Nat) : Int) := by
  have hx : a &&& b < 2 ^ 63 := Nat.and_lt_two_pow _ (by simpa using hb)
  unfold bits
  simp only [ofInt_i64_nat]
  show IntKind.i64.wrap (((BitVec.ofNat 64 a &&& BitVec.ofNat 64 b).toNat : Nat) : Int) = _
  rw [BitVec.toNat_and, BitVec.toNat_ofNat, BitVec.toNat_ofNat, Nat.mod_eq_of_lt (by omega), Nat.mod_eq_of_lt (by omega)]
  exact wrap_i64_small _ (by omega)

/-- Of any number, below 0 too. -/
theorem i64_and_any (a : Int) (b : Nat) (hb : b < 9223372036854775808) : bits .and .i64 a (b : Int) = (((a % 18446744073709551616).toNat &&& b : Nat) : Int) := by
  have hx : (a % 18446744073709551616).toNat &&& b < 2 ^ 63 := Nat.and_lt_two_pow _ (by simpa using hb)
  unfold bits
  simp only [ofInt_i64_nat]
  show IntKind.i64.wrap (((BitVec.ofInt 64 a &&& BitVec.ofNat 64 b).toNat : Nat) : Int) = _
  rw [BitVec.toNat_and, BitVec.toNat_ofNat, Nat.mod_eq_of_lt (by omega), BitVec.toNat_ofInt]
  exact wrap_i64_small _ (by simpa using hx)

theorem i64_low16 (a : Int) : bits .and .i64 a 65535 = a % 65536 := by
  have h := i64_and_any a 65535 (by omega)
  have e : ((65535 : Nat) : Int) = 65535 := rfl
  rw [e] at h
  rw [h]
  have h2 : ∀ n : Nat, n &&& 65535 = n % 65536 := fun n => Nat.and_two_pow_sub_one_eq_mod n 16
  rw [h2]
  omega

/-- One bit of any number. -/
theorem i64_bit_any (a : Int) (j : Nat) (hj : j < 16) : (bits .and .i64 a ((2 ^ j : Nat) : Int) != 0) = (a % 65536).toNat.testBit j := by
  have hp : (2 : Nat) ^ j < 9223372036854775808 := Nat.lt_of_lt_of_le (Nat.pow_lt_pow_right (by omega) hj) (by omega)
  rw [i64_and_any a _ hp]
  have e : (a % 65536).toNat = (a % 18446744073709551616).toNat % 2 ^ 16 := by
    show _ = _ % 65536
    omega
  rw [e, Nat.testBit_mod_two_pow]
  simp only [hj, decide_true, Bool.true_and]
  generalize (a % 18446744073709551616).toNat = n
  rw [nat_bit, Nat.testBit_eq_decide_div_mod_eq]
  have hpos : 0 < 2 ^ j := Nat.pow_pos (by omega)
  rcases Nat.mod_two_eq_zero_or_one (n / 2 ^ j) with h | h
  · rw [h]; simp
  · rw [h, Nat.one_mul]
    have hz : (((2 ^ j : Nat) : Int) != 0) = true := by rw [bne_iff_ne]; omega
    rw [hz]; rfl

end Go.Proofs.YtehajmockicilaaDoor

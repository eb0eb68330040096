/-
  The bit operations that vectors take, in the walk's own spelling.
-/
import Derived.Test.YtmklabdfalkldaaVecMath
import Derived.Test.YtmklabdfalkldaaBitLaws
namespace Go.Proofs.Ytmklabdfalkldaa

theorem wrap_mod (x : BitVec 64) : (IntKind.i64.wrap ((x.toNat : Nat) : Int)) % 65536 = ((x.toNat % 65536 : Nat) : Int) := by
  simp only [IntKind.wrap, IntKind.bits, IntKind.signed]
  simp
  omega
theorem ofInt_mod (v : Int) : (BitVec.ofInt 64 v).toNat % 65536 = md v := by
  rw [BitVec.toNat_ofInt]; unfold md; omega

/-- What the program's With does, by its bits. -/
theorem or_low (v b : Int) (hb : ∃ k : Nat, b = (k : Int) ∧ k < 65536) : bits .and .i64 (bits .or .i64 v b) 65535 = ((md v ||| md b : Nat) : Int) := by
  obtain ⟨k, rfl, hk⟩ := hb
  rw [i64_low16]
  unfold bits
  simp only [ofInt_i64_nat]
  show IntKind.i64.wrap (((BitVec.ofInt 64 v ||| BitVec.ofNat 64 k).toNat : Nat) : Int) % 65536 = _
  rw [wrap_mod, BitVec.toNat_or, BitVec.toNat_ofNat, Nat.mod_eq_of_lt (show k < 2 ^ 64 by omega)]
  have := Nat.or_mod_two_pow (a := (BitVec.ofInt 64 v).toNat) (b := k) (n := 16)
  rw [show (65536 : Nat) = 2 ^ 16 from rfl, this, show (2 : Nat) ^ 16 = 65536 from rfl, ofInt_mod, Nat.mod_eq_of_lt hk, md_nat k hk]
/-- And Without. -/
theorem drop_low (v b : Int) (hb : ∃ k : Nat, b = (k : Int) ∧ k < 65536) (m : Nat) (hm : m < 65536) (h : ∀ i, i < 16 → m.testBit i = ((md v).testBit i && !(md b).testBit i)) :
    bits .and .i64 (bits .andNot .i64 v b) 65535 = (m : Int) := by
  obtain ⟨k, rfl, hk⟩ := hb
  rw [i64_low16]
  unfold bits
  simp only [ofInt_i64_nat]
  show IntKind.i64.wrap (((BitVec.ofInt 64 v &&& ~~~ BitVec.ofNat 64 k).toNat : Nat) : Int) % 65536 = _
  rw [wrap_mod]
  congr 1
  refine vec_ext _ _ (by omega) hm fun i hi => ?_
  rw [h i hi, md_nat k hk, show (65536 : Nat) = 2 ^ 16 from rfl, Nat.testBit_mod_two_pow, ← ofInt_mod, show (65536 : Nat) = 2 ^ 16 from rfl, Nat.testBit_mod_two_pow]
  simp only [hi, decide_true, Bool.true_and]
  rw [← BitVec.getLsbD, BitVec.getLsbD_and, BitVec.getLsbD_not, BitVec.getLsbD_ofNat, ← BitVec.getLsbD]
  have h64 : i < 64 := by omega
  simp [h64]
theorem and_low (v : Int) (b : Nat) (hb : b < 65536) : bits .and .i64 v (b : Int) = ((md v &&& b : Nat) : Int) := by
  rw [i64_and_any v b (by omega)]
  congr 1
  have hb2 : b = b % 2 ^ 16 := (Nat.mod_eq_of_lt hb).symm
  apply Nat.eq_of_testBit_eq
  intro i
  rw [Nat.testBit_and, Nat.testBit_and]
  rcases Nat.lt_or_ge i 16 with hi | hi
  · have e : md v = (v % 18446744073709551616).toNat % 2 ^ 16 := by unfold md; omega
    rw [e, Nat.testBit_mod_two_pow]
    simp [hi]
  · rw [high_bit b i hb hi]; simp

theorem bitI_nat (n : Int) : ∃ k : Nat, bitI n = (k : Int) ∧ k < 65536 ∧ ∀ i, k.testBit i = (nodeB n && decide (i = n.toNat)) := by
  unfold bitI
  cases h : nodeB n
  · exact ⟨0, rfl, by omega, fun i => by simp⟩
  · obtain ⟨h0, h1⟩ := (nodeB_iff n).1 h
    refine ⟨2 ^ n.toNat, rfl, two_pow_lt _ (by omega), fun i => ?_⟩
    rw [Nat.testBit_two_pow]; simp [eq_comm]
theorem with_bits (v n : Int) : bits .and .i64 (bits .or .i64 v (bitI n)) 65535 = withI v n := by
  obtain ⟨k, e, hk, hb⟩ := bitI_nat n
  rw [or_low v _ ⟨k, e, hk⟩, e, md_nat k hk]
  obtain ⟨m, h1, h2, h3⟩ := withI_nat v n
  rw [h2]
  congr 1
  refine vec_ext _ _ (or_lt _ _ (md_lt v) hk) h1 fun i hi => ?_
  rw [Nat.testBit_or, hb i, h3 i hi]
theorem without_bits (v n : Int) : bits .and .i64 (bits .andNot .i64 v (bitI n)) 65535 = withoutI v n := by
  obtain ⟨k, e, hk, hb⟩ := bitI_nat n
  obtain ⟨m, h1, h2, h3⟩ := withoutI_nat v n
  rw [h2]
  refine drop_low v _ ⟨k, e, hk⟩ m h1 fun i hi => ?_
  rw [h3 i hi, e, md_nat k hk, hb i]
theorem has_bits (v n : Int) : (bits .and .i64 v (bitI n) != 0) = hasB v n := by
  obtain ⟨k, e, hk, hb⟩ := bitI_nat n
  rw [e, and_low v k hk]
  unfold hasB
  cases hn : nodeB n
  · have : k = 0 := Nat.eq_of_testBit_eq fun i => by rw [hb i, hn]; simp
    subst this
    simp
  · rw [Bool.true_and]
    have : k = 2 ^ n.toNat := Nat.eq_of_testBit_eq fun i => by rw [hb i, hn, Nat.testBit_two_pow]; simp [eq_comm]
    subst this
    generalize md v = m
    rw [Bool.eq_iff_iff]
    constructor
    · intro hne
      cases ht : m.testBit n.toNat
      · exfalso
        have : m &&& 2 ^ n.toNat = 0 := by
          apply Nat.eq_of_testBit_eq
          intro i
          rw [Nat.testBit_and, Nat.testBit_two_pow, Nat.zero_testBit]
          by_cases ei : n.toNat = i
          · subst ei; simp [ht]
          · simp [ei]
        rw [this] at hne
        simp at hne
      · rfl
    · intro ht
      rw [bne_iff_ne]
      intro h0
      have h1 : m &&& 2 ^ n.toNat = 0 := by omega
      have h2 : (m &&& 2 ^ n.toNat).testBit n.toNat = true := by rw [Nat.testBit_and, ht, Nat.testBit_two_pow_self]; rfl
      rw [h1, Nat.zero_testBit] at h2
      cases h2

end Go.Proofs.Ytmklabdfalkldaa

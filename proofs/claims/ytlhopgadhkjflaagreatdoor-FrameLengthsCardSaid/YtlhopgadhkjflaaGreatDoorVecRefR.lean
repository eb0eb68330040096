/-
  The document's own answers on vectors: mod, Has, With, Without, All, Most.
-/
import Derived.BigQuiet
import Derived.Deep.QuietTactic
import Derived.Test.YtlhopgadhkjflaaGreatDoorVecOfR
namespace Go.Proofs.YtlhopgadhkjflaaGreatDoor.V
open Go.RowKit
theorem tm_two (n : Int) : (0 ≤ n ∧ n.tmod 65536 = n % 65536) ∨ (n < 0 ∧ n.tmod 65536 = -((-n) % 65536)) := by
 rcases Int.lt_or_le n 0 with h | h
 ·refine .inr ⟨h, ?_⟩
  have e : n = -(-n) := by omega
  conv => lhs; rw [e]
  rw [Int.neg_tmod, Int.tmod_eq_emod_of_nonneg (by omega)]
 ·exact .inl ⟨h, Int.tmod_eq_emod_of_nonneg h⟩
theorem md_tmod_neg (n : Int) (h : n.tmod 65536 < 0) : n.tmod 65536 + 65536 = (md n : Int) := by
 rw [md_cast]
 have h1 := tm_two n
 omega
theorem md_tmod_pos (n : Int) (h : 0 ≤ n.tmod 65536) : n.tmod 65536 = (md n : Int) := by
 rw [md_cast]
 have h1 := tm_two n
 omega
theorem tmod_range (n : Int) : -65536 < n.tmod 65536 ∧ n.tmod 65536 < 65536 := by
 have h1 := tm_two n
 omega
theorem mod_any (n : Int) (w : World) : Calls Tryz.prog 148 #[.int .i64 n] w fun e w' => e = .returned (.int .i64 (md n : Int)) ∧ w = w' := by
 have hr := tmod_range n
 have H1 := Lib.hid (md_tmod_neg n)
 have H2 := Lib.hid (md_tmod_pos n)
 go_enter Tryz.func148, Tryz.ntmps148
 go_wp2
 ·go_ret
  exact ⟨ret_i (H1.out (by assumption)), rfl⟩
 ·go_ret
  exact ⟨ret_i (H2.out (by assumption)), rfl⟩
theorem has_shift (v n : Int) (h0 : 0 ≤ n) (h1 : n ≤ 15) : (bits .and .i64 ((md v : Int) / 2 ^ n.toNat) 1 == 1) = hasB v n := by
 have e : (md v : Int) / 2 ^ n.toNat = ((md v / 2 ^ n.toNat : Nat) : Int) := by rw [pow_cast]; rfl
 have h2 : md v / 2 ^ n.toNat < 9223372036854775808 := Nat.lt_of_le_of_lt (Nat.div_le_self _ _) (by have := md_lt v; omega)
 rw [e, show (1 : Int) = ((1 : Nat) : Int) from rfl, i64_and_nat _ _ h2 (by omega), Nat.and_one_is_mod]
 unfold hasB
 rw [(nodeB_iff n).2 ⟨h0, h1⟩, Bool.true_and, Nat.testBit_eq_decide_div_mod_eq]
 rcases Nat.mod_two_eq_zero_or_one (md v / 2 ^ n.toNat) with h | h <;> rw [h] <;> simp
theorem hasB_off (v n : Int) (h : n < 0 ∨ 15 < n) : hasB v n = false := by
 unfold hasB; rw [(nodeB_no n).2 h]; rfl
theorem refHas_any (v n : Int) (w : World) : Calls Tryz.prog 122 #[.int .i64 v, .int .i64 n] w fun e w' => e = .returned (.bool (hasB v n)) ∧ w = w' := by
 have hm := md_lt v
 have H1 := Lib.hid (has_shift v n)
 have H2 := Lib.hid (hasB_off v n)
 by_cases h0 : 0 ≤ n
 ·by_cases h1 : n ≤ 15
  ·go_enter Tryz.func122, Tryz.ntmps122
   go_wp2_with fail; refine (mod_any _ _).mono ?_; rintro e w1 ⟨rfl, rfl⟩
   go_wp2_with fail
   go_ret
   exact ⟨ret_b (H1.out h0 h1), rfl⟩
  ·go_enter Tryz.func122, Tryz.ntmps122
   go_wp2_with fail
   go_ret
   exact ⟨ret_b (H2.out (by omega)).symm, rfl⟩
 ·go_enter Tryz.func122, Tryz.ntmps122
  go_wp2_with fail
  go_ret
  exact ⟨ret_b (H2.out (by omega)).symm, rfl⟩
end Go.Proofs.YtlhopgadhkjflaaGreatDoor.V

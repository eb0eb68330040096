/-
  Spots compared: '==' and '!=' of two of them.
-/
import Derived.Test.YtmklabdfalkldaaSchOwn
import Derived.ChangeKeysEq
namespace Go.Proofs.Ytmklabdfalkldaa
open Go.RowKit

/-- Are they the same? -/
def sameSp (a b : Spot) : Bool := a.cyc == b.cyc && (a.rnd == b.rnd && (a.slt == b.slt && a.tck == b.tck))
theorem sameSp_iff (a b : Spot) : sameSp a b = true ↔ a = b := by
  unfold sameSp
  obtain ⟨a1, a2, a3, a4⟩ := a
  obtain ⟨b1, b2, b3, b4⟩ := b
  simp
theorem sameSp_self (a : Spot) : sameSp a a = true := (sameSp_iff a a).2 rfl
theorem sameSp_dec (a b : Spot) : sameSp a b = decide (a = b) := by
  rw [Bool.eq_iff_iff, decide_eq_true_eq]; exact sameSp_iff a b
theorem eqS_int (d : Nat) (n m : Int) (w : World) : (Op.equalIn (d + 1) 3 (.int .i64 n) (.int .i64 m)).run Try.prog w = .ok (n == m) w := by
  simp [Op.equalIn, run_underlying Try.underlying3]
set_option maxRecDepth 100000 in
theorem eqS_struct (d : Nat) (a b : Spot) (w : World) : (Op.equalIn (d + 2) 27 (sv a) (sv b)).run Try.prog w = .ok (sameSp a b) w := by
  have hs : Try.prog.stoodInHeld 27 = false := by kernel_rfl
  obtain ⟨a1, a2, a3, a4⟩ := a
  obtain ⟨b1, b2, b3, b4⟩ := b
  rw [Op.equalIn]
  simp only [Sem.run_bind, run_underlying Try.underlying27, Result.andThen_ok]
  have e1 := fun w => eqS_int d a1 b1 w
  have e2 := fun w => eqS_int d a2 b2 w
  have e3 := fun w => eqS_int d a3 b3 w
  have e4 := fun w => eqS_int d a4 b4 w
  simp [hs, go_sem, e1, e2, e3, e4, sameSp]
  by_cases h1 : a1 = b1 <;> by_cases h2 : a2 = b2 <;> by_cases h3 : a3 = b3 <;> by_cases h4 : a4 = b4 <;> simp [h1, h2, h3, h4]
theorem eqS_guard (op : BinOp) (x y : Operand) (a b : Spot) (w : World) : (eqGuard op 27 x y (sv a) (sv b)).run Try.prog w = .ok () w := by
  have h : Try.prog.eqGuardType Try.prog.depth 27 = false := by kernel_rfl
  cases op <;> simp [eqGuard, h, go_sem]
theorem eqlS (a b : Spot) (w : World) : (binOp .eql 27 (sv a) (sv b)).run Try.prog w = .ok (.bool (sameSp a b)) w := by
  show (do pure (Value.bool (← Op.equal 27 (sv a) (sv b))) : Sem Value).run Try.prog w = _
  rw [Sem.run_bind]
  show ((Op.equalIn (9998 + 2) 27 (sv a) (sv b)).run Try.prog w).andThen _ = _
  rw [eqS_struct, Result.andThen_ok, Sem.run_pure]
theorem neqS (a b : Spot) (w : World) : (binOp .neq 27 (sv a) (sv b)).run Try.prog w = .ok (.bool (!sameSp a b)) w := by
  show (do pure (Value.bool (!(← Op.equal 27 (sv a) (sv b)))) : Sem Value).run Try.prog w = _
  rw [Sem.run_bind]
  show ((Op.equalIn (9998 + 2) 27 (sv a) (sv b)).run Try.prog w).andThen _ = _
  rw [eqS_struct, Result.andThen_ok, Sem.run_pure]

end Go.Proofs.Ytmklabdfalkldaa

/-
  Identifiers compared: '==' and '!=' of two of them, whatever they hold.
-/
import Derived.Test.YtehajmockicilaaDoorIdentLaid
import Derived.ChangeKeysEq
namespace Go.Proofs.YtehajmockicilaaDoor
open Go.RowKit

theorem eq_bool (d : Nat) (b c : Bool) (w : World) : (Op.equalIn (d + 1) 4 (.bool b) (.bool c)).run Tryd.prog w = .ok (b == c) w := by
  simp [Op.equalIn, run_underlying Tryd.underlying4]
theorem eq_int (d : Nat) (n m : Int) (w : World) : (Op.equalIn (d + 1) 3 (.int .i64 n) (.int .i64 m)).run Tryd.prog w = .ok (n == m) w := by
  simp [Op.equalIn, run_underlying Tryd.underlying3]
theorem eq_struct (d : Nat) (b c : Bool) (n m : Int) (w : World) : (Op.equalIn (d + 2) 24 (.agg #[.bool b, .int .i64 n]) (.agg #[.bool c, .int .i64 m])).run Tryd.prog w = .ok (b == c && n == m) w := by
  have hs : Tryd.prog.stoodInHeld 24 = false := by kernel_rfl
  rw [Op.equalIn]
  simp only [Sem.run_bind, run_underlying Tryd.underlying24, Result.andThen_ok]
  have e1 := fun w => eq_bool d b c w
  have e2 := fun w => eq_int d n m w
  simp [hs, go_sem, e1, e2]
  by_cases h1 : b = c
  · by_cases h2 : n = m
    · simp [h1, h2]
    · simp [h1, h2]
  · simp [h1]

theorem eq_guard (op : BinOp) (x y : Operand) (b c : Bool) (n m : Int) (w : World) : (eqGuard op 24 x y (.agg #[.bool b, .int .i64 n]) (.agg #[.bool c, .int .i64 m])).run Tryd.prog w = .ok () w := by
  have h : Tryd.prog.eqGuardType Tryd.prog.depth 24 = false := by kernel_rfl
  cases op <;> simp [eqGuard, h, go_sem]
theorem eql_agg (b c : Bool) (n m : Int) (w : World) : (binOp .eql 24 (.agg #[.bool b, .int .i64 n]) (.agg #[.bool c, .int .i64 m])).run Tryd.prog w = .ok (.bool (b == c && n == m)) w := by
  show (do pure (Value.bool (← Op.equal 24 (.agg #[.bool b, .int .i64 n]) (.agg #[.bool c, .int .i64 m]))) : Sem Value).run Tryd.prog w = _
  rw [Sem.run_bind]
  show ((Op.equalIn (9998 + 2) 24 (.agg #[.bool b, .int .i64 n]) (.agg #[.bool c, .int .i64 m])).run Tryd.prog w).andThen _ = _
  rw [eq_struct, Result.andThen_ok, Sem.run_pure]
theorem neq_agg (b c : Bool) (n m : Int) (w : World) : (binOp .neq 24 (.agg #[.bool b, .int .i64 n]) (.agg #[.bool c, .int .i64 m])).run Tryd.prog w = .ok (.bool (!(b == c && n == m))) w := by
  show (do pure (Value.bool (!(← Op.equal 24 (.agg #[.bool b, .int .i64 n]) (.agg #[.bool c, .int .i64 m])))) : Sem Value).run Tryd.prog w = _
  rw [Sem.run_bind]
  show ((Op.equalIn (9998 + 2) 24 (.agg #[.bool b, .int .i64 n]) (.agg #[.bool c, .int .i64 m])).run Tryd.prog w).andThen _ = _
  rw [eq_struct, Result.andThen_ok, Sem.run_pure]

end Go.Proofs.YtehajmockicilaaDoor

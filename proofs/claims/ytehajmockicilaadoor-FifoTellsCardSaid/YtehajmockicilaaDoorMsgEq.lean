/-
  Messages compared: '==' and '!=' of two of them.
-/
import Derived.Test.YtehajmockicilaaDoorMsgRaw
namespace Go.Proofs.YtehajmockicilaaDoor
open Go.RowKit

set_option maxRecDepth 100000 in
theorem bytes_beq (x y : ByteArray) : (x == y) = decide (x = y) := by
  rw [Bool.eq_iff_iff, decide_eq_true_eq]
  constructor
  · intro h
    have h2 : (x.data == y.data) = true := h
    have h3 : x.data = y.data := by simpa using h2
    exact ByteArray.ext h3
  · rintro rfl
    show (x.data == x.data) = true
    simp

/-- Are they the same? -/
def sameM (a b : Msg) : Bool := (a.ext == b.ext && a.n == b.n) && (a.sender == b.sender && (a.inc == b.inc && (a.seq == b.seq && (a.number == b.number && decide (a.data = b.data)))))
set_option maxRecDepth 100000 in
theorem sameM_iff (a b : Msg) : sameM a b = true ↔ a = b := by
  unfold sameM
  obtain ⟨b1, n1, s1, i1, q1, k1, d1⟩ := a
  obtain ⟨b2, n2, s2, i2, q2, k2, d2⟩ := b
  simp
  constructor
  · rintro ⟨⟨h1, h2⟩, h3, h4, h5, h6, h7⟩; exact ⟨h1, h2, h3, h4, h5, h6, h7⟩
  · rintro ⟨h1, h2, h3, h4, h5, h6, h7⟩; exact ⟨⟨h1, h2⟩, h3, h4, h5, h6, h7⟩

theorem eq_string (d : Nat) (x y : ByteArray) (w : World) : (Op.equalIn (d + 1) 9 (.string x) (.string y)).run Tryd.prog w = .ok (x == y) w := by
  simp [Op.equalIn, run_underlying Tryd.underlying9]
set_option maxRecDepth 100000 in
theorem eqM_struct (d : Nat) (a b : Msg) (w : World) : (Op.equalIn (d + 3) 26 (mv a) (mv b)).run Tryd.prog w = .ok (sameM a b) w := by
  have hs : Tryd.prog.stoodInHeld 26 = false := by kernel_rfl
  obtain ⟨b1, n1, s1, i1, q1, k1, d1⟩ := a
  obtain ⟨b2, n2, s2, i2, q2, k2, d2⟩ := b
  rw [Op.equalIn]
  simp only [Sem.run_bind, run_underlying Tryd.underlying26, Result.andThen_ok]
  have e1 := fun w => eq_struct d b1 b2 n1 n2 w
  have e2 := fun w => eq_int (d + 1) s1 s2 w
  have e3 := fun w => eq_int (d + 1) i1 i2 w
  have e4 := fun w => eq_int (d + 1) q1 q2 w
  have e5 := fun w => eq_int (d + 1) k1 k2 w
  have e6 := fun w => eq_string (d + 1) d1 d2 w
  simp [hs, go_sem, e1, e2, e3, e4, e5, e6]
  rw [bytes_beq]
  unfold sameM
  by_cases h1 : b1 = b2 <;> by_cases h2 : n1 = n2 <;> by_cases h3 : s1 = s2 <;> by_cases h4 : i1 = i2 <;> by_cases h5 : q1 = q2 <;> by_cases h6 : k1 = k2 <;> by_cases h7 : d1 = d2 <;> simp [h1, h2, h3, h4, h5, h6, h7]

theorem eqM_guard (op : BinOp) (x y : Operand) (a b : Msg) (w : World) : (eqGuard op 26 x y (mv a) (mv b)).run Tryd.prog w = .ok () w := by
  have h : Tryd.prog.eqGuardType Tryd.prog.depth 26 = false := by kernel_rfl
  cases op <;> simp [eqGuard, h, go_sem]
set_option maxRecDepth 100000 in
theorem eqlM (a b : Msg) (w : World) : (binOp .eql 26 (mv a) (mv b)).run Tryd.prog w = .ok (.bool (sameM a b)) w := by
  show (do pure (Value.bool (← Op.equal 26 (mv a) (mv b))) : Sem Value).run Tryd.prog w = _
  rw [Sem.run_bind]
  show ((Op.equalIn (9997 + 3) 26 (mv a) (mv b)).run Tryd.prog w).andThen _ = _
  rw [eqM_struct, Result.andThen_ok, Sem.run_pure]
set_option maxRecDepth 100000 in
theorem neqM (a b : Msg) (w : World) : (binOp .neq 26 (mv a) (mv b)).run Tryd.prog w = .ok (.bool (!sameM a b)) w := by
  show (do pure (Value.bool (!(← Op.equal 26 (mv a) (mv b)))) : Sem Value).run Tryd.prog w = _
  rw [Sem.run_bind]
  show ((Op.equalIn (9997 + 3) 26 (mv a) (mv b)).run Tryd.prog w).andThen _ = _
  rw [eqM_struct, Result.andThen_ok, Sem.run_pure]

end Go.Proofs.YtehajmockicilaaDoor

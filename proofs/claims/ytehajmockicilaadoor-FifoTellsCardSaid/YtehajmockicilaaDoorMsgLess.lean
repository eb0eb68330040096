/-
  The order of messages, by the document.
-/
import Derived.Test.YtehajmockicilaaDoorMsgBase
namespace Go.Proofs.YtehajmockicilaaDoor
open Go.RowKit

def sameId (a b : Msg) : Bool := a.ext == b.ext && a.n == b.n
/-- Does the one go ahead? -/
def lessM (a b : Msg) : Bool := if sameId a b = true then (if a.sender = b.sender then decide (a.number < b.number) else decide (a.sender < b.sender)) else lessI a.ext a.n b.ext b.n

theorem neq_same (a b : Msg) (h : sameId a b = true) (w : World) : (binOp .neq 24 (.agg #[.bool a.ext, .int .i64 a.n]) (.agg #[.bool b.ext, .int .i64 b.n])).run Tryd.prog w = .ok (.bool false) w := by
  rw [neq_agg]; unfold sameId at h; rw [h]; rfl
theorem neq_other (a b : Msg) (h : sameId a b = false) (w : World) : (binOp .neq 24 (.agg #[.bool a.ext, .int .i64 a.n]) (.agg #[.bool b.ext, .int .i64 b.n])).run Tryd.prog w = .ok (.bool true) w := by
  rw [neq_agg]; unfold sameId at h; rw [h]; rfl

set_option maxRecDepth 100000 in
set_option maxHeartbeats 1000000 in
theorem refLessM_any (a b : Msg) (w : World) :
    Calls Tryd.prog 47 #[mv a, mv b] w fun e w' => e = .returned (.bool (lessM a b)) ∧ Below w.heap.size w w' := by
  have HM : Hid (lessM a b = if sameId a b = true then (if a.sender = b.sender then decide (a.number < b.number) else decide (a.sender < b.sender)) else lessI a.ext a.n b.ext b.n) := Lib.hid rfl
  have hA := (Holds.new w a).old (.cells (mc b) 26)
  have hB := Holds.new (w.alloc (.cells (mc a) 26)) b
  have hW := Joins.below_alloc2 w (.cells (mc a) 26) (.cells (mc b) 26)
  have hEG := fun x y w => eq_guard .neq x y a.ext b.ext a.n b.n w
  have hNE := neq_same a b
  have hNO := neq_other a b
  have cl := fun w => refLess_any a.ext a.n b.ext b.n w
  generalize hS : sameId a b = S at *
  clear hS
  generalize lessM a b = R at *
  generalize lessI a.ext a.n b.ext b.n = L at *
  obtain ⟨b1, n1, se1, ic1, sq1, nu1, d1⟩ := a
  obtain ⟨b2, n2, se2, ic2, sq2, nu2, d2⟩ := b
  simp only [mv, mc] at *
  obtain ⟨_, x0, x1, x2, x3, x4, x5, x6⟩ := hA
  obtain ⟨_, y0, y1, y2, y3, y4, y5, y6⟩ := hB
  rw [World.size_alloc] at y0 y1 y2 y5
  go_enter Tryd.func47, Tryd.ntmps47
  cases S
  · have hne := hNO rfl
    clear hNE hNO
    have HW := Lib.hid hW; clear hW
    go_wp2_with fail; refine (cl _).mono ?_; rintro e w1 ⟨rfl, hb⟩
    go_wp2_with fail
    go_ret
    exact ⟨ret_b (HM.out.trans (by simp)).symm, HW.out.trans (hb.mono (by simp; omega))⟩
  · have hne := hNE rfl
    clear hNE hNO
    have HW := Lib.hid hW; clear hW
    by_cases hs : se1 = se2
    · have hs2 : ((se1 : Int) != se2) = false := by simpa using hs
      have HS := Lib.hid hs; clear hs
      go_wp2_with fail
      go_ret
      exact ⟨ret_b (HM.out.trans (by simp [HS.out])).symm, HW.out⟩
    · have hs2 : ((se1 : Int) != se2) = true := by simpa using hs
      have HS := Lib.hid hs; clear hs
      go_wp2_with fail
      go_ret
      exact ⟨ret_b (HM.out.trans (by simp [HS.out])).symm, HW.out⟩

end Go.Proofs.YtehajmockicilaaDoor

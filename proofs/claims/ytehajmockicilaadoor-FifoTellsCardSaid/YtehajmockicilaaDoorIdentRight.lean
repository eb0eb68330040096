/-
  Which identifiers may be: what ident.most, within and Right do, and the document's limit and Right.
-/
import Derived.Test.YtehajmockicilaaDoorIdentLaid
namespace Go.Proofs.YtehajmockicilaaDoor
open Go.RowKit

/-- The greatest number of a kind. -/
def lim (b : Bool) : Int := if b = true then 536870911 else 2047
def rightI (b : Bool) (n : Int) : Bool := decide (0 ≤ n) && decide (n ≤ lim b)
theorem lim_true : lim true = 536870911 := rfl
theorem lim_false : lim false = 2047 := rfl
theorem lim_range (b : Bool) : 2047 ≤ lim b ∧ lim b ≤ 536870911 := by cases b <;> simp [lim]

theorem most_any (b : Bool) (w : World) (L : Laid w) :
    Calls Tryd.prog 95 #[.bool b] w fun e w' => e = .returned (.int .i64 (lim b)) ∧ w = w' := by
  have h0 := L.zero
  have h1 := L.one
  cases b
  · go_enter Tryd.func95, Tryd.ntmps95
    go_wp2
    go_ret
    exact ⟨rfl, rfl⟩
  · go_enter Tryd.func95, Tryd.ntmps95
    go_wp2
    go_ret
    exact ⟨rfl, rfl⟩

theorem rightI_of (b : Bool) (n : Int) (h : 0 ≤ n) : decide (n ≤ lim b) = rightI b n := by
  unfold rightI
  rw [decide_eq_true h, Bool.true_and]
theorem rightI_neg (b : Bool) (n : Int) (h : ¬ 0 ≤ n) : false = rightI b n := by
  unfold rightI
  rw [decide_eq_false h, Bool.false_and]

theorem within_any (b : Bool) (n : Int) (w : World) (L : Laid w) :
    Calls Tryd.prog 90 #[.bool b, .int .i64 n] w fun e w' => e = .returned (.bool (rightI b n)) ∧ w = w' := by
  by_cases h : 0 ≤ n
  · have hd : decide (0 ≤ n) = true := by simpa using h
    have hr := Lib.hid (rightI_of b n h)
    go_enter Tryd.func90, Tryd.ntmps90
    go_wp2_with fail
    refine (most_any b _ L).mono ?_
    rintro e w' ⟨rfl, rfl⟩
    go_wp2_with fail
    go_ret
    exact ⟨congrArg (fun b => Ending.returned (.bool b)) hr.out, rfl⟩
  · have hd : decide (0 ≤ n) = false := by simpa using h
    have hr := Lib.hid (rightI_neg b n h)
    go_enter Tryd.func90, Tryd.ntmps90
    go_wp2_with fail
    go_ret
    exact ⟨congrArg (fun b => Ending.returned (.bool b)) hr.out, rfl⟩

theorem right_any (b : Bool) (n : Int) (w : World) (L : Laid w) :
    Calls Tryd.prog 76 #[.agg #[.bool b, .int .i64 n]] w fun e w' => e = .returned (.bool (rightI b n)) ∧ Below w.heap.size w w' := by
  go_enter Tryd.func76, Tryd.ntmps76
  go_wp2_with fail
  refine (within_any b n _ (L.alloc _)).mono ?_
  rintro e w' ⟨rfl, rfl⟩
  go_wp2_with fail
  go_ret
  exact ⟨rfl, Joins.below_alloc1 _ _⟩

theorem refLimit_any (b : Bool) (w : World) :
    Calls Tryd.prog 91 #[.bool b] w fun e w' => e = .returned (.int .i64 (lim b)) ∧ w = w' := by
  cases b
  · go_enter Tryd.func91, Tryd.ntmps91
    go_wp2
    go_ret
    exact ⟨rfl, rfl⟩
  · go_enter Tryd.func91, Tryd.ntmps91
    go_wp2
    go_ret
    exact ⟨rfl, rfl⟩

theorem refRight_any (b : Bool) (n : Int) (w : World) :
    Calls Tryd.prog 78 #[.agg #[.bool b, .int .i64 n]] w fun e w' => e = .returned (.bool (rightI b n)) ∧ Below w.heap.size w w' := by
  by_cases h : 0 ≤ n
  · have hd : decide (0 ≤ n) = true := by simpa using h
    have hr := Lib.hid (rightI_of b n h)
    have c1 := Lib.hid (fun w => refLimit_any b w)
    go_enter Tryd.func78, Tryd.ntmps78
    go_wp2_with fail
    go_quiet ((go_at_call 91; exact Calls.quiet_of_same (turned (c1.out _))))
    go_wp2_with fail
    go_ret
    exact ⟨congrArg (fun b => Ending.returned (.bool b)) hr.out, below_drewN (Joins.below_alloc1 _ _) _⟩
  · have hd : decide (0 ≤ n) = false := by simpa using h
    have hr := Lib.hid (rightI_neg b n h)
    go_enter Tryd.func78, Tryd.ntmps78
    go_wp2_with fail
    go_quiet (fail)
    go_wp2_with fail
    go_ret
    exact ⟨congrArg (fun b => Ending.returned (.bool b)) hr.out, below_drewN (Joins.below_alloc1 _ _) _⟩

end Go.Proofs.YtehajmockicilaaDoor

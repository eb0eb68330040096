/-
  What the statements' own helpers of layer 3 do: pick and awake.
-/
import Derived.Test.YtmpaffpmmmpadaaVecRefList
import Derived.OpenShut
import Derived.Lib.SmallJoins
namespace Go.Proofs.Ytmpaffpmmmpadaa
open Go.RowKit

/-- Which of n things a raw number speaks of. -/
def pickI (c n : Int) : Int := (if c < 0 then -(c + 1) else c) % n
theorem pickI_range (c n : Int) (hn : 0 < n) : 0 ≤ pickI c n ∧ pickI c n < n := ⟨Int.emod_nonneg _ (by omega), Int.emod_lt_of_pos _ hn⟩

theorem pick_neg_value (c n : Int) (hc : (Lit.int .i64 c).wf = true) (h : c < 0) : (wrap64 (-wrap64 (c + 1))).tmod n = pickI c n := by
  have hb := bounds_i64 hc
  rw [w64 (c + 1) (by omega) (by omega), w64 _ (by omega) (by omega), Int.tmod_eq_emod_of_nonneg (by omega)]
  unfold pickI
  rw [if_pos h]
theorem pick_pos_value (c n : Int) (h : ¬ c < 0) : c % n = pickI c n := by
  unfold pickI
  rw [if_neg h]

theorem pick_any (c n : Int) (hc : (Lit.int .i64 c).wf = true) (hn : 0 < n) (w : World) :
    Calls Try.prog 10 #[.int .i64 c, .int .i64 n] w fun e w' => e = .returned (.int .i64 (pickI c n)) ∧ w = w' := by
  by_cases h : c < 0
  · have hv := Lib.hid (pick_neg_value c n hc h)
    have HC := Lib.hid hc; clear hc
    go_enter Try.func10, Try.ntmps10
    go_wp2
    go_ret
    exact ⟨congrArg (fun n => Ending.returned (.int .i64 n)) hv.out, rfl⟩
  · have hv := Lib.hid (pick_pos_value c n h)
    have h0 : 0 ≤ c := by omega
    have HC := Lib.hid hc; clear hc
    go_enter Try.func10, Try.ntmps10
    go_wp2
    go_ret
    exact ⟨congrArg (fun n => Ending.returned (.int .i64 n)) hv.out, rfl⟩

/-- Two numbers that the caller's own statement laid. -/
theorem Row.two (W : World) (a b : Int) : Row (W.alloc (.cells #[.int .i64 a, .int .i64 b] 3)) (W.heap.size + 1) (some ⟨W.heap.size, 0, none⟩) [a, b] := fun _ =>
  ⟨_, rfl, by show W.heap.size < _; omega, fun j x hx => by
    have hj : j < 2 := (List.getElem?_eq_some_iff.1 hx).1
    rcases (show j = 0 ∨ j = 1 by omega) with rfl | rfl <;> simp at hx <;> subst hx <;> simp [Addr.add, go_sem]⟩

set_option maxHeartbeats 400000 in
theorem awake_any (w : World) : Calls Try.prog 9 #[] w fun e w' => e = .returned (.bool true) ∧ Below w.heap.size w w' := by
  have c1 := fun w A B (h : Row w B A [0, 3]) => of_any A 2 B [0, 3] w h (by decide)
  rw [show ofI [0, 3] = 9 from by decide] at c1
  have c2 := fun w => list_any 9 w
  rw [show listI 9 = [0, 3] from by decide] at c2
  have c3 := fun (A A' : Option Addr) (c c' B B' : Nat) (w : World) (ha : Row w B A [0, 3]) (hb : Row w B' A' [0, 3]) => ints_any A A' c c' B B' [0, 3] [0, 3] w ha hb (by decide)
  rw [show decide (([0, 3] : List Int) = [0, 3]) = true from by decide] at c3
  have c4 := fun w => most_any 3 3 w
  rw [show mostB 3 3 = true from by decide] at c4
  have c5 := fun w => most_any 3 4 w
  rw [show mostB 3 4 = false from by decide] at c5
  have c6 := fun w => all_any 3 w
  rw [show allI 3 = 7 from by decide] at c6
  have c7 := fun w => has_any 4 2 w
  rw [show hasB 4 2 = true from by decide] at c7
  have c8 := fun w => with_any 1 1 w
  rw [show withI 1 1 = 3 from by decide] at c8
  have c9 := fun w => without_any 3 0 w
  rw [show withoutI 3 0 = 2 from by decide] at c9
  have c10 := fun w => count_any (-1) w
  rw [show countI (-1) = 16 from by decide] at c10
  go_enter Try.func9, Try.ntmps9
  go_wp2_with fail; refine (c1 _ _ _ (Row.two _ _ _)).mono ?_; rintro e w1 ⟨rfl, rfl⟩
  have b1 := Joins.below_alloc1 w (.cells #[.int .i64 0, .int .i64 3] 3)
  generalize w.alloc (.cells #[.int .i64 0, .int .i64 3] 3) = w1 at *
  go_wp2_with fail; refine (c2 _).mono ?_; rintro e w2 ⟨u, rfl, hrow, b2⟩
  obtain ⟨A, c, rfl, _, hr⟩ := Row.of_own hrow
  clear hrow
  have hr3 := hr.below (Joins.below_alloc1 w2 (.cells #[.int .i64 0, .int .i64 3] 3)) (Nat.le_refl _)
  go_wp2_with fail; refine (c3 _ _ _ _ _ _ _ hr3 (Row.two _ _ _)).mono ?_; rintro e w3 ⟨rfl, n3, rfl⟩
  have b3 := below_drewN (Joins.below_alloc1 w2 (.cells #[.int .i64 0, .int .i64 3] 3)) n3
  generalize (w2.alloc (.cells #[.int .i64 0, .int .i64 3] 3)).drewN n3 = w3 at *
  clear hr hr3
  go_wp2_with fail; refine (c4 _).mono ?_; rintro e w4 ⟨rfl, b4⟩
  go_wp2_with fail; refine (c5 _).mono ?_; rintro e w5 ⟨rfl, b5⟩
  go_wp2_with fail; refine (c6 _).mono ?_; rintro e w6 ⟨rfl, rfl⟩
  go_wp2_with fail; refine (c7 _).mono ?_; rintro e w6 ⟨rfl, rfl⟩
  go_wp2_with fail; refine (c8 _).mono ?_; rintro e w6 ⟨rfl, rfl⟩
  go_wp2_with fail; refine (c9 _).mono ?_; rintro e w6 ⟨rfl, rfl⟩
  go_wp2_with fail; refine (c10 _).mono ?_; rintro e w6 ⟨rfl, b6⟩
  go_wp2_with fail
  go_ret
  have s1 := b1.size
  have s2 := b2.size
  have s3 := b3.size
  have s4 := b4.size
  have s5 := b5.size
  exact ⟨rfl, ((((b1.trans (b2.mono (by omega))).trans (b3.mono (by omega))).trans (b4.mono (by omega))).trans (b5.mono (by omega))).trans (b6.mono (by omega))⟩

end Go.Proofs.Ytmpaffpmmmpadaa

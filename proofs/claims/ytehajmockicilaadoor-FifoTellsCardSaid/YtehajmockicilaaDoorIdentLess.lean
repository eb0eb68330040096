/-
  Which identifiers go ahead of others: what ident.Less does, and the document's.
-/
import Derived.Test.YtehajmockicilaaDoorIdentKey
namespace Go.Proofs.YtehajmockicilaaDoor
open Go.RowKit

/-- Which goes ahead. -/
def lessI (b : Bool) (n : Int) (c : Bool) (m : Int) : Bool := rightI b n && (rightI c m && decide (keyI b n < keyI c m))

theorem keyV_right {b : Bool} {n : Int} (h : rightI b n = true) : keyV b n = keyI b n := by unfold keyV; rw [h]; rfl
theorem keyE_right {b : Bool} {n : Int} (h : rightI b n = true) : keyE b n = 0 := by unfold keyE; rw [h]; rfl
theorem keyV_wrong {b : Bool} {n : Int} (h : rightI b n = false) : keyV b n = 0 := by unfold keyV; rw [h]; rfl
theorem keyE_wrong {b : Bool} {n : Int} (h : rightI b n = false) : keyE b n = 1 := by unfold keyE; rw [h]; rfl
theorem keyI_range {b : Bool} {n : Int} (h : rightI b n = true) : 0 ≤ keyI b n ∧ keyI b n < 1073741824 := by
  have hr := right_range h
  cases b
  · rw [lim_false] at hr
    show 0 ≤ 524288 * n ∧ 524288 * n < 1073741824
    omega
  · rw [lim_true] at hr
    show 0 ≤ 524288 * (n / 262144) + 262144 + n % 262144 ∧ 524288 * (n / 262144) + 262144 + n % 262144 < 1073741824
    omega
theorem keyV_range (b : Bool) (n : Int) : 0 ≤ keyV b n ∧ keyV b n < 1073741824 := by
  cases h : rightI b n
  · rw [keyV_wrong h]; omega
  · rw [keyV_right h]; exact keyI_range h

theorem less_any (b : Bool) (n : Int) (c : Bool) (m : Int) (w : World) (L : Laid w) :
    Calls Tryd.prog 85 #[.agg #[.bool b, .int .i64 n], .agg #[.bool c, .int .i64 m]] w fun e w' => e = .returned (.bool (lessI b n c m)) ∧ Below w.heap.size w w' := by
  have c1 := fun w L => key_any b n w L
  have c2 := fun w L => key_any c m w L
  obtain ⟨r, hr⟩ : ∃ r, r = lessI b n c m := ⟨_, rfl⟩
  rw [← hr]
  unfold lessI at hr
  cases h1 : rightI b n
  · rw [keyV_wrong h1, keyE_wrong h1] at c1
    rw [h1, Bool.false_and] at hr
    generalize keyV c m = K2 at c2
    generalize keyE c m = E2 at c2
    have C1 := Lib.hid c1; clear c1
    have C2 := Lib.hid c2; clear c2
    have H1 := Lib.hid h1; clear h1
    subst hr
    go_enter Tryd.func85, Tryd.ntmps85
    go_wp2_with fail
    refine (C1.out _ ((L.alloc _).alloc _)).mono ?_
    rintro e w1 ⟨rfl, hb1⟩
    obtain ⟨hc, hf⟩ := bcell hb1
    go_wp2_with fail
    refine (C2.out _ (((L.alloc _).alloc _).below hb1)).mono ?_
    rintro e w2 ⟨rfl, hb2⟩
    go_wp2_with fail
    go_ret
    exact ⟨rfl, (Joins.below_alloc2 _ _ _).trans ((hb1.mono (by simp; omega)).trans (hb2.mono (by have := hb1.size; simp at this; omega)))⟩
  · rw [keyV_right h1, keyE_right h1] at c1
    rw [h1, Bool.true_and] at hr
    cases h2 : rightI c m
    · rw [keyV_wrong h2, keyE_wrong h2] at c2
      rw [h2, Bool.false_and] at hr
      generalize keyI b n = K1 at c1
      have C1 := Lib.hid c1; clear c1
      have C2 := Lib.hid c2; clear c2
      have H1 := Lib.hid h1; clear h1
      have H2 := Lib.hid h2; clear h2
      subst hr
      go_enter Tryd.func85, Tryd.ntmps85
      go_wp2_with fail
      refine (C1.out _ ((L.alloc _).alloc _)).mono ?_
      rintro e w1 ⟨rfl, hb1⟩
      obtain ⟨hc, hf⟩ := bcell hb1
      go_wp2_with fail
      refine (C2.out _ (((L.alloc _).alloc _).below hb1)).mono ?_
      rintro e w2 ⟨rfl, hb2⟩
      go_wp2_with fail
      go_ret
      exact ⟨rfl, (Joins.below_alloc2 _ _ _).trans ((hb1.mono (by simp; omega)).trans (hb2.mono (by have := hb1.size; simp at this; omega)))⟩
    · rw [keyV_right h2, keyE_right h2] at c2
      rw [h2, Bool.true_and] at hr
      generalize keyI b n = K1 at c1 hr
      generalize keyI c m = K2 at c2 hr
      have C1 := Lib.hid c1; clear c1
      have C2 := Lib.hid c2; clear c2
      have H1 := Lib.hid h1; clear h1
      have H2 := Lib.hid h2; clear h2
      have HR := Lib.hid hr; clear hr
      go_enter Tryd.func85, Tryd.ntmps85
      go_wp2_with fail
      refine (C1.out _ ((L.alloc _).alloc _)).mono ?_
      rintro e w1 ⟨rfl, hb1⟩
      obtain ⟨hc, hf⟩ := bcell hb1
      go_wp2_with fail
      refine (C2.out _ (((L.alloc _).alloc _).below hb1)).mono ?_
      rintro e w2 ⟨rfl, hb2⟩
      go_wp2_with fail
      go_ret
      exact ⟨congrArg (fun b => Ending.returned (.bool b)) HR.out.symm, (Joins.below_alloc2 _ _ _).trans ((hb1.mono (by simp; omega)).trans (hb2.mono (by have := hb1.size; simp at this; omega)))⟩

theorem refLess_any (b : Bool) (n : Int) (c : Bool) (m : Int) (w : World) :
    Calls Tryd.prog 74 #[.agg #[.bool b, .int .i64 n], .agg #[.bool c, .int .i64 m]] w fun e w' => e = .returned (.bool (lessI b n c m)) ∧ Below w.heap.size w w' := by
  have c1 := fun w => refKey_any b n w
  have c2 := fun w => refKey_any c m w
  obtain ⟨r, hr⟩ : ∃ r, r = lessI b n c m := ⟨_, rfl⟩
  rw [← hr]
  unfold lessI at hr
  cases h1 : rightI b n
  · rw [keyV_wrong h1, keyE_wrong h1] at c1
    rw [h1, Bool.false_and] at hr
    generalize keyV c m = K2 at c2
    generalize keyE c m = E2 at c2
    have C1 := Lib.hid c1; clear c1
    have C2 := Lib.hid c2; clear c2
    have H1 := Lib.hid h1; clear h1
    subst hr
    go_enter Tryd.func74, Tryd.ntmps74
    go_wp2_with fail
    refine (C1.out _).mono ?_
    rintro e w1 ⟨rfl, hb1⟩
    obtain ⟨hc, hf⟩ := bcell hb1
    go_wp2_with fail
    refine (C2.out _).mono ?_
    rintro e w2 ⟨rfl, hb2⟩
    go_wp2_with fail
    go_ret
    exact ⟨rfl, (Joins.below_alloc2 _ _ _).trans ((hb1.mono (by simp; omega)).trans (hb2.mono (by have := hb1.size; simp at this; omega)))⟩
  · rw [keyV_right h1, keyE_right h1] at c1
    rw [h1, Bool.true_and] at hr
    cases h2 : rightI c m
    · rw [keyV_wrong h2, keyE_wrong h2] at c2
      rw [h2, Bool.false_and] at hr
      generalize keyI b n = K1 at c1
      have C1 := Lib.hid c1; clear c1
      have C2 := Lib.hid c2; clear c2
      have H1 := Lib.hid h1; clear h1
      have H2 := Lib.hid h2; clear h2
      subst hr
      go_enter Tryd.func74, Tryd.ntmps74
      go_wp2_with fail
      refine (C1.out _).mono ?_
      rintro e w1 ⟨rfl, hb1⟩
      obtain ⟨hc, hf⟩ := bcell hb1
      go_wp2_with fail
      refine (C2.out _).mono ?_
      rintro e w2 ⟨rfl, hb2⟩
      go_wp2_with fail
      go_ret
      exact ⟨rfl, (Joins.below_alloc2 _ _ _).trans ((hb1.mono (by simp; omega)).trans (hb2.mono (by have := hb1.size; simp at this; omega)))⟩
    · rw [keyV_right h2, keyE_right h2] at c2
      rw [h2, Bool.true_and] at hr
      generalize keyI b n = K1 at c1 hr
      generalize keyI c m = K2 at c2 hr
      have C1 := Lib.hid c1; clear c1
      have C2 := Lib.hid c2; clear c2
      have H1 := Lib.hid h1; clear h1
      have H2 := Lib.hid h2; clear h2
      have HR := Lib.hid hr; clear hr
      go_enter Tryd.func74, Tryd.ntmps74
      go_wp2_with fail
      refine (C1.out _).mono ?_
      rintro e w1 ⟨rfl, hb1⟩
      obtain ⟨hc, hf⟩ := bcell hb1
      go_wp2_with fail
      refine (C2.out _).mono ?_
      rintro e w2 ⟨rfl, hb2⟩
      go_wp2_with fail
      go_ret
      exact ⟨congrArg (fun b => Ending.returned (.bool b)) HR.out.symm, (Joins.below_alloc2 _ _ _).trans ((hb1.mono (by simp; omega)).trans (hb2.mono (by have := hb1.size; simp at this; omega)))⟩

end Go.Proofs.YtehajmockicilaaDoor

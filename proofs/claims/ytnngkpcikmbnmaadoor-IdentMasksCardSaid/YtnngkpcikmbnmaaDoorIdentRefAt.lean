/-
  The identifier of a key: what the document's At does.
-/
import Derived.Test.YtnngkpcikmbnmaaDoorIdentAt
namespace Go.Proofs.YtnngkpcikmbnmaaDoor
open Go.RowKit

theorem at_neg (k : Int) (h : k < 0) : atOk k = false := by
  unfold atOk
  cases h2 : rightI (atB k) (atN k)
  · rfl
  · have := (keyI_range h2).1
    rw [Bool.true_and]
    exact beq_eq_false_iff_ne.2 (by omega)

/-- The document's way to the number of a wide one. -/
theorem at_ref (k : Int) (_h0 : 0 ≤ k) (hb : atB k = true) (M : Int) (hM : M = k / 524288 % 262144 * 262144 + k % 524288 - 262144) :
    (rightI true M && (keyI true M == k)) = atOk k ∧ (atOk k = true → M = atN k) := by
  have hb2 : 262144 ≤ k % 524288 := by unfold atB at hb; simpa using hb
  have hN : atN k = k / 524288 * 262144 + k % 262144 := by unfold atN; rw [if_pos hb]
  have e1 : ∀ n, keyI true n = 524288 * (n / 262144) + 262144 + n % 262144 := fun _ => rfl
  have e2 : ∀ n, rightI true n = (decide (0 ≤ n) && decide (n ≤ 536870911)) := fun _ => rfl
  have hk : keyI true (atN k) = k := by rw [e1, hN]; omega
  unfold atOk
  rw [hb, hk, beq_self_eq_true, Bool.and_true]
  by_cases hr : rightI true (atN k) = true
  · have hr2 := right_range hr
    rw [lim_true, hN] at hr2
    have : M = atN k := by rw [hM, hN]; omega
    rw [this, hr, hk, beq_self_eq_true]
    exact ⟨rfl, fun _ => rfl⟩
  · have hr3 : rightI true (atN k) = false := by simpa using hr
    rw [hr3]
    refine ⟨?_, fun h => by cases h⟩
    by_cases hk2 : keyI true M = k
    · have : M = atN k := by rw [e1] at hk2; rw [hN]; omega
      rw [this, hr3]; rfl
    · rw [beq_eq_false_iff_ne.2 hk2, Bool.and_false]

theorem at_none (k : Int) (hok : atOk k = false) : ∀ w w', Below w.heap.size w w' → AtPost k w (.returned (.tuple #[.agg #[.bool false, .int .i64 0], .int .i64 1])) w' := by
  intro w w' hb
  refine ⟨?_, hb⟩
  have e1 : atRB k = false := by unfold atRB; rw [hok]; rfl
  have e2 : atRN k = 0 := by unfold atRN; rw [hok]; rfl
  have e3 : atRE k = 1 := by unfold atRE; rw [hok]; rfl
  rw [e1, e2, e3]

theorem at_one (k : Int) (b : Bool) (N : Int) (hok : atOk k = true) (h : atB k = b) (hN : N = atN k) : ∀ w w', Below w.heap.size w w' → AtPost k w (.returned (.tuple #[.agg #[.bool b, .int .i64 N], .int .i64 0])) w' := by
  intro w w' hb
  refine ⟨?_, hb⟩
  have e1 : atRB k = b := by unfold atRB; rw [hok, h]; rfl
  have e2 : atRN k = N := by unfold atRN; rw [hok, if_pos rfl, hN]
  have e3 : atRE k = 0 := by unfold atRE; rw [hok]; rfl
  rw [e1, e2, e3]

theorem refAt_neg (k : Int) (h : k < 0) (w : World) :
    Calls Tryd.prog 13 #[.int .i64 k] w (AtPost k w) := by
  have HQ := Lib.hid (at_none k (at_neg k h))
  go_enter Tryd.func13, Tryd.ntmps13
  go_wp2_with fail
  have q0 : (w.alloc (.cells #[.bool false, .int .i64 0] 23)).cell? ⟨w.heap.size, 0, none⟩ = some (.bool false) := by simp [go_sem]
  have q1 : (w.alloc (.cells #[.bool false, .int .i64 0] 23)).cell? ⟨w.heap.size, 1, none⟩ = some (.int .i64 0) := by simp [go_sem]
  exact bodyPost_ret (v := .tuple #[.agg #[.bool false, .int .i64 0], .int .i64 1]) (by simp [results, Tryd.results13, go_sem, q0, q1]) rfl (HQ.out _ _ (Joins.below_alloc1 _ _))

theorem refAt_short_wrong (k : Int) (h0 : 0 ≤ k) (hr2 : k ≤ 9223372036854775807) (h : atB k = false) (h2 : rightI false (k / 524288) = false) (HQ : Hid (∀ w w', Below w.heap.size w w' → AtPost k w (.returned (.tuple #[.agg #[.bool false, .int .i64 0], .int .i64 1])) w')) (w : World) :
    Calls Tryd.prog 13 #[.int .i64 k] w (AtPost k w) := by
  have hb0 : decide (262144 ≤ k % 524288) = false := h
  have c1 := fun w => refKey_any false (k / 524288) w
  rw [keyV_wrong h2, keyE_wrong h2] at c1
  have C1 := Lib.hid c1; clear c1
  clear h h2
  go_enter Tryd.func13, Tryd.ntmps13
  go_wp2_with fail
  refine (C1.out _).mono ?_
  rintro e w1 ⟨rfl, hb1⟩
  obtain ⟨hc, hf⟩ := bcell hb1
  have hz : w.heap.size + 1 < w1.heap.size := by have := hb1.size; simp at this; omega
  have q0 : w1.cell? ⟨w.heap.size, 0, none⟩ = some (.bool false) := (hc _ _ (by simp; omega)).trans (by simp [go_sem])
  have q1 : w1.cell? ⟨w.heap.size, 1, none⟩ = some (.int .i64 0) := (hc _ _ (by simp; omega)).trans (by simp [go_sem])
  go_wp2_with fail
  exact bodyPost_ret (v := .tuple #[.agg #[.bool false, .int .i64 0], .int .i64 1]) (by simp [results, Tryd.results13, go_sem, q0, q1]) rfl (HQ.out _ _ ((((Joins.below_alloc2 _ _ _).trans (hb1.mono (by simp; omega))).setCell (by simp) _).setCell (by simp) _))

theorem refAt_short_same (k : Int) (h0 : 0 ≤ k) (hr2 : k ≤ 9223372036854775807) (h : atB k = false) (h2 : rightI false (k / 524288) = true) (h3 : keyI false (k / 524288) = k) (HQ : Hid (∀ w w', Below w.heap.size w w' → AtPost k w (.returned (.tuple #[.agg #[.bool false, .int .i64 (k / 524288)], .int .i64 0])) w')) (w : World) :
    Calls Tryd.prog 13 #[.int .i64 k] w (AtPost k w) := by
  have hb0 : decide (262144 ≤ k % 524288) = false := h
  have c1 := fun w => refKey_any false (k / 524288) w
  rw [keyV_right h2, keyE_right h2, h3] at c1
  clear h3
  have C1 := Lib.hid c1; clear c1
  clear h h2
  go_enter Tryd.func13, Tryd.ntmps13
  go_wp2_with fail
  refine (C1.out _).mono ?_
  rintro e w1 ⟨rfl, hb1⟩
  obtain ⟨hc, hf⟩ := bcell hb1
  have hz : w.heap.size + 1 < w1.heap.size := by have := hb1.size; simp at this; omega
  have q0 : w1.cell? ⟨w.heap.size, 0, none⟩ = some (.bool false) := (hc _ _ (by simp; omega)).trans (by simp [go_sem])
  have q1 : w1.cell? ⟨w.heap.size, 1, none⟩ = some (.int .i64 0) := (hc _ _ (by simp; omega)).trans (by simp [go_sem])
  go_wp2_with fail
  exact bodyPost_ret (v := .tuple #[.agg #[.bool false, .int .i64 (k / 524288)], .int .i64 0]) (by simp [results, Tryd.results13, go_sem, q0, q1]) rfl (HQ.out _ _ ((((Joins.below_alloc2 _ _ _).trans (hb1.mono (by simp; omega))).setCell (by simp) _).setCell (by simp) _))

theorem refAt_short_other (k : Int) (h0 : 0 ≤ k) (hr2 : k ≤ 9223372036854775807) (h : atB k = false) (h2 : rightI false (k / 524288) = true) (h3 : keyI false (k / 524288) ≠ k) (HQ : Hid (∀ w w', Below w.heap.size w w' → AtPost k w (.returned (.tuple #[.agg #[.bool false, .int .i64 0], .int .i64 1])) w')) (w : World) :
    Calls Tryd.prog 13 #[.int .i64 k] w (AtPost k w) := by
  have hb0 : decide (262144 ≤ k % 524288) = false := h
  have c1 := fun w => refKey_any false (k / 524288) w
  rw [keyV_right h2, keyE_right h2] at c1
  have h4 : (keyI false (k / 524288) == k) = false := beq_eq_false_iff_ne.2 h3
  have h5 : (keyI false (k / 524288) != k) = true := bne_iff_ne.2 h3
  clear h3
  generalize keyI false (k / 524288) = K at c1 h4 h5
  have C1 := Lib.hid c1; clear c1
  clear h h2
  go_enter Tryd.func13, Tryd.ntmps13
  go_wp2_with fail
  refine (C1.out _).mono ?_
  rintro e w1 ⟨rfl, hb1⟩
  obtain ⟨hc, hf⟩ := bcell hb1
  have hz : w.heap.size + 1 < w1.heap.size := by have := hb1.size; simp at this; omega
  have q0 : w1.cell? ⟨w.heap.size, 0, none⟩ = some (.bool false) := (hc _ _ (by simp; omega)).trans (by simp [go_sem])
  have q1 : w1.cell? ⟨w.heap.size, 1, none⟩ = some (.int .i64 0) := (hc _ _ (by simp; omega)).trans (by simp [go_sem])
  go_wp2_with fail
  exact bodyPost_ret (v := .tuple #[.agg #[.bool false, .int .i64 0], .int .i64 1]) (by simp [results, Tryd.results13, go_sem, q0, q1]) rfl (HQ.out _ _ ((((Joins.below_alloc2 _ _ _).trans (hb1.mono (by simp; omega))).setCell (by simp) _).setCell (by simp) _))

theorem refAt_wide_wrong (k : Int) (h0 : 0 ≤ k) (hr2 : k ≤ 9223372036854775807) (h : atB k = true) (M : Int) (hM : k / 524288 % 262144 * 262144 + k % 524288 - 262144 = M) (h2 : rightI true M = false) (HQ : Hid (∀ w w', Below w.heap.size w w' → AtPost k w (.returned (.tuple #[.agg #[.bool false, .int .i64 0], .int .i64 1])) w')) (w : World) :
    Calls Tryd.prog 13 #[.int .i64 k] w (AtPost k w) := by
  have hb0 : decide (262144 ≤ k % 524288) = true := h
  have c1 := fun w => refKey_any true M w
  rw [keyV_wrong h2, keyE_wrong h2] at c1
  have C1 := Lib.hid c1; clear c1
  clear h h2
  have HM := Lib.hid hM; clear hM
  go_enter Tryd.func13, Tryd.ntmps13
  go_wp2_with fail
  rw [HM.out]
  refine (C1.out _).mono ?_
  rintro e w1 ⟨rfl, hb1⟩
  obtain ⟨hc, hf⟩ := bcell hb1
  have hz : w.heap.size + 1 < w1.heap.size := by have := hb1.size; simp at this; omega
  have q0 : w1.cell? ⟨w.heap.size, 0, none⟩ = some (.bool false) := (hc _ _ (by simp; omega)).trans (by simp [go_sem])
  have q1 : w1.cell? ⟨w.heap.size, 1, none⟩ = some (.int .i64 0) := (hc _ _ (by simp; omega)).trans (by simp [go_sem])
  go_wp2_with fail
  exact bodyPost_ret (v := .tuple #[.agg #[.bool false, .int .i64 0], .int .i64 1]) (by simp [results, Tryd.results13, go_sem, q0, q1]) rfl (HQ.out _ _ ((((Joins.below_alloc2 _ _ _).trans (hb1.mono (by simp; omega))).setCell (by simp) _).setCell (by simp) _))

theorem refAt_wide_same (k : Int) (h0 : 0 ≤ k) (hr2 : k ≤ 9223372036854775807) (h : atB k = true) (M : Int) (hM : k / 524288 % 262144 * 262144 + k % 524288 - 262144 = M) (h2 : rightI true M = true) (h3 : keyI true M = k) (HQ : Hid (∀ w w', Below w.heap.size w w' → AtPost k w (.returned (.tuple #[.agg #[.bool true, .int .i64 M], .int .i64 0])) w')) (w : World) :
    Calls Tryd.prog 13 #[.int .i64 k] w (AtPost k w) := by
  have hb0 : decide (262144 ≤ k % 524288) = true := h
  have c1 := fun w => refKey_any true M w
  rw [keyV_right h2, keyE_right h2, h3] at c1
  clear h3
  have C1 := Lib.hid c1; clear c1
  clear h h2
  have HM := Lib.hid hM; clear hM
  go_enter Tryd.func13, Tryd.ntmps13
  go_wp2_with fail
  rw [HM.out]
  refine (C1.out _).mono ?_
  rintro e w1 ⟨rfl, hb1⟩
  obtain ⟨hc, hf⟩ := bcell hb1
  have hz : w.heap.size + 1 < w1.heap.size := by have := hb1.size; simp at this; omega
  have q0 : w1.cell? ⟨w.heap.size, 0, none⟩ = some (.bool false) := (hc _ _ (by simp; omega)).trans (by simp [go_sem])
  have q1 : w1.cell? ⟨w.heap.size, 1, none⟩ = some (.int .i64 0) := (hc _ _ (by simp; omega)).trans (by simp [go_sem])
  go_wp2_with fail
  exact bodyPost_ret (v := .tuple #[.agg #[.bool true, .int .i64 M], .int .i64 0]) (by simp [results, Tryd.results13, go_sem, q0, q1]) rfl (HQ.out _ _ ((((Joins.below_alloc2 _ _ _).trans (hb1.mono (by simp; omega))).setCell (by simp) _).setCell (by simp) _))

theorem refAt_wide_other (k : Int) (h0 : 0 ≤ k) (hr2 : k ≤ 9223372036854775807) (h : atB k = true) (M : Int) (hM : k / 524288 % 262144 * 262144 + k % 524288 - 262144 = M) (h2 : rightI true M = true) (h3 : keyI true M ≠ k) (HQ : Hid (∀ w w', Below w.heap.size w w' → AtPost k w (.returned (.tuple #[.agg #[.bool false, .int .i64 0], .int .i64 1])) w')) (w : World) :
    Calls Tryd.prog 13 #[.int .i64 k] w (AtPost k w) := by
  have hb0 : decide (262144 ≤ k % 524288) = true := h
  have c1 := fun w => refKey_any true M w
  rw [keyV_right h2, keyE_right h2] at c1
  have h4 : (keyI true M == k) = false := beq_eq_false_iff_ne.2 h3
  have h5 : (keyI true M != k) = true := bne_iff_ne.2 h3
  clear h3
  generalize keyI true M = K at c1 h4 h5
  have C1 := Lib.hid c1; clear c1
  clear h h2
  have HM := Lib.hid hM; clear hM
  go_enter Tryd.func13, Tryd.ntmps13
  go_wp2_with fail
  rw [HM.out]
  refine (C1.out _).mono ?_
  rintro e w1 ⟨rfl, hb1⟩
  obtain ⟨hc, hf⟩ := bcell hb1
  have hz : w.heap.size + 1 < w1.heap.size := by have := hb1.size; simp at this; omega
  have q0 : w1.cell? ⟨w.heap.size, 0, none⟩ = some (.bool false) := (hc _ _ (by simp; omega)).trans (by simp [go_sem])
  have q1 : w1.cell? ⟨w.heap.size, 1, none⟩ = some (.int .i64 0) := (hc _ _ (by simp; omega)).trans (by simp [go_sem])
  go_wp2_with fail
  exact bodyPost_ret (v := .tuple #[.agg #[.bool false, .int .i64 0], .int .i64 1]) (by simp [results, Tryd.results13, go_sem, q0, q1]) rfl (HQ.out _ _ ((((Joins.below_alloc2 _ _ _).trans (hb1.mono (by simp; omega))).setCell (by simp) _).setCell (by simp) _))

theorem refAt_any (k : Int) (hk : (Lit.int .i64 k).wf = true) (w : World) :
    Calls Tryd.prog 13 #[.int .i64 k] w (AtPost k w) := by
  have hr := bounds_i64 hk
  by_cases h0 : k < 0
  · exact refAt_neg k h0 w
  cases h : atB k
  · have hN : k / 524288 = atN k := by unfold atN; rw [h]; rfl
    cases h2 : rightI false (k / 524288)
    · exact refAt_short_wrong k (by omega) hr.2 h h2 (at_none k (by unfold atOk; rw [h, ← hN, h2]; rfl)) w
    · by_cases h3 : keyI false (k / 524288) = k
      · exact refAt_short_same k (by omega) hr.2 h h2 h3 (at_one k _ _ (by unfold atOk; rw [h, ← hN, h2, h3, Bool.true_and]; exact beq_self_eq_true k) h hN) w
      · exact refAt_short_other k (by omega) hr.2 h h2 h3 (at_none k (by unfold atOk; rw [h, ← hN, h2, Bool.true_and]; exact beq_eq_false_iff_ne.2 h3)) w
  · obtain ⟨M, hM⟩ : ∃ M, k / 524288 % 262144 * 262144 + k % 524288 - 262144 = M := ⟨_, rfl⟩
    obtain ⟨r1, r2⟩ := at_ref k (by omega) h M hM.symm
    cases h2 : rightI true M
    · rw [h2, Bool.false_and] at r1
      exact refAt_wide_wrong k (by omega) hr.2 h M hM h2 (at_none k r1.symm) w
    · by_cases h3 : keyI true M = k
      · rw [h2, h3, beq_self_eq_true] at r1
        exact refAt_wide_same k (by omega) hr.2 h M hM h2 h3 (at_one k _ _ r1.symm h (r2 r1.symm)) w
      · rw [h2, beq_eq_false_iff_ne.2 h3] at r1
        exact refAt_wide_other k (by omega) hr.2 h M hM h2 h3 (at_none k r1.symm) w

end Go.Proofs.YtnngkpcikmbnmaaDoor

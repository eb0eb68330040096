/-
  Which goes ahead, and the identifier of a key: what ident.Less and At do, and the document's.
-/
import Derived.Test.YtnngkpcikmbnmaaDoorIdentKey
namespace Go.Proofs.YtnngkpcikmbnmaaDoor
open Go.RowKit

/-- Which goes ahead. -/
def lessI (b : Bool) (n : Int) (c : Bool) (m : Int) : Bool := rightI b n && (rightI c m && decide (keyI b n < keyI c m))

theorem keyV_right {b : Bool} {n : Int} (h : rightI b n = true) : keyV b n = keyI b n := by unfold keyV; rw [h]; rfl
theorem keyE_right {b : Bool} {n : Int} (h : rightI b n = true) : keyE b n = 0 := by unfold keyE; rw [h]; rfl
theorem keyV_wrong {b : Bool} {n : Int} (h : rightI b n = false) : keyV b n = 0 := by unfold keyV; rw [h]; rfl
theorem keyE_wrong {b : Bool} {n : Int} (h : rightI b n = false) : keyE b n = 1 := by unfold keyE; rw [h]; rfl
theorem keyI_range {b : Bool} {n : Int} (h : rightI b n = true) : 0 ≤ keyI b n ∧ keyI b n < 1073741824 := by
  have hr := right_range h
  cases b
  · rw [lim_false] at hr
    show 0 ≤ 524288 * n ∧ 524288 * n < 1073741824
    omega
  · rw [lim_true] at hr
    show 0 ≤ 524288 * (n / 262144) + 262144 + n % 262144 ∧ 524288 * (n / 262144) + 262144 + n % 262144 < 1073741824
    omega
theorem keyV_range (b : Bool) (n : Int) : 0 ≤ keyV b n ∧ keyV b n < 1073741824 := by
  cases h : rightI b n
  · rw [keyV_wrong h]; omega
  · rw [keyV_right h]; exact keyI_range h

theorem less_any (b : Bool) (n : Int) (c : Bool) (m : Int) (w : World) (L : Laid w) :
    Calls Tryd.prog 18 #[.agg #[.bool b, .int .i64 n], .agg #[.bool c, .int .i64 m]] w fun e w' => e = .returned (.bool (lessI b n c m)) ∧ Below w.heap.size w w' := by
  have c1 := fun w L => key_any b n w L
  have c2 := fun w L => key_any c m w L
  obtain ⟨r, hr⟩ : ∃ r, r = lessI b n c m := ⟨_, rfl⟩
  rw [← hr]
  unfold lessI at hr
  cases h1 : rightI b n
  · rw [keyV_wrong h1, keyE_wrong h1] at c1
    rw [h1, Bool.false_and] at hr
    generalize keyV c m = K2 at c2
    generalize keyE c m = E2 at c2
    have C1 := Lib.hid c1; clear c1
    have C2 := Lib.hid c2; clear c2
    have H1 := Lib.hid h1; clear h1
    subst hr
    go_enter Tryd.func18, Tryd.ntmps18
    go_wp2_with fail
    refine (C1.out _ ((L.alloc _).alloc _)).mono ?_
    rintro e w1 ⟨rfl, hb1⟩
    obtain ⟨hc, hf⟩ := bcell hb1
    go_wp2_with fail
    refine (C2.out _ (((L.alloc _).alloc _).below hb1)).mono ?_
    rintro e w2 ⟨rfl, hb2⟩
    go_wp2_with fail
    go_ret
    exact ⟨rfl, (Joins.below_alloc2 _ _ _).trans ((hb1.mono (by simp; omega)).trans (hb2.mono (by have := hb1.size; simp at this; omega)))⟩
  · rw [keyV_right h1, keyE_right h1] at c1
    rw [h1, Bool.true_and] at hr
    cases h2 : rightI c m
    · rw [keyV_wrong h2, keyE_wrong h2] at c2
      rw [h2, Bool.false_and] at hr
      generalize keyI b n = K1 at c1
      have C1 := Lib.hid c1; clear c1
      have C2 := Lib.hid c2; clear c2
      have H1 := Lib.hid h1; clear h1
      have H2 := Lib.hid h2; clear h2
      subst hr
      go_enter Tryd.func18, Tryd.ntmps18
      go_wp2_with fail
      refine (C1.out _ ((L.alloc _).alloc _)).mono ?_
      rintro e w1 ⟨rfl, hb1⟩
      obtain ⟨hc, hf⟩ := bcell hb1
      go_wp2_with fail
      refine (C2.out _ (((L.alloc _).alloc _).below hb1)).mono ?_
      rintro e w2 ⟨rfl, hb2⟩
      go_wp2_with fail
      go_ret
      exact ⟨rfl, (Joins.below_alloc2 _ _ _).trans ((hb1.mono (by simp; omega)).trans (hb2.mono (by have := hb1.size; simp at this; omega)))⟩
    · rw [keyV_right h2, keyE_right h2] at c2
      rw [h2, Bool.true_and] at hr
      generalize keyI b n = K1 at c1 hr
      generalize keyI c m = K2 at c2 hr
      have C1 := Lib.hid c1; clear c1
      have C2 := Lib.hid c2; clear c2
      have H1 := Lib.hid h1; clear h1
      have H2 := Lib.hid h2; clear h2
      have HR := Lib.hid hr; clear hr
      go_enter Tryd.func18, Tryd.ntmps18
      go_wp2_with fail
      refine (C1.out _ ((L.alloc _).alloc _)).mono ?_
      rintro e w1 ⟨rfl, hb1⟩
      obtain ⟨hc, hf⟩ := bcell hb1
      go_wp2_with fail
      refine (C2.out _ (((L.alloc _).alloc _).below hb1)).mono ?_
      rintro e w2 ⟨rfl, hb2⟩
      go_wp2_with fail
      go_ret
      exact ⟨congrArg (fun b => Ending.returned (.bool b)) HR.out.symm, (Joins.below_alloc2 _ _ _).trans ((hb1.mono (by simp; omega)).trans (hb2.mono (by have := hb1.size; simp at this; omega)))⟩

theorem refLess_any (b : Bool) (n : Int) (c : Bool) (m : Int) (w : World) :
    Calls Tryd.prog 19 #[.agg #[.bool b, .int .i64 n], .agg #[.bool c, .int .i64 m]] w fun e w' => e = .returned (.bool (lessI b n c m)) ∧ Below w.heap.size w w' := by
  have c1 := fun w => refKey_any b n w
  have c2 := fun w => refKey_any c m w
  obtain ⟨r, hr⟩ : ∃ r, r = lessI b n c m := ⟨_, rfl⟩
  rw [← hr]
  unfold lessI at hr
  cases h1 : rightI b n
  · rw [keyV_wrong h1, keyE_wrong h1] at c1
    rw [h1, Bool.false_and] at hr
    generalize keyV c m = K2 at c2
    generalize keyE c m = E2 at c2
    have C1 := Lib.hid c1; clear c1
    have C2 := Lib.hid c2; clear c2
    have H1 := Lib.hid h1; clear h1
    subst hr
    go_enter Tryd.func19, Tryd.ntmps19
    go_wp2_with fail
    refine (C1.out _).mono ?_
    rintro e w1 ⟨rfl, hb1⟩
    obtain ⟨hc, hf⟩ := bcell hb1
    go_wp2_with fail
    refine (C2.out _).mono ?_
    rintro e w2 ⟨rfl, hb2⟩
    go_wp2_with fail
    go_ret
    exact ⟨rfl, (Joins.below_alloc2 _ _ _).trans ((hb1.mono (by simp; omega)).trans (hb2.mono (by have := hb1.size; simp at this; omega)))⟩
  · rw [keyV_right h1, keyE_right h1] at c1
    rw [h1, Bool.true_and] at hr
    cases h2 : rightI c m
    · rw [keyV_wrong h2, keyE_wrong h2] at c2
      rw [h2, Bool.false_and] at hr
      generalize keyI b n = K1 at c1
      have C1 := Lib.hid c1; clear c1
      have C2 := Lib.hid c2; clear c2
      have H1 := Lib.hid h1; clear h1
      have H2 := Lib.hid h2; clear h2
      subst hr
      go_enter Tryd.func19, Tryd.ntmps19
      go_wp2_with fail
      refine (C1.out _).mono ?_
      rintro e w1 ⟨rfl, hb1⟩
      obtain ⟨hc, hf⟩ := bcell hb1
      go_wp2_with fail
      refine (C2.out _).mono ?_
      rintro e w2 ⟨rfl, hb2⟩
      go_wp2_with fail
      go_ret
      exact ⟨rfl, (Joins.below_alloc2 _ _ _).trans ((hb1.mono (by simp; omega)).trans (hb2.mono (by have := hb1.size; simp at this; omega)))⟩
    · rw [keyV_right h2, keyE_right h2] at c2
      rw [h2, Bool.true_and] at hr
      generalize keyI b n = K1 at c1 hr
      generalize keyI c m = K2 at c2 hr
      have C1 := Lib.hid c1; clear c1
      have C2 := Lib.hid c2; clear c2
      have H1 := Lib.hid h1; clear h1
      have H2 := Lib.hid h2; clear h2
      have HR := Lib.hid hr; clear hr
      go_enter Tryd.func19, Tryd.ntmps19
      go_wp2_with fail
      refine (C1.out _).mono ?_
      rintro e w1 ⟨rfl, hb1⟩
      obtain ⟨hc, hf⟩ := bcell hb1
      go_wp2_with fail
      refine (C2.out _).mono ?_
      rintro e w2 ⟨rfl, hb2⟩
      go_wp2_with fail
      go_ret
      exact ⟨congrArg (fun b => Ending.returned (.bool b)) HR.out.symm, (Joins.below_alloc2 _ _ _).trans ((hb1.mono (by simp; omega)).trans (hb2.mono (by have := hb1.size; simp at this; omega)))⟩

/-- The identifier that a key may be of. -/
def atB (k : Int) : Bool := decide (262144 ≤ k % 524288)
def atN (k : Int) : Int := if atB k = true then k / 524288 * 262144 + k % 262144 else k / 524288
def atOk (k : Int) : Bool := rightI (atB k) (atN k) && (keyI (atB k) (atN k) == k)
def atRB (k : Int) : Bool := atOk k && atB k
def atRN (k : Int) : Int := if atOk k = true then atN k else 0
def atRE (k : Int) : Int := if atOk k = true then 0 else 1

theorem at_bit (k : Int) : (bits BinOp.and IntKind.i64 k 262144 != 0) = atB k := by
  rw [i64_bit18]
  unfold atB
  rcases Int.emod_two_eq (k / 262144) with h | h
  · rw [h]
    have : ¬ 262144 ≤ k % 524288 := by omega
    rw [decide_eq_false this]; rfl
  · rw [h]
    have : 262144 ≤ k % 524288 := by omega
    rw [decide_eq_true this]; rfl

theorem at_wide (k : Int) (hk : (Lit.int .i64 k).wf = true) (hb : atB k = true) : bits BinOp.or IntKind.i64 (k / 524288 * 262144) (bits BinOp.and IntKind.i64 k 262143) = atN k := by
  have hr := bounds_i64 hk
  rw [i64_low18, i64_or_parts 18 (by omega) _ _ (by omega) (by omega) (by omega) (by omega) (by omega)]
  unfold atN
  rw [if_pos hb]

def AtPost (k : Int) (w : World) (e : Ending) (w' : World) : Prop := e = .returned (.tuple #[.agg #[.bool (atRB k), .int .i64 (atRN k)], .int .i64 (atRE k)]) ∧ Below w.heap.size w w'

theorem at_any (k : Int) (hk : (Lit.int .i64 k).wf = true) (w : World) (L : Laid w) :
    Calls Tryd.prog 12 #[.int .i64 k] w (AtPost k w) := by
  have hr := bounds_i64 hk
  have hb0 := at_bit k
  have c1 := fun w L => key_any (atB k) (atN k) w L
  have hw := fun h => Lib.hid (at_wide k hk h)
  clear hk
  obtain ⟨hr1, hr2⟩ := hr
  cases h : atB k
  · obtain ⟨N, hN⟩ : ∃ N, N = atN k := ⟨_, rfl⟩
    rw [h] at hb0 c1
    have hv : N = k / 524288 := by rw [hN]; unfold atN; rw [h]; rfl
    clear hw
    rw [← hN] at c1
    subst hv
    have HN := Lib.hid hN.symm; clear hN
    cases h2 : rightI false (k / 524288)
    · rw [keyV_wrong h2, keyE_wrong h2] at c1
      have hok : atOk k = false := by unfold atOk; rw [h, HN.out, h2]; rfl
      have C1 := Lib.hid c1; clear c1
      have HP : ∀ w w', Below w.heap.size w w' → AtPost k w (.returned (.tuple #[.agg #[.bool false, .int .i64 0], .int .i64 1])) w' := by
        intro w w' hb
        refine ⟨?_, hb⟩
        have e1 : atRB k = false := by unfold atRB; rw [hok]; rfl
        have e2 : atRN k = 0 := by unfold atRN; rw [hok]; rfl
        have e3 : atRE k = 1 := by unfold atRE; rw [hok]; rfl
        rw [e1, e2, e3]
      have H := Lib.hid h; clear h
      have H2 := Lib.hid h2; clear h2
      have HK := Lib.hid hok; clear hok
      have HQ := Lib.hid HP; clear HP
      go_enter Tryd.func12, Tryd.ntmps12
      go_wp2_with fail
      refine (C1.out _ ((L.alloc _).alloc _)).mono ?_
      rintro e w1 ⟨rfl, hb1⟩
      obtain ⟨hc, hf⟩ := bcell hb1
      have hz : w.heap.size + 1 < w1.heap.size := by have := hb1.size; simp at this; omega
      have q0 : w1.cell? ⟨w.heap.size, 0, none⟩ = some (.bool false) := (hc _ _ (by simp; omega)).trans (by simp [go_sem])
      have q1 : w1.cell? ⟨w.heap.size, 1, none⟩ = some (.int .i64 0) := (hc _ _ (by simp; omega)).trans (by simp [go_sem])
      go_wp2_with fail
      exact bodyPost_ret (v := .tuple #[.agg #[.bool false, .int .i64 0], .int .i64 1]) (by simp [results, Tryd.results12, go_sem, q0, q1]) rfl (HQ.out _ _ ((((Joins.below_alloc2 _ _ _).trans (hb1.mono (by simp; omega))).setCell (by simp) _).setCell (by simp) _))
    · by_cases h3 : keyI false (k / 524288) = k
      · rw [keyV_right h2, keyE_right h2, h3] at c1
        have hok : atOk k = true := by unfold atOk; rw [h, HN.out, h2, Bool.true_and, h3]; exact beq_self_eq_true k
        clear h3
        have C1 := Lib.hid c1; clear c1
        have HP : ∀ w w', Below w.heap.size w w' → AtPost k w (.returned (.tuple #[.agg #[.bool false, .int .i64 (k / 524288)], .int .i64 0])) w' := by
          intro w w' hb
          refine ⟨?_, hb⟩
          have e1 : atRB k = false := by unfold atRB; rw [hok, h]; rfl
          have e2 : atRN k = (k / 524288) := by unfold atRN; rw [hok, if_pos rfl, HN.out]
          have e3 : atRE k = 0 := by unfold atRE; rw [hok]; rfl
          rw [e1, e2, e3]
        have H := Lib.hid h; clear h
        have H2 := Lib.hid h2; clear h2
        have HK := Lib.hid hok; clear hok
        have HQ := Lib.hid HP; clear HP
        go_enter Tryd.func12, Tryd.ntmps12
        go_wp2_with fail
        refine (C1.out _ ((L.alloc _).alloc _)).mono ?_
        rintro e w1 ⟨rfl, hb1⟩
        obtain ⟨hc, hf⟩ := bcell hb1
        have hz : w.heap.size + 1 < w1.heap.size := by have := hb1.size; simp at this; omega
        have q0 : w1.cell? ⟨w.heap.size, 0, none⟩ = some (.bool false) := (hc _ _ (by simp; omega)).trans (by simp [go_sem])
        have q1 : w1.cell? ⟨w.heap.size, 1, none⟩ = some (.int .i64 0) := (hc _ _ (by simp; omega)).trans (by simp [go_sem])
        go_wp2_with fail
        exact bodyPost_ret (v := .tuple #[.agg #[.bool false, .int .i64 (k / 524288)], .int .i64 0]) (by simp [results, Tryd.results12, go_sem, q0, q1]) rfl (HQ.out _ _ ((((Joins.below_alloc2 _ _ _).trans (hb1.mono (by simp; omega))).setCell (by simp) _).setCell (by simp) _))
      · rw [keyV_right h2, keyE_right h2] at c1
        have hok : atOk k = false := by unfold atOk; rw [h, HN.out, h2, Bool.true_and]; exact beq_eq_false_iff_ne.2 h3
        have h4 : (keyI false (k / 524288) == k) = false := beq_eq_false_iff_ne.2 h3
        have h5 : (keyI false (k / 524288) != k) = true := bne_iff_ne.2 h3
        clear h3
        generalize keyI false (k / 524288) = K at c1 h4 h5
        have C1 := Lib.hid c1; clear c1
        have HP : ∀ w w', Below w.heap.size w w' → AtPost k w (.returned (.tuple #[.agg #[.bool false, .int .i64 0], .int .i64 1])) w' := by
          intro w w' hb
          refine ⟨?_, hb⟩
          have e1 : atRB k = false := by unfold atRB; rw [hok]; rfl
          have e2 : atRN k = 0 := by unfold atRN; rw [hok]; rfl
          have e3 : atRE k = 1 := by unfold atRE; rw [hok]; rfl
          rw [e1, e2, e3]
        have H := Lib.hid h; clear h
        have H2 := Lib.hid h2; clear h2
        have HK := Lib.hid hok; clear hok
        have HQ := Lib.hid HP; clear HP
        go_enter Tryd.func12, Tryd.ntmps12
        go_wp2_with fail
        refine (C1.out _ ((L.alloc _).alloc _)).mono ?_
        rintro e w1 ⟨rfl, hb1⟩
        obtain ⟨hc, hf⟩ := bcell hb1
        have hz : w.heap.size + 1 < w1.heap.size := by have := hb1.size; simp at this; omega
        have q0 : w1.cell? ⟨w.heap.size, 0, none⟩ = some (.bool false) := (hc _ _ (by simp; omega)).trans (by simp [go_sem])
        have q1 : w1.cell? ⟨w.heap.size, 1, none⟩ = some (.int .i64 0) := (hc _ _ (by simp; omega)).trans (by simp [go_sem])
        go_wp2_with fail
        exact bodyPost_ret (v := .tuple #[.agg #[.bool false, .int .i64 0], .int .i64 1]) (by simp [results, Tryd.results12, go_sem, q0, q1]) rfl (HQ.out _ _ ((((Joins.below_alloc2 _ _ _).trans (hb1.mono (by simp; omega))).setCell (by simp) _).setCell (by simp) _))
  · obtain ⟨N, hN⟩ : ∃ N, N = atN k := ⟨_, rfl⟩
    rw [h] at hb0 c1
    have HW := hw h
    have hv : N = k / 524288 * 262144 + k % 262144 := by rw [hN]; unfold atN; rw [h]; rfl
    clear hw
    rw [← hN] at c1
    have HV := Lib.hid hv; clear hv
    have HN := Lib.hid hN.symm; clear hN
    cases h2 : rightI true N
    · rw [keyV_wrong h2, keyE_wrong h2] at c1
      have hok : atOk k = false := by unfold atOk; rw [h, HN.out, h2]; rfl
      have C1 := Lib.hid c1; clear c1
      have HP : ∀ w w', Below w.heap.size w w' → AtPost k w (.returned (.tuple #[.agg #[.bool false, .int .i64 0], .int .i64 1])) w' := by
        intro w w' hb
        refine ⟨?_, hb⟩
        have e1 : atRB k = false := by unfold atRB; rw [hok]; rfl
        have e2 : atRN k = 0 := by unfold atRN; rw [hok]; rfl
        have e3 : atRE k = 1 := by unfold atRE; rw [hok]; rfl
        rw [e1, e2, e3]
      have H := Lib.hid h; clear h
      have H2 := Lib.hid h2; clear h2
      have HK := Lib.hid hok; clear hok
      have HQ := Lib.hid HP; clear HP
      go_enter Tryd.func12, Tryd.ntmps12
      go_wp2_with fail
      rw [HW.out, HN.out]
      go_wp2_with fail
      refine (C1.out _ ((L.alloc _).alloc _)).mono ?_
      rintro e w1 ⟨rfl, hb1⟩
      obtain ⟨hc, hf⟩ := bcell hb1
      have hz : w.heap.size + 1 < w1.heap.size := by have := hb1.size; simp at this; omega
      have q0 : w1.cell? ⟨w.heap.size, 0, none⟩ = some (.bool false) := (hc _ _ (by simp; omega)).trans (by simp [go_sem])
      have q1 : w1.cell? ⟨w.heap.size, 1, none⟩ = some (.int .i64 0) := (hc _ _ (by simp; omega)).trans (by simp [go_sem])
      go_wp2_with fail
      exact bodyPost_ret (v := .tuple #[.agg #[.bool false, .int .i64 0], .int .i64 1]) (by simp [results, Tryd.results12, go_sem, q0, q1]) rfl (HQ.out _ _ ((((Joins.below_alloc2 _ _ _).trans (hb1.mono (by simp; omega))).setCell (by simp) _).setCell (by simp) _))
    · by_cases h3 : keyI true N = k
      · rw [keyV_right h2, keyE_right h2, h3] at c1
        have hok : atOk k = true := by unfold atOk; rw [h, HN.out, h2, Bool.true_and, h3]; exact beq_self_eq_true k
        clear h3
        have C1 := Lib.hid c1; clear c1
        have HP : ∀ w w', Below w.heap.size w w' → AtPost k w (.returned (.tuple #[.agg #[.bool true, .int .i64 N], .int .i64 0])) w' := by
          intro w w' hb
          refine ⟨?_, hb⟩
          have e1 : atRB k = true := by unfold atRB; rw [hok, h]; rfl
          have e2 : atRN k = N := by unfold atRN; rw [hok, if_pos rfl, HN.out]
          have e3 : atRE k = 0 := by unfold atRE; rw [hok]; rfl
          rw [e1, e2, e3]
        have H := Lib.hid h; clear h
        have H2 := Lib.hid h2; clear h2
        have HK := Lib.hid hok; clear hok
        have HQ := Lib.hid HP; clear HP
        go_enter Tryd.func12, Tryd.ntmps12
        go_wp2_with fail
        rw [HW.out, HN.out]
        go_wp2_with fail
        refine (C1.out _ ((L.alloc _).alloc _)).mono ?_
        rintro e w1 ⟨rfl, hb1⟩
        obtain ⟨hc, hf⟩ := bcell hb1
        have hz : w.heap.size + 1 < w1.heap.size := by have := hb1.size; simp at this; omega
        have q0 : w1.cell? ⟨w.heap.size, 0, none⟩ = some (.bool false) := (hc _ _ (by simp; omega)).trans (by simp [go_sem])
        have q1 : w1.cell? ⟨w.heap.size, 1, none⟩ = some (.int .i64 0) := (hc _ _ (by simp; omega)).trans (by simp [go_sem])
        go_wp2_with fail
        exact bodyPost_ret (v := .tuple #[.agg #[.bool true, .int .i64 N], .int .i64 0]) (by simp [results, Tryd.results12, go_sem, q0, q1]) rfl (HQ.out _ _ ((((Joins.below_alloc2 _ _ _).trans (hb1.mono (by simp; omega))).setCell (by simp) _).setCell (by simp) _))
      · rw [keyV_right h2, keyE_right h2] at c1
        have hok : atOk k = false := by unfold atOk; rw [h, HN.out, h2, Bool.true_and]; exact beq_eq_false_iff_ne.2 h3
        have h4 : (keyI true N == k) = false := beq_eq_false_iff_ne.2 h3
        have h5 : (keyI true N != k) = true := bne_iff_ne.2 h3
        clear h3
        generalize keyI true N = K at c1 h4 h5
        have C1 := Lib.hid c1; clear c1
        have HP : ∀ w w', Below w.heap.size w w' → AtPost k w (.returned (.tuple #[.agg #[.bool false, .int .i64 0], .int .i64 1])) w' := by
          intro w w' hb
          refine ⟨?_, hb⟩
          have e1 : atRB k = false := by unfold atRB; rw [hok]; rfl
          have e2 : atRN k = 0 := by unfold atRN; rw [hok]; rfl
          have e3 : atRE k = 1 := by unfold atRE; rw [hok]; rfl
          rw [e1, e2, e3]
        have H := Lib.hid h; clear h
        have H2 := Lib.hid h2; clear h2
        have HK := Lib.hid hok; clear hok
        have HQ := Lib.hid HP; clear HP
        go_enter Tryd.func12, Tryd.ntmps12
        go_wp2_with fail
        rw [HW.out, HN.out]
        go_wp2_with fail
        refine (C1.out _ ((L.alloc _).alloc _)).mono ?_
        rintro e w1 ⟨rfl, hb1⟩
        obtain ⟨hc, hf⟩ := bcell hb1
        have hz : w.heap.size + 1 < w1.heap.size := by have := hb1.size; simp at this; omega
        have q0 : w1.cell? ⟨w.heap.size, 0, none⟩ = some (.bool false) := (hc _ _ (by simp; omega)).trans (by simp [go_sem])
        have q1 : w1.cell? ⟨w.heap.size, 1, none⟩ = some (.int .i64 0) := (hc _ _ (by simp; omega)).trans (by simp [go_sem])
        go_wp2_with fail
        exact bodyPost_ret (v := .tuple #[.agg #[.bool false, .int .i64 0], .int .i64 1]) (by simp [results, Tryd.results12, go_sem, q0, q1]) rfl (HQ.out _ _ ((((Joins.below_alloc2 _ _ _).trans (hb1.mono (by simp; omega))).setCell (by simp) _).setCell (by simp) _))

end Go.Proofs.YtnngkpcikmbnmaaDoor

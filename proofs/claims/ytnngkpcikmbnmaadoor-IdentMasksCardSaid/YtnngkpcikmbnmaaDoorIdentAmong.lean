/-
  The walk of the law IdentAmong: who goes ahead of who goes ahead goes ahead; what is not right goes ahead of nothing.
-/
import Derived.Test.YtnngkpcikmbnmaaDoorIdentEq
namespace Go.Proofs.YtnngkpcikmbnmaaDoor
open Go.RowKit

/-- Three cells that lie in memory. -/
def Three (w : World) (p : Nat) (x y z : Value) : Prop := p < w.heap.size ∧ w.cell? ⟨p, 0, none⟩ = some x ∧ w.cell? ⟨p, 1, none⟩ = some y ∧ w.cell? ⟨p, 2, none⟩ = some z
theorem Three.below {w w' : World} {p : Nat} {x y z : Value} (h : Three w p x y z) (hb : Below w.heap.size w w') : Three w' p x y z :=
  ⟨Nat.lt_of_lt_of_le h.1 hb.size, (hb.cell (p := ⟨p, 0, none⟩) h.1).trans h.2.1, (hb.cell (p := ⟨p, 1, none⟩) h.1).trans h.2.2.1, (hb.cell (p := ⟨p, 2, none⟩) h.1).trans h.2.2.2⟩
theorem Three.alloc {w : World} {p : Nat} {x y z : Value} (h : Three w p x y z) (o : Obj) : Three (w.alloc o) p x y z := h.below (Joins.below_alloc1 w o)
theorem Three.new (w : World) (x y z : Value) (t : TypeId) : Three (w.alloc (.cells #[x, y, z] t)) w.heap.size x y z := ⟨by simp, by simp [go_sem], by simp [go_sem], by simp [go_sem]⟩
theorem Three.new1 (w : World) (o : Obj) (x y z : Value) (t : TypeId) : Three ((w.alloc o).alloc (.cells #[x, y, z] t)) (w.heap.size + 1) x y z := by
  have h := Three.new (w.alloc o) x y z t
  rwa [show (w.alloc o).heap.size = w.heap.size + 1 from by simp] at h
theorem Two.new2 (w : World) (o o' : Obj) (b : Bool) (n : Int) (t : TypeId) : Two (((w.alloc o).alloc o').alloc (.cells #[.bool b, .int .i64 n] t)) (w.heap.size + 1 + 1) b n := by
  have h := Two.new ((w.alloc o).alloc o') b n t
  rwa [show ((w.alloc o).alloc o').heap.size = w.heap.size + 1 + 1 from by simp] at h

theorem lessI_right {b c : Bool} {n m : Int} (h1 : rightI b n = true) (h2 : rightI c m = true) : lessI b n c m = decide (keyI b n < keyI c m) := by
  unfold lessI; rw [h1, h2, Bool.true_and, Bool.true_and]

set_option maxHeartbeats 2000000 in
set_option maxRecDepth 100000 in
theorem identAmong_walk (a0 b0 c0 : Int) (a1 b1 c1 : Bool) (a2 : Bool) (b2 : Int) (w0 : (Lit.int .i64 a0).wf = true) (x0 : (Lit.int .i64 b0).wf = true) (y0 : (Lit.int .i64 c0).wf = true) (_w2 : (Lit.int .i64 b2).wf = true) (w : World) (L : Laid w) :
    Calls Tryd.prog 8 #[.agg #[.int .i64 a0, .int .i64 b0, .int .i64 c0], .agg #[.bool a1, .bool b1, .bool c1], .agg #[.bool a2, .int .i64 b2]] w fun e w' => e = .returned (.bool true) ∧ Below w.heap.size w w' := by
  have k1 := fun w => ident_any a0 w0 a1 w
  have k2 := fun w => ident_any b0 x0 b1 w
  have k3 := fun w => ident_any c0 y0 c1 w
  have r1 := idN_right a0 a1
  have r2 := idN_right b0 b1
  have r3 := idN_right c0 c1
  generalize idN a0 a1 = A at k1 r1
  generalize idN b0 b1 = B at k2 r2
  generalize idN c0 c1 = C at k3 r3
  have k4 := fun w L => less_any a1 A b1 B w L
  have k5 := fun w L => less_any b1 B c1 C w L
  have k6 := fun w L => less_any a1 A c1 C w L
  have k7 := fun w L => less_any a1 A a1 A w L
  rw [lessI_right r1 r2] at k4
  rw [lessI_right r2 r3] at k5
  rw [lessI_right r1 r3] at k6
  rw [lessI_right r1 r1, decide_eq_false (Int.lt_irrefl _)] at k7
  have htr : decide (keyI a1 A < keyI b1 B) = true → decide (keyI b1 B < keyI c1 C) = true → decide (keyI a1 A < keyI c1 C) = true := by
    intro h1 h2
    have h1 := of_decide_eq_true h1
    have h2 := of_decide_eq_true h2
    exact decide_eq_true (by omega)
  generalize decide (keyI a1 A < keyI b1 B) = lab at k4 htr
  generalize decide (keyI b1 B < keyI c1 C) = lbc at k5 htr
  generalize decide (keyI a1 A < keyI c1 C) = lac at k6 htr
  have k8 := fun w L => right_any a2 b2 w L
  have k9 := fun w L => less_any a2 b2 a1 A w L
  have k10 := fun w L => less_any a1 A a2 b2 w L
  have h9 : rightI a2 b2 = false → lessI a2 b2 a1 A = false := fun h => by unfold lessI; rw [h]; rfl
  have h10 : rightI a2 b2 = false → lessI a1 A a2 b2 = false := fun h => by unfold lessI; rw [h, r1]; rfl
  clear r1 r2 r3 w0 x0 y0
  generalize rightI a2 b2 = ro at k8 h9 h10
  generalize lessI a2 b2 a1 A = l9 at k9 h9
  generalize lessI a1 A a2 b2 = l10 at k10 h10
  have K1 := Lib.hid k1; clear k1
  have K2 := Lib.hid k2; clear k2
  have K3 := Lib.hid k3; clear k3
  have K4 := Lib.hid k4; clear k4
  have K5 := Lib.hid k5; clear k5
  have K6 := Lib.hid k6; clear k6
  have K7 := Lib.hid k7; clear k7
  have K8 := Lib.hid k8; clear k8
  have K9 := Lib.hid k9; clear k9
  have K10 := Lib.hid k10; clear k10
  have HTR := Lib.hid htr; clear htr
  have H9 := Lib.hid h9; clear h9
  have H10 := Lib.hid h10; clear h10
  go_enter Tryd.func8, Tryd.ntmps8
  go_wp2_with fail
  refine (awake_any _ (((L.alloc _).alloc _).alloc _)).mono ?_
  rintro e w0 ⟨rfl, hb⟩
  have L0 := (((L.alloc _).alloc _).alloc _).below hb
  have RN := (((Three.new w (.int .i64 a0) (.int .i64 b0) (.int .i64 c0) _).alloc _).alloc _).below hb
  have RE := ((Three.new1 w _ (.bool a1) (.bool b1) (.bool c1) _).alloc _).below hb
  have XO := (Two.new2 w _ _ a2 b2 _).below hb
  have hW := below_trans (Joins.below_alloc3 w _ _ _) hb
  clear hb
  obtain ⟨sn, n0, n1, n2⟩ := id RN
  obtain ⟨se, e0, e1, e2⟩ := id RE
  go_wp2_with fail
  refine (K1.out _).mono ?_
  rintro e w1 ⟨rfl, hb1⟩
  replace RN := RN.below hb1
  replace RE := RE.below hb1
  replace XO := XO.below hb1
  replace L0 := L0.below hb1
  replace hW := below_trans hW hb1
  clear sn n0 n1 n2 se e0 e1 e2 hb1
  have XA := Two.new w1 a1 A 23
  replace RN := RN.alloc (.cells #[.bool a1, .int .i64 A] 23)
  replace RE := RE.alloc (.cells #[.bool a1, .int .i64 A] 23)
  replace XO := XO.alloc (.cells #[.bool a1, .int .i64 A] 23)
  replace L0 := L0.alloc (.cells #[.bool a1, .int .i64 A] 23)
  replace hW := below_new hW (.cells #[.bool a1, .int .i64 A] 23)
  obtain ⟨sn, n0, n1, n2⟩ := id RN
  obtain ⟨se, e0, e1, e2⟩ := id RE
  go_wp2_with fail
  refine (K2.out _).mono ?_
  rintro e w2 ⟨rfl, hb2⟩
  replace RN := RN.below hb2
  replace RE := RE.below hb2
  replace XO := XO.below hb2
  replace XA := XA.below hb2
  replace L0 := L0.below hb2
  replace hW := below_trans hW hb2
  clear sn n0 n1 n2 se e0 e1 e2 hb2
  have XB := Two.new w2 b1 B 23
  replace RN := RN.alloc (.cells #[.bool b1, .int .i64 B] 23)
  replace RE := RE.alloc (.cells #[.bool b1, .int .i64 B] 23)
  replace XO := XO.alloc (.cells #[.bool b1, .int .i64 B] 23)
  replace XA := XA.alloc (.cells #[.bool b1, .int .i64 B] 23)
  replace L0 := L0.alloc (.cells #[.bool b1, .int .i64 B] 23)
  replace hW := below_new hW (.cells #[.bool b1, .int .i64 B] 23)
  obtain ⟨sn, n0, n1, n2⟩ := id RN
  obtain ⟨se, e0, e1, e2⟩ := id RE
  go_wp2_with fail
  refine (K3.out _).mono ?_
  rintro e w3 ⟨rfl, hb3⟩
  replace XO := XO.below hb3
  replace XA := XA.below hb3
  replace XB := XB.below hb3
  replace L0 := L0.below hb3
  replace hW := below_trans hW hb3
  clear sn n0 n1 n2 se e0 e1 e2 hb3 RN RE
  have XC := Two.new w3 c1 C 23
  replace XO := XO.alloc (.cells #[.bool c1, .int .i64 C] 23)
  replace XA := XA.alloc (.cells #[.bool c1, .int .i64 C] 23)
  replace XB := XB.alloc (.cells #[.bool c1, .int .i64 C] 23)
  replace L0 := L0.alloc (.cells #[.bool c1, .int .i64 C] 23)
  replace hW := below_new hW (.cells #[.bool c1, .int .i64 C] 23)
  obtain ⟨sa, qa0, qa1⟩ := id XA
  obtain ⟨sb, qb0, qb1⟩ := id XB
  obtain ⟨sc, qc0, qc1⟩ := id XC
  obtain ⟨so, qo0, qo1⟩ := id XO
  go_wp2_with fail
  refine (K4.out _ L0).mono ?_
  rintro e v4 ⟨rfl, hb⟩
  clear so qo0 qo1 sa qa0 qa1 sb qb0 qb1 sc qc0 qc1
  replace XO := XO.below hb
  replace XA := XA.below hb
  replace XB := XB.below hb
  replace XC := XC.below hb
  replace L0 := L0.below hb
  replace hW := below_trans hW hb
  clear hb
  obtain ⟨so, qo0, qo1⟩ := id XO
  obtain ⟨sa, qa0, qa1⟩ := id XA
  obtain ⟨sb, qb0, qb1⟩ := id XB
  obtain ⟨sc, qc0, qc1⟩ := id XC
  cases lab
  · go_wp2_with fail
    refine (K7.out _ L0).mono ?_
    rintro e v5 ⟨rfl, hb⟩
    clear so qo0 qo1 sa qa0 qa1 sb qb0 qb1 sc qc0 qc1
    replace XO := XO.below hb
    replace XA := XA.below hb
    replace L0 := L0.below hb
    replace hW := below_trans hW hb
    clear hb
    obtain ⟨so, qo0, qo1⟩ := id XO
    obtain ⟨sa, qa0, qa1⟩ := id XA
    go_wp2_with fail
    refine (K8.out _ L0).mono ?_
    rintro e v6 ⟨rfl, hb⟩
    clear so qo0 qo1 sa qa0 qa1
    replace XO := XO.below hb
    replace XA := XA.below hb
    replace L0 := L0.below hb
    replace hW := below_trans hW hb
    clear hb
    obtain ⟨so, qo0, qo1⟩ := id XO
    obtain ⟨sa, qa0, qa1⟩ := id XA
    cases ro
    · obtain rfl := H9.out rfl
      obtain rfl := H10.out rfl
      go_wp2_with fail
      refine (K9.out _ L0).mono ?_
      rintro e v7 ⟨rfl, hb⟩
      clear so qo0 qo1 sa qa0 qa1
      replace XO := XO.below hb
      replace XA := XA.below hb
      replace L0 := L0.below hb
      replace hW := below_trans hW hb
      clear hb
      obtain ⟨so, qo0, qo1⟩ := id XO
      obtain ⟨sa, qa0, qa1⟩ := id XA
      go_wp2_with fail
      refine (K10.out _ L0).mono ?_
      rintro e v8 ⟨rfl, hb⟩
      clear so qo0 qo1 sa qa0 qa1
      replace XO := XO.below hb
      replace XA := XA.below hb
      replace L0 := L0.below hb
      replace hW := below_trans hW hb
      clear hb
      obtain ⟨so, qo0, qo1⟩ := id XO
      obtain ⟨sa, qa0, qa1⟩ := id XA
      go_wp2_with fail
      go_ret
      exact ⟨rfl, hW⟩
    · go_wp2_with fail
      go_ret
      exact ⟨rfl, hW⟩
  · go_wp2_with fail
    refine (K5.out _ L0).mono ?_
    rintro e v5 ⟨rfl, hb⟩
    clear so qo0 qo1 sa qa0 qa1 sb qb0 qb1 sc qc0 qc1
    replace XO := XO.below hb
    replace XA := XA.below hb
    replace XB := XB.below hb
    replace XC := XC.below hb
    replace L0 := L0.below hb
    replace hW := below_trans hW hb
    clear hb
    obtain ⟨so, qo0, qo1⟩ := id XO
    obtain ⟨sa, qa0, qa1⟩ := id XA
    obtain ⟨sb, qb0, qb1⟩ := id XB
    obtain ⟨sc, qc0, qc1⟩ := id XC
    cases lbc
    · go_wp2_with fail
      refine (K7.out _ L0).mono ?_
      rintro e v6 ⟨rfl, hb⟩
      clear so qo0 qo1 sa qa0 qa1 sb qb0 qb1 sc qc0 qc1
      replace XO := XO.below hb
      replace XA := XA.below hb
      replace L0 := L0.below hb
      replace hW := below_trans hW hb
      clear hb
      obtain ⟨so, qo0, qo1⟩ := id XO
      obtain ⟨sa, qa0, qa1⟩ := id XA
      go_wp2_with fail
      refine (K8.out _ L0).mono ?_
      rintro e v7 ⟨rfl, hb⟩
      clear so qo0 qo1 sa qa0 qa1
      replace XO := XO.below hb
      replace XA := XA.below hb
      replace L0 := L0.below hb
      replace hW := below_trans hW hb
      clear hb
      obtain ⟨so, qo0, qo1⟩ := id XO
      obtain ⟨sa, qa0, qa1⟩ := id XA
      cases ro
      · obtain rfl := H9.out rfl
        obtain rfl := H10.out rfl
        go_wp2_with fail
        refine (K9.out _ L0).mono ?_
        rintro e v8 ⟨rfl, hb⟩
        clear so qo0 qo1 sa qa0 qa1
        replace XO := XO.below hb
        replace XA := XA.below hb
        replace L0 := L0.below hb
        replace hW := below_trans hW hb
        clear hb
        obtain ⟨so, qo0, qo1⟩ := id XO
        obtain ⟨sa, qa0, qa1⟩ := id XA
        go_wp2_with fail
        refine (K10.out _ L0).mono ?_
        rintro e v9 ⟨rfl, hb⟩
        clear so qo0 qo1 sa qa0 qa1
        replace XO := XO.below hb
        replace XA := XA.below hb
        replace L0 := L0.below hb
        replace hW := below_trans hW hb
        clear hb
        obtain ⟨so, qo0, qo1⟩ := id XO
        obtain ⟨sa, qa0, qa1⟩ := id XA
        go_wp2_with fail
        go_ret
        exact ⟨rfl, hW⟩
      · go_wp2_with fail
        go_ret
        exact ⟨rfl, hW⟩
    · obtain rfl : lac = true := by simpa using HTR.out
      go_wp2_with fail
      refine (K6.out _ L0).mono ?_
      rintro e v6 ⟨rfl, hb⟩
      clear so qo0 qo1 sa qa0 qa1 sb qb0 qb1 sc qc0 qc1
      replace XO := XO.below hb
      replace XA := XA.below hb
      replace XB := XB.below hb
      replace XC := XC.below hb
      replace L0 := L0.below hb
      replace hW := below_trans hW hb
      clear hb
      obtain ⟨so, qo0, qo1⟩ := id XO
      obtain ⟨sa, qa0, qa1⟩ := id XA
      obtain ⟨sb, qb0, qb1⟩ := id XB
      obtain ⟨sc, qc0, qc1⟩ := id XC
      go_wp2_with fail
      refine (K7.out _ L0).mono ?_
      rintro e v7 ⟨rfl, hb⟩
      clear so qo0 qo1 sa qa0 qa1 sb qb0 qb1 sc qc0 qc1
      replace XO := XO.below hb
      replace XA := XA.below hb
      replace L0 := L0.below hb
      replace hW := below_trans hW hb
      clear hb
      obtain ⟨so, qo0, qo1⟩ := id XO
      obtain ⟨sa, qa0, qa1⟩ := id XA
      go_wp2_with fail
      refine (K8.out _ L0).mono ?_
      rintro e v8 ⟨rfl, hb⟩
      clear so qo0 qo1 sa qa0 qa1
      replace XO := XO.below hb
      replace XA := XA.below hb
      replace L0 := L0.below hb
      replace hW := below_trans hW hb
      clear hb
      obtain ⟨so, qo0, qo1⟩ := id XO
      obtain ⟨sa, qa0, qa1⟩ := id XA
      cases ro
      · obtain rfl := H9.out rfl
        obtain rfl := H10.out rfl
        go_wp2_with fail
        refine (K9.out _ L0).mono ?_
        rintro e v9 ⟨rfl, hb⟩
        clear so qo0 qo1 sa qa0 qa1
        replace XO := XO.below hb
        replace XA := XA.below hb
        replace L0 := L0.below hb
        replace hW := below_trans hW hb
        clear hb
        obtain ⟨so, qo0, qo1⟩ := id XO
        obtain ⟨sa, qa0, qa1⟩ := id XA
        go_wp2_with fail
        refine (K10.out _ L0).mono ?_
        rintro e v10 ⟨rfl, hb⟩
        clear so qo0 qo1 sa qa0 qa1
        replace XO := XO.below hb
        replace XA := XA.below hb
        replace L0 := L0.below hb
        replace hW := below_trans hW hb
        clear hb
        obtain ⟨so, qo0, qo1⟩ := id XO
        obtain ⟨sa, qa0, qa1⟩ := id XA
        go_wp2_with fail
        go_ret
        exact ⟨rfl, hW⟩
      · go_wp2_with fail
        go_ret
        exact ⟨rfl, hW⟩

end Go.Proofs.YtnngkpcikmbnmaaDoor

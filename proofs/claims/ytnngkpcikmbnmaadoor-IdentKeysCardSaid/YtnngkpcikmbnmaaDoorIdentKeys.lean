/-
  The walk of the law IdentKeys: keys rise with the base, and with the rest; what is no key has no identifier.
-/
import Derived.Test.YtnngkpcikmbnmaaDoorIdentEq
import Derived.WalkArith
namespace Go.Proofs.YtnngkpcikmbnmaaDoor
open Go.RowKit

theorem keyI_wide_lt (a b : Int) : (keyI true a < keyI true b) = (a < b) := by
  apply propext
  show 524288 * (a / 262144) + 262144 + a % 262144 < 524288 * (b / 262144) + 262144 + b % 262144 ↔ a < b
  omega
theorem keyI_wide_inj (a b : Int) (h : keyI true a = keyI true b) : a = b := by
  have h2 : 524288 * (a / 262144) + 262144 + a % 262144 = 524288 * (b / 262144) + 262144 + b % 262144 := h
  omega

/-- Between two short keys there is none of a right identifier, but for the wide ones of the first. -/
theorem at_between (n p : Int) (hp : 0 ≤ p ∧ p < 262143) : atOk (keyI false n + 1 + p) = false := by
  have e : keyI false n = 524288 * n := rfl
  have hb : atB (keyI false n + 1 + p) = false := by
    unfold atB
    rw [e]
    exact decide_eq_false (by omega)
  have hN : atN (keyI false n + 1 + p) = n := by
    unfold atN
    rw [hb, e]
    show (524288 * n + 1 + p) / 524288 = n
    omega
  unfold atOk
  rw [hb, hN, e]
  have : (524288 * n == 524288 * n + 1 + p) = false := beq_eq_false_iff_ne.2 (by omega)
  rw [this, Bool.and_false]

set_option maxHeartbeats 1000000 in
set_option maxRecDepth 100000 in
theorem identKeys_walk (a0 a1 a2 : Int) (w0 : (Lit.int .i64 a0).wf = true) (w1 : (Lit.int .i64 a1).wf = true) (w2 : (Lit.int .i64 a2).wf = true) (w : World) (L : Laid w) :
    Calls Tryd.prog 7 #[.int .i64 a0, .int .i64 a1, .int .i64 a2] w fun e w' => e = .returned (.bool true) ∧ Below w.heap.size w w' := by
  have c1 := fun w => ident_any a0 w0 true w
  have c2 := fun w => ident_any a1 w1 true w
  have c3 := fun w => ident_any a2 w2 false w
  have r1 := idN_right a0 true
  have r2 := idN_right a1 true
  have r3 := idN_right a2 false
  have cp := fun w => pick_any a0 262143 w0 (by omega) w
  have hp := pickI_range a0 262143 (by omega)
  generalize pickI a0 262143 = P at cp hp
  generalize idN a0 true = A at c1 r1
  generalize idN a1 true = B at c2 r2
  generalize idN a2 false = C at c3 r3
  have c4 := fun w L => key_any true A w L
  have c5 := fun w L => key_any true B w L
  have c6 := fun w L => key_any false C w L
  rw [keyV_right r1, keyE_right r1] at c4
  rw [keyV_right r2, keyE_right r2] at c5
  rw [keyV_right r3, keyE_right r3] at c6
  have g1 := keyI_range r1
  have g3 := keyI_range r3
  have hat := at_between C P hp
  have hlt : (decide (keyI true A < keyI true B) == decide (A < B)) = true := by simp only [keyI_wide_lt]; exact beq_self_eq_true _
  have heq : (keyI true A == keyI true B) = (A == B) := by
    rw [Bool.eq_iff_iff, beq_iff_eq, beq_iff_eq]
    exact ⟨keyI_wide_inj A B, fun h => by rw [h]⟩
  have c8 := fun w L => less_any true A true B w L
  have hl : lessI true A true B = decide (A < B) := by unfold lessI; rw [r1, r2, Bool.true_and, Bool.true_and]; simp only [keyI_wide_lt]
  rw [hl] at c8
  clear hl r1 r2 r3
  generalize keyI true A = M at c4 g1 hlt heq
  generalize keyI true B = N at c5 hlt heq
  generalize keyI false C = K at c6 g3 hat
  have hk : (Lit.int .i64 (K + 1 + P)).wf = true := by
    exact WalkArith.wf_i64 (by omega)
  have c7 := fun w L => at_any (K + 1 + P) hk w L
  unfold AtPost at c7
  have e1 : atRB (K + 1 + P) = false := by unfold atRB; rw [hat]; rfl
  have e2 : atRN (K + 1 + P) = 0 := by unfold atRN; rw [hat]; rfl
  have e3 : atRE (K + 1 + P) = 1 := by unfold atRE; rw [hat]; rfl
  rw [e1, e2, e3] at c7
  clear e1 e2 e3 hat hk
  obtain ⟨g10, g11⟩ := g1
  obtain ⟨g30, g31⟩ := g3
  obtain ⟨p0, p1⟩ := hp
  have m0 : decide (0 ≤ M) = true := by simpa using g10
  have m1 : decide (M < 1073741824) = true := by simpa using g11
  have m2 : decide (0 ≤ K) = true := by simpa using g30
  have m3 : decide (K < 1073741824) = true := by simpa using g31
  have C1 := Lib.hid c1; clear c1
  have C2 := Lib.hid c2; clear c2
  have C3 := Lib.hid c3; clear c3
  have C4 := Lib.hid c4; clear c4
  have C5 := Lib.hid c5; clear c5
  have C6 := Lib.hid c6; clear c6
  have C7 := Lib.hid c7; clear c7
  have C8 := Lib.hid c8; clear c8
  have CP := Lib.hid cp; clear cp
  clear w0 w1 w2
  go_enter Tryd.func7, Tryd.ntmps7
  go_wp2_with fail
  refine (awake_any _ L).mono ?_
  rintro e w0 ⟨rfl, hW⟩
  have L0 := L.below hW
  go_wp2_with fail
  refine (C1.out _).mono ?_
  rintro e w1 ⟨rfl, hb1⟩
  replace L0 := L0.below hb1
  replace hW := below_trans hW hb1
  clear hb1
  go_wp2_with fail
  refine (C2.out _).mono ?_
  rintro e w2 ⟨rfl, hb2⟩
  have XA := ((Two.new _ true A _)).below hb2
  replace L0 := (L0.alloc _).below hb2
  replace hW := below_trans (below_new hW _) hb2
  clear hb2
  obtain ⟨sXA, qXA0, qXA1⟩ := id XA
  go_wp2_with fail
  refine (C3.out _).mono ?_
  rintro e w3 ⟨rfl, hb3⟩
  clear qXA0 qXA1 sXA
  replace XA := ((XA.alloc _)).below hb3
  have XB := ((Two.new _ true B _)).below hb3
  replace L0 := (L0.alloc _).below hb3
  replace hW := below_trans (below_new hW _) hb3
  clear hb3
  obtain ⟨sXA, qXA0, qXA1⟩ := id XA
  obtain ⟨sXB, qXB0, qXB1⟩ := id XB
  go_wp2_with fail
  refine (C4.out _ (L0.alloc _)).mono ?_
  rintro e w4 ⟨rfl, hb4⟩
  clear qXA0 qXA1 qXB0 qXB1 sXA sXB
  replace XA := ((XA.alloc _)).below hb4
  replace XB := ((XB.alloc _)).below hb4
  have XC := ((Two.new _ false C _)).below hb4
  replace L0 := (L0.alloc _).below hb4
  replace hW := below_trans (below_new hW _) hb4
  clear hb4
  obtain ⟨sXA, qXA0, qXA1⟩ := id XA
  obtain ⟨sXB, qXB0, qXB1⟩ := id XB
  obtain ⟨sXC, qXC0, qXC1⟩ := id XC
  go_wp2_with fail
  refine (C5.out _ L0).mono ?_
  rintro e w5 ⟨rfl, hb5⟩
  clear qXA0 qXA1 qXB0 qXB1 qXC0 qXC1 sXA sXB sXC
  replace XA := (XA).below hb5
  replace XB := (XB).below hb5
  replace XC := (XC).below hb5
  replace L0 := L0.below hb5
  replace hW := below_trans hW hb5
  clear hb5
  obtain ⟨sXA, qXA0, qXA1⟩ := id XA
  obtain ⟨sXB, qXB0, qXB1⟩ := id XB
  obtain ⟨sXC, qXC0, qXC1⟩ := id XC
  go_wp2_with fail
  refine (C6.out _ L0).mono ?_
  rintro e w6 ⟨rfl, hb6⟩
  clear qXA0 qXA1 qXB0 qXB1 qXC0 qXC1 sXA sXB sXC
  replace XA := (XA).below hb6
  replace XB := (XB).below hb6
  replace XC := (XC).below hb6
  replace L0 := L0.below hb6
  replace hW := below_trans hW hb6
  clear hb6
  obtain ⟨sXA, qXA0, qXA1⟩ := id XA
  obtain ⟨sXB, qXB0, qXB1⟩ := id XB
  obtain ⟨sXC, qXC0, qXC1⟩ := id XC
  go_wp2_with fail
  refine (CP.out _).mono ?_
  rintro e w7 ⟨rfl, rfl⟩
  go_wp2_with fail
  refine (C7.out _ L0).mono ?_
  rintro e w8 ⟨rfl, hb8⟩
  clear qXA0 qXA1 qXB0 qXB1 qXC0 qXC1 sXA sXB sXC
  replace XA := (XA).below hb8
  replace XB := (XB).below hb8
  replace XC := (XC).below hb8
  replace L0 := L0.below hb8
  replace hW := below_trans hW hb8
  clear hb8
  obtain ⟨sXA, qXA0, qXA1⟩ := id XA
  obtain ⟨sXB, qXB0, qXB1⟩ := id XB
  obtain ⟨sXC, qXC0, qXC1⟩ := id XC
  go_wp2_with fail
  have YA := XA.alloc (.cells #[.bool false, .int .i64 0] 23)
  have YB := XB.alloc (.cells #[.bool false, .int .i64 0] 23)
  have LE := L0.alloc (.cells #[.bool false, .int .i64 0] 23)
  replace hW := below_new hW (.cells #[.bool false, .int .i64 0] 23)
  clear qXA0 qXA1 qXB0 qXB1 qXC0 qXC1 sXA sXB sXC
  have HST : Hid (∀ w', Below (w8.alloc (.cells #[.bool false, .int .i64 0] 23)).heap.size (w8.alloc (.cells #[.bool false, .int .i64 0] 23)) w' → (w'.cell? ⟨w1.heap.size, 0, none⟩ = some (.bool true) ∧ w'.cell? ⟨w1.heap.size, 1, none⟩ = some (.int .i64 A) ∧ w'.cell? ⟨w2.heap.size, 0, none⟩ = some (.bool true) ∧ w'.cell? ⟨w2.heap.size, 1, none⟩ = some (.int .i64 B) ∧ Below (w8.alloc (.cells #[.bool false, .int .i64 0] 23)).heap.size (w8.alloc (.cells #[.bool false, .int .i64 0] 23)) w')) := by
    apply Lib.hid
    intro w' hb
    exact ⟨(YA.below hb).2.1, (YA.below hb).2.2, (YB.below hb).2.1, (YB.below hb).2.2, hb⟩
  have HSL : Hid (∀ w', (w'.cell? ⟨w1.heap.size, 0, none⟩ = some (.bool true) ∧ w'.cell? ⟨w1.heap.size, 1, none⟩ = some (.int .i64 A) ∧ w'.cell? ⟨w2.heap.size, 0, none⟩ = some (.bool true) ∧ w'.cell? ⟨w2.heap.size, 1, none⟩ = some (.int .i64 B) ∧ Below (w8.alloc (.cells #[.bool false, .int .i64 0] 23)).heap.size (w8.alloc (.cells #[.bool false, .int .i64 0] 23)) w') → Below (w8.alloc (.cells #[.bool false, .int .i64 0] 23)).heap.size (w8.alloc (.cells #[.bool false, .int .i64 0] 23)) w') := Lib.hid fun w' h => h.2.2.2.2
  have HST2 : Hid (∀ w' w'', (w'.cell? ⟨w1.heap.size, 0, none⟩ = some (.bool true) ∧ w'.cell? ⟨w1.heap.size, 1, none⟩ = some (.int .i64 A) ∧ w'.cell? ⟨w2.heap.size, 0, none⟩ = some (.bool true) ∧ w'.cell? ⟨w2.heap.size, 1, none⟩ = some (.int .i64 B) ∧ Below (w8.alloc (.cells #[.bool false, .int .i64 0] 23)).heap.size (w8.alloc (.cells #[.bool false, .int .i64 0] 23)) w') → Below w'.heap.size w' w'' → (w''.cell? ⟨w1.heap.size, 0, none⟩ = some (.bool true) ∧ w''.cell? ⟨w1.heap.size, 1, none⟩ = some (.int .i64 A) ∧ w''.cell? ⟨w2.heap.size, 0, none⟩ = some (.bool true) ∧ w''.cell? ⟨w2.heap.size, 1, none⟩ = some (.int .i64 B) ∧ Below (w8.alloc (.cells #[.bool false, .int .i64 0] 23)).heap.size (w8.alloc (.cells #[.bool false, .int .i64 0] 23)) w'')) := Lib.hid fun w' w'' h hb => HST.out w'' (below_trans (HSL.out w' h) hb)
  have HLD : Hid (∀ w', (w'.cell? ⟨w1.heap.size, 0, none⟩ = some (.bool true) ∧ w'.cell? ⟨w1.heap.size, 1, none⟩ = some (.int .i64 A) ∧ w'.cell? ⟨w2.heap.size, 0, none⟩ = some (.bool true) ∧ w'.cell? ⟨w2.heap.size, 1, none⟩ = some (.int .i64 B) ∧ Below (w8.alloc (.cells #[.bool false, .int .i64 0] 23)).heap.size (w8.alloc (.cells #[.bool false, .int .i64 0] 23)) w') → Laid w') := Lib.hid fun w' h => LE.below (HSL.out w' h)
  have hEG := fun x y w => eq_guard .eql x y true true A B w
  have hEQ : ∀ w, (binOp .eql 23 (.agg #[.bool true, .int .i64 A]) (.agg #[.bool true, .int .i64 B])).run Tryd.prog w = .ok (.bool (A == B)) w := fun w => eql_agg true true A B w
  dsimp only [List.append]
  go_region_held3 (fun w' => w'.cell? ⟨w1.heap.size, 0, none⟩ = some (.bool true) ∧ w'.cell? ⟨w1.heap.size, 1, none⟩ = some (.int .i64 A) ∧ w'.cell? ⟨w2.heap.size, 0, none⟩ = some (.bool true) ∧ w'.cell? ⟨w2.heap.size, 1, none⟩ = some (.int .i64 B) ∧ Below (w8.alloc (.cells #[.bool false, .int .i64 0] 23)).heap.size (w8.alloc (.cells #[.bool false, .int .i64 0] 23)) w') (first | exact HST.out _ (Below.refl _ _).drew | exact HST2.out _ _ (by assumption) (by assumption)) (first | (go_at_call 18; refine (C8.out _ (HLD.out _ (by assumption))).mono ?_; rintro e w9 ⟨rfl, hb9⟩))
  go_wp2_with fail
  go_ret
  exact ⟨rfl, below_trans hW (HSL.out _ (by assumption))⟩

end Go.Proofs.YtnngkpcikmbnmaaDoor

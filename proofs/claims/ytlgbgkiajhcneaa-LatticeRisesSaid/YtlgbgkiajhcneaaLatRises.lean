/-
  The law LatticeRises.
-/
import Derived.Test.YtlgbgkiajhcneaaLatLaw
import Derived.Test.YtlgbgkiajhcneaaLatMath
namespace Go.Proofs.Ytlgbgkiajhcneaa
open Go.RowKit

set_option maxRecDepth 100000 in
set_option maxHeartbeats 2000000 in
theorem latticeRises_walk (a0 a1 a2 a3 a4 : Int) (w0 : (Lit.int .i64 a0).wf = true) (w1 : (Lit.int .i64 a1).wf = true) (w2 : (Lit.int .i64 a2).wf = true) (w3 : (Lit.int .i64 a3).wf = true) (w4 : (Lit.int .i64 a4).wf = true) (w : World) :
    Calls Try.prog 6 #[.int .i64 a0, .int .i64 a1, .int .i64 a2, .int .i64 a3, .int .i64 a4] w fun e w' => e = .returned (.bool true) ∧ Below w.heap.size w w' := by
  have cl := fun W => lattice_any a0 a1 w0 w1 W
  have p2 := fun W => pick_any a2 1099511627776 w2 (by omega) W
  have p3 := fun W => pick_any a3 1099511627776 w3 (by omega) W
  have p4 := fun W => pick_any a4 1048576 w4 (by omega) W
  have hr : Rt (latA a0) (latA a1) := ⟨latA_range a0, latA_range a1⟩
  obtain ⟨t0, t1⟩ := pickI_range a2 1099511627776 (by omega)
  obtain ⟨u0, u1⟩ := pickI_range a3 1099511627776 (by omega)
  obtain ⟨k0, k1⟩ := pickI_range a4 1048576 (by omega)
  generalize latA a0 = la at *
  generalize latA a1 = lg at *
  generalize pickI a2 1099511627776 = P at *
  generalize pickI a3 1099511627776 = Q at *
  generalize pickI a4 1048576 = R at *
  obtain ⟨x, hx⟩ : ∃ t, P - 549755813888 = t := ⟨_, rfl⟩
  obtain ⟨y, hy⟩ : ∃ t, Q - 549755813888 = t := ⟨_, rfl⟩
  obtain ⟨n, hn⟩ : ∃ t, R - 524288 = t := ⟨_, rfl⟩
  have hP : P = x + 549755813888 := by omega
  have hQ : Q = y + 549755813888 := by omega
  have hR : R = n + 524288 := by omega
  subst hP hQ hR
  have hTx : Tm x := ⟨by omega, by omega⟩
  have hTy : Tm y := ⟨by omega, by omega⟩
  have cx := fun W => epoch_any la lg x W
  have cy := fun W => epoch_any la lg y W
  have cxy := fun W => order_any la lg x y W
  have cyx := fun W => order_any la lg y x W
  rw [ep_ok hr hTx, err_ok hr hTx] at cx
  rw [ep_ok hr hTy, err_ok hr hTy] at cy
  rw [(or_ok hr hTx hTy).1, (or_ok hr hTx hTy).2] at cxy
  rw [(or_ok hr hTy hTx).1, (or_ok hr hTy hTx).2] at cyx
  obtain ⟨⟨l0, l1⟩, g0, g1⟩ := id hr
  have hS : 2 ≤ la + lg ∧ la + lg ≤ 20000 := by omega
  have hn1 : n * (la + lg) ≤ 524289 * (la + lg) := Int.mul_le_mul_of_nonneg_right (by omega) (by omega)
  have hn2 : -524289 * (la + lg) ≤ n * (la + lg) := Int.mul_le_mul_of_nonneg_right (by omega) (by omega)
  have hTN : Tm (n * (la + lg)) := ⟨by omega, by omega⟩
  have hTM : Tm (n * (la + lg) - 1) := ⟨by omega, by omega⟩
  have cb := fun W => begin_any la lg n W
  rw [(beg_ok hr (.inr hTN)).1, (beg_ok hr (.inr hTN)).2] at cb
  have ce := fun W => epoch_any la lg (n * (la + lg)) W
  have ca := fun W => active_any la lg (n * (la + lg)) W
  have cd := fun W => active_any la lg (n * (la + lg) - 1) W
  have hz := ep_at (q := n) (m := 0) hr (by omega) (by omega)
  have hz1 := (dv (S := la + lg) (q := n) (r := 0) (by omega) (by omega)).2
  have hz2 := (dv (S := la + lg) (q := n - 1) (r := la + lg - 1) (by omega) (by omega)).2
  rw [Int.add_zero] at hz hz1
  rw [Int.sub_mul, Int.one_mul, show n * (la + lg) - (la + lg) + (la + lg - 1) = n * (la + lg) - 1 by omega] at hz2
  rw [ep_ok hr hTN, err_ok hr hTN, hz] at ce
  rw [act_ok hr hTN, hz1, decide_eq_true (by omega)] at ca
  rw [act_ok hr hTM, hz2, decide_eq_false (by omega)] at cd
  have hm1 : x ≤ y → epI la lg x ≤ epI la lg y := fun h => ep_mono hr h
  have hm2 : y ≤ x → epI la lg y ≤ epI la lg x := fun h => ep_mono hr h
  have hC : ∀ p q : Int, (p < q → cmpI p q = -1) ∧ (q < p → cmpI p q = 1) ∧ (p = q → cmpI p q = 0) := fun p q => ⟨cmp_lt, cmp_gt, cmp_eq⟩
  generalize n * (la + lg) = N at *
  generalize epI la lg x = X at *
  generalize epI la lg y = Y at *
  obtain ⟨N0, N1⟩ := hTM
  clear w0 w1 w2 w3 w4 hTx hTy hTN hn1 hn2 hr hz hz1 hz2 hx hy hn hS
  rcases Int.lt_trichotomy x y with h | h | h
  · have hmin : min x y = x := by omega
    have hmax : max x y = y := by omega
    have hXY := hm1 (by omega)
    have h2 : ¬ y < x := by omega
    have h3 : ¬ x = y := by omega
    clear hm1 hm2
    rcases Int.lt_or_eq_of_le hXY with h4 | h4
    · rw [(hC X Y).1 h4] at cxy
      rw [(hC Y X).2.1 h4] at cyx
      have h5 : (X == Y) = false := beq_eq_false_iff_ne.2 (by omega)
      clear hC
      have CAW := Lib.hid (fun W => awake_any W)
      have CL := Lib.hid cl
      have P2 := Lib.hid p2
      have P3 := Lib.hid p3
      have P4 := Lib.hid p4
      have CX := Lib.hid cx
      have CY := Lib.hid cy
      have CXY := Lib.hid cxy
      have CYX := Lib.hid cyx
      have CB := Lib.hid cb
      have CE := Lib.hid ce
      have CA := Lib.hid ca
      have CD := Lib.hid cd
      clear cl p2 p3 p4 cx cy cxy cyx cb ce ca cd
      go_enter Try.func6, Try.ntmps6
      go_wp2_with fail
      (refine (CAW.out _).mono ?_); rintro e v1 ⟨rfl, b⟩
      have HB := Lib.hid b
      clear b
      go_wp2_with fail
      (refine (CL.out _).mono ?_); rintro e v2 ⟨rfl, b⟩
      replace HB := Lib.hid (HB.out.trans (b.mono HB.out.size))
      clear b
      have HL := Lib.hid (LtAt.new v2 la lg)
      replace HB := Lib.hid (HB.out.trans ((Joins.below_alloc1 v2 (.cells #[.int .i64 la, .int .i64 lg] 23)).mono HB.out.size))
      obtain ⟨y0, y1⟩ := HL.out.cells
      go_wp2_with fail
      (with_reducible refine (P2.out _).mono ?_); rintro e v3 ⟨rfl, rfl⟩
      go_wp2_with fail
      (with_reducible refine (P3.out _).mono ?_); rintro e v4 ⟨rfl, rfl⟩
      go_wp2_with fail
      (with_reducible refine (CX.out _).mono ?_); rintro e v5 ⟨rfl, b⟩
      replace HB := Lib.hid (HB.out.trans (b.mono HB.out.size))
      replace HL := Lib.hid (HL.out.on b)
      clear y0 y1
      obtain ⟨y0, y1⟩ := HL.out.cells
      clear b
      go_wp2_with fail
      (with_reducible refine (CY.out _).mono ?_); rintro e v6 ⟨rfl, b⟩
      replace HB := Lib.hid (HB.out.trans (b.mono HB.out.size))
      replace HL := Lib.hid (HL.out.on b)
      clear y0 y1
      obtain ⟨y0, y1⟩ := HL.out.cells
      clear b
      go_wp2_with fail
      (with_reducible refine (CXY.out _).mono ?_); rintro e v7 ⟨rfl, b⟩
      replace HB := Lib.hid (HB.out.trans (b.mono HB.out.size))
      replace HL := Lib.hid (HL.out.on b)
      clear y0 y1
      obtain ⟨y0, y1⟩ := HL.out.cells
      clear b
      go_wp2_with fail
      (with_reducible refine (CYX.out _).mono ?_); rintro e v8 ⟨rfl, b⟩
      replace HB := Lib.hid (HB.out.trans (b.mono HB.out.size))
      replace HL := Lib.hid (HL.out.on b)
      clear y0 y1
      obtain ⟨y0, y1⟩ := HL.out.cells
      clear b
      go_wp2_with fail
      (with_reducible refine (P4.out _).mono ?_); rintro e v9 ⟨rfl, rfl⟩
      go_wp2_with fail
      (with_reducible refine (CB.out _).mono ?_); rintro e v10 ⟨rfl, b⟩
      replace HB := Lib.hid (HB.out.trans (b.mono HB.out.size))
      replace HL := Lib.hid (HL.out.on b)
      clear y0 y1
      obtain ⟨y0, y1⟩ := HL.out.cells
      clear b
      go_wp2_with fail
      (with_reducible refine (CE.out _).mono ?_); rintro e v11 ⟨rfl, b⟩
      replace HB := Lib.hid (HB.out.trans (b.mono HB.out.size))
      replace HL := Lib.hid (HL.out.on b)
      clear y0 y1
      obtain ⟨y0, y1⟩ := HL.out.cells
      clear b
      go_wp2_with fail
      (with_reducible refine (CA.out _).mono ?_); rintro e v12 ⟨rfl, b⟩
      replace HB := Lib.hid (HB.out.trans (b.mono HB.out.size))
      replace HL := Lib.hid (HL.out.on b)
      clear y0 y1
      obtain ⟨y0, y1⟩ := HL.out.cells
      clear b
      go_wp2_with fail
      (with_reducible refine (CD.out _).mono ?_); rintro e v13 ⟨rfl, b⟩
      replace HB := Lib.hid (HB.out.trans (b.mono HB.out.size))
      replace HL := Lib.hid (HL.out.on b)
      clear y0 y1
      obtain ⟨y0, y1⟩ := HL.out.cells
      clear b
      go_wp2_with fail
      go_ret
      exact ⟨rfl, HB.out⟩
    · rw [(hC X Y).2.2 h4] at cxy
      rw [(hC Y X).2.2 h4.symm] at cyx
      subst h4
      clear hC
      have CAW := Lib.hid (fun W => awake_any W)
      have CL := Lib.hid cl
      have P2 := Lib.hid p2
      have P3 := Lib.hid p3
      have P4 := Lib.hid p4
      have CX := Lib.hid cx
      have CY := Lib.hid cy
      have CXY := Lib.hid cxy
      have CYX := Lib.hid cyx
      have CB := Lib.hid cb
      have CE := Lib.hid ce
      have CA := Lib.hid ca
      have CD := Lib.hid cd
      clear cl p2 p3 p4 cx cy cxy cyx cb ce ca cd
      go_enter Try.func6, Try.ntmps6
      go_wp2_with fail
      (refine (CAW.out _).mono ?_); rintro e v1 ⟨rfl, b⟩
      have HB := Lib.hid b
      clear b
      go_wp2_with fail
      (refine (CL.out _).mono ?_); rintro e v2 ⟨rfl, b⟩
      replace HB := Lib.hid (HB.out.trans (b.mono HB.out.size))
      clear b
      have HL := Lib.hid (LtAt.new v2 la lg)
      replace HB := Lib.hid (HB.out.trans ((Joins.below_alloc1 v2 (.cells #[.int .i64 la, .int .i64 lg] 23)).mono HB.out.size))
      obtain ⟨y0, y1⟩ := HL.out.cells
      go_wp2_with fail
      (with_reducible refine (P2.out _).mono ?_); rintro e v3 ⟨rfl, rfl⟩
      go_wp2_with fail
      (with_reducible refine (P3.out _).mono ?_); rintro e v4 ⟨rfl, rfl⟩
      go_wp2_with fail
      (with_reducible refine (CX.out _).mono ?_); rintro e v5 ⟨rfl, b⟩
      replace HB := Lib.hid (HB.out.trans (b.mono HB.out.size))
      replace HL := Lib.hid (HL.out.on b)
      clear y0 y1
      obtain ⟨y0, y1⟩ := HL.out.cells
      clear b
      go_wp2_with fail
      (with_reducible refine (CY.out _).mono ?_); rintro e v6 ⟨rfl, b⟩
      replace HB := Lib.hid (HB.out.trans (b.mono HB.out.size))
      replace HL := Lib.hid (HL.out.on b)
      clear y0 y1
      obtain ⟨y0, y1⟩ := HL.out.cells
      clear b
      go_wp2_with fail
      (with_reducible refine (CXY.out _).mono ?_); rintro e v7 ⟨rfl, b⟩
      replace HB := Lib.hid (HB.out.trans (b.mono HB.out.size))
      replace HL := Lib.hid (HL.out.on b)
      clear y0 y1
      obtain ⟨y0, y1⟩ := HL.out.cells
      clear b
      go_wp2_with fail
      (with_reducible refine (CYX.out _).mono ?_); rintro e v8 ⟨rfl, b⟩
      replace HB := Lib.hid (HB.out.trans (b.mono HB.out.size))
      replace HL := Lib.hid (HL.out.on b)
      clear y0 y1
      obtain ⟨y0, y1⟩ := HL.out.cells
      clear b
      go_wp2_with fail
      (with_reducible refine (P4.out _).mono ?_); rintro e v9 ⟨rfl, rfl⟩
      go_wp2_with fail
      (with_reducible refine (CB.out _).mono ?_); rintro e v10 ⟨rfl, b⟩
      replace HB := Lib.hid (HB.out.trans (b.mono HB.out.size))
      replace HL := Lib.hid (HL.out.on b)
      clear y0 y1
      obtain ⟨y0, y1⟩ := HL.out.cells
      clear b
      go_wp2_with fail
      (with_reducible refine (CE.out _).mono ?_); rintro e v11 ⟨rfl, b⟩
      replace HB := Lib.hid (HB.out.trans (b.mono HB.out.size))
      replace HL := Lib.hid (HL.out.on b)
      clear y0 y1
      obtain ⟨y0, y1⟩ := HL.out.cells
      clear b
      go_wp2_with fail
      (with_reducible refine (CA.out _).mono ?_); rintro e v12 ⟨rfl, b⟩
      replace HB := Lib.hid (HB.out.trans (b.mono HB.out.size))
      replace HL := Lib.hid (HL.out.on b)
      clear y0 y1
      obtain ⟨y0, y1⟩ := HL.out.cells
      clear b
      go_wp2_with fail
      (with_reducible refine (CD.out _).mono ?_); rintro e v13 ⟨rfl, b⟩
      replace HB := Lib.hid (HB.out.trans (b.mono HB.out.size))
      replace HL := Lib.hid (HL.out.on b)
      clear y0 y1
      obtain ⟨y0, y1⟩ := HL.out.cells
      clear b
      go_wp2_with fail
      go_ret
      exact ⟨rfl, HB.out⟩
  · have h4 : X = Y := by have := hm1 (by omega); have := hm2 (by omega); omega
    rw [(hC X Y).2.2 h4] at cxy
    rw [(hC Y X).2.2 h4.symm] at cyx
    subst h4
    subst h
    clear hC hm1 hm2
    have CAW := Lib.hid (fun W => awake_any W)
    have CL := Lib.hid cl
    have P2 := Lib.hid p2
    have P3 := Lib.hid p3
    have P4 := Lib.hid p4
    have CX := Lib.hid cx
    have CY := Lib.hid cy
    have CXY := Lib.hid cxy
    have CYX := Lib.hid cyx
    have CB := Lib.hid cb
    have CE := Lib.hid ce
    have CA := Lib.hid ca
    have CD := Lib.hid cd
    clear cl p2 p3 p4 cx cy cxy cyx cb ce ca cd
    go_enter Try.func6, Try.ntmps6
    go_wp2_with fail
    (refine (CAW.out _).mono ?_); rintro e v1 ⟨rfl, b⟩
    have HB := Lib.hid b
    clear b
    go_wp2_with fail
    (refine (CL.out _).mono ?_); rintro e v2 ⟨rfl, b⟩
    replace HB := Lib.hid (HB.out.trans (b.mono HB.out.size))
    clear b
    have HL := Lib.hid (LtAt.new v2 la lg)
    replace HB := Lib.hid (HB.out.trans ((Joins.below_alloc1 v2 (.cells #[.int .i64 la, .int .i64 lg] 23)).mono HB.out.size))
    obtain ⟨y0, y1⟩ := HL.out.cells
    go_wp2_with fail
    (with_reducible refine (P2.out _).mono ?_); rintro e v3 ⟨rfl, rfl⟩
    go_wp2_with fail
    (with_reducible refine (P3.out _).mono ?_); rintro e v4 ⟨rfl, rfl⟩
    go_wp2_with fail
    (with_reducible refine (CX.out _).mono ?_); rintro e v5 ⟨rfl, b⟩
    replace HB := Lib.hid (HB.out.trans (b.mono HB.out.size))
    replace HL := Lib.hid (HL.out.on b)
    clear y0 y1
    obtain ⟨y0, y1⟩ := HL.out.cells
    clear b
    go_wp2_with fail
    (with_reducible refine (CX.out _).mono ?_); rintro e v6 ⟨rfl, b⟩
    replace HB := Lib.hid (HB.out.trans (b.mono HB.out.size))
    replace HL := Lib.hid (HL.out.on b)
    clear y0 y1
    obtain ⟨y0, y1⟩ := HL.out.cells
    clear b
    go_wp2_with fail
    (with_reducible refine (CXY.out _).mono ?_); rintro e v7 ⟨rfl, b⟩
    replace HB := Lib.hid (HB.out.trans (b.mono HB.out.size))
    replace HL := Lib.hid (HL.out.on b)
    clear y0 y1
    obtain ⟨y0, y1⟩ := HL.out.cells
    clear b
    go_wp2_with fail
    (with_reducible refine (CXY.out _).mono ?_); rintro e v8 ⟨rfl, b⟩
    replace HB := Lib.hid (HB.out.trans (b.mono HB.out.size))
    replace HL := Lib.hid (HL.out.on b)
    clear y0 y1
    obtain ⟨y0, y1⟩ := HL.out.cells
    clear b
    go_wp2_with fail
    (with_reducible refine (P4.out _).mono ?_); rintro e v9 ⟨rfl, rfl⟩
    go_wp2_with fail
    (with_reducible refine (CB.out _).mono ?_); rintro e v10 ⟨rfl, b⟩
    replace HB := Lib.hid (HB.out.trans (b.mono HB.out.size))
    replace HL := Lib.hid (HL.out.on b)
    clear y0 y1
    obtain ⟨y0, y1⟩ := HL.out.cells
    clear b
    go_wp2_with fail
    (with_reducible refine (CE.out _).mono ?_); rintro e v11 ⟨rfl, b⟩
    replace HB := Lib.hid (HB.out.trans (b.mono HB.out.size))
    replace HL := Lib.hid (HL.out.on b)
    clear y0 y1
    obtain ⟨y0, y1⟩ := HL.out.cells
    clear b
    go_wp2_with fail
    (with_reducible refine (CA.out _).mono ?_); rintro e v12 ⟨rfl, b⟩
    replace HB := Lib.hid (HB.out.trans (b.mono HB.out.size))
    replace HL := Lib.hid (HL.out.on b)
    clear y0 y1
    obtain ⟨y0, y1⟩ := HL.out.cells
    clear b
    go_wp2_with fail
    (with_reducible refine (CD.out _).mono ?_); rintro e v13 ⟨rfl, b⟩
    replace HB := Lib.hid (HB.out.trans (b.mono HB.out.size))
    replace HL := Lib.hid (HL.out.on b)
    clear y0 y1
    obtain ⟨y0, y1⟩ := HL.out.cells
    clear b
    go_wp2_with fail
    go_ret
    exact ⟨rfl, HB.out⟩
  · have hmin : min x y = y := by omega
    have hmax : max x y = x := by omega
    have hXY := hm2 (by omega)
    have h2 : ¬ x < y := by omega
    have h3 : ¬ x = y := by omega
    clear hm1 hm2
    rcases Int.lt_or_eq_of_le hXY with h4 | h4
    · rw [(hC X Y).2.1 h4] at cxy
      rw [(hC Y X).1 h4] at cyx
      have h6 : (Y == X) = false := beq_eq_false_iff_ne.2 (by omega)
      clear hC
      have CAW := Lib.hid (fun W => awake_any W)
      have CL := Lib.hid cl
      have P2 := Lib.hid p2
      have P3 := Lib.hid p3
      have P4 := Lib.hid p4
      have CX := Lib.hid cx
      have CY := Lib.hid cy
      have CXY := Lib.hid cxy
      have CYX := Lib.hid cyx
      have CB := Lib.hid cb
      have CE := Lib.hid ce
      have CA := Lib.hid ca
      have CD := Lib.hid cd
      clear cl p2 p3 p4 cx cy cxy cyx cb ce ca cd
      go_enter Try.func6, Try.ntmps6
      go_wp2_with fail
      (refine (CAW.out _).mono ?_); rintro e v1 ⟨rfl, b⟩
      have HB := Lib.hid b
      clear b
      go_wp2_with fail
      (refine (CL.out _).mono ?_); rintro e v2 ⟨rfl, b⟩
      replace HB := Lib.hid (HB.out.trans (b.mono HB.out.size))
      clear b
      have HL := Lib.hid (LtAt.new v2 la lg)
      replace HB := Lib.hid (HB.out.trans ((Joins.below_alloc1 v2 (.cells #[.int .i64 la, .int .i64 lg] 23)).mono HB.out.size))
      obtain ⟨y0, y1⟩ := HL.out.cells
      go_wp2_with fail
      (with_reducible refine (P2.out _).mono ?_); rintro e v3 ⟨rfl, rfl⟩
      go_wp2_with fail
      (with_reducible refine (P3.out _).mono ?_); rintro e v4 ⟨rfl, rfl⟩
      go_wp2_with fail
      (with_reducible refine (CY.out _).mono ?_); rintro e v5 ⟨rfl, b⟩
      replace HB := Lib.hid (HB.out.trans (b.mono HB.out.size))
      replace HL := Lib.hid (HL.out.on b)
      clear y0 y1
      obtain ⟨y0, y1⟩ := HL.out.cells
      clear b
      go_wp2_with fail
      (with_reducible refine (CX.out _).mono ?_); rintro e v6 ⟨rfl, b⟩
      replace HB := Lib.hid (HB.out.trans (b.mono HB.out.size))
      replace HL := Lib.hid (HL.out.on b)
      clear y0 y1
      obtain ⟨y0, y1⟩ := HL.out.cells
      clear b
      go_wp2_with fail
      (with_reducible refine (CXY.out _).mono ?_); rintro e v7 ⟨rfl, b⟩
      replace HB := Lib.hid (HB.out.trans (b.mono HB.out.size))
      replace HL := Lib.hid (HL.out.on b)
      clear y0 y1
      obtain ⟨y0, y1⟩ := HL.out.cells
      clear b
      go_wp2_with fail
      (with_reducible refine (CYX.out _).mono ?_); rintro e v8 ⟨rfl, b⟩
      replace HB := Lib.hid (HB.out.trans (b.mono HB.out.size))
      replace HL := Lib.hid (HL.out.on b)
      clear y0 y1
      obtain ⟨y0, y1⟩ := HL.out.cells
      clear b
      go_wp2_with fail
      (with_reducible refine (P4.out _).mono ?_); rintro e v9 ⟨rfl, rfl⟩
      go_wp2_with fail
      (with_reducible refine (CB.out _).mono ?_); rintro e v10 ⟨rfl, b⟩
      replace HB := Lib.hid (HB.out.trans (b.mono HB.out.size))
      replace HL := Lib.hid (HL.out.on b)
      clear y0 y1
      obtain ⟨y0, y1⟩ := HL.out.cells
      clear b
      go_wp2_with fail
      (with_reducible refine (CE.out _).mono ?_); rintro e v11 ⟨rfl, b⟩
      replace HB := Lib.hid (HB.out.trans (b.mono HB.out.size))
      replace HL := Lib.hid (HL.out.on b)
      clear y0 y1
      obtain ⟨y0, y1⟩ := HL.out.cells
      clear b
      go_wp2_with fail
      (with_reducible refine (CA.out _).mono ?_); rintro e v12 ⟨rfl, b⟩
      replace HB := Lib.hid (HB.out.trans (b.mono HB.out.size))
      replace HL := Lib.hid (HL.out.on b)
      clear y0 y1
      obtain ⟨y0, y1⟩ := HL.out.cells
      clear b
      go_wp2_with fail
      (with_reducible refine (CD.out _).mono ?_); rintro e v13 ⟨rfl, b⟩
      replace HB := Lib.hid (HB.out.trans (b.mono HB.out.size))
      replace HL := Lib.hid (HL.out.on b)
      clear y0 y1
      obtain ⟨y0, y1⟩ := HL.out.cells
      clear b
      go_wp2_with fail
      go_ret
      exact ⟨rfl, HB.out⟩
    · rw [(hC X Y).2.2 h4.symm] at cxy
      rw [(hC Y X).2.2 h4] at cyx
      subst h4
      clear hC
      have CAW := Lib.hid (fun W => awake_any W)
      have CL := Lib.hid cl
      have P2 := Lib.hid p2
      have P3 := Lib.hid p3
      have P4 := Lib.hid p4
      have CX := Lib.hid cx
      have CY := Lib.hid cy
      have CXY := Lib.hid cxy
      have CYX := Lib.hid cyx
      have CB := Lib.hid cb
      have CE := Lib.hid ce
      have CA := Lib.hid ca
      have CD := Lib.hid cd
      clear cl p2 p3 p4 cx cy cxy cyx cb ce ca cd
      go_enter Try.func6, Try.ntmps6
      go_wp2_with fail
      (refine (CAW.out _).mono ?_); rintro e v1 ⟨rfl, b⟩
      have HB := Lib.hid b
      clear b
      go_wp2_with fail
      (refine (CL.out _).mono ?_); rintro e v2 ⟨rfl, b⟩
      replace HB := Lib.hid (HB.out.trans (b.mono HB.out.size))
      clear b
      have HL := Lib.hid (LtAt.new v2 la lg)
      replace HB := Lib.hid (HB.out.trans ((Joins.below_alloc1 v2 (.cells #[.int .i64 la, .int .i64 lg] 23)).mono HB.out.size))
      obtain ⟨y0, y1⟩ := HL.out.cells
      go_wp2_with fail
      (with_reducible refine (P2.out _).mono ?_); rintro e v3 ⟨rfl, rfl⟩
      go_wp2_with fail
      (with_reducible refine (P3.out _).mono ?_); rintro e v4 ⟨rfl, rfl⟩
      go_wp2_with fail
      (with_reducible refine (CY.out _).mono ?_); rintro e v5 ⟨rfl, b⟩
      replace HB := Lib.hid (HB.out.trans (b.mono HB.out.size))
      replace HL := Lib.hid (HL.out.on b)
      clear y0 y1
      obtain ⟨y0, y1⟩ := HL.out.cells
      clear b
      go_wp2_with fail
      (with_reducible refine (CX.out _).mono ?_); rintro e v6 ⟨rfl, b⟩
      replace HB := Lib.hid (HB.out.trans (b.mono HB.out.size))
      replace HL := Lib.hid (HL.out.on b)
      clear y0 y1
      obtain ⟨y0, y1⟩ := HL.out.cells
      clear b
      go_wp2_with fail
      (with_reducible refine (CXY.out _).mono ?_); rintro e v7 ⟨rfl, b⟩
      replace HB := Lib.hid (HB.out.trans (b.mono HB.out.size))
      replace HL := Lib.hid (HL.out.on b)
      clear y0 y1
      obtain ⟨y0, y1⟩ := HL.out.cells
      clear b
      go_wp2_with fail
      (with_reducible refine (CYX.out _).mono ?_); rintro e v8 ⟨rfl, b⟩
      replace HB := Lib.hid (HB.out.trans (b.mono HB.out.size))
      replace HL := Lib.hid (HL.out.on b)
      clear y0 y1
      obtain ⟨y0, y1⟩ := HL.out.cells
      clear b
      go_wp2_with fail
      (with_reducible refine (P4.out _).mono ?_); rintro e v9 ⟨rfl, rfl⟩
      go_wp2_with fail
      (with_reducible refine (CB.out _).mono ?_); rintro e v10 ⟨rfl, b⟩
      replace HB := Lib.hid (HB.out.trans (b.mono HB.out.size))
      replace HL := Lib.hid (HL.out.on b)
      clear y0 y1
      obtain ⟨y0, y1⟩ := HL.out.cells
      clear b
      go_wp2_with fail
      (with_reducible refine (CE.out _).mono ?_); rintro e v11 ⟨rfl, b⟩
      replace HB := Lib.hid (HB.out.trans (b.mono HB.out.size))
      replace HL := Lib.hid (HL.out.on b)
      clear y0 y1
      obtain ⟨y0, y1⟩ := HL.out.cells
      clear b
      go_wp2_with fail
      (with_reducible refine (CA.out _).mono ?_); rintro e v12 ⟨rfl, b⟩
      replace HB := Lib.hid (HB.out.trans (b.mono HB.out.size))
      replace HL := Lib.hid (HL.out.on b)
      clear y0 y1
      obtain ⟨y0, y1⟩ := HL.out.cells
      clear b
      go_wp2_with fail
      (with_reducible refine (CD.out _).mono ?_); rintro e v13 ⟨rfl, b⟩
      replace HB := Lib.hid (HB.out.trans (b.mono HB.out.size))
      replace HL := Lib.hid (HL.out.on b)
      clear y0 y1
      obtain ⟨y0, y1⟩ := HL.out.cells
      clear b
      go_wp2_with fail
      go_ret
      exact ⟨rfl, HB.out⟩

end Go.Proofs.Ytlgbgkiajhcneaa

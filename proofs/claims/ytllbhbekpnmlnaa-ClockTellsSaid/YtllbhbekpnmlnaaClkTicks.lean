/-
  The law ClockTicks.
-/
import Derived.Test.YtllbhbekpnmlnaaClkAwake
namespace Go.Proofs.Ytllbhbekpnmlnaa
open Go.RowKit

theorem el_ok {t d : Int} (ht : 0 ≤ t ∧ t ≤ 1099511627776) (hd : -1000 ≤ d ∧ d ≤ 1000) : elE t d = 0 ∧ elV t d = t + t * d / 1000000 := by
  have h := (elB_iff t d).2 ⟨ht, hd⟩
  unfold elE elV
  rw [h]
  exact ⟨rfl, rfl⟩
theorem el_near {t d : Int} (ht : 0 ≤ t) (hd : -1000 ≤ d ∧ d ≤ 1000) : 1000 * (t * d / 1000000) ≤ t ∧ -(t + 1000) ≤ 1000 * (t * d / 1000000) := by
  have h1 : t * d ≤ t * 1000 := Int.mul_le_mul_of_nonneg_left hd.2 ht
  have h3 : t * (-1000) ≤ t * d := Int.mul_le_mul_of_nonneg_left hd.1 ht
  omega
theorem el_mono {t m d : Int} (hm : 0 ≤ m) (hd : -1000 ≤ d) : t + t * d / 1000000 ≤ t + m + (t + m) * d / 1000000 := by
  have e : (t + m) * d = t * d + m * d := Int.add_mul t m d
  have h3 : m * (-1000) ≤ m * d := Int.mul_le_mul_of_nonneg_left hd hm
  rw [e]
  omega
theorem ma_ok {t s : Int} (ht : -1099511627776 ≤ t ∧ t ≤ 1099511627776) (hs : 1 ≤ s ∧ s ≤ 1048576) : maE t s = 0 ∧ maV t s = t / s ∧ maR t s = t % s := by
  have h := (maB_iff t s).2 ⟨ht, hs⟩
  unfold maE maV maR
  rw [h]
  exact ⟨rfl, rfl, rfl⟩

set_option maxRecDepth 100000 in
set_option maxHeartbeats 1000000 in
theorem clockTicks_walk (a0 a1 a2 a3 : Int) (w0 : (Lit.int .i64 a0).wf = true) (w1 : (Lit.int .i64 a1).wf = true) (w2 : (Lit.int .i64 a2).wf = true) (w3 : (Lit.int .i64 a3).wf = true) (w : World) :
    Calls Try.prog 6 #[.int .i64 a0, .int .i64 a1, .int .i64 a2, .int .i64 a3] w fun e w' => e = .returned (.bool true) ∧ Below w.heap.size w w' := by
  have p0 := fun W => pick_any a0 549755813888 w0 (by omega) W
  have p1 := fun W => pick_any a1 549755813888 w1 (by omega) W
  have p2 := fun W => pick_any a2 2001 w2 (by omega) W
  have p3 := fun W => pick_any a3 1048576 w3 (by omega) W
  obtain ⟨t0, t1⟩ := pickI_range a0 549755813888 (by omega)
  obtain ⟨m0, m1⟩ := pickI_range a1 549755813888 (by omega)
  obtain ⟨d0, d1⟩ := pickI_range a2 2001 (by omega)
  obtain ⟨s0, s1⟩ := pickI_range a3 1048576 (by omega)
  generalize pickI a0 549755813888 = T at *
  generalize pickI a1 549755813888 = M at *
  generalize pickI a2 2001 = D at *
  generalize pickI a3 1048576 = S at *
  have c1 := fun W => elapsed_any T (D - 1000) W
  have c2 := fun W => elapsed_any (T + M) (D - 1000) W
  have c3 := fun W => elapsed_any T 0 W
  have c4 := fun W => macro_any (T - 274877906944) (1 + S) W
  obtain ⟨e1, v1⟩ := el_ok (t := T) (d := D - 1000) ⟨by omega, by omega⟩ ⟨by omega, by omega⟩
  obtain ⟨e2, v2⟩ := el_ok (t := T + M) (d := D - 1000) ⟨by omega, by omega⟩ ⟨by omega, by omega⟩
  obtain ⟨e3, v3⟩ := el_ok (t := T) (d := 0) ⟨by omega, by omega⟩ ⟨by omega, by omega⟩
  rw [Int.mul_zero] at v3
  have v3' : elV T 0 = T := by rw [v3]; omega
  have e4b := (maB_iff (T - 274877906944) (1 + S)).2 ⟨⟨by omega, by omega⟩, by omega, by omega⟩
  obtain ⟨e4, v4, v5⟩ := ma_ok (t := T - 274877906944) (s := 1 + S) ⟨by omega, by omega⟩ ⟨by omega, by omega⟩
  obtain ⟨-, ⟨x1, x2⟩, x3⟩ := ma_facts e4b
  have x4 := Int.emod_nonneg (T - 274877906944) (show 1 + S ≠ 0 by omega)
  have x5 := Int.emod_lt_of_pos (T - 274877906944) (show 0 < 1 + S by omega)
  obtain ⟨y1, y2⟩ := el_near (t := T) (d := D - 1000) t0 ⟨by omega, by omega⟩
  obtain ⟨y3, y4⟩ := el_near (t := T + M) (d := D - 1000) (by omega) ⟨by omega, by omega⟩
  have y5 := el_mono (t := T) (m := M) (d := D - 1000) m0 (by omega)
  rw [e1, v1] at c1
  rw [e2, v2] at c2
  rw [e3, v3'] at c3
  rw [e4, v4, v5] at c4
  generalize T * (D - 1000) / 1000000 = q1 at *
  generalize (T + M) * (D - 1000) / 1000000 = q2 at *
  generalize (T - 274877906944) % (1 + S) = r at *
  have z0 : 1000 * (if T + q1 - T < T - (T + q1) then T - (T + q1) else T + q1 - T) ≤ T + 1000 := by split <;> omega
  have hnb : -1099511627776 ≤ (T - 274877906944) / (1 + S) ∧ (T - 274877906944) / (1 + S) ≤ 1099511627776 := (ma_facts e4b).1
  obtain ⟨hn0, hn1⟩ := hnb
  generalize (T - 274877906944) / (1 + S) = n at *
  generalize hP : n * (1 + S) = P at *
  have HP := Lib.hid hP; clear hP
  obtain ⟨A, hA⟩ : ∃ A, T + q1 = A := ⟨_, rfl⟩
  obtain ⟨B, hB⟩ : ∃ B, T + M + q2 = B := ⟨_, rfl⟩
  rw [hA] at c1 z0 y5
  rw [hB] at c2 y5
  have HPW := Lib.hid (show P + r = T - 274877906944 by omega)
  have b1 : -1099511627776 ≤ A := by omega
  have b2 : A ≤ 1099511627776 := by omega
  have b3 : -1099511627776 ≤ B := by omega
  have b4 : B ≤ 2199023255552 := by omega
  clear e1 e2 e3 e4 v1 v2 v3 v3' v4 v5 e4b x3 y1 y2 y3 y4 hA hB w0 w1 w2 w3
  have C1 := Lib.hid c1
  have C2 := Lib.hid c2
  have C3 := Lib.hid c3
  have C4 := Lib.hid c4
  have P0 := Lib.hid p0
  have P1 := Lib.hid p1
  have P2 := Lib.hid p2
  have P3 := Lib.hid p3
  clear c1 c2 c3 c4 p0 p1 p2 p3
  go_enter Try.func6, Try.ntmps6
  go_wp2_with fail; refine (awake_any _).mono ?_; rintro e w1 ⟨rfl, b⟩
  have HB1 := Lib.hid b; clear b
  go_wp2_with fail; (with_reducible refine (P0.out _).mono ?_); rintro e w2 ⟨rfl, rfl⟩
  go_wp2_with fail; (with_reducible refine (P2.out _).mono ?_); rintro e w2 ⟨rfl, rfl⟩
  go_wp2_with fail; (with_reducible refine (C1.out _).mono ?_); rintro e w2 ⟨rfl, b⟩
  have HB2 := Lib.hid (HB1.out.trans (b.mono HB1.out.size)); clear b
  go_wp2_with fail; (with_reducible refine (P1.out _).mono ?_); rintro e w3 ⟨rfl, rfl⟩
  go_wp2_with fail; (with_reducible refine (C2.out _).mono ?_); rintro e w3 ⟨rfl, b⟩
  have HB3 := Lib.hid (HB2.out.trans (b.mono HB2.out.size)); clear b
  go_wp2_with fail; (with_reducible refine (C3.out _).mono ?_); rintro e w4 ⟨rfl, b⟩
  have HB4 := Lib.hid (HB3.out.trans (b.mono HB3.out.size)); clear b
  go_wp2_with fail; (with_reducible refine (P3.out _).mono ?_); rintro e w5 ⟨rfl, rfl⟩
  go_wp2_with fail; (with_reducible refine (C4.out _).mono ?_); rintro e w5 ⟨rfl, b⟩
  have HB5 := Lib.hid (HB4.out.trans (b.mono HB4.out.size)); clear b
  have hp := HP.out
  have hpw := HPW.out
  go_wp2_with fail
  all_goals (go_ret; exact ⟨rfl, HB5.out⟩)

end Go.Proofs.Ytllbhbekpnmlnaa

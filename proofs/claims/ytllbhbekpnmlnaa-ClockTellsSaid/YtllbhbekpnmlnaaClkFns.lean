/-
  What clock.within, divide, Elapsed, Macro do, and the document's down, Elapsed, Macro: the same plain functions.
-/
import Derived.Test.YtllbhbekpnmlnaaClkBase
namespace Go.Proofs.Ytllbhbekpnmlnaa
open Go.RowKit

def inB (a b n : Int) : Bool := decide (a ≤ n) && decide (n ≤ b)
theorem inB_iff (a b n : Int) : inB a b n = true ↔ a ≤ n ∧ n ≤ b := by unfold inB; simp
theorem inB_not (a b n : Int) : inB a b n = false ↔ n < a ∨ b < n := by
  rw [← Bool.not_eq_true, inB_iff]; omega
set_option maxRecDepth 100000 in
theorem within_any (a b n : Int) (w : World) :
    Calls Try.prog 23 #[.int .i64 a, .int .i64 b, .int .i64 n] w fun e w' => e = .returned (.bool (inB a b n)) ∧ w = w' := by
  by_cases h1 : a ≤ n
  · go_enter Try.func23, Try.ntmps23
    go_wp2_with fail
    go_ret
    exact ⟨ret_b (by simp [inB, h1]), rfl⟩
  · go_enter Try.func23, Try.ntmps23
    go_wp2_with fail
    go_ret
    exact ⟨ret_b (by unfold inB; rw [decide_eq_false (by omega)]; rfl), rfl⟩

theorem down_neg (n b : Int) (hb : 0 < b) (h : n.tmod b < 0) : n.tdiv b - 1 = n / b ∧ n.tmod b + b = n % b := by
  have h1 := Int.mul_tdiv_add_tmod n b
  have h2 := Int.mul_ediv_add_emod n b
  have h3 := Int.emod_nonneg n (show b ≠ 0 by omega)
  have h4 := Int.emod_lt_of_pos n hb
  have h5 : -b < n.tmod b := by
    have := Int.lt_tmod_of_pos n hb
    omega
  have e : b * (n / b - n.tdiv b) = n.tmod b - n % b := by rw [Int.mul_sub]; omega
  have hq : n / b - n.tdiv b = -1 := by
    rcases Int.lt_trichotomy (n / b - n.tdiv b) (-1) with hlt | heq | hgt
    · have : b * (n / b - n.tdiv b) ≤ b * (-2) := Int.mul_le_mul_of_nonneg_left (by omega) (by omega)
      omega
    · exact heq
    · have : b * 0 ≤ b * (n / b - n.tdiv b) := Int.mul_le_mul_of_nonneg_left (by omega) (by omega)
      omega
  rw [hq] at e
  omega
theorem down_pos (n b : Int) (hb : 0 < b) (h : ¬ n.tmod b < 0) : n.tdiv b = n / b ∧ n.tmod b = n % b := by
  have h1 := Int.mul_tdiv_add_tmod n b
  have h2 := Int.mul_ediv_add_emod n b
  have h3 := Int.emod_nonneg n (show b ≠ 0 by omega)
  have h4 := Int.emod_lt_of_pos n hb
  have h5 := Int.tmod_lt_of_pos n hb
  have e : b * (n / b - n.tdiv b) = n.tmod b - n % b := by rw [Int.mul_sub]; omega
  have hq : n / b - n.tdiv b = 0 := by
    rcases Int.lt_trichotomy (n / b - n.tdiv b) 0 with hlt | heq | hgt
    · have : b * (n / b - n.tdiv b) ≤ b * (-1) := Int.mul_le_mul_of_nonneg_left (by omega) (by omega)
      omega
    · exact heq
    · have : b * 1 ≤ b * (n / b - n.tdiv b) := Int.mul_le_mul_of_nonneg_left (by omega) (by omega)
      omega
  rw [hq] at e
  omega

theorem tdiv_bound (n b : Int) : -n.natAbs ≤ n.tdiv b ∧ n.tdiv b ≤ n.natAbs := by
  have h := Int.natAbs_tdiv_le_natAbs n b
  omega
theorem tmod_bound (n b : Int) (hb : 0 < b) : -b < n.tmod b ∧ n.tmod b < b := by
  have h1 := Int.tmod_lt_of_pos n hb
  have h2 := Int.lt_tmod_of_pos n hb
  omega

theorem ret_ii {a b c d : Int} (h : a = b) (k : c = d) : Ending.returned (.tuple #[.int .i64 a, .int .i64 c]) = .returned (.tuple #[.int .i64 b, .int .i64 d]) := by rw [h, k]
theorem ret_iii {a b c d e f : Int} (h : a = b) (k : c = d) (l : e = f) : Ending.returned (.tuple #[.int .i64 a, .int .i64 c, .int .i64 e]) = .returned (.tuple #[.int .i64 b, .int .i64 d, .int .i64 f]) := by rw [h, k, l]

set_option maxRecDepth 100000 in
theorem divide_any (n b : Int) (hb : 0 < b) (hb2 : b ≤ 1048576) (hn : -4611686018427387904 ≤ n ∧ n ≤ 4611686018427387904) (w : World) :
    Calls Try.prog 24 #[.int .i64 n, .int .i64 b] w fun e w' => e = .returned (.tuple #[.int .i64 (n / b), .int .i64 (n % b)]) ∧ Below w.heap.size w w' := by
  have h0 : b ≠ 0 := by omega
  obtain ⟨hn, hn2⟩ := hn
  obtain ⟨q1, q2⟩ := tdiv_bound n b
  obtain ⟨r1, r2⟩ := tmod_bound n b hb
  have HY := Lib.hid (down_neg n b hb)
  have HN := Lib.hid (down_pos n b hb)
  have hw1 : wrap64 (n.tdiv b) = n.tdiv b := w64 _ (by omega) (by omega)
  by_cases hr : n.tmod b < 0
  · obtain ⟨e1, e2⟩ := HY.out hr
    have H1 := Lib.hid e1
    have H2 := Lib.hid e2
    clear HY HN e1 e2
    go_enter Try.func24, Try.ntmps24
    go_wp2_with fail
    go_quiet (fail)
    go_wp2_with fail
    go_ret2
    exact ⟨ret_ii H1.out H2.out, below_drewN (Below.refl _ _) _⟩
  · obtain ⟨e1, e2⟩ := HN.out hr
    have H1 := Lib.hid e1
    have H2 := Lib.hid e2
    clear HY HN e1 e2
    go_enter Try.func24, Try.ntmps24
    go_wp2_with fail
    go_quiet (fail)
    go_wp2_with fail
    go_ret2
    exact ⟨ret_ii H1.out H2.out, below_drewN (Below.refl _ _) _⟩

set_option maxRecDepth 100000 in
theorem down_any (n b : Int) (hb : 0 < b) (hb2 : b ≤ 1048576) (hn : -4611686018427387904 ≤ n ∧ n ≤ 4611686018427387904) (w : World) :
    Calls Try.prog 25 #[.int .i64 n, .int .i64 b] w fun e w' => e = .returned (.int .i64 (n / b)) ∧ w = w' := by
  have h0 : b ≠ 0 := by omega
  obtain ⟨hn, hn2⟩ := hn
  obtain ⟨q1, q2⟩ := tdiv_bound n b
  obtain ⟨r1, r2⟩ := tmod_bound n b hb
  have HY := Lib.hid (down_neg n b hb)
  have HN := Lib.hid (down_pos n b hb)
  have hw1 : wrap64 (n.tdiv b) = n.tdiv b := w64 _ (by omega) (by omega)
  by_cases hr : n.tmod b < 0
  · have H1 := Lib.hid (HY.out hr).1
    clear HY HN
    go_enter Try.func25, Try.ntmps25
    go_wp2_with fail
    go_ret
    exact ⟨ret_i H1.out, rfl⟩
  · have H1 := Lib.hid (HN.out hr).1
    clear HY HN
    go_enter Try.func25, Try.ntmps25
    go_wp2_with fail
    go_ret
    exact ⟨ret_i H1.out, rfl⟩

def elB (t d : Int) : Bool := inB 0 1099511627776 t && inB (-1000) 1000 d
def elE (t d : Int) : Int := if elB t d then 0 else 1
def elV (t d : Int) : Int := if elB t d then t + t * d / 1000000 else 0
theorem elB_iff (t d : Int) : elB t d = true ↔ (0 ≤ t ∧ t ≤ 1099511627776) ∧ -1000 ≤ d ∧ d ≤ 1000 := by unfold elB; rw [Bool.and_eq_true, inB_iff, inB_iff]
theorem mul_bound {t d T D : Int} (ht : 0 ≤ t ∧ t ≤ T) (hd : -D ≤ d ∧ d ≤ D) (hD : 0 ≤ D) : -(T * D) ≤ t * d ∧ t * d ≤ T * D := by
  have h1 : t * d ≤ t * D := Int.mul_le_mul_of_nonneg_left hd.2 ht.1
  have h2 : t * D ≤ T * D := Int.mul_le_mul_of_nonneg_right ht.2 hD
  have h3 : t * (-D) ≤ t * d := Int.mul_le_mul_of_nonneg_left hd.1 ht.1
  rw [Int.mul_neg] at h3
  omega
theorem el_bound {t d : Int} (h : elB t d = true) : -1099511627776000 ≤ t * d ∧ t * d ≤ 1099511627776000 := by
  obtain ⟨h1, h2⟩ := (elB_iff t d).1 h
  exact mul_bound h1 h2 (by omega)

set_option maxRecDepth 100000 in
theorem elapsed_any (t d : Int) (w : World) :
    Calls Try.prog 12 #[.int .i64 t, .int .i64 d] w fun e w' => e = .returned (.tuple #[.int .i64 (elV t d), .int .i64 (elE t d)]) ∧ Below w.heap.size w w' := by
  have c1 := fun W => within_any 0 1099511627776 t W
  have c2 := fun W => within_any (-1000) 1000 d W
  have HB := Lib.hid (el_bound (t := t) (d := d))
  have HV : Hid (elV t d = if elB t d then t + t * d / 1000000 else 0) := Lib.hid rfl
  have HE : Hid (elE t d = if elB t d then 0 else 1) := Lib.hid rfl
  have HD : Hid (elB t d = (inB 0 1099511627776 t && inB (-1000) 1000 d)) := Lib.hid rfl
  cases h1 : inB 0 1099511627776 t
  · rw [h1] at c1 HD
    clear h1
    rw [HD.out] at HV HE
    go_enter Try.func12, Try.ntmps12
    go_wp2_with fail; refine (c1 _).mono ?_; rintro e w1 ⟨rfl, rfl⟩
    go_wp2_with fail
    go_ret2
    exact ⟨ret_ii HV.out.symm HE.out.symm, Below.refl _ _⟩
  · cases h2 : inB (-1000) 1000 d
    · rw [h1] at c1
      rw [h1, h2] at HD
      rw [h2] at c2
      clear h1 h2
      rw [HD.out] at HV HE
      go_enter Try.func12, Try.ntmps12
      go_wp2_with fail; refine (c1 _).mono ?_; rintro e w1 ⟨rfl, rfl⟩
      go_wp2_with fail; refine (c2 _).mono ?_; rintro e w1 ⟨rfl, rfl⟩
      go_wp2_with fail
      go_ret2
      exact ⟨ret_ii HV.out.symm HE.out.symm, Below.refl _ _⟩
    · obtain ⟨t0, t1⟩ := (inB_iff _ _ _).1 h1
      rw [h1] at c1
      rw [h1, h2] at HD
      rw [h2] at c2
      clear h1 h2
      obtain ⟨m1, m2⟩ := HB.out HD.out
      rw [HD.out] at HV HE
      have c3 := fun W => divide_any (t * d) 1000000 (by omega) (by omega) (by omega) W
      go_enter Try.func12, Try.ntmps12
      go_wp2_with fail; refine (c1 _).mono ?_; rintro e w1 ⟨rfl, rfl⟩
      go_wp2_with fail; refine (c2 _).mono ?_; rintro e w1 ⟨rfl, rfl⟩
      go_wp2_with fail; (with_reducible refine (c3 _).mono ?_); rintro e w1 ⟨rfl, b1⟩
      have HB1 := Lib.hid b1; clear b1
      go_wp2_with fail
      go_ret2
      exact ⟨ret_ii HV.out.symm HE.out.symm, HB1.out⟩

set_option maxRecDepth 100000 in
theorem refElapsed_any (t d : Int) (w : World) :
    Calls Try.prog 13 #[.int .i64 t, .int .i64 d] w fun e w' => e = .returned (.tuple #[.int .i64 (elV t d), .int .i64 (elE t d)]) ∧ w = w' := by
  have HB := Lib.hid (el_bound (t := t) (d := d))
  have HV : Hid (elV t d = if elB t d then t + t * d / 1000000 else 0) := Lib.hid rfl
  have HE : Hid (elE t d = if elB t d then 0 else 1) := Lib.hid rfl
  have HI := Lib.hid (elB_iff t d)
  by_cases h : elB t d = true
  · obtain ⟨⟨t0, t1⟩, d0, d1⟩ := HI.out.1 h
    obtain ⟨m1, m2⟩ := HB.out h
    rw [h] at HV HE
    clear h HI HB
    have c3 := fun W => down_any (t * d) 1000000 (by omega) (by omega) (by omega) W
    go_enter Try.func13, Try.ntmps13
    go_wp2_with fail; (with_reducible refine (c3 _).mono ?_); rintro e w1 ⟨rfl, rfl⟩
    go_wp2_with fail
    go_ret2
    exact ⟨ret_ii HV.out.symm HE.out.symm, rfl⟩
  · have hn : t < 0 ∨ (0 ≤ t ∧ 1099511627776 < t) ∨ ((0 ≤ t ∧ t ≤ 1099511627776) ∧ d < -1000) ∨ ((0 ≤ t ∧ t ≤ 1099511627776) ∧ -1000 ≤ d ∧ 1000 < d) := by
      rw [HI.out] at h; omega
    have hf : elB t d = false := by simpa using h
    rw [hf] at HV HE
    clear h hf HI HB
    rcases hn with h1 | ⟨h0, h1⟩ | ⟨⟨h0, h1⟩, h2⟩ | ⟨⟨h0, h1⟩, h2, h3⟩
    all_goals
      go_enter Try.func13, Try.ntmps13
      go_wp2_with fail
      go_ret2
      exact ⟨ret_ii HV.out.symm HE.out.symm, rfl⟩

def maB (t s : Int) : Bool := inB (-1099511627776) 1099511627776 t && inB 1 1048576 s
def maE (t s : Int) : Int := if maB t s then 0 else 1
def maV (t s : Int) : Int := if maB t s then t / s else 0
def maR (t s : Int) : Int := if maB t s then t % s else 0
theorem maB_iff (t s : Int) : maB t s = true ↔ (-1099511627776 ≤ t ∧ t ≤ 1099511627776) ∧ 1 ≤ s ∧ s ≤ 1048576 := by unfold maB; rw [Bool.and_eq_true, inB_iff, inB_iff]
theorem ma_facts {t s : Int} (h : maB t s = true) : (-1099511627776 ≤ t / s ∧ t / s ≤ 1099511627776) ∧ (-1099512676352 ≤ t / s * s ∧ t / s * s ≤ 1099512676352) ∧ t - t / s * s = t % s := by
  obtain ⟨h1, h2⟩ := (maB_iff t s).1 h
  have e1 := Int.mul_ediv_add_emod t s
  have e2 := Int.emod_nonneg t (show s ≠ 0 by omega)
  have e3 := Int.emod_lt_of_pos t (show 0 < s by omega)
  have e4 : t / s * s = s * (t / s) := Int.mul_comm _ _
  have a1 : -1099511627776 ≤ t / s := Int.le_ediv_of_mul_le (by omega) (by
    have : (-1099511627776 : Int) * s ≤ -1099511627776 * 1 := by omega
    omega)
  have a2 : t / s ≤ 1099511627776 := by
    have : t / s < 1099511627776 + 1 := Int.ediv_lt_of_lt_mul (by omega) (by
      have : (1099511627776 + 1) * 1 ≤ (1099511627776 + 1) * s := Int.mul_le_mul_of_nonneg_left (by omega) (by omega)
      omega)
    omega
  refine ⟨⟨a1, a2⟩, ?_, ?_⟩ <;> rw [e4] <;> omega

set_option maxRecDepth 100000 in
theorem macro_any (t s : Int) (w : World) :
    Calls Try.prog 14 #[.int .i64 t, .int .i64 s] w fun e w' => e = .returned (.tuple #[.int .i64 (maV t s), .int .i64 (maR t s), .int .i64 (maE t s)]) ∧ Below w.heap.size w w' := by
  have c1 := fun W => within_any (-1099511627776) 1099511627776 t W
  have c2 := fun W => within_any 1 1048576 s W
  have HV : Hid (maV t s = if maB t s then t / s else 0) := Lib.hid rfl
  have HR : Hid (maR t s = if maB t s then t % s else 0) := Lib.hid rfl
  have HE : Hid (maE t s = if maB t s then 0 else 1) := Lib.hid rfl
  have HD : Hid (maB t s = (inB (-1099511627776) 1099511627776 t && inB 1 1048576 s)) := Lib.hid rfl
  cases h1 : inB (-1099511627776) 1099511627776 t
  · rw [h1] at c1 HD
    clear h1
    rw [HD.out] at HV HE HR
    go_enter Try.func14, Try.ntmps14
    go_wp2_with fail; refine (c1 _).mono ?_; rintro e w1 ⟨rfl, rfl⟩
    go_wp2_with fail
    go_ret3
    exact ⟨ret_iii HV.out.symm HR.out.symm HE.out.symm, Below.refl _ _⟩
  · cases h2 : inB 1 1048576 s
    · rw [h1] at c1
      rw [h1, h2] at HD
      rw [h2] at c2
      clear h1 h2
      rw [HD.out] at HV HE HR
      go_enter Try.func14, Try.ntmps14
      go_wp2_with fail; refine (c1 _).mono ?_; rintro e w1 ⟨rfl, rfl⟩
      go_wp2_with fail; refine (c2 _).mono ?_; rintro e w1 ⟨rfl, rfl⟩
      go_wp2_with fail
      go_ret3
      exact ⟨ret_iii HV.out.symm HR.out.symm HE.out.symm, Below.refl _ _⟩
    · obtain ⟨t0, t1⟩ := (inB_iff _ _ _).1 h1
      obtain ⟨s0, s1⟩ := (inB_iff _ _ _).1 h2
      rw [h1] at c1
      rw [h1, h2] at HD
      rw [h2] at c2
      clear h1 h2
      rw [HD.out] at HV HE HR
      have c3 := fun W => divide_any t s (by omega) (by omega) (by omega) W
      go_enter Try.func14, Try.ntmps14
      go_wp2_with fail; refine (c1 _).mono ?_; rintro e w1 ⟨rfl, rfl⟩
      go_wp2_with fail; refine (c2 _).mono ?_; rintro e w1 ⟨rfl, rfl⟩
      go_wp2_with fail; (with_reducible refine (c3 _).mono ?_); rintro e w1 ⟨rfl, b1⟩
      have HB1 := Lib.hid b1; clear b1
      go_wp2_with fail
      go_ret3
      exact ⟨ret_iii HV.out.symm HR.out.symm HE.out.symm, HB1.out⟩

set_option maxRecDepth 100000 in
theorem refMacro_any (t s : Int) (w : World) :
    Calls Try.prog 15 #[.int .i64 t, .int .i64 s] w fun e w' => e = .returned (.tuple #[.int .i64 (maV t s), .int .i64 (maR t s), .int .i64 (maE t s)]) ∧ w = w' := by
  have HV : Hid (maV t s = if maB t s then t / s else 0) := Lib.hid rfl
  have HR : Hid (maR t s = if maB t s then t % s else 0) := Lib.hid rfl
  have HE : Hid (maE t s = if maB t s then 0 else 1) := Lib.hid rfl
  have HF := Lib.hid (ma_facts (t := t) (s := s))
  have HI := Lib.hid (maB_iff t s)
  by_cases h : maB t s = true
  · obtain ⟨⟨t0, t1⟩, d0, d1⟩ := HI.out.1 h
    obtain ⟨⟨m1, m2⟩, ⟨m3, m4⟩, m5⟩ := HF.out h
    rw [h] at HV HE HR
    have HM := Lib.hid m5
    clear h HI HF m5
    have c3 := fun W => down_any t s (by omega) (by omega) (by omega) W
    go_enter Try.func15, Try.ntmps15
    go_wp2_with fail; (with_reducible refine (c3 _).mono ?_); rintro e w1 ⟨rfl, rfl⟩
    go_wp2_with fail
    go_ret3
    exact ⟨ret_iii HV.out.symm (HM.out.trans HR.out.symm) HE.out.symm, rfl⟩
  · have hn : t < -1099511627776 ∨ (-1099511627776 ≤ t ∧ 1099511627776 < t) ∨ ((-1099511627776 ≤ t ∧ t ≤ 1099511627776) ∧ s < 1) ∨ ((-1099511627776 ≤ t ∧ t ≤ 1099511627776) ∧ 1 ≤ s ∧ 1048576 < s) := by
      rw [HI.out] at h; omega
    have hf : maB t s = false := by simpa using h
    rw [hf] at HV HE HR
    clear h hf HI HF
    rcases hn with h1 | ⟨h0, h1⟩ | ⟨⟨h0, h1⟩, h2⟩ | ⟨⟨h0, h1⟩, h2, h3⟩
    all_goals
      go_enter Try.func15, Try.ntmps15
      go_wp2_with fail
      go_ret3
      exact ⟨ret_iii HV.out.symm HR.out.symm HE.out.symm, rfl⟩

end Go.Proofs.Ytllbhbekpnmlnaa

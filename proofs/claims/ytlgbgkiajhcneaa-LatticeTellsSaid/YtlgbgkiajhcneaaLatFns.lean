/-
  What lattices may be, and what times are active, by the document and by the program's own small calls, as plain functions.
-/
import Derived.Test.YtlgbgkiajhcneaaLatBase
namespace Go.Proofs.Ytlgbgkiajhcneaa
open Go.RowKit

def rightL (a g : Int) : Bool := inB 1 10000 a && inB 1 10000 g
theorem rightL_iff (a g : Int) : rightL a g = true ↔ (1 ≤ a ∧ a ≤ 10000) ∧ 1 ≤ g ∧ g ≤ 10000 := by unfold rightL; rw [Bool.and_eq_true, inB_iff, inB_iff]
def timeB (t : Int) : Bool := inB (-1099511627776) 1099511627776 t
theorem timeB_iff (t : Int) : timeB t = true ↔ -1099511627776 ≤ t ∧ t ≤ 1099511627776 := inB_iff _ _ _
def mayL (a g t : Int) : Bool := rightL a g && timeB t
theorem mayL_iff (a g t : Int) : mayL a g t = true ↔ ((1 ≤ a ∧ a ≤ 10000) ∧ 1 ≤ g ∧ g ≤ 10000) ∧ -1099511627776 ≤ t ∧ t ≤ 1099511627776 := by unfold mayL; rw [Bool.and_eq_true, rightL_iff, timeB_iff]
def nearL (a g d : Int) : Bool := rightL a g && inB (-(g / 2)) (g / 2) d
def errB (b : Bool) : Int := if b then 0 else 1
def actL (a g t : Int) : Bool := mayL a g t && decide (t % (a + g) < a)
def nextI (a g t : Int) : Int := if t % (a + g) < a then t else (t / (a + g) + 1) * (a + g)
def nextV (a g t : Int) : Int := if mayL a g t then nextI a g t else 0
def epI (a g t : Int) : Int := (t + g / 2) / (a + g)
def epV (a g t : Int) : Int := if mayL a g t then epI a g t else 0
def begB (a g n : Int) : Bool := mayL a g n && timeB (n * (a + g))
def begV (a g n : Int) : Int := if begB a g n then n * (a + g) else 0
def cmpI (m n : Int) : Int := if m = n then 0 else if m < n then -1 else 1
def orB (a g x y : Int) : Bool := mayL a g x && timeB y
def orV (a g x y : Int) : Int := if orB a g x y then cmpI (epI a g x) (epI a g y) else 0

theorem half_eq (g : Int) (h : 1 ≤ g) : g.tdiv 2 = g / 2 := Int.tdiv_eq_ediv_of_nonneg (by omega)
theorem q_bound {t b : Int} (ht : -1099511637776 ≤ t ∧ t ≤ 1099511637776) (hb : 2 ≤ b) : -1099511637776 ≤ t / b ∧ t / b ≤ 1099511637776 := by
  refine ⟨Int.le_ediv_of_mul_le (by omega) (by omega), ?_⟩
  have : t / b < 1099511637776 + 1 := Int.ediv_lt_of_lt_mul (by omega) (by omega)
  omega
theorem rest_eq (t b : Int) : t - b * (t / b) = t % b := by have := Int.mul_ediv_add_emod t b; omega
theorem mul_near {t b : Int} (hb : 0 < b) : b * (t / b) ≤ t ∧ t < b * (t / b) + b := by
  have h1 := Int.mul_ediv_add_emod t b
  have h2 := Int.emod_nonneg t (show b ≠ 0 by omega)
  have h3 := Int.emod_lt_of_pos t hb
  omega

set_option maxRecDepth 100000 in
theorem right_any (a g : Int) (w : World) :
    Calls Try.prog 12 #[lv a g] w fun e w' => e = .returned (.bool (rightL a g)) ∧ Below w.heap.size w w' := by
  have c1 := fun W => within_any 1 10000 a W
  have c2 := fun W => within_any 1 10000 g W
  have HD : Hid (rightL a g = (inB 1 10000 a && inB 1 10000 g)) := Lib.hid rfl
  obtain ⟨y0, y1⟩ := (LtAt.new w a g).cells
  have HB := Lib.hid (Joins.below_alloc1 w (.cells #[.int .i64 a, .int .i64 g] 23))
  cases h1 : inB 1 10000 a
  · rw [h1] at c1 HD
    clear h1
    go_enter Try.func12, Try.ntmps12
    go_wp2_with fail; refine (c1 _).mono ?_; rintro e w1 ⟨rfl, rfl⟩
    go_wp2_with fail
    go_ret
    exact ⟨ret_b HD.out.symm, HB.out⟩
  · rw [h1] at c1 HD
    clear h1
    go_enter Try.func12, Try.ntmps12
    go_wp2_with fail; refine (c1 _).mono ?_; rintro e w1 ⟨rfl, rfl⟩
    go_wp2_with fail; refine (c2 _).mono ?_; rintro e w1 ⟨rfl, rfl⟩
    go_wp2_with fail
    go_ret
    exact ⟨ret_b (by rw [HD.out]; rfl), HB.out⟩

set_option maxRecDepth 100000 in
theorem refRight_any (a g : Int) (w : World) :
    Calls Try.prog 13 #[lv a g] w fun e w' => e = .returned (.bool (rightL a g)) ∧ Below w.heap.size w w' := by
  obtain ⟨y0, y1⟩ := (LtAt.new w a g).cells
  have HB := Lib.hid (Joins.below_alloc1 w (.cells #[.int .i64 a, .int .i64 g] 23))
  have HI := Lib.hid (rightL_iff a g)
  by_cases h : rightL a g = true
  · obtain ⟨⟨a0, a1⟩, g0, g1⟩ := HI.out.1 h
    have HR := Lib.hid h
    clear h HI
    go_enter Try.func13, Try.ntmps13
    go_wp2_with fail
    go_ret
    exact ⟨ret_b HR.out.symm, HB.out⟩
  · have hn : a < 1 ∨ (1 ≤ a ∧ 10000 < a) ∨ ((1 ≤ a ∧ a ≤ 10000) ∧ g < 1) ∨ ((1 ≤ a ∧ a ≤ 10000) ∧ 1 ≤ g ∧ 10000 < g) := by
      rw [HI.out] at h; omega
    have HR : Hid (rightL a g = false) := Lib.hid (by simpa using h)
    clear h HI
    rcases hn with h1 | ⟨h0, h1⟩ | ⟨⟨h0, h1⟩, h2⟩ | ⟨⟨h0, h1⟩, h2, h3⟩
    all_goals
      go_enter Try.func13, Try.ntmps13
      go_wp2_with fail
      go_ret
      first | exact ⟨ret_b HR.out.symm, HB.out⟩ | exact ⟨ret_b ((decide_eq_false (by omega)).trans HR.out.symm), HB.out⟩

set_option maxRecDepth 100000 in
theorem refMay_any (a g t : Int) (w : World) :
    Calls Try.prog 33 #[lv a g, .int .i64 t] w fun e w' => e = .returned (.bool (mayL a g t)) ∧ Below w.heap.size w w' := by
  obtain ⟨y0, y1⟩ := (LtAt.new w a g).cells
  have HB := Lib.hid (Joins.below_alloc1 w (.cells #[.int .i64 a, .int .i64 g] 23))
  have c1 := fun W => refRight_any a g W
  have HD : Hid (mayL a g t = (rightL a g && timeB t)) := Lib.hid rfl
  have HI := Lib.hid (timeB_iff t)
  cases h1 : rightL a g
  · rw [h1] at c1 HD
    clear h1
    go_enter Try.func33, Try.ntmps33
    go_wp2_with fail; refine (c1 _).mono ?_; rintro e w1 ⟨rfl, b1⟩
    have HB1 := Lib.hid (HB.out.trans (b1.mono HB.out.size)); clear b1
    go_wp2_with fail
    go_ret
    exact ⟨ret_b HD.out.symm, HB1.out⟩
  · rw [h1] at c1 HD
    clear h1
    by_cases h : timeB t = true
    · obtain ⟨a0, a1⟩ := HI.out.1 h
      rw [h] at HD
      clear h HI
      go_enter Try.func33, Try.ntmps33
      go_wp2_with fail; refine (c1 _).mono ?_; rintro e w1 ⟨rfl, b1⟩
      have HB1 := Lib.hid (HB.out.trans (b1.mono HB.out.size)); clear b1
      go_wp2_with fail
      go_ret
      exact ⟨ret_b HD.out.symm, HB1.out⟩
    · have hn : t < -1099511627776 ∨ (-1099511627776 ≤ t ∧ 1099511627776 < t) := by
        rw [HI.out] at h; omega
      have hf : timeB t = false := by simpa using h
      rw [hf] at HD
      clear h hf HI
      rcases hn with h1 | ⟨h0, h1⟩
      all_goals
        go_enter Try.func33, Try.ntmps33
        go_wp2_with fail; refine (c1 _).mono ?_; rintro e w1 ⟨rfl, b1⟩
        have HB1 := Lib.hid (HB.out.trans (b1.mono HB.out.size)); clear b1
        go_wp2_with fail
        go_ret
        first | exact ⟨ret_b HD.out.symm, HB1.out⟩ | exact ⟨ret_b ((decide_eq_false (by omega)).trans HD.out.symm), HB1.out⟩

set_option maxRecDepth 100000 in
theorem refNear_any (a g d : Int) (w : World) :
    Calls Try.prog 15 #[lv a g, .int .i64 d] w fun e w' => e = .returned (.bool (nearL a g d)) ∧ Below w.heap.size w w' := by
  have hL := LtAt.new w a g
  have HB := Lib.hid (Joins.below_alloc1 w (.cells #[.int .i64 a, .int .i64 g] 23))
  have c1 := fun W => refRight_any a g W
  have HD : Hid (nearL a g d = (rightL a g && inB (-(g / 2)) (g / 2) d)) := Lib.hid rfl
  have HI := Lib.hid (inB_iff (-(g / 2)) (g / 2) d)
  have HR := Lib.hid (rightL_iff a g)
  obtain ⟨y0, y1⟩ := hL.cells
  cases h1 : rightL a g
  · rw [h1] at c1 HD
    clear h1
    go_enter Try.func15, Try.ntmps15
    go_wp2_with fail; refine (c1 _).mono ?_; rintro e w1 ⟨rfl, b1⟩
    have HB1 := Lib.hid (HB.out.trans (b1.mono HB.out.size)); clear b1
    go_wp2_with fail
    go_ret
    exact ⟨ret_b HD.out.symm, HB1.out⟩
  · obtain ⟨⟨a0, a1⟩, g0, g1⟩ := HR.out.1 h1
    rw [h1] at c1 HD
    have hh := half_eq g g0
    clear h1
    by_cases h : inB (-(g / 2)) (g / 2) d = true
    · obtain ⟨d0, d1⟩ := HI.out.1 h
      rw [h] at HD
      clear h HI
      go_enter Try.func15, Try.ntmps15
      go_wp2_with fail; refine (c1 _).mono ?_; rintro e w1 ⟨rfl, b1⟩
      obtain ⟨z0, z1⟩ := (hL.on b1).cells
      have HB1 := Lib.hid (HB.out.trans (b1.mono HB.out.size)); clear b1 y0 y1
      go_wp2_with fail
      go_ret
      exact ⟨ret_b HD.out.symm, HB1.out⟩
    · have hn : d < -(g / 2) ∨ (-(g / 2) ≤ d ∧ g / 2 < d) := by
        rw [HI.out] at h; omega
      have hf : inB (-(g / 2)) (g / 2) d = false := by simpa using h
      rw [hf] at HD
      clear h hf HI
      rcases hn with h1 | ⟨h0, h1⟩
      all_goals
        go_enter Try.func15, Try.ntmps15
        go_wp2_with fail; refine (c1 _).mono ?_; rintro e w1 ⟨rfl, b1⟩
        obtain ⟨z0, z1⟩ := (hL.on b1).cells
        have HB1 := Lib.hid (HB.out.trans (b1.mono HB.out.size)); clear b1 y0 y1
        go_wp2_with fail
        go_ret
        first | exact ⟨ret_b HD.out.symm, HB1.out⟩ | exact ⟨ret_b ((decide_eq_false (by omega)).trans HD.out.symm), HB1.out⟩

set_option maxRecDepth 100000 in
theorem refRest_any (t b : Int) (hb : 2 ≤ b ∧ b ≤ 20000) (ht : -1099511637776 ≤ t ∧ t ≤ 1099511637776) (w : World) :
    Calls Try.prog 34 #[.int .i64 t, .int .i64 b] w fun e w' => e = .returned (.int .i64 (t % b)) ∧ w = w' := by
  have c1 := fun W => down_any t b (by omega) (by omega) (by omega) W
  have HR := Lib.hid (rest_eq t b)
  obtain ⟨m0, m1⟩ := mul_near (t := t) (b := b) (by omega)
  generalize t / b = q at *
  generalize hm : b * q = m at *
  have HM := Lib.hid hm; clear hm
  go_enter Try.func34, Try.ntmps34
  have hm := HM.out
  go_wp2_with fail; refine (c1 _).mono ?_; rintro e w1 ⟨rfl, rfl⟩
  go_wp2_with fail
  go_ret
  exact ⟨ret_i HR.out, rfl⟩

end Go.Proofs.Ytlgbgkiajhcneaa

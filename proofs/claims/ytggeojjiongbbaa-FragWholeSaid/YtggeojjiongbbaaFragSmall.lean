/-
  The program's small functions on pieces.
-/
import Derived.Test.YtggeojjiongbbaaFragMay
namespace Go.Proofs.Ytggeojjiongbbaa
open Go.RowKit

def uptoB (m n : Int) : Bool := decide (1 ≤ n) && decide (n ≤ m)
theorem upto_small (n : Int) : uptoB 65535 n = smallB n := rfl
theorem upTo_any (m n : Int) (w : World) : Calls Try.prog 31 #[.int .i64 m, .int .i64 n] w fun e w' => e = .returned (.bool (uptoB m n)) ∧ w = w' := by
  by_cases h1 : 1 ≤ n
  · by_cases h2 : n ≤ m
    · have hv : Hid (uptoB m n = true) := Lib.hid (by unfold uptoB; simp [h1, h2])
      go_enter Try.func31, Try.ntmps31
      go_wp2
      go_ret
      exact ⟨ret_b hv.out.symm, rfl⟩
    · have hv : Hid (uptoB m n = false) := Lib.hid (by unfold uptoB; simp [h2])
      go_enter Try.func31, Try.ntmps31
      go_wp2
      go_ret
      exact ⟨ret_b hv.out.symm, rfl⟩
  · have hv : Hid (uptoB m n = false) := Lib.hid (by unfold uptoB; simp [h1])
    go_enter Try.func31, Try.ntmps31
    go_wp2
    go_ret
    exact ⟨ret_b hv.out.symm, rfl⟩

set_option maxRecDepth 100000 in
set_option maxHeartbeats 2000000 in
theorem rightP_any (p : Pc) (hm : p.bytes.size ≤ maxLen) (w : World) :
    Calls Try.prog 18 #[pv p] w fun e w' => e = .returned (.bool (rightP p)) ∧ Below w.heap.size w w' := by
  have HW := Lib.hid (Joins.below_alloc1 w (.cells (pcl p) 23))
  have hR : rightP p = (smallB p.seq && (uptoB 20 p.of' && (decide (0 ≤ p.at') && (decide (p.at' < p.of') && uptoB 16 p.bytes.size)))) := by
    unfold rightP restB uptoB
    have e1 : decide (1 ≤ p.bytes.size) = decide ((1 : Int) ≤ p.bytes.size) := by rw [decide_eq_decide]; omega
    have e2 : decide (p.bytes.size ≤ 16) = decide ((p.bytes.size : Int) ≤ 16) := by rw [decide_eq_decide]; omega
    rw [e1, e2]
    simp [Bool.and_assoc]
  have HR := Lib.hid hR; clear hR
  have c1 := fun w => upTo_any 65535 p.seq w
  have c2 := fun w => upTo_any 20 p.of' w
  have c3 := fun w => upTo_any 16 p.bytes.size w
  rw [upto_small] at c1
  generalize rightP p = R at *
  obtain ⟨s, a, o, d⟩ := p
  unfold maxLen at hm
  simp only [pv, pcl] at *
  generalize smallB s = S at *
  generalize uptoB 20 o = O at *
  generalize uptoB 16 d.size = D at *
  cases S
  · go_enter Try.func18, Try.ntmps18
    go_wp2_with fail; refine (c1 _).mono ?_; rintro e w1 ⟨rfl, rfl⟩
    go_wp2_with fail
    go_ret
    exact ⟨ret_b (HR.out.trans (by simp)).symm, HW.out⟩
  · cases O
    · go_enter Try.func18, Try.ntmps18
      go_wp2_with fail; refine (c1 _).mono ?_; rintro e w1 ⟨rfl, rfl⟩
      go_wp2_with fail; refine (c2 _).mono ?_; rintro e w1 ⟨rfl, rfl⟩
      go_wp2_with fail
      go_ret
      exact ⟨ret_b (HR.out.trans (by simp)).symm, HW.out⟩
    · by_cases h3 : 0 ≤ a
      · by_cases h4 : a < o
        · have HQ : Hid (R = D) := Lib.hid (by rw [HR.out]; simp [h3, h4])
          clear HR
          go_enter Try.func18, Try.ntmps18
          go_wp2_with fail; refine (c1 _).mono ?_; rintro e w1 ⟨rfl, rfl⟩
          go_wp2_with fail; refine (c2 _).mono ?_; rintro e w1 ⟨rfl, rfl⟩
          go_wp2_with fail; refine (c3 _).mono ?_; rintro e w1 ⟨rfl, rfl⟩
          go_wp2_with fail
          go_ret
          exact ⟨ret_b HQ.out.symm, HW.out⟩
        · have HQ : Hid (R = false) := Lib.hid (by rw [HR.out]; simp [h4])
          clear HR
          go_enter Try.func18, Try.ntmps18
          go_wp2_with fail; refine (c1 _).mono ?_; rintro e w1 ⟨rfl, rfl⟩
          go_wp2_with fail; refine (c2 _).mono ?_; rintro e w1 ⟨rfl, rfl⟩
          go_wp2_with fail
          go_ret
          exact ⟨ret_b HQ.out.symm, HW.out⟩
      · have HQ : Hid (R = false) := Lib.hid (by rw [HR.out]; simp [h3])
        clear HR
        go_enter Try.func18, Try.ntmps18
        go_wp2_with fail; refine (c1 _).mono ?_; rintro e w1 ⟨rfl, rfl⟩
        go_wp2_with fail; refine (c2 _).mono ?_; rintro e w1 ⟨rfl, rfl⟩
        go_wp2_with fail
        go_ret
        exact ⟨ret_b HQ.out.symm, HW.out⟩

/-- Is a part longer than there may be? -/
def longB (d : ByteArray) : Bool := !decide (d.size ≤ 16)
theorem long_any (d : ByteArray) (w : World) (hm : d.size ≤ maxLen) : Calls Try.prog 41 #[.string d] w fun e w' => e = .returned (.bool (longB d)) ∧ w = w' := by
  unfold maxLen at hm
  by_cases h1 : d.size ≤ 16
  · have hv : Hid (longB d = false) := Lib.hid (by unfold longB; simp [h1])
    have h2 : (d.size : Int) ≤ 16 := by omega
    clear h1
    go_enter Try.func41, Try.ntmps41
    go_wp2
    go_ret
    exact ⟨ret_b (by first | (rw [hv.out]; done) | (rw [hv.out]; simp <;> omega)), rfl⟩
  · have hv : Hid (longB d = true) := Lib.hid (by unfold longB; simp [h1])
    have h2 : (16 : Int) < (d.size : Int) := by omega
    clear h1
    go_enter Try.func41, Try.ntmps41
    go_wp2
    go_ret
    exact ⟨ret_b (by first | (rw [hv.out]; done) | (rw [hv.out]; simp <;> omega)), rfl⟩
theorem there_any (d : ByteArray) (w : World) : Calls Try.prog 42 #[.string d] w fun e w' => e = .returned (.bool (fullB d)) ∧ w = w' := by
  have hv : Hid (fullB d = !d.toList.isEmpty) := Lib.hid rfl
  go_enter Try.func42, Try.ntmps42
  go_wp2
  go_ret
  exact ⟨ret_b (by rw [hv.out]), rfl⟩

end Go.Proofs.Ytggeojjiongbbaa

/-
  Pieces: as values, as they lie in memory; which may be, by the document.
-/
import Derived.Test.YtggeojjiongbbaaBitLaws
import Derived.Test.YtggeojjiongbbaaRows
import Derived.Lib.SmallJoins
import Derived.WalkKit
import Derived.WalkSpells
import Derived.WalkLawsBesides
import Derived.Below
import Derived.Lib.Hide
import Derived.Lib.Strings
import Derived.Lib.Bytes
import Derived.Deep.QuietTactic
import Derived.Deep.RegionHeld3
import Derived.Deep.DrawnRows
import Derived.IntWalk
namespace Go.Proofs.Ytggeojjiongbbaa
open Go.RowKit

/-- A piece. -/
structure Pc where
  seq : Int
  at' : Int
  of' : Int
  bytes : ByteArray

/-- As a value; its cells. -/
abbrev pv (p : Pc) : Value := .agg #[.int .i64 p.seq, .int .i64 p.at', .int .i64 p.of', .string p.bytes]
abbrev pcl (p : Pc) : Array Value := #[.int .i64 p.seq, .int .i64 p.at', .int .i64 p.of', .string p.bytes]
def zeroP : Pc := ⟨0, 0, 0, ⟨#[]⟩⟩
/-- Block B of the memory is a piece. -/
def PcAt (w : World) (g : Nat) (p : Pc) : Prop := w.heap[g]? = some (.cells (pcl p) 23 (0, 0))
theorem PcAt.new (w : World) (p : Pc) : PcAt (w.alloc (.cells (pcl p) 23)) w.heap.size p := heap_alloc_new w _
theorem PcAt.on {w w' : World} {g : Nat} {p : Pc} (h : PcAt w g p) (hb : Below w.heap.size w w') : PcAt w' g p := (hb.block g (Array.getElem?_eq_some_iff.1 h).1).trans h
theorem PcAt.cells {w : World} {g : Nat} {p : Pc} (h : PcAt w g p) : w.cell? ⟨g, 0, none⟩ = some (.int .i64 p.seq) ∧ w.cell? ⟨g, 1, none⟩ = some (.int .i64 p.at') ∧ w.cell? ⟨g, 2, none⟩ = some (.int .i64 p.of') ∧ w.cell? ⟨g, 3, none⟩ = some (.string p.bytes) := by
  refine ⟨?_, ?_, ?_, ?_⟩ <;> simp [World.cell?, show w.heap[g]? = _ from h]

theorem ret_i {a b : Int} (h : a = b) : Ending.returned (.int .i64 a) = .returned (.int .i64 b) := by rw [h]
theorem ret_b {a b : Bool} (h : a = b) : Ending.returned (.bool a) = .returned (.bool b) := by rw [h]

/-- Is it a number from 1 to 65535? -/
def smallB (n : Int) : Bool := decide (1 ≤ n) && decide (n ≤ 65535)
theorem smallB_iff (n : Int) : smallB n = true ↔ 1 ≤ n ∧ n ≤ 65535 := by unfold smallB; simp
/-- The other parts of what a piece may be. -/
def restB (p : Pc) : Bool := decide (1 ≤ p.of') && (decide (p.of' ≤ 20) && (decide (0 ≤ p.at') && (decide (p.at' < p.of') && (decide (1 ≤ p.bytes.size) && decide (p.bytes.size ≤ 16)))))
def rightP (p : Pc) : Bool := smallB p.seq && restB p
theorem rightP_iff (p : Pc) : rightP p = true ↔ (1 ≤ p.seq ∧ p.seq ≤ 65535) ∧ (1 ≤ p.of' ∧ p.of' ≤ 20) ∧ (0 ≤ p.at' ∧ p.at' < p.of') ∧ 1 ≤ p.bytes.size ∧ p.bytes.size ≤ 16 := by
  unfold rightP restB
  simp only [Bool.and_eq_true, smallB_iff, decide_eq_true_eq]
  constructor
  · rintro ⟨a, b, c, d, e, f, g⟩; exact ⟨a, ⟨b, c⟩, ⟨d, e⟩, f, g⟩
  · rintro ⟨a, ⟨b, c⟩, ⟨d, e⟩, f, g⟩; exact ⟨a, b, c, d, e, f, g⟩

theorem refSmall5_any (n : Int) (w : World) : Calls Try.prog 33 #[.int .i64 n] w fun e w' => e = .returned (.bool (smallB n)) ∧ w = w' := by
  by_cases h1 : 1 ≤ n
  · by_cases h2 : n ≤ 65535
    · have hv := Lib.hid ((smallB_iff n).2 ⟨h1, h2⟩)
      go_enter Try.func33, Try.ntmps33
      go_wp2
      go_ret
      exact ⟨ret_b hv.out.symm, rfl⟩
    · have hv : smallB n = false := by rw [← Bool.not_eq_true, smallB_iff]; omega
      have HV := Lib.hid hv; clear hv
      go_enter Try.func33, Try.ntmps33
      go_wp2
      go_ret
      exact ⟨ret_b HV.out.symm, rfl⟩
  · have hv : smallB n = false := by rw [← Bool.not_eq_true, smallB_iff]; omega
    have HV := Lib.hid hv; clear hv
    go_enter Try.func33, Try.ntmps33
    go_wp2
    go_ret
    exact ⟨ret_b HV.out.symm, rfl⟩

set_option maxRecDepth 100000 in
set_option maxHeartbeats 2000000 in
theorem refRightP_any (p : Pc) (hm : p.bytes.size ≤ maxLen) (w : World) :
    Calls Try.prog 19 #[pv p] w fun e w' => e = .returned (.bool (rightP p)) ∧ Below w.heap.size w w' := by
  have HW := Lib.hid (Joins.below_alloc1 w (.cells (pcl p) 23))
  have HR : Hid (rightP p = (smallB p.seq && restB p)) := Lib.hid rfl
  have hrb : restB p = true ↔ (1 ≤ p.of' ∧ p.of' ≤ 20) ∧ (0 ≤ p.at' ∧ p.at' < p.of') ∧ 1 ≤ p.bytes.size ∧ p.bytes.size ≤ 16 := by
    unfold restB
    simp only [Bool.and_eq_true, decide_eq_true_eq]
    constructor
    · rintro ⟨b, c, d, e, f, g⟩; exact ⟨⟨b, c⟩, ⟨d, e⟩, f, g⟩
    · rintro ⟨⟨b, c⟩, ⟨d, e⟩, f, g⟩; exact ⟨b, c, d, e, f, g⟩
  have HRB := Lib.hid hrb; clear hrb
  have cs := fun w => refSmall5_any p.seq w
  generalize rightP p = R at *
  generalize restB p = Q at *
  obtain ⟨s, a, o, d⟩ := p
  unfold maxLen at hm
  simp only [pv, pcl] at *
  generalize smallB s = S at *
  have no : ¬ ((1 ≤ o ∧ o ≤ 20) ∧ (0 ≤ a ∧ a < o) ∧ 1 ≤ d.size ∧ d.size ≤ 16) → Q = false := fun h => by rw [← Bool.not_eq_true, HRB.out]; exact h
  have NO := Lib.hid no; clear no
  cases S
  · go_enter Try.func19, Try.ntmps19
    go_wp2_with fail; refine (cs _).mono ?_; rintro e w1 ⟨rfl, rfl⟩
    go_wp2_with fail
    go_ret
    exact ⟨ret_b (HR.out.trans (by simp)).symm, HW.out⟩
  · by_cases h1 : 1 ≤ o
    · by_cases h2 : o ≤ 20
      · by_cases h3 : 0 ≤ a
        · by_cases h4 : a < o
          · by_cases h5 : (1 : Int) ≤ d.size
            · by_cases h6 : (d.size : Int) ≤ 16
              · have HQ := Lib.hid (HRB.out.2 ⟨⟨h1, h2⟩, ⟨h3, h4⟩, by omega, by omega⟩)
                go_enter Try.func19, Try.ntmps19
                go_wp2_with fail; refine (cs _).mono ?_; rintro e w1 ⟨rfl, rfl⟩
                go_wp2_with fail
                go_ret
                exact ⟨ret_b (HR.out.trans (by rw [HQ.out]; rfl)).symm, HW.out⟩
              · have HQ := Lib.hid (NO.out (by omega))
                go_enter Try.func19, Try.ntmps19
                go_wp2_with fail; refine (cs _).mono ?_; rintro e w1 ⟨rfl, rfl⟩
                go_wp2_with fail
                go_ret
                exact ⟨ret_b (HR.out.trans (by rw [HQ.out]; symm; simp; omega)).symm, HW.out⟩
            · have HQ := Lib.hid (NO.out (by omega))
              go_enter Try.func19, Try.ntmps19
              go_wp2_with fail; refine (cs _).mono ?_; rintro e w1 ⟨rfl, rfl⟩
              go_wp2_with fail
              go_ret
              exact ⟨ret_b (HR.out.trans (by rw [HQ.out]; rfl)).symm, HW.out⟩
          · have HQ := Lib.hid (NO.out (by omega))
            go_enter Try.func19, Try.ntmps19
            go_wp2_with fail; refine (cs _).mono ?_; rintro e w1 ⟨rfl, rfl⟩
            go_wp2_with fail
            go_ret
            exact ⟨ret_b (HR.out.trans (by rw [HQ.out]; rfl)).symm, HW.out⟩
        · have HQ := Lib.hid (NO.out (by omega))
          go_enter Try.func19, Try.ntmps19
          go_wp2_with fail; refine (cs _).mono ?_; rintro e w1 ⟨rfl, rfl⟩
          go_wp2_with fail
          go_ret
          exact ⟨ret_b (HR.out.trans (by rw [HQ.out]; rfl)).symm, HW.out⟩
      · have HQ := Lib.hid (NO.out (by omega))
        go_enter Try.func19, Try.ntmps19
        go_wp2_with fail; refine (cs _).mono ?_; rintro e w1 ⟨rfl, rfl⟩
        go_wp2_with fail
        go_ret
        exact ⟨ret_b (HR.out.trans (by rw [HQ.out]; rfl)).symm, HW.out⟩
    · have HQ := Lib.hid (NO.out (by omega))
      go_enter Try.func19, Try.ntmps19
      go_wp2_with fail; refine (cs _).mono ?_; rintro e w1 ⟨rfl, rfl⟩
      go_wp2_with fail
      go_ret
      exact ⟨ret_b (HR.out.trans (by rw [HQ.out]; rfl)).symm, HW.out⟩

end Go.Proofs.Ytggeojjiongbbaa

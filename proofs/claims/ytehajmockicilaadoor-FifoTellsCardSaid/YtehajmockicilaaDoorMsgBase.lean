/-
  Messages: as values, as they lie in memory; which may be, by the document.
-/
import Derived.Test.YtehajmockicilaaDoorIdentEq
import Derived.Test.YtehajmockicilaaDoorIdentRefParse
namespace Go.Proofs.YtehajmockicilaaDoor
open Go.RowKit

/-- A message. -/
structure Msg where
  ext : Bool
  n : Int
  sender : Int
  inc : Int
  seq : Int
  number : Int
  data : ByteArray

/-- As a value. -/
abbrev mv (m : Msg) : Value := .agg #[.bool m.ext, .int .i64 m.n, .int .i64 m.sender, .int .i64 m.inc, .int .i64 m.seq, .int .i64 m.number, .string m.data]
/-- Its cells. -/
abbrev mc (m : Msg) : Array Value := #[.bool m.ext, .int .i64 m.n, .int .i64 m.sender, .int .i64 m.inc, .int .i64 m.seq, .int .i64 m.number, .string m.data]

def zeroM : Msg := ⟨false, 0, 0, 0, 0, 0, ⟨#[]⟩⟩

/-- Block B of the memory is a message. -/
def Holds (w : World) (B : Nat) (m : Msg) : Prop :=
  B < w.heap.size ∧ w.cell? ⟨B, 0, none⟩ = some (.bool m.ext) ∧ w.cell? ⟨B, 1, none⟩ = some (.int .i64 m.n) ∧ w.cell? ⟨B, 2, none⟩ = some (.int .i64 m.sender) ∧
  w.cell? ⟨B, 3, none⟩ = some (.int .i64 m.inc) ∧ w.cell? ⟨B, 4, none⟩ = some (.int .i64 m.seq) ∧ w.cell? ⟨B, 5, none⟩ = some (.int .i64 m.number) ∧ w.cell? ⟨B, 6, none⟩ = some (.string m.data)
theorem Holds.new (w : World) (m : Msg) : Holds (w.alloc (.cells (mc m) 26)) w.heap.size m := by
  refine ⟨by simp, ?_, ?_, ?_, ?_, ?_, ?_, ?_⟩ <;> simp [go_sem]
theorem Holds.below {w w' : World} {B : Nat} {m : Msg} (h : Holds w B m) (hb : Below w.heap.size w w') : Holds w' B m := by
  obtain ⟨hB, h0, h1, h2, h3, h4, h5, h6⟩ := h
  exact ⟨Nat.lt_of_lt_of_le hB hb.size, (hb.cell (p := ⟨B, 0, none⟩) hB).trans h0, (hb.cell (p := ⟨B, 1, none⟩) hB).trans h1, (hb.cell (p := ⟨B, 2, none⟩) hB).trans h2, (hb.cell (p := ⟨B, 3, none⟩) hB).trans h3, (hb.cell (p := ⟨B, 4, none⟩) hB).trans h4, (hb.cell (p := ⟨B, 5, none⟩) hB).trans h5, (hb.cell (p := ⟨B, 6, none⟩) hB).trans h6⟩
theorem Holds.drewN {w : World} {B : Nat} {m : Msg} (h : Holds w B m) (n : Nat) : Holds (w.drewN n) B m := h
theorem Holds.old {w : World} {B : Nat} {m : Msg} (h : Holds w B m) (o : Obj) : Holds (w.alloc o) B m := h.below (Joins.below_alloc1 w o)

/-- Block g is a message, whatever it holds. -/
def Seven (w : World) (g : Nat) : Prop := ∃ Z : Array Value, w.heap[g]? = some (.cells Z 26 (0, 0)) ∧ Z.size = 7
theorem Seven.new (w : World) (m : Msg) : Seven (w.alloc (.cells (mc m) 26)) w.heap.size := ⟨_, heap_alloc_new w _, rfl⟩
theorem Seven.below {w w' : World} {g : Nat} (h : Seven w g) (hb : Below w.heap.size w w') : Seven w' g := by
  obtain ⟨Z, h1, h2⟩ := h
  exact ⟨Z, (hb.block g (Array.getElem?_eq_some_iff.1 h1).1).trans h1, h2⟩

theorem ret_i {a b : Int} (h : a = b) : Ending.returned (.int .i64 a) = .returned (.int .i64 b) := by rw [h]
theorem ret_b {a b : Bool} (h : a = b) : Ending.returned (.bool a) = .returned (.bool b) := by rw [h]

/-- Is it a number from 1 to 65535? -/
def smallB (n : Int) : Bool := decide (1 ≤ n) && decide (n ≤ 65535)
def senderB (n : Int) : Bool := decide (0 ≤ n) && decide (n ≤ 15)
def dataB (d : ByteArray) : Bool := decide (d.size ≤ 8)
/-- May it be? -/
def rightM (m : Msg) : Bool := rightI m.ext m.n && (senderB m.sender && (smallB m.inc && (smallB m.seq && (smallB m.number && dataB m.data))))
theorem smallB_iff (n : Int) : smallB n = true ↔ 1 ≤ n ∧ n ≤ 65535 := by unfold smallB; simp
theorem senderB_iff (n : Int) : senderB n = true ↔ 0 ≤ n ∧ n ≤ 15 := by unfold senderB; simp
theorem dataB_iff (d : ByteArray) : dataB d = true ↔ d.size ≤ 8 := by unfold dataB; simp
theorem rightM_iff (m : Msg) : rightM m = true ↔ rightI m.ext m.n = true ∧ (0 ≤ m.sender ∧ m.sender ≤ 15) ∧ (1 ≤ m.inc ∧ m.inc ≤ 65535) ∧ (1 ≤ m.seq ∧ m.seq ≤ 65535) ∧ (1 ≤ m.number ∧ m.number ≤ 65535) ∧ m.data.size ≤ 8 := by
  unfold rightM
  simp only [Bool.and_eq_true, senderB_iff, smallB_iff, dataB_iff]

set_option maxRecDepth 100000 in
theorem refSmall_any (n : Int) (w : World) : Calls Tryd.prog 79 #[.int .i64 n] w fun e w' => e = .returned (.bool (smallB n)) ∧ w = w' := by
  by_cases h1 : 1 ≤ n
  · by_cases h2 : n ≤ 65535
    · have hv := Lib.hid ((smallB_iff n).2 ⟨h1, h2⟩)
      go_enter Tryd.func79, Tryd.ntmps79
      go_wp2
      go_ret
      exact ⟨ret_b hv.out.symm, rfl⟩
    · have hv : smallB n = false := by rw [← Bool.not_eq_true, smallB_iff]; omega
      have HV := Lib.hid hv; clear hv
      go_enter Tryd.func79, Tryd.ntmps79
      go_wp2
      go_ret
      exact ⟨ret_b HV.out.symm, rfl⟩
  · have hv : smallB n = false := by rw [← Bool.not_eq_true, smallB_iff]; omega
    have HV := Lib.hid hv; clear hv
    go_enter Tryd.func79, Tryd.ntmps79
    go_wp2
    go_ret
    exact ⟨ret_b HV.out.symm, rfl⟩

set_option maxRecDepth 100000 in
set_option maxHeartbeats 1000000 in
theorem refRightM_any (m : Msg) (hd : m.data.size ≤ maxLen) (w : World) :
    Calls Tryd.prog 55 #[mv m] w fun e w' => e = .returned (.bool (rightM m)) ∧ Below w.heap.size w w' := by
  have HM : Hid (rightM m = (rightI m.ext m.n && (senderB m.sender && (smallB m.inc && (smallB m.seq && (smallB m.number && dataB m.data)))))) := Lib.hid rfl
  have hnew := Holds.new w m
  obtain ⟨b, n, se, ic, sq, nu, d⟩ := m
  unfold maxLen at hd
  simp only [mv] at *
  have cr := fun w => refRight_any b n w
  have c1 := fun w => refSmall_any ic w
  have c2 := fun w => refSmall_any sq w
  have c3 := fun w => refSmall_any nu w
  generalize rightM _ = R at *
  generalize rightI b n = r at *
  generalize smallB ic = s1 at *
  generalize smallB sq = s2 at *
  generalize smallB nu = s3 at *
  go_enter Tryd.func55, Tryd.ntmps55
  go_wp2_with fail; refine (cr _).mono ?_; rintro e w1 ⟨rfl, hb⟩
  obtain ⟨_, h0, h1, h2, h3, h4, h5, h6⟩ := hnew.below hb
  have HB := Lib.hid ((Joins.below_alloc1 w _).trans (hb.mono (by simp)))
  clear hb hnew
  cases r
  · go_wp2_with fail
    go_ret
    exact ⟨ret_b (HM.out.trans (by simp)).symm, HB.out⟩
  · by_cases k0 : 0 ≤ se
    · by_cases k1 : se ≤ 15
      · have hs : senderB se = true := (senderB_iff se).2 ⟨k0, k1⟩
        rw [hs] at HM
        clear hs
        cases s1
        · go_wp2_with fail; refine (c1 _).mono ?_; rintro e w2 ⟨rfl, rfl⟩
          go_wp2_with fail
          go_ret
          exact ⟨ret_b (HM.out.trans (by simp)).symm, HB.out⟩
        · cases s2
          · go_wp2_with fail; refine (c1 _).mono ?_; rintro e w2 ⟨rfl, rfl⟩
            go_wp2_with fail; refine (c2 _).mono ?_; rintro e w2 ⟨rfl, rfl⟩
            go_wp2_with fail
            go_ret
            exact ⟨ret_b (HM.out.trans (by simp)).symm, HB.out⟩
          · cases s3
            · go_wp2_with fail; refine (c1 _).mono ?_; rintro e w2 ⟨rfl, rfl⟩
              go_wp2_with fail; refine (c2 _).mono ?_; rintro e w2 ⟨rfl, rfl⟩
              go_wp2_with fail; refine (c3 _).mono ?_; rintro e w2 ⟨rfl, rfl⟩
              go_wp2_with fail
              go_ret
              exact ⟨ret_b (HM.out.trans (by simp)).symm, HB.out⟩
            · by_cases k2 : (d.size : Int) ≤ 8
              · have hz : dataB d = true := (dataB_iff d).2 (by omega)
                rw [hz] at HM
                clear hz
                go_wp2_with fail; refine (c1 _).mono ?_; rintro e w2 ⟨rfl, rfl⟩
                go_wp2_with fail; refine (c2 _).mono ?_; rintro e w2 ⟨rfl, rfl⟩
                go_wp2_with fail; refine (c3 _).mono ?_; rintro e w2 ⟨rfl, rfl⟩
                go_wp2_with fail
                go_ret
                exact ⟨ret_b (HM.out.trans (by simp)).symm, HB.out⟩
              · have hz : dataB d = false := by rw [← Bool.not_eq_true, dataB_iff]; omega
                rw [hz] at HM
                clear hz
                go_wp2_with fail; refine (c1 _).mono ?_; rintro e w2 ⟨rfl, rfl⟩
                go_wp2_with fail; refine (c2 _).mono ?_; rintro e w2 ⟨rfl, rfl⟩
                go_wp2_with fail; refine (c3 _).mono ?_; rintro e w2 ⟨rfl, rfl⟩
                go_wp2_with fail
                go_ret
                exact ⟨ret_b (HM.out.trans (by simp; omega)).symm, HB.out⟩
      · have hs : senderB se = false := by rw [← Bool.not_eq_true, senderB_iff]; omega
        rw [hs] at HM
        clear hs
        go_wp2_with fail
        go_ret
        exact ⟨ret_b (HM.out.trans (by simp)).symm, HB.out⟩
    · have hs : senderB se = false := by rw [← Bool.not_eq_true, senderB_iff]; omega
      rw [hs] at HM
      clear hs
      go_wp2_with fail
      go_ret
      exact ⟨ret_b (HM.out.trans (by simp)).symm, HB.out⟩

end Go.Proofs.YtehajmockicilaaDoor

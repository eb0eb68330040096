/-
  Keys: what ident.Key, At and Less do, and the document's.
-/
import Derived.Test.YtehajmockicilaaDoorIdentRight
import Derived.Test.YtehajmockicilaaDoorIdentBits
namespace Go.Proofs.YtehajmockicilaaDoor
open Go.RowKit

/-- An identifier's place among all; of one that may not be 0. -/
def keyI (b : Bool) (n : Int) : Int := if b = true then 524288 * (n / 262144) + 262144 + n % 262144 else 524288 * n
def keyV (b : Bool) (n : Int) : Int := if rightI b n = true then keyI b n else 0
def keyE (b : Bool) (n : Int) : Int := if rightI b n = true then 0 else 1

theorem right_range {b : Bool} {n : Int} (h : rightI b n = true) : 0 ≤ n ∧ n ≤ lim b := by
  unfold rightI at h
  simpa using h

theorem key_short (n : Int) : n * 524288 = keyI false n := by
  show _ = 524288 * n
  omega
theorem key_wide (n : Int) (h0 : 0 ≤ n) (h1 : n ≤ 536870911) :
    bits BinOp.or IntKind.i64 (bits BinOp.or IntKind.i64 (n / 262144 * 524288) 262144) (bits BinOp.and IntKind.i64 n 262143) = keyI true n := by
  have e1 : bits BinOp.or IntKind.i64 (n / 262144 * 524288) 262144 = n / 262144 * 524288 + 262144 := i64_or_parts 19 (by omega) _ _ (by omega) (by omega) (by omega) (by omega) (by omega)
  rw [e1, i64_low18, i64_or_parts 18 (by omega) _ _ (by omega) (by omega) (by omega) (by omega) (by omega)]
  show _ = 524288 * (n / 262144) + 262144 + n % 262144
  omega

theorem key_any (b : Bool) (n : Int) (w : World) (L : Laid w) :
    Calls Tryd.prog 94 #[.agg #[.bool b, .int .i64 n]] w fun e w' => e = .returned (.tuple #[.int .i64 (keyV b n), .int .i64 (keyE b n)]) ∧ Below w.heap.size w w' := by
  cases h : rightI b n
  · have hc := fun w L => right_any b n w L
    rw [h] at hc
    have ev : keyV b n = 0 := by unfold keyV; rw [h]; rfl
    have ee : keyE b n = 1 := by unfold keyE; rw [h]; rfl
    rw [ev, ee]
    clear ev ee
    have HC := Lib.hid hc; clear hc
    have H := Lib.hid h; clear h
    go_enter Tryd.func94, Tryd.ntmps94
    go_wp2_with fail
    refine (HC.out _ (L.alloc _)).mono ?_
    rintro e w1 ⟨rfl, hb⟩
    go_wp2_with fail
    go_ret2
    exact ⟨rfl, (Joins.below_alloc1 _ _).trans (hb.mono (by simp))⟩
  · have hc := fun w L => right_any b n w L
    rw [h] at hc
    have ev : keyV b n = keyI b n := by unfold keyV; rw [h]; rfl
    have ee : keyE b n = 0 := by unfold keyE; rw [h]; rfl
    rw [ev, ee]
    clear ev ee
    have HC := Lib.hid hc; clear hc
    have hr := right_range h
    have H := Lib.hid h; clear h
    obtain ⟨h0, h1⟩ := hr
    cases b
    · rw [lim_false] at h1
      go_enter Tryd.func94, Tryd.ntmps94
      go_wp2_with fail
      refine (HC.out _ (L.alloc _)).mono ?_
      rintro e w1 ⟨rfl, hb⟩
      obtain ⟨hc, hf⟩ := bcell hb
      go_wp2_with fail
      go_ret2
      exact ⟨congrArg (fun n => Ending.returned (.tuple #[.int .i64 n, .int .i64 0])) (key_short n), (Joins.below_alloc1 _ _).trans (hb.mono (by simp))⟩
    · rw [lim_true] at h1
      go_enter Tryd.func94, Tryd.ntmps94
      go_wp2_with fail
      refine (HC.out _ (L.alloc _)).mono ?_
      rintro e w1 ⟨rfl, hb⟩
      obtain ⟨hc, hf⟩ := bcell hb
      go_wp2_with fail
      go_ret2
      exact ⟨congrArg (fun n => Ending.returned (.tuple #[.int .i64 n, .int .i64 0])) (key_wide n h0 h1), (Joins.below_alloc1 _ _).trans (hb.mono (by simp))⟩

theorem refKey_any (b : Bool) (n : Int) (w : World) :
    Calls Tryd.prog 89 #[.agg #[.bool b, .int .i64 n]] w fun e w' => e = .returned (.tuple #[.int .i64 (keyV b n), .int .i64 (keyE b n)]) ∧ Below w.heap.size w w' := by
  cases h : rightI b n
  · have hc := fun w => refRight_any b n w
    rw [h] at hc
    have ev : keyV b n = 0 := by unfold keyV; rw [h]; rfl
    have ee : keyE b n = 1 := by unfold keyE; rw [h]; rfl
    rw [ev, ee]
    clear ev ee
    have HC := Lib.hid hc; clear hc
    have H := Lib.hid h; clear h
    go_enter Tryd.func89, Tryd.ntmps89
    go_wp2_with fail
    refine (HC.out _).mono ?_
    rintro e w1 ⟨rfl, hb⟩
    go_wp2_with fail
    go_ret2
    exact ⟨rfl, (Joins.below_alloc1 _ _).trans (hb.mono (by simp))⟩
  · have hc := fun w => refRight_any b n w
    rw [h] at hc
    have ev : keyV b n = keyI b n := by unfold keyV; rw [h]; rfl
    have ee : keyE b n = 0 := by unfold keyE; rw [h]; rfl
    rw [ev, ee]
    clear ev ee
    have HC := Lib.hid hc; clear hc
    have hr := right_range h
    have H := Lib.hid h; clear h
    obtain ⟨h0, h1⟩ := hr
    cases b
    · rw [lim_false] at h1
      go_enter Tryd.func89, Tryd.ntmps89
      go_wp2_with fail
      refine (HC.out _).mono ?_
      rintro e w1 ⟨rfl, hb⟩
      obtain ⟨hc, hf⟩ := bcell hb
      go_wp2_with fail
      go_ret2
      exact ⟨rfl, (Joins.below_alloc1 _ _).trans (hb.mono (by simp))⟩
    · rw [lim_true] at h1
      go_enter Tryd.func89, Tryd.ntmps89
      go_wp2_with fail
      refine (HC.out _).mono ?_
      rintro e w1 ⟨rfl, hb⟩
      obtain ⟨hc, hf⟩ := bcell hb
      go_wp2_with fail
      go_ret2
      exact ⟨rfl, (Joins.below_alloc1 _ _).trans (hb.mono (by simp))⟩

end Go.Proofs.YtehajmockicilaaDoor

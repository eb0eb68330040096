/-
  The law VecTells: what the program tells of vectors is what the document tells.
-/
import Derived.Test.YtmpaffpmmmpadaaVecPick
namespace Go.Proofs.Ytmpaffpmmmpadaa
open Go.RowKit

theorem Row.front {w : World} {B : Nat} {A : Option Addr} {l : List Int} (h : Row w B A l) (n : Nat) : Row w B A (l.take n) := fun hn => by
  rw [List.length_take] at hn
  obtain ⟨ad, e, hb, hc⟩ := h (by omega)
  refine ⟨ad, e, hb, fun j x hx => hc j x ?_⟩
  have hj := (List.getElem?_eq_some_iff.1 hx).1
  rw [List.length_take] at hj
  rw [List.getElem?_take_of_lt (by omega)] at hx
  exact hx
theorem ne_same_i (x : Int) : (x != x) = false := by simp
theorem ne_same_b (x : Bool) : (x != x) = false := by simp

set_option maxHeartbeats 2000000 in
theorem vecTells_walk (a0 a1 : Int) (A : Option Addr) (c : Nat) (l : List Int) (_w0 : (Lit.int .i64 a0).wf = true) (w1 : (Lit.int .i64 a1).wf = true) (w : World) (hr : Row w w.heap.size A l) (hl : l.length ≤ c) (hc : c ≤ maxLen) :
    Calls Try.prog 3 #[.int .i64 a0, .int .i64 a1, .slice A l.length c] w fun e w' => e = .returned (.bool true) ∧ Below w.heap.size w w' := by
  have p0 := fun w => pick_any a1 20 w1 (by omega) w
  obtain ⟨hr0, hr1⟩ := pickI_range a1 20 (by omega)
  generalize pickI a1 20 = p at *
  clear w1
  have hx40 : (40 < l.length ∧ (l.take 40).length = 40) ∨ (l.length ≤ 40 ∧ (l.take 40).length = l.length) := by rw [List.length_take]; omega
  have hrx := hr.front 40
  clear hr
  have hlen : (l.length : Int) ≤ 9223372036854775807 := by unfold maxLen at hc; omega
  generalize l.take 40 = x at *
  generalize l.length = n at *
  have f1 := fun w' (h : Row w' w.heap.size A x) (hx : x.length ≤ 40) => of_any A c w.heap.size x w' h (by unfold maxLen; omega)
  have f2 := fun w' (h : Row w' w.heap.size A x) (hB : w.heap.size ≤ w'.heap.size) (hx : x.length ≤ 40) => refOf_any A c w.heap.size x w' h hB (by unfold maxLen; omega)
  generalize ofI x = ox at *
  have t1 := fun w => count_any a0 w
  have t2 := fun w => refCount_any a0 w
  have t3 := fun w => list_any a0 w
  have t4 := fun w => refList_any a0 w
  have hl16 := listI_length a0
  have gi := fun (A A' : Option Addr) (c c' B B' : Nat) (w : World) (ha : Row w B A (listI a0)) (hb : Row w B' A' (listI a0)) => ints_any A A' c c' B B' (listI a0) (listI a0) w ha hb (by unfold maxLen; omega)
  rw [show decide (listI a0 = listI a0) = true from by simp] at gi
  generalize countI a0 = ca at *
  generalize listI a0 = la at *
  have HRX := Lib.hid hrx; clear hrx
  rcases hx40 with ⟨hn, he⟩ | ⟨hn, he⟩
  · have hxl : x.length ≤ 40 := by omega
    have hn2 : (40 : Int) < n := by omega
    have f1 := fun w' h => f1 w' h hxl
    have f2 := fun w' h hB => f2 w' h hB hxl
    rw [he] at f1 f2
    clear he hxl
    go_enter Try.func3, Try.ntmps3
    go_wp2_with fail; refine (awake_any _).mono ?_; rintro e w1 ⟨rfl, b1⟩
    go_wp2_with fail; refine (p0 _).mono ?_; rintro e w2 ⟨rfl, rfl⟩
    go_wp2_with fail
    have q0 : (w1.alloc (.cells #[.int .i64 a1, .int .i64 (p - 2)] 3)).cell? ⟨w1.heap.size, 0, none⟩ = some (.int .i64 a1) := by simp [go_sem]
    have q1 : (w1.alloc (.cells #[.int .i64 a1, .int .i64 (p - 2)] 3)).cell? ⟨w1.heap.size, 1, none⟩ = some (.int .i64 (p - 2)) := by simp [go_sem]
    have b2 := b1.trans ((Joins.below_alloc1 w1 (.cells #[.int .i64 a1, .int .i64 (p - 2)] 3)).mono b1.size)
    have hsz : w1.heap.size < (w1.alloc (.cells #[.int .i64 a1, .int .i64 (p - 2)] 3)).heap.size := by simp
    generalize w1.alloc (.cells #[.int .i64 a1, .int .i64 (p - 2)] 3) = W at *
    have Q0 := Lib.hid q0; clear q0
    have Q1 := Lib.hid q1; clear q1
    have B2 := Lib.hid b2; clear b2 b1
    go_loopw [23] (fun i wr => ∃ k : Nat, k ≤ 2 ∧ i = .int .i64 k ∧ Below W.heap.size W wr) (fun i _ => 2 - (intOf i).toNat)
    case atStart => exact ⟨0, by omega, rfl, Below.refl _ _⟩
    case round =>
      obtain ⟨k, hk, rfl, hb⟩ := hrel
      have HB := Lib.hid hb; clear hb
      by_cases hlt : k < 2
      · obtain ⟨z, hz⟩ : ∃ z, wr.cell? ⟨w1.heap.size, k, none⟩ = some (.int .i64 z) := by
          rcases (show k = 0 ∨ k = 1 by omega) with rfl | rfl
          · exact ⟨_, (HB.out.cell (p := ⟨w1.heap.size, 0, none⟩) hsz).trans Q0.out⟩
          · exact ⟨_, (HB.out.cell (p := ⟨w1.heap.size, 1, none⟩) hsz).trans Q1.out⟩
        have m0 := fun w => all_any z w
        have n0 := fun w => refAll_any z w
        have m1 := fun w => has_any a0 z w
        have n1 := fun w => refHas_any a0 z w
        have m2 := fun w => with_any a0 z w
        have n2 := fun w => refWith_any a0 z w
        have m3 := fun w => without_any a0 z w
        have n3 := fun w => refWithout_any a0 z w
        have m4 := fun w => most_any a0 z w
        have n4 := fun w => refMost_any a0 z w
        generalize allI z = v0 at *
        generalize hasB a0 z = v1 at *
        generalize withI a0 z = v2 at *
        generalize withoutI a0 z = v3 at *
        generalize mostB a0 z = v4 at *
        go_wp2_with fail; refine (m0 _).mono ?_; rintro e w2 ⟨rfl, rfl⟩
        go_wp2_with fail; refine (n0 _).mono ?_; rintro e w2 ⟨rfl, d0⟩
        go_wp2_with fail; refine (m1 _).mono ?_; rintro e w3 ⟨rfl, rfl⟩
        go_wp2_with fail; refine (n1 _).mono ?_; rintro e w3 ⟨rfl, rfl⟩
        go_wp2_with fail; refine (m2 _).mono ?_; rintro e w3 ⟨rfl, rfl⟩
        go_wp2_with fail; refine (n2 _).mono ?_; rintro e w3 ⟨rfl, d2⟩
        go_wp2_with fail; refine (m3 _).mono ?_; rintro e w4 ⟨rfl, rfl⟩
        go_wp2_with fail; refine (n3 _).mono ?_; rintro e w4 ⟨rfl, d3⟩
        go_wp2_with fail; refine (m4 _).mono ?_; rintro e w5 ⟨rfl, d4⟩
        go_wp2_with fail; refine (n4 _).mono ?_; rintro e w6 ⟨rfl, rfl⟩
        go_wp2_with fail
        have s := HB.out.size
        have s0 := d0.size
        have s2 := d2.size
        have s3 := d3.size
        have HD := Lib.hid ((((HB.out.trans (d0.mono (by omega))).trans (d2.mono (by omega))).trans (d3.mono (by omega))).trans (d4.mono (by omega)))
        clear d0 d2 d3 d4
        go_roundw
        case rel => exact ⟨k + 1, by omega, by go_num, HD.out⟩
        case measure => simp [intOf]; omega
      · have hk2 : k = 2 := by omega
        subst hk2
        go_wp2_with fail; refine (t1 _).mono ?_; rintro e w2 ⟨rfl, d1⟩
        go_wp2_with fail; refine (t2 _).mono ?_; rintro e w3 ⟨rfl, d2⟩
        go_wp2_with fail; refine (t3 _).mono ?_; rintro e w4 ⟨u4, rfl, r4, d3⟩
        obtain ⟨A4, c4, rfl, _, i4⟩ := Row.of_own r4; clear r4
        go_wp2_with fail; refine (t4 _).mono ?_; rintro e w5 ⟨u5, rfl, r5, d4⟩
        obtain ⟨A5, c5, rfl, _, i5⟩ := Row.of_own r5; clear r5
        have j4 := i4.below d4 (Nat.le_refl _); clear i4
        go_wp2_with fail; refine (gi _ _ _ _ _ _ _ j4 i5).mono ?_; rintro e w6 ⟨rfl, n6, rfl⟩
        have sB := B2.out.size
        have s := HB.out.size
        have s1 := d1.size
        have s2 := d2.size
        have s3 := d3.size
        have s4 := d4.size
        have HE := Lib.hid (below_drewN (((((B2.out.trans (HB.out.mono (by omega))).trans (d1.mono (by omega))).trans (d2.mono (by omega))).trans (d3.mono (by omega))).trans (d4.mono (by omega))) n6)
        have hx6 := HRX.out.below HE.out (Nat.le_refl _)
        have HX6 := Lib.hid hx6; clear hx6
        clear d1 d2 d3 d4 j4 i5
        go_wp2_with fail; refine (f1 _ HX6.out).mono ?_; rintro e w7 ⟨rfl, rfl⟩
        go_wp2_with fail; refine (f2 _ HX6.out HE.out.size).mono ?_; rintro e w8 ⟨rfl, d8⟩
        go_wp2_with fail
        go_ret
        exact ⟨rfl, HE.out.trans (d8.mono HE.out.size)⟩
  · have hxl : x.length ≤ 40 := by omega
    have hn2 : (n : Int) ≤ 40 := by omega
    have f1 := fun w' h => f1 w' h hxl
    have f2 := fun w' h hB => f2 w' h hB hxl
    rw [he] at f1 f2
    clear he hxl
    go_enter Try.func3, Try.ntmps3
    go_wp2_with fail; refine (awake_any _).mono ?_; rintro e w1 ⟨rfl, b1⟩
    go_wp2_with fail; refine (p0 _).mono ?_; rintro e w2 ⟨rfl, rfl⟩
    go_wp2_with fail
    have q0 : (w1.alloc (.cells #[.int .i64 a1, .int .i64 (p - 2)] 3)).cell? ⟨w1.heap.size, 0, none⟩ = some (.int .i64 a1) := by simp [go_sem]
    have q1 : (w1.alloc (.cells #[.int .i64 a1, .int .i64 (p - 2)] 3)).cell? ⟨w1.heap.size, 1, none⟩ = some (.int .i64 (p - 2)) := by simp [go_sem]
    have b2 := b1.trans ((Joins.below_alloc1 w1 (.cells #[.int .i64 a1, .int .i64 (p - 2)] 3)).mono b1.size)
    have hsz : w1.heap.size < (w1.alloc (.cells #[.int .i64 a1, .int .i64 (p - 2)] 3)).heap.size := by simp
    generalize w1.alloc (.cells #[.int .i64 a1, .int .i64 (p - 2)] 3) = W at *
    have Q0 := Lib.hid q0; clear q0
    have Q1 := Lib.hid q1; clear q1
    have B2 := Lib.hid b2; clear b2 b1
    go_loopw [23] (fun i wr => ∃ k : Nat, k ≤ 2 ∧ i = .int .i64 k ∧ Below W.heap.size W wr) (fun i _ => 2 - (intOf i).toNat)
    case atStart => exact ⟨0, by omega, rfl, Below.refl _ _⟩
    case round =>
      obtain ⟨k, hk, rfl, hb⟩ := hrel
      have HB := Lib.hid hb; clear hb
      by_cases hlt : k < 2
      · obtain ⟨z, hz⟩ : ∃ z, wr.cell? ⟨w1.heap.size, k, none⟩ = some (.int .i64 z) := by
          rcases (show k = 0 ∨ k = 1 by omega) with rfl | rfl
          · exact ⟨_, (HB.out.cell (p := ⟨w1.heap.size, 0, none⟩) hsz).trans Q0.out⟩
          · exact ⟨_, (HB.out.cell (p := ⟨w1.heap.size, 1, none⟩) hsz).trans Q1.out⟩
        have m0 := fun w => all_any z w
        have n0 := fun w => refAll_any z w
        have m1 := fun w => has_any a0 z w
        have n1 := fun w => refHas_any a0 z w
        have m2 := fun w => with_any a0 z w
        have n2 := fun w => refWith_any a0 z w
        have m3 := fun w => without_any a0 z w
        have n3 := fun w => refWithout_any a0 z w
        have m4 := fun w => most_any a0 z w
        have n4 := fun w => refMost_any a0 z w
        generalize allI z = v0 at *
        generalize hasB a0 z = v1 at *
        generalize withI a0 z = v2 at *
        generalize withoutI a0 z = v3 at *
        generalize mostB a0 z = v4 at *
        go_wp2_with fail; refine (m0 _).mono ?_; rintro e w2 ⟨rfl, rfl⟩
        go_wp2_with fail; refine (n0 _).mono ?_; rintro e w2 ⟨rfl, d0⟩
        go_wp2_with fail; refine (m1 _).mono ?_; rintro e w3 ⟨rfl, rfl⟩
        go_wp2_with fail; refine (n1 _).mono ?_; rintro e w3 ⟨rfl, rfl⟩
        go_wp2_with fail; refine (m2 _).mono ?_; rintro e w3 ⟨rfl, rfl⟩
        go_wp2_with fail; refine (n2 _).mono ?_; rintro e w3 ⟨rfl, d2⟩
        go_wp2_with fail; refine (m3 _).mono ?_; rintro e w4 ⟨rfl, rfl⟩
        go_wp2_with fail; refine (n3 _).mono ?_; rintro e w4 ⟨rfl, d3⟩
        go_wp2_with fail; refine (m4 _).mono ?_; rintro e w5 ⟨rfl, d4⟩
        go_wp2_with fail; refine (n4 _).mono ?_; rintro e w6 ⟨rfl, rfl⟩
        go_wp2_with fail
        have s := HB.out.size
        have s0 := d0.size
        have s2 := d2.size
        have s3 := d3.size
        have HD := Lib.hid ((((HB.out.trans (d0.mono (by omega))).trans (d2.mono (by omega))).trans (d3.mono (by omega))).trans (d4.mono (by omega)))
        clear d0 d2 d3 d4
        go_roundw
        case rel => exact ⟨k + 1, by omega, by go_num, HD.out⟩
        case measure => simp [intOf]; omega
      · have hk2 : k = 2 := by omega
        subst hk2
        go_wp2_with fail; refine (t1 _).mono ?_; rintro e w2 ⟨rfl, d1⟩
        go_wp2_with fail; refine (t2 _).mono ?_; rintro e w3 ⟨rfl, d2⟩
        go_wp2_with fail; refine (t3 _).mono ?_; rintro e w4 ⟨u4, rfl, r4, d3⟩
        obtain ⟨A4, c4, rfl, _, i4⟩ := Row.of_own r4; clear r4
        go_wp2_with fail; refine (t4 _).mono ?_; rintro e w5 ⟨u5, rfl, r5, d4⟩
        obtain ⟨A5, c5, rfl, _, i5⟩ := Row.of_own r5; clear r5
        have j4 := i4.below d4 (Nat.le_refl _); clear i4
        go_wp2_with fail; refine (gi _ _ _ _ _ _ _ j4 i5).mono ?_; rintro e w6 ⟨rfl, n6, rfl⟩
        have sB := B2.out.size
        have s := HB.out.size
        have s1 := d1.size
        have s2 := d2.size
        have s3 := d3.size
        have s4 := d4.size
        have HE := Lib.hid (below_drewN (((((B2.out.trans (HB.out.mono (by omega))).trans (d1.mono (by omega))).trans (d2.mono (by omega))).trans (d3.mono (by omega))).trans (d4.mono (by omega))) n6)
        have hx6 := HRX.out.below HE.out (Nat.le_refl _)
        have HX6 := Lib.hid hx6; clear hx6
        clear d1 d2 d3 d4 j4 i5
        go_wp2_with fail; refine (f1 _ HX6.out).mono ?_; rintro e w7 ⟨rfl, rfl⟩
        go_wp2_with fail; refine (f2 _ HX6.out HE.out.size).mono ?_; rintro e w8 ⟨rfl, d8⟩
        go_wp2_with fail
        go_ret
        exact ⟨rfl, HE.out.trans (d8.mono HE.out.size)⟩

end Go.Proofs.Ytmpaffpmmmpadaa

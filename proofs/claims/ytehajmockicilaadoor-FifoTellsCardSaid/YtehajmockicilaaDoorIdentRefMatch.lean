/-
  Filters: what the document's Fits and Match do.
-/
import Derived.Test.YtehajmockicilaaDoorIdentMatch
namespace Go.Proofs.YtehajmockicilaaDoor
open Go.RowKit

theorem refFits_any (b : Bool) (c m : Int) (w : World) :
    Calls Tryd.prog 82 #[.agg #[.bool b, .int .i64 c, .int .i64 m]] w fun e w' => e = .returned (.bool (fitsI b c m)) ∧ Below w.heap.size w w' := by
  have c1 := fun w => refLimit_any b w
  have hl := lim_range b
  obtain ⟨r, hr⟩ : ∃ r, r = fitsI b c m := ⟨_, rfl⟩
  rw [← hr]
  unfold fitsI rightI at hr
  generalize lim b = l at c1 hr hl
  have C1 := Lib.hid c1; clear c1
  by_cases h1 : 0 ≤ c
  · have d1 : decide (0 ≤ c) = true := by simpa using h1
    rw [d1, Bool.true_and] at hr
    by_cases h2 : c ≤ l
    · have d2 : decide (c ≤ l) = true := by simpa using h2
      rw [d2, Bool.true_and] at hr
      by_cases h3 : 0 ≤ m
      · have d3 : decide (0 ≤ m) = true := by simpa using h3
        rw [d3, Bool.true_and] at hr
        have HR := Lib.hid hr; clear hr
        go_enter Tryd.func82, Tryd.ntmps82
        go_wp2_with fail
        go_quiet ((go_at_call 91; exact Calls.quiet_of_same (turned (C1.out _))))
        go_wp2_with fail
        go_ret
        exact ⟨congrArg (fun b => Ending.returned (.bool b)) HR.out.symm, below_drewN (Joins.below_alloc1 _ _) _⟩
      · have d3 : decide (0 ≤ m) = false := by simpa using h3
        rw [d3, Bool.false_and] at hr
        subst hr
        go_enter Tryd.func82, Tryd.ntmps82
        go_wp2_with fail
        go_quiet ((go_at_call 91; exact Calls.quiet_of_same (turned (C1.out _))))
        go_wp2_with fail
        go_ret
        exact ⟨rfl, below_drewN (Joins.below_alloc1 _ _) _⟩
    · have d2 : decide (c ≤ l) = false := by simpa using h2
      rw [d2, Bool.false_and] at hr
      subst hr
      go_enter Tryd.func82, Tryd.ntmps82
      go_wp2_with fail
      go_quiet ((go_at_call 91; exact Calls.quiet_of_same (turned (C1.out _))))
      go_wp2_with fail
      go_ret
      exact ⟨rfl, below_drewN (Joins.below_alloc1 _ _) _⟩
  · have d1 : decide (0 ≤ c) = false := by simpa using h1
    rw [d1, Bool.false_and, Bool.false_and] at hr
    subst hr
    go_enter Tryd.func82, Tryd.ntmps82
    go_wp2_with fail
    go_quiet (fail)
    go_wp2_with fail
    go_ret
    exact ⟨rfl, below_drewN (Joins.below_alloc1 _ _) _⟩

/-- Alike in the bits below k. -/
def alikeTo (n c m k : Nat) : Prop := ∀ j, j < k → m.testBit j = true → n.testBit j = c.testBit j

theorem alikeTo_all (n c m : Nat) (hn : n < 536870912) (hc : c < 536870912) (h : alikeTo n c m 29) : alike (n : Int) (c : Int) (m : Int) = true := by
  unfold alike
  rw [Int.toNat_natCast, Int.toNat_natCast, Int.toNat_natCast, beq_iff_eq]
  apply Nat.eq_of_testBit_eq
  intro i
  rw [Nat.testBit_and, Nat.testBit_xor, Nat.zero_testBit]
  by_cases hi : i < 29
  · cases hm : m.testBit i
    · rw [Bool.and_false]
    · rw [h i hi hm]; simp
  · have h1 : n.testBit i = false := Nat.testBit_lt_two_pow (Nat.lt_of_lt_of_le (show n < 2 ^ 29 from hn) (Nat.pow_le_pow_right (by omega) (by omega)))
    have h2 : c.testBit i = false := Nat.testBit_lt_two_pow (Nat.lt_of_lt_of_le (show c < 2 ^ 29 from hc) (Nat.pow_le_pow_right (by omega) (by omega)))
    rw [h1, h2]; simp
theorem alike_not (n c m k : Nat) (hm : m.testBit k = true) (h : n.testBit k ≠ c.testBit k) : alike (n : Int) (c : Int) (m : Int) = false := by
  unfold alike
  rw [Int.toNat_natCast, Int.toNat_natCast, Int.toNat_natCast, beq_eq_false_iff_ne]
  intro e
  have e2 := congrArg (fun x => Nat.testBit x k) e
  simp only [Nat.testBit_and, Nat.testBit_xor, Nat.zero_testBit, hm, Bool.and_true] at e2
  cases h1 : n.testBit k <;> cases h2 : c.testBit k <;> simp_all

/-- One bit, as the document asks for it. -/
theorem bit_at (m k : Nat) (hm : m < 536870912) : bits BinOp.and IntKind.i64 ((m : Int) / 2 ^ k) 1 = (((m.testBit k).toNat : Nat) : Int) := by
  have e : (m : Int) / 2 ^ k = ((m / 2 ^ k : Nat) : Int) := by rw [Int.natCast_ediv, Int.natCast_pow]; rfl
  have hl : m / 2 ^ k < 9223372036854775808 := Nat.lt_of_le_of_lt (Nat.div_le_self _ _) (by omega)
  have h := i64_and_nat (m / 2 ^ k) 1 hl (by omega)
  rw [e, show (1 : Int) = ((1 : Nat) : Int) from rfl, h, nat_mask1, Nat.testBit_eq_decide_div_mod_eq]
  rcases Nat.mod_two_eq_zero_or_one (m / 2 ^ k) with h | h <;> rw [h] <;> rfl
theorem bit_on {m k : Nat} (hm : m < 536870912) (h : m.testBit k = true) : bits BinOp.and IntKind.i64 ((m : Int) / 2 ^ k) 1 = 1 := by rw [bit_at m k hm, h]; rfl
theorem bit_off {m k : Nat} (hm : m < 536870912) (h : m.testBit k = false) : bits BinOp.and IntKind.i64 ((m : Int) / 2 ^ k) 1 = 0 := by rw [bit_at m k hm, h]; rfl

theorem alikeTo_on {n c m k : Nat} (h : alikeTo n c m k) (hb : m.testBit k = true → n.testBit k = c.testBit k) : alikeTo n c m (k + 1) := by
  intro j hj hm
  rcases Nat.lt_or_ge j k with h1 | h1
  · exact h j h1 hm
  · have : j = k := by omega
    subst this
    exact hb hm

set_option maxHeartbeats 400000 in
theorem refMatch_any (b : Bool) (c m : Int) (d : Bool) (n : Int) (w : World) :
    Calls Tryd.prog 59 #[.agg #[.bool b, .int .i64 c, .int .i64 m], .agg #[.bool d, .int .i64 n]] w fun e w' => e = .returned (.bool (matchI b c m d n)) ∧ Below w.heap.size w w' := by
  have c1 := fun w => refFits_any b c m w
  have c2 := fun w => refRight_any d n w
  have hp := match_parts b c m d n
  generalize matchI b c m d n = r at hp
  rcases hp with ⟨h1, hr⟩ | ⟨h1, h2, hr⟩ | ⟨h1, h2, h3, hr⟩ | ⟨h1, h2, h3, -, hr, hn, hc, hm⟩
  · rw [h1] at c1
    subst hr
    have C1 := Lib.hid c1; clear c1
    have C2 := Lib.hid c2; clear c2
    clear h1
    go_enter Tryd.func59, Tryd.ntmps59
    go_wp2_with fail
    refine (C1.out _).mono ?_
    rintro e w1 ⟨rfl, hb1⟩
    go_wp2_with fail
    go_ret
    exact ⟨rfl, (Joins.below_alloc2 _ _ _).trans (hb1.mono (by simp; omega))⟩
  · rw [h1] at c1
    rw [h2] at c2
    subst hr
    have C1 := Lib.hid c1; clear c1
    have C2 := Lib.hid c2; clear c2
    clear h1 h2
    go_enter Tryd.func59, Tryd.ntmps59
    go_wp2_with fail
    refine (C1.out _).mono ?_
    rintro e w1 ⟨rfl, hb1⟩
    obtain ⟨hc, hf⟩ := bcell hb1
    go_wp2_with fail
    refine (C2.out _).mono ?_
    rintro e w2 ⟨rfl, hb2⟩
    go_wp2_with fail
    go_ret
    exact ⟨rfl, (Joins.below_alloc2 _ _ _).trans ((hb1.mono (by simp; omega)).trans (hb2.mono (by have := hb1.size; simp at this; omega)))⟩
  · rw [h1] at c1
    rw [h2] at c2
    subst hr
    have h4 : (b != d) = true := by rw [bne, h3]; rfl
    have C1 := Lib.hid c1; clear c1
    have C2 := Lib.hid c2; clear c2
    clear h1 h2
    go_enter Tryd.func59, Tryd.ntmps59
    go_wp2_with fail
    refine (C1.out _).mono ?_
    rintro e w1 ⟨rfl, hb1⟩
    obtain ⟨hc, hf⟩ := bcell hb1
    go_wp2_with fail
    refine (C2.out _).mono ?_
    rintro e w2 ⟨rfl, hb2⟩
    obtain ⟨hc2, hf2⟩ := bcell hb2
    have hz : w.heap.size + 1 < w1.heap.size := by have := hb1.size; simp at this; omega
    have q0 : w2.cell? ⟨w.heap.size, 0, none⟩ = some (.bool b) := (hc2 _ _ (by omega)).trans ((hc _ _ (by simp; omega)).trans (by simp [go_sem]))
    have q1 : w2.cell? ⟨w.heap.size + 1, 0, none⟩ = some (.bool d) := (hc2 _ _ (by omega)).trans ((hc _ _ (by simp)).trans (by simp [go_sem]))
    go_wp2_with fail
    go_ret
    exact ⟨rfl, (Joins.below_alloc2 _ _ _).trans ((hb1.mono (by simp; omega)).trans (hb2.mono (by have := hb1.size; simp at this; omega)))⟩
  · rw [h1] at c1
    rw [h2] at c2
    have h4 : (b != d) = false := by rw [bne, h3]; rfl
    have C1 := Lib.hid c1; clear c1
    have C2 := Lib.hid c2; clear c2
    obtain ⟨n, rfl, hn⟩ := hn
    obtain ⟨c, rfl, hc⟩ := hc
    obtain ⟨m, rfl, hm⟩ := hm
    have HR := Lib.hid hr; clear hr
    clear h1 h2
    go_enter Tryd.func59, Tryd.ntmps59
    go_wp2_with fail
    refine (C1.out _).mono ?_
    rintro e w1 ⟨rfl, hb1⟩
    obtain ⟨hc, hf⟩ := bcell hb1
    go_wp2_with fail
    refine (C2.out _).mono ?_
    rintro e w2 ⟨rfl, hb2⟩
    obtain ⟨hc2, hf2⟩ := bcell hb2
    have hz : w.heap.size + 1 < w1.heap.size := by have := hb1.size; simp at this; omega
    have q0 : w2.cell? ⟨w.heap.size, 0, none⟩ = some (.bool b) := (hc2 _ _ (by omega)).trans ((hc _ _ (by simp; omega)).trans (by simp [go_sem]))
    have q1 : w2.cell? ⟨w.heap.size + 1, 0, none⟩ = some (.bool d) := (hc2 _ _ (by omega)).trans ((hc _ _ (by simp)).trans (by simp [go_sem]))
    have q2 : w2.cell? ⟨w.heap.size, 1, none⟩ = some (.int .i64 c) := (hc2 _ _ (by omega)).trans ((hc _ _ (by simp; omega)).trans (by simp [go_sem]))
    have q3 : w2.cell? ⟨w.heap.size, 2, none⟩ = some (.int .i64 m) := (hc2 _ _ (by omega)).trans ((hc _ _ (by simp; omega)).trans (by simp [go_sem]))
    have q4 : w2.cell? ⟨w.heap.size + 1, 1, none⟩ = some (.int .i64 n) := (hc2 _ _ (by omega)).trans ((hc _ _ (by simp)).trans (by simp [go_sem]))
    have hW : Below w.heap.size w w2 := (Joins.below_alloc2 _ _ _).trans ((hb1.mono (by simp; omega)).trans (hb2.mono (by have := hb1.size; simp at this; omega)))
    have hz2 : w.heap.size + 1 < w2.heap.size := by have := hb2.size; omega
    have HW := Lib.hid hW
    clear hW hb1 hb2 hc hf hc2 hf2
    go_wp2_with fail
    clear q0 q1 h3 h4 hz
    go_loopw [5] (fun v wr => ∃ k a : Nat, k ≤ 29 ∧ v = .int .i64 k ∧ wr = w2.drewN a ∧ alikeTo n c m k) (fun v _ => 29 - (intOf v).toNat)
    case atStart => exact ⟨0, 0, by omega, rfl, rfl, fun j hj => absurd hj (Nat.not_lt_zero j)⟩
    case round =>
      obtain ⟨k, a, hk, rfl, rfl, hal⟩ := hrel
      have HA := Lib.hid hal; clear hal
      by_cases hlt : k < 29
      · have hk0 : (0 : Int) ≤ (k : Int) := by omega
        go_wp2_with fail
        cases bm : m.testBit k
        · have gm := bit_off hm bm
          have BM := Lib.hid bm; clear bm
          go_quiet (fail)
          go_wp2_with fail
          go_roundw
          case rel => exact ⟨k + 1, a + nq, by omega, by go_num, by simp, alikeTo_on HA.out (fun h => by rw [BM.out] at h; cases h)⟩
          case measure => simp [intOf]; omega
        · have gm := bit_on hm bm
          cases bn : n.testBit k
          · have gn := bit_off hn bn
            cases bc : c.testBit k
            · have gc := bit_off hc bc
              have BB := Lib.hid (bn.trans bc.symm); clear bm bn bc
              go_quiet (fail)
              go_wp2_with fail
              go_roundw
              case rel => exact ⟨k + 1, a + nq, by omega, by go_num, by simp, alikeTo_on HA.out (fun _ => BB.out)⟩
              case measure => simp [intOf]; omega
            · have gc := bit_on hc bc
              have HF := Lib.hid (alike_not n c m k bm (by rw [bn, bc]; decide))
              clear bm bn bc
              go_quiet (fail)
              go_wp2_with fail
              go_ret
              rw [← HR.out, HF.out]
              exact ⟨rfl, below_drewN (below_drewN HW.out _) _⟩
          · have gn := bit_on hn bn
            cases bc : c.testBit k
            · have gc := bit_off hc bc
              have HF := Lib.hid (alike_not n c m k bm (by rw [bn, bc]; decide))
              clear bm bn bc
              go_quiet (fail)
              go_wp2_with fail
              go_ret
              rw [← HR.out, HF.out]
              exact ⟨rfl, below_drewN (below_drewN HW.out _) _⟩
            · have gc := bit_on hc bc
              have BB := Lib.hid (bn.trans bc.symm); clear bm bn bc
              go_quiet (fail)
              go_wp2_with fail
              go_roundw
              case rel => exact ⟨k + 1, a + nq, by omega, by go_num, by simp, alikeTo_on HA.out (fun _ => BB.out)⟩
              case measure => simp [intOf]; omega
      · have hk2 : k = 29 := by omega
        subst hk2
        have HF := Lib.hid (alikeTo_all n c m hn hc HA.out)
        go_wp2_with fail
        go_ret
        rw [← HR.out, HF.out]
        exact ⟨rfl, below_drewN HW.out _⟩

end Go.Proofs.YtehajmockicilaaDoor

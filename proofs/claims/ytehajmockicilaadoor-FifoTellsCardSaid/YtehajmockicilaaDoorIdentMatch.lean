/-
  Filters: what ident.Fits and Match do, and the document's Fits.
-/
import Derived.Test.YtehajmockicilaaDoorIdentRefParse
namespace Go.Proofs.YtehajmockicilaaDoor
open Go.RowKit

def fitsI (b : Bool) (c m : Int) : Bool := rightI b c && rightI b m
/-- Are two numbers alike in each bit of a mask? -/
def alike (n c m : Int) : Bool := (n.toNat ^^^ c.toNat) &&& m.toNat == 0
def matchI (b : Bool) (c m : Int) (d : Bool) (n : Int) : Bool := fitsI b c m && (rightI d n && ((b == d) && alike n c m))

theorem right_nat {b : Bool} {n : Int} (h : rightI b n = true) : ∃ k : Nat, n = (k : Int) ∧ k < 536870912 := by
  have h1 := right_range h
  have h2 := lim_range b
  exact ⟨n.toNat, by omega, by omega⟩

theorem alike_bits (n c m : Int) (hn : ∃ k : Nat, n = (k : Int) ∧ k < 536870912) (hc : ∃ k : Nat, c = (k : Int) ∧ k < 536870912) (hm : ∃ k : Nat, m = (k : Int) ∧ k < 536870912) :
    (bits BinOp.and IntKind.i64 (bits BinOp.xor IntKind.i64 n c) m == 0) = alike n c m := by
  obtain ⟨n, rfl, hn⟩ := hn
  obtain ⟨c, rfl, hc⟩ := hc
  obtain ⟨m, rfl, hm⟩ := hm
  have hx : n ^^^ c < 2 ^ 29 := Nat.xor_lt_two_pow (by omega) (by omega)
  rw [i64_xor_nat n c (by omega) (by omega), i64_and_nat _ _ (by omega) (by omega)]
  unfold alike
  rw [Int.toNat_natCast, Int.toNat_natCast, Int.toNat_natCast, Bool.eq_iff_iff, beq_iff_eq, beq_iff_eq]
  omega

theorem fits_any (b : Bool) (c m : Int) (w : World) (L : Laid w) :
    Calls Tryd.prog 96 #[.agg #[.bool b, .int .i64 c, .int .i64 m]] w fun e w' => e = .returned (.bool (fitsI b c m)) ∧ Below w.heap.size w w' := by
  have c1 := fun w L => within_any b c w L
  have c2 := fun w L => within_any b m w L
  obtain ⟨r, hr⟩ : ∃ r, r = fitsI b c m := ⟨_, rfl⟩
  rw [← hr]
  unfold fitsI at hr
  generalize rightI b c = x at c1 hr
  generalize rightI b m = y at c2 hr
  have C1 := Lib.hid c1; clear c1
  have C2 := Lib.hid c2; clear c2
  cases x
  · rw [Bool.false_and] at hr
    subst hr
    go_enter Tryd.func96, Tryd.ntmps96
    go_wp2_with fail
    refine (C1.out _ (L.alloc _)).mono ?_
    rintro e w1 ⟨rfl, rfl⟩
    go_wp2_with fail
    go_ret
    exact ⟨rfl, Joins.below_alloc1 _ _⟩
  · rw [Bool.true_and] at hr
    subst hr
    go_enter Tryd.func96, Tryd.ntmps96
    go_wp2_with fail
    refine (C1.out _ (L.alloc _)).mono ?_
    rintro e w1 ⟨rfl, rfl⟩
    go_wp2_with fail
    refine (C2.out _ (L.alloc _)).mono ?_
    rintro e w1 ⟨rfl, rfl⟩
    go_wp2_with fail
    go_ret
    exact ⟨rfl, Joins.below_alloc1 _ _⟩

/-- All that Match asks. -/
theorem match_parts (b : Bool) (c m : Int) (d : Bool) (n : Int) :
    (fitsI b c m = false ∧ matchI b c m d n = false) ∨
    (fitsI b c m = true ∧ rightI d n = false ∧ matchI b c m d n = false) ∨
    (fitsI b c m = true ∧ rightI d n = true ∧ (b == d) = false ∧ matchI b c m d n = false) ∨
    (fitsI b c m = true ∧ rightI d n = true ∧ (b == d) = true ∧ (bits BinOp.and IntKind.i64 (bits BinOp.xor IntKind.i64 n c) m == 0) = matchI b c m d n ∧ alike n c m = matchI b c m d n ∧
      (∃ k : Nat, n = (k : Int) ∧ k < 536870912) ∧ (∃ k : Nat, c = (k : Int) ∧ k < 536870912) ∧ (∃ k : Nat, m = (k : Int) ∧ k < 536870912)) := by
  cases h1 : fitsI b c m
  · exact .inl ⟨rfl, by unfold matchI; rw [h1]; rfl⟩
  cases h2 : rightI d n
  · exact .inr (.inl ⟨rfl, rfl, by unfold matchI; rw [h1, h2]; rfl⟩)
  cases h3 : (b == d)
  · exact .inr (.inr (.inl ⟨rfl, rfl, rfl, by unfold matchI; rw [h1, h2, h3]; rfl⟩))
  have h4 := h1
  unfold fitsI at h4
  rw [Bool.and_eq_true] at h4
  have e : matchI b c m d n = alike n c m := by unfold matchI; rw [h1, h2, h3]; rfl
  exact .inr (.inr (.inr ⟨rfl, rfl, rfl, by rw [e]; exact alike_bits n c m (right_nat h2) (right_nat h4.1) (right_nat h4.2), e.symm, right_nat h2, right_nat h4.1, right_nat h4.2⟩))

theorem match_any (b : Bool) (c m : Int) (d : Bool) (n : Int) (w : World) (L : Laid w) :
    Calls Tryd.prog 92 #[.agg #[.bool b, .int .i64 c, .int .i64 m], .agg #[.bool d, .int .i64 n]] w fun e w' => e = .returned (.bool (matchI b c m d n)) ∧ Below w.heap.size w w' := by
  have c1 := fun w L => fits_any b c m w L
  have c2 := fun w L => right_any d n w L
  have hp := match_parts b c m d n
  generalize matchI b c m d n = r at hp
  rcases hp with ⟨h1, hr⟩ | ⟨h1, h2, hr⟩ | ⟨h1, h2, h3, hr⟩ | ⟨h1, h2, h3, hr, -, -, -, -⟩
  · rw [h1] at c1
    subst hr
    have C1 := Lib.hid c1; clear c1
    have C2 := Lib.hid c2; clear c2
    clear h1
    go_enter Tryd.func92, Tryd.ntmps92
    go_wp2_with fail
    refine (C1.out _ ((L.alloc _).alloc _)).mono ?_
    rintro e w1 ⟨rfl, hb1⟩
    go_wp2_with fail
    go_ret
    exact ⟨rfl, (Joins.below_alloc2 _ _ _).trans (hb1.mono (by simp; omega))⟩
  · rw [h1] at c1
    rw [h2] at c2
    subst hr
    have C1 := Lib.hid c1; clear c1
    have C2 := Lib.hid c2; clear c2
    clear h1 h2
    go_enter Tryd.func92, Tryd.ntmps92
    go_wp2_with fail
    refine (C1.out _ ((L.alloc _).alloc _)).mono ?_
    rintro e w1 ⟨rfl, hb1⟩
    obtain ⟨hc, hf⟩ := bcell hb1
    go_wp2_with fail
    refine (C2.out _ (((L.alloc _).alloc _).below hb1)).mono ?_
    rintro e w2 ⟨rfl, hb2⟩
    go_wp2_with fail
    go_ret
    exact ⟨rfl, (Joins.below_alloc2 _ _ _).trans ((hb1.mono (by simp; omega)).trans (hb2.mono (by have := hb1.size; simp at this; omega)))⟩
  · rw [h1] at c1
    rw [h2] at c2
    subst hr
    have C1 := Lib.hid c1; clear c1
    have C2 := Lib.hid c2; clear c2
    clear h1 h2
    go_enter Tryd.func92, Tryd.ntmps92
    go_wp2_with fail
    refine (C1.out _ ((L.alloc _).alloc _)).mono ?_
    rintro e w1 ⟨rfl, hb1⟩
    obtain ⟨hc, hf⟩ := bcell hb1
    go_wp2_with fail
    refine (C2.out _ (((L.alloc _).alloc _).below hb1)).mono ?_
    rintro e w2 ⟨rfl, hb2⟩
    obtain ⟨hc2, hf2⟩ := bcell hb2
    have hz : w.heap.size + 1 < w1.heap.size := by have := hb1.size; simp at this; omega
    have q0 : w2.cell? ⟨w.heap.size, 0, none⟩ = some (.bool b) := (hc2 _ _ (by omega)).trans ((hc _ _ (by simp; omega)).trans (by simp [go_sem]))
    have q1 : w2.cell? ⟨w.heap.size + 1, 0, none⟩ = some (.bool d) := (hc2 _ _ (by omega)).trans ((hc _ _ (by simp)).trans (by simp [go_sem]))
    go_wp2_with fail
    go_ret
    exact ⟨rfl, (Joins.below_alloc2 _ _ _).trans ((hb1.mono (by simp; omega)).trans (hb2.mono (by have := hb1.size; simp at this; omega)))⟩
  · rw [h1] at c1
    rw [h2] at c2
    have C1 := Lib.hid c1; clear c1
    have C2 := Lib.hid c2; clear c2
    clear h1 h2
    go_enter Tryd.func92, Tryd.ntmps92
    go_wp2_with fail
    refine (C1.out _ ((L.alloc _).alloc _)).mono ?_
    rintro e w1 ⟨rfl, hb1⟩
    obtain ⟨hc, hf⟩ := bcell hb1
    go_wp2_with fail
    refine (C2.out _ (((L.alloc _).alloc _).below hb1)).mono ?_
    rintro e w2 ⟨rfl, hb2⟩
    obtain ⟨hc2, hf2⟩ := bcell hb2
    have hz : w.heap.size + 1 < w1.heap.size := by have := hb1.size; simp at this; omega
    have q0 : w2.cell? ⟨w.heap.size, 0, none⟩ = some (.bool b) := (hc2 _ _ (by omega)).trans ((hc _ _ (by simp; omega)).trans (by simp [go_sem]))
    have q1 : w2.cell? ⟨w.heap.size + 1, 0, none⟩ = some (.bool d) := (hc2 _ _ (by omega)).trans ((hc _ _ (by simp)).trans (by simp [go_sem]))
    have q2 : w2.cell? ⟨w.heap.size, 1, none⟩ = some (.int .i64 c) := (hc2 _ _ (by omega)).trans ((hc _ _ (by simp; omega)).trans (by simp [go_sem]))
    have q3 : w2.cell? ⟨w.heap.size, 2, none⟩ = some (.int .i64 m) := (hc2 _ _ (by omega)).trans ((hc _ _ (by simp; omega)).trans (by simp [go_sem]))
    have q4 : w2.cell? ⟨w.heap.size + 1, 1, none⟩ = some (.int .i64 n) := (hc2 _ _ (by omega)).trans ((hc _ _ (by simp)).trans (by simp [go_sem]))
    go_wp2_with fail
    go_ret
    exact ⟨rfl, (Joins.below_alloc2 _ _ _).trans ((hb1.mono (by simp; omega)).trans (hb2.mono (by have := hb1.size; simp at this; omega)))⟩

end Go.Proofs.YtehajmockicilaaDoor

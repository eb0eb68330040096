/-
  What the statements' own helpers of layer 2 do: pick, Ident and awake.
-/
import Derived.Test.YtnngkpcikmbnmaaDoorIdentRefAny
import Derived.OpenShut
namespace Go.Proofs.YtnngkpcikmbnmaaDoor
open Go.RowKit

/-- An identifier that lies in memory. -/
def Two (w : World) (p : Nat) (b : Bool) (n : Int) : Prop := p < w.heap.size ∧ w.cell? ⟨p, 0, none⟩ = some (.bool b) ∧ w.cell? ⟨p, 1, none⟩ = some (.int .i64 n)
theorem Two.below {w w' : World} {p : Nat} {b : Bool} {n : Int} (h : Two w p b n) (hb : Below w.heap.size w w') : Two w' p b n :=
  ⟨Nat.lt_of_lt_of_le h.1 hb.size, (hb.cell (p := ⟨p, 0, none⟩) h.1).trans h.2.1, (hb.cell (p := ⟨p, 1, none⟩) h.1).trans h.2.2⟩
theorem Two.alloc {w : World} {p : Nat} {b : Bool} {n : Int} (h : Two w p b n) (o : Obj) : Two (w.alloc o) p b n := h.below (Joins.below_alloc1 w o)
theorem Two.new (w : World) (b : Bool) (n : Int) (t : TypeId) : Two (w.alloc (.cells #[.bool b, .int .i64 n] t)) w.heap.size b n := ⟨by simp, by simp [go_sem], by simp [go_sem]⟩

theorem Two.new1 (w : World) (o : Obj) (b : Bool) (n : Int) (t : TypeId) : Two ((w.alloc o).alloc (.cells #[.bool b, .int .i64 n] t)) (w.heap.size + 1) b n := by
  have h := Two.new (w.alloc o) b n t
  rwa [show (w.alloc o).heap.size = w.heap.size + 1 from by simp] at h
theorem below_new {a b : World} (h : Below a.heap.size a b) (o : Obj) : Below a.heap.size a (b.alloc o) := h.alloc h.size o

/-- Which of n things a raw number speaks of. -/
def pickI (c n : Int) : Int := (if c < 0 then -(c + 1) else c) % n
theorem pickI_range (c n : Int) (hn : 0 < n) : 0 ≤ pickI c n ∧ pickI c n < n := ⟨Int.emod_nonneg _ (by omega), Int.emod_lt_of_pos _ hn⟩

theorem wrap64_in (n : Int) (h1 : -9223372036854775808 ≤ n) (h2 : n ≤ 9223372036854775807) : wrap64 n = n := by
  unfold wrap64
  omega

theorem pick_neg_value (c n : Int) (hc : (Lit.int .i64 c).wf = true) (h : c < 0) : (wrap64 (-wrap64 (c + 1))).tmod n = pickI c n := by
  have hb := bounds_i64 hc
  rw [wrap64_in (c + 1) (by omega) (by omega), wrap64_in _ (by omega) (by omega), Int.tmod_eq_emod_of_nonneg (by omega)]
  unfold pickI
  rw [if_pos h]

theorem pick_pos_value (c n : Int) (h : ¬ c < 0) : c % n = pickI c n := by
  unfold pickI
  rw [if_neg h]

theorem pick_any (c n : Int) (hc : (Lit.int .i64 c).wf = true) (hn : 0 < n) (w : World) :
    Calls Tryd.prog 29 #[.int .i64 c, .int .i64 n] w fun e w' => e = .returned (.int .i64 (pickI c n)) ∧ w = w' := by
  by_cases h : c < 0
  · have hv := Lib.hid (pick_neg_value c n hc h)
    have HC := Lib.hid hc; clear hc
    go_enter Tryd.func29, Tryd.ntmps29
    go_wp2
    go_ret
    exact ⟨congrArg (fun n => Ending.returned (.int .i64 n)) hv.out, rfl⟩
  · have hv := Lib.hid (pick_pos_value c n h)
    have h0 : 0 ≤ c := by omega
    have HC := Lib.hid hc; clear hc
    go_enter Tryd.func29, Tryd.ntmps29
    go_wp2
    go_ret
    exact ⟨congrArg (fun n => Ending.returned (.int .i64 n)) hv.out, rfl⟩

/-- The number of one that may be, of a raw one. -/
def idN (n : Int) (b : Bool) : Int := pickI n (lim b + 1)
theorem idN_right (n : Int) (b : Bool) : rightI b (idN n b) = true := by
  have h := lim_range b
  have h2 := pickI_range n (lim b + 1) (by omega)
  unfold rightI idN
  rw [Bool.and_eq_true, decide_eq_true_eq, decide_eq_true_eq]
  omega

theorem ident_any (n : Int) (hn : (Lit.int .i64 n).wf = true) (b : Bool) (w : World) :
    Calls Tryd.prog 28 #[.int .i64 n, .bool b] w fun e w' => e = .returned (.agg #[.bool b, .int .i64 (idN n b)]) ∧ Below w.heap.size w w' := by
  cases b
  · have c1 := fun w => pick_any n (lim false + 1) hn (by decide) w
    have e : idN n false = pickI n (lim false + 1) := rfl
    rw [← e] at c1
    generalize idN n false = N at c1
    have C1 := Lib.hid c1; clear c1 hn e
    go_enter Tryd.func28, Tryd.ntmps28
    go_wp2_with fail
    refine (C1.out _).mono ?_
    rintro e w1 ⟨rfl, rfl⟩
    go_wp2_with fail
    exact bodyPost_ret (v := .agg #[.bool false, .int .i64 N]) (by simp [results, Tryd.results28, go_sem]) rfl ⟨rfl, by first | exact ((Joins.below_alloc1 _ _).setCell (by simp) _).setCell (by simp) _ | exact Joins.below_alloc1 _ _⟩
  · have c1 := fun w => pick_any n (lim true + 1) hn (by decide) w
    have e : idN n true = pickI n (lim true + 1) := rfl
    rw [← e] at c1
    generalize idN n true = N at c1
    have C1 := Lib.hid c1; clear c1 hn e
    go_enter Tryd.func28, Tryd.ntmps28
    go_wp2_with fail
    refine (C1.out _).mono ?_
    rintro e w1 ⟨rfl, rfl⟩
    go_wp2_with fail
    exact bodyPost_ret (v := .agg #[.bool true, .int .i64 N]) (by simp [results, Tryd.results28, go_sem]) rfl ⟨rfl, by first | exact ((Joins.below_alloc1 _ _).setCell (by simp) _).setCell (by simp) _ | exact Joins.below_alloc1 _ _⟩

def b3 : ByteArray := ⟨#[97, 98, 99]⟩
def b4 : ByteArray := ⟨#[128, 20, 0, 0]⟩
theorem v1 : keyV false 5 = 2621440 ∧ keyE false 5 = 0 := by decide +kernel
theorem v2 : keyV true 1310720 = 2883584 ∧ keyE true 1310720 = 0 := by decide +kernel
theorem v3 : txt (printI true 1310720) = b4 := by
  have : printI true 1310720 = b4.data.toList := by decide +kernel
  rw [this]; rfl
theorem v4 : psRB b4.data.toList = true ∧ psRN b4.data.toList = 1310720 ∧ psE b4.data.toList = 0 := by decide +kernel
theorem v5 : atRB 262143 = false ∧ atRN 262143 = 0 ∧ atRE 262143 = 1 := by decide +kernel
theorem v6 : psRB b3.data.toList = false ∧ psRN b3.data.toList = 0 ∧ psE b3.data.toList = 3 := by decide +kernel
theorem v7 : lessI false 5 true 1310720 = true ∧ lessI true 1310720 false 5 = false ∧ matchI false 7 5 false 5 = true ∧ anyI false 5 [] = false ∧ rightI false 5 = true := by decide +kernel

set_option maxHeartbeats 1000000 in
theorem awake_any (w : World) (L : Laid w) :
    Calls Tryd.prog 9 #[] w fun e w' => e = .returned (.bool true) ∧ Below w.heap.size w w' := by
  have k1 : (b4.toList == [128, 20, 0, 0]) = true := by decide +kernel
  have c1 := fun w L => key_any false 5 w L
  rw [v1.1, v1.2] at c1
  have c2 := fun w L => key_any true 1310720 w L
  rw [v2.1, v2.2] at c2
  have c3 := fun w L => print_any true 1310720 w L
  rw [v3, v2.2] at c3
  have c4 := fun w L => parse_any b4 w L (by decide +kernel)
  unfold ParsePost at c4
  rw [v4.1, v4.2.1, v4.2.2] at c4
  have c5 := fun w L => at_any 262143 (by decide +kernel) w L
  unfold AtPost at c5
  rw [v5.1, v5.2.1, v5.2.2] at c5
  have c6 := fun w L => parse_any b3 w L (by decide +kernel)
  unfold ParsePost at c6
  rw [v6.1, v6.2.1, v6.2.2] at c6
  unfold b3 at c6
  unfold b4 at c3 c4
  have c7 := fun w L => less_any false 5 true 1310720 w L
  have c8 := fun w L => less_any true 1310720 false 5 w L
  have c9 := fun w L => match_any false 7 5 false 5 w L
  have c10 := fun w => any_nil false 5 0 w
  have c11 := fun w L => right_any false 5 w L
  rw [v7.1] at c7
  rw [v7.2.1] at c8
  rw [v7.2.2.1] at c9
  rw [v7.2.2.2.2] at c11
  have C1 := Lib.hid c1; clear c1
  have C2 := Lib.hid c2; clear c2
  have C3 := Lib.hid c3; clear c3
  have C4 := Lib.hid c4; clear c4
  have C5 := Lib.hid c5; clear c5
  have C6 := Lib.hid c6; clear c6
  have C7 := Lib.hid c7; clear c7
  have C8 := Lib.hid c8; clear c8
  have C9 := Lib.hid c9; clear c9
  have C10 := Lib.hid c10; clear c10
  have C11 := Lib.hid c11; clear c11
  unfold b4 at k1
  go_enter Tryd.func9, Tryd.ntmps9
  go_wp2_with fail
  refine (C1.out _ ((L.alloc _).alloc _)).mono ?_
  rintro e w1 ⟨rfl, hb1⟩
  have A := (((Two.new _ false 5 _).alloc _)).below hb1
  have B := ((Two.new1 _ _ true 1310720 _)).below hb1
  have L0 := ((L.alloc _).alloc _).below hb1
  have hW := below_trans (Joins.below_alloc2 _ _ _) hb1
  clear hb1
  obtain ⟨sA, qA0, qA1⟩ := id A
  obtain ⟨sB, qB0, qB1⟩ := id B
  go_wp2_with fail
  refine (C2.out _ L0).mono ?_
  rintro e w2 ⟨rfl, hb2⟩
  clear qA0 qA1 qB0 qB1 sA sB
  replace A := (A).below hb2
  replace B := (B).below hb2
  replace L0 := L0.below hb2
  replace hW := below_trans hW hb2
  clear hb2
  obtain ⟨sA, qA0, qA1⟩ := id A
  obtain ⟨sB, qB0, qB1⟩ := id B
  go_wp2_with fail
  refine (C3.out _ L0).mono ?_
  rintro e w3 ⟨rfl, hb3⟩
  clear qA0 qA1 qB0 qB1 sA sB
  replace A := (A).below hb3
  replace B := (B).below hb3
  replace L0 := L0.below hb3
  replace hW := below_trans hW hb3
  clear hb3
  obtain ⟨sA, qA0, qA1⟩ := id A
  obtain ⟨sB, qB0, qB1⟩ := id B
  go_wp2_with fail
  refine (C4.out _ L0).mono ?_
  rintro e w4 ⟨rfl, hb4⟩
  clear qA0 qA1 qB0 qB1 sA sB
  replace A := (A).below hb4
  replace B := (B).below hb4
  replace L0 := L0.below hb4
  replace hW := below_trans hW hb4
  clear hb4
  obtain ⟨sA, qA0, qA1⟩ := id A
  obtain ⟨sB, qB0, qB1⟩ := id B
  go_wp2_with fail
  refine (C5.out _ (L0.alloc _)).mono ?_
  rintro e w5 ⟨rfl, hb5⟩
  clear qA0 qA1 qB0 qB1 sA sB
  replace A := ((A.alloc _)).below hb5
  replace B := ((B.alloc _)).below hb5
  have C := ((Two.new _ true 1310720 _)).below hb5
  replace L0 := (L0.alloc _).below hb5
  replace hW := below_trans (below_new hW _) hb5
  clear hb5
  obtain ⟨sA, qA0, qA1⟩ := id A
  obtain ⟨sB, qB0, qB1⟩ := id B
  obtain ⟨sC, qC0, qC1⟩ := id C
  go_wp2_with fail
  refine (C6.out _ (L0.alloc _)).mono ?_
  rintro e w6 ⟨rfl, hb6⟩
  clear qA0 qA1 qB0 qB1 qC0 qC1 sA sB sC
  replace A := ((A.alloc _)).below hb6
  replace B := ((B.alloc _)).below hb6
  replace C := ((C.alloc _)).below hb6
  replace L0 := (L0.alloc _).below hb6
  replace hW := below_trans (below_new hW _) hb6
  clear hb6
  obtain ⟨sA, qA0, qA1⟩ := id A
  obtain ⟨sB, qB0, qB1⟩ := id B
  obtain ⟨sC, qC0, qC1⟩ := id C
  go_wp2_with fail
  refine (C7.out _ (L0.alloc _)).mono ?_
  rintro e w7 ⟨rfl, hb7⟩
  clear qA0 qA1 qB0 qB1 qC0 qC1 sA sB sC
  replace A := ((A.alloc _)).below hb7
  replace B := ((B.alloc _)).below hb7
  replace C := ((C.alloc _)).below hb7
  replace L0 := (L0.alloc _).below hb7
  replace hW := below_trans (below_new hW _) hb7
  clear hb7
  obtain ⟨sA, qA0, qA1⟩ := id A
  obtain ⟨sB, qB0, qB1⟩ := id B
  obtain ⟨sC, qC0, qC1⟩ := id C
  go_wp2_with fail
  refine (C8.out _ L0).mono ?_
  rintro e w8 ⟨rfl, hb8⟩
  clear qA0 qA1 qB0 qB1 qC0 qC1 sA sB sC
  replace A := (A).below hb8
  replace B := (B).below hb8
  replace C := (C).below hb8
  replace L0 := L0.below hb8
  replace hW := below_trans hW hb8
  clear hb8
  obtain ⟨sA, qA0, qA1⟩ := id A
  obtain ⟨sB, qB0, qB1⟩ := id B
  obtain ⟨sC, qC0, qC1⟩ := id C
  go_wp2_with fail
  refine (C9.out _ L0).mono ?_
  rintro e w9 ⟨rfl, hb9⟩
  clear qA0 qA1 qB0 qB1 qC0 qC1 sA sB sC
  replace A := (A).below hb9
  replace B := (B).below hb9
  replace C := (C).below hb9
  replace L0 := L0.below hb9
  replace hW := below_trans hW hb9
  clear hb9
  obtain ⟨sA, qA0, qA1⟩ := id A
  obtain ⟨sB, qB0, qB1⟩ := id B
  obtain ⟨sC, qC0, qC1⟩ := id C
  go_wp2_with fail
  refine (C10.out _).mono ?_
  rintro e w10 ⟨rfl, hb10⟩
  clear qA0 qA1 qB0 qB1 qC0 qC1 sA sB sC
  replace A := (A).below hb10
  replace B := (B).below hb10
  replace C := (C).below hb10
  replace L0 := L0.below hb10
  replace hW := below_trans hW hb10
  clear hb10
  obtain ⟨sA, qA0, qA1⟩ := id A
  obtain ⟨sB, qB0, qB1⟩ := id B
  obtain ⟨sC, qC0, qC1⟩ := id C
  go_wp2_with fail
  refine (C11.out _ L0).mono ?_
  rintro e w11 ⟨rfl, hb11⟩
  clear qA0 qA1 qB0 qB1 qC0 qC1 sA sB sC
  replace A := (A).below hb11
  replace B := (B).below hb11
  replace C := (C).below hb11
  replace L0 := L0.below hb11
  replace hW := below_trans hW hb11
  clear hb11
  obtain ⟨sA, qA0, qA1⟩ := id A
  obtain ⟨sB, qB0, qB1⟩ := id B
  obtain ⟨sC, qC0, qC1⟩ := id C
  go_wp2_with fail
  go_ret
  exact ⟨rfl, hW⟩

end Go.Proofs.YtnngkpcikmbnmaaDoor

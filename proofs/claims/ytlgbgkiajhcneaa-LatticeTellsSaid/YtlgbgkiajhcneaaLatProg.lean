/-
  The program's own small calls: the grid, a time's place in it, epochs and their order.
-/
import Derived.Test.YtlgbgkiajhcneaaLatFns
import Derived.Test.YtlgbgkiajhcneaaOnce
import Derived.Deep.DeepCutAuto
import Derived.ChangeKeysEq
namespace Go.Proofs.Ytlgbgkiajhcneaa
open Go.RowKit

/-- A grid, as a value and in a box. -/
abbrev gfn : Value := .func (.func 44) #[] #[]
abbrev gv (la S h : Int) : Value := .agg #[.int .i64 la, .int .i64 S, .int .i64 h, gfn]
def GrAt (w : World) (b : Nat) (la S h : Int) : Prop := w.heap[b]? = some (.cells #[.int .i64 la, .int .i64 S, .int .i64 h, gfn] 46 (0, 0))
theorem GrAt.new (w : World) (la S h : Int) : GrAt (w.alloc (.cells #[.int .i64 la, .int .i64 S, .int .i64 h, gfn] 46)) w.heap.size la S h := heap_new w _
theorem GrAt.on {w w' : World} {b : Nat} {la S h : Int} (hh : GrAt w b la S h) (hb : Below w.heap.size w w') : GrAt w' b la S h := (hb.block b (Array.getElem?_eq_some_iff.1 hh).1).trans hh
theorem GrAt.cells {w : World} {b : Nat} {la S h : Int} (hh : GrAt w b la S h) : w.cell? ⟨b, 0, none⟩ = some (.int .i64 la) ∧ w.cell? ⟨b, 1, none⟩ = some (.int .i64 S) ∧ w.cell? ⟨b, 2, none⟩ = some (.int .i64 h) ∧ w.cell? ⟨b, 3, none⟩ = some gfn := ⟨cell_of hh 0, cell_of hh 1, cell_of hh 2, cell_of hh 3⟩

theorem gmay_any (t : Int) (w : World) :
    Calls Try.prog 44 #[.int .i64 t] w fun e w' => e = .returned (.bool (timeB t)) ∧ w = w' := by
  have c := fun W => within_any (-1099511627776) 1099511627776 t W
  go_enter Try.func44, Try.ntmps44
  go_wp2_with fail; refine (c _).mono ?_; rintro e w1 ⟨rfl, rfl⟩
  go_wp2_with fail
  go_ret
  exact ⟨rfl, rfl⟩

set_option maxRecDepth 100000 in
theorem gridOf_any (la lg : Int) (h : (1 ≤ la ∧ la ≤ 10000) ∧ 1 ≤ lg ∧ lg ≤ 10000) (w : World) :
    Calls Try.prog 43 #[lv la lg] w fun e w' => e = .returned (gv la (la + lg) (lg / 2)) ∧ Below w.heap.size w w' := by
  obtain ⟨⟨a0, a1⟩, g0, g1⟩ := h
  have hh := half_eq lg g0
  have hL := LtAt.new w la lg
  have hB := Joins.below_alloc1 w (.cells #[.int .i64 la, .int .i64 lg] 23)
  go_enter Try.func43, Try.ntmps43
  obtain ⟨y0, y1⟩ := hL.cells
  have hB2 := Joins.below_alloc2 w (.cells #[.int .i64 la, .int .i64 lg] 23) (.cells #[.int .i64 la, .int .i64 (la + lg), .int .i64 (lg / 2), gfn] 46)
  have HG := Lib.hid (GrAt.new (w.alloc (.cells #[.int .i64 la, .int .i64 lg] 23)) la (la + lg) (lg / 2))
  have HB2 := Lib.hid hB2; clear hB hB2
  have hsf : ∀ (p : Addr) (m : Mode) (W : World), (store p (.func (.func 44) #[] #[]) m).run Try.prog W = stored Try.prog W p gfn m := fun p m W => run_store _ W p _ m rfl
  go_wp2_with fail
  obtain ⟨q0, q1, q2, q3⟩ := HG.out.cells
  rw [World.size_alloc] at q0 q1 q2 q3
  exact bodyPost_ret (v := gv la (la + lg) (lg / 2)) (by simp [results, Try.results43, go_sem, q0, q1, q2, q3]) rfl ⟨rfl, HB2.out⟩

set_option maxRecDepth 100000 in
theorem place_any (la S h t : Int) (hS : 2 ≤ S ∧ S ≤ 20000) (ht : -1099511637776 ≤ t ∧ t ≤ 1099511637776) (w : World) :
    Calls Try.prog 31 #[gv la S h, .int .i64 t] w fun e w' => e = .returned (.tuple #[.int .i64 (t / S), .int .i64 (t % S)]) ∧ Below w.heap.size w w' := by
  have h0 : S ≠ 0 := by omega
  obtain ⟨q1, q2⟩ := tdiv_bound t S
  obtain ⟨r1, r2⟩ := tmod_bound t S (by omega)
  have HY := Lib.hid (down_neg t S (by omega))
  have HN := Lib.hid (down_pos t S (by omega))
  have hw1 : wrap64 (t.tdiv S) = t.tdiv S := w64 _ (by omega) (by omega)
  obtain ⟨y0, y1, y2, y3⟩ := (GrAt.new w la S h).cells
  have HB := Lib.hid (Joins.below_alloc1 w (.cells #[.int .i64 la, .int .i64 S, .int .i64 h, gfn] 46))
  by_cases hr : t.tmod S < 0
  · obtain ⟨e1, e2⟩ := HY.out hr
    have H1 := Lib.hid e1
    have H2 := Lib.hid e2
    clear HY HN e1 e2
    go_enter Try.func31, Try.ntmps31
    go_wp2_with fail
    go_quiet (fail)
    go_wp2_with fail
    go_quiet (fail)
    go_wp2_with fail
    go_ret2
    exact ⟨ret_ii H1.out H2.out, below_drewN (below_drewN HB.out _) _⟩
  · obtain ⟨e1, e2⟩ := HN.out hr
    have H1 := Lib.hid e1
    have H2 := Lib.hid e2
    clear HY HN e1 e2
    go_enter Try.func31, Try.ntmps31
    go_wp2_with fail
    go_quiet (fail)
    go_wp2_with fail
    go_ret2
    exact ⟨ret_ii H1.out H2.out, below_drewN HB.out _⟩

set_option maxRecDepth 100000 in
theorem gbegin_any (la S h n : Int) (hp : -4611686018427387904 ≤ n * S ∧ n * S ≤ 4611686018427387904) (w : World) :
    Calls Try.prog 32 #[gv la S h, .int .i64 n] w fun e w' => e = .returned (.int .i64 (n * S)) ∧ Below w.heap.size w w' := by
  obtain ⟨y0, y1, y2, y3⟩ := (GrAt.new w la S h).cells
  have HB := Lib.hid (Joins.below_alloc1 w (.cells #[.int .i64 la, .int .i64 S, .int .i64 h, gfn] 46))
  generalize hP : n * S = P at *
  obtain ⟨p0, p1⟩ := hp
  go_enter Try.func32, Try.ntmps32
  go_wp2_with fail
  go_ret
  exact ⟨rfl, HB.out⟩

theorem set_blk {w : World} {b : Nat} {C : Array Value} {T : TypeId} (h : w.heap[b]? = some (.cells C T (0, 0))) (i : Nat) (v : Value) : (w.setCell ⟨b, i, none⟩ v).heap[b]? = some (.cells (C.setIfInBounds i v) T (0, 0)) := by
  simp [World.setCell, Array.getElem?_modify, h]
/-- An epoch in a box. -/
def EpAt (w : World) (b : Nat) (p q : Int) : Prop := w.heap[b]? = some (.cells #[.int .i64 p, .int .i64 q] 53 (0, 0))
theorem EpAt.new (w : World) (p q : Int) : EpAt (w.alloc (.cells #[.int .i64 p, .int .i64 q] 53)) w.heap.size p q := heap_new w _
theorem EpAt.on {w w' : World} {b : Nat} {p q : Int} (hh : EpAt w b p q) (hb : Below w.heap.size w w') : EpAt w' b p q := (hb.block b (Array.getElem?_eq_some_iff.1 hh).1).trans hh
theorem EpAt.cells {w : World} {b : Nat} {p q : Int} (hh : EpAt w b p q) : w.cell? ⟨b, 0, none⟩ = some (.int .i64 p) ∧ w.cell? ⟨b, 1, none⟩ = some (.int .i64 q) := ⟨cell_of hh 0, cell_of hh 1⟩
theorem EpAt.frozen {w : World} {b : Nat} {p q : Int} (h : EpAt w b p q) (i : Nat) : w.frozen? ⟨b, i, none⟩ = false := by simp [World.frozen?, show w.heap[b]? = _ from h]
theorem EpAt.set {w : World} {b : Nat} {p q : Int} (h : EpAt w b p q) (p' q' : Int) : EpAt ((w.setCell ⟨b, 0, none⟩ (.int .i64 p')).setCell ⟨b, 1, none⟩ (.int .i64 q')) b p' q' := set_blk (set_blk h 0 (.int .i64 p')) 1 (.int .i64 q')

abbrev epv (p q : Int) : Value := .agg #[.int .i64 p, .int .i64 q]
set_option maxRecDepth 100000 in
theorem gepoch_any (la S h t : Int) (hS : 2 ≤ S ∧ S ≤ 20000) (hh : 0 ≤ h ∧ h ≤ 5000) (ht : -1099511627776 ≤ t ∧ t ≤ 1099511627776) (w : World) :
    Calls Try.prog 36 #[gv la S h, .int .i64 t] w fun e w' => e = .returned (epv ((t + h) / S) ((t + h) / S * S)) ∧ Below w.heap.size w w' := by
  have c1 := fun W => place_any la S h (t + h) hS (by omega) W
  obtain ⟨q1, q2⟩ := q_bound (t := t + h) (b := S) (by omega) hS.1
  obtain ⟨m0, m1⟩ := mul_near (t := t + h) (b := S) (by omega)
  rw [Int.mul_comm] at m0 m1
  have c2 := fun W => gbegin_any la S h ((t + h) / S) (by omega) W
  have hG := (GrAt.new w la S h).on (Joins.below_alloc1 _ (.cells #[.int .i64 0, .int .i64 0] 53))
  have HB := Lib.hid (Joins.below_alloc2 w (.cells #[.int .i64 la, .int .i64 S, .int .i64 h, gfn] 46) (.cells #[.int .i64 0, .int .i64 0] 53))
  obtain ⟨y0, y1, y2, y3⟩ := hG.cells
  generalize (t + h) / S * S = P at *
  generalize (t + h) / S = q at *
  generalize (t + h) % S = r at *
  have HG := Lib.hid hG; clear hG
  have HE := Lib.hid (EpAt.new (w.alloc (.cells #[.int .i64 la, .int .i64 S, .int .i64 h, gfn] 46)) 0 0)
  rw [World.size_alloc] at HE
  go_enter Try.func36, Try.ntmps36
  go_wp2_with fail; (with_reducible refine (c1 _).mono ?_); rintro e w1 ⟨rfl, b1⟩
  obtain ⟨z0, z1, z2, z3⟩ := (HG.out.on b1).cells
  have HB1 := Lib.hid (HB.out.trans (b1.mono HB.out.size))
  have HE1 := Lib.hid (HE.out.on b1); clear b1 y0 y1 y2 y3
  go_wp2_with fail; (with_reducible refine (c2 _).mono ?_); rintro e w2 ⟨rfl, b2⟩
  have HB2 := Lib.hid (HB1.out.trans (b2.mono HB1.out.size))
  have hE2 := HE1.out.on b2
  have HS := Lib.hid (hE2.set q P)
  have f0 := hE2.frozen 0
  have f1 := hE2.frozen 1
  obtain ⟨x0, x1⟩ := hE2.cells
  clear hE2 b2 z0 z1 z2 z3
  go_wp2_with fail
  obtain ⟨v0, v1⟩ := HS.out.cells
  exact bodyPost_ret (v := epv q P) (by simp [results, Try.results36, go_sem, v0, v1]) rfl ⟨rfl, (HB2.out.setCell (p := ⟨w.heap.size + 1, 0, none⟩) (by show w.heap.size ≤ w.heap.size + 1; omega) _).setCell (p := ⟨w.heap.size + 1, 1, none⟩) (by show w.heap.size ≤ w.heap.size + 1; omega) _⟩

theorem int_info : (Try.prog.info? 3).map (fun i => (i.zero, i.size, i.bytes)) = some (some (.int .i64 0), 1, 8) := by kernel_rfl
theorem eq_int (d : Nat) (n m : Int) (w : World) : (Op.equalIn (d + 1) 3 (.int .i64 n) (.int .i64 m)).run Try.prog w = .ok (n == m) w := by
  simp [Op.equalIn, run_underlying Try.underlying3]
theorem eq_arr (d : Nat) (b c n m : Int) (w : World) : (Op.equalIn (d + 2) 53 (epv b n) (epv c m)).run Try.prog w = .ok (b == c && n == m) w := by
  obtain ⟨i0, hi, hz0, hz1, hz2⟩ := info_parts int_info
  have hc : Try.prog.cellsOf 3 = 1 := by kernel_rfl
  rw [run_equalIn_array w (d + 1) _ _ Try.underlying53 hi, hc]
  have e1 := fun n m w => eq_int d n m w
  have ha : ∀ w, (isAgg 3).run Try.prog w = .ok false w := fun w => by simp [isAgg, run_underlying Try.underlying3]
  simp [Op.eqItems, part, ha, go_sem, e1, show List.range 2 = [0, 1] from rfl]
  by_cases h1 : b = c
  · by_cases h2 : n = m
    · simp [h1, h2]
    · simp [h1, h2]
  · simp [h1]
theorem eq_guard (op : BinOp) (x y : Operand) (b c n m : Int) (w : World) : (eqGuard op 53 x y (epv b n) (epv c m)).run Try.prog w = .ok () w := by
  have h : Try.prog.eqGuardType Try.prog.depth 53 = false := by kernel_rfl
  cases op <;> simp [eqGuard, h, go_sem]
theorem eql_agg (b c n m : Int) (w : World) : (binOp .eql 53 (epv b n) (epv c m)).run Try.prog w = .ok (.bool (b == c && n == m)) w := by
  show (do pure (Value.bool (← Op.equal 53 (epv b n) (epv c m))) : Sem Value).run Try.prog w = _
  rw [Sem.run_bind]
  show ((Op.equalIn (9998 + 2) 53 (epv b n) (epv c m)).run Try.prog w).andThen _ = _
  rw [eq_arr, Result.andThen_ok, Sem.run_pure]

set_option maxRecDepth 100000 in
theorem gorder_any (p q P Q : Int) (h : P = Q ↔ p = q) (w : World) :
    Calls Try.prog 39 #[epv p P, epv q Q] w fun e w' => e = .returned (.int .i64 (cmpI p q)) ∧ Below w.heap.size w w' := by
  have h1 := (EpAt.new w p P).on (Joins.below_alloc1 _ (.cells #[.int .i64 q, .int .i64 Q] 53))
  have h2 := EpAt.new (w.alloc (.cells #[.int .i64 p, .int .i64 P] 53)) q Q
  rw [World.size_alloc] at h2
  have HB := Lib.hid (Joins.below_alloc2 w (.cells #[.int .i64 p, .int .i64 P] 53) (.cells #[.int .i64 q, .int .i64 Q] 53))
  obtain ⟨y0, y1⟩ := h1.cells
  obtain ⟨z0, z1⟩ := h2.cells
  clear h1 h2
  have hg := fun x y W => eq_guard .eql x y p q P Q W
  have he := fun W => eql_agg p q P Q W
  have HC : Hid ((p < q → cmpI p q = -1) ∧ (q < p → cmpI p q = 1) ∧ (p = q → cmpI p q = 0)) := Lib.hid ⟨fun h => by unfold cmpI; rw [if_neg (by omega), if_pos h], fun h => by unfold cmpI; rw [if_neg (by omega), if_neg (by omega)], fun h => by unfold cmpI; rw [if_pos h]⟩
  generalize cmpI p q = C at *
  rcases Int.lt_trichotomy p q with h3 | h3 | h3
  · have HV := Lib.hid (HC.out.1 h3)
    rw [show (p == q && P == Q) = false from by rw [Bool.and_eq_false_iff]; left; rw [beq_eq_false_iff_ne]; omega] at he
    clear HC h
    go_enter Try.func39, Try.ntmps39
    go_wp2_with fail
    go_ret
    exact ⟨ret_i HV.out.symm, HB.out⟩
  · have HV := Lib.hid (HC.out.2.2 h3)
    have h4 := h.2 h3
    rw [show (p == q && P == Q) = true from by rw [Bool.and_eq_true, beq_iff_eq, beq_iff_eq]; exact ⟨h3, h4⟩] at he
    clear HC h h3 h4
    go_enter Try.func39, Try.ntmps39
    go_wp2_with fail
    go_ret
    exact ⟨ret_i HV.out.symm, HB.out⟩
  · have HV := Lib.hid (HC.out.2.1 h3)
    rw [show (p == q && P == Q) = false from by rw [Bool.and_eq_false_iff]; left; rw [beq_eq_false_iff_ne]; omega] at he
    have h5 : ¬ p < q := by omega
    clear HC h
    go_enter Try.func39, Try.ntmps39
    go_wp2_with fail
    go_ret
    exact ⟨ret_i HV.out.symm, HB.out⟩

end Go.Proofs.Ytlgbgkiajhcneaa

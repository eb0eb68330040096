/-
  Which of a sender's texts it is: pairs of numbers, compared; which is newer.
-/
import Derived.Test.YtggeojjiongbbaaFragMay
import Derived.Test.YtggeojjiongbbaaFragList
import Derived.Test.YtggeojjiongbbaaFragSame
namespace Go.Proofs.Ytggeojjiongbbaa
open Go.RowKit

theorem turned {f : FuncId} {args : Array Value} {w : World} {v : Value} (h : Calls Try.prog f args w fun e w' => e = .returned v ∧ w = w') : Calls Try.prog f args w fun e w' => e = .returned v ∧ w' = w := h.mono fun _ _ ⟨a, b⟩ => ⟨a, b.symm⟩
abbrev tv (a b : Int) : Value := .agg #[.int .i64 a, .int .i64 b]
def sameT (a b c d : Int) : Bool := a == c && b == d
set_option maxRecDepth 100000 in
theorem eqT_struct (d : Nat) (a b x y : Int) (w : World) : (Op.equalIn (d + 3) 74 (tv a b) (tv x y)).run Try.prog w = .ok (sameT a b x y) w := by
  rw [Op.equalIn]
  simp only [Sem.run_bind, run_underlying Try.underlying74, Result.andThen_ok]
  have e2 := fun w => eq_int (d + 1) a x w
  have e3 := fun w => eq_int (d + 1) b y w
  have hr : List.range' 0 2 = [0, 1] := rfl
  simp [go_sem, hr, List.forIn_cons, e2, e3]
  unfold sameT
  by_cases h1 : a = x <;> by_cases h2 : b = y <;> simp [h1, h2]
theorem eqT_guard (op : BinOp) (x y : Operand) (a b c d : Int) (w : World) : (eqGuard op 74 x y (tv a b) (tv c d)).run Try.prog w = .ok () w := by
  have h : Try.prog.eqGuardType Try.prog.depth 74 = false := by kernel_rfl
  cases op <;> simp [eqGuard, h, go_sem]

set_option maxRecDepth 100000 in
theorem eqlT (a b x y : Int) (w : World) : (binOp .eql 74 (tv a b) (tv x y)).run Try.prog w = .ok (.bool (sameT a b x y)) w := by
  show (do pure (Value.bool (← Op.equal 74 (tv a b) (tv x y))) : Sem Value).run Try.prog w = _
  rw [Sem.run_bind]
  show ((Op.equalIn (9997 + 3) 74 (tv a b) (tv x y)).run Try.prog w).andThen _ = _
  rw [eqT_struct, Result.andThen_ok, Sem.run_pure]
set_option maxRecDepth 100000 in
theorem neqT (a b x y : Int) (w : World) : (binOp .neq 74 (tv a b) (tv x y)).run Try.prog w = .ok (.bool (!sameT a b x y)) w := by
  show (do pure (Value.bool (!(← Op.equal 74 (tv a b) (tv x y)))) : Sem Value).run Try.prog w = _
  rw [Sem.run_bind]
  show ((Op.equalIn (9997 + 3) 74 (tv a b) (tv x y)).run Try.prog w).andThen _ = _
  rw [eqT_struct, Result.andThen_ok, Sem.run_pure]

theorem nan_any (a : Int) (w : World) : Calls Try.prog 59 #[.int .i64 a] w fun e w' => e = .returned (.bool false) ∧ w = w' := by
  go_enter Try.func59, Try.ntmps59
  go_wp2
  go_ret
  exact ⟨rfl, rfl⟩
def cmpI (a b : Int) : Int := if a < b then -1 else if b < a then 1 else 0
theorem cmpI_less {a b : Int} (h : a < b) : cmpI a b = -1 := if_pos h
theorem cmpI_more {a b : Int} (h : b < a) : cmpI a b = 1 := by unfold cmpI; rw [if_neg (by omega), if_pos h]
theorem cmpI_same (a : Int) : cmpI a a = 0 := by unfold cmpI; rw [if_neg (by omega), if_neg (by omega)]
theorem cmp_any (a b : Int) (w : World) : Calls Try.prog 56 #[.int .i64 a, .int .i64 b] w fun e w' => e = .returned (.int .i64 (cmpI a b)) ∧ w = w' := by
  rcases Int.lt_trichotomy a b with h | h | h
  · have hv := Lib.hid (cmpI_less h)
    go_enter Try.func56, Try.ntmps56
    go_wp2_with fail; refine (nan_any _ _).mono ?_; rintro e w1 ⟨rfl, rfl⟩
    go_wp2_with fail; refine (nan_any _ _).mono ?_; rintro e w1 ⟨rfl, rfl⟩
    go_wp2
    go_ret
    exact ⟨ret_i hv.out.symm, rfl⟩
  · subst h
    have hv := Lib.hid (cmpI_same a)
    go_enter Try.func56, Try.ntmps56
    go_wp2_with fail; refine (nan_any _ _).mono ?_; rintro e w1 ⟨rfl, rfl⟩
    go_wp2_with fail; refine (nan_any _ _).mono ?_; rintro e w1 ⟨rfl, rfl⟩
    go_wp2
    go_ret
    exact ⟨ret_i hv.out.symm, rfl⟩
  · have hv := Lib.hid (cmpI_more h)
    go_enter Try.func56, Try.ntmps56
    go_wp2_with fail; refine (nan_any _ _).mono ?_; rintro e w1 ⟨rfl, rfl⟩
    go_wp2_with fail; refine (nan_any _ _).mono ?_; rintro e w1 ⟨rfl, rfl⟩
    go_wp2
    go_ret
    exact ⟨ret_i hv.out.symm, rfl⟩

def cmpT (a b x y : Int) : Int := if a = x then cmpI b y else cmpI a x
def newerB (a b x y : Int) : Bool := decide (x < a) || (decide (a = x) && decide (y < b))
theorem newer_cmp (a b x y : Int) : newerB a b x y = decide (0 < cmpT a b x y) := by
  unfold newerB cmpT cmpI
  by_cases h : a = x
  · subst h
    rw [if_pos rfl]
    rcases Int.lt_trichotomy b y with h2 | h2 | h2
    · rw [if_pos h2]; simp; omega
    · rw [if_neg (by omega), if_neg (by omega)]; simp; omega
    · rw [if_neg (by omega), if_pos h2]; simp; omega
  · rw [if_neg h]
    rcases Int.lt_trichotomy a x with h2 | h2 | h2
    · rw [if_pos h2]; simp; omega
    · exact absurd h2 h
    · rw [if_neg (by omega), if_pos h2]; simp; omega
set_option maxRecDepth 100000 in
theorem compare_any (g h : Nat) (a b x y : Int) (w : World) (ha : w.cell? ⟨g, 0, none⟩ = some (.int .i64 a)) (hb : w.cell? ⟨g, 1, none⟩ = some (.int .i64 b)) (hx : w.cell? ⟨h, 0, none⟩ = some (.int .i64 x)) (hy : w.cell? ⟨h, 1, none⟩ = some (.int .i64 y)) :
    Calls Try.prog 53 #[.slice (some ⟨g, 0, none⟩) 2 2, .slice (some ⟨h, 0, none⟩) 2 2] w fun e w' => e = .returned (.int .i64 (cmpT a b x y)) ∧ w = w' := by
  have c1 := fun w => cmp_any a x w
  have c2 := fun w => cmp_any b y w
  by_cases h1 : a = x
  · have HV : Hid (cmpT a b x y = cmpI b y) := Lib.hid (by unfold cmpT; rw [if_pos h1])
    rw [show cmpI a x = 0 by rw [h1]; exact cmpI_same x] at c1
    clear h1
    go_enter Try.func53, Try.ntmps53
    go_wp2_with fail
    go_loopw [11] (fun ix wr => (ix = .int .i64 0 ∨ ix = .int .i64 1 ∨ (ix = .int .i64 2 ∧ cmpI b y = 0)) ∧ w = wr) (fun ix _ => 2 - (intOf ix).toNat)
    case atStart => exact ⟨.inl rfl, rfl⟩
    case round =>
      obtain ⟨rfl | rfl | ⟨rfl, h2⟩, rfl⟩ := hrel
      · clear c2
        go_wp2_with fail; refine (c1 _).mono ?_; rintro e w1 ⟨rfl, rfl⟩
        go_wp2_with fail
        go_roundw
        case rel => exact ⟨.inr (.inl rfl), trivial⟩
        case measure => simp [intOf]
      · by_cases h3 : cmpI b y = 0
        · rw [h3] at c2
          have H3 := Lib.hid h3; clear h3
          clear c1
          go_wp2_with fail; refine (c2 _).mono ?_; rintro e w1 ⟨rfl, rfl⟩
          go_wp2_with fail
          go_roundw
          case rel => exact ⟨.inr (.inr ⟨rfl, H3.out⟩), trivial⟩
          case measure => simp [intOf]
        · have h3' : ((cmpI b y : Int) != 0) = true := by simpa using h3
          clear h3
          clear c1
          go_wp2_with fail; refine (c2 _).mono ?_; rintro e w1 ⟨rfl, rfl⟩
          generalize cmpI b y = C at *
          go_wp2_with fail
          go_ret
          exact ⟨ret_i HV.out.symm, rfl⟩
      · rw [h2] at HV
        clear h2 c1 c2
        go_wp2_with fail
        go_ret
        exact ⟨ret_i HV.out.symm, rfl⟩
  · have HV : Hid (cmpT a b x y = cmpI a x) := Lib.hid (by unfold cmpT; rw [if_neg h1])
    have h3 : cmpI a x ≠ 0 := by
      unfold cmpI
      rcases Int.lt_trichotomy a x with h | h | h
      · rw [if_pos h]; decide
      · exact absurd h h1
      · rw [if_neg (by omega), if_pos h]; decide
    have h3' : ((cmpI a x : Int) != 0) = true := by simpa using h3
    clear h1 h3 c2
    go_enter Try.func53, Try.ntmps53
    go_wp2_with fail
    go_loopw [11] (fun ix wr => ix = .int .i64 0 ∧ w = wr) (fun ix _ => 2 - (intOf ix).toNat)
    case atStart => exact ⟨rfl, rfl⟩
    case round =>
      obtain ⟨rfl, rfl⟩ := hrel
      go_wp2_with fail; refine (c1 _).mono ?_; rintro e w1 ⟨rfl, rfl⟩
      generalize cmpI a x = C at *
      go_wp2_with fail
      go_ret
      exact ⟨ret_i HV.out.symm, rfl⟩

set_option maxRecDepth 100000 in
set_option maxHeartbeats 1000000 in
theorem newer_any (a b x y : Int) (w : World) : Calls Try.prog 44 #[tv a b, tv x y] w fun e w' => e = .returned (.bool (newerB a b x y)) ∧ Below w.heap.size w w' := by
  have hb1 := Joins.below_alloc1 w (.cells #[.int .i64 a, .int .i64 b] 74)
  have hb2 := hb1.trans ((Joins.below_alloc1 (w.alloc (.cells #[.int .i64 a, .int .i64 b] 74)) (.cells #[.int .i64 x, .int .i64 y] 74)).mono hb1.size)
  have HN : Hid (newerB a b x y = decide (0 < cmpT a b x y)) := Lib.hid (newer_cmp a b x y)
  have e1 : (w.alloc (.cells #[.int .i64 a, .int .i64 b] 74)).heap[w.heap.size]? = some (.cells #[.int .i64 a, .int .i64 b] 74 (0, 0)) := heap_alloc_new w _
  generalize hW1 : w.alloc (.cells #[.int .i64 a, .int .i64 b] 74) = W1 at *
  have hs1 : W1.heap.size = w.heap.size + 1 := by rw [← hW1]; simp
  have e2 : (W1.alloc (.cells #[.int .i64 x, .int .i64 y] 74)).heap[W1.heap.size]? = some (.cells #[.int .i64 x, .int .i64 y] 74 (0, 0)) := heap_alloc_new W1 _
  have e3 := ((Joins.below_alloc1 W1 (.cells #[.int .i64 x, .int .i64 y] 74)).block w.heap.size (by omega)).trans e1
  rw [hs1] at e2
  generalize hW2 : W1.alloc (.cells #[.int .i64 x, .int .i64 y] 74) = W2 at *
  have cc := fun n => compare_any w.heap.size (w.heap.size + 1) a b x y (W2.drewN n) ((cell_of e3 0).trans rfl) ((cell_of e3 1).trans rfl) ((cell_of e2 0).trans rfl) ((cell_of e2 1).trans rfl)
  have HB := Lib.hid hb2
  clear hb1 hb2 e1 e2 e3
  generalize newerB a b x y = R at *
  generalize cmpT a b x y = C at *
  go_enter Try.func44, Try.ntmps44
  go_wp2_with fail
  go_quiet ((go_at_call 53; exact Calls.quiet_of_same (turned (cc _))))
  go_wp2_with fail
  go_ret
  exact ⟨ret_b HN.out.symm, drew_on HB.out _⟩

end Go.Proofs.Ytggeojjiongbbaa

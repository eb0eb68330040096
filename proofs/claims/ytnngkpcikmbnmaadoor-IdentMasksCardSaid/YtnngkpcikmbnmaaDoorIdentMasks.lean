/-
  The walk of the law IdentMasks: what a filter lets through does not hang on the bits that are not in its Mask.
-/
import Derived.Test.YtnngkpcikmbnmaaDoorIdentAmong
import Derived.Deep.DeepCutAuto
namespace Go.Proofs.YtnngkpcikmbnmaaDoor
open Go.RowKit

/-- The bits of one number that another one lacks. -/
def lack (o m : Nat) : Nat := (BitVec.ofNat 64 o &&& ~~~(BitVec.ofNat 64 m)).toNat
theorem lack_bit (o m i : Nat) (ho : o < 2 ^ 29) : (lack o m).testBit i = (o.testBit i && !m.testBit i) := by
  unfold lack
  rw [← BitVec.getLsbD, BitVec.getLsbD_and, BitVec.getLsbD_not, BitVec.getLsbD_ofNat, BitVec.getLsbD_ofNat]
  by_cases h : i < 64
  · simp [h]
  · have : o.testBit i = false := Nat.testBit_lt_two_pow (Nat.lt_of_lt_of_le ho (Nat.pow_le_pow_right (by omega) (by omega)))
    simp [h, this]
theorem lack_lt (o m k : Nat) (hk : k ≤ 29) (ho : o < 2 ^ k) : lack o m < 2 ^ k := by
  apply Nat.lt_pow_two_of_testBit
  intro i hi
  rw [lack_bit o m i (Nat.lt_of_lt_of_le ho (Nat.pow_le_pow_right (by omega) hk)), Nat.testBit_lt_two_pow (Nat.lt_of_lt_of_le ho (Nat.pow_le_pow_right (by omega) hi)), Bool.false_and]
theorem i64_lack (o m : Nat) (ho : o < 2 ^ 29) : bits .andNot .i64 (o : Int) (m : Int) = ((lack o m : Nat) : Int) := by
  have h := lack_lt o m 29 (by omega) ho
  unfold bits
  simp only [ofInt_i64_nat]
  show IntKind.i64.wrap (((BitVec.ofNat 64 o &&& ~~~(BitVec.ofNat 64 m)).toNat : Nat) : Int) = _
  exact wrap_i64_small _ (by unfold lack at h; omega)

theorem mask_first (n c m o : Nat) (ho : o < 2 ^ 29) : (((n &&& m) ||| lack o m) ^^^ c) &&& m = (n ^^^ c) &&& m := by
  apply Nat.eq_of_testBit_eq
  intro i
  simp only [Nat.testBit_and, Nat.testBit_xor, Nat.testBit_or, lack_bit o m i ho]
  cases n.testBit i <;> cases m.testBit i <;> cases o.testBit i <;> cases c.testBit i <;> rfl
theorem mask_second (n c m o : Nat) (ho : o < 2 ^ 29) : (n ^^^ (c ^^^ lack o m)) &&& m = (n ^^^ c) &&& m := by
  apply Nat.eq_of_testBit_eq
  intro i
  simp only [Nat.testBit_and, Nat.testBit_xor, lack_bit o m i ho]
  cases n.testBit i <;> cases m.testBit i <;> cases o.testBit i <;> cases c.testBit i <;> rfl

/-- How many bits a kind has. -/
def places (b : Bool) : Nat := if b = true then 29 else 11
theorem lim_places (b : Bool) : lim b = ((2 ^ places b - 1 : Nat) : Int) := by cases b <;> rfl
theorem places_le (b : Bool) : places b ≤ 29 := by cases b <;> decide
theorem right_iff (b : Bool) (n : Nat) : rightI b (n : Int) = decide (n < 2 ^ places b) := by
  have hp : 0 < 2 ^ places b := Nat.pow_pos (by omega)
  unfold rightI
  rw [lim_places, decide_eq_true (by omega : (0 : Int) ≤ (n : Int)), Bool.true_and]
  apply decide_eq_decide.2
  omega

theorem alike_nat (n c m : Nat) : alike (n : Int) (c : Int) (m : Int) = ((n ^^^ c) &&& m == 0) := by
  unfold alike
  rw [Int.toNat_natCast, Int.toNat_natCast, Int.toNat_natCast]
theorem match_same (b : Bool) (c m n : Nat) (hc : c < 2 ^ places b) (hm : m < 2 ^ places b) (hn : n < 2 ^ places b) : matchI b (c : Int) (m : Int) b (n : Int) = ((n ^^^ c) &&& m == 0) := by
  unfold matchI fitsI
  rw [right_iff, right_iff, right_iff, decide_eq_true hc, decide_eq_true hm, decide_eq_true hn, beq_self_eq_true, alike_nat]
  simp

/-- What the law asks, of numbers of one kind. -/
theorem masks_facts (b : Bool) (n c m o : Nat) (hn : n < 2 ^ places b) (hc : c < 2 ^ places b) (hm : m < 2 ^ places b) (ho : o < 2 ^ places b) (B : Int) :
    matchI b c m b (((n &&& m) ||| lack o m : Nat) : Int) = matchI b c m b n ∧
    matchI b ((c ^^^ lack o m : Nat) : Int) m b n = matchI b c m b n ∧
    matchI b c 0 b n = true ∧ matchI b c (lim b) b n = ((n : Int) == (c : Int)) ∧ matchI b c 0 (!b) B = false ∧
    anyI b n [(b, (c : Int), lim b), (b, (c : Int), (m : Int))] = (((n : Int) == (c : Int)) || matchI b c m b n) := by
  have hp := places_le b
  have ho2 : o < 2 ^ 29 := Nat.lt_of_lt_of_le ho (Nat.pow_le_pow_right (by omega) hp)
  have hl := lack_lt o m (places b) hp ho
  have hpos : 0 < 2 ^ places b := Nat.pow_pos (by omega)
  have hj : (n &&& m) ||| lack o m < 2 ^ places b := Nat.or_lt_two_pow (Nat.and_lt_two_pow _ hm) hl
  have hg : c ^^^ lack o m < 2 ^ places b := Nat.xor_lt_two_pow hc hl
  have e5 : matchI b c (lim b) b n = ((n : Int) == (c : Int)) := by
    rw [lim_places, match_same b c _ n hc (by omega) hn, Nat.and_two_pow_sub_one_eq_mod, Nat.mod_eq_of_lt (Nat.xor_lt_two_pow hn hc), Bool.eq_iff_iff, beq_iff_eq, beq_iff_eq]
    constructor
    · intro h
      have : n = c := by
        apply Nat.eq_of_testBit_eq
        intro i
        have := congrArg (fun x => Nat.testBit x i) h
        simp only [Nat.testBit_xor, Nat.zero_testBit] at this
        cases h1 : n.testBit i <;> cases h2 : c.testBit i <;> simp_all
      rw [this]
    · intro h
      have : n = c := by omega
      rw [this, Nat.xor_self]
  refine ⟨?_, ?_, ?_, e5, ?_, ?_⟩
  · rw [match_same b c m _ hc hm hj, match_same b c m n hc hm hn, mask_first n c m o ho2]
  · rw [match_same b _ m n hg hm hn, match_same b c m n hc hm hn, mask_second n c m o ho2]
  · have h := match_same b c 0 n hc hpos hn
    rw [Nat.and_zero] at h
    exact h
  · unfold matchI
    have : (b == !b) = false := by cases b <;> rfl
    rw [this, Bool.false_and, Bool.and_false, Bool.and_false]
  · unfold anyI
    show (matchI b c (lim b) b n || (matchI b c m b n || false)) = _
    rw [e5, Bool.or_false]

theorem lie_two (w : World) (b1 : Bool) (c1 m1 : Int) (b2 : Bool) (c2 m2 : Int) (t : TypeId) :
    LieIn (w.alloc (.cells #[.bool b1, .int .i64 c1, .int .i64 m1, .bool b2, .int .i64 c2, .int .i64 m2] t)) (some ⟨w.heap.size, 0, none⟩) [(b1, c1, m1), (b2, c2, m2)] := by
  have hrow := fun o => cell_of_row (w.alloc (.cells #[.bool b1, .int .i64 c1, .int .i64 m1, .bool b2, .int .i64 c2, .int .i64 m2] t)) w.heap.size o _ t (0, 0) (heap_alloc_new w _)
  refine .inr ⟨_, rfl, by simp, fun i f hf => ?_⟩
  match i, hf with
  | 0, hf =>
    obtain rfl : (b1, c1, m1) = f := by simpa using hf
    exact ⟨hrow 0, hrow 1, hrow 2⟩
  | 1, hf =>
    obtain rfl : (b2, c2, m2) = f := by simpa using hf
    exact ⟨hrow 3, hrow 4, hrow 5⟩
  | k + 2, hf => simp at hf

theorem Three.new3 (w : World) (o o' o'' : Obj) (x y z : Value) (t : TypeId) : Three ((((w.alloc o).alloc o').alloc o'').alloc (.cells #[x, y, z] t)) (w.heap.size + 1 + 1 + 1) x y z := by
  have h := Three.new (((w.alloc o).alloc o').alloc o'') x y z t
  rwa [show (((w.alloc o).alloc o').alloc o'').heap.size = w.heap.size + 1 + 1 + 1 from by simp] at h
theorem Three.new2 (w : World) (o o' : Obj) (x y z : Value) (t : TypeId) : Three (((w.alloc o).alloc o').alloc (.cells #[x, y, z] t)) (w.heap.size + 1 + 1) x y z := by
  have h := Three.new ((w.alloc o).alloc o') x y z t
  rwa [show ((w.alloc o).alloc o').heap.size = w.heap.size + 1 + 1 from by simp] at h
theorem Two.new4 (w : World) (o o' o'' o3 : Obj) (b : Bool) (n : Int) (t : TypeId) : Two (((((w.alloc o).alloc o').alloc o'').alloc o3).alloc (.cells #[.bool b, .int .i64 n] t)) (w.heap.size + 1 + 1 + 1 + 1) b n := by
  have h := Two.new ((((w.alloc o).alloc o').alloc o'').alloc o3) b n t
  rwa [show ((((w.alloc o).alloc o').alloc o'').alloc o3).heap.size = w.heap.size + 1 + 1 + 1 + 1 from by simp] at h

theorem run_field1 (b : Bool) (n : Int) (w : World) : (Instr.field 23 (.agg #[.bool b, .int .i64 n]) 1).run Tryd.prog w = .ok (.int .i64 n) w := by kernel_rfl

set_option maxHeartbeats 40000000 in
set_option maxRecDepth 100000 in
theorem identMasks_walk (a0 : Bool) (a1 a2 a3 a4 : Int) (w1 : (Lit.int .i64 a1).wf = true) (w2 : (Lit.int .i64 a2).wf = true) (w3 : (Lit.int .i64 a3).wf = true) (w4 : (Lit.int .i64 a4).wf = true) (w : World) (L : Laid w) :
    Calls Tryd.prog 6 #[.bool a0, .int .i64 a1, .int .i64 a2, .int .i64 a3, .int .i64 a4] w fun e w' => e = .returned (.bool true) ∧ Below w.heap.size w w' := by
  have k1 := fun w => ident_any a3 w3 a0 w
  have k2 := fun w => ident_any a1 w1 a0 w
  have k3 := fun w => ident_any a2 w2 a0 w
  have k4 := fun w => ident_any a4 w4 a0 w
  obtain ⟨n, hn, rn⟩ : ∃ n : Nat, idN a3 a0 = (n : Int) ∧ rightI a0 (n : Int) = true := by
    have h := idN_right a3 a0
    obtain ⟨n, e, _⟩ := right_nat h
    exact ⟨n, e, by rw [← e]; exact h⟩
  obtain ⟨c, hc, rc⟩ : ∃ n : Nat, idN a1 a0 = (n : Int) ∧ rightI a0 (n : Int) = true := by
    have h := idN_right a1 a0
    obtain ⟨n, e, _⟩ := right_nat h
    exact ⟨n, e, by rw [← e]; exact h⟩
  obtain ⟨m, hm, rm⟩ : ∃ n : Nat, idN a2 a0 = (n : Int) ∧ rightI a0 (n : Int) = true := by
    have h := idN_right a2 a0
    obtain ⟨n, e, _⟩ := right_nat h
    exact ⟨n, e, by rw [← e]; exact h⟩
  obtain ⟨o, ho, ro⟩ : ∃ n : Nat, idN a4 a0 = (n : Int) ∧ rightI a0 (n : Int) = true := by
    have h := idN_right a4 a0
    obtain ⟨n, e, _⟩ := right_nat h
    exact ⟨n, e, by rw [← e]; exact h⟩
  rw [hn] at k1
  rw [hc] at k2
  rw [hm] at k3
  rw [ho] at k4
  rw [right_iff] at rn rc rm ro
  replace rn := of_decide_eq_true rn
  replace rc := of_decide_eq_true rc
  replace rm := of_decide_eq_true rm
  replace ro := of_decide_eq_true ro
  have hp : 2 ^ places a0 ≤ 536870912 := Nat.pow_le_pow_right (n := 2) (by omega) (places_le a0)
  have hf := fun B => masks_facts a0 n c m o rn rc rm ro B
  have e1 := i64_lack o m (by omega)
  have e2 := i64_and_nat n m (by omega) (by omega)
  have hlk : lack o m < 2 ^ 29 := lack_lt o m 29 (by omega) (by omega)
  have e3 := i64_or_nat (n &&& m) (lack o m) (Nat.lt_of_le_of_lt Nat.and_le_left (by omega)) (by omega)
  have e4 := i64_xor_nat c (lack o m) (by omega) (by omega)
  have e5 := i64_and_nat n 2047 (by omega) (by omega)
  have e6 : ((2047 : Nat) : Int) = 2047 := rfl
  rw [e6] at e5
  clear e6 hn hc hm ho rn rc rm ro hp hlk w1 w2 w3 w4
  generalize lack o m = FR at hf e1 e3 e4
  generalize (n &&& m) ||| FR = J at hf e3
  generalize n &&& m = AM at e2 e3
  generalize c ^^^ FR = G at hf e4
  generalize n &&& 2047 = BK at e5
  have hf := hf (BK : Int)
  obtain ⟨f1, f2, f3, f4, f5, f6⟩ := hf
  have c1 := fun w L => match_any a0 c m a0 n w L
  have c2 := fun w L => match_any a0 c m a0 J w L
  have c3 := fun w L => match_any a0 G m a0 n w L
  have c4 := fun w L => match_any a0 c 0 a0 n w L
  have c5 := fun w L => match_any a0 c (lim a0) a0 n w L
  have c6 := fun w L => match_any a0 c 0 (!a0) BK w L
  have c7 : ∀ (A : Option Addr) (w : World), Laid w → LieIn w A [(a0, (c : Int), lim a0), (a0, (c : Int), (m : Int))] → Calls Tryd.prog 26 #[.agg #[.bool a0, .int .i64 (n : Int)], .slice A 2 2] w fun e w' => e = .returned (.bool (anyI a0 n [(a0, (c : Int), lim a0), (a0, (c : Int), (m : Int))])) ∧ Below w.heap.size w w' :=
    fun A w L hl => any_any a0 n A 2 [(a0, (c : Int), lim a0), (a0, (c : Int), (m : Int))] w L hl (Nat.le_of_ble_eq_true rfl)
  rw [f1] at c2
  rw [f2] at c3
  rw [f3] at c4
  rw [f4] at c5
  rw [f5] at c6
  rw [f6] at c7
  clear f1 f2 f3 f4 f5 f6
  generalize matchI a0 c m a0 n = m1 at c1 c2 c3 c7
  obtain ⟨LIM, hLIM⟩ : ∃ x, x = lim a0 := ⟨_, rfl⟩
  rw [← hLIM] at c5 c7
  have HLIM := Lib.hid hLIM; clear hLIM
  obtain ⟨m5, h5⟩ : ∃ x, x = ((n : Int) == (c : Int)) := ⟨_, rfl⟩
  rw [← h5] at c5 c7
  have H5 := Lib.hid h5; clear h5
  have K1 := Lib.hid k1; clear k1
  have K2 := Lib.hid k2; clear k2
  have K3 := Lib.hid k3; clear k3
  have K4 := Lib.hid k4; clear k4
  have C1 := Lib.hid c1; clear c1
  have C2 := Lib.hid c2; clear c2
  have C3 := Lib.hid c3; clear c3
  have C4 := Lib.hid c4; clear c4
  have C5 := Lib.hid c5; clear c5
  have C6 := Lib.hid c6; clear c6
  have C7 := Lib.hid c7; clear c7
  have E1 := Lib.hid e1; clear e1
  have E2 := Lib.hid e2; clear e2
  have E3 := Lib.hid e3; clear e3
  have E4 := Lib.hid e4; clear e4
  have E5 := Lib.hid e5; clear e5
  have rf := run_field1
  go_enter Tryd.func6, Tryd.ntmps6
  go_wp2_with fail
  refine (awake_any _ L).mono ?_
  rintro e w0 ⟨rfl, hW⟩
  have L0 := L.below hW
  go_wp2_with fail
  refine (K1.out _).mono ?_
  rintro e w1 ⟨rfl, hb⟩
  have XI := Two.new w1 a0 (n : Int) 23
  replace L0 := (L0.below hb).alloc (.cells #[.bool a0, .int .i64 (n : Int)] 23)
  replace hW := below_new (below_trans hW hb) (.cells #[.bool a0, .int .i64 (n : Int)] 23)
  clear hb
  go_upto_if 25 with fail
  generalize hE : w1.alloc (.cells #[.bool a0, .int .i64 (n : Int)] 23) = WE at *
  clear hE
  go_cut [13] (fun s wx => s = .int .i64 LIM ∧ wx = WE)
  case first =>
    have hl := HLIM.out
    cases a0
    · obtain rfl : LIM = 2047 := hl
      go_wp2_with fail
      go_meet
      exact ⟨rfl, rfl⟩
    · obtain rfl : LIM = 536870911 := hl
      go_wp2_with fail
      go_meet
      exact ⟨rfl, rfl⟩
  case rest =>
  obtain ⟨rfl, hwx⟩ := hcut
  subst hwx
  go_wp2_with fail
  refine (K2.out _).mono ?_
  rintro e w2 ⟨rfl, hb2⟩
  go_wp2_with fail
  refine (K3.out _).mono ?_
  rintro e w3 ⟨rfl, hb3⟩
  replace XI := ((XI.below hb2).below hb3).alloc (.cells #[.bool a0, .int .i64 (c : Int), .int .i64 (m : Int)] 40)
  replace L0 := ((L0.below hb2).below hb3).alloc (.cells #[.bool a0, .int .i64 (c : Int), .int .i64 (m : Int)] 40)
  replace hW := below_new (below_trans (below_trans hW hb2) hb3) (.cells #[.bool a0, .int .i64 (c : Int), .int .i64 (m : Int)] 40)
  have XF := Three.new w3 (.bool a0) (.int .i64 (c : Int)) (.int .i64 (m : Int)) 40
  clear hb2 hb3
  go_upto_region 7 with fail
  obtain ⟨p3, hp3⟩ : ∃ x, x = w3.heap.size := ⟨_, rfl⟩
  rw [← hp3] at XF ⊢
  generalize hE : w3.alloc (.cells #[.bool a0, .int .i64 (c : Int), .int .i64 (m : Int)] 40) = WF at *
  clear hE hp3
  have HSF : Hid (∀ w', Below WF.heap.size WF w' → (w'.cell? ⟨p3, 0, none⟩ = some (.bool a0) ∧ w'.cell? ⟨p3, 1, none⟩ = some (.int .i64 (c : Int)) ∧ w'.cell? ⟨p3, 2, none⟩ = some (.int .i64 (m : Int)) ∧ Below WF.heap.size WF w')) :=
    Lib.hid fun w' hb => ⟨(XF.below hb).2.1, (XF.below hb).2.2.1, (XF.below hb).2.2.2, hb⟩
  have HSG : Hid (∀ w' w'', (w'.cell? ⟨p3, 0, none⟩ = some (.bool a0) ∧ w'.cell? ⟨p3, 1, none⟩ = some (.int .i64 (c : Int)) ∧ w'.cell? ⟨p3, 2, none⟩ = some (.int .i64 (m : Int)) ∧ Below WF.heap.size WF w') → Below w'.heap.size w' w'' → (w''.cell? ⟨p3, 0, none⟩ = some (.bool a0) ∧ w''.cell? ⟨p3, 1, none⟩ = some (.int .i64 (c : Int)) ∧ w''.cell? ⟨p3, 2, none⟩ = some (.int .i64 (m : Int)) ∧ Below WF.heap.size WF w'')) :=
    Lib.hid fun w' w'' h hb => HSF.out w'' (below_trans h.2.2.2 hb)
  have g1 := E1.out
  go_region_held3 (fun w' => w'.cell? ⟨p3, 0, none⟩ = some (.bool a0) ∧ w'.cell? ⟨p3, 1, none⟩ = some (.int .i64 (c : Int)) ∧ w'.cell? ⟨p3, 2, none⟩ = some (.int .i64 (m : Int)) ∧ Below WF.heap.size WF w') (first | assumption | exact HSF.out _ (Below.refl _ _).drew | exact HSG.out _ _ (by assumption) (by assumption)) (first | (go_at_call 28; refine (K4.out _).mono ?_; rintro e w4 ⟨rfl, hb4⟩))
  have hb5 : Below WF.heap.size WF w4 := ((Below.refl _ _).drew).trans hb4
  have YI := XI.below hb5
  have YF := XF.below hb5
  replace L0 := L0.below hb5
  replace hW := below_trans hW hb5
  clear hb4 hb5 HSF HSG g1 XI XF K1 K2 K3 K4
  have g2 := E2.out
  have g3 := E3.out
  have g4 := E4.out
  have g5 := E5.out
  obtain ⟨si, qi0, qi1⟩ := id YI
  obtain ⟨sf, qf0, qf1, qf2⟩ := id YF
  go_upto_region 9 with fail
  clear si qi0 qi1 sf qf0 qf1 qf2
  replace YI := YI.alloc (.cells #[.bool a0, .int .i64 (J : Int)] 23)
  replace YF := YF.alloc (.cells #[.bool a0, .int .i64 (J : Int)] 23)
  have YJ := Two.new w4 a0 (J : Int) 23
  replace L0 := L0.alloc (.cells #[.bool a0, .int .i64 (J : Int)] 23)
  replace hW := below_new hW (.cells #[.bool a0, .int .i64 (J : Int)] 23)
  obtain ⟨pj, hp⟩ : ∃ x, x = w4.heap.size := ⟨_, rfl⟩
  rw [← hp] at YJ ⊢
  generalize hE : w4.alloc (.cells #[.bool a0, .int .i64 (J : Int)] 23) = V1 at *
  clear hE hp
  obtain ⟨si, qi0, qi1⟩ := id YI
  obtain ⟨sf, qf0, qf1, qf2⟩ := id YF
  go_upto_region 10 with fail
  clear si qi0 qi1 sf qf0 qf1 qf2
  replace YI := YI.alloc (.cells #[.bool a0, .int .i64 (G : Int), .int .i64 (m : Int)] 40)
  replace YF := YF.alloc (.cells #[.bool a0, .int .i64 (G : Int), .int .i64 (m : Int)] 40)
  replace YJ := YJ.alloc (.cells #[.bool a0, .int .i64 (G : Int), .int .i64 (m : Int)] 40)
  have YG := Three.new V1 (.bool a0) (.int .i64 (G : Int)) (.int .i64 (m : Int)) 40
  replace L0 := L0.alloc (.cells #[.bool a0, .int .i64 (G : Int), .int .i64 (m : Int)] 40)
  replace hW := below_new hW (.cells #[.bool a0, .int .i64 (G : Int), .int .i64 (m : Int)] 40)
  obtain ⟨pg, hp⟩ : ∃ x, x = V1.heap.size := ⟨_, rfl⟩
  rw [← hp] at YG ⊢
  generalize hE : V1.alloc (.cells #[.bool a0, .int .i64 (G : Int), .int .i64 (m : Int)] 40) = V2 at *
  clear hE hp
  obtain ⟨si, qi0, qi1⟩ := id YI
  obtain ⟨sf, qf0, qf1, qf2⟩ := id YF
  go_upto_region 11 with fail
  clear si qi0 qi1 sf qf0 qf1 qf2
  replace YI := YI.alloc (.cells #[.bool a0, .int .i64 (c : Int), .int .i64 0] 40)
  replace YF := YF.alloc (.cells #[.bool a0, .int .i64 (c : Int), .int .i64 0] 40)
  replace YJ := YJ.alloc (.cells #[.bool a0, .int .i64 (c : Int), .int .i64 0] 40)
  replace YG := YG.alloc (.cells #[.bool a0, .int .i64 (c : Int), .int .i64 0] 40)
  have YN := Three.new V2 (.bool a0) (.int .i64 (c : Int)) (.int .i64 0) 40
  replace L0 := L0.alloc (.cells #[.bool a0, .int .i64 (c : Int), .int .i64 0] 40)
  replace hW := below_new hW (.cells #[.bool a0, .int .i64 (c : Int), .int .i64 0] 40)
  obtain ⟨pn, hp⟩ : ∃ x, x = V2.heap.size := ⟨_, rfl⟩
  rw [← hp] at YN ⊢
  generalize hE : V2.alloc (.cells #[.bool a0, .int .i64 (c : Int), .int .i64 0] 40) = V3 at *
  clear hE hp
  obtain ⟨si, qi0, qi1⟩ := id YI
  obtain ⟨sf, qf0, qf1, qf2⟩ := id YF
  go_upto_region 12 with fail
  clear si qi0 qi1 sf qf0 qf1 qf2
  replace YI := YI.alloc (.cells #[.bool a0, .int .i64 (c : Int), .int .i64 LIM] 40)
  replace YF := YF.alloc (.cells #[.bool a0, .int .i64 (c : Int), .int .i64 LIM] 40)
  replace YJ := YJ.alloc (.cells #[.bool a0, .int .i64 (c : Int), .int .i64 LIM] 40)
  replace YG := YG.alloc (.cells #[.bool a0, .int .i64 (c : Int), .int .i64 LIM] 40)
  replace YN := YN.alloc (.cells #[.bool a0, .int .i64 (c : Int), .int .i64 LIM] 40)
  have YO := Three.new V3 (.bool a0) (.int .i64 (c : Int)) (.int .i64 LIM) 40
  replace L0 := L0.alloc (.cells #[.bool a0, .int .i64 (c : Int), .int .i64 LIM] 40)
  replace hW := below_new hW (.cells #[.bool a0, .int .i64 (c : Int), .int .i64 LIM] 40)
  obtain ⟨po, hp⟩ : ∃ x, x = V3.heap.size := ⟨_, rfl⟩
  rw [← hp] at YO ⊢
  generalize hE : V3.alloc (.cells #[.bool a0, .int .i64 (c : Int), .int .i64 LIM] 40) = V4 at *
  clear hE hp
  obtain ⟨si, qi0, qi1⟩ := id YI
  obtain ⟨sf, qf0, qf1, qf2⟩ := id YF
  go_upto_region 13 with fail
  clear si qi0 qi1 sf qf0 qf1 qf2
  replace YI := YI.alloc (.cells #[.bool (!a0), .int .i64 (BK : Int)] 23)
  replace YF := YF.alloc (.cells #[.bool (!a0), .int .i64 (BK : Int)] 23)
  replace YJ := YJ.alloc (.cells #[.bool (!a0), .int .i64 (BK : Int)] 23)
  replace YG := YG.alloc (.cells #[.bool (!a0), .int .i64 (BK : Int)] 23)
  replace YN := YN.alloc (.cells #[.bool (!a0), .int .i64 (BK : Int)] 23)
  replace YO := YO.alloc (.cells #[.bool (!a0), .int .i64 (BK : Int)] 23)
  have YB := Two.new V4 (!a0) (BK : Int) 23
  replace L0 := L0.alloc (.cells #[.bool (!a0), .int .i64 (BK : Int)] 23)
  replace hW := below_new hW (.cells #[.bool (!a0), .int .i64 (BK : Int)] 23)
  obtain ⟨pb, hp⟩ : ∃ x, x = V4.heap.size := ⟨_, rfl⟩
  rw [← hp] at YB ⊢
  generalize hE : V4.alloc (.cells #[.bool (!a0), .int .i64 (BK : Int)] 23) = V5 at *
  clear hE hp
  have HST : Hid (∀ w', Below V5.heap.size V5 w' → (w'.cell? ⟨w1.heap.size, 0, none⟩ = some (.bool a0) ∧ w'.cell? ⟨w1.heap.size, 1, none⟩ = some (.int .i64 (n : Int)) ∧ w'.cell? ⟨p3, 0, none⟩ = some (.bool a0) ∧ w'.cell? ⟨p3, 1, none⟩ = some (.int .i64 (c : Int)) ∧ w'.cell? ⟨p3, 2, none⟩ = some (.int .i64 (m : Int)) ∧ w'.cell? ⟨pj, 0, none⟩ = some (.bool a0) ∧ w'.cell? ⟨pj, 1, none⟩ = some (.int .i64 (J : Int)) ∧ w'.cell? ⟨pg, 0, none⟩ = some (.bool a0) ∧ w'.cell? ⟨pg, 1, none⟩ = some (.int .i64 (G : Int)) ∧ w'.cell? ⟨pg, 2, none⟩ = some (.int .i64 (m : Int)) ∧ w'.cell? ⟨pn, 0, none⟩ = some (.bool a0) ∧ w'.cell? ⟨pn, 1, none⟩ = some (.int .i64 (c : Int)) ∧ w'.cell? ⟨pn, 2, none⟩ = some (.int .i64 0) ∧ w'.cell? ⟨po, 0, none⟩ = some (.bool a0) ∧ w'.cell? ⟨po, 1, none⟩ = some (.int .i64 (c : Int)) ∧ w'.cell? ⟨po, 2, none⟩ = some (.int .i64 LIM) ∧ w'.cell? ⟨pb, 0, none⟩ = some (.bool (!a0)) ∧ w'.cell? ⟨pb, 1, none⟩ = some (.int .i64 (BK : Int)) ∧ Below V5.heap.size V5 w')) := by
    apply Lib.hid
    intro w' hb
    exact ⟨(YI.below hb).2.1, (YI.below hb).2.2, (YF.below hb).2.1, (YF.below hb).2.2.1, (YF.below hb).2.2.2, (YJ.below hb).2.1, (YJ.below hb).2.2, (YG.below hb).2.1, (YG.below hb).2.2.1, (YG.below hb).2.2.2, (YN.below hb).2.1, (YN.below hb).2.2.1, (YN.below hb).2.2.2, (YO.below hb).2.1, (YO.below hb).2.2.1, (YO.below hb).2.2.2, (YB.below hb).2.1, (YB.below hb).2.2, hb⟩
  have HSL : Hid (∀ w', (w'.cell? ⟨w1.heap.size, 0, none⟩ = some (.bool a0) ∧ w'.cell? ⟨w1.heap.size, 1, none⟩ = some (.int .i64 (n : Int)) ∧ w'.cell? ⟨p3, 0, none⟩ = some (.bool a0) ∧ w'.cell? ⟨p3, 1, none⟩ = some (.int .i64 (c : Int)) ∧ w'.cell? ⟨p3, 2, none⟩ = some (.int .i64 (m : Int)) ∧ w'.cell? ⟨pj, 0, none⟩ = some (.bool a0) ∧ w'.cell? ⟨pj, 1, none⟩ = some (.int .i64 (J : Int)) ∧ w'.cell? ⟨pg, 0, none⟩ = some (.bool a0) ∧ w'.cell? ⟨pg, 1, none⟩ = some (.int .i64 (G : Int)) ∧ w'.cell? ⟨pg, 2, none⟩ = some (.int .i64 (m : Int)) ∧ w'.cell? ⟨pn, 0, none⟩ = some (.bool a0) ∧ w'.cell? ⟨pn, 1, none⟩ = some (.int .i64 (c : Int)) ∧ w'.cell? ⟨pn, 2, none⟩ = some (.int .i64 0) ∧ w'.cell? ⟨po, 0, none⟩ = some (.bool a0) ∧ w'.cell? ⟨po, 1, none⟩ = some (.int .i64 (c : Int)) ∧ w'.cell? ⟨po, 2, none⟩ = some (.int .i64 LIM) ∧ w'.cell? ⟨pb, 0, none⟩ = some (.bool (!a0)) ∧ w'.cell? ⟨pb, 1, none⟩ = some (.int .i64 (BK : Int)) ∧ Below V5.heap.size V5 w') → Below V5.heap.size V5 w') := Lib.hid fun w' h => h.2.2.2.2.2.2.2.2.2.2.2.2.2.2.2.2.2.2
  have HST2 : Hid (∀ w' w'', (w'.cell? ⟨w1.heap.size, 0, none⟩ = some (.bool a0) ∧ w'.cell? ⟨w1.heap.size, 1, none⟩ = some (.int .i64 (n : Int)) ∧ w'.cell? ⟨p3, 0, none⟩ = some (.bool a0) ∧ w'.cell? ⟨p3, 1, none⟩ = some (.int .i64 (c : Int)) ∧ w'.cell? ⟨p3, 2, none⟩ = some (.int .i64 (m : Int)) ∧ w'.cell? ⟨pj, 0, none⟩ = some (.bool a0) ∧ w'.cell? ⟨pj, 1, none⟩ = some (.int .i64 (J : Int)) ∧ w'.cell? ⟨pg, 0, none⟩ = some (.bool a0) ∧ w'.cell? ⟨pg, 1, none⟩ = some (.int .i64 (G : Int)) ∧ w'.cell? ⟨pg, 2, none⟩ = some (.int .i64 (m : Int)) ∧ w'.cell? ⟨pn, 0, none⟩ = some (.bool a0) ∧ w'.cell? ⟨pn, 1, none⟩ = some (.int .i64 (c : Int)) ∧ w'.cell? ⟨pn, 2, none⟩ = some (.int .i64 0) ∧ w'.cell? ⟨po, 0, none⟩ = some (.bool a0) ∧ w'.cell? ⟨po, 1, none⟩ = some (.int .i64 (c : Int)) ∧ w'.cell? ⟨po, 2, none⟩ = some (.int .i64 LIM) ∧ w'.cell? ⟨pb, 0, none⟩ = some (.bool (!a0)) ∧ w'.cell? ⟨pb, 1, none⟩ = some (.int .i64 (BK : Int)) ∧ Below V5.heap.size V5 w') → Below w'.heap.size w' w'' → (w''.cell? ⟨w1.heap.size, 0, none⟩ = some (.bool a0) ∧ w''.cell? ⟨w1.heap.size, 1, none⟩ = some (.int .i64 (n : Int)) ∧ w''.cell? ⟨p3, 0, none⟩ = some (.bool a0) ∧ w''.cell? ⟨p3, 1, none⟩ = some (.int .i64 (c : Int)) ∧ w''.cell? ⟨p3, 2, none⟩ = some (.int .i64 (m : Int)) ∧ w''.cell? ⟨pj, 0, none⟩ = some (.bool a0) ∧ w''.cell? ⟨pj, 1, none⟩ = some (.int .i64 (J : Int)) ∧ w''.cell? ⟨pg, 0, none⟩ = some (.bool a0) ∧ w''.cell? ⟨pg, 1, none⟩ = some (.int .i64 (G : Int)) ∧ w''.cell? ⟨pg, 2, none⟩ = some (.int .i64 (m : Int)) ∧ w''.cell? ⟨pn, 0, none⟩ = some (.bool a0) ∧ w''.cell? ⟨pn, 1, none⟩ = some (.int .i64 (c : Int)) ∧ w''.cell? ⟨pn, 2, none⟩ = some (.int .i64 0) ∧ w''.cell? ⟨po, 0, none⟩ = some (.bool a0) ∧ w''.cell? ⟨po, 1, none⟩ = some (.int .i64 (c : Int)) ∧ w''.cell? ⟨po, 2, none⟩ = some (.int .i64 LIM) ∧ w''.cell? ⟨pb, 0, none⟩ = some (.bool (!a0)) ∧ w''.cell? ⟨pb, 1, none⟩ = some (.int .i64 (BK : Int)) ∧ Below V5.heap.size V5 w'')) := Lib.hid fun w' w'' h hb => HST.out w'' (below_trans (HSL.out w' h) hb)
  have HLD : Hid (∀ w', (w'.cell? ⟨w1.heap.size, 0, none⟩ = some (.bool a0) ∧ w'.cell? ⟨w1.heap.size, 1, none⟩ = some (.int .i64 (n : Int)) ∧ w'.cell? ⟨p3, 0, none⟩ = some (.bool a0) ∧ w'.cell? ⟨p3, 1, none⟩ = some (.int .i64 (c : Int)) ∧ w'.cell? ⟨p3, 2, none⟩ = some (.int .i64 (m : Int)) ∧ w'.cell? ⟨pj, 0, none⟩ = some (.bool a0) ∧ w'.cell? ⟨pj, 1, none⟩ = some (.int .i64 (J : Int)) ∧ w'.cell? ⟨pg, 0, none⟩ = some (.bool a0) ∧ w'.cell? ⟨pg, 1, none⟩ = some (.int .i64 (G : Int)) ∧ w'.cell? ⟨pg, 2, none⟩ = some (.int .i64 (m : Int)) ∧ w'.cell? ⟨pn, 0, none⟩ = some (.bool a0) ∧ w'.cell? ⟨pn, 1, none⟩ = some (.int .i64 (c : Int)) ∧ w'.cell? ⟨pn, 2, none⟩ = some (.int .i64 0) ∧ w'.cell? ⟨po, 0, none⟩ = some (.bool a0) ∧ w'.cell? ⟨po, 1, none⟩ = some (.int .i64 (c : Int)) ∧ w'.cell? ⟨po, 2, none⟩ = some (.int .i64 LIM) ∧ w'.cell? ⟨pb, 0, none⟩ = some (.bool (!a0)) ∧ w'.cell? ⟨pb, 1, none⟩ = some (.int .i64 (BK : Int)) ∧ Below V5.heap.size V5 w') → Laid w') := Lib.hid fun w' h => L0.below (HSL.out w' h)
  clear YI YF YJ YG YN YO YB g2 g3 g4 g5 HLIM E1 E2 E3 E4 E5 rf L L0
  cases m5
  · have h6 : ((n : Int) == (c : Int)) = false := H5.out.symm
    clear H5
    have C8 : Hid (∀ (A : Option Addr) (w : World), Laid w → LieIn w A [(a0, (c : Int), LIM), (a0, (c : Int), (m : Int))] → Calls Tryd.prog 26 #[.agg #[.bool a0, .int .i64 (n : Int)], .slice A 2 2] w fun e w' => e = .returned (.bool m1) ∧ Below w.heap.size w w') := C7
    clear C7
    refine wp_region_held_drew (S := fun w' => w'.cell? ⟨w1.heap.size, 0, none⟩ = some (.bool a0) ∧ w'.cell? ⟨w1.heap.size, 1, none⟩ = some (.int .i64 (n : Int)) ∧ w'.cell? ⟨p3, 0, none⟩ = some (.bool a0) ∧ w'.cell? ⟨p3, 1, none⟩ = some (.int .i64 (c : Int)) ∧ w'.cell? ⟨p3, 2, none⟩ = some (.int .i64 (m : Int)) ∧ w'.cell? ⟨pj, 0, none⟩ = some (.bool a0) ∧ w'.cell? ⟨pj, 1, none⟩ = some (.int .i64 (J : Int)) ∧ w'.cell? ⟨pg, 0, none⟩ = some (.bool a0) ∧ w'.cell? ⟨pg, 1, none⟩ = some (.int .i64 (G : Int)) ∧ w'.cell? ⟨pg, 2, none⟩ = some (.int .i64 (m : Int)) ∧ w'.cell? ⟨pn, 0, none⟩ = some (.bool a0) ∧ w'.cell? ⟨pn, 1, none⟩ = some (.int .i64 (c : Int)) ∧ w'.cell? ⟨pn, 2, none⟩ = some (.int .i64 0) ∧ w'.cell? ⟨po, 0, none⟩ = some (.bool a0) ∧ w'.cell? ⟨po, 1, none⟩ = some (.int .i64 (c : Int)) ∧ w'.cell? ⟨po, 2, none⟩ = some (.int .i64 LIM) ∧ w'.cell? ⟨pb, 0, none⟩ = some (.bool (!a0)) ∧ w'.cell? ⟨pb, 1, none⟩ = some (.int .i64 (BK : Int)) ∧ Below V5.heap.size V5 w') (by kernel_rfl) ?_ (fun hHeld => ?_)
    · exact HST.out _ (Below.refl _ _).drew
    refine wpAnyH_take (i := 0) (oi := ({ dst := some 75, op := Op.move (Operand.tmp 11), type := 4, pos := "law.go:115", after := #[], guard := none } : Oper)) (v := ?v1) rfl (by kernel_rfl) (by kernel_rfl) (by kernel_rfl) (fun _ _ _ h => h) (Or.inl ⟨by rfl, ?hy1⟩) (by assumption) ?rest1
    case hy1 => (intro w hSw; (try dsimp only at hSw); go_simp; try with_reducible rfl)
    simp only [Act.put, List.setIfInBounds_toArray, List.set_cons_zero, List.set_cons_succ]
    refine wpAnyH_take (i := 1) (oi := ({ dst := some 76, op := Op.move (Operand.tmp 75), type := 4, pos := "law.go:115", after := #[{ on := 0, ground := Ground.data }], guard := none } : Oper)) (v := ?v2) rfl (by kernel_rfl) (by kernel_rfl) (by kernel_rfl) (fun _ _ _ h => h) (Or.inl ⟨by rfl, ?hy2⟩) (by assumption) ?rest2
    case hy2 => (intro w hSw; (try dsimp only at hSw); go_simp; try with_reducible rfl)
    simp only [Act.put, List.setIfInBounds_toArray, List.set_cons_zero, List.set_cons_succ]
    refine wpAnyH_take (i := 2) (oi := ({ dst := some 77, op := Op.load 40 (Operand.tmp 14), type := 40, pos := "law.go:115", after := #[{ on := 1, ground := Ground.guard }], guard := some (1, true) } : Oper)) (v := ?v3) rfl (by kernel_rfl) (by kernel_rfl) (by kernel_rfl) (fun _ _ _ h => h) (Or.inl ⟨by rfl, ?hy3⟩) (by assumption) ?rest3
    case hy3 => (intro w hSw; (try dsimp only at hSw); go_simp; try with_reducible rfl)
    simp only [Act.put, List.setIfInBounds_toArray, List.set_cons_zero, List.set_cons_succ]
    refine wpAnyH_take (i := 3) (oi := ({ dst := some 78, op := Op.load 23 (Operand.tmp 12), type := 23, pos := "law.go:115", after := #[{ on := 1, ground := Ground.guard }], guard := some (1, true) } : Oper)) (v := ?v4) rfl (by kernel_rfl) (by kernel_rfl) (by kernel_rfl) (fun _ _ _ h => h) (Or.inl ⟨by rfl, ?hy4⟩) (by assumption) ?rest4
    case hy4 => (intro w hSw; (try dsimp only at hSw); go_simp; try with_reducible rfl)
    simp only [Act.put, List.setIfInBounds_toArray, List.set_cons_zero, List.set_cons_succ]
    refine wpAnyH_take (i := 5) (oi := ({ dst := some 80, op := Op.load 40 (Operand.tmp 14), type := 40, pos := "law.go:115", after := #[{ on := 1, ground := Ground.guard }], guard := some (1, true) } : Oper)) (v := ?v5) rfl (by kernel_rfl) (by kernel_rfl) (by kernel_rfl) (fun _ _ _ h => h) (Or.inl ⟨by rfl, ?hy5⟩) (by assumption) ?rest5
    case hy5 => (intro w hSw; (try dsimp only at hSw); go_simp; try with_reducible rfl)
    simp only [Act.put, List.setIfInBounds_toArray, List.set_cons_zero, List.set_cons_succ]
    refine wpAnyH_take (i := 6) (oi := ({ dst := some 81, op := Op.load 23 (Operand.tmp 16), type := 23, pos := "law.go:115", after := #[{ on := 1, ground := Ground.guard }], guard := some (1, true) } : Oper)) (v := ?v6) rfl (by kernel_rfl) (by kernel_rfl) (by kernel_rfl) (fun _ _ _ h => h) (Or.inl ⟨by rfl, ?hy6⟩) (by assumption) ?rest6
    case hy6 => (intro w hSw; (try dsimp only at hSw); go_simp; try with_reducible rfl)
    simp only [Act.put, List.setIfInBounds_toArray, List.set_cons_zero, List.set_cons_succ]
    refine wpAnyH_ready (rs := [4]) (by kernel_rfl) (by simp) ?_
    refine AllReadyH.cons (o := ({ dst := some 79, op := Op.call { callee := Callee.value (Operand.func 24), args := #[Operand.tmp 77, Operand.tmp 78], argTypes := #[40, 23] }, type := 4, pos := "law.go:115", after := #[{ on := 2, ground := Ground.data }, { on := 3, ground := Ground.data }, { on := 1, ground := Ground.chain }, { on := 1, ground := Ground.guard }], guard := some (1, true) } : Oper)) rfl (fun K hK => ?_) AllReadyH.nil
    go_simp
    (go_at_call 24; refine (C1.out _ (HLD.out _ (by assumption))).mono ?_; rintro e v4 ⟨rfl, hb4⟩)
    refine hK.out _ _ ?_ (fun hHeld => ?_)
    · exact HST2.out _ _ (by assumption) (by assumption)
    clear hK K
    try simp only [Act.put, List.setIfInBounds_toArray, List.set_cons_zero, List.set_cons_succ]
    refine wpAnyH_ready (rs := [7]) (by kernel_rfl) (by simp) ?_
    refine AllReadyH.cons (o := ({ dst := some 82, op := Op.call { callee := Callee.value (Operand.func 24), args := #[Operand.tmp 80, Operand.tmp 81], argTypes := #[40, 23] }, type := 4, pos := "law.go:115", after := #[{ on := 5, ground := Ground.data }, { on := 6, ground := Ground.data }, { on := 4, ground := Ground.chain }, { on := 1, ground := Ground.guard }], guard := some (1, true) } : Oper)) rfl (fun K hK => ?_) AllReadyH.nil
    go_simp
    (go_at_call 24; refine (C2.out _ (HLD.out _ (by assumption))).mono ?_; rintro e v7 ⟨rfl, hb7⟩)
    refine hK.out _ _ ?_ (fun hHeld => ?_)
    · exact HST2.out _ _ (by assumption) (by assumption)
    clear hK K
    try simp only [Act.put, List.setIfInBounds_toArray, List.set_cons_zero, List.set_cons_succ]
    refine wpAnyH_take (i := 8) (oi := ({ dst := some 83, op := Op.binOp BinOp.eql 4 (Operand.tmp 79) (Operand.tmp 82) 4, type := 4, pos := "law.go:115", after := #[{ on := 4, ground := Ground.data }, { on := 7, ground := Ground.data }, { on := 1, ground := Ground.guard }], guard := some (1, true) } : Oper)) (v := ?v7) rfl (by kernel_rfl) (by kernel_rfl) (by kernel_rfl) (fun _ _ _ h => h) (Or.inl ⟨by rfl, ?hy7⟩) (by assumption) ?rest7
    case hy7 => (intro w hSw; (try dsimp only at hSw); go_simp; try with_reducible rfl)
    simp only [Act.put, List.setIfInBounds_toArray, List.set_cons_zero, List.set_cons_succ]
    refine wpAnyH_take (i := 9) (oi := ({ dst := some 84, op := Op.pick (Operand.tmp 76) (Operand.tmp 83) (Operand.const (Value.bool false)), type := 4, pos := "law.go:115", after := #[{ on := 1, ground := Ground.data }, { on := 8, ground := Ground.data }], guard := none } : Oper)) (v := ?v8) rfl (by kernel_rfl) (by kernel_rfl) (by kernel_rfl) (fun _ _ _ h => h) (Or.inl ⟨by rfl, ?hy8⟩) (by assumption) ?rest8
    case hy8 => (intro w hSw; (try dsimp only at hSw); go_simp; try with_reducible rfl)
    simp only [Act.put, List.setIfInBounds_toArray, List.set_cons_zero, List.set_cons_succ]
    refine wpAnyH_take (i := 10) (oi := ({ dst := some 85, op := Op.move (Operand.tmp 84), type := 4, pos := "law.go:115", after := #[{ on := 9, ground := Ground.data }, { on := 7, ground := Ground.chain }], guard := none } : Oper)) (v := ?v9) rfl (by kernel_rfl) (by kernel_rfl) (by kernel_rfl) (fun _ _ _ h => h) (Or.inl ⟨by rfl, ?hy9⟩) (by assumption) ?rest9
    case hy9 => (intro w hSw; (try dsimp only at hSw); go_simp; try with_reducible rfl)
    simp only [Act.put, List.setIfInBounds_toArray, List.set_cons_zero, List.set_cons_succ]
    refine wpAnyH_take (i := 11) (oi := ({ dst := some 86, op := Op.load 40 (Operand.tmp 14), type := 40, pos := "law.go:115", after := #[{ on := 10, ground := Ground.guard }], guard := some (10, true) } : Oper)) (v := ?v10) rfl (by kernel_rfl) (by kernel_rfl) (by kernel_rfl) (fun _ _ _ h => h) (Or.inl ⟨by rfl, ?hy10⟩) (by assumption) ?rest10
    case hy10 => (intro w hSw; (try dsimp only at hSw); go_simp; try with_reducible rfl)
    simp only [Act.put, List.setIfInBounds_toArray, List.set_cons_zero, List.set_cons_succ]
    refine wpAnyH_take (i := 12) (oi := ({ dst := some 87, op := Op.load 23 (Operand.tmp 12), type := 23, pos := "law.go:115", after := #[{ on := 10, ground := Ground.guard }], guard := some (10, true) } : Oper)) (v := ?v11) rfl (by kernel_rfl) (by kernel_rfl) (by kernel_rfl) (fun _ _ _ h => h) (Or.inl ⟨by rfl, ?hy11⟩) (by assumption) ?rest11
    case hy11 => (intro w hSw; (try dsimp only at hSw); go_simp; try with_reducible rfl)
    simp only [Act.put, List.setIfInBounds_toArray, List.set_cons_zero, List.set_cons_succ]
    refine wpAnyH_take (i := 14) (oi := ({ dst := some 89, op := Op.load 40 (Operand.tmp 17), type := 40, pos := "law.go:115", after := #[{ on := 10, ground := Ground.guard }], guard := some (10, true) } : Oper)) (v := ?v12) rfl (by kernel_rfl) (by kernel_rfl) (by kernel_rfl) (fun _ _ _ h => h) (Or.inl ⟨by rfl, ?hy12⟩) (by assumption) ?rest12
    case hy12 => (intro w hSw; (try dsimp only at hSw); go_simp; try with_reducible rfl)
    simp only [Act.put, List.setIfInBounds_toArray, List.set_cons_zero, List.set_cons_succ]
    refine wpAnyH_take (i := 15) (oi := ({ dst := some 90, op := Op.load 23 (Operand.tmp 12), type := 23, pos := "law.go:115", after := #[{ on := 10, ground := Ground.guard }], guard := some (10, true) } : Oper)) (v := ?v13) rfl (by kernel_rfl) (by kernel_rfl) (by kernel_rfl) (fun _ _ _ h => h) (Or.inl ⟨by rfl, ?hy13⟩) (by assumption) ?rest13
    case hy13 => (intro w hSw; (try dsimp only at hSw); go_simp; try with_reducible rfl)
    simp only [Act.put, List.setIfInBounds_toArray, List.set_cons_zero, List.set_cons_succ]
    refine wpAnyH_ready (rs := [13]) (by kernel_rfl) (by simp) ?_
    refine AllReadyH.cons (o := ({ dst := some 88, op := Op.call { callee := Callee.value (Operand.func 24), args := #[Operand.tmp 86, Operand.tmp 87], argTypes := #[40, 23] }, type := 4, pos := "law.go:115", after := #[{ on := 11, ground := Ground.data }, { on := 12, ground := Ground.data }, { on := 10, ground := Ground.chain }, { on := 10, ground := Ground.guard }], guard := some (10, true) } : Oper)) rfl (fun K hK => ?_) AllReadyH.nil
    go_simp
    (go_at_call 24; refine (C1.out _ (HLD.out _ (by assumption))).mono ?_; rintro e v13 ⟨rfl, hb13⟩)
    refine hK.out _ _ ?_ (fun hHeld => ?_)
    · exact HST2.out _ _ (by assumption) (by assumption)
    clear hK K
    try simp only [Act.put, List.setIfInBounds_toArray, List.set_cons_zero, List.set_cons_succ]
    refine wpAnyH_ready (rs := [16]) (by kernel_rfl) (by simp) ?_
    refine AllReadyH.cons (o := ({ dst := some 91, op := Op.call { callee := Callee.value (Operand.func 24), args := #[Operand.tmp 89, Operand.tmp 90], argTypes := #[40, 23] }, type := 4, pos := "law.go:115", after := #[{ on := 14, ground := Ground.data }, { on := 15, ground := Ground.data }, { on := 13, ground := Ground.chain }, { on := 10, ground := Ground.guard }], guard := some (10, true) } : Oper)) rfl (fun K hK => ?_) AllReadyH.nil
    go_simp
    (go_at_call 24; refine (C3.out _ (HLD.out _ (by assumption))).mono ?_; rintro e v16 ⟨rfl, hb16⟩)
    refine hK.out _ _ ?_ (fun hHeld => ?_)
    · exact HST2.out _ _ (by assumption) (by assumption)
    clear hK K
    try simp only [Act.put, List.setIfInBounds_toArray, List.set_cons_zero, List.set_cons_succ]
    refine wpAnyH_take (i := 17) (oi := ({ dst := some 92, op := Op.binOp BinOp.eql 4 (Operand.tmp 88) (Operand.tmp 91) 4, type := 4, pos := "law.go:115", after := #[{ on := 13, ground := Ground.data }, { on := 16, ground := Ground.data }, { on := 10, ground := Ground.guard }], guard := some (10, true) } : Oper)) (v := ?v14) rfl (by kernel_rfl) (by kernel_rfl) (by kernel_rfl) (fun _ _ _ h => h) (Or.inl ⟨by rfl, ?hy14⟩) (by assumption) ?rest14
    case hy14 => (intro w hSw; (try dsimp only at hSw); go_simp; try with_reducible rfl)
    simp only [Act.put, List.setIfInBounds_toArray, List.set_cons_zero, List.set_cons_succ]
    refine wpAnyH_take (i := 18) (oi := ({ dst := some 93, op := Op.pick (Operand.tmp 85) (Operand.tmp 92) (Operand.const (Value.bool false)), type := 4, pos := "law.go:115", after := #[{ on := 10, ground := Ground.data }, { on := 17, ground := Ground.data }], guard := none } : Oper)) (v := ?v15) rfl (by kernel_rfl) (by kernel_rfl) (by kernel_rfl) (fun _ _ _ h => h) (Or.inl ⟨by rfl, ?hy15⟩) (by assumption) ?rest15
    case hy15 => (intro w hSw; (try dsimp only at hSw); go_simp; try with_reducible rfl)
    simp only [Act.put, List.setIfInBounds_toArray, List.set_cons_zero, List.set_cons_succ]
    refine wpAnyH_take (i := 19) (oi := ({ dst := some 94, op := Op.move (Operand.tmp 93), type := 4, pos := "law.go:115", after := #[{ on := 18, ground := Ground.data }, { on := 16, ground := Ground.chain }], guard := none } : Oper)) (v := ?v16) rfl (by kernel_rfl) (by kernel_rfl) (by kernel_rfl) (fun _ _ _ h => h) (Or.inl ⟨by rfl, ?hy16⟩) (by assumption) ?rest16
    case hy16 => (intro w hSw; (try dsimp only at hSw); go_simp; try with_reducible rfl)
    simp only [Act.put, List.setIfInBounds_toArray, List.set_cons_zero, List.set_cons_succ]
    refine wpAnyH_take (i := 20) (oi := ({ dst := some 95, op := Op.load 40 (Operand.tmp 18), type := 40, pos := "law.go:115", after := #[{ on := 19, ground := Ground.guard }], guard := some (19, true) } : Oper)) (v := ?v17) rfl (by kernel_rfl) (by kernel_rfl) (by kernel_rfl) (fun _ _ _ h => h) (Or.inl ⟨by rfl, ?hy17⟩) (by assumption) ?rest17
    case hy17 => (intro w hSw; (try dsimp only at hSw); go_simp; try with_reducible rfl)
    simp only [Act.put, List.setIfInBounds_toArray, List.set_cons_zero, List.set_cons_succ]
    refine wpAnyH_take (i := 21) (oi := ({ dst := some 96, op := Op.load 23 (Operand.tmp 12), type := 23, pos := "law.go:115", after := #[{ on := 19, ground := Ground.guard }], guard := some (19, true) } : Oper)) (v := ?v18) rfl (by kernel_rfl) (by kernel_rfl) (by kernel_rfl) (fun _ _ _ h => h) (Or.inl ⟨by rfl, ?hy18⟩) (by assumption) ?rest18
    case hy18 => (intro w hSw; (try dsimp only at hSw); go_simp; try with_reducible rfl)
    simp only [Act.put, List.setIfInBounds_toArray, List.set_cons_zero, List.set_cons_succ]
    refine wpAnyH_ready (rs := [22]) (by kernel_rfl) (by simp) ?_
    refine AllReadyH.cons (o := ({ dst := some 97, op := Op.call { callee := Callee.value (Operand.func 24), args := #[Operand.tmp 95, Operand.tmp 96], argTypes := #[40, 23] }, type := 4, pos := "law.go:115", after := #[{ on := 20, ground := Ground.data }, { on := 21, ground := Ground.data }, { on := 19, ground := Ground.chain }, { on := 19, ground := Ground.guard }], guard := some (19, true) } : Oper)) rfl (fun K hK => ?_) AllReadyH.nil
    go_simp
    (go_at_call 24; refine (C4.out _ (HLD.out _ (by assumption))).mono ?_; rintro e v22 ⟨rfl, hb22⟩)
    refine hK.out _ _ ?_ (fun hHeld => ?_)
    · exact HST2.out _ _ (by assumption) (by assumption)
    clear hK K
    try simp only [Act.put, List.setIfInBounds_toArray, List.set_cons_zero, List.set_cons_succ]
    refine wpAnyH_take (i := 23) (oi := ({ dst := some 98, op := Op.pick (Operand.tmp 94) (Operand.tmp 97) (Operand.const (Value.bool false)), type := 4, pos := "law.go:115", after := #[{ on := 19, ground := Ground.data }, { on := 22, ground := Ground.data }], guard := none } : Oper)) (v := ?v19) rfl (by kernel_rfl) (by kernel_rfl) (by kernel_rfl) (fun _ _ _ h => h) (Or.inl ⟨by rfl, ?hy19⟩) (by assumption) ?rest19
    case hy19 => (intro w hSw; (try dsimp only at hSw); go_simp; try with_reducible rfl)
    simp only [Act.put, List.setIfInBounds_toArray, List.set_cons_zero, List.set_cons_succ]
    refine wpAnyH_take (i := 24) (oi := ({ dst := some 99, op := Op.move (Operand.tmp 98), type := 4, pos := "law.go:115", after := #[{ on := 23, ground := Ground.data }, { on := 22, ground := Ground.chain }], guard := none } : Oper)) (v := ?v20) rfl (by kernel_rfl) (by kernel_rfl) (by kernel_rfl) (fun _ _ _ h => h) (Or.inl ⟨by rfl, ?hy20⟩) (by assumption) ?rest20
    case hy20 => (intro w hSw; (try dsimp only at hSw); go_simp; try with_reducible rfl)
    simp only [Act.put, List.setIfInBounds_toArray, List.set_cons_zero, List.set_cons_succ]
    refine wpAnyH_take (i := 25) (oi := ({ dst := some 100, op := Op.load 40 (Operand.tmp 19), type := 40, pos := "law.go:115", after := #[{ on := 24, ground := Ground.guard }], guard := some (24, true) } : Oper)) (v := ?v21) rfl (by kernel_rfl) (by kernel_rfl) (by kernel_rfl) (fun _ _ _ h => h) (Or.inl ⟨by rfl, ?hy21⟩) (by assumption) ?rest21
    case hy21 => (intro w hSw; (try dsimp only at hSw); go_simp; try with_reducible rfl)
    simp only [Act.put, List.setIfInBounds_toArray, List.set_cons_zero, List.set_cons_succ]
    refine wpAnyH_take (i := 26) (oi := ({ dst := some 101, op := Op.load 23 (Operand.tmp 12), type := 23, pos := "law.go:115", after := #[{ on := 24, ground := Ground.guard }], guard := some (24, true) } : Oper)) (v := ?v22) rfl (by kernel_rfl) (by kernel_rfl) (by kernel_rfl) (fun _ _ _ h => h) (Or.inl ⟨by rfl, ?hy22⟩) (by assumption) ?rest22
    case hy22 => (intro w hSw; (try dsimp only at hSw); go_simp; try with_reducible rfl)
    simp only [Act.put, List.setIfInBounds_toArray, List.set_cons_zero, List.set_cons_succ]
    refine wpAnyH_take (i := 28) (oi := ({ dst := some 103, op := Op.fieldAddr 23 (Operand.tmp 12) 1, type := 0, pos := "law.go:115", after := #[{ on := 24, ground := Ground.guard }], guard := some (24, true) } : Oper)) (v := ?v23) rfl (by kernel_rfl) (by kernel_rfl) (by kernel_rfl) (fun _ _ _ h => h) (Or.inl ⟨by rfl, ?hy23⟩) (by assumption) ?rest23
    case hy23 => (intro w hSw; (try dsimp only at hSw); go_simp; try with_reducible rfl)
    simp only [Act.put, List.setIfInBounds_toArray, List.set_cons_zero, List.set_cons_succ]
    refine wpAnyH_take (i := 29) (oi := ({ dst := some 104, op := Op.load 3 (Operand.tmp 103), type := 3, pos := "law.go:115", after := #[{ on := 28, ground := Ground.data }, { on := 24, ground := Ground.guard }], guard := some (24, true) } : Oper)) (v := ?v24) rfl (by kernel_rfl) (by kernel_rfl) (by kernel_rfl) (fun _ _ _ h => h) (Or.inl ⟨by rfl, ?hy24⟩) (by assumption) ?rest24
    case hy24 => (intro w hSw; (try dsimp only at hSw); go_simp; try with_reducible rfl)
    simp only [Act.put, List.setIfInBounds_toArray, List.set_cons_zero, List.set_cons_succ]
    refine wpAnyH_take (i := 30) (oi := ({ dst := some 105, op := Op.fieldAddr 40 (Operand.tmp 14) 1, type := 0, pos := "law.go:115", after := #[{ on := 24, ground := Ground.guard }], guard := some (24, true) } : Oper)) (v := ?v25) rfl (by kernel_rfl) (by kernel_rfl) (by kernel_rfl) (fun _ _ _ h => h) (Or.inl ⟨by rfl, ?hy25⟩) (by assumption) ?rest25
    case hy25 => (intro w hSw; (try dsimp only at hSw); go_simp; try with_reducible rfl)
    simp only [Act.put, List.setIfInBounds_toArray, List.set_cons_zero, List.set_cons_succ]
    refine wpAnyH_take (i := 31) (oi := ({ dst := some 106, op := Op.load 3 (Operand.tmp 105), type := 3, pos := "law.go:115", after := #[{ on := 30, ground := Ground.data }, { on := 24, ground := Ground.guard }], guard := some (24, true) } : Oper)) (v := ?v26) rfl (by kernel_rfl) (by kernel_rfl) (by kernel_rfl) (fun _ _ _ h => h) (Or.inl ⟨by rfl, ?hy26⟩) (by assumption) ?rest26
    case hy26 => (intro w hSw; (try dsimp only at hSw); go_simp; try with_reducible rfl)
    simp only [Act.put, List.setIfInBounds_toArray, List.set_cons_zero, List.set_cons_succ]
    refine wpAnyH_take (i := 32) (oi := ({ dst := some 107, op := Op.binOp BinOp.eql 3 (Operand.tmp 104) (Operand.tmp 106) 3, type := 4, pos := "law.go:115", after := #[{ on := 29, ground := Ground.data }, { on := 31, ground := Ground.data }, { on := 24, ground := Ground.guard }], guard := some (24, true) } : Oper)) (v := ?v27) rfl (by kernel_rfl) (by kernel_rfl) (by kernel_rfl) (fun _ _ _ h => h) (Or.inl ⟨by rfl, ?hy27⟩) (by assumption) ?rest27
    case hy27 => (intro w hSw; (try dsimp only at hSw); go_simp; try with_reducible rfl)
    simp only [Act.put, List.setIfInBounds_toArray, List.set_cons_zero, List.set_cons_succ]
    refine wpAnyH_ready (rs := [27]) (by kernel_rfl) (by simp) ?_
    refine AllReadyH.cons (o := ({ dst := some 102, op := Op.call { callee := Callee.value (Operand.func 24), args := #[Operand.tmp 100, Operand.tmp 101], argTypes := #[40, 23] }, type := 4, pos := "law.go:115", after := #[{ on := 25, ground := Ground.data }, { on := 26, ground := Ground.data }, { on := 24, ground := Ground.chain }, { on := 24, ground := Ground.guard }], guard := some (24, true) } : Oper)) rfl (fun K hK => ?_) AllReadyH.nil
    go_simp
    (go_at_call 24; refine (C5.out _ (HLD.out _ (by assumption))).mono ?_; rintro e v27 ⟨rfl, hb27⟩)
    refine hK.out _ _ ?_ (fun hHeld => ?_)
    · exact HST2.out _ _ (by assumption) (by assumption)
    clear hK K
    try simp only [Act.put, List.setIfInBounds_toArray, List.set_cons_zero, List.set_cons_succ]
    refine wpAnyH_take (i := 33) (oi := ({ dst := some 108, op := Op.binOp BinOp.eql 4 (Operand.tmp 102) (Operand.tmp 107) 4, type := 4, pos := "law.go:115", after := #[{ on := 27, ground := Ground.data }, { on := 32, ground := Ground.data }, { on := 24, ground := Ground.guard }], guard := some (24, true) } : Oper)) (v := ?v28) rfl (by kernel_rfl) (by kernel_rfl) (by kernel_rfl) (fun _ _ _ h => h) (Or.inl ⟨by rfl, ?hy28⟩) (by assumption) ?rest28
    case hy28 => (intro w hSw; (try dsimp only at hSw); go_simp; try with_reducible rfl)
    simp only [Act.put, List.setIfInBounds_toArray, List.set_cons_zero, List.set_cons_succ]
    refine wpAnyH_take (i := 34) (oi := ({ dst := some 109, op := Op.pick (Operand.tmp 99) (Operand.tmp 108) (Operand.const (Value.bool false)), type := 4, pos := "law.go:115", after := #[{ on := 24, ground := Ground.data }, { on := 33, ground := Ground.data }], guard := none } : Oper)) (v := ?v29) rfl (by kernel_rfl) (by kernel_rfl) (by kernel_rfl) (fun _ _ _ h => h) (Or.inl ⟨by rfl, ?hy29⟩) (by assumption) ?rest29
    case hy29 => (intro w hSw; (try dsimp only at hSw); go_simp; try with_reducible rfl)
    simp only [Act.put, List.setIfInBounds_toArray, List.set_cons_zero, List.set_cons_succ]
    refine wpAnyH_take (i := 35) (oi := ({ dst := some 110, op := Op.move (Operand.tmp 109), type := 4, pos := "law.go:115", after := #[{ on := 34, ground := Ground.data }, { on := 27, ground := Ground.chain }], guard := none } : Oper)) (v := ?v30) rfl (by kernel_rfl) (by kernel_rfl) (by kernel_rfl) (fun _ _ _ h => h) (Or.inl ⟨by rfl, ?hy30⟩) (by assumption) ?rest30
    case hy30 => (intro w hSw; (try dsimp only at hSw); go_simp; try with_reducible rfl)
    simp only [Act.put, List.setIfInBounds_toArray, List.set_cons_zero, List.set_cons_succ]
    refine wpAnyH_take (i := 36) (oi := ({ dst := some 111, op := Op.load 40 (Operand.tmp 18), type := 40, pos := "law.go:115", after := #[{ on := 35, ground := Ground.guard }], guard := some (35, true) } : Oper)) (v := ?v31) rfl (by kernel_rfl) (by kernel_rfl) (by kernel_rfl) (fun _ _ _ h => h) (Or.inl ⟨by rfl, ?hy31⟩) (by assumption) ?rest31
    case hy31 => (intro w hSw; (try dsimp only at hSw); go_simp; try with_reducible rfl)
    simp only [Act.put, List.setIfInBounds_toArray, List.set_cons_zero, List.set_cons_succ]
    refine wpAnyH_take (i := 37) (oi := ({ dst := some 112, op := Op.load 23 (Operand.tmp 20), type := 23, pos := "law.go:115", after := #[{ on := 35, ground := Ground.guard }], guard := some (35, true) } : Oper)) (v := ?v32) rfl (by kernel_rfl) (by kernel_rfl) (by kernel_rfl) (fun _ _ _ h => h) (Or.inl ⟨by rfl, ?hy32⟩) (by assumption) ?rest32
    case hy32 => (intro w hSw; (try dsimp only at hSw); go_simp; try with_reducible rfl)
    simp only [Act.put, List.setIfInBounds_toArray, List.set_cons_zero, List.set_cons_succ]
    refine wpAnyH_ready (rs := [38]) (by kernel_rfl) (by simp) ?_
    refine AllReadyH.cons (o := ({ dst := some 113, op := Op.call { callee := Callee.value (Operand.func 24), args := #[Operand.tmp 111, Operand.tmp 112], argTypes := #[40, 23] }, type := 4, pos := "law.go:115", after := #[{ on := 36, ground := Ground.data }, { on := 37, ground := Ground.data }, { on := 35, ground := Ground.chain }, { on := 35, ground := Ground.guard }], guard := some (35, true) } : Oper)) rfl (fun K hK => ?_) AllReadyH.nil
    go_simp
    (go_at_call 24; refine (C6.out _ (HLD.out _ (by assumption))).mono ?_; rintro e v38 ⟨rfl, hb38⟩)
    refine hK.out _ _ ?_ (fun hHeld => ?_)
    · exact HST2.out _ _ (by assumption) (by assumption)
    clear hK K
    try simp only [Act.put, List.setIfInBounds_toArray, List.set_cons_zero, List.set_cons_succ]
    refine wpAnyH_take (i := 39) (oi := ({ dst := some 114, op := Op.unOp UnOp.not 4 (Operand.tmp 113), type := 4, pos := "law.go:115", after := #[{ on := 38, ground := Ground.data }, { on := 35, ground := Ground.guard }], guard := some (35, true) } : Oper)) (v := ?v33) rfl (by kernel_rfl) (by kernel_rfl) (by kernel_rfl) (fun _ _ _ h => h) (Or.inl ⟨by rfl, ?hy33⟩) (by assumption) ?rest33
    case hy33 => (intro w hSw; (try dsimp only at hSw); go_simp; try with_reducible rfl)
    simp only [Act.put, List.setIfInBounds_toArray, List.set_cons_zero, List.set_cons_succ]
    refine wpAnyH_take (i := 40) (oi := ({ dst := some 115, op := Op.pick (Operand.tmp 110) (Operand.tmp 114) (Operand.const (Value.bool false)), type := 4, pos := "law.go:115", after := #[{ on := 35, ground := Ground.data }, { on := 39, ground := Ground.data }], guard := none } : Oper)) (v := ?v34) rfl (by kernel_rfl) (by kernel_rfl) (by kernel_rfl) (fun _ _ _ h => h) (Or.inl ⟨by rfl, ?hy34⟩) (by assumption) ?rest34
    case hy34 => (intro w hSw; (try dsimp only at hSw); go_simp; try with_reducible rfl)
    simp only [Act.put, List.setIfInBounds_toArray, List.set_cons_zero, List.set_cons_succ]
    refine wpAnyH_take (i := 41) (oi := ({ dst := some 116, op := Op.move (Operand.tmp 115), type := 4, pos := "law.go:115", after := #[{ on := 40, ground := Ground.data }, { on := 38, ground := Ground.chain }], guard := none } : Oper)) (v := ?v35) rfl (by kernel_rfl) (by kernel_rfl) (by kernel_rfl) (fun _ _ _ h => h) (Or.inl ⟨by rfl, ?hy35⟩) (by assumption) ?rest35
    case hy35 => (intro w hSw; (try dsimp only at hSw); go_simp; try with_reducible rfl)
    simp only [Act.put, List.setIfInBounds_toArray, List.set_cons_zero, List.set_cons_succ]
    refine wpAnyH_take (i := 42) (oi := ({ dst := some 117, op := Op.load 23 (Operand.tmp 12), type := 23, pos := "law.go:115", after := #[{ on := 41, ground := Ground.guard }], guard := some (41, true) } : Oper)) (v := ?v36) rfl (by kernel_rfl) (by kernel_rfl) (by kernel_rfl) (fun _ _ _ h => h) (Or.inl ⟨by rfl, ?hy36⟩) (by assumption) ?rest36
    case hy36 => (intro w hSw; (try dsimp only at hSw); go_simp; try with_reducible rfl)
    simp only [Act.put, List.setIfInBounds_toArray, List.set_cons_zero, List.set_cons_succ]
    refine wpAnyH_take (i := 43) (oi := ({ dst := some 118, op := Op.load 40 (Operand.tmp 19), type := 40, pos := "law.go:115", after := #[{ on := 41, ground := Ground.guard }], guard := some (41, true) } : Oper)) (v := ?v37) rfl (by kernel_rfl) (by kernel_rfl) (by kernel_rfl) (fun _ _ _ h => h) (Or.inl ⟨by rfl, ?hy37⟩) (by assumption) ?rest37
    case hy37 => (intro w hSw; (try dsimp only at hSw); go_simp; try with_reducible rfl)
    simp only [Act.put, List.setIfInBounds_toArray, List.set_cons_zero, List.set_cons_succ]
    refine wpAnyH_take (i := 44) (oi := ({ dst := some 119, op := Op.load 40 (Operand.tmp 14), type := 40, pos := "law.go:115", after := #[{ on := 41, ground := Ground.guard }], guard := some (41, true) } : Oper)) (v := ?v38) rfl (by kernel_rfl) (by kernel_rfl) (by kernel_rfl) (fun _ _ _ h => h) (Or.inl ⟨by rfl, ?hy38⟩) (by assumption) ?rest38
    case hy38 => (intro w hSw; (try dsimp only at hSw); go_simp; try with_reducible rfl)
    simp only [Act.put, List.setIfInBounds_toArray, List.set_cons_zero, List.set_cons_succ]
    refine wpAnyH_take (i := 47) (oi := ({ dst := some 122, op := Op.load 40 (Operand.tmp 19), type := 40, pos := "law.go:115", after := #[{ on := 41, ground := Ground.guard }], guard := some (41, true) } : Oper)) (v := ?v39) rfl (by kernel_rfl) (by kernel_rfl) (by kernel_rfl) (fun _ _ _ h => h) (Or.inl ⟨by rfl, ?hy39⟩) (by assumption) ?rest39
    case hy39 => (intro w hSw; (try dsimp only at hSw); go_simp; try with_reducible rfl)
    simp only [Act.put, List.setIfInBounds_toArray, List.set_cons_zero, List.set_cons_succ]
    refine wpAnyH_take (i := 48) (oi := ({ dst := some 123, op := Op.load 23 (Operand.tmp 12), type := 23, pos := "law.go:115", after := #[{ on := 41, ground := Ground.guard }], guard := some (41, true) } : Oper)) (v := ?v40) rfl (by kernel_rfl) (by kernel_rfl) (by kernel_rfl) (fun _ _ _ h => h) (Or.inl ⟨by rfl, ?hy40⟩) (by assumption) ?rest40
    case hy40 => (intro w hSw; (try dsimp only at hSw); go_simp; try with_reducible rfl)
    simp only [Act.put, List.setIfInBounds_toArray, List.set_cons_zero, List.set_cons_succ]
    refine wpAnyH_ready (rs := [45]) (by kernel_rfl) (by simp) ?_
    refine AllReadyH.cons (o := ({ dst := some 120, op := Op.buildSlice 37 2 #[(0, Operand.tmp 118), (1, Operand.tmp 119)], type := 37, pos := "law.go:115", after := #[{ on := 43, ground := Ground.data }, { on := 44, ground := Ground.data }, { on := 41, ground := Ground.guard }], guard := some (41, true) } : Oper)) rfl (fun K hK => ?_) AllReadyH.nil
    go_simp
    refine hK.out _ _ ?_ (fun hHeld => ?_)
    · exact HST2.out _ _ (by assumption) (Joins.below_alloc1 _ _)
    clear hK K
    try simp only [Act.put, List.setIfInBounds_toArray, List.set_cons_zero, List.set_cons_succ]
    refine wpAnyH_ready (rs := [46]) (by kernel_rfl) (by simp) ?_
    refine AllReadyH.cons (o := ({ dst := some 121, op := Op.call { callee := Callee.value (Operand.func 26), args := #[Operand.tmp 117, Operand.tmp 120], argTypes := #[23, 37] }, type := 4, pos := "law.go:115", after := #[{ on := 42, ground := Ground.data }, { on := 45, ground := Ground.data }, { on := 41, ground := Ground.chain }, { on := 41, ground := Ground.guard }], guard := some (41, true) } : Oper)) rfl (fun K hK => ?_) AllReadyH.nil
    go_simp
    (go_at_call 26; refine (C8.out _ _ (HLD.out _ (by assumption)) (lie_two _ _ _ _ _ _ _ _)).mono ?_; rintro e v46 ⟨rfl, hb46⟩)
    refine hK.out _ _ ?_ (fun hHeld => ?_)
    · exact HST2.out _ _ (by assumption) (by assumption)
    clear hK K
    try simp only [Act.put, List.setIfInBounds_toArray, List.set_cons_zero, List.set_cons_succ]
    refine wpAnyH_ready (rs := [49]) (by kernel_rfl) (by simp) ?_
    refine AllReadyH.cons (o := ({ dst := some 124, op := Op.call { callee := Callee.value (Operand.func 24), args := #[Operand.tmp 122, Operand.tmp 123], argTypes := #[40, 23] }, type := 4, pos := "law.go:115", after := #[{ on := 47, ground := Ground.data }, { on := 48, ground := Ground.data }, { on := 46, ground := Ground.chain }, { on := 41, ground := Ground.guard }], guard := some (41, true) } : Oper)) rfl (fun K hK => ?_) AllReadyH.nil
    go_simp
    (go_at_call 24; refine (C5.out _ (HLD.out _ (by assumption))).mono ?_; rintro e v49 ⟨rfl, hb49⟩)
    refine hK.out _ _ ?_ (fun hHeld => ?_)
    · exact HST2.out _ _ (by assumption) (by assumption)
    clear hK K
    try simp only [Act.put, List.setIfInBounds_toArray, List.set_cons_zero, List.set_cons_succ]
    refine wpAnyH_take (i := 50) (oi := ({ dst := some 125, op := Op.move (Operand.tmp 124), type := 4, pos := "law.go:115", after := #[{ on := 49, ground := Ground.data }, { on := 49, ground := Ground.chain }, { on := 41, ground := Ground.guard }], guard := some (41, true) } : Oper)) (v := ?v41) rfl (by kernel_rfl) (by kernel_rfl) (by kernel_rfl) (fun _ _ _ h => h) (Or.inl ⟨by rfl, ?hy41⟩) (by assumption) ?rest41
    case hy41 => (intro w hSw; (try dsimp only at hSw); go_simp; try with_reducible rfl)
    simp only [Act.put, List.setIfInBounds_toArray, List.set_cons_zero, List.set_cons_succ]
    refine wpAnyH_take (i := 51) (oi := ({ dst := some 126, op := Op.load 40 (Operand.tmp 14), type := 40, pos := "law.go:115", after := #[{ on := 50, ground := Ground.guard }], guard := some (50, false) } : Oper)) (v := ?v42) rfl (by kernel_rfl) (by kernel_rfl) (by kernel_rfl) (fun _ _ _ h => h) (Or.inl ⟨by rfl, ?hy42⟩) (by assumption) ?rest42
    case hy42 => (intro w hSw; (try dsimp only at hSw); go_simp; try with_reducible rfl)
    simp only [Act.put, List.setIfInBounds_toArray, List.set_cons_zero, List.set_cons_succ]
    refine wpAnyH_take (i := 52) (oi := ({ dst := some 127, op := Op.load 23 (Operand.tmp 12), type := 23, pos := "law.go:115", after := #[{ on := 50, ground := Ground.guard }], guard := some (50, false) } : Oper)) (v := ?v43) rfl (by kernel_rfl) (by kernel_rfl) (by kernel_rfl) (fun _ _ _ h => h) (Or.inl ⟨by rfl, ?hy43⟩) (by assumption) ?rest43
    case hy43 => (intro w hSw; (try dsimp only at hSw); go_simp; try with_reducible rfl)
    simp only [Act.put, List.setIfInBounds_toArray, List.set_cons_zero, List.set_cons_succ]
    refine wpAnyH_ready (rs := [53]) (by kernel_rfl) (by simp) ?_
    refine AllReadyH.cons (o := ({ dst := some 128, op := Op.call { callee := Callee.value (Operand.func 24), args := #[Operand.tmp 126, Operand.tmp 127], argTypes := #[40, 23] }, type := 4, pos := "law.go:115", after := #[{ on := 51, ground := Ground.data }, { on := 52, ground := Ground.data }, { on := 50, ground := Ground.chain }, { on := 50, ground := Ground.guard }], guard := some (50, false) } : Oper)) rfl (fun K hK => ?_) AllReadyH.nil
    go_simp
    (go_at_call 24; refine (C1.out _ (HLD.out _ (by assumption))).mono ?_; rintro e v53 ⟨rfl, hb53⟩)
    refine hK.out _ _ ?_ (fun hHeld => ?_)
    · exact HST2.out _ _ (by assumption) (by assumption)
    clear hK K
    try simp only [Act.put, List.setIfInBounds_toArray, List.set_cons_zero, List.set_cons_succ]
    refine wpAnyH_take (i := 54) (oi := ({ dst := some 129, op := Op.pick (Operand.tmp 125) (Operand.const (Value.bool true)) (Operand.tmp 128), type := 4, pos := "law.go:115", after := #[{ on := 50, ground := Ground.data }, { on := 53, ground := Ground.data }, { on := 41, ground := Ground.guard }], guard := some (41, true) } : Oper)) (v := ?v44) rfl (by kernel_rfl) (by kernel_rfl) (by kernel_rfl) (fun _ _ _ h => h) (Or.inl ⟨by rfl, ?hy44⟩) (by assumption) ?rest44
    case hy44 => (intro w hSw; (try dsimp only at hSw); go_simp; try with_reducible rfl)
    simp only [Act.put, List.setIfInBounds_toArray, List.set_cons_zero, List.set_cons_succ]
    refine wpAnyH_take (i := 55) (oi := ({ dst := some 130, op := Op.binOp BinOp.eql 4 (Operand.tmp 121) (Operand.tmp 129) 4, type := 4, pos := "law.go:115", after := #[{ on := 46, ground := Ground.data }, { on := 54, ground := Ground.data }, { on := 41, ground := Ground.guard }], guard := some (41, true) } : Oper)) (v := ?v45) rfl (by kernel_rfl) (by kernel_rfl) (by kernel_rfl) (fun _ _ _ h => h) (Or.inl ⟨by rfl, ?hy45⟩) (by assumption) ?rest45
    case hy45 => (intro w hSw; (try dsimp only at hSw); go_simp; try with_reducible rfl)
    simp only [Act.put, List.setIfInBounds_toArray, List.set_cons_zero, List.set_cons_succ]
    refine wpAnyH_take (i := 56) (oi := ({ dst := some 131, op := Op.pick (Operand.tmp 116) (Operand.tmp 130) (Operand.const (Value.bool false)), type := 4, pos := "law.go:115", after := #[{ on := 41, ground := Ground.data }, { on := 55, ground := Ground.data }], guard := none } : Oper)) (v := ?v46) rfl (by kernel_rfl) (by kernel_rfl) (by kernel_rfl) (fun _ _ _ h => h) (Or.inl ⟨by rfl, ?hy46⟩) (by assumption) ?rest46
    case hy46 => (intro w hSw; (try dsimp only at hSw); go_simp; try with_reducible rfl)
    simp only [Act.put, List.setIfInBounds_toArray, List.set_cons_zero, List.set_cons_succ]
    refine wpAnyH_take (i := 57) (oi := ({ dst := some 10, op := Op.assign (Operand.tmp 131), type := 4, pos := "law.go:115", after := #[{ on := 56, ground := Ground.data }, { on := 53, ground := Ground.chain }, { on := 0, ground := Ground.phase }, { on := 1, ground := Ground.phase }, { on := 2, ground := Ground.phase }, { on := 3, ground := Ground.phase }, { on := 4, ground := Ground.phase }, { on := 5, ground := Ground.phase }, { on := 6, ground := Ground.phase }, { on := 7, ground := Ground.phase }, { on := 8, ground := Ground.phase }, { on := 9, ground := Ground.phase }, { on := 10, ground := Ground.phase }, { on := 11, ground := Ground.phase }, { on := 12, ground := Ground.phase }, { on := 13, ground := Ground.phase }, { on := 14, ground := Ground.phase }, { on := 15, ground := Ground.phase }, { on := 16, ground := Ground.phase }, { on := 17, ground := Ground.phase }, { on := 18, ground := Ground.phase }, { on := 19, ground := Ground.phase }, { on := 20, ground := Ground.phase }, { on := 21, ground := Ground.phase }, { on := 22, ground := Ground.phase }, { on := 23, ground := Ground.phase }, { on := 24, ground := Ground.phase }, { on := 25, ground := Ground.phase }, { on := 26, ground := Ground.phase }, { on := 27, ground := Ground.phase }, { on := 28, ground := Ground.phase }, { on := 29, ground := Ground.phase }, { on := 30, ground := Ground.phase }, { on := 31, ground := Ground.phase }, { on := 32, ground := Ground.phase }, { on := 33, ground := Ground.phase }, { on := 34, ground := Ground.phase }, { on := 35, ground := Ground.phase }, { on := 36, ground := Ground.phase }, { on := 37, ground := Ground.phase }, { on := 38, ground := Ground.phase }, { on := 39, ground := Ground.phase }, { on := 40, ground := Ground.phase }, { on := 41, ground := Ground.phase }, { on := 42, ground := Ground.phase }, { on := 43, ground := Ground.phase }, { on := 44, ground := Ground.phase }, { on := 45, ground := Ground.phase }, { on := 46, ground := Ground.phase }, { on := 47, ground := Ground.phase }, { on := 48, ground := Ground.phase }, { on := 49, ground := Ground.phase }, { on := 50, ground := Ground.phase }, { on := 51, ground := Ground.phase }, { on := 52, ground := Ground.phase }, { on := 53, ground := Ground.phase }, { on := 54, ground := Ground.phase }, { on := 55, ground := Ground.phase }, { on := 56, ground := Ground.phase }], guard := none } : Oper)) (v := ?v47) rfl (by kernel_rfl) (by kernel_rfl) (by kernel_rfl) (fun _ _ _ h => h) (Or.inl ⟨by rfl, ?hy47⟩) (by assumption) ?rest47
    case hy47 => (intro w hSw; (try dsimp only at hSw); go_simp; try with_reducible rfl)
    simp only [Act.put, List.setIfInBounds_toArray, List.set_cons_zero, List.set_cons_succ]
    refine wpAnyH_done (by kernel_rfl) ?_ _
    go_wp2_with fail
    go_ret
    exact ⟨rfl, below_trans hW (HSL.out _ (by assumption))⟩
  · have h6 : ((n : Int) == (c : Int)) = true := H5.out.symm
    clear H5
    have C8 : Hid (∀ (A : Option Addr) (w : World), Laid w → LieIn w A [(a0, (c : Int), LIM), (a0, (c : Int), (m : Int))] → Calls Tryd.prog 26 #[.agg #[.bool a0, .int .i64 (n : Int)], .slice A 2 2] w fun e w' => e = .returned (.bool true) ∧ Below w.heap.size w w') := C7
    clear C7
    refine wp_region_held_drew (S := fun w' => w'.cell? ⟨w1.heap.size, 0, none⟩ = some (.bool a0) ∧ w'.cell? ⟨w1.heap.size, 1, none⟩ = some (.int .i64 (n : Int)) ∧ w'.cell? ⟨p3, 0, none⟩ = some (.bool a0) ∧ w'.cell? ⟨p3, 1, none⟩ = some (.int .i64 (c : Int)) ∧ w'.cell? ⟨p3, 2, none⟩ = some (.int .i64 (m : Int)) ∧ w'.cell? ⟨pj, 0, none⟩ = some (.bool a0) ∧ w'.cell? ⟨pj, 1, none⟩ = some (.int .i64 (J : Int)) ∧ w'.cell? ⟨pg, 0, none⟩ = some (.bool a0) ∧ w'.cell? ⟨pg, 1, none⟩ = some (.int .i64 (G : Int)) ∧ w'.cell? ⟨pg, 2, none⟩ = some (.int .i64 (m : Int)) ∧ w'.cell? ⟨pn, 0, none⟩ = some (.bool a0) ∧ w'.cell? ⟨pn, 1, none⟩ = some (.int .i64 (c : Int)) ∧ w'.cell? ⟨pn, 2, none⟩ = some (.int .i64 0) ∧ w'.cell? ⟨po, 0, none⟩ = some (.bool a0) ∧ w'.cell? ⟨po, 1, none⟩ = some (.int .i64 (c : Int)) ∧ w'.cell? ⟨po, 2, none⟩ = some (.int .i64 LIM) ∧ w'.cell? ⟨pb, 0, none⟩ = some (.bool (!a0)) ∧ w'.cell? ⟨pb, 1, none⟩ = some (.int .i64 (BK : Int)) ∧ Below V5.heap.size V5 w') (by kernel_rfl) ?_ (fun hHeld => ?_)
    · exact HST.out _ (Below.refl _ _).drew
    refine wpAnyH_take (i := 0) (oi := ({ dst := some 75, op := Op.move (Operand.tmp 11), type := 4, pos := "law.go:115", after := #[], guard := none } : Oper)) (v := ?v48) rfl (by kernel_rfl) (by kernel_rfl) (by kernel_rfl) (fun _ _ _ h => h) (Or.inl ⟨by rfl, ?hy48⟩) (by assumption) ?rest48
    case hy48 => (intro w hSw; (try dsimp only at hSw); go_simp; try with_reducible rfl)
    simp only [Act.put, List.setIfInBounds_toArray, List.set_cons_zero, List.set_cons_succ]
    refine wpAnyH_take (i := 1) (oi := ({ dst := some 76, op := Op.move (Operand.tmp 75), type := 4, pos := "law.go:115", after := #[{ on := 0, ground := Ground.data }], guard := none } : Oper)) (v := ?v49) rfl (by kernel_rfl) (by kernel_rfl) (by kernel_rfl) (fun _ _ _ h => h) (Or.inl ⟨by rfl, ?hy49⟩) (by assumption) ?rest49
    case hy49 => (intro w hSw; (try dsimp only at hSw); go_simp; try with_reducible rfl)
    simp only [Act.put, List.setIfInBounds_toArray, List.set_cons_zero, List.set_cons_succ]
    refine wpAnyH_take (i := 2) (oi := ({ dst := some 77, op := Op.load 40 (Operand.tmp 14), type := 40, pos := "law.go:115", after := #[{ on := 1, ground := Ground.guard }], guard := some (1, true) } : Oper)) (v := ?v50) rfl (by kernel_rfl) (by kernel_rfl) (by kernel_rfl) (fun _ _ _ h => h) (Or.inl ⟨by rfl, ?hy50⟩) (by assumption) ?rest50
    case hy50 => (intro w hSw; (try dsimp only at hSw); go_simp; try with_reducible rfl)
    simp only [Act.put, List.setIfInBounds_toArray, List.set_cons_zero, List.set_cons_succ]
    refine wpAnyH_take (i := 3) (oi := ({ dst := some 78, op := Op.load 23 (Operand.tmp 12), type := 23, pos := "law.go:115", after := #[{ on := 1, ground := Ground.guard }], guard := some (1, true) } : Oper)) (v := ?v51) rfl (by kernel_rfl) (by kernel_rfl) (by kernel_rfl) (fun _ _ _ h => h) (Or.inl ⟨by rfl, ?hy51⟩) (by assumption) ?rest51
    case hy51 => (intro w hSw; (try dsimp only at hSw); go_simp; try with_reducible rfl)
    simp only [Act.put, List.setIfInBounds_toArray, List.set_cons_zero, List.set_cons_succ]
    refine wpAnyH_take (i := 5) (oi := ({ dst := some 80, op := Op.load 40 (Operand.tmp 14), type := 40, pos := "law.go:115", after := #[{ on := 1, ground := Ground.guard }], guard := some (1, true) } : Oper)) (v := ?v52) rfl (by kernel_rfl) (by kernel_rfl) (by kernel_rfl) (fun _ _ _ h => h) (Or.inl ⟨by rfl, ?hy52⟩) (by assumption) ?rest52
    case hy52 => (intro w hSw; (try dsimp only at hSw); go_simp; try with_reducible rfl)
    simp only [Act.put, List.setIfInBounds_toArray, List.set_cons_zero, List.set_cons_succ]
    refine wpAnyH_take (i := 6) (oi := ({ dst := some 81, op := Op.load 23 (Operand.tmp 16), type := 23, pos := "law.go:115", after := #[{ on := 1, ground := Ground.guard }], guard := some (1, true) } : Oper)) (v := ?v53) rfl (by kernel_rfl) (by kernel_rfl) (by kernel_rfl) (fun _ _ _ h => h) (Or.inl ⟨by rfl, ?hy53⟩) (by assumption) ?rest53
    case hy53 => (intro w hSw; (try dsimp only at hSw); go_simp; try with_reducible rfl)
    simp only [Act.put, List.setIfInBounds_toArray, List.set_cons_zero, List.set_cons_succ]
    refine wpAnyH_ready (rs := [4]) (by kernel_rfl) (by simp) ?_
    refine AllReadyH.cons (o := ({ dst := some 79, op := Op.call { callee := Callee.value (Operand.func 24), args := #[Operand.tmp 77, Operand.tmp 78], argTypes := #[40, 23] }, type := 4, pos := "law.go:115", after := #[{ on := 2, ground := Ground.data }, { on := 3, ground := Ground.data }, { on := 1, ground := Ground.chain }, { on := 1, ground := Ground.guard }], guard := some (1, true) } : Oper)) rfl (fun K hK => ?_) AllReadyH.nil
    go_simp
    (go_at_call 24; refine (C1.out _ (HLD.out _ (by assumption))).mono ?_; rintro e v4 ⟨rfl, hb4⟩)
    refine hK.out _ _ ?_ (fun hHeld => ?_)
    · exact HST2.out _ _ (by assumption) (by assumption)
    clear hK K
    try simp only [Act.put, List.setIfInBounds_toArray, List.set_cons_zero, List.set_cons_succ]
    refine wpAnyH_ready (rs := [7]) (by kernel_rfl) (by simp) ?_
    refine AllReadyH.cons (o := ({ dst := some 82, op := Op.call { callee := Callee.value (Operand.func 24), args := #[Operand.tmp 80, Operand.tmp 81], argTypes := #[40, 23] }, type := 4, pos := "law.go:115", after := #[{ on := 5, ground := Ground.data }, { on := 6, ground := Ground.data }, { on := 4, ground := Ground.chain }, { on := 1, ground := Ground.guard }], guard := some (1, true) } : Oper)) rfl (fun K hK => ?_) AllReadyH.nil
    go_simp
    (go_at_call 24; refine (C2.out _ (HLD.out _ (by assumption))).mono ?_; rintro e v7 ⟨rfl, hb7⟩)
    refine hK.out _ _ ?_ (fun hHeld => ?_)
    · exact HST2.out _ _ (by assumption) (by assumption)
    clear hK K
    try simp only [Act.put, List.setIfInBounds_toArray, List.set_cons_zero, List.set_cons_succ]
    refine wpAnyH_take (i := 8) (oi := ({ dst := some 83, op := Op.binOp BinOp.eql 4 (Operand.tmp 79) (Operand.tmp 82) 4, type := 4, pos := "law.go:115", after := #[{ on := 4, ground := Ground.data }, { on := 7, ground := Ground.data }, { on := 1, ground := Ground.guard }], guard := some (1, true) } : Oper)) (v := ?v54) rfl (by kernel_rfl) (by kernel_rfl) (by kernel_rfl) (fun _ _ _ h => h) (Or.inl ⟨by rfl, ?hy54⟩) (by assumption) ?rest54
    case hy54 => (intro w hSw; (try dsimp only at hSw); go_simp; try with_reducible rfl)
    simp only [Act.put, List.setIfInBounds_toArray, List.set_cons_zero, List.set_cons_succ]
    refine wpAnyH_take (i := 9) (oi := ({ dst := some 84, op := Op.pick (Operand.tmp 76) (Operand.tmp 83) (Operand.const (Value.bool false)), type := 4, pos := "law.go:115", after := #[{ on := 1, ground := Ground.data }, { on := 8, ground := Ground.data }], guard := none } : Oper)) (v := ?v55) rfl (by kernel_rfl) (by kernel_rfl) (by kernel_rfl) (fun _ _ _ h => h) (Or.inl ⟨by rfl, ?hy55⟩) (by assumption) ?rest55
    case hy55 => (intro w hSw; (try dsimp only at hSw); go_simp; try with_reducible rfl)
    simp only [Act.put, List.setIfInBounds_toArray, List.set_cons_zero, List.set_cons_succ]
    refine wpAnyH_take (i := 10) (oi := ({ dst := some 85, op := Op.move (Operand.tmp 84), type := 4, pos := "law.go:115", after := #[{ on := 9, ground := Ground.data }, { on := 7, ground := Ground.chain }], guard := none } : Oper)) (v := ?v56) rfl (by kernel_rfl) (by kernel_rfl) (by kernel_rfl) (fun _ _ _ h => h) (Or.inl ⟨by rfl, ?hy56⟩) (by assumption) ?rest56
    case hy56 => (intro w hSw; (try dsimp only at hSw); go_simp; try with_reducible rfl)
    simp only [Act.put, List.setIfInBounds_toArray, List.set_cons_zero, List.set_cons_succ]
    refine wpAnyH_take (i := 11) (oi := ({ dst := some 86, op := Op.load 40 (Operand.tmp 14), type := 40, pos := "law.go:115", after := #[{ on := 10, ground := Ground.guard }], guard := some (10, true) } : Oper)) (v := ?v57) rfl (by kernel_rfl) (by kernel_rfl) (by kernel_rfl) (fun _ _ _ h => h) (Or.inl ⟨by rfl, ?hy57⟩) (by assumption) ?rest57
    case hy57 => (intro w hSw; (try dsimp only at hSw); go_simp; try with_reducible rfl)
    simp only [Act.put, List.setIfInBounds_toArray, List.set_cons_zero, List.set_cons_succ]
    refine wpAnyH_take (i := 12) (oi := ({ dst := some 87, op := Op.load 23 (Operand.tmp 12), type := 23, pos := "law.go:115", after := #[{ on := 10, ground := Ground.guard }], guard := some (10, true) } : Oper)) (v := ?v58) rfl (by kernel_rfl) (by kernel_rfl) (by kernel_rfl) (fun _ _ _ h => h) (Or.inl ⟨by rfl, ?hy58⟩) (by assumption) ?rest58
    case hy58 => (intro w hSw; (try dsimp only at hSw); go_simp; try with_reducible rfl)
    simp only [Act.put, List.setIfInBounds_toArray, List.set_cons_zero, List.set_cons_succ]
    refine wpAnyH_take (i := 14) (oi := ({ dst := some 89, op := Op.load 40 (Operand.tmp 17), type := 40, pos := "law.go:115", after := #[{ on := 10, ground := Ground.guard }], guard := some (10, true) } : Oper)) (v := ?v59) rfl (by kernel_rfl) (by kernel_rfl) (by kernel_rfl) (fun _ _ _ h => h) (Or.inl ⟨by rfl, ?hy59⟩) (by assumption) ?rest59
    case hy59 => (intro w hSw; (try dsimp only at hSw); go_simp; try with_reducible rfl)
    simp only [Act.put, List.setIfInBounds_toArray, List.set_cons_zero, List.set_cons_succ]
    refine wpAnyH_take (i := 15) (oi := ({ dst := some 90, op := Op.load 23 (Operand.tmp 12), type := 23, pos := "law.go:115", after := #[{ on := 10, ground := Ground.guard }], guard := some (10, true) } : Oper)) (v := ?v60) rfl (by kernel_rfl) (by kernel_rfl) (by kernel_rfl) (fun _ _ _ h => h) (Or.inl ⟨by rfl, ?hy60⟩) (by assumption) ?rest60
    case hy60 => (intro w hSw; (try dsimp only at hSw); go_simp; try with_reducible rfl)
    simp only [Act.put, List.setIfInBounds_toArray, List.set_cons_zero, List.set_cons_succ]
    refine wpAnyH_ready (rs := [13]) (by kernel_rfl) (by simp) ?_
    refine AllReadyH.cons (o := ({ dst := some 88, op := Op.call { callee := Callee.value (Operand.func 24), args := #[Operand.tmp 86, Operand.tmp 87], argTypes := #[40, 23] }, type := 4, pos := "law.go:115", after := #[{ on := 11, ground := Ground.data }, { on := 12, ground := Ground.data }, { on := 10, ground := Ground.chain }, { on := 10, ground := Ground.guard }], guard := some (10, true) } : Oper)) rfl (fun K hK => ?_) AllReadyH.nil
    go_simp
    (go_at_call 24; refine (C1.out _ (HLD.out _ (by assumption))).mono ?_; rintro e v13 ⟨rfl, hb13⟩)
    refine hK.out _ _ ?_ (fun hHeld => ?_)
    · exact HST2.out _ _ (by assumption) (by assumption)
    clear hK K
    try simp only [Act.put, List.setIfInBounds_toArray, List.set_cons_zero, List.set_cons_succ]
    refine wpAnyH_ready (rs := [16]) (by kernel_rfl) (by simp) ?_
    refine AllReadyH.cons (o := ({ dst := some 91, op := Op.call { callee := Callee.value (Operand.func 24), args := #[Operand.tmp 89, Operand.tmp 90], argTypes := #[40, 23] }, type := 4, pos := "law.go:115", after := #[{ on := 14, ground := Ground.data }, { on := 15, ground := Ground.data }, { on := 13, ground := Ground.chain }, { on := 10, ground := Ground.guard }], guard := some (10, true) } : Oper)) rfl (fun K hK => ?_) AllReadyH.nil
    go_simp
    (go_at_call 24; refine (C3.out _ (HLD.out _ (by assumption))).mono ?_; rintro e v16 ⟨rfl, hb16⟩)
    refine hK.out _ _ ?_ (fun hHeld => ?_)
    · exact HST2.out _ _ (by assumption) (by assumption)
    clear hK K
    try simp only [Act.put, List.setIfInBounds_toArray, List.set_cons_zero, List.set_cons_succ]
    refine wpAnyH_take (i := 17) (oi := ({ dst := some 92, op := Op.binOp BinOp.eql 4 (Operand.tmp 88) (Operand.tmp 91) 4, type := 4, pos := "law.go:115", after := #[{ on := 13, ground := Ground.data }, { on := 16, ground := Ground.data }, { on := 10, ground := Ground.guard }], guard := some (10, true) } : Oper)) (v := ?v61) rfl (by kernel_rfl) (by kernel_rfl) (by kernel_rfl) (fun _ _ _ h => h) (Or.inl ⟨by rfl, ?hy61⟩) (by assumption) ?rest61
    case hy61 => (intro w hSw; (try dsimp only at hSw); go_simp; try with_reducible rfl)
    simp only [Act.put, List.setIfInBounds_toArray, List.set_cons_zero, List.set_cons_succ]
    refine wpAnyH_take (i := 18) (oi := ({ dst := some 93, op := Op.pick (Operand.tmp 85) (Operand.tmp 92) (Operand.const (Value.bool false)), type := 4, pos := "law.go:115", after := #[{ on := 10, ground := Ground.data }, { on := 17, ground := Ground.data }], guard := none } : Oper)) (v := ?v62) rfl (by kernel_rfl) (by kernel_rfl) (by kernel_rfl) (fun _ _ _ h => h) (Or.inl ⟨by rfl, ?hy62⟩) (by assumption) ?rest62
    case hy62 => (intro w hSw; (try dsimp only at hSw); go_simp; try with_reducible rfl)
    simp only [Act.put, List.setIfInBounds_toArray, List.set_cons_zero, List.set_cons_succ]
    refine wpAnyH_take (i := 19) (oi := ({ dst := some 94, op := Op.move (Operand.tmp 93), type := 4, pos := "law.go:115", after := #[{ on := 18, ground := Ground.data }, { on := 16, ground := Ground.chain }], guard := none } : Oper)) (v := ?v63) rfl (by kernel_rfl) (by kernel_rfl) (by kernel_rfl) (fun _ _ _ h => h) (Or.inl ⟨by rfl, ?hy63⟩) (by assumption) ?rest63
    case hy63 => (intro w hSw; (try dsimp only at hSw); go_simp; try with_reducible rfl)
    simp only [Act.put, List.setIfInBounds_toArray, List.set_cons_zero, List.set_cons_succ]
    refine wpAnyH_take (i := 20) (oi := ({ dst := some 95, op := Op.load 40 (Operand.tmp 18), type := 40, pos := "law.go:115", after := #[{ on := 19, ground := Ground.guard }], guard := some (19, true) } : Oper)) (v := ?v64) rfl (by kernel_rfl) (by kernel_rfl) (by kernel_rfl) (fun _ _ _ h => h) (Or.inl ⟨by rfl, ?hy64⟩) (by assumption) ?rest64
    case hy64 => (intro w hSw; (try dsimp only at hSw); go_simp; try with_reducible rfl)
    simp only [Act.put, List.setIfInBounds_toArray, List.set_cons_zero, List.set_cons_succ]
    refine wpAnyH_take (i := 21) (oi := ({ dst := some 96, op := Op.load 23 (Operand.tmp 12), type := 23, pos := "law.go:115", after := #[{ on := 19, ground := Ground.guard }], guard := some (19, true) } : Oper)) (v := ?v65) rfl (by kernel_rfl) (by kernel_rfl) (by kernel_rfl) (fun _ _ _ h => h) (Or.inl ⟨by rfl, ?hy65⟩) (by assumption) ?rest65
    case hy65 => (intro w hSw; (try dsimp only at hSw); go_simp; try with_reducible rfl)
    simp only [Act.put, List.setIfInBounds_toArray, List.set_cons_zero, List.set_cons_succ]
    refine wpAnyH_ready (rs := [22]) (by kernel_rfl) (by simp) ?_
    refine AllReadyH.cons (o := ({ dst := some 97, op := Op.call { callee := Callee.value (Operand.func 24), args := #[Operand.tmp 95, Operand.tmp 96], argTypes := #[40, 23] }, type := 4, pos := "law.go:115", after := #[{ on := 20, ground := Ground.data }, { on := 21, ground := Ground.data }, { on := 19, ground := Ground.chain }, { on := 19, ground := Ground.guard }], guard := some (19, true) } : Oper)) rfl (fun K hK => ?_) AllReadyH.nil
    go_simp
    (go_at_call 24; refine (C4.out _ (HLD.out _ (by assumption))).mono ?_; rintro e v22 ⟨rfl, hb22⟩)
    refine hK.out _ _ ?_ (fun hHeld => ?_)
    · exact HST2.out _ _ (by assumption) (by assumption)
    clear hK K
    try simp only [Act.put, List.setIfInBounds_toArray, List.set_cons_zero, List.set_cons_succ]
    refine wpAnyH_take (i := 23) (oi := ({ dst := some 98, op := Op.pick (Operand.tmp 94) (Operand.tmp 97) (Operand.const (Value.bool false)), type := 4, pos := "law.go:115", after := #[{ on := 19, ground := Ground.data }, { on := 22, ground := Ground.data }], guard := none } : Oper)) (v := ?v66) rfl (by kernel_rfl) (by kernel_rfl) (by kernel_rfl) (fun _ _ _ h => h) (Or.inl ⟨by rfl, ?hy66⟩) (by assumption) ?rest66
    case hy66 => (intro w hSw; (try dsimp only at hSw); go_simp; try with_reducible rfl)
    simp only [Act.put, List.setIfInBounds_toArray, List.set_cons_zero, List.set_cons_succ]
    refine wpAnyH_take (i := 24) (oi := ({ dst := some 99, op := Op.move (Operand.tmp 98), type := 4, pos := "law.go:115", after := #[{ on := 23, ground := Ground.data }, { on := 22, ground := Ground.chain }], guard := none } : Oper)) (v := ?v67) rfl (by kernel_rfl) (by kernel_rfl) (by kernel_rfl) (fun _ _ _ h => h) (Or.inl ⟨by rfl, ?hy67⟩) (by assumption) ?rest67
    case hy67 => (intro w hSw; (try dsimp only at hSw); go_simp; try with_reducible rfl)
    simp only [Act.put, List.setIfInBounds_toArray, List.set_cons_zero, List.set_cons_succ]
    refine wpAnyH_take (i := 25) (oi := ({ dst := some 100, op := Op.load 40 (Operand.tmp 19), type := 40, pos := "law.go:115", after := #[{ on := 24, ground := Ground.guard }], guard := some (24, true) } : Oper)) (v := ?v68) rfl (by kernel_rfl) (by kernel_rfl) (by kernel_rfl) (fun _ _ _ h => h) (Or.inl ⟨by rfl, ?hy68⟩) (by assumption) ?rest68
    case hy68 => (intro w hSw; (try dsimp only at hSw); go_simp; try with_reducible rfl)
    simp only [Act.put, List.setIfInBounds_toArray, List.set_cons_zero, List.set_cons_succ]
    refine wpAnyH_take (i := 26) (oi := ({ dst := some 101, op := Op.load 23 (Operand.tmp 12), type := 23, pos := "law.go:115", after := #[{ on := 24, ground := Ground.guard }], guard := some (24, true) } : Oper)) (v := ?v69) rfl (by kernel_rfl) (by kernel_rfl) (by kernel_rfl) (fun _ _ _ h => h) (Or.inl ⟨by rfl, ?hy69⟩) (by assumption) ?rest69
    case hy69 => (intro w hSw; (try dsimp only at hSw); go_simp; try with_reducible rfl)
    simp only [Act.put, List.setIfInBounds_toArray, List.set_cons_zero, List.set_cons_succ]
    refine wpAnyH_take (i := 28) (oi := ({ dst := some 103, op := Op.fieldAddr 23 (Operand.tmp 12) 1, type := 0, pos := "law.go:115", after := #[{ on := 24, ground := Ground.guard }], guard := some (24, true) } : Oper)) (v := ?v70) rfl (by kernel_rfl) (by kernel_rfl) (by kernel_rfl) (fun _ _ _ h => h) (Or.inl ⟨by rfl, ?hy70⟩) (by assumption) ?rest70
    case hy70 => (intro w hSw; (try dsimp only at hSw); go_simp; try with_reducible rfl)
    simp only [Act.put, List.setIfInBounds_toArray, List.set_cons_zero, List.set_cons_succ]
    refine wpAnyH_take (i := 29) (oi := ({ dst := some 104, op := Op.load 3 (Operand.tmp 103), type := 3, pos := "law.go:115", after := #[{ on := 28, ground := Ground.data }, { on := 24, ground := Ground.guard }], guard := some (24, true) } : Oper)) (v := ?v71) rfl (by kernel_rfl) (by kernel_rfl) (by kernel_rfl) (fun _ _ _ h => h) (Or.inl ⟨by rfl, ?hy71⟩) (by assumption) ?rest71
    case hy71 => (intro w hSw; (try dsimp only at hSw); go_simp; try with_reducible rfl)
    simp only [Act.put, List.setIfInBounds_toArray, List.set_cons_zero, List.set_cons_succ]
    refine wpAnyH_take (i := 30) (oi := ({ dst := some 105, op := Op.fieldAddr 40 (Operand.tmp 14) 1, type := 0, pos := "law.go:115", after := #[{ on := 24, ground := Ground.guard }], guard := some (24, true) } : Oper)) (v := ?v72) rfl (by kernel_rfl) (by kernel_rfl) (by kernel_rfl) (fun _ _ _ h => h) (Or.inl ⟨by rfl, ?hy72⟩) (by assumption) ?rest72
    case hy72 => (intro w hSw; (try dsimp only at hSw); go_simp; try with_reducible rfl)
    simp only [Act.put, List.setIfInBounds_toArray, List.set_cons_zero, List.set_cons_succ]
    refine wpAnyH_take (i := 31) (oi := ({ dst := some 106, op := Op.load 3 (Operand.tmp 105), type := 3, pos := "law.go:115", after := #[{ on := 30, ground := Ground.data }, { on := 24, ground := Ground.guard }], guard := some (24, true) } : Oper)) (v := ?v73) rfl (by kernel_rfl) (by kernel_rfl) (by kernel_rfl) (fun _ _ _ h => h) (Or.inl ⟨by rfl, ?hy73⟩) (by assumption) ?rest73
    case hy73 => (intro w hSw; (try dsimp only at hSw); go_simp; try with_reducible rfl)
    simp only [Act.put, List.setIfInBounds_toArray, List.set_cons_zero, List.set_cons_succ]
    refine wpAnyH_take (i := 32) (oi := ({ dst := some 107, op := Op.binOp BinOp.eql 3 (Operand.tmp 104) (Operand.tmp 106) 3, type := 4, pos := "law.go:115", after := #[{ on := 29, ground := Ground.data }, { on := 31, ground := Ground.data }, { on := 24, ground := Ground.guard }], guard := some (24, true) } : Oper)) (v := ?v74) rfl (by kernel_rfl) (by kernel_rfl) (by kernel_rfl) (fun _ _ _ h => h) (Or.inl ⟨by rfl, ?hy74⟩) (by assumption) ?rest74
    case hy74 => (intro w hSw; (try dsimp only at hSw); go_simp; try with_reducible rfl)
    simp only [Act.put, List.setIfInBounds_toArray, List.set_cons_zero, List.set_cons_succ]
    refine wpAnyH_ready (rs := [27]) (by kernel_rfl) (by simp) ?_
    refine AllReadyH.cons (o := ({ dst := some 102, op := Op.call { callee := Callee.value (Operand.func 24), args := #[Operand.tmp 100, Operand.tmp 101], argTypes := #[40, 23] }, type := 4, pos := "law.go:115", after := #[{ on := 25, ground := Ground.data }, { on := 26, ground := Ground.data }, { on := 24, ground := Ground.chain }, { on := 24, ground := Ground.guard }], guard := some (24, true) } : Oper)) rfl (fun K hK => ?_) AllReadyH.nil
    go_simp
    (go_at_call 24; refine (C5.out _ (HLD.out _ (by assumption))).mono ?_; rintro e v27 ⟨rfl, hb27⟩)
    refine hK.out _ _ ?_ (fun hHeld => ?_)
    · exact HST2.out _ _ (by assumption) (by assumption)
    clear hK K
    try simp only [Act.put, List.setIfInBounds_toArray, List.set_cons_zero, List.set_cons_succ]
    refine wpAnyH_take (i := 33) (oi := ({ dst := some 108, op := Op.binOp BinOp.eql 4 (Operand.tmp 102) (Operand.tmp 107) 4, type := 4, pos := "law.go:115", after := #[{ on := 27, ground := Ground.data }, { on := 32, ground := Ground.data }, { on := 24, ground := Ground.guard }], guard := some (24, true) } : Oper)) (v := ?v75) rfl (by kernel_rfl) (by kernel_rfl) (by kernel_rfl) (fun _ _ _ h => h) (Or.inl ⟨by rfl, ?hy75⟩) (by assumption) ?rest75
    case hy75 => (intro w hSw; (try dsimp only at hSw); go_simp; try with_reducible rfl)
    simp only [Act.put, List.setIfInBounds_toArray, List.set_cons_zero, List.set_cons_succ]
    refine wpAnyH_take (i := 34) (oi := ({ dst := some 109, op := Op.pick (Operand.tmp 99) (Operand.tmp 108) (Operand.const (Value.bool false)), type := 4, pos := "law.go:115", after := #[{ on := 24, ground := Ground.data }, { on := 33, ground := Ground.data }], guard := none } : Oper)) (v := ?v76) rfl (by kernel_rfl) (by kernel_rfl) (by kernel_rfl) (fun _ _ _ h => h) (Or.inl ⟨by rfl, ?hy76⟩) (by assumption) ?rest76
    case hy76 => (intro w hSw; (try dsimp only at hSw); go_simp; try with_reducible rfl)
    simp only [Act.put, List.setIfInBounds_toArray, List.set_cons_zero, List.set_cons_succ]
    refine wpAnyH_take (i := 35) (oi := ({ dst := some 110, op := Op.move (Operand.tmp 109), type := 4, pos := "law.go:115", after := #[{ on := 34, ground := Ground.data }, { on := 27, ground := Ground.chain }], guard := none } : Oper)) (v := ?v77) rfl (by kernel_rfl) (by kernel_rfl) (by kernel_rfl) (fun _ _ _ h => h) (Or.inl ⟨by rfl, ?hy77⟩) (by assumption) ?rest77
    case hy77 => (intro w hSw; (try dsimp only at hSw); go_simp; try with_reducible rfl)
    simp only [Act.put, List.setIfInBounds_toArray, List.set_cons_zero, List.set_cons_succ]
    refine wpAnyH_take (i := 36) (oi := ({ dst := some 111, op := Op.load 40 (Operand.tmp 18), type := 40, pos := "law.go:115", after := #[{ on := 35, ground := Ground.guard }], guard := some (35, true) } : Oper)) (v := ?v78) rfl (by kernel_rfl) (by kernel_rfl) (by kernel_rfl) (fun _ _ _ h => h) (Or.inl ⟨by rfl, ?hy78⟩) (by assumption) ?rest78
    case hy78 => (intro w hSw; (try dsimp only at hSw); go_simp; try with_reducible rfl)
    simp only [Act.put, List.setIfInBounds_toArray, List.set_cons_zero, List.set_cons_succ]
    refine wpAnyH_take (i := 37) (oi := ({ dst := some 112, op := Op.load 23 (Operand.tmp 20), type := 23, pos := "law.go:115", after := #[{ on := 35, ground := Ground.guard }], guard := some (35, true) } : Oper)) (v := ?v79) rfl (by kernel_rfl) (by kernel_rfl) (by kernel_rfl) (fun _ _ _ h => h) (Or.inl ⟨by rfl, ?hy79⟩) (by assumption) ?rest79
    case hy79 => (intro w hSw; (try dsimp only at hSw); go_simp; try with_reducible rfl)
    simp only [Act.put, List.setIfInBounds_toArray, List.set_cons_zero, List.set_cons_succ]
    refine wpAnyH_ready (rs := [38]) (by kernel_rfl) (by simp) ?_
    refine AllReadyH.cons (o := ({ dst := some 113, op := Op.call { callee := Callee.value (Operand.func 24), args := #[Operand.tmp 111, Operand.tmp 112], argTypes := #[40, 23] }, type := 4, pos := "law.go:115", after := #[{ on := 36, ground := Ground.data }, { on := 37, ground := Ground.data }, { on := 35, ground := Ground.chain }, { on := 35, ground := Ground.guard }], guard := some (35, true) } : Oper)) rfl (fun K hK => ?_) AllReadyH.nil
    go_simp
    (go_at_call 24; refine (C6.out _ (HLD.out _ (by assumption))).mono ?_; rintro e v38 ⟨rfl, hb38⟩)
    refine hK.out _ _ ?_ (fun hHeld => ?_)
    · exact HST2.out _ _ (by assumption) (by assumption)
    clear hK K
    try simp only [Act.put, List.setIfInBounds_toArray, List.set_cons_zero, List.set_cons_succ]
    refine wpAnyH_take (i := 39) (oi := ({ dst := some 114, op := Op.unOp UnOp.not 4 (Operand.tmp 113), type := 4, pos := "law.go:115", after := #[{ on := 38, ground := Ground.data }, { on := 35, ground := Ground.guard }], guard := some (35, true) } : Oper)) (v := ?v80) rfl (by kernel_rfl) (by kernel_rfl) (by kernel_rfl) (fun _ _ _ h => h) (Or.inl ⟨by rfl, ?hy80⟩) (by assumption) ?rest80
    case hy80 => (intro w hSw; (try dsimp only at hSw); go_simp; try with_reducible rfl)
    simp only [Act.put, List.setIfInBounds_toArray, List.set_cons_zero, List.set_cons_succ]
    refine wpAnyH_take (i := 40) (oi := ({ dst := some 115, op := Op.pick (Operand.tmp 110) (Operand.tmp 114) (Operand.const (Value.bool false)), type := 4, pos := "law.go:115", after := #[{ on := 35, ground := Ground.data }, { on := 39, ground := Ground.data }], guard := none } : Oper)) (v := ?v81) rfl (by kernel_rfl) (by kernel_rfl) (by kernel_rfl) (fun _ _ _ h => h) (Or.inl ⟨by rfl, ?hy81⟩) (by assumption) ?rest81
    case hy81 => (intro w hSw; (try dsimp only at hSw); go_simp; try with_reducible rfl)
    simp only [Act.put, List.setIfInBounds_toArray, List.set_cons_zero, List.set_cons_succ]
    refine wpAnyH_take (i := 41) (oi := ({ dst := some 116, op := Op.move (Operand.tmp 115), type := 4, pos := "law.go:115", after := #[{ on := 40, ground := Ground.data }, { on := 38, ground := Ground.chain }], guard := none } : Oper)) (v := ?v82) rfl (by kernel_rfl) (by kernel_rfl) (by kernel_rfl) (fun _ _ _ h => h) (Or.inl ⟨by rfl, ?hy82⟩) (by assumption) ?rest82
    case hy82 => (intro w hSw; (try dsimp only at hSw); go_simp; try with_reducible rfl)
    simp only [Act.put, List.setIfInBounds_toArray, List.set_cons_zero, List.set_cons_succ]
    refine wpAnyH_take (i := 42) (oi := ({ dst := some 117, op := Op.load 23 (Operand.tmp 12), type := 23, pos := "law.go:115", after := #[{ on := 41, ground := Ground.guard }], guard := some (41, true) } : Oper)) (v := ?v83) rfl (by kernel_rfl) (by kernel_rfl) (by kernel_rfl) (fun _ _ _ h => h) (Or.inl ⟨by rfl, ?hy83⟩) (by assumption) ?rest83
    case hy83 => (intro w hSw; (try dsimp only at hSw); go_simp; try with_reducible rfl)
    simp only [Act.put, List.setIfInBounds_toArray, List.set_cons_zero, List.set_cons_succ]
    refine wpAnyH_take (i := 43) (oi := ({ dst := some 118, op := Op.load 40 (Operand.tmp 19), type := 40, pos := "law.go:115", after := #[{ on := 41, ground := Ground.guard }], guard := some (41, true) } : Oper)) (v := ?v84) rfl (by kernel_rfl) (by kernel_rfl) (by kernel_rfl) (fun _ _ _ h => h) (Or.inl ⟨by rfl, ?hy84⟩) (by assumption) ?rest84
    case hy84 => (intro w hSw; (try dsimp only at hSw); go_simp; try with_reducible rfl)
    simp only [Act.put, List.setIfInBounds_toArray, List.set_cons_zero, List.set_cons_succ]
    refine wpAnyH_take (i := 44) (oi := ({ dst := some 119, op := Op.load 40 (Operand.tmp 14), type := 40, pos := "law.go:115", after := #[{ on := 41, ground := Ground.guard }], guard := some (41, true) } : Oper)) (v := ?v85) rfl (by kernel_rfl) (by kernel_rfl) (by kernel_rfl) (fun _ _ _ h => h) (Or.inl ⟨by rfl, ?hy85⟩) (by assumption) ?rest85
    case hy85 => (intro w hSw; (try dsimp only at hSw); go_simp; try with_reducible rfl)
    simp only [Act.put, List.setIfInBounds_toArray, List.set_cons_zero, List.set_cons_succ]
    refine wpAnyH_take (i := 47) (oi := ({ dst := some 122, op := Op.load 40 (Operand.tmp 19), type := 40, pos := "law.go:115", after := #[{ on := 41, ground := Ground.guard }], guard := some (41, true) } : Oper)) (v := ?v86) rfl (by kernel_rfl) (by kernel_rfl) (by kernel_rfl) (fun _ _ _ h => h) (Or.inl ⟨by rfl, ?hy86⟩) (by assumption) ?rest86
    case hy86 => (intro w hSw; (try dsimp only at hSw); go_simp; try with_reducible rfl)
    simp only [Act.put, List.setIfInBounds_toArray, List.set_cons_zero, List.set_cons_succ]
    refine wpAnyH_take (i := 48) (oi := ({ dst := some 123, op := Op.load 23 (Operand.tmp 12), type := 23, pos := "law.go:115", after := #[{ on := 41, ground := Ground.guard }], guard := some (41, true) } : Oper)) (v := ?v87) rfl (by kernel_rfl) (by kernel_rfl) (by kernel_rfl) (fun _ _ _ h => h) (Or.inl ⟨by rfl, ?hy87⟩) (by assumption) ?rest87
    case hy87 => (intro w hSw; (try dsimp only at hSw); go_simp; try with_reducible rfl)
    simp only [Act.put, List.setIfInBounds_toArray, List.set_cons_zero, List.set_cons_succ]
    refine wpAnyH_ready (rs := [45]) (by kernel_rfl) (by simp) ?_
    refine AllReadyH.cons (o := ({ dst := some 120, op := Op.buildSlice 37 2 #[(0, Operand.tmp 118), (1, Operand.tmp 119)], type := 37, pos := "law.go:115", after := #[{ on := 43, ground := Ground.data }, { on := 44, ground := Ground.data }, { on := 41, ground := Ground.guard }], guard := some (41, true) } : Oper)) rfl (fun K hK => ?_) AllReadyH.nil
    go_simp
    refine hK.out _ _ ?_ (fun hHeld => ?_)
    · exact HST2.out _ _ (by assumption) (Joins.below_alloc1 _ _)
    clear hK K
    try simp only [Act.put, List.setIfInBounds_toArray, List.set_cons_zero, List.set_cons_succ]
    refine wpAnyH_ready (rs := [46]) (by kernel_rfl) (by simp) ?_
    refine AllReadyH.cons (o := ({ dst := some 121, op := Op.call { callee := Callee.value (Operand.func 26), args := #[Operand.tmp 117, Operand.tmp 120], argTypes := #[23, 37] }, type := 4, pos := "law.go:115", after := #[{ on := 42, ground := Ground.data }, { on := 45, ground := Ground.data }, { on := 41, ground := Ground.chain }, { on := 41, ground := Ground.guard }], guard := some (41, true) } : Oper)) rfl (fun K hK => ?_) AllReadyH.nil
    go_simp
    (go_at_call 26; refine (C8.out _ _ (HLD.out _ (by assumption)) (lie_two _ _ _ _ _ _ _ _)).mono ?_; rintro e v46 ⟨rfl, hb46⟩)
    refine hK.out _ _ ?_ (fun hHeld => ?_)
    · exact HST2.out _ _ (by assumption) (by assumption)
    clear hK K
    try simp only [Act.put, List.setIfInBounds_toArray, List.set_cons_zero, List.set_cons_succ]
    refine wpAnyH_ready (rs := [49]) (by kernel_rfl) (by simp) ?_
    refine AllReadyH.cons (o := ({ dst := some 124, op := Op.call { callee := Callee.value (Operand.func 24), args := #[Operand.tmp 122, Operand.tmp 123], argTypes := #[40, 23] }, type := 4, pos := "law.go:115", after := #[{ on := 47, ground := Ground.data }, { on := 48, ground := Ground.data }, { on := 46, ground := Ground.chain }, { on := 41, ground := Ground.guard }], guard := some (41, true) } : Oper)) rfl (fun K hK => ?_) AllReadyH.nil
    go_simp
    (go_at_call 24; refine (C5.out _ (HLD.out _ (by assumption))).mono ?_; rintro e v49 ⟨rfl, hb49⟩)
    refine hK.out _ _ ?_ (fun hHeld => ?_)
    · exact HST2.out _ _ (by assumption) (by assumption)
    clear hK K
    try simp only [Act.put, List.setIfInBounds_toArray, List.set_cons_zero, List.set_cons_succ]
    refine wpAnyH_take (i := 50) (oi := ({ dst := some 125, op := Op.move (Operand.tmp 124), type := 4, pos := "law.go:115", after := #[{ on := 49, ground := Ground.data }, { on := 49, ground := Ground.chain }, { on := 41, ground := Ground.guard }], guard := some (41, true) } : Oper)) (v := ?v88) rfl (by kernel_rfl) (by kernel_rfl) (by kernel_rfl) (fun _ _ _ h => h) (Or.inl ⟨by rfl, ?hy88⟩) (by assumption) ?rest88
    case hy88 => (intro w hSw; (try dsimp only at hSw); go_simp; try with_reducible rfl)
    simp only [Act.put, List.setIfInBounds_toArray, List.set_cons_zero, List.set_cons_succ]
    refine wpAnyH_take (i := 51) (oi := ({ dst := some 126, op := Op.load 40 (Operand.tmp 14), type := 40, pos := "law.go:115", after := #[{ on := 50, ground := Ground.guard }], guard := some (50, false) } : Oper)) (v := undef) rfl (by kernel_rfl) (by kernel_rfl) (by kernel_rfl) (fun _ _ _ h => h) (Or.inr ⟨by rfl, rfl⟩) (by assumption) ?_
    simp only [Act.put, List.setIfInBounds_toArray, List.set_cons_zero, List.set_cons_succ]
    refine wpAnyH_take (i := 52) (oi := ({ dst := some 127, op := Op.load 23 (Operand.tmp 12), type := 23, pos := "law.go:115", after := #[{ on := 50, ground := Ground.guard }], guard := some (50, false) } : Oper)) (v := undef) rfl (by kernel_rfl) (by kernel_rfl) (by kernel_rfl) (fun _ _ _ h => h) (Or.inr ⟨by rfl, rfl⟩) (by assumption) ?_
    simp only [Act.put, List.setIfInBounds_toArray, List.set_cons_zero, List.set_cons_succ]
    refine wpAnyH_take (i := 53) (oi := ({ dst := some 128, op := Op.call { callee := Callee.value (Operand.func 24), args := #[Operand.tmp 126, Operand.tmp 127], argTypes := #[40, 23] }, type := 4, pos := "law.go:115", after := #[{ on := 51, ground := Ground.data }, { on := 52, ground := Ground.data }, { on := 50, ground := Ground.chain }, { on := 50, ground := Ground.guard }], guard := some (50, false) } : Oper)) (v := undef) rfl (by kernel_rfl) (by kernel_rfl) (by kernel_rfl) (fun _ _ _ h => h) (Or.inr ⟨by rfl, rfl⟩) (by assumption) ?_
    simp only [Act.put, List.setIfInBounds_toArray, List.set_cons_zero, List.set_cons_succ]
    refine wpAnyH_take (i := 54) (oi := ({ dst := some 129, op := Op.pick (Operand.tmp 125) (Operand.const (Value.bool true)) (Operand.tmp 128), type := 4, pos := "law.go:115", after := #[{ on := 50, ground := Ground.data }, { on := 53, ground := Ground.data }, { on := 41, ground := Ground.guard }], guard := some (41, true) } : Oper)) (v := ?v89) rfl (by kernel_rfl) (by kernel_rfl) (by kernel_rfl) (fun _ _ _ h => h) (Or.inl ⟨by rfl, ?hy89⟩) (by assumption) ?rest89
    case hy89 => (intro w hSw; (try dsimp only at hSw); go_simp; try with_reducible rfl)
    simp only [Act.put, List.setIfInBounds_toArray, List.set_cons_zero, List.set_cons_succ]
    refine wpAnyH_take (i := 55) (oi := ({ dst := some 130, op := Op.binOp BinOp.eql 4 (Operand.tmp 121) (Operand.tmp 129) 4, type := 4, pos := "law.go:115", after := #[{ on := 46, ground := Ground.data }, { on := 54, ground := Ground.data }, { on := 41, ground := Ground.guard }], guard := some (41, true) } : Oper)) (v := ?v90) rfl (by kernel_rfl) (by kernel_rfl) (by kernel_rfl) (fun _ _ _ h => h) (Or.inl ⟨by rfl, ?hy90⟩) (by assumption) ?rest90
    case hy90 => (intro w hSw; (try dsimp only at hSw); go_simp; try with_reducible rfl)
    simp only [Act.put, List.setIfInBounds_toArray, List.set_cons_zero, List.set_cons_succ]
    refine wpAnyH_take (i := 56) (oi := ({ dst := some 131, op := Op.pick (Operand.tmp 116) (Operand.tmp 130) (Operand.const (Value.bool false)), type := 4, pos := "law.go:115", after := #[{ on := 41, ground := Ground.data }, { on := 55, ground := Ground.data }], guard := none } : Oper)) (v := ?v91) rfl (by kernel_rfl) (by kernel_rfl) (by kernel_rfl) (fun _ _ _ h => h) (Or.inl ⟨by rfl, ?hy91⟩) (by assumption) ?rest91
    case hy91 => (intro w hSw; (try dsimp only at hSw); go_simp; try with_reducible rfl)
    simp only [Act.put, List.setIfInBounds_toArray, List.set_cons_zero, List.set_cons_succ]
    refine wpAnyH_take (i := 57) (oi := ({ dst := some 10, op := Op.assign (Operand.tmp 131), type := 4, pos := "law.go:115", after := #[{ on := 56, ground := Ground.data }, { on := 53, ground := Ground.chain }, { on := 0, ground := Ground.phase }, { on := 1, ground := Ground.phase }, { on := 2, ground := Ground.phase }, { on := 3, ground := Ground.phase }, { on := 4, ground := Ground.phase }, { on := 5, ground := Ground.phase }, { on := 6, ground := Ground.phase }, { on := 7, ground := Ground.phase }, { on := 8, ground := Ground.phase }, { on := 9, ground := Ground.phase }, { on := 10, ground := Ground.phase }, { on := 11, ground := Ground.phase }, { on := 12, ground := Ground.phase }, { on := 13, ground := Ground.phase }, { on := 14, ground := Ground.phase }, { on := 15, ground := Ground.phase }, { on := 16, ground := Ground.phase }, { on := 17, ground := Ground.phase }, { on := 18, ground := Ground.phase }, { on := 19, ground := Ground.phase }, { on := 20, ground := Ground.phase }, { on := 21, ground := Ground.phase }, { on := 22, ground := Ground.phase }, { on := 23, ground := Ground.phase }, { on := 24, ground := Ground.phase }, { on := 25, ground := Ground.phase }, { on := 26, ground := Ground.phase }, { on := 27, ground := Ground.phase }, { on := 28, ground := Ground.phase }, { on := 29, ground := Ground.phase }, { on := 30, ground := Ground.phase }, { on := 31, ground := Ground.phase }, { on := 32, ground := Ground.phase }, { on := 33, ground := Ground.phase }, { on := 34, ground := Ground.phase }, { on := 35, ground := Ground.phase }, { on := 36, ground := Ground.phase }, { on := 37, ground := Ground.phase }, { on := 38, ground := Ground.phase }, { on := 39, ground := Ground.phase }, { on := 40, ground := Ground.phase }, { on := 41, ground := Ground.phase }, { on := 42, ground := Ground.phase }, { on := 43, ground := Ground.phase }, { on := 44, ground := Ground.phase }, { on := 45, ground := Ground.phase }, { on := 46, ground := Ground.phase }, { on := 47, ground := Ground.phase }, { on := 48, ground := Ground.phase }, { on := 49, ground := Ground.phase }, { on := 50, ground := Ground.phase }, { on := 51, ground := Ground.phase }, { on := 52, ground := Ground.phase }, { on := 53, ground := Ground.phase }, { on := 54, ground := Ground.phase }, { on := 55, ground := Ground.phase }, { on := 56, ground := Ground.phase }], guard := none } : Oper)) (v := ?v92) rfl (by kernel_rfl) (by kernel_rfl) (by kernel_rfl) (fun _ _ _ h => h) (Or.inl ⟨by rfl, ?hy92⟩) (by assumption) ?rest92
    case hy92 => (intro w hSw; (try dsimp only at hSw); go_simp; try with_reducible rfl)
    simp only [Act.put, List.setIfInBounds_toArray, List.set_cons_zero, List.set_cons_succ]
    refine wpAnyH_done (by kernel_rfl) ?_ _
    go_wp2_with fail
    go_ret
    exact ⟨rfl, below_trans hW (HSL.out _ (by assumption))⟩

end Go.Proofs.YtnngkpcikmbnmaaDoor

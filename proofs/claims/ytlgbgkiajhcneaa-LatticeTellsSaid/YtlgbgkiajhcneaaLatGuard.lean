/-
  What a guard makes of each of the calls' closures.
-/
import Derived.Test.YtlgbgkiajhcneaaLatClos
namespace Go.Proofs.Ytlgbgkiajhcneaa
open Go.RowKit

def sel {T : Type} (b : Bool) (x y : T) : T := if b then x else y
theorem ret_bi {a b : Bool} {c d : Int} (h : a = b) (k : c = d) : Ending.returned (.tuple #[.bool a, .int .i64 c]) = .returned (.tuple #[.bool b, .int .i64 d]) := by rw [h, k]


set_option maxRecDepth 100000 in
set_option maxHeartbeats 1000000 in
theorem guardNear (la lg : Int) (A : Option Addr) (c : Nat) (ts : List Int) (hlen : ts.length ≤ 100) (p0 : Addr) (V : Bool) (w : World) (hr : Row w w.heap.size A ts)
    (hc : rightL la lg = true → (∀ t ∈ ts, timeB t = true) → ∀ W, Below w.heap.size w W → Calls Try.prog 28 #[gv la (la + lg) (lg / 2), .pointer (some p0)] W fun e w' => e = .returned (.bool (V)) ∧ Below W.heap.size W w') :
    Calls Try.prog 27 #[lv la lg, .func (.func 28) #[] #[.pointer (some p0)], .slice A ts.length c] w fun e w' => e = .returned (.tuple #[.bool (sel (rightL la lg && ts.all timeB) V false), .int .i64 (errB (rightL la lg && ts.all timeB))]) ∧ Below w.heap.size w w' := by
  have HRI := Lib.hid (rightL_iff la lg)
  have cr := fun W => right_any la lg W
  have HB := Lib.hid (Joins.below_alloc1 w (.cells #[.int .i64 la, .int .i64 lg] 23))
  have HL := Lib.hid (LtAt.new w la lg)
  obtain ⟨y0, y1⟩ := HL.out.cells
  cases hrt : rightL la lg
  · rw [hrt] at cr
    clear hrt hc HRI
    go_enter Try.func27, Try.ntmps27
    go_wp2_with fail; refine (cr _).mono ?_; rintro e w1 ⟨rfl, b1⟩
    have HB1 := Lib.hid (HB.out.trans (b1.mono HB.out.size)); clear b1 y0 y1
    go_wp2_with fail
    go_ret2
    exact ⟨ret_bi (by rfl) (by rfl), HB1.out⟩
  · have CG := Lib.hid (fun W => gridOf_any la lg (HRI.out.1 hrt) W)
    have HC := Lib.hid (hc hrt); clear hc
    rw [hrt] at cr
    rw [Bool.true_and]
    clear hrt HRI
    generalize la + lg = S at *
    generalize lg / 2 = hf at *
    go_enter Try.func27, Try.ntmps27
    go_wp2_with fail; refine (cr _).mono ?_; rintro e w1 ⟨rfl, b1⟩
    have HB1 := Lib.hid (HB.out.trans (b1.mono HB.out.size))
    obtain ⟨z0, z1⟩ := (HL.out.on b1).cells
    clear b1 y0 y1
    go_wp2_with fail; refine (CG.out _).mono ?_; rintro e w2 ⟨rfl, b2⟩
    have HB2 := Lib.hid (HB1.out.trans (b2.mono HB1.out.size))
    have HG2 := Lib.hid (GrAt.new w2 la S hf)
    have HB3 := Lib.hid (HB2.out.trans ((Joins.below_alloc1 w2 (.cells #[.int .i64 la, .int .i64 S, .int .i64 hf, gfn] 46)).mono HB2.out.size))
    clear b2 z0 z1
    have hsf : ∀ (p : Addr) (m : Mode) (W : World), (store p (.func (.func 44) #[] #[]) m).run Try.prog W = stored Try.prog W p gfn m := fun p m W => run_store _ W p _ m rfl
    go_wp2_with fail
    generalize w2.alloc (.cells #[.int .i64 la, .int .i64 S, .int .i64 hf, gfn] 46) = X at *
    have HW0 := Lib.hid (Below.refl X.heap.size X)
    obtain ⟨bx, hbx⟩ : ∃ b, w2.heap.size = b := ⟨_, rfl⟩
    rw [hbx] at HG2
    try rw [hbx]
    clear CG hbx hsf cr
    go_loopw [20] (fun i wr => ∃ k : Nat, k ≤ ts.length ∧ i = .int .i64 k ∧ (ts.take k).all timeB = true ∧ Below X.heap.size X wr) (fun i _ => ts.length - (intOf i).toNat)
    case atStart => exact ⟨0, by omega, rfl, rfl, HW0.out⟩
    case round =>
      obtain ⟨k, hk, rfl, hall, hb⟩ := hrel
      have HA := Lib.hid hall
      have HBk := Lib.hid hb
      have HBB := Lib.hid (HB3.out.trans (hb.mono HB3.out.size))
      obtain ⟨z0, z1, z2, z3⟩ := (HG2.out.on hb).cells
      clear hall hb HW0
      by_cases hlt : k < ts.length
      · have hkI : (k : Int) < (ts.length : Int) := by omega
        obtain ⟨t, ht⟩ : ∃ t, ts[k]? = some t := ⟨_, List.getElem?_eq_getElem hlt⟩
        obtain ⟨ad, rfl, hadb, hcc⟩ := (hr.below HBB.out (Nat.le_refl _)) (by omega)
        have hck := hcc k t ht
        have cm := fun W => gmay_any t W
        have HT := Lib.hid (show (ts.take (k + 1)).all timeB = timeB t by
          obtain ⟨h1, h2⟩ := List.getElem?_eq_some_iff.1 ht
          rw [List.take_succ_eq_append_getElem h1, h2, List.all_append, HA.out]; simp)
        have HN : Hid (timeB t = false → ts.all timeB = false) := Lib.hid (fun h => by
          rw [List.all_eq_false]
          exact ⟨t, List.mem_of_getElem? ht, by rw [h]; simp⟩)
        cases htb : timeB t
        · rw [htb] at cm
          have HF := Lib.hid (HN.out htb)
          clear ht hcc htb HN HT
          go_wp2_with fail; refine (cm _).mono ?_; rintro e w4 ⟨rfl, rfl⟩
          go_wp2_with fail
          go_ret2
          exact ⟨ret_bi (by rw [HF.out]; rfl) (by rw [HF.out]; rfl), HBB.out⟩
        · rw [htb] at cm HT
          clear ht hcc htb HN
          go_wp2_with fail; refine (cm _).mono ?_; rintro e w4 ⟨rfl, rfl⟩
          go_wp2_with fail
          go_roundw
          case rel => exact ⟨k + 1, by omega, by go_num, HT.out, HBk.out⟩
          case measure => simp [intOf]; omega
      · have hkI : ¬ (k : Int) < (ts.length : Int) := by omega
        have ek : k = ts.length := by omega
        have HF := Lib.hid (show ts.all timeB = true by have := HA.out; rwa [ek, List.take_length] at this)
        have cc := HC.out (List.all_eq_true.1 HF.out) _ HBB.out
        clear ek
        go_wp2_with fail; refine cc.mono ?_; rintro e w4 ⟨rfl, b4⟩
        have HB4 := Lib.hid (HBB.out.trans (b4.mono HBB.out.size)); clear b4 z0 z1 z2 z3 cc
        go_wp2_with fail
        go_ret2
        exact ⟨ret_bi (by rw [HF.out]; rfl) (by rw [HF.out]; rfl), HB4.out⟩


set_option maxRecDepth 100000 in
set_option maxHeartbeats 1000000 in
theorem guardActive (la lg : Int) (A : Option Addr) (c : Nat) (ts : List Int) (hlen : ts.length ≤ 100) (p0 : Addr) (V : Bool) (w : World) (hr : Row w w.heap.size A ts)
    (hc : rightL la lg = true → (∀ t ∈ ts, timeB t = true) → ∀ W, Below w.heap.size w W → Calls Try.prog 42 #[gv la (la + lg) (lg / 2), .pointer (some p0)] W fun e w' => e = .returned (.bool (V)) ∧ Below W.heap.size W w') :
    Calls Try.prog 27 #[lv la lg, .func (.func 42) #[] #[.pointer (some p0)], .slice A ts.length c] w fun e w' => e = .returned (.tuple #[.bool (sel (rightL la lg && ts.all timeB) V false), .int .i64 (errB (rightL la lg && ts.all timeB))]) ∧ Below w.heap.size w w' := by
  have HRI := Lib.hid (rightL_iff la lg)
  have cr := fun W => right_any la lg W
  have HB := Lib.hid (Joins.below_alloc1 w (.cells #[.int .i64 la, .int .i64 lg] 23))
  have HL := Lib.hid (LtAt.new w la lg)
  obtain ⟨y0, y1⟩ := HL.out.cells
  cases hrt : rightL la lg
  · rw [hrt] at cr
    clear hrt hc HRI
    go_enter Try.func27, Try.ntmps27
    go_wp2_with fail; refine (cr _).mono ?_; rintro e w1 ⟨rfl, b1⟩
    have HB1 := Lib.hid (HB.out.trans (b1.mono HB.out.size)); clear b1 y0 y1
    go_wp2_with fail
    go_ret2
    exact ⟨ret_bi (by rfl) (by rfl), HB1.out⟩
  · have CG := Lib.hid (fun W => gridOf_any la lg (HRI.out.1 hrt) W)
    have HC := Lib.hid (hc hrt); clear hc
    rw [hrt] at cr
    rw [Bool.true_and]
    clear hrt HRI
    generalize la + lg = S at *
    generalize lg / 2 = hf at *
    go_enter Try.func27, Try.ntmps27
    go_wp2_with fail; refine (cr _).mono ?_; rintro e w1 ⟨rfl, b1⟩
    have HB1 := Lib.hid (HB.out.trans (b1.mono HB.out.size))
    obtain ⟨z0, z1⟩ := (HL.out.on b1).cells
    clear b1 y0 y1
    go_wp2_with fail; refine (CG.out _).mono ?_; rintro e w2 ⟨rfl, b2⟩
    have HB2 := Lib.hid (HB1.out.trans (b2.mono HB1.out.size))
    have HG2 := Lib.hid (GrAt.new w2 la S hf)
    have HB3 := Lib.hid (HB2.out.trans ((Joins.below_alloc1 w2 (.cells #[.int .i64 la, .int .i64 S, .int .i64 hf, gfn] 46)).mono HB2.out.size))
    clear b2 z0 z1
    have hsf : ∀ (p : Addr) (m : Mode) (W : World), (store p (.func (.func 44) #[] #[]) m).run Try.prog W = stored Try.prog W p gfn m := fun p m W => run_store _ W p _ m rfl
    go_wp2_with fail
    generalize w2.alloc (.cells #[.int .i64 la, .int .i64 S, .int .i64 hf, gfn] 46) = X at *
    have HW0 := Lib.hid (Below.refl X.heap.size X)
    obtain ⟨bx, hbx⟩ : ∃ b, w2.heap.size = b := ⟨_, rfl⟩
    rw [hbx] at HG2
    try rw [hbx]
    clear CG hbx hsf cr
    go_loopw [20] (fun i wr => ∃ k : Nat, k ≤ ts.length ∧ i = .int .i64 k ∧ (ts.take k).all timeB = true ∧ Below X.heap.size X wr) (fun i _ => ts.length - (intOf i).toNat)
    case atStart => exact ⟨0, by omega, rfl, rfl, HW0.out⟩
    case round =>
      obtain ⟨k, hk, rfl, hall, hb⟩ := hrel
      have HA := Lib.hid hall
      have HBk := Lib.hid hb
      have HBB := Lib.hid (HB3.out.trans (hb.mono HB3.out.size))
      obtain ⟨z0, z1, z2, z3⟩ := (HG2.out.on hb).cells
      clear hall hb HW0
      by_cases hlt : k < ts.length
      · have hkI : (k : Int) < (ts.length : Int) := by omega
        obtain ⟨t, ht⟩ : ∃ t, ts[k]? = some t := ⟨_, List.getElem?_eq_getElem hlt⟩
        obtain ⟨ad, rfl, hadb, hcc⟩ := (hr.below HBB.out (Nat.le_refl _)) (by omega)
        have hck := hcc k t ht
        have cm := fun W => gmay_any t W
        have HT := Lib.hid (show (ts.take (k + 1)).all timeB = timeB t by
          obtain ⟨h1, h2⟩ := List.getElem?_eq_some_iff.1 ht
          rw [List.take_succ_eq_append_getElem h1, h2, List.all_append, HA.out]; simp)
        have HN : Hid (timeB t = false → ts.all timeB = false) := Lib.hid (fun h => by
          rw [List.all_eq_false]
          exact ⟨t, List.mem_of_getElem? ht, by rw [h]; simp⟩)
        cases htb : timeB t
        · rw [htb] at cm
          have HF := Lib.hid (HN.out htb)
          clear ht hcc htb HN HT
          go_wp2_with fail; refine (cm _).mono ?_; rintro e w4 ⟨rfl, rfl⟩
          go_wp2_with fail
          go_ret2
          exact ⟨ret_bi (by rw [HF.out]; rfl) (by rw [HF.out]; rfl), HBB.out⟩
        · rw [htb] at cm HT
          clear ht hcc htb HN
          go_wp2_with fail; refine (cm _).mono ?_; rintro e w4 ⟨rfl, rfl⟩
          go_wp2_with fail
          go_roundw
          case rel => exact ⟨k + 1, by omega, by go_num, HT.out, HBk.out⟩
          case measure => simp [intOf]; omega
      · have hkI : ¬ (k : Int) < (ts.length : Int) := by omega
        have ek : k = ts.length := by omega
        have HF := Lib.hid (show ts.all timeB = true by have := HA.out; rwa [ek, List.take_length] at this)
        have cc := HC.out (List.all_eq_true.1 HF.out) _ HBB.out
        clear ek
        go_wp2_with fail; refine cc.mono ?_; rintro e w4 ⟨rfl, b4⟩
        have HB4 := Lib.hid (HBB.out.trans (b4.mono HBB.out.size)); clear b4 z0 z1 z2 z3 cc
        go_wp2_with fail
        go_ret2
        exact ⟨ret_bi (by rw [HF.out]; rfl) (by rw [HF.out]; rfl), HB4.out⟩


set_option maxRecDepth 100000 in
set_option maxHeartbeats 1000000 in
theorem guardNext (la lg : Int) (A : Option Addr) (c : Nat) (ts : List Int) (hlen : ts.length ≤ 100) (p0 : Addr) (V : Int) (w : World) (hr : Row w w.heap.size A ts)
    (hc : rightL la lg = true → (∀ t ∈ ts, timeB t = true) → ∀ W, Below w.heap.size w W → Calls Try.prog 30 #[gv la (la + lg) (lg / 2), .pointer (some p0)] W fun e w' => e = .returned (.int .i64 (V)) ∧ Below W.heap.size W w') :
    Calls Try.prog 29 #[lv la lg, .func (.func 30) #[] #[.pointer (some p0)], .slice A ts.length c] w fun e w' => e = .returned (.tuple #[.int .i64 (sel (rightL la lg && ts.all timeB) V 0), .int .i64 (errB (rightL la lg && ts.all timeB))]) ∧ Below w.heap.size w w' := by
  have HRI := Lib.hid (rightL_iff la lg)
  have cr := fun W => right_any la lg W
  have HB := Lib.hid (Joins.below_alloc1 w (.cells #[.int .i64 la, .int .i64 lg] 23))
  have HL := Lib.hid (LtAt.new w la lg)
  obtain ⟨y0, y1⟩ := HL.out.cells
  cases hrt : rightL la lg
  · rw [hrt] at cr
    clear hrt hc HRI
    go_enter Try.func29, Try.ntmps29
    go_wp2_with fail; refine (cr _).mono ?_; rintro e w1 ⟨rfl, b1⟩
    have HB1 := Lib.hid (HB.out.trans (b1.mono HB.out.size)); clear b1 y0 y1
    go_wp2_with fail
    go_ret2
    exact ⟨ret_ii (by rfl) (by rfl), HB1.out⟩
  · have CG := Lib.hid (fun W => gridOf_any la lg (HRI.out.1 hrt) W)
    have HC := Lib.hid (hc hrt); clear hc
    rw [hrt] at cr
    rw [Bool.true_and]
    clear hrt HRI
    generalize la + lg = S at *
    generalize lg / 2 = hf at *
    go_enter Try.func29, Try.ntmps29
    go_wp2_with fail; refine (cr _).mono ?_; rintro e w1 ⟨rfl, b1⟩
    have HB1 := Lib.hid (HB.out.trans (b1.mono HB.out.size))
    obtain ⟨z0, z1⟩ := (HL.out.on b1).cells
    clear b1 y0 y1
    go_wp2_with fail; refine (CG.out _).mono ?_; rintro e w2 ⟨rfl, b2⟩
    have HB2 := Lib.hid (HB1.out.trans (b2.mono HB1.out.size))
    have HG2 := Lib.hid (GrAt.new w2 la S hf)
    have HB3 := Lib.hid (HB2.out.trans ((Joins.below_alloc1 w2 (.cells #[.int .i64 la, .int .i64 S, .int .i64 hf, gfn] 46)).mono HB2.out.size))
    clear b2 z0 z1
    have hsf : ∀ (p : Addr) (m : Mode) (W : World), (store p (.func (.func 44) #[] #[]) m).run Try.prog W = stored Try.prog W p gfn m := fun p m W => run_store _ W p _ m rfl
    go_wp2_with fail
    generalize w2.alloc (.cells #[.int .i64 la, .int .i64 S, .int .i64 hf, gfn] 46) = X at *
    have HW0 := Lib.hid (Below.refl X.heap.size X)
    obtain ⟨bx, hbx⟩ : ∃ b, w2.heap.size = b := ⟨_, rfl⟩
    rw [hbx] at HG2
    try rw [hbx]
    clear CG hbx hsf cr
    go_loopw [20] (fun i wr => ∃ k : Nat, k ≤ ts.length ∧ i = .int .i64 k ∧ (ts.take k).all timeB = true ∧ Below X.heap.size X wr) (fun i _ => ts.length - (intOf i).toNat)
    case atStart => exact ⟨0, by omega, rfl, rfl, HW0.out⟩
    case round =>
      obtain ⟨k, hk, rfl, hall, hb⟩ := hrel
      have HA := Lib.hid hall
      have HBk := Lib.hid hb
      have HBB := Lib.hid (HB3.out.trans (hb.mono HB3.out.size))
      obtain ⟨z0, z1, z2, z3⟩ := (HG2.out.on hb).cells
      clear hall hb HW0
      by_cases hlt : k < ts.length
      · have hkI : (k : Int) < (ts.length : Int) := by omega
        obtain ⟨t, ht⟩ : ∃ t, ts[k]? = some t := ⟨_, List.getElem?_eq_getElem hlt⟩
        obtain ⟨ad, rfl, hadb, hcc⟩ := (hr.below HBB.out (Nat.le_refl _)) (by omega)
        have hck := hcc k t ht
        have cm := fun W => gmay_any t W
        have HT := Lib.hid (show (ts.take (k + 1)).all timeB = timeB t by
          obtain ⟨h1, h2⟩ := List.getElem?_eq_some_iff.1 ht
          rw [List.take_succ_eq_append_getElem h1, h2, List.all_append, HA.out]; simp)
        have HN : Hid (timeB t = false → ts.all timeB = false) := Lib.hid (fun h => by
          rw [List.all_eq_false]
          exact ⟨t, List.mem_of_getElem? ht, by rw [h]; simp⟩)
        cases htb : timeB t
        · rw [htb] at cm
          have HF := Lib.hid (HN.out htb)
          clear ht hcc htb HN HT
          go_wp2_with fail; refine (cm _).mono ?_; rintro e w4 ⟨rfl, rfl⟩
          go_wp2_with fail
          go_ret2
          exact ⟨ret_ii (by rw [HF.out]; rfl) (by rw [HF.out]; rfl), HBB.out⟩
        · rw [htb] at cm HT
          clear ht hcc htb HN
          go_wp2_with fail; refine (cm _).mono ?_; rintro e w4 ⟨rfl, rfl⟩
          go_wp2_with fail
          go_roundw
          case rel => exact ⟨k + 1, by omega, by go_num, HT.out, HBk.out⟩
          case measure => simp [intOf]; omega
      · have hkI : ¬ (k : Int) < (ts.length : Int) := by omega
        have ek : k = ts.length := by omega
        have HF := Lib.hid (show ts.all timeB = true by have := HA.out; rwa [ek, List.take_length] at this)
        have cc := HC.out (List.all_eq_true.1 HF.out) _ HBB.out
        clear ek
        go_wp2_with fail; refine cc.mono ?_; rintro e w4 ⟨rfl, b4⟩
        have HB4 := Lib.hid (HBB.out.trans (b4.mono HBB.out.size)); clear b4 z0 z1 z2 z3 cc
        go_wp2_with fail
        go_ret2
        exact ⟨ret_ii (by rw [HF.out]; rfl) (by rw [HF.out]; rfl), HB4.out⟩


set_option maxRecDepth 100000 in
set_option maxHeartbeats 1000000 in
theorem guardEpoch (la lg : Int) (A : Option Addr) (c : Nat) (ts : List Int) (hlen : ts.length ≤ 100) (p0 : Addr) (V : Int) (w : World) (hr : Row w w.heap.size A ts)
    (hc : rightL la lg = true → (∀ t ∈ ts, timeB t = true) → ∀ W, Below w.heap.size w W → Calls Try.prog 35 #[gv la (la + lg) (lg / 2), .pointer (some p0)] W fun e w' => e = .returned (.int .i64 (V)) ∧ Below W.heap.size W w') :
    Calls Try.prog 29 #[lv la lg, .func (.func 35) #[] #[.pointer (some p0)], .slice A ts.length c] w fun e w' => e = .returned (.tuple #[.int .i64 (sel (rightL la lg && ts.all timeB) V 0), .int .i64 (errB (rightL la lg && ts.all timeB))]) ∧ Below w.heap.size w w' := by
  have HRI := Lib.hid (rightL_iff la lg)
  have cr := fun W => right_any la lg W
  have HB := Lib.hid (Joins.below_alloc1 w (.cells #[.int .i64 la, .int .i64 lg] 23))
  have HL := Lib.hid (LtAt.new w la lg)
  obtain ⟨y0, y1⟩ := HL.out.cells
  cases hrt : rightL la lg
  · rw [hrt] at cr
    clear hrt hc HRI
    go_enter Try.func29, Try.ntmps29
    go_wp2_with fail; refine (cr _).mono ?_; rintro e w1 ⟨rfl, b1⟩
    have HB1 := Lib.hid (HB.out.trans (b1.mono HB.out.size)); clear b1 y0 y1
    go_wp2_with fail
    go_ret2
    exact ⟨ret_ii (by rfl) (by rfl), HB1.out⟩
  · have CG := Lib.hid (fun W => gridOf_any la lg (HRI.out.1 hrt) W)
    have HC := Lib.hid (hc hrt); clear hc
    rw [hrt] at cr
    rw [Bool.true_and]
    clear hrt HRI
    generalize la + lg = S at *
    generalize lg / 2 = hf at *
    go_enter Try.func29, Try.ntmps29
    go_wp2_with fail; refine (cr _).mono ?_; rintro e w1 ⟨rfl, b1⟩
    have HB1 := Lib.hid (HB.out.trans (b1.mono HB.out.size))
    obtain ⟨z0, z1⟩ := (HL.out.on b1).cells
    clear b1 y0 y1
    go_wp2_with fail; refine (CG.out _).mono ?_; rintro e w2 ⟨rfl, b2⟩
    have HB2 := Lib.hid (HB1.out.trans (b2.mono HB1.out.size))
    have HG2 := Lib.hid (GrAt.new w2 la S hf)
    have HB3 := Lib.hid (HB2.out.trans ((Joins.below_alloc1 w2 (.cells #[.int .i64 la, .int .i64 S, .int .i64 hf, gfn] 46)).mono HB2.out.size))
    clear b2 z0 z1
    have hsf : ∀ (p : Addr) (m : Mode) (W : World), (store p (.func (.func 44) #[] #[]) m).run Try.prog W = stored Try.prog W p gfn m := fun p m W => run_store _ W p _ m rfl
    go_wp2_with fail
    generalize w2.alloc (.cells #[.int .i64 la, .int .i64 S, .int .i64 hf, gfn] 46) = X at *
    have HW0 := Lib.hid (Below.refl X.heap.size X)
    obtain ⟨bx, hbx⟩ : ∃ b, w2.heap.size = b := ⟨_, rfl⟩
    rw [hbx] at HG2
    try rw [hbx]
    clear CG hbx hsf cr
    go_loopw [20] (fun i wr => ∃ k : Nat, k ≤ ts.length ∧ i = .int .i64 k ∧ (ts.take k).all timeB = true ∧ Below X.heap.size X wr) (fun i _ => ts.length - (intOf i).toNat)
    case atStart => exact ⟨0, by omega, rfl, rfl, HW0.out⟩
    case round =>
      obtain ⟨k, hk, rfl, hall, hb⟩ := hrel
      have HA := Lib.hid hall
      have HBk := Lib.hid hb
      have HBB := Lib.hid (HB3.out.trans (hb.mono HB3.out.size))
      obtain ⟨z0, z1, z2, z3⟩ := (HG2.out.on hb).cells
      clear hall hb HW0
      by_cases hlt : k < ts.length
      · have hkI : (k : Int) < (ts.length : Int) := by omega
        obtain ⟨t, ht⟩ : ∃ t, ts[k]? = some t := ⟨_, List.getElem?_eq_getElem hlt⟩
        obtain ⟨ad, rfl, hadb, hcc⟩ := (hr.below HBB.out (Nat.le_refl _)) (by omega)
        have hck := hcc k t ht
        have cm := fun W => gmay_any t W
        have HT := Lib.hid (show (ts.take (k + 1)).all timeB = timeB t by
          obtain ⟨h1, h2⟩ := List.getElem?_eq_some_iff.1 ht
          rw [List.take_succ_eq_append_getElem h1, h2, List.all_append, HA.out]; simp)
        have HN : Hid (timeB t = false → ts.all timeB = false) := Lib.hid (fun h => by
          rw [List.all_eq_false]
          exact ⟨t, List.mem_of_getElem? ht, by rw [h]; simp⟩)
        cases htb : timeB t
        · rw [htb] at cm
          have HF := Lib.hid (HN.out htb)
          clear ht hcc htb HN HT
          go_wp2_with fail; refine (cm _).mono ?_; rintro e w4 ⟨rfl, rfl⟩
          go_wp2_with fail
          go_ret2
          exact ⟨ret_ii (by rw [HF.out]; rfl) (by rw [HF.out]; rfl), HBB.out⟩
        · rw [htb] at cm HT
          clear ht hcc htb HN
          go_wp2_with fail; refine (cm _).mono ?_; rintro e w4 ⟨rfl, rfl⟩
          go_wp2_with fail
          go_roundw
          case rel => exact ⟨k + 1, by omega, by go_num, HT.out, HBk.out⟩
          case measure => simp [intOf]; omega
      · have hkI : ¬ (k : Int) < (ts.length : Int) := by omega
        have ek : k = ts.length := by omega
        have HF := Lib.hid (show ts.all timeB = true by have := HA.out; rwa [ek, List.take_length] at this)
        have cc := HC.out (List.all_eq_true.1 HF.out) _ HBB.out
        clear ek
        go_wp2_with fail; refine cc.mono ?_; rintro e w4 ⟨rfl, b4⟩
        have HB4 := Lib.hid (HBB.out.trans (b4.mono HBB.out.size)); clear b4 z0 z1 z2 z3 cc
        go_wp2_with fail
        go_ret2
        exact ⟨ret_ii (by rw [HF.out]; rfl) (by rw [HF.out]; rfl), HB4.out⟩


set_option maxRecDepth 100000 in
set_option maxHeartbeats 1000000 in
theorem guardOrder (la lg : Int) (A : Option Addr) (c : Nat) (ts : List Int) (hlen : ts.length ≤ 100) (p0 p1 : Addr) (V : Int) (w : World) (hr : Row w w.heap.size A ts)
    (hc : rightL la lg = true → (∀ t ∈ ts, timeB t = true) → ∀ W, Below w.heap.size w W → Calls Try.prog 38 #[gv la (la + lg) (lg / 2), .pointer (some p0), .pointer (some p1)] W fun e w' => e = .returned (.int .i64 (V)) ∧ Below W.heap.size W w') :
    Calls Try.prog 29 #[lv la lg, .func (.func 38) #[] #[.pointer (some p0), .pointer (some p1)], .slice A ts.length c] w fun e w' => e = .returned (.tuple #[.int .i64 (sel (rightL la lg && ts.all timeB) V 0), .int .i64 (errB (rightL la lg && ts.all timeB))]) ∧ Below w.heap.size w w' := by
  have HRI := Lib.hid (rightL_iff la lg)
  have cr := fun W => right_any la lg W
  have HB := Lib.hid (Joins.below_alloc1 w (.cells #[.int .i64 la, .int .i64 lg] 23))
  have HL := Lib.hid (LtAt.new w la lg)
  obtain ⟨y0, y1⟩ := HL.out.cells
  cases hrt : rightL la lg
  · rw [hrt] at cr
    clear hrt hc HRI
    go_enter Try.func29, Try.ntmps29
    go_wp2_with fail; refine (cr _).mono ?_; rintro e w1 ⟨rfl, b1⟩
    have HB1 := Lib.hid (HB.out.trans (b1.mono HB.out.size)); clear b1 y0 y1
    go_wp2_with fail
    go_ret2
    exact ⟨ret_ii (by rfl) (by rfl), HB1.out⟩
  · have CG := Lib.hid (fun W => gridOf_any la lg (HRI.out.1 hrt) W)
    have HC := Lib.hid (hc hrt); clear hc
    rw [hrt] at cr
    rw [Bool.true_and]
    clear hrt HRI
    generalize la + lg = S at *
    generalize lg / 2 = hf at *
    go_enter Try.func29, Try.ntmps29
    go_wp2_with fail; refine (cr _).mono ?_; rintro e w1 ⟨rfl, b1⟩
    have HB1 := Lib.hid (HB.out.trans (b1.mono HB.out.size))
    obtain ⟨z0, z1⟩ := (HL.out.on b1).cells
    clear b1 y0 y1
    go_wp2_with fail; refine (CG.out _).mono ?_; rintro e w2 ⟨rfl, b2⟩
    have HB2 := Lib.hid (HB1.out.trans (b2.mono HB1.out.size))
    have HG2 := Lib.hid (GrAt.new w2 la S hf)
    have HB3 := Lib.hid (HB2.out.trans ((Joins.below_alloc1 w2 (.cells #[.int .i64 la, .int .i64 S, .int .i64 hf, gfn] 46)).mono HB2.out.size))
    clear b2 z0 z1
    have hsf : ∀ (p : Addr) (m : Mode) (W : World), (store p (.func (.func 44) #[] #[]) m).run Try.prog W = stored Try.prog W p gfn m := fun p m W => run_store _ W p _ m rfl
    go_wp2_with fail
    generalize w2.alloc (.cells #[.int .i64 la, .int .i64 S, .int .i64 hf, gfn] 46) = X at *
    have HW0 := Lib.hid (Below.refl X.heap.size X)
    obtain ⟨bx, hbx⟩ : ∃ b, w2.heap.size = b := ⟨_, rfl⟩
    rw [hbx] at HG2
    try rw [hbx]
    clear CG hbx hsf cr
    go_loopw [20] (fun i wr => ∃ k : Nat, k ≤ ts.length ∧ i = .int .i64 k ∧ (ts.take k).all timeB = true ∧ Below X.heap.size X wr) (fun i _ => ts.length - (intOf i).toNat)
    case atStart => exact ⟨0, by omega, rfl, rfl, HW0.out⟩
    case round =>
      obtain ⟨k, hk, rfl, hall, hb⟩ := hrel
      have HA := Lib.hid hall
      have HBk := Lib.hid hb
      have HBB := Lib.hid (HB3.out.trans (hb.mono HB3.out.size))
      obtain ⟨z0, z1, z2, z3⟩ := (HG2.out.on hb).cells
      clear hall hb HW0
      by_cases hlt : k < ts.length
      · have hkI : (k : Int) < (ts.length : Int) := by omega
        obtain ⟨t, ht⟩ : ∃ t, ts[k]? = some t := ⟨_, List.getElem?_eq_getElem hlt⟩
        obtain ⟨ad, rfl, hadb, hcc⟩ := (hr.below HBB.out (Nat.le_refl _)) (by omega)
        have hck := hcc k t ht
        have cm := fun W => gmay_any t W
        have HT := Lib.hid (show (ts.take (k + 1)).all timeB = timeB t by
          obtain ⟨h1, h2⟩ := List.getElem?_eq_some_iff.1 ht
          rw [List.take_succ_eq_append_getElem h1, h2, List.all_append, HA.out]; simp)
        have HN : Hid (timeB t = false → ts.all timeB = false) := Lib.hid (fun h => by
          rw [List.all_eq_false]
          exact ⟨t, List.mem_of_getElem? ht, by rw [h]; simp⟩)
        cases htb : timeB t
        · rw [htb] at cm
          have HF := Lib.hid (HN.out htb)
          clear ht hcc htb HN HT
          go_wp2_with fail; refine (cm _).mono ?_; rintro e w4 ⟨rfl, rfl⟩
          go_wp2_with fail
          go_ret2
          exact ⟨ret_ii (by rw [HF.out]; rfl) (by rw [HF.out]; rfl), HBB.out⟩
        · rw [htb] at cm HT
          clear ht hcc htb HN
          go_wp2_with fail; refine (cm _).mono ?_; rintro e w4 ⟨rfl, rfl⟩
          go_wp2_with fail
          go_roundw
          case rel => exact ⟨k + 1, by omega, by go_num, HT.out, HBk.out⟩
          case measure => simp [intOf]; omega
      · have hkI : ¬ (k : Int) < (ts.length : Int) := by omega
        have ek : k = ts.length := by omega
        have HF := Lib.hid (show ts.all timeB = true by have := HA.out; rwa [ek, List.take_length] at this)
        have cc := HC.out (List.all_eq_true.1 HF.out) _ HBB.out
        clear ek
        go_wp2_with fail; refine cc.mono ?_; rintro e w4 ⟨rfl, b4⟩
        have HB4 := Lib.hid (HBB.out.trans (b4.mono HBB.out.size)); clear b4 z0 z1 z2 z3 cc
        go_wp2_with fail
        go_ret2
        exact ⟨ret_ii (by rw [HF.out]; rfl) (by rw [HF.out]; rfl), HB4.out⟩


set_option maxRecDepth 100000 in
set_option maxHeartbeats 1000000 in
theorem guardBegin (la lg : Int) (A : Option Addr) (c : Nat) (ts : List Int) (hlen : ts.length ≤ 100) (p0 : Addr) (V : Int) (w : World) (hr : Row w w.heap.size A ts)
    (hc : rightL la lg = true → (∀ t ∈ ts, timeB t = true) → ∀ W, Below w.heap.size w W → Calls Try.prog 40 #[gv la (la + lg) (lg / 2), .pointer (some p0)] W fun e w' => e = .returned (.int .i64 (V)) ∧ Below W.heap.size W w') :
    Calls Try.prog 29 #[lv la lg, .func (.func 40) #[] #[.pointer (some p0)], .slice A ts.length c] w fun e w' => e = .returned (.tuple #[.int .i64 (sel (rightL la lg && ts.all timeB) V 0), .int .i64 (errB (rightL la lg && ts.all timeB))]) ∧ Below w.heap.size w w' := by
  have HRI := Lib.hid (rightL_iff la lg)
  have cr := fun W => right_any la lg W
  have HB := Lib.hid (Joins.below_alloc1 w (.cells #[.int .i64 la, .int .i64 lg] 23))
  have HL := Lib.hid (LtAt.new w la lg)
  obtain ⟨y0, y1⟩ := HL.out.cells
  cases hrt : rightL la lg
  · rw [hrt] at cr
    clear hrt hc HRI
    go_enter Try.func29, Try.ntmps29
    go_wp2_with fail; refine (cr _).mono ?_; rintro e w1 ⟨rfl, b1⟩
    have HB1 := Lib.hid (HB.out.trans (b1.mono HB.out.size)); clear b1 y0 y1
    go_wp2_with fail
    go_ret2
    exact ⟨ret_ii (by rfl) (by rfl), HB1.out⟩
  · have CG := Lib.hid (fun W => gridOf_any la lg (HRI.out.1 hrt) W)
    have HC := Lib.hid (hc hrt); clear hc
    rw [hrt] at cr
    rw [Bool.true_and]
    clear hrt HRI
    generalize la + lg = S at *
    generalize lg / 2 = hf at *
    go_enter Try.func29, Try.ntmps29
    go_wp2_with fail; refine (cr _).mono ?_; rintro e w1 ⟨rfl, b1⟩
    have HB1 := Lib.hid (HB.out.trans (b1.mono HB.out.size))
    obtain ⟨z0, z1⟩ := (HL.out.on b1).cells
    clear b1 y0 y1
    go_wp2_with fail; refine (CG.out _).mono ?_; rintro e w2 ⟨rfl, b2⟩
    have HB2 := Lib.hid (HB1.out.trans (b2.mono HB1.out.size))
    have HG2 := Lib.hid (GrAt.new w2 la S hf)
    have HB3 := Lib.hid (HB2.out.trans ((Joins.below_alloc1 w2 (.cells #[.int .i64 la, .int .i64 S, .int .i64 hf, gfn] 46)).mono HB2.out.size))
    clear b2 z0 z1
    have hsf : ∀ (p : Addr) (m : Mode) (W : World), (store p (.func (.func 44) #[] #[]) m).run Try.prog W = stored Try.prog W p gfn m := fun p m W => run_store _ W p _ m rfl
    go_wp2_with fail
    generalize w2.alloc (.cells #[.int .i64 la, .int .i64 S, .int .i64 hf, gfn] 46) = X at *
    have HW0 := Lib.hid (Below.refl X.heap.size X)
    obtain ⟨bx, hbx⟩ : ∃ b, w2.heap.size = b := ⟨_, rfl⟩
    rw [hbx] at HG2
    try rw [hbx]
    clear CG hbx hsf cr
    go_loopw [20] (fun i wr => ∃ k : Nat, k ≤ ts.length ∧ i = .int .i64 k ∧ (ts.take k).all timeB = true ∧ Below X.heap.size X wr) (fun i _ => ts.length - (intOf i).toNat)
    case atStart => exact ⟨0, by omega, rfl, rfl, HW0.out⟩
    case round =>
      obtain ⟨k, hk, rfl, hall, hb⟩ := hrel
      have HA := Lib.hid hall
      have HBk := Lib.hid hb
      have HBB := Lib.hid (HB3.out.trans (hb.mono HB3.out.size))
      obtain ⟨z0, z1, z2, z3⟩ := (HG2.out.on hb).cells
      clear hall hb HW0
      by_cases hlt : k < ts.length
      · have hkI : (k : Int) < (ts.length : Int) := by omega
        obtain ⟨t, ht⟩ : ∃ t, ts[k]? = some t := ⟨_, List.getElem?_eq_getElem hlt⟩
        obtain ⟨ad, rfl, hadb, hcc⟩ := (hr.below HBB.out (Nat.le_refl _)) (by omega)
        have hck := hcc k t ht
        have cm := fun W => gmay_any t W
        have HT := Lib.hid (show (ts.take (k + 1)).all timeB = timeB t by
          obtain ⟨h1, h2⟩ := List.getElem?_eq_some_iff.1 ht
          rw [List.take_succ_eq_append_getElem h1, h2, List.all_append, HA.out]; simp)
        have HN : Hid (timeB t = false → ts.all timeB = false) := Lib.hid (fun h => by
          rw [List.all_eq_false]
          exact ⟨t, List.mem_of_getElem? ht, by rw [h]; simp⟩)
        cases htb : timeB t
        · rw [htb] at cm
          have HF := Lib.hid (HN.out htb)
          clear ht hcc htb HN HT
          go_wp2_with fail; refine (cm _).mono ?_; rintro e w4 ⟨rfl, rfl⟩
          go_wp2_with fail
          go_ret2
          exact ⟨ret_ii (by rw [HF.out]; rfl) (by rw [HF.out]; rfl), HBB.out⟩
        · rw [htb] at cm HT
          clear ht hcc htb HN
          go_wp2_with fail; refine (cm _).mono ?_; rintro e w4 ⟨rfl, rfl⟩
          go_wp2_with fail
          go_roundw
          case rel => exact ⟨k + 1, by omega, by go_num, HT.out, HBk.out⟩
          case measure => simp [intOf]; omega
      · have hkI : ¬ (k : Int) < (ts.length : Int) := by omega
        have ek : k = ts.length := by omega
        have HF := Lib.hid (show ts.all timeB = true by have := HA.out; rwa [ek, List.take_length] at this)
        have cc := HC.out (List.all_eq_true.1 HF.out) _ HBB.out
        clear ek
        go_wp2_with fail; refine cc.mono ?_; rintro e w4 ⟨rfl, b4⟩
        have HB4 := Lib.hid (HBB.out.trans (b4.mono HBB.out.size)); clear b4 z0 z1 z2 z3 cc
        go_wp2_with fail
        go_ret2
        exact ⟨ret_ii (by rw [HF.out]; rfl) (by rw [HF.out]; rfl), HB4.out⟩


set_option maxRecDepth 100000 in
set_option maxHeartbeats 1000000 in
theorem guardBegin2 (la lg : Int) (A : Option Addr) (c : Nat) (ts : List Int) (hlen : ts.length ≤ 100) (p0 : Addr) (V : Int) (w : World) (hr : Row w w.heap.size A ts)
    (hc : rightL la lg = true → (∀ t ∈ ts, timeB t = true) → ∀ W, Below w.heap.size w W → Calls Try.prog 41 #[gv la (la + lg) (lg / 2), .pointer (some p0)] W fun e w' => e = .returned (.int .i64 (V)) ∧ Below W.heap.size W w') :
    Calls Try.prog 29 #[lv la lg, .func (.func 41) #[] #[.pointer (some p0)], .slice A ts.length c] w fun e w' => e = .returned (.tuple #[.int .i64 (sel (rightL la lg && ts.all timeB) V 0), .int .i64 (errB (rightL la lg && ts.all timeB))]) ∧ Below w.heap.size w w' := by
  have HRI := Lib.hid (rightL_iff la lg)
  have cr := fun W => right_any la lg W
  have HB := Lib.hid (Joins.below_alloc1 w (.cells #[.int .i64 la, .int .i64 lg] 23))
  have HL := Lib.hid (LtAt.new w la lg)
  obtain ⟨y0, y1⟩ := HL.out.cells
  cases hrt : rightL la lg
  · rw [hrt] at cr
    clear hrt hc HRI
    go_enter Try.func29, Try.ntmps29
    go_wp2_with fail; refine (cr _).mono ?_; rintro e w1 ⟨rfl, b1⟩
    have HB1 := Lib.hid (HB.out.trans (b1.mono HB.out.size)); clear b1 y0 y1
    go_wp2_with fail
    go_ret2
    exact ⟨ret_ii (by rfl) (by rfl), HB1.out⟩
  · have CG := Lib.hid (fun W => gridOf_any la lg (HRI.out.1 hrt) W)
    have HC := Lib.hid (hc hrt); clear hc
    rw [hrt] at cr
    rw [Bool.true_and]
    clear hrt HRI
    generalize la + lg = S at *
    generalize lg / 2 = hf at *
    go_enter Try.func29, Try.ntmps29
    go_wp2_with fail; refine (cr _).mono ?_; rintro e w1 ⟨rfl, b1⟩
    have HB1 := Lib.hid (HB.out.trans (b1.mono HB.out.size))
    obtain ⟨z0, z1⟩ := (HL.out.on b1).cells
    clear b1 y0 y1
    go_wp2_with fail; refine (CG.out _).mono ?_; rintro e w2 ⟨rfl, b2⟩
    have HB2 := Lib.hid (HB1.out.trans (b2.mono HB1.out.size))
    have HG2 := Lib.hid (GrAt.new w2 la S hf)
    have HB3 := Lib.hid (HB2.out.trans ((Joins.below_alloc1 w2 (.cells #[.int .i64 la, .int .i64 S, .int .i64 hf, gfn] 46)).mono HB2.out.size))
    clear b2 z0 z1
    have hsf : ∀ (p : Addr) (m : Mode) (W : World), (store p (.func (.func 44) #[] #[]) m).run Try.prog W = stored Try.prog W p gfn m := fun p m W => run_store _ W p _ m rfl
    go_wp2_with fail
    generalize w2.alloc (.cells #[.int .i64 la, .int .i64 S, .int .i64 hf, gfn] 46) = X at *
    have HW0 := Lib.hid (Below.refl X.heap.size X)
    obtain ⟨bx, hbx⟩ : ∃ b, w2.heap.size = b := ⟨_, rfl⟩
    rw [hbx] at HG2
    try rw [hbx]
    clear CG hbx hsf cr
    go_loopw [20] (fun i wr => ∃ k : Nat, k ≤ ts.length ∧ i = .int .i64 k ∧ (ts.take k).all timeB = true ∧ Below X.heap.size X wr) (fun i _ => ts.length - (intOf i).toNat)
    case atStart => exact ⟨0, by omega, rfl, rfl, HW0.out⟩
    case round =>
      obtain ⟨k, hk, rfl, hall, hb⟩ := hrel
      have HA := Lib.hid hall
      have HBk := Lib.hid hb
      have HBB := Lib.hid (HB3.out.trans (hb.mono HB3.out.size))
      obtain ⟨z0, z1, z2, z3⟩ := (HG2.out.on hb).cells
      clear hall hb HW0
      by_cases hlt : k < ts.length
      · have hkI : (k : Int) < (ts.length : Int) := by omega
        obtain ⟨t, ht⟩ : ∃ t, ts[k]? = some t := ⟨_, List.getElem?_eq_getElem hlt⟩
        obtain ⟨ad, rfl, hadb, hcc⟩ := (hr.below HBB.out (Nat.le_refl _)) (by omega)
        have hck := hcc k t ht
        have cm := fun W => gmay_any t W
        have HT := Lib.hid (show (ts.take (k + 1)).all timeB = timeB t by
          obtain ⟨h1, h2⟩ := List.getElem?_eq_some_iff.1 ht
          rw [List.take_succ_eq_append_getElem h1, h2, List.all_append, HA.out]; simp)
        have HN : Hid (timeB t = false → ts.all timeB = false) := Lib.hid (fun h => by
          rw [List.all_eq_false]
          exact ⟨t, List.mem_of_getElem? ht, by rw [h]; simp⟩)
        cases htb : timeB t
        · rw [htb] at cm
          have HF := Lib.hid (HN.out htb)
          clear ht hcc htb HN HT
          go_wp2_with fail; refine (cm _).mono ?_; rintro e w4 ⟨rfl, rfl⟩
          go_wp2_with fail
          go_ret2
          exact ⟨ret_ii (by rw [HF.out]; rfl) (by rw [HF.out]; rfl), HBB.out⟩
        · rw [htb] at cm HT
          clear ht hcc htb HN
          go_wp2_with fail; refine (cm _).mono ?_; rintro e w4 ⟨rfl, rfl⟩
          go_wp2_with fail
          go_roundw
          case rel => exact ⟨k + 1, by omega, by go_num, HT.out, HBk.out⟩
          case measure => simp [intOf]; omega
      · have hkI : ¬ (k : Int) < (ts.length : Int) := by omega
        have ek : k = ts.length := by omega
        have HF := Lib.hid (show ts.all timeB = true by have := HA.out; rwa [ek, List.take_length] at this)
        have cc := HC.out (List.all_eq_true.1 HF.out) _ HBB.out
        clear ek
        go_wp2_with fail; refine cc.mono ?_; rintro e w4 ⟨rfl, b4⟩
        have HB4 := Lib.hid (HBB.out.trans (b4.mono HBB.out.size)); clear b4 z0 z1 z2 z3 cc
        go_wp2_with fail
        go_ret2
        exact ⟨ret_ii (by rw [HF.out]; rfl) (by rw [HF.out]; rfl), HB4.out⟩

end Go.Proofs.Ytlgbgkiajhcneaa

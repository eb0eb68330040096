/-
  What the document's Middle and Correct do, and a law's devs.
-/
import Derived.Test.YtllbhbekpnmlnaaClkRef
namespace Go.Proofs.Ytllbhbekpnmlnaa
open Go.RowKit

set_option maxRecDepth 100000 in
set_option maxHeartbeats 1000000 in
theorem refMiddle_any (d : Int) (A : Option Addr) (c : Nat) (l : List Int) (w : World) (h : Row w w.heap.size A l) (hl : l.length ≤ maxLen) :
    Calls Try.prog 17 #[.int .i64 d, .slice A l.length c] w fun e w' => e = .returned (.tuple #[.int .i64 (midV d l), .int .i64 (midE d l)]) ∧ Below w.heap.size w w' := by
  unfold maxLen at hl
  cases hd : dropB d
  · have HE := Lib.hid (midE_drop (l := l) hd)
    have HV := Lib.hid (midV_bad (d := d) (l := l) (by rw [HE.out]; omega))
    have hdd : d < 0 ∨ (0 ≤ d ∧ 7 < d) := by
      have := mt (dropB_iff d).2 (by rw [hd]; simp)
      omega
    clear hd
    rcases hdd with h1 | ⟨h1, h2⟩
    all_goals
      go_enter Try.func17, Try.ntmps17
      go_wp2_with fail
      go_ret2
      exact ⟨ret_ii HV.out.symm HE.out.symm, Below.refl _ _⟩
  · have HD := Lib.hid hd
    have hd7 := (dropB_iff d).1 hd
    clear hd
    go_enter Try.func17, Try.ntmps17
    go_wp2_with fail
    go_loop [6] (fun i => ∃ k : Nat, k ≤ l.length ∧ i = .int .i64 k ∧ (l.take k).all devB = true) (fun i => l.length - (intOf i).toNat)
    case atStart => exact ⟨0, by omega, rfl, rfl⟩
    case round =>
      obtain ⟨k, hk, rfl, ha⟩ := hrel
      have HA := Lib.hid ha; clear ha
      by_cases hlt : k < l.length
      · obtain ⟨x, hx⟩ : ∃ x, l[k]? = some x := ⟨_, List.getElem?_eq_getElem hlt⟩
        obtain ⟨ad, rfl, hb, hc⟩ := h (by omega)
        have hck := hc k x hx
        have HX := Lib.hid hx
        have hkI : (k : Int) < (l.length : Int) := by omega
        clear hc hx
        cases hdx : devB x
        · have HE := Lib.hid (midE_dev (d := d) (not_all l k x HX.out hdx))
          have HV := Lib.hid (midV_bad (d := d) (l := l) (by rw [HE.out]; omega))
          have hdd : x < -1073741824 ∨ (-1073741824 ≤ x ∧ 1073741824 < x) := by
            have := mt (devB_iff x).2 (by rw [hdx]; simp)
            omega
          clear hdx
          rcases hdd with h1 | ⟨h1, h2⟩
          all_goals
            go_wp2_with fail
            go_ret2
            exact ⟨ret_ii HV.out.symm HE.out.symm, Below.refl _ _⟩
        · have HT := Lib.hid (all_take l k x HX.out HA.out hdx)
          obtain ⟨h1, h2⟩ := (devB_iff x).1 hdx
          clear hdx
          go_wp2_with fail
          go_round
          case rel => exact ⟨k + 1, by omega, by go_num, HT.out⟩
          case measure => simp [intOf]; omega
      · have ek : k = l.length := by omega
        subst ek
        have hall : l.all devB = true := by have := HA.out; rwa [List.take_length] at this
        by_cases h64 : 64 < l.length
        · have h64I : (64 : Int) < (l.length : Int) := by omega
          have HE := Lib.hid (midE_long HD.out hall h64)
          have HV := Lib.hid (midV_bad (d := d) (l := l) (by rw [HE.out]; omega))
          clear hall
          go_wp2_with fail
          go_ret2
          exact ⟨ret_ii HV.out.symm HE.out.symm, Below.refl _ _⟩
        · have h64I : ¬ (64 : Int) < (l.length : Int) := by omega
          by_cases hs : (l.length : Int) ≤ 2 * d
          · have HE := Lib.hid (midE_few HD.out hall (by omega) hs)
            have HV := Lib.hid (midV_bad (d := d) (l := l) (by rw [HE.out]; omega))
            clear hall
            go_wp2_with fail
            go_ret2
            exact ⟨ret_ii HV.out.symm HE.out.symm, Below.refl _ _⟩
          · have he := (midE_zero d l).2 ⟨HD.out, hall, by omega, by omega⟩
            obtain ⟨m, rfl⟩ : ∃ m : Nat, d = (m : Int) := ⟨d.toNat, by omega⟩
            have HV := Lib.hid (midV_ok rfl he)
            have n1 := dev_nth hall (i := m) (by omega)
            have n2 := dev_nth hall (i := l.length - 1 - m) (by omega)
            have HE := Lib.hid he
            have N1 := Lib.hid (nth_at l m (by omega))
            have N2 := Lib.hid (nth_at l (l.length - 1 - m) (by omega))
            have c1 := Lib.hid (sorted_any A c l w h (by omega))
            have HL := Lib.hid (sortI_length l)
            clear hall he HA
            go_wp2_with fail; (with_reducible refine c1.out.mono ?_); rintro e w3 ⟨u, rfl, ho, hb3⟩
            obtain ⟨g, c2, e, hg1, hg2, hc2, hcell, hfz, -⟩ := ho.one (by rw [HL.out]; omega)
            rw [HL.out] at e hc2
            subst e
            have x1 := hcell m _ N1.out
            have x2 := hcell (l.length - 1 - m) _ N2.out
            have HB3 := Lib.hid hb3
            clear hcell hfz hb3 c1 ho
            generalize nth l m = p at *
            generalize nth l (l.length - 1 - m) = q at *
            have C4 := Lib.hid (fun W => down_any (p + q) 2 (by omega) (by omega) (by omega) W)
            have q1 : IntKind.i64.wrap ((l.length : Int) - 1) = (l.length : Int) - 1 := IntWalk.i64_in _ (by omega)
            obtain ⟨j, hj⟩ : ∃ j : Nat, l.length - 1 - m = j := ⟨_, rfl⟩
            rw [hj] at x2
            have q2 : IntKind.i64.wrap ((l.length : Int) - 1 - (m : Int)) = (j : Int) := by rw [IntWalk.i64_in _ (by omega)]; omega
            have q3 : IntKind.i64.wrap (p + q) = p + q := IntWalk.i64_in _ (by omega)
            have q4 : (j : Int) < (l.length : Int) := by omega
            have q5 : j < l.length := by omega
            have q6 : (m : Int) < (l.length : Int) := by omega
            have q7 : m < l.length := by omega
            clear hj
            go_wp2_with fail
            go_quiet ((go_at_call 25; exact Calls.quiet_of_same (turned (C4.out _))))
            go_wp2_with fail
            go_ret2
            exact ⟨ret_ii HV.out.symm HE.out.symm, below_drewN HB3.out _⟩

theorem corr_ref (m V : Int) (h : 0 ≤ m) : min (max V (-m)) m = max (-m) (min V m) := by omega
set_option maxRecDepth 100000 in
set_option maxHeartbeats 400000 in
theorem refCorrect_any (o d most : Int) (hb : -9223372036854775808 ≤ most ∧ most ≤ 9223372036854775807) (A : Option Addr) (c : Nat) (l : List Int) (w : World) (h : Row w w.heap.size A l) (hl : l.length ≤ maxLen) :
    Calls Try.prog 19 #[.int .i64 o, .int .i64 d, .int .i64 most, .slice A l.length c] w fun e w' => e = .returned (.int .i64 (corrI o d most l)) ∧ Below w.heap.size w w' := by
  have c1 := Lib.hid (refMiddle_any d A c l w h hl)
  have HC : Hid (corrI o d most l = if midE d l = 0 ∧ 0 ≤ most then wrap64 (o + min (max (midV d l) (-most)) most) else o) := Lib.hid rfl
  unfold maxLen at hl
  by_cases he : midE d l = 0
  · by_cases hm : 0 ≤ most
    · rw [he] at c1
      rw [if_pos ⟨he, hm⟩] at HC
      clear he
      generalize midV d l = V at *
      go_enter Try.func19, Try.ntmps19
      go_wp2_with fail; refine c1.out.mono ?_; rintro e w1 ⟨rfl, b1⟩
      have HB := Lib.hid b1; clear b1 c1
      go_wp2_with fail
      all_goals
        go_ret
        refine ⟨ret_i ?_, HB.out⟩
        rw [HC.out]
        congr 1
        simp only [min_go] at *
        omega
    · rw [he] at c1
      rw [if_neg (fun e => hm e.2)] at HC
      clear he
      generalize midV d l = V at *
      go_enter Try.func19, Try.ntmps19
      go_wp2_with fail; refine c1.out.mono ?_; rintro e w1 ⟨rfl, b1⟩
      have HB := Lib.hid b1; clear b1 c1
      go_wp2_with fail
      go_ret
      exact ⟨ret_i HC.out.symm, HB.out⟩
  · have hne : (midE d l != 0) = true := by simpa using he
    rw [if_neg (fun e => he e.1)] at HC
    clear he
    generalize midE d l = E at *
    generalize midV d l = V at *
    go_enter Try.func19, Try.ntmps19
    go_wp2_with fail; refine c1.out.mono ?_; rintro e w1 ⟨rfl, b1⟩
    have HB := Lib.hid b1; clear b1 c1
    go_wp2_with fail
    go_ret
    exact ⟨ret_i HC.out.symm, HB.out⟩

end Go.Proofs.Ytllbhbekpnmlnaa

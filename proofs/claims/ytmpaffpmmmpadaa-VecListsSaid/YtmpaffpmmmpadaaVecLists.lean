/-
  The law VecLists: Of undoes List; with a node, and without it, a vector has it, and has it not, and all others as ahead of that.
-/
import Derived.Test.YtmpaffpmmmpadaaVecPick
namespace Go.Proofs.Ytmpaffpmmmpadaa
open Go.RowKit

theorem node_int (p : Int) (h0 : 0 ≤ p) (h1 : p < 16) : nodeB p = true := (nodeB_iff p).2 ⟨h0, by omega⟩
theorem hasB_bit (v : Int) (k : Nat) (h : k < 16) : hasB v (k : Int) = (md v).testBit k := hasB_nat v k h
theorem has_with_other (a p : Int) (k : Nat) (hk : k < 16) (h0 : 0 ≤ p) (h : (k : Int) ≠ p) : hasB (withI a p) k = hasB a k := by
  rw [hasB_nat _ k hk, hasB_nat _ k hk, md_with a p k hk]
  have : decide (k = p.toNat) = false := by rw [decide_eq_false_iff_not]; omega
  rw [this]; simp
theorem has_without_other (a p : Int) (k : Nat) (hk : k < 16) (h0 : 0 ≤ p) (h : (k : Int) ≠ p) : hasB (withoutI a p) k = hasB a k := by
  rw [hasB_nat _ k hk, hasB_nat _ k hk, md_without a p k hk]
  have : decide (k = p.toNat) = false := by rw [decide_eq_false_iff_not]; omega
  rw [this]; simp
theorem has_int (v p : Int) (h0 : 0 ≤ p) (h1 : p < 16) : hasB v p = (md v).testBit p.toNat := by
  unfold hasB; rw [node_int p h0 h1, Bool.true_and]
theorem has_with (a p : Int) (h0 : 0 ≤ p) (h1 : p < 16) : hasB (withI a p) p = true := by
  rw [has_int _ p h0 h1, md_with a p _ (by omega), node_int p h0 h1]; simp
theorem has_without (a p : Int) (h0 : 0 ≤ p) (h1 : p < 16) : hasB (withoutI a p) p = false := by
  rw [has_int _ p h0 h1, md_without a p _ (by omega), node_int p h0 h1]; simp
theorem without_with (a p : Int) (h0 : 0 ≤ p) (h1 : p < 16) : withoutI (withI a p) p = withoutI a p := by
  refine vecI_ext _ _ (withoutI_range _ _).1 (withoutI_range _ _).2 (withoutI_range _ _).1 (withoutI_range _ _).2 fun i hi => ?_
  rw [md_without _ _ i hi, md_with _ _ i hi, md_without _ _ i hi, node_int p h0 h1]
  cases (md a).testBit i <;> cases decide (i = p.toNat) <;> rfl
theorem with_without (a p : Int) (h0 : 0 ≤ p) (h1 : p < 16) : withI (withoutI a p) p = withI a p := by
  refine vecI_ext _ _ (withI_range _ _).1 (withI_range _ _).2 (withI_range _ _).1 (withI_range _ _).2 fun i hi => ?_
  rw [md_with _ _ i hi, md_without _ _ i hi, md_with _ _ i hi, node_int p h0 h1]
  cases (md a).testBit i <;> cases decide (i = p.toNat) <;> rfl
theorem cb_one (b c n k : Nat) (hk : k < n) (hb : b.testBit k = true) (hc : c.testBit k = false) (h : ∀ i, i < n → i ≠ k → b.testBit i = c.testBit i) : cb b n = cb c n + 1 := by
  induction n with
  | zero => omega
  | succ n ih =>
    show cb b n + _ = cb c n + _ + 1
    rcases Nat.eq_or_lt_of_le (Nat.le_of_lt_succ hk) with e | e
    · rw [← e, hb, hc, cb_congr b c k fun i hi => h i (by omega) (by omega)]; rfl
    · rw [ih e fun i hi hn => h i (by omega) hn, h n (by omega) (by omega)]; omega
theorem count_with (a p : Int) (h0 : 0 ≤ p) (h1 : p < 16) : countI (withI a p) = countI (withoutI a p) + 1 := by
  unfold countI
  have e := cb_one (md (withI a p)) (md (withoutI a p)) 16 p.toNat (by omega) (by rw [← has_int _ p h0 h1]; exact has_with a p h0 h1) (by rw [← has_int _ p h0 h1]; exact has_without a p h0 h1) fun i hi hn => by
    rw [md_with _ _ i hi, md_without _ _ i hi]
    have : decide (i = p.toNat) = false := by rw [decide_eq_false_iff_not]; exact hn
    rw [this]; simp
  rw [e]; rfl
theorem of_list (a : Int) (h0 : 0 ≤ a) (h1 : a < 65536) : ofI (listI a) = a := by
  refine vecI_ext _ _ (ofI_range _).1 (ofI_range _).2 h0 h1 fun i hi => ?_
  rw [md_of_list _ i hi, any_list a i hi]

/-- Of a list's numbers each is a node of the vector, and greater than the one ahead of it. -/
theorem list_sorted (m k : Nat) : (below m k).Pairwise (· < ·) := by
  induction k with
  | zero => exact List.Pairwise.nil
  | succ k ih =>
    cases h : m.testBit k
    · rw [below_miss m k h]; exact ih
    · rw [below_hit m k h, List.pairwise_append]
      refine ⟨ih, List.pairwise_singleton _ _, fun x hx y hy => ?_⟩
      obtain ⟨n, hn, _, rfl⟩ := (mem_below m k x).1 hx
      rw [List.mem_singleton] at hy
      omega
theorem list_at (a : Int) (k : Nat) (x y : Int) (hk : 1 ≤ k) (hx : (listI a)[k - 1]? = some x) (hy : (listI a)[k]? = some y) : x < y ∧ hasB a y = true := by
  obtain ⟨h1, e1⟩ := List.getElem?_eq_some_iff.1 hx
  obtain ⟨h2, e2⟩ := List.getElem?_eq_some_iff.1 hy
  refine ⟨?_, ?_⟩
  · have := List.pairwise_iff_getElem.1 (list_sorted (md a) 16) (k - 1) k h1 h2 (by omega)
    rw [← e1, ← e2]; exact this
  · have hm : y ∈ listI a := by rw [← e2]; exact List.getElem_mem h2
    obtain ⟨n, h3, h4, rfl⟩ := (mem_below (md a) 16 y).1 hm
    rw [hasB_nat a n h3]; exact h4

set_option maxHeartbeats 2000000 in
theorem vecLists_walk (a0 a1 : Int) (w0 : (Lit.int .i64 a0).wf = true) (w1 : (Lit.int .i64 a1).wf = true) (w : World) :
    Calls Try.prog 5 #[.int .i64 a0, .int .i64 a1] w fun e w' => e = .returned (.bool true) ∧ Below w.heap.size w w' := by
  have p0 := fun w => pick_any a0 65536 w0 (by omega) w
  have p1 := fun w => pick_any a1 16 w1 (by omega) w
  obtain ⟨hr0, hr1⟩ := pickI_range a0 65536 (by omega)
  obtain ⟨hs0, hs1⟩ := pickI_range a1 16 (by omega)
  generalize pickI a0 65536 = a at *
  generalize pickI a1 16 = p at *
  clear w0 w1
  have c1 := fun w => list_any a w
  have c2 := fun w => with_any a p w
  have c3 := fun w => without_any a p w
  have c4 := fun w => count_any a w
  have c5 := fun w => has_any (withI a p) p w
  have c6 := fun w => has_any (withoutI a p) p w
  have c7 := fun w => count_any (withI a p) w
  have c8 := fun w => count_any (withoutI a p) w
  have c9 := fun w => without_any (withI a p) p w
  have c10 := fun w => with_any (withoutI a p) p w
  rw [has_with a p hs0 hs1] at c5
  rw [has_without a p hs0 hs1] at c6
  rw [count_with a p hs0 hs1] at c7
  rw [without_with a p hs0 hs1] at c9
  rw [with_without a p hs0 hs1] at c10
  have hl16 := listI_length a
  have c11 := fun (A : Option Addr) (c B : Nat) (w : World) (h : Row w B A (listI a)) => of_any A c B (listI a) w h (by unfold maxLen; omega)
  rw [of_list a hr0 hr1] at c11
  have hcl := countI_length a
  have hcb : 0 ≤ countI (withoutI a p) ∧ countI (withoutI a p) ≤ 16 := by unfold countI; have := cb_le (md (withoutI a p)) 16; omega
  obtain ⟨hcb0, hcb1⟩ := hcb
  have d1 := Lib.hid (has_with_other a p)
  have d2 := Lib.hid (has_without_other a p)
  have d3 := Lib.hid (list_at a)
  generalize countI (withoutI a p) = nc at *
  rw [← hcl] at c4
  clear hcl
  generalize withI a p = b at *
  generalize withoutI a p = c at *
  generalize listI a = l at *
  go_enter Try.func5, Try.ntmps5
  go_wp2_with fail; refine (awake_any _).mono ?_; rintro e w1 ⟨rfl, b1⟩
  go_wp2_with fail; refine (p0 _).mono ?_; rintro e w2 ⟨rfl, rfl⟩
  go_wp2_with fail; refine (p1 _).mono ?_; rintro e w2 ⟨rfl, rfl⟩
  go_wp2_with fail; refine (c1 _).mono ?_; rintro e w2 ⟨u, rfl, hrow, b2⟩
  obtain ⟨A, cp, rfl, hcap, hr⟩ := Row.of_own hrow
  clear hrow
  go_wp2_with fail; refine (c2 _).mono ?_; rintro e w3 ⟨rfl, rfl⟩
  go_wp2_with fail; refine (c3 _).mono ?_; rintro e w3 ⟨rfl, rfl⟩
  go_wp2_with fail
  have B2 := Lib.hid (b1.trans (b2.mono b1.size)); clear b1 b2
  have HR := Lib.hid hr; clear hr
  have hcap2 : (l.length : Int) ≤ cp := by omega
  go_loop [11] (fun i => ∃ k : Nat, k ≤ 16 ∧ i = .int .i64 k) (fun i => 16 - (intOf i).toNat)
  case atStart => exact ⟨0, by omega, rfl⟩
  case round =>
    obtain ⟨k, hk, rfl⟩ := hrel
    by_cases hlt : k < 16
    · by_cases hkp : (k : Int) = p
      · have hkp2 : ((k : Int) != p) = false := by simpa using hkp
        have HK := Lib.hid hkp; clear hkp
        go_wp2_with fail
        go_round
        case rel => exact ⟨k + 1, by omega, by go_num⟩
        case measure => simp [intOf]; omega
      · have hkp2 : ((k : Int) != p) = true := by simpa using hkp
        have e1 := d1.out k hlt hs0 hkp
        have e2 := d2.out k hlt hs0 hkp
        have g1 := fun w => has_any a k w
        have g2 := fun w => has_any b k w
        have g3 := fun w => has_any c k w
        rw [e1] at g2
        rw [e2] at g3
        have HK := Lib.hid hkp; clear hkp e1 e2
        generalize hasB a k = h at *
        go_wp2_with fail; refine (g1 _).mono ?_; rintro e w3 ⟨rfl, rfl⟩
        go_wp2_with fail; refine (g2 _).mono ?_; rintro e w3 ⟨rfl, rfl⟩
        go_wp2_with fail; refine (g1 _).mono ?_; rintro e w3 ⟨rfl, rfl⟩
        go_wp2_with fail; refine (g3 _).mono ?_; rintro e w3 ⟨rfl, rfl⟩
        go_wp2_with fail
        go_round
        case rel => exact ⟨k + 1, by omega, by go_num⟩
        case measure => simp [intOf]; omega
    · have ek : k = 16 := by omega
      subst ek
      go_wp2_with fail
      have BW := Lib.hid (Below.refl w2.heap.size w2)
      go_loopw [12] (fun i wr => ∃ j : Nat, (j + 1 ≤ l.length ∨ j = 0) ∧ i = .int .i64 ((j : Int) + 1) ∧ Below w2.heap.size w2 wr) (fun i _ => 17 - (intOf i).toNat)
      case atStart => exact ⟨0, .inr rfl, rfl, BW.out⟩
      case round =>
        obtain ⟨j, hjl, rfl, hb⟩ := hrel
        have HB := Lib.hid hb; clear hb
        have hj16 : j ≤ 16 := by omega
        by_cases hlt : j + 1 < l.length
        · have hlt2 : (j : Int) + 1 < (l.length : Int) := by omega
          have HKL := Lib.hid hjl; clear hjl
          obtain ⟨ad, rfl, hblk, hc⟩ := HR.out.below HB.out (Nat.le_refl _) (by omega)
          obtain ⟨x, hx⟩ : ∃ x, l[j]? = some x := ⟨_, List.getElem?_eq_getElem (by omega)⟩
          obtain ⟨y, hy⟩ : ∃ y, l[j + 1]? = some y := ⟨_, List.getElem?_eq_getElem hlt⟩
          obtain ⟨hxy, hhas⟩ := d3.out (j + 1) x y (by omega) hx hy
          have q0 := hc j x hx
          have q1 : wr.cell? { block := ad.block, off := ad.off + (j + 1) } = some (.int .i64 y) := hc (j + 1) y hy
          have hdec : decide (y ≤ x) = false := by rw [decide_eq_false_iff_not]; omega
          have ek : IntKind.i64.wrap ((j : Int) + 1 - 1) = (j : Int) := by
            rw [IntWalk.i64_in _ (by omega)]; omega
          have et : ((j : Int) + 1).toNat = j + 1 := by omega
          have e0 : (0 : Int) ≤ (j : Int) + 1 := by omega
          have g := fun w => has_any a y w
          rw [hhas] at g
          clear hhas hx hy hc
          go_wp2_with fail
          go_quiet ((go_at_call 13; exact Calls.quiet_of_same (turned (g _))))
          go_wp2_with fail
          go_roundw
          case rel => exact ⟨j + 1, .inl (by omega), by go_num, below_drewN HB.out _⟩
          case measure => simp [intOf]; omega
        · have hlt2 : (l.length : Int) ≤ (j : Int) + 1 := by omega
          clear hjl
          go_wp2_with fail; refine (c11 _ _ _ _ (HR.out.below HB.out (Nat.le_refl _))).mono ?_; rintro e w3 ⟨rfl, rfl⟩
          go_wp2_with fail; refine (c4 _).mono ?_; rintro e w3 ⟨rfl, b3⟩
          go_wp2_with fail; refine (c5 _).mono ?_; rintro e w4 ⟨rfl, rfl⟩
          go_wp2_with fail; refine (c6 _).mono ?_; rintro e w4 ⟨rfl, rfl⟩
          go_wp2_with fail; refine (c7 _).mono ?_; rintro e w4 ⟨rfl, b4⟩
          go_wp2_with fail; refine (c8 _).mono ?_; rintro e w5 ⟨rfl, b5⟩
          go_wp2_with fail; refine (c9 _).mono ?_; rintro e w6 ⟨rfl, rfl⟩
          go_wp2_with fail; refine (c10 _).mono ?_; rintro e w6 ⟨rfl, rfl⟩
          go_wp2_with fail
          go_ret
          have s0 := B2.out.size
          have s2 := HB.out.size
          have s3 := b3.size
          have s4 := b4.size
          exact ⟨rfl, (((B2.out.trans (HB.out.mono (by omega))).trans (b3.mono (by omega))).trans (b4.mono (by omega))).trans (b5.mono (by omega))⟩

end Go.Proofs.Ytmpaffpmmmpadaa

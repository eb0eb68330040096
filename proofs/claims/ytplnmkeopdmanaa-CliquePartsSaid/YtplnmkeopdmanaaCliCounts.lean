/-
  The law CliqueCounts.
-/
import Derived.Test.YtplnmkeopdmanaaCliMost
import Derived.Test.YtplnmkeopdmanaaCliFrame
import Derived.ChangeKeysEq
namespace Go.Proofs.Ytplnmkeopdmanaa
open Go.RowKit

/-! ## Ears compared -/
theorem eq_int (d : Nat) (n m : Int) (w : World) : (Op.equalIn (d + 1) 3 (.int .i64 n) (.int .i64 m)).run Try.prog w = .ok (n == m) w := by
  simp [Op.equalIn, run_underlying Try.underlying3]
theorem eq_struct (d : Nat) (a b c a' b' c' : Int) (w : World) : (Op.equalIn (d + 2) 26 (.agg #[.int .i64 a, .int .i64 b, .int .i64 c]) (.agg #[.int .i64 a', .int .i64 b', .int .i64 c'])).run Try.prog w = .ok (a == a' && b == b' && c == c') w := by
  have hs : Try.prog.stoodInHeld 26 = false := by kernel_rfl
  rw [Op.equalIn]
  simp only [Sem.run_bind, run_underlying Try.underlying26, Result.andThen_ok]
  have e1 := fun w => eq_int d a a' w
  have e2 := fun w => eq_int d b b' w
  have e3 := fun w => eq_int d c c' w
  simp [hs, go_sem, e1, e2, e3]
  by_cases h1 : a = a'
  · by_cases h2 : b = b'
    · by_cases h3 : c = c'
      · simp [h1, h2, h3]
      · simp [h1, h2, h3]
    · simp [h1, h2]
  · simp [h1]
theorem eq_guard (op : BinOp) (x y : Operand) (a b c a' b' c' : Int) (w : World) : (eqGuard op 26 x y (.agg #[.int .i64 a, .int .i64 b, .int .i64 c]) (.agg #[.int .i64 a', .int .i64 b', .int .i64 c'])).run Try.prog w = .ok () w := by
  have h : Try.prog.eqGuardType Try.prog.depth 26 = false := by kernel_rfl
  cases op <;> simp [eqGuard, h, go_sem]
theorem eql_agg (a b c a' b' c' : Int) (w : World) : (binOp .eql 26 (.agg #[.int .i64 a, .int .i64 b, .int .i64 c]) (.agg #[.int .i64 a', .int .i64 b', .int .i64 c'])).run Try.prog w = .ok (.bool (a == a' && b == b' && c == c')) w := by
  show (do pure (Value.bool (← Op.equal 26 (.agg #[.int .i64 a, .int .i64 b, .int .i64 c]) (.agg #[.int .i64 a', .int .i64 b', .int .i64 c']))) : Sem Value).run Try.prog w = _
  rw [Sem.run_bind]
  show ((Op.equalIn (9998 + 2) 26 (.agg #[.int .i64 a, .int .i64 b, .int .i64 c]) (.agg #[.int .i64 a', .int .i64 b', .int .i64 c'])).run Try.prog w).andThen _ = _
  rw [eq_struct, Result.andThen_ok, Sem.run_pure]
theorem neq_agg (a b c a' b' c' : Int) (w : World) : (binOp .neq 26 (.agg #[.int .i64 a, .int .i64 b, .int .i64 c]) (.agg #[.int .i64 a', .int .i64 b', .int .i64 c'])).run Try.prog w = .ok (.bool (!(a == a' && b == b' && c == c'))) w := by
  show (do pure (Value.bool (!(← Op.equal 26 (.agg #[.int .i64 a, .int .i64 b, .int .i64 c]) (.agg #[.int .i64 a', .int .i64 b', .int .i64 c'])))) : Sem Value).run Try.prog w = _
  rw [Sem.run_bind]
  show ((Op.equalIn (9998 + 2) 26 (.agg #[.int .i64 a, .int .i64 b, .int .i64 c]) (.agg #[.int .i64 a', .int .i64 b', .int .i64 c'])).run Try.prog w).andThen _ = _
  rw [eq_struct, Result.andThen_ok, Sem.run_pure]
theorem eql_same (a b c : Int) (w : World) : (binOp .eql 26 (.agg #[.int .i64 a, .int .i64 b, .int .i64 c]) (.agg #[.int .i64 a, .int .i64 b, .int .i64 c])).run Try.prog w = .ok (.bool true) w := by rw [eql_agg]; simp
theorem neq_same (a b c : Int) (w : World) : (binOp .neq 26 (.agg #[.int .i64 a, .int .i64 b, .int .i64 c]) (.agg #[.int .i64 a, .int .i64 b, .int .i64 c])).run Try.prog w = .ok (.bool false) w := by rw [neq_agg]; simp

theorem three_ways (y : Int) : pickI y 3 = 0 ∨ pickI y 3 = 1 ∨ pickI y 3 = 2 := by
  have := pickI_range y 3 (by omega); omega
theorem pick_node (x : Int) : nodeB (pickI x 16) = true := by
  have := pickI_range x 16 (by omega)
  exact (nodeB_iff _).2 ⟨this.1, by omega⟩

set_option maxRecDepth 100000 in
set_option maxHeartbeats 4000000 in
theorem cliqueCounts_walk (A : Option Addr) (c : Nat) (l : List (Int × Int)) (w : World) (f : PrsOk w A c l) :
    Calls Try.prog 6 #[.slice A l.length c] w fun e w' => e = .returned (.bool true) ∧ Below w.heap.size w w' := by
  have hlm : l.length ≤ maxLen := by have := f.len; omega
  unfold maxLen at hlm
  have FR := Lib.hid f.row
  have FW := Lib.hid f.wf
  clear f
  have AW := Lib.hid (fun W => awake_any W)
  have qg := fun x y a b c a' b' c' w => eq_guard .eql x y a b c a' b' c' w
  have qn := fun x y a b c a' b' c' w => eq_guard .neq x y a b c a' b' c' w
  have qe := eql_same
  have qz := neq_same
  go_enter Try.func6, Try.ntmps6
  go_wp2_with fail
  (with_reducible refine (AW.out _).mono ?_); rintro e v1 ⟨rfl, hb⟩
  have HB := Lib.hid (hb.trans ((Joins.below_alloc1 v1 (.cells #[.int .i64 0, .int .i64 0, .int .i64 0] 26)).mono hb.size))
  have HE := Lib.hid (ErAt.new v1 ⟨0, 0, 0⟩)
  have HBX : Hid (w.heap.size ≤ v1.heap.size) := Lib.hid hb.size
  clear hb
  go_wp2_with fail
  generalize v1.alloc (.cells #[.int .i64 0, .int .i64 0, .int .i64 0] 26) = V at *
  generalize v1.heap.size = E at *
  go_loopw [5, 6, 7, 8] (fun s5 s6 s7 s8 wr => ∃ (k : Nat) (met g b : Int), k ≤ l.length ∧ k ≤ 30 ∧ (0 ≤ g ∧ g ≤ k) ∧ (0 ≤ b ∧ b ≤ k) ∧ s5 = .int .i64 g ∧ s6 = .int .i64 b ∧ s7 = .int .i64 met ∧ s8 = .int .i64 k ∧ ErAt wr E ⟨met, g, b⟩ ∧ Below w.heap.size w wr) (fun _ _ _ s8 _ => 30 - (intOf s8).toNat)
  case atStart => exact ⟨0, 0, 0, 0, by omega, by omega, by omega, by omega, rfl, rfl, rfl, rfl, HE.out, HB.out⟩
  case round =>
    obtain ⟨k, met, g, b, hk, hk30, ⟨g0, g1⟩, ⟨b0, b1⟩, rfl, rfl, rfl, rfl, he, hb⟩ := hrel
    clear HE HB
    have HE := Lib.hid he; clear he
    have HB := Lib.hid hb; clear hb
    by_cases hlt : k < l.length
    · by_cases hlt2 : k < 30
      · have i1 : (k : Int) < (l.length : Int) := by omega
        have i2 : (k : Int) < 30 := by omega
        obtain ⟨⟨x, y⟩, hx⟩ : ∃ x, l[k]? = some x := ⟨_, List.getElem?_eq_getElem hlt⟩
        obtain ⟨ad, rfl, hadb, hcc⟩ := (FR.out.below HB.out (Nat.le_refl _)) (by omega)
        obtain ⟨x0, x1⟩ := hcc k _ hx
        simp only at x0 x1
        have hwf := FW.out _ (List.mem_of_getElem? hx)
        have p1 := Lib.hid (fun W => pick_any x 16 hwf.1 (by omega) W)
        have p2 := Lib.hid (fun W => pick_any y 3 hwf.2 (by omega) W)
        have hn := pick_node x
        have h3 := three_ways y
        generalize pickI x 16 = X at *
        generalize pickI y 3 = Y at *
        have m1 := moreI_small g g0 (by omega)
        have m2 := moreI_small b b0 (by omega)
        have w1 : IntKind.i64.wrap (g + 1) = g + 1 := IntWalk.i64_in _ (by omega)
        have w2 : IntKind.i64.wrap (b + 1) = b + 1 := IntWalk.i64_in _ (by omega)
        have cH := fun W => hear_any ⟨met, g, b⟩ X Y W
        have cW := Lib.hid (fun W => refWith_any met X W)
        have cS := Lib.hid (fun W => stays_any ⟨met, g, b⟩ W)
        clear hcc hx hwf
        obtain ⟨y0, y1, y2⟩ := HE.out.cells
        rcases h3 with rfl | rfl | rfl
        · rw [hear_none _ _ _ (by decide) (by decide)] at cH
          clear hn m1 m2
          have CH := Lib.hid cH; clear cH
          go_wp2_with fail
          (with_reducible refine (p1.out _).mono ?_); rintro e u1 ⟨rfl, rfl⟩
          go_wp2_with fail
          (with_reducible refine (p2.out _).mono ?_); rintro e u1 ⟨rfl, rfl⟩
          go_wp2_with fail
          (with_reducible refine (CH.out _).mono ?_); rintro e u2 ⟨rfl, hb⟩
          have hb2 := Joins.below_alloc1 u2 (.cells #[.int .i64 met, .int .i64 g, .int .i64 b] 26)
          replace HE := Lib.hid ((HE.out.on hb).on hb2)
          replace HB := Lib.hid ((HB.out.trans (hb.mono HB.out.size)).trans (hb2.mono (HB.out.trans (hb.mono HB.out.size)).size))
          have HF := Lib.hid (ErAt.new u2 ⟨met, g, b⟩)
          clear y0 y1 y2 x0 x1 hb hb2
          obtain ⟨y0, y1, y2⟩ := HE.out.cells; obtain ⟨z0, z1, z2⟩ := HF.out.cells
          have hfr := HE.out.frozen
          go_wp2_with fail
          go_roundw
          case rel => exact ⟨k + 1, met, g, b, by omega, by omega, ⟨by omega, by omega⟩, ⟨by omega, by omega⟩, rfl, rfl, rfl, by go_num, HE.out.set ⟨met, g, b⟩, below_set3 HB.out HBX.out _ _ _⟩
          case measure => simp [intOf]; omega
        · rw [hear_good _ _ hn] at cH
          unfold goodE at cH
          simp only at cH
          rw [m1] at cH
          clear hn m1 m2
          have CH := Lib.hid cH; clear cH
          go_wp2_with fail
          (with_reducible refine (p1.out _).mono ?_); rintro e u1 ⟨rfl, rfl⟩
          go_wp2_with fail
          (with_reducible refine (p2.out _).mono ?_); rintro e u1 ⟨rfl, rfl⟩
          go_wp2_with fail
          (with_reducible refine (CH.out _).mono ?_); rintro e u2 ⟨rfl, hb⟩
          have hb2 := Joins.below_alloc1 u2 (.cells #[.int .i64 (withI met X), .int .i64 (g + 1), .int .i64 b] 26)
          replace HE := Lib.hid ((HE.out.on hb).on hb2)
          replace HB := Lib.hid ((HB.out.trans (hb.mono HB.out.size)).trans (hb2.mono (HB.out.trans (hb.mono HB.out.size)).size))
          have HF := Lib.hid (ErAt.new u2 ⟨(withI met X), (g + 1), b⟩)
          clear y0 y1 y2 x0 x1 hb hb2
          go_wp2_with fail
          generalize u2.alloc (.cells #[.int .i64 (withI met X), .int .i64 (g + 1), .int .i64 b] 26) = V2 at *
          generalize u2.heap.size = F at *
          (with_reducible refine (cW.out _).mono ?_); rintro e u3 ⟨rfl, hb⟩
          replace HE := Lib.hid (HE.out.on hb); replace HF := Lib.hid (HF.out.on hb)
          replace HB := Lib.hid (HB.out.trans (hb.mono HB.out.size)); clear hb
          obtain ⟨y0, y1, y2⟩ := HE.out.cells; obtain ⟨z0, z1, z2⟩ := HF.out.cells
          have hfr := HE.out.frozen
          cases hst : staysB ⟨met, g, b⟩
          · have CS := fun W => cS.out W
            rw [hst] at CS
            clear hst
            go_wp2_with fail
            (with_reducible refine (CS _).mono ?_); rintro e u4 ⟨rfl, hb⟩
            replace HE := Lib.hid (HE.out.on hb); replace HF := Lib.hid (HF.out.on hb)
            replace HB := Lib.hid (HB.out.trans (hb.mono HB.out.size))
            clear y0 y1 y2 z0 z1 z2 hfr hb CS
            obtain ⟨y0, y1, y2⟩ := HE.out.cells; obtain ⟨z0, z1, z2⟩ := HF.out.cells
            have hfr := HE.out.frozen
            go_wp2_with fail
            go_roundw
            case rel => exact ⟨k + 1, (withI met X), (g + 1), b, by omega, by omega, ⟨by omega, by omega⟩, ⟨by omega, by omega⟩, rfl, rfl, rfl, by go_num, HE.out.set ⟨(withI met X), (g + 1), b⟩, below_set3 HB.out HBX.out _ _ _⟩
            case measure => simp [intOf]; omega
          · have CS := fun W => cS.out W
            rw [hst] at CS
            have cT : ∀ W, Calls Try.prog 15 #[ev ⟨withI met X, g + 1, b⟩] W fun r w' => r = .returned (.bool true) ∧ Below W.heap.size W w' := fun W => by
              have h9 := stays_any ⟨withI met X, g + 1, b⟩ W
              rw [show staysB ⟨withI met X, g + 1, b⟩ = true by unfold staysB at hst ⊢; simp at hst ⊢; omega] at h9
              exact h9
            have CT := Lib.hid cT; clear cT
            clear hst
            go_wp2_with fail
            (with_reducible refine (CS _).mono ?_); rintro e u4 ⟨rfl, hb⟩
            replace HE := Lib.hid (HE.out.on hb); replace HF := Lib.hid (HF.out.on hb)
            replace HB := Lib.hid (HB.out.trans (hb.mono HB.out.size))
            clear y0 y1 y2 z0 z1 z2 hfr hb CS
            obtain ⟨y0, y1, y2⟩ := HE.out.cells; obtain ⟨z0, z1, z2⟩ := HF.out.cells
            have hfr := HE.out.frozen
            go_wp2_with fail
            (with_reducible refine (CT.out _).mono ?_); rintro e u5 ⟨rfl, hb⟩
            replace HE := Lib.hid (HE.out.on hb); replace HF := Lib.hid (HF.out.on hb)
            replace HB := Lib.hid (HB.out.trans (hb.mono HB.out.size))
            clear y0 y1 y2 z0 z1 z2 hfr hb
            obtain ⟨y0, y1, y2⟩ := HE.out.cells; obtain ⟨z0, z1, z2⟩ := HF.out.cells
            have hfr := HE.out.frozen
            go_wp2_with fail
            go_roundw
            case rel => exact ⟨k + 1, (withI met X), (g + 1), b, by omega, by omega, ⟨by omega, by omega⟩, ⟨by omega, by omega⟩, rfl, rfl, rfl, by go_num, HE.out.set ⟨(withI met X), (g + 1), b⟩, below_set3 HB.out HBX.out _ _ _⟩
            case measure => simp [intOf]; omega
        · rw [hear_bad _ _ hn] at cH
          unfold badE at cH
          simp only at cH
          rw [m2] at cH
          clear hn m1 m2
          have CH := Lib.hid cH; clear cH
          go_wp2_with fail
          (with_reducible refine (p1.out _).mono ?_); rintro e u1 ⟨rfl, rfl⟩
          go_wp2_with fail
          (with_reducible refine (p2.out _).mono ?_); rintro e u1 ⟨rfl, rfl⟩
          go_wp2_with fail
          (with_reducible refine (CH.out _).mono ?_); rintro e u2 ⟨rfl, hb⟩
          have hb2 := Joins.below_alloc1 u2 (.cells #[.int .i64 met, .int .i64 g, .int .i64 (b + 1)] 26)
          replace HE := Lib.hid ((HE.out.on hb).on hb2)
          replace HB := Lib.hid ((HB.out.trans (hb.mono HB.out.size)).trans (hb2.mono (HB.out.trans (hb.mono HB.out.size)).size))
          have HF := Lib.hid (ErAt.new u2 ⟨met, g, (b + 1)⟩)
          clear y0 y1 y2 x0 x1 hb hb2
          obtain ⟨y0, y1, y2⟩ := HE.out.cells; obtain ⟨z0, z1, z2⟩ := HF.out.cells
          have hfr := HE.out.frozen
          go_wp2_with fail
          go_roundw
          case rel => exact ⟨k + 1, met, g, (b + 1), by omega, by omega, ⟨by omega, by omega⟩, ⟨by omega, by omega⟩, rfl, rfl, rfl, by go_num, HE.out.set ⟨met, g, (b + 1)⟩, below_set3 HB.out HBX.out _ _ _⟩
          case measure => simp [intOf]; omega
      · have i1 : (k : Int) < (l.length : Int) := by omega
        have i2 : ¬ (k : Int) < 30 := by omega
        obtain ⟨y0, y1, y2⟩ := HE.out.cells
        have HST : Hid (staysB ⟨met, g, b⟩ = decide (b ≤ g)) := Lib.hid rfl
        have cS := fun W => stays_any ⟨met, g, b⟩ W
        rw [HST.out] at cS
        have CS := Lib.hid cS
        clear cS
        go_wp2_with fail
        (with_reducible refine (CS.out _).mono ?_); rintro e u4 ⟨rfl, hb⟩
        go_wp2_with fail
        go_ret
        exact ⟨by simp, HB.out.trans (hb.mono HB.out.size)⟩
    · have i1 : ¬ (k : Int) < (l.length : Int) := by omega
      obtain ⟨y0, y1, y2⟩ := HE.out.cells
      have HST : Hid (staysB ⟨met, g, b⟩ = decide (b ≤ g)) := Lib.hid rfl
      have cS := fun W => stays_any ⟨met, g, b⟩ W
      rw [HST.out] at cS
      have CS := Lib.hid cS
      clear cS
      go_wp2_with fail
      (with_reducible refine (CS.out _).mono ?_); rintro e u4 ⟨rfl, hb⟩
      go_wp2_with fail
      go_ret
      exact ⟨by simp, HB.out.trans (hb.mono HB.out.size)⟩


end Go.Proofs.Ytplnmkeopdmanaa

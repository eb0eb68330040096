/-
  Active, Next, Epoch, Begin and Order, by the document, as plain functions.
-/
import Derived.Test.YtlgbgkiajhcneaaLatFns
import Derived.Test.YtlgbgkiajhcneaaOnce
import Derived.Deep.DeepCutAuto
import Derived.Deep.CutBlock
namespace Go.Proofs.Ytlgbgkiajhcneaa
open Go.RowKit

theorem act_of {la lg t : Int} (h : mayL la lg t = true) : actL la lg t = decide (t % (la + lg) < la) := by unfold actL; rw [h, Bool.true_and]
theorem act_no {la lg t : Int} (h : mayL la lg t = false) : actL la lg t = false := by unfold actL; rw [h, Bool.false_and]
theorem next_of {la lg t : Int} (h : mayL la lg t = true) : nextV la lg t = nextI la lg t := by unfold nextV; rw [h]; rfl
theorem next_no {la lg t : Int} (h : mayL la lg t = false) : nextV la lg t = 0 := by unfold nextV; rw [h]; rfl
theorem ep_of {la lg t : Int} (h : mayL la lg t = true) : epV la lg t = epI la lg t := by unfold epV; rw [h]; rfl
theorem ep_no {la lg t : Int} (h : mayL la lg t = false) : epV la lg t = 0 := by unfold epV; rw [h]; rfl
theorem next_act {la lg t : Int} (h : t % (la + lg) < la) : nextI la lg t = t := by unfold nextI; rw [if_pos h]
theorem next_gap {la lg t : Int} (h : ¬ t % (la + lg) < la) : nextI la lg t = t + la + lg - t % (la + lg) := by
  unfold nextI
  rw [if_neg h, Int.add_mul, Int.mul_comm]
  have := Int.mul_ediv_add_emod t (la + lg)
  omega

set_option maxRecDepth 100000 in
theorem refActive_any (la lg t : Int) (w : World) :
    Calls Try.prog 25 #[lv la lg, .int .i64 t] w fun e w' => e = .returned (.bool (actL la lg t)) ∧ Below w.heap.size w w' := by
  have hL := LtAt.new w la lg
  have HB := Lib.hid (Joins.below_alloc1 w (.cells #[.int .i64 la, .int .i64 lg] 23))
  have cm := fun W => refMay_any la lg t W
  have HI := Lib.hid (mayL_iff la lg t)
  go_enter Try.func25, Try.ntmps25
  go_upto_region 1 with fail
  generalize w.alloc (.cells #[.int .i64 la, .int .i64 lg] 23) = X at *
  have HL := Lib.hid hL; clear hL
  cases h : mayL la lg t
  · have HA := Lib.hid (act_no h)
    rw [h] at cm
    clear h HI
    have HV : ∃ Vp : Nat → (Nat → Value) → World → Prop, Vp = (fun ix u wv => match ix with
      | 0 => u 0 = .agg #[.int .i64 la, .int .i64 lg]
      | 1 => u 1 = .int .i64 t
      | 2 => u 2 = .bool false
      | 3 => u 3 = .bool false
      | 4 => u 4 = undef
      | 5 => u 5 = undef
      | 6 => u 6 = undef
      | 7 => u 7 = undef
      | 8 => u 8 = undef
      | 9 => u 9 = undef
      | 10 => u 10 = undef
      | 11 => u 11 = undef
      | 12 => u 12 = undef
      | 13 => u 13 = undef
      | 14 => u 14 = .bool false
      | 15 => u 15 = .bool false
      | _ => True) := ⟨_, rfl⟩
    obtain ⟨Vp, hVdef⟩ := HV
    have Vp0 : ∀ u wv, Vp 0 u wv = (u 0 = .agg #[.int .i64 la, .int .i64 lg]) := fun u wv => by subst hVdef; rfl
    have Vp1 : ∀ u wv, Vp 1 u wv = (u 1 = .int .i64 t) := fun u wv => by subst hVdef; rfl
    have Vp2 : ∀ u wv, Vp 2 u wv = (u 2 = .bool false) := fun u wv => by subst hVdef; rfl
    have Vp3 : ∀ u wv, Vp 3 u wv = (u 3 = .bool false) := fun u wv => by subst hVdef; rfl
    have Vp4 : ∀ u wv, Vp 4 u wv = (u 4 = undef) := fun u wv => by subst hVdef; rfl
    have Vp5 : ∀ u wv, Vp 5 u wv = (u 5 = undef) := fun u wv => by subst hVdef; rfl
    have Vp6 : ∀ u wv, Vp 6 u wv = (u 6 = undef) := fun u wv => by subst hVdef; rfl
    have Vp7 : ∀ u wv, Vp 7 u wv = (u 7 = undef) := fun u wv => by subst hVdef; rfl
    have Vp8 : ∀ u wv, Vp 8 u wv = (u 8 = undef) := fun u wv => by subst hVdef; rfl
    have Vp9 : ∀ u wv, Vp 9 u wv = (u 9 = undef) := fun u wv => by subst hVdef; rfl
    have Vp10 : ∀ u wv, Vp 10 u wv = (u 10 = undef) := fun u wv => by subst hVdef; rfl
    have Vp11 : ∀ u wv, Vp 11 u wv = (u 11 = undef) := fun u wv => by subst hVdef; rfl
    have Vp12 : ∀ u wv, Vp 12 u wv = (u 12 = undef) := fun u wv => by subst hVdef; rfl
    have Vp13 : ∀ u wv, Vp 13 u wv = (u 13 = undef) := fun u wv => by subst hVdef; rfl
    have Vp14 : ∀ u wv, Vp 14 u wv = (u 14 = .bool false) := fun u wv => by subst hVdef; rfl
    have Vp15 : ∀ u wv, Vp 15 u wv = (u 15 = .bool false) := fun u wv => by subst hVdef; rfl
    have HVD := Lib.hid hVdef
    clear hVdef
    refine region_each (V := Vp) (drop := fun _ _ => false) (G := fun wv => Below X.heap.size X wv) (Rel := fun jx wv wv' => Below wv.heap.size wv wv') (by kernel_rfl) (by kernel_rfl) (Below.refl _ _).drew ?hmonoq1 ?hdepq1 ⟨?s0_q1, ?s1_q1, ?s2_q1, ?s3_q1, ?s4_q1, ?s5_q1, ?s6_q1, ?s7_q1, ?s8_q1, ?s9_q1, ?s10_q1, ?s11_q1, ?s12_q1, ?s13_q1, ?s14_q1, ?s15_q1, trivial⟩ ?behindq1
    case hmonoq1 =>
      intro ix jx u wv wv' hij hw hd hr
      rw [HVD.out]
      dsimp only
      split <;> intro h <;> first | exact trivial | exact h
    case hdepq1 =>
      intro ix u u' wv h1 h2
      rw [HVD.out]
      dsimp only
      split <;> intro h <;> first | exact trivial | (rw [← h1]; exact h)
    case s0_q1 =>
      refine owe rfl fun a wx val hG hV hN hO K hK => ?_
      have e2 : a.tmps[2]? = some (.pointer (some ⟨w.heap.size, 0, none⟩)) := (hO 2 (by kernel_rfl)).trans (by rfl)
      clear hV hN hO
      obtain ⟨y0, y1⟩ := (HL.out.on hG).cells
      go_simp
      exact hK.out _ _ (by rw [Vp0, upd_at] <;> (congr 1 <;> omega)) (Below.refl _ _) hG
    case s1_q1 =>
      refine owe rfl fun a wx val hG hV hN hO K hK => ?_
      have e1 : a.tmps[1]? = some (.int .i64 t) := (hO 1 (by kernel_rfl)).trans (by rfl)
      clear hV hN hO
      go_simp
      exact hK.out _ _ (by rw [Vp1, upd_at] <;> (congr 1 <;> omega)) (Below.refl _ _) hG
    case s2_q1 =>
      refine owe rfl fun a wx val hG hV hN hO K hK => ?_
      have e5 := hN 0 5 (by kernel_rfl) (by kernel_rfl) (by simp)
      have f5 := hV 0 (by kernel_rfl) (by kernel_rfl)
      rw [Vp0] at f5; rw [f5] at e5; clear f5
      have e6 := hN 1 6 (by kernel_rfl) (by kernel_rfl) (by simp)
      have f6 := hV 1 (by kernel_rfl) (by kernel_rfl)
      rw [Vp1] at f6; rw [f6] at e6; clear f6
      clear hV hN hO
      go_simp
      refine (cm _).mono ?_
      rintro e w11 ⟨rfl, hb⟩
      exact hK.out _ _ (by rw [Vp2, upd_at]) hb (hG.trans (hb.mono hG.size))
    case s3_q1 =>
      refine owe rfl fun a wx val hG hV hN hO K hK => ?_
      have e7 := hN 2 7 (by kernel_rfl) (by kernel_rfl) (by simp)
      have f7 := hV 2 (by kernel_rfl) (by kernel_rfl)
      rw [Vp2] at f7; rw [f7] at e7; clear f7
      clear hV hN hO
      go_simp
      exact hK.out _ _ (by rw [Vp3, upd_at] <;> (congr 1 <;> omega)) (Below.refl _ _) hG
    case s4_q1 =>
      exact owe_skip (g := 3) (t := 8) (b := true) (c := false) rfl (by kernel_rfl) (by kernel_rfl) (by kernel_rfl) (by simp) (fun val w h => by rw [Vp3] at h; exact h) (by decide) (fun val w => by rw [Vp4, upd_at])
    case s5_q1 =>
      exact owe_skip (g := 3) (t := 8) (b := true) (c := false) rfl (by kernel_rfl) (by kernel_rfl) (by kernel_rfl) (by simp) (fun val w h => by rw [Vp3] at h; exact h) (by decide) (fun val w => by rw [Vp5, upd_at])
    case s6_q1 =>
      exact owe_skip (g := 3) (t := 8) (b := true) (c := false) rfl (by kernel_rfl) (by kernel_rfl) (by kernel_rfl) (by simp) (fun val w h => by rw [Vp3] at h; exact h) (by decide) (fun val w => by rw [Vp6, upd_at])
    case s7_q1 =>
      exact owe_skip (g := 3) (t := 8) (b := true) (c := false) rfl (by kernel_rfl) (by kernel_rfl) (by kernel_rfl) (by simp) (fun val w h => by rw [Vp3] at h; exact h) (by decide) (fun val w => by rw [Vp7, upd_at])
    case s8_q1 =>
      exact owe_skip (g := 3) (t := 8) (b := true) (c := false) rfl (by kernel_rfl) (by kernel_rfl) (by kernel_rfl) (by simp) (fun val w h => by rw [Vp3] at h; exact h) (by decide) (fun val w => by rw [Vp8, upd_at])
    case s9_q1 =>
      exact owe_skip (g := 3) (t := 8) (b := true) (c := false) rfl (by kernel_rfl) (by kernel_rfl) (by kernel_rfl) (by simp) (fun val w h => by rw [Vp3] at h; exact h) (by decide) (fun val w => by rw [Vp9, upd_at])
    case s10_q1 =>
      exact owe_skip (g := 3) (t := 8) (b := true) (c := false) rfl (by kernel_rfl) (by kernel_rfl) (by kernel_rfl) (by simp) (fun val w h => by rw [Vp3] at h; exact h) (by decide) (fun val w => by rw [Vp10, upd_at])
    case s11_q1 =>
      exact owe_skip (g := 3) (t := 8) (b := true) (c := false) rfl (by kernel_rfl) (by kernel_rfl) (by kernel_rfl) (by simp) (fun val w h => by rw [Vp3] at h; exact h) (by decide) (fun val w => by rw [Vp11, upd_at])
    case s12_q1 =>
      exact owe_skip (g := 3) (t := 8) (b := true) (c := false) rfl (by kernel_rfl) (by kernel_rfl) (by kernel_rfl) (by simp) (fun val w h => by rw [Vp3] at h; exact h) (by decide) (fun val w => by rw [Vp12, upd_at])
    case s13_q1 =>
      exact owe_skip (g := 3) (t := 8) (b := true) (c := false) rfl (by kernel_rfl) (by kernel_rfl) (by kernel_rfl) (by simp) (fun val w h => by rw [Vp3] at h; exact h) (by decide) (fun val w => by rw [Vp13, upd_at])
    case s14_q1 =>
      refine owe rfl fun a wx val hG hV hN hO K hK => ?_
      have e8 := hN 3 8 (by kernel_rfl) (by kernel_rfl) (by simp)
      have f8 := hV 3 (by kernel_rfl) (by kernel_rfl)
      rw [Vp3] at f8; rw [f8] at e8; clear f8
      have e18 := hN 13 18 (by kernel_rfl) (by kernel_rfl) (by simp)
      have f18 := hV 13 (by kernel_rfl) (by kernel_rfl)
      rw [Vp13] at f18; rw [f18] at e18; clear f18
      clear hV hN hO
      go_simp
      exact hK.out _ _ (by rw [Vp14, upd_at] <;> (congr 1 <;> omega)) (Below.refl _ _) hG
    case s15_q1 =>
      refine owe rfl fun a wx val hG hV hN hO K hK => ?_
      have e19 := hN 14 19 (by kernel_rfl) (by kernel_rfl) (by simp)
      have f19 := hV 14 (by kernel_rfl) (by kernel_rfl)
      rw [Vp14] at f19; rw [f19] at e19; clear f19
      clear hV hN hO
      go_simp
      exact hK.out _ _ (by rw [Vp15, upd_at] <;> (congr 1 <;> omega)) (Below.refl _ _) hG
    intro val wx hG hV
    have f0 := hV 0 (by simp) (fun _ _ => by rfl)
    rw [Vp0] at f0
    have f1 := hV 1 (by simp) (fun _ _ => by rfl)
    rw [Vp1] at f1
    have f2 := hV 2 (by simp) (fun _ _ => by rfl)
    rw [Vp2] at f2
    have f3 := hV 3 (by simp) (fun _ _ => by rfl)
    rw [Vp3] at f3
    have f4 := hV 4 (by simp) (fun _ _ => by rfl)
    rw [Vp4] at f4
    have f5 := hV 5 (by simp) (fun _ _ => by rfl)
    rw [Vp5] at f5
    have f6 := hV 6 (by simp) (fun _ _ => by rfl)
    rw [Vp6] at f6
    have f7 := hV 7 (by simp) (fun _ _ => by rfl)
    rw [Vp7] at f7
    have f8 := hV 8 (by simp) (fun _ _ => by rfl)
    rw [Vp8] at f8
    have f9 := hV 9 (by simp) (fun _ _ => by rfl)
    rw [Vp9] at f9
    have f10 := hV 10 (by simp) (fun _ _ => by rfl)
    rw [Vp10] at f10
    have f11 := hV 11 (by simp) (fun _ _ => by rfl)
    rw [Vp11] at f11
    have f12 := hV 12 (by simp) (fun _ _ => by rfl)
    rw [Vp12] at f12
    have f13 := hV 13 (by simp) (fun _ _ => by rfl)
    rw [Vp13] at f13
    have f14 := hV 14 (by simp) (fun _ _ => by rfl)
    rw [Vp14] at f14
    have f15 := hV 15 (by simp) (fun _ _ => by rfl)
    rw [Vp15] at f15
    clear hV Vp0 Vp1 Vp2 Vp3 Vp4 Vp5 Vp6 Vp7 Vp8 Vp9 Vp10 Vp11 Vp12 Vp13 Vp14 Vp15
    simp only [putAll, Act.put, List.setIfInBounds_toArray, List.set_cons_zero, List.set_cons_succ]
    generalize val 0 = z0 at *; (subst f0)
    generalize val 1 = z1 at *; (subst f1)
    generalize val 2 = z2 at *; (subst f2)
    generalize val 3 = z3 at *; (subst f3)
    generalize val 4 = z4 at *; (subst f4)
    generalize val 5 = z5 at *; (subst f5)
    generalize val 6 = z6 at *; (subst f6)
    generalize val 7 = z7 at *; (subst f7)
    generalize val 8 = z8 at *; (subst f8)
    generalize val 9 = z9 at *; (subst f9)
    generalize val 10 = z10 at *; (subst f10)
    generalize val 11 = z11 at *; (subst f11)
    generalize val 12 = z12 at *; (subst f12)
    generalize val 13 = z13 at *; (subst f13)
    generalize val 14 = z14 at *; (subst f14)
    generalize val 15 = z15 at *; (subst f15)
    clear HVD
    go_wp2_with fail
    go_ret
    exact ⟨ret_b HA.out.symm, HB.out.trans (hG.mono HB.out.size)⟩
  · obtain ⟨⟨⟨a0, a1⟩, g0, g1⟩, t0, t1⟩ := HI.out.1 h
    have HA := Lib.hid (act_of h)
    have HR := Lib.hid (fun W => refRest_any t (la + lg) (by omega) (by omega) W)
    rw [h] at cm
    clear h HI
    have HV : ∃ Vp : Nat → (Nat → Value) → World → Prop, Vp = (fun ix u wv => match ix with
      | 0 => u 0 = .agg #[.int .i64 la, .int .i64 lg]
      | 1 => u 1 = .int .i64 t
      | 2 => u 2 = .bool true
      | 3 => u 3 = .bool true
      | 4 => u 4 = .int .i64 t
      | 5 => u 5 = .pointer (some ⟨w.heap.size, 0, none⟩)
      | 6 => u 6 = .int .i64 la
      | 7 => u 7 = .pointer (some ⟨w.heap.size, 1, none⟩)
      | 8 => u 8 = .int .i64 lg
      | 9 => u 9 = .int .i64 (la + lg)
      | 10 => u 10 = .int .i64 (t % (la + lg))
      | 11 => u 11 = .pointer (some ⟨w.heap.size, 0, none⟩)
      | 12 => u 12 = .int .i64 la
      | 13 => u 13 = .bool (decide (t % (la + lg) < la))
      | 14 => u 14 = .bool (decide (t % (la + lg) < la))
      | 15 => u 15 = .bool (decide (t % (la + lg) < la))
      | _ => True) := ⟨_, rfl⟩
    obtain ⟨Vp, hVdef⟩ := HV
    have Vp0 : ∀ u wv, Vp 0 u wv = (u 0 = .agg #[.int .i64 la, .int .i64 lg]) := fun u wv => by subst hVdef; rfl
    have Vp1 : ∀ u wv, Vp 1 u wv = (u 1 = .int .i64 t) := fun u wv => by subst hVdef; rfl
    have Vp2 : ∀ u wv, Vp 2 u wv = (u 2 = .bool true) := fun u wv => by subst hVdef; rfl
    have Vp3 : ∀ u wv, Vp 3 u wv = (u 3 = .bool true) := fun u wv => by subst hVdef; rfl
    have Vp4 : ∀ u wv, Vp 4 u wv = (u 4 = .int .i64 t) := fun u wv => by subst hVdef; rfl
    have Vp5 : ∀ u wv, Vp 5 u wv = (u 5 = .pointer (some ⟨w.heap.size, 0, none⟩)) := fun u wv => by subst hVdef; rfl
    have Vp6 : ∀ u wv, Vp 6 u wv = (u 6 = .int .i64 la) := fun u wv => by subst hVdef; rfl
    have Vp7 : ∀ u wv, Vp 7 u wv = (u 7 = .pointer (some ⟨w.heap.size, 1, none⟩)) := fun u wv => by subst hVdef; rfl
    have Vp8 : ∀ u wv, Vp 8 u wv = (u 8 = .int .i64 lg) := fun u wv => by subst hVdef; rfl
    have Vp9 : ∀ u wv, Vp 9 u wv = (u 9 = .int .i64 (la + lg)) := fun u wv => by subst hVdef; rfl
    have Vp10 : ∀ u wv, Vp 10 u wv = (u 10 = .int .i64 (t % (la + lg))) := fun u wv => by subst hVdef; rfl
    have Vp11 : ∀ u wv, Vp 11 u wv = (u 11 = .pointer (some ⟨w.heap.size, 0, none⟩)) := fun u wv => by subst hVdef; rfl
    have Vp12 : ∀ u wv, Vp 12 u wv = (u 12 = .int .i64 la) := fun u wv => by subst hVdef; rfl
    have Vp13 : ∀ u wv, Vp 13 u wv = (u 13 = .bool (decide (t % (la + lg) < la))) := fun u wv => by subst hVdef; rfl
    have Vp14 : ∀ u wv, Vp 14 u wv = (u 14 = .bool (decide (t % (la + lg) < la))) := fun u wv => by subst hVdef; rfl
    have Vp15 : ∀ u wv, Vp 15 u wv = (u 15 = .bool (decide (t % (la + lg) < la))) := fun u wv => by subst hVdef; rfl
    have HVD := Lib.hid hVdef
    clear hVdef
    refine region_each (V := Vp) (drop := fun _ _ => false) (G := fun wv => Below X.heap.size X wv) (Rel := fun jx wv wv' => Below wv.heap.size wv wv') (by kernel_rfl) (by kernel_rfl) (Below.refl _ _).drew ?hmonoq2 ?hdepq2 ⟨?s0_q2, ?s1_q2, ?s2_q2, ?s3_q2, ?s4_q2, ?s5_q2, ?s6_q2, ?s7_q2, ?s8_q2, ?s9_q2, ?s10_q2, ?s11_q2, ?s12_q2, ?s13_q2, ?s14_q2, ?s15_q2, trivial⟩ ?behindq2
    case hmonoq2 =>
      intro ix jx u wv wv' hij hw hd hr
      rw [HVD.out]
      dsimp only
      split <;> intro h <;> first | exact trivial | exact h
    case hdepq2 =>
      intro ix u u' wv h1 h2
      rw [HVD.out]
      dsimp only
      split <;> intro h <;> first | exact trivial | (rw [← h1]; exact h)
    case s0_q2 =>
      refine owe rfl fun a wx val hG hV hN hO K hK => ?_
      have e2 : a.tmps[2]? = some (.pointer (some ⟨w.heap.size, 0, none⟩)) := (hO 2 (by kernel_rfl)).trans (by rfl)
      clear hV hN hO
      obtain ⟨y0, y1⟩ := (HL.out.on hG).cells
      go_simp
      exact hK.out _ _ (by rw [Vp0, upd_at] <;> (congr 1 <;> omega)) (Below.refl _ _) hG
    case s1_q2 =>
      refine owe rfl fun a wx val hG hV hN hO K hK => ?_
      have e1 : a.tmps[1]? = some (.int .i64 t) := (hO 1 (by kernel_rfl)).trans (by rfl)
      clear hV hN hO
      go_simp
      exact hK.out _ _ (by rw [Vp1, upd_at] <;> (congr 1 <;> omega)) (Below.refl _ _) hG
    case s2_q2 =>
      refine owe rfl fun a wx val hG hV hN hO K hK => ?_
      have e5 := hN 0 5 (by kernel_rfl) (by kernel_rfl) (by simp)
      have f5 := hV 0 (by kernel_rfl) (by kernel_rfl)
      rw [Vp0] at f5; rw [f5] at e5; clear f5
      have e6 := hN 1 6 (by kernel_rfl) (by kernel_rfl) (by simp)
      have f6 := hV 1 (by kernel_rfl) (by kernel_rfl)
      rw [Vp1] at f6; rw [f6] at e6; clear f6
      clear hV hN hO
      go_simp
      refine (cm _).mono ?_
      rintro e w11 ⟨rfl, hb⟩
      exact hK.out _ _ (by rw [Vp2, upd_at]) hb (hG.trans (hb.mono hG.size))
    case s3_q2 =>
      refine owe rfl fun a wx val hG hV hN hO K hK => ?_
      have e7 := hN 2 7 (by kernel_rfl) (by kernel_rfl) (by simp)
      have f7 := hV 2 (by kernel_rfl) (by kernel_rfl)
      rw [Vp2] at f7; rw [f7] at e7; clear f7
      clear hV hN hO
      go_simp
      exact hK.out _ _ (by rw [Vp3, upd_at] <;> (congr 1 <;> omega)) (Below.refl _ _) hG
    case s4_q2 =>
      refine owe_if (g := 3) (t := 8) (b := true) rfl (by kernel_rfl) (by kernel_rfl) (by kernel_rfl) (by simp) (fun val w h => by rw [Vp3] at h; exact h) fun a wx val hG hV hN hO K hK => ?_
      have e1 : a.tmps[1]? = some (.int .i64 t) := (hO 1 (by kernel_rfl)).trans (by rfl)
      clear hV hN hO
      go_simp
      exact hK.out _ _ (by rw [Vp4, upd_at] <;> (congr 1 <;> omega)) (Below.refl _ _) hG
    case s5_q2 =>
      refine owe_if (g := 3) (t := 8) (b := true) rfl (by kernel_rfl) (by kernel_rfl) (by kernel_rfl) (by simp) (fun val w h => by rw [Vp3] at h; exact h) fun a wx val hG hV hN hO K hK => ?_
      have e2 : a.tmps[2]? = some (.pointer (some ⟨w.heap.size, 0, none⟩)) := (hO 2 (by kernel_rfl)).trans (by rfl)
      clear hV hN hO
      go_simp
      exact hK.out _ _ (by rw [Vp5, upd_at] <;> (congr 1 <;> omega)) (Below.refl _ _) hG
    case s6_q2 =>
      refine owe_if (g := 3) (t := 8) (b := true) rfl (by kernel_rfl) (by kernel_rfl) (by kernel_rfl) (by simp) (fun val w h => by rw [Vp3] at h; exact h) fun a wx val hG hV hN hO K hK => ?_
      have e10 := hN 5 10 (by kernel_rfl) (by kernel_rfl) (by simp)
      have f10 := hV 5 (by kernel_rfl) (by kernel_rfl)
      rw [Vp5] at f10; rw [f10] at e10; clear f10
      clear hV hN hO
      obtain ⟨y0, y1⟩ := (HL.out.on hG).cells
      go_simp
      exact hK.out _ _ (by rw [Vp6, upd_at] <;> (congr 1 <;> omega)) (Below.refl _ _) hG
    case s7_q2 =>
      refine owe_if (g := 3) (t := 8) (b := true) rfl (by kernel_rfl) (by kernel_rfl) (by kernel_rfl) (by simp) (fun val w h => by rw [Vp3] at h; exact h) fun a wx val hG hV hN hO K hK => ?_
      have e2 : a.tmps[2]? = some (.pointer (some ⟨w.heap.size, 0, none⟩)) := (hO 2 (by kernel_rfl)).trans (by rfl)
      clear hV hN hO
      go_simp
      exact hK.out _ _ (by rw [Vp7, upd_at] <;> (congr 1 <;> omega)) (Below.refl _ _) hG
    case s8_q2 =>
      refine owe_if (g := 3) (t := 8) (b := true) rfl (by kernel_rfl) (by kernel_rfl) (by kernel_rfl) (by simp) (fun val w h => by rw [Vp3] at h; exact h) fun a wx val hG hV hN hO K hK => ?_
      have e12 := hN 7 12 (by kernel_rfl) (by kernel_rfl) (by simp)
      have f12 := hV 7 (by kernel_rfl) (by kernel_rfl)
      rw [Vp7] at f12; rw [f12] at e12; clear f12
      clear hV hN hO
      obtain ⟨y0, y1⟩ := (HL.out.on hG).cells
      go_simp
      exact hK.out _ _ (by rw [Vp8, upd_at] <;> (congr 1 <;> omega)) (Below.refl _ _) hG
    case s9_q2 =>
      refine owe_if (g := 3) (t := 8) (b := true) rfl (by kernel_rfl) (by kernel_rfl) (by kernel_rfl) (by simp) (fun val w h => by rw [Vp3] at h; exact h) fun a wx val hG hV hN hO K hK => ?_
      have e11 := hN 6 11 (by kernel_rfl) (by kernel_rfl) (by simp)
      have f11 := hV 6 (by kernel_rfl) (by kernel_rfl)
      rw [Vp6] at f11; rw [f11] at e11; clear f11
      have e13 := hN 8 13 (by kernel_rfl) (by kernel_rfl) (by simp)
      have f13 := hV 8 (by kernel_rfl) (by kernel_rfl)
      rw [Vp8] at f13; rw [f13] at e13; clear f13
      clear hV hN hO
      have q1 : IntKind.i64.wrap (la + lg) = la + lg := IntWalk.i64_in _ (by omega)
      go_simp
      exact hK.out _ _ (by rw [Vp9, upd_at] <;> (congr 1 <;> omega)) (Below.refl _ _) hG
    case s10_q2 =>
      refine owe_if (g := 3) (t := 8) (b := true) rfl (by kernel_rfl) (by kernel_rfl) (by kernel_rfl) (by simp) (fun val w h => by rw [Vp3] at h; exact h) fun a wx val hG hV hN hO K hK => ?_
      have e9 := hN 4 9 (by kernel_rfl) (by kernel_rfl) (by simp)
      have f9 := hV 4 (by kernel_rfl) (by kernel_rfl)
      rw [Vp4] at f9; rw [f9] at e9; clear f9
      have e14 := hN 9 14 (by kernel_rfl) (by kernel_rfl) (by simp)
      have f14 := hV 9 (by kernel_rfl) (by kernel_rfl)
      rw [Vp9] at f14; rw [f14] at e14; clear f14
      clear hV hN hO
      go_simp
      refine (HR.out _).mono ?_
      rintro e w11 ⟨rfl, rfl⟩
      exact hK.out _ _ (by rw [Vp10, upd_at] <;> (congr 1 <;> omega)) (Below.refl _ _) hG
    case s11_q2 =>
      refine owe_if (g := 3) (t := 8) (b := true) rfl (by kernel_rfl) (by kernel_rfl) (by kernel_rfl) (by simp) (fun val w h => by rw [Vp3] at h; exact h) fun a wx val hG hV hN hO K hK => ?_
      have e2 : a.tmps[2]? = some (.pointer (some ⟨w.heap.size, 0, none⟩)) := (hO 2 (by kernel_rfl)).trans (by rfl)
      clear hV hN hO
      go_simp
      exact hK.out _ _ (by rw [Vp11, upd_at] <;> (congr 1 <;> omega)) (Below.refl _ _) hG
    case s12_q2 =>
      refine owe_if (g := 3) (t := 8) (b := true) rfl (by kernel_rfl) (by kernel_rfl) (by kernel_rfl) (by simp) (fun val w h => by rw [Vp3] at h; exact h) fun a wx val hG hV hN hO K hK => ?_
      have e16 := hN 11 16 (by kernel_rfl) (by kernel_rfl) (by simp)
      have f16 := hV 11 (by kernel_rfl) (by kernel_rfl)
      rw [Vp11] at f16; rw [f16] at e16; clear f16
      clear hV hN hO
      obtain ⟨y0, y1⟩ := (HL.out.on hG).cells
      go_simp
      exact hK.out _ _ (by rw [Vp12, upd_at] <;> (congr 1 <;> omega)) (Below.refl _ _) hG
    case s13_q2 =>
      refine owe_if (g := 3) (t := 8) (b := true) rfl (by kernel_rfl) (by kernel_rfl) (by kernel_rfl) (by simp) (fun val w h => by rw [Vp3] at h; exact h) fun a wx val hG hV hN hO K hK => ?_
      have e15 := hN 10 15 (by kernel_rfl) (by kernel_rfl) (by simp)
      have f15 := hV 10 (by kernel_rfl) (by kernel_rfl)
      rw [Vp10] at f15; rw [f15] at e15; clear f15
      have e17 := hN 12 17 (by kernel_rfl) (by kernel_rfl) (by simp)
      have f17 := hV 12 (by kernel_rfl) (by kernel_rfl)
      rw [Vp12] at f17; rw [f17] at e17; clear f17
      clear hV hN hO
      go_simp
      exact hK.out _ _ (by rw [Vp13, upd_at] <;> (congr 1 <;> omega)) (Below.refl _ _) hG
    case s14_q2 =>
      refine owe rfl fun a wx val hG hV hN hO K hK => ?_
      have e8 := hN 3 8 (by kernel_rfl) (by kernel_rfl) (by simp)
      have f8 := hV 3 (by kernel_rfl) (by kernel_rfl)
      rw [Vp3] at f8; rw [f8] at e8; clear f8
      have e18 := hN 13 18 (by kernel_rfl) (by kernel_rfl) (by simp)
      have f18 := hV 13 (by kernel_rfl) (by kernel_rfl)
      rw [Vp13] at f18; rw [f18] at e18; clear f18
      clear hV hN hO
      go_simp
      exact hK.out _ _ (by rw [Vp14, upd_at] <;> (congr 1 <;> omega)) (Below.refl _ _) hG
    case s15_q2 =>
      refine owe rfl fun a wx val hG hV hN hO K hK => ?_
      have e19 := hN 14 19 (by kernel_rfl) (by kernel_rfl) (by simp)
      have f19 := hV 14 (by kernel_rfl) (by kernel_rfl)
      rw [Vp14] at f19; rw [f19] at e19; clear f19
      clear hV hN hO
      go_simp
      exact hK.out _ _ (by rw [Vp15, upd_at] <;> (congr 1 <;> omega)) (Below.refl _ _) hG
    intro val wx hG hV
    have f0 := hV 0 (by simp) (fun _ _ => by rfl)
    rw [Vp0] at f0
    have f1 := hV 1 (by simp) (fun _ _ => by rfl)
    rw [Vp1] at f1
    have f2 := hV 2 (by simp) (fun _ _ => by rfl)
    rw [Vp2] at f2
    have f3 := hV 3 (by simp) (fun _ _ => by rfl)
    rw [Vp3] at f3
    have f4 := hV 4 (by simp) (fun _ _ => by rfl)
    rw [Vp4] at f4
    have f5 := hV 5 (by simp) (fun _ _ => by rfl)
    rw [Vp5] at f5
    have f6 := hV 6 (by simp) (fun _ _ => by rfl)
    rw [Vp6] at f6
    have f7 := hV 7 (by simp) (fun _ _ => by rfl)
    rw [Vp7] at f7
    have f8 := hV 8 (by simp) (fun _ _ => by rfl)
    rw [Vp8] at f8
    have f9 := hV 9 (by simp) (fun _ _ => by rfl)
    rw [Vp9] at f9
    have f10 := hV 10 (by simp) (fun _ _ => by rfl)
    rw [Vp10] at f10
    have f11 := hV 11 (by simp) (fun _ _ => by rfl)
    rw [Vp11] at f11
    have f12 := hV 12 (by simp) (fun _ _ => by rfl)
    rw [Vp12] at f12
    have f13 := hV 13 (by simp) (fun _ _ => by rfl)
    rw [Vp13] at f13
    have f14 := hV 14 (by simp) (fun _ _ => by rfl)
    rw [Vp14] at f14
    have f15 := hV 15 (by simp) (fun _ _ => by rfl)
    rw [Vp15] at f15
    clear hV Vp0 Vp1 Vp2 Vp3 Vp4 Vp5 Vp6 Vp7 Vp8 Vp9 Vp10 Vp11 Vp12 Vp13 Vp14 Vp15
    simp only [putAll, Act.put, List.setIfInBounds_toArray, List.set_cons_zero, List.set_cons_succ]
    generalize val 0 = z0 at *; (subst f0)
    generalize val 1 = z1 at *; (subst f1)
    generalize val 2 = z2 at *; (subst f2)
    generalize val 3 = z3 at *; (subst f3)
    generalize val 4 = z4 at *; (subst f4)
    generalize val 5 = z5 at *; (subst f5)
    generalize val 6 = z6 at *; (subst f6)
    generalize val 7 = z7 at *; (subst f7)
    generalize val 8 = z8 at *; (subst f8)
    generalize val 9 = z9 at *; (subst f9)
    generalize val 10 = z10 at *; (subst f10)
    generalize val 11 = z11 at *; (subst f11)
    generalize val 12 = z12 at *; (subst f12)
    generalize val 13 = z13 at *; (subst f13)
    generalize val 14 = z14 at *; (subst f14)
    generalize val 15 = z15 at *; (subst f15)
    clear HVD
    go_wp2_with fail
    go_ret
    exact ⟨ret_b HA.out.symm, HB.out.trans (hG.mono HB.out.size)⟩

set_option maxRecDepth 100000 in
theorem refNext_any (la lg t : Int) (w : World) :
    Calls Try.prog 17 #[lv la lg, .int .i64 t] w fun e w' => e = .returned (.tuple #[.int .i64 (nextV la lg t), .int .i64 (errB (mayL la lg t))]) ∧ Below w.heap.size w w' := by
  have hL := LtAt.new w la lg
  have HB := Lib.hid (Joins.below_alloc1 w (.cells #[.int .i64 la, .int .i64 lg] 23))
  have cm := fun W => refMay_any la lg t W
  have ca := fun W => refActive_any la lg t W
  have HI := Lib.hid (mayL_iff la lg t)
  have HL := Lib.hid hL
  obtain ⟨y0, y1⟩ := hL.cells
  clear hL
  cases h : mayL la lg t
  · have HA := Lib.hid (next_no h)
    rw [h] at cm
    clear h HI
    go_enter Try.func17, Try.ntmps17
    go_wp2_with fail; refine (cm _).mono ?_; rintro e w1 ⟨rfl, b1⟩
    go_wp2_with fail
    go_ret2
    exact ⟨ret_ii HA.out.symm rfl, HB.out.trans (b1.mono HB.out.size)⟩
  · obtain ⟨⟨⟨a0, a1⟩, g0, g1⟩, t0, t1⟩ := HI.out.1 h
    have HR := Lib.hid (fun W => refRest_any t (la + lg) (by omega) (by omega) W)
    have HA := Lib.hid (next_of h)
    have HC := Lib.hid (act_of h)
    rw [HC.out] at ca
    rw [h] at cm
    have m0 := Int.emod_nonneg t (show la + lg ≠ 0 by omega)
    have m1 := Int.emod_lt_of_pos t (show 0 < la + lg by omega)
    clear h HI HC
    by_cases ht : t % (la + lg) < la
    · have HN := Lib.hid (next_act ht)
      rw [decide_eq_true ht] at ca
      clear ht
      go_enter Try.func17, Try.ntmps17
      go_wp2_with fail; refine (cm _).mono ?_; rintro e w1 ⟨rfl, b1⟩
      obtain ⟨z0, z1⟩ := (HL.out.on b1).cells
      have HL1 := Lib.hid (HL.out.on b1)
      have HB1 := Lib.hid (HB.out.trans (b1.mono HB.out.size)); clear b1 y0 y1
      go_wp2_with fail; refine (ca _).mono ?_; rintro e w2 ⟨rfl, b2⟩
      have HB2 := Lib.hid (HB1.out.trans (b2.mono HB1.out.size)); clear b2 z0 z1
      go_wp2_with fail
      go_ret2
      exact ⟨ret_ii (by rw [HA.out, HN.out]) rfl, HB2.out⟩
    · have HN := Lib.hid (next_gap ht)
      rw [decide_eq_false ht] at ca
      clear ht
      generalize hm : t % (la + lg) = m at *
      have HM := Lib.hid hm; clear hm
      go_enter Try.func17, Try.ntmps17
      go_wp2_with fail; refine (cm _).mono ?_; rintro e w1 ⟨rfl, b1⟩
      obtain ⟨z0, z1⟩ := (HL.out.on b1).cells
      have HL1 := Lib.hid (HL.out.on b1)
      have HB1 := Lib.hid (HB.out.trans (b1.mono HB.out.size)); clear b1 y0 y1
      go_wp2_with fail; refine (ca _).mono ?_; rintro e w2 ⟨rfl, b2⟩
      obtain ⟨z2, z3⟩ := (HL1.out.on b2).cells
      have HB2 := Lib.hid (HB1.out.trans (b2.mono HB1.out.size)); clear b2 z0 z1
      go_wp2_with fail
      go_quiet ((go_at_call 34; exact Calls.quiet_of_same (turned (HR.out _))))
      go_wp2_with fail
      go_ret2
      exact ⟨ret_ii (by rw [HA.out, HN.out]) rfl, below_drewN HB2.out _⟩

set_option maxRecDepth 100000 in
theorem refEpoch_any (la lg t : Int) (w : World) :
    Calls Try.prog 19 #[lv la lg, .int .i64 t] w fun e w' => e = .returned (.tuple #[.int .i64 (epV la lg t), .int .i64 (errB (mayL la lg t))]) ∧ Below w.heap.size w w' := by
  have hL := LtAt.new w la lg
  have HB := Lib.hid (Joins.below_alloc1 w (.cells #[.int .i64 la, .int .i64 lg] 23))
  have cm := fun W => refMay_any la lg t W
  have HI := Lib.hid (mayL_iff la lg t)
  have HL := Lib.hid hL
  obtain ⟨y0, y1⟩ := hL.cells
  clear hL
  cases h : mayL la lg t
  · have HA := Lib.hid (ep_no h)
    rw [h] at cm
    clear h HI
    go_enter Try.func19, Try.ntmps19
    go_wp2_with fail; refine (cm _).mono ?_; rintro e w1 ⟨rfl, b1⟩
    go_wp2_with fail
    go_ret2
    exact ⟨ret_ii HA.out.symm rfl, HB.out.trans (b1.mono HB.out.size)⟩
  · obtain ⟨⟨⟨a0, a1⟩, g0, g1⟩, t0, t1⟩ := HI.out.1 h
    have HR := Lib.hid (fun W => down_any (t + lg / 2) (la + lg) (by omega) (by omega) (by omega) W)
    have HA := Lib.hid (ep_of h)
    have hh := half_eq lg g0
    rw [h] at cm
    clear h HI
    go_enter Try.func19, Try.ntmps19
    go_wp2_with fail; refine (cm _).mono ?_; rintro e w1 ⟨rfl, b1⟩
    obtain ⟨z0, z1⟩ := (HL.out.on b1).cells
    have HB1 := Lib.hid (HB.out.trans (b1.mono HB.out.size)); clear b1 y0 y1
    go_wp2_with fail; (with_reducible refine (HR.out _).mono ?_); rintro e w2 ⟨rfl, rfl⟩
    go_wp2_with fail
    go_ret2
    exact ⟨ret_ii (by rw [HA.out]; rfl) rfl, HB1.out⟩

theorem prod_bound {n S : Int} (hn : -1099511627776 ≤ n ∧ n ≤ 1099511627776) (hS : 2 ≤ S ∧ S ≤ 20000) : -21990232555520000 ≤ n * S ∧ n * S ≤ 21990232555520000 := by
  have h1 : n * S ≤ 1099511627776 * S := Int.mul_le_mul_of_nonneg_right hn.2 (by omega)
  have h2 : -1099511627776 * S ≤ n * S := Int.mul_le_mul_of_nonneg_right hn.1 (by omega)
  omega
theorem may_right {la lg t : Int} (h : rightL la lg = true) : mayL la lg t = timeB t := by unfold mayL; rw [h, Bool.true_and]
theorem beg_no1 {la lg n : Int} (h : mayL la lg n = false) : begV la lg n = 0 ∧ begB la lg n = false := by
  have : begB la lg n = false := by unfold begB; rw [h, Bool.false_and]
  refine ⟨?_, this⟩
  unfold begV
  rw [this]; rfl
theorem beg_no2 {la lg n : Int} (h : timeB (n * (la + lg)) = false) : begV la lg n = 0 ∧ begB la lg n = false := by
  have : begB la lg n = false := by unfold begB; rw [h, Bool.and_false]
  refine ⟨?_, this⟩
  unfold begV
  rw [this]; rfl
theorem beg_of {la lg n : Int} (h : mayL la lg n = true) (h2 : timeB (n * (la + lg)) = true) : begV la lg n = n * (la + lg) ∧ begB la lg n = true := by
  have : begB la lg n = true := by unfold begB; rw [h, h2]; rfl
  refine ⟨?_, this⟩
  unfold begV
  rw [this]; rfl

set_option maxRecDepth 100000 in
theorem refBegin_any (la lg n : Int) (w : World) :
    Calls Try.prog 23 #[lv la lg, .int .i64 n] w fun e w' => e = .returned (.tuple #[.int .i64 (begV la lg n), .int .i64 (errB (begB la lg n))]) ∧ Below w.heap.size w w' := by
  have hL := LtAt.new w la lg
  have HB := Lib.hid (Joins.below_alloc1 w (.cells #[.int .i64 la, .int .i64 lg] 23))
  have cr := fun W => refRight_any la lg W
  have HRI := Lib.hid (rightL_iff la lg)
  have HTI := Lib.hid (timeB_iff n)
  have HL := Lib.hid hL
  obtain ⟨y0, y1⟩ := hL.cells
  clear hL
  cases hr : rightL la lg
  · obtain ⟨e1, e2⟩ := beg_no1 (la := la) (lg := lg) (n := n) (by unfold mayL; rw [hr]; rfl)
    rw [e1, e2]
    rw [hr] at cr
    clear hr HRI HTI e1 e2
    go_enter Try.func23, Try.ntmps23
    go_wp2_with fail; refine (cr _).mono ?_; rintro e w1 ⟨rfl, b1⟩
    go_wp2_with fail
    go_ret2
    exact ⟨ret_ii rfl rfl, HB.out.trans (b1.mono HB.out.size)⟩
  · obtain ⟨⟨a0, a1⟩, g0, g1⟩ := HRI.out.1 hr
    have hS1 : 2 ≤ la + lg ∧ la + lg ≤ 20000 := by omega
    by_cases ht : timeB n = true
    · obtain ⟨n0, n1⟩ := HTI.out.1 ht
      obtain ⟨p0, p1⟩ := prod_bound ⟨n0, n1⟩ hS1
      have cm := fun W => refMay_any la lg (n * (la + lg)) W
      rw [may_right hr] at cm
      have HV : Hid (begV la lg n = (if timeB (n * (la + lg)) then n * (la + lg) else 0) ∧ begB la lg n = timeB (n * (la + lg))) := Lib.hid (by
        cases h2 : timeB (n * (la + lg))
        · exact beg_no2 h2
        · exact beg_of (by rw [may_right hr, ht]) h2)
      rw [hr] at cr
      generalize hP : n * (la + lg) = P at *
      have HP := Lib.hid hP
      clear hP hr HRI HTI ht hS1
      cases h2 : timeB P
      · rw [h2] at cm HV
        clear h2
        go_enter Try.func23, Try.ntmps23
        have hP := HP.out
        go_wp2_with fail; refine (cr _).mono ?_; rintro e w1 ⟨rfl, b1⟩
        obtain ⟨z0, z1⟩ := (HL.out.on b1).cells
        have HB1 := Lib.hid (HB.out.trans (b1.mono HB.out.size)); clear b1 y0 y1
        go_wp2_with fail; refine (cm _).mono ?_; rintro e w2 ⟨rfl, b2⟩
        go_wp2_with fail
        go_ret2
        exact ⟨ret_ii HV.out.1.symm (by rw [HV.out.2]; rfl), HB1.out.trans (b2.mono HB1.out.size)⟩
      · rw [h2] at cm HV
        clear h2
        go_enter Try.func23, Try.ntmps23
        have hP := HP.out
        go_wp2_with fail; refine (cr _).mono ?_; rintro e w1 ⟨rfl, b1⟩
        obtain ⟨z0, z1⟩ := (HL.out.on b1).cells
        have HL1 := Lib.hid (HL.out.on b1)
        have HB1 := Lib.hid (HB.out.trans (b1.mono HB.out.size)); clear b1 y0 y1
        go_wp2_with fail; refine (cm _).mono ?_; rintro e w2 ⟨rfl, b2⟩
        obtain ⟨z2, z3⟩ := (HL1.out.on b2).cells
        clear z0 z1
        go_wp2_with fail
        go_ret2
        exact ⟨ret_ii HV.out.1.symm (by rw [HV.out.2]; rfl), HB1.out.trans (b2.mono HB1.out.size)⟩
    · have hf : timeB n = false := by simpa using ht
      obtain ⟨e1, e2⟩ := beg_no1 (la := la) (lg := lg) (n := n) (by rw [may_right hr, hf])
      rw [e1, e2]
      have hn : n < -1099511627776 ∨ (-1099511627776 ≤ n ∧ 1099511627776 < n) := by
        rw [HTI.out] at ht; omega
      rw [hr] at cr
      clear hr HRI HTI ht hf e1 e2 hS1
      rcases hn with h1 | ⟨h0, h1⟩
      all_goals
        go_enter Try.func23, Try.ntmps23
        go_wp2_with fail; refine (cr _).mono ?_; rintro e w1 ⟨rfl, b1⟩
        obtain ⟨z0, z1⟩ := (HL.out.on b1).cells
        have HB1 := Lib.hid (HB.out.trans (b1.mono HB.out.size)); clear b1 y0 y1
        go_wp2_with fail
        go_ret2
        exact ⟨ret_ii rfl rfl, HB1.out⟩

theorem cmp_eq {m n : Int} (h : m = n) : cmpI m n = 0 := by unfold cmpI; rw [if_pos h]
theorem cmp_lt {m n : Int} (h : m < n) : cmpI m n = -1 := by unfold cmpI; rw [if_neg (by omega), if_pos h]
theorem cmp_gt {m n : Int} (h : n < m) : cmpI m n = 1 := by unfold cmpI; rw [if_neg (by omega), if_neg (by omega)]
theorem or_no {la lg x y : Int} (h : mayL la lg x = false ∨ mayL la lg y = false) : orV la lg x y = 0 ∧ orB la lg x y = false := by
  have : orB la lg x y = false := by
    unfold orB
    rcases h with h | h
    · rw [h]; rfl
    · unfold mayL at h ⊢
      cases hr : rightL la lg
      · rfl
      · rw [hr, Bool.true_and] at h
        rw [h, Bool.and_false]
  refine ⟨?_, this⟩
  unfold orV
  rw [this]; rfl
theorem or_of {la lg x y : Int} (h : mayL la lg x = true) (h2 : mayL la lg y = true) : orV la lg x y = cmpI (epI la lg x) (epI la lg y) ∧ orB la lg x y = true := by
  have : orB la lg x y = true := by
    unfold orB
    rw [h]
    unfold mayL at h2
    rw [Bool.and_eq_true] at h2
    rw [h2.2]; rfl
  refine ⟨?_, this⟩
  unfold orV
  rw [this]; rfl

set_option maxRecDepth 100000 in
theorem refOrder_any (la lg x y : Int) (w : World) :
    Calls Try.prog 21 #[lv la lg, .int .i64 x, .int .i64 y] w fun e w' => e = .returned (.tuple #[.int .i64 (orV la lg x y), .int .i64 (errB (orB la lg x y))]) ∧ Below w.heap.size w w' := by
  have hL := LtAt.new w la lg
  have HB := Lib.hid (Joins.below_alloc1 w (.cells #[.int .i64 la, .int .i64 lg] 23))
  have cx := fun W => refEpoch_any la lg x W
  have cy := fun W => refEpoch_any la lg y W
  have HL := Lib.hid hL
  obtain ⟨y0, y1⟩ := hL.cells
  clear hL
  cases hx : mayL la lg x
  · obtain ⟨e1, e2⟩ := or_no (la := la) (lg := lg) (x := x) (y := y) (.inl hx)
    rw [e1, e2]
    rw [ep_no hx, hx] at cx
    generalize epV la lg y = q at *
    generalize errB (mayL la lg y) = f at *
    clear hx e1 e2
    have cx' : ∀ (W : World), Calls Try.prog 19 #[lv la lg, .int .i64 x] W fun e w' => e = .returned (.tuple #[.int .i64 0, .int .i64 1]) ∧ Below W.heap.size W w' := cx
    clear cx
    go_enter Try.func21, Try.ntmps21
    go_wp2_with fail; refine (cx' _).mono ?_; rintro e w1 ⟨rfl, b1⟩
    obtain ⟨z0, z1⟩ := (HL.out.on b1).cells
    have HB1 := Lib.hid (HB.out.trans (b1.mono HB.out.size)); clear b1 y0 y1
    go_wp2_with fail; refine (cy _).mono ?_; rintro e w2 ⟨rfl, b2⟩
    have HB2 := Lib.hid (HB1.out.trans (b2.mono HB1.out.size)); clear b2
    go_wp2_with fail
    go_ret2
    exact ⟨ret_ii rfl rfl, HB2.out⟩
  · rw [ep_of hx, hx] at cx
    have cx' : ∀ (W : World), Calls Try.prog 19 #[lv la lg, .int .i64 x] W fun e w' => e = .returned (.tuple #[.int .i64 (epI la lg x), .int .i64 0]) ∧ Below W.heap.size W w' := cx
    clear cx
    cases hy : mayL la lg y
    · obtain ⟨e1, e2⟩ := or_no (la := la) (lg := lg) (x := x) (y := y) (.inr hy)
      rw [e1, e2]
      rw [ep_no hy, hy] at cy
      have cy' : ∀ (W : World), Calls Try.prog 19 #[lv la lg, .int .i64 y] W fun e w' => e = .returned (.tuple #[.int .i64 0, .int .i64 1]) ∧ Below W.heap.size W w' := cy
      generalize epI la lg x = p at *
      clear hx hy e1 e2 cy
      go_enter Try.func21, Try.ntmps21
      go_wp2_with fail; refine (cx' _).mono ?_; rintro e w1 ⟨rfl, b1⟩
      obtain ⟨z0, z1⟩ := (HL.out.on b1).cells
      have HB1 := Lib.hid (HB.out.trans (b1.mono HB.out.size)); clear b1 y0 y1
      go_wp2_with fail; refine (cy' _).mono ?_; rintro e w2 ⟨rfl, b2⟩
      have HB2 := Lib.hid (HB1.out.trans (b2.mono HB1.out.size)); clear b2
      go_wp2_with fail
      go_ret2
      exact ⟨ret_ii rfl rfl, HB2.out⟩
    · obtain ⟨e1, e2⟩ := or_of hx hy
      rw [e1, e2]
      rw [ep_of hy, hy] at cy
      have cy' : ∀ (W : World), Calls Try.prog 19 #[lv la lg, .int .i64 y] W fun e w' => e = .returned (.tuple #[.int .i64 (epI la lg y), .int .i64 0]) ∧ Below W.heap.size W w' := cy
      generalize epI la lg x = p at *
      generalize epI la lg y = q at *
      clear hx hy e1 e2 cy
      have HC : Hid ((p < q → cmpI p q = -1) ∧ (q < p → cmpI p q = 1) ∧ (p = q → cmpI p q = 0)) := Lib.hid ⟨cmp_lt, cmp_gt, cmp_eq⟩
      generalize cmpI p q = C at *
      rcases Int.lt_trichotomy p q with h | h | h
      · have HV := Lib.hid (HC.out.1 h)
        clear HC
        go_enter Try.func21, Try.ntmps21
        go_wp2_with fail; refine (cx' _).mono ?_; rintro e w1 ⟨rfl, b1⟩
        obtain ⟨z0, z1⟩ := (HL.out.on b1).cells
        have HB1 := Lib.hid (HB.out.trans (b1.mono HB.out.size)); clear b1 y0 y1
        go_wp2_with fail; refine (cy' _).mono ?_; rintro e w2 ⟨rfl, b2⟩
        have HB2 := Lib.hid (HB1.out.trans (b2.mono HB1.out.size)); clear b2
        go_wp2_with fail
        go_ret2
        exact ⟨ret_ii HV.out.symm rfl, HB2.out⟩
      · have HV := Lib.hid (HC.out.2.2 h)
        subst h
        clear HC
        go_enter Try.func21, Try.ntmps21
        go_wp2_with fail; refine (cx' _).mono ?_; rintro e w1 ⟨rfl, b1⟩
        obtain ⟨z0, z1⟩ := (HL.out.on b1).cells
        have HB1 := Lib.hid (HB.out.trans (b1.mono HB.out.size)); clear b1 y0 y1
        go_wp2_with fail; refine (cy' _).mono ?_; rintro e w2 ⟨rfl, b2⟩
        have HB2 := Lib.hid (HB1.out.trans (b2.mono HB1.out.size)); clear b2
        go_wp2_with fail
        go_ret2
        exact ⟨ret_ii HV.out.symm rfl, HB2.out⟩
      · have HV := Lib.hid (HC.out.2.1 h)
        clear HC
        go_enter Try.func21, Try.ntmps21
        go_wp2_with fail; refine (cx' _).mono ?_; rintro e w1 ⟨rfl, b1⟩
        obtain ⟨z0, z1⟩ := (HL.out.on b1).cells
        have HB1 := Lib.hid (HB.out.trans (b1.mono HB.out.size)); clear b1 y0 y1
        go_wp2_with fail; refine (cy' _).mono ?_; rintro e w2 ⟨rfl, b2⟩
        have HB2 := Lib.hid (HB1.out.trans (b2.mono HB1.out.size)); clear b2
        have h' : ¬ p < q := by omega
        go_wp2_with fail
        go_ret2
        exact ⟨ret_ii HV.out.symm rfl, HB2.out⟩

end Go.Proofs.Ytlgbgkiajhcneaa

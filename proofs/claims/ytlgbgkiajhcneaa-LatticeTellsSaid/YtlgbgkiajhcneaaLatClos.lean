/-
  What the calls' closures tell, and what a guard makes of each.
-/
import Derived.Test.YtlgbgkiajhcneaaLatProg
namespace Go.Proofs.Ytlgbgkiajhcneaa
open Go.RowKit

set_option maxRecDepth 100000 in
theorem cNear_any (la S h d : Int) (p : Addr) (w : World) (hp : p.block < w.heap.size) (hc : w.cell? p = some (.int .i64 d)) (hh : 0 ≤ h ∧ h ≤ 5000) :
    Calls Try.prog 28 #[gv la S h, .pointer (some p)] w fun e w' => e = .returned (.bool (inB (-h) h d)) ∧ Below w.heap.size w w' := by
  have c := fun W => within_any (-h) h d W
  obtain ⟨y0, y1, y2, y3⟩ := (GrAt.new w la S h).cells
  have HB := Lib.hid (Joins.below_alloc1 w (.cells #[.int .i64 la, .int .i64 S, .int .i64 h, gfn] 46))
  have hc' := (HB.out.cell hp).trans hc
  clear hc
  go_enter Try.func28, Try.ntmps28
  go_wp2_with fail; (with_reducible refine (c _).mono ?_); rintro e w1 ⟨rfl, rfl⟩
  go_wp2_with fail
  go_ret
  exact ⟨rfl, HB.out⟩

set_option maxRecDepth 100000 in
theorem cActive_any (la S h t : Int) (p : Addr) (w : World) (hp : p.block < w.heap.size) (hc : w.cell? p = some (.int .i64 t)) (hS : 2 ≤ S ∧ S ≤ 20000) (ht : -1099511627776 ≤ t ∧ t ≤ 1099511627776) :
    Calls Try.prog 42 #[gv la S h, .pointer (some p)] w fun e w' => e = .returned (.bool (decide (t % S < la))) ∧ Below w.heap.size w w' := by
  have c := fun W => place_any la S h t hS (by omega) W
  have hG := GrAt.new w la S h
  have HB := Lib.hid (Joins.below_alloc1 w (.cells #[.int .i64 la, .int .i64 S, .int .i64 h, gfn] 46))
  have hc' := (HB.out.cell hp).trans hc
  have HG := Lib.hid hG
  obtain ⟨y0, y1, y2, y3⟩ := hG.cells
  clear hc hG
  generalize t % S = m at *
  go_enter Try.func42, Try.ntmps42
  go_wp2_with fail; (with_reducible refine (c _).mono ?_); rintro e w1 ⟨rfl, b1⟩
  obtain ⟨z0, z1, z2, z3⟩ := (HG.out.on b1).cells
  have HB1 := Lib.hid (HB.out.trans (b1.mono HB.out.size)); clear b1 y0 y1 y2 y3 hc'
  go_wp2_with fail
  go_ret
  exact ⟨rfl, HB1.out⟩

set_option maxRecDepth 100000 in
theorem cNext_any (la S h t : Int) (p : Addr) (w : World) (hp : p.block < w.heap.size) (hc : w.cell? p = some (.int .i64 t)) (hS : 2 ≤ S ∧ S ≤ 20000) (ht : -1099511627776 ≤ t ∧ t ≤ 1099511627776) :
    Calls Try.prog 30 #[gv la S h, .pointer (some p)] w fun e w' => e = .returned (.int .i64 (if t % S < la then t else (t / S + 1) * S)) ∧ Below w.heap.size w w' := by
  have c := fun W => place_any la S h t hS (by omega) W
  obtain ⟨q1, q2⟩ := q_bound (t := t) (b := S) (by omega) hS.1
  have HV : Hid ((t % S < la → (if t % S < la then t else (t / S + 1) * S) = t) ∧ (¬ t % S < la → (if t % S < la then t else (t / S + 1) * S) = (t / S + 1) * S)) := Lib.hid ⟨fun h => by rw [if_pos h], fun h => by rw [if_neg h]⟩
  obtain ⟨m0, m1⟩ := mul_near (t := t) (b := S) (by omega)
  have c2 := fun W => gbegin_any la S h (t / S + 1) (by rw [Int.add_mul, Int.mul_comm]; omega) W
  have hG := GrAt.new w la S h
  have HB := Lib.hid (Joins.below_alloc1 w (.cells #[.int .i64 la, .int .i64 S, .int .i64 h, gfn] 46))
  have hc' := (HB.out.cell hp).trans hc
  have HG := Lib.hid hG
  obtain ⟨y0, y1, y2, y3⟩ := hG.cells
  generalize (if t % S < la then t else (t / S + 1) * S) = V at *
  generalize (t / S + 1) * S = P at *
  generalize t % S = m at *
  generalize t / S = q at *
  have HL := Lib.hid (show p.block < (w.alloc (.cells #[.int .i64 la, .int .i64 S, .int .i64 h, gfn] 46)).heap.size by rw [World.size_alloc]; omega)
  have HC' := Lib.hid hc'
  clear hc hG m0 m1
  by_cases hm : m < la
  · have HW := Lib.hid (HV.out.1 hm); clear HV
    go_enter Try.func30, Try.ntmps30
    go_wp2_with fail; (with_reducible refine (c _).mono ?_); rintro e w1 ⟨rfl, b1⟩
    obtain ⟨z0, z1, z2, z3⟩ := (HG.out.on b1).cells
    have hc1 := (b1.cell HL.out).trans HC'.out
    have HB1 := Lib.hid (HB.out.trans (b1.mono HB.out.size)); clear b1 y0 y1 y2 y3 hc'
    go_wp2_with fail
    go_ret
    exact ⟨ret_i HW.out.symm, HB1.out⟩
  · have HW := Lib.hid (HV.out.2 hm); clear HV
    go_enter Try.func30, Try.ntmps30
    go_wp2_with fail; (with_reducible refine (c _).mono ?_); rintro e w1 ⟨rfl, b1⟩
    obtain ⟨z0, z1, z2, z3⟩ := (HG.out.on b1).cells
    have HB1 := Lib.hid (HB.out.trans (b1.mono HB.out.size)); clear b1 y0 y1 y2 y3 hc'
    go_wp2_with fail; (with_reducible refine (c2 _).mono ?_); rintro e w2 ⟨rfl, b2⟩
    have HB2 := Lib.hid (HB1.out.trans (b2.mono HB1.out.size)); clear b2
    go_wp2_with fail
    go_ret
    exact ⟨ret_i HW.out.symm, HB2.out⟩

set_option maxRecDepth 100000 in
theorem cEpoch_any (la S h t : Int) (p : Addr) (w : World) (hp : p.block < w.heap.size) (hc : w.cell? p = some (.int .i64 t)) (hS : 2 ≤ S ∧ S ≤ 20000) (hh : 0 ≤ h ∧ h ≤ 5000) (ht : -1099511627776 ≤ t ∧ t ≤ 1099511627776) :
    Calls Try.prog 35 #[gv la S h, .pointer (some p)] w fun e w' => e = .returned (.int .i64 ((t + h) / S)) ∧ Below w.heap.size w w' := by
  have c := fun W => gepoch_any la S h t hS hh ht W
  generalize (t + h) / S * S = P at *
  generalize (t + h) / S = q at *
  have HB := Lib.hid (Joins.below_alloc1 w (.cells #[.int .i64 la, .int .i64 S, .int .i64 h, gfn] 46))
  have hc' := (HB.out.cell hp).trans hc
  obtain ⟨y0, y1, y2, y3⟩ := (GrAt.new w la S h).cells
  clear hc
  go_enter Try.func35, Try.ntmps35
  go_wp2_with fail; (with_reducible refine (c _).mono ?_); rintro e w1 ⟨rfl, b1⟩
  have HB1 := Lib.hid (HB.out.trans (b1.mono HB.out.size)); clear b1 y0 y1 y2 y3 hc'
  have hix : ∀ (W : World), (Instr.index 53 (epv q P) (.int .i64 0)).run Try.prog W = .ok (.int .i64 q) W := fun _ => by kernel_rfl
  go_wp2_with fail
  go_ret
  exact ⟨rfl, HB1.out⟩

set_option maxRecDepth 100000 in
theorem cBegin_any (la S h n : Int) (p : Addr) (w : World) (hp : p.block < w.heap.size) (hc : w.cell? p = some (.int .i64 n)) (hm : -4611686018427387904 ≤ n * S ∧ n * S ≤ 4611686018427387904) :
    Calls Try.prog 40 #[gv la S h, .pointer (some p)] w fun e w' => e = .returned (.int .i64 (n * S)) ∧ Below w.heap.size w w' := by
  have c := fun W => gbegin_any la S h n hm W
  generalize n * S = P at *
  have HB := Lib.hid (Joins.below_alloc1 w (.cells #[.int .i64 la, .int .i64 S, .int .i64 h, gfn] 46))
  have hc' := (HB.out.cell hp).trans hc
  obtain ⟨y0, y1, y2, y3⟩ := (GrAt.new w la S h).cells
  clear hc
  go_enter Try.func40, Try.ntmps40
  go_wp2_with fail; (with_reducible refine (c _).mono ?_); rintro e w1 ⟨rfl, b1⟩
  have HB1 := Lib.hid (HB.out.trans (b1.mono HB.out.size)); clear b1 y0 y1 y2 y3 hc'
  go_wp2_with fail
  go_ret
  exact ⟨rfl, HB1.out⟩

set_option maxRecDepth 100000 in
theorem cBegin2_any (la S h n : Int) (p : Addr) (w : World) (hp : p.block < w.heap.size) (hc : w.cell? p = some (.int .i64 n)) :
    Calls Try.prog 41 #[gv la S h, .pointer (some p)] w fun e w' => e = .returned (.int .i64 n) ∧ Below w.heap.size w w' := by
  have HB := Lib.hid (Joins.below_alloc1 w (.cells #[.int .i64 la, .int .i64 S, .int .i64 h, gfn] 46))
  have hc' := (HB.out.cell hp).trans hc
  clear hc
  go_enter Try.func41, Try.ntmps41
  go_wp2_with fail
  go_ret
  exact ⟨rfl, HB.out⟩

theorem epoch_mul {p q S : Int} (hS : 2 ≤ S) : p * S = q * S ↔ p = q := ⟨fun h => Int.eq_of_mul_eq_mul_right (by omega) h, fun h => by rw [h]⟩
set_option maxRecDepth 100000 in
theorem cOrder_any (la S hf x y : Int) (px py : Addr) (w : World) (hpx : px.block < w.heap.size) (hcx : w.cell? px = some (.int .i64 x)) (hpy : py.block < w.heap.size) (hcy : w.cell? py = some (.int .i64 y)) (hS : 2 ≤ S ∧ S ≤ 20000) (hh : 0 ≤ hf ∧ hf ≤ 5000) (hx : -1099511627776 ≤ x ∧ x ≤ 1099511627776) (hy : -1099511627776 ≤ y ∧ y ≤ 1099511627776) :
    Calls Try.prog 38 #[gv la S hf, .pointer (some px), .pointer (some py)] w fun e w' => e = .returned (.int .i64 (cmpI ((x + hf) / S) ((y + hf) / S))) ∧ Below w.heap.size w w' := by
  have CX := Lib.hid (fun W => gepoch_any la S hf x hS hh hx W)
  have CY := Lib.hid (fun W => gepoch_any la S hf y hS hh hy W)
  have CO := Lib.hid (fun W => gorder_any ((x + hf) / S) ((y + hf) / S) ((x + hf) / S * S) ((y + hf) / S * S) (epoch_mul hS.1) W)
  generalize (x + hf) / S * S = XP at *
  generalize (x + hf) / S = xq at *
  generalize (y + hf) / S * S = YP at *
  generalize (y + hf) / S = yq at *
  generalize cmpI xq yq = CV at *
  have HG := Lib.hid (GrAt.new w la S hf)
  have HB := Lib.hid (Joins.below_alloc1 w (.cells #[.int .i64 la, .int .i64 S, .int .i64 hf, gfn] 46))
  have HX := Lib.hid ((HB.out.cell hpx).trans hcx)
  have HY := Lib.hid ((HB.out.cell hpy).trans hcy)
  have LX := Lib.hid (show px.block < (w.alloc (.cells #[.int .i64 la, .int .i64 S, .int .i64 hf, gfn] 46)).heap.size by rw [World.size_alloc]; omega)
  have LY := Lib.hid (show py.block < (w.alloc (.cells #[.int .i64 la, .int .i64 S, .int .i64 hf, gfn] 46)).heap.size by rw [World.size_alloc]; omega)
  clear hcx hcy hpx hpy
  go_enter Try.func38, Try.ntmps38
  go_upto_region 1 with fail
  generalize w.alloc (.cells #[.int .i64 la, .int .i64 S, .int .i64 hf, gfn] 46) = X0 at *
  have HV : ∃ Vp : Nat → (Nat → Value) → World → Prop, Vp = (fun ix u wv => match ix with
    | 0 => u 0 = .agg #[.int .i64 la, .int .i64 S, .int .i64 hf, gfn]
    | 1 => u 1 = .int .i64 x
    | 2 => u 2 = .agg #[.int .i64 xq, .int .i64 XP]
    | 3 => u 3 = .agg #[.int .i64 la, .int .i64 S, .int .i64 hf, gfn]
    | 4 => u 4 = .int .i64 y
    | 5 => u 5 = .agg #[.int .i64 yq, .int .i64 YP]
    | 6 => u 6 = .int .i64 CV
    | 7 => u 7 = .int .i64 CV
    | _ => True) := ⟨_, rfl⟩
  obtain ⟨Vp, hVdef⟩ := HV
  have Vp0 : ∀ u wv, Vp 0 u wv = (u 0 = .agg #[.int .i64 la, .int .i64 S, .int .i64 hf, gfn]) := fun u wv => by subst hVdef; rfl
  have Vp1 : ∀ u wv, Vp 1 u wv = (u 1 = .int .i64 x) := fun u wv => by subst hVdef; rfl
  have Vp2 : ∀ u wv, Vp 2 u wv = (u 2 = .agg #[.int .i64 xq, .int .i64 XP]) := fun u wv => by subst hVdef; rfl
  have Vp3 : ∀ u wv, Vp 3 u wv = (u 3 = .agg #[.int .i64 la, .int .i64 S, .int .i64 hf, gfn]) := fun u wv => by subst hVdef; rfl
  have Vp4 : ∀ u wv, Vp 4 u wv = (u 4 = .int .i64 y) := fun u wv => by subst hVdef; rfl
  have Vp5 : ∀ u wv, Vp 5 u wv = (u 5 = .agg #[.int .i64 yq, .int .i64 YP]) := fun u wv => by subst hVdef; rfl
  have Vp6 : ∀ u wv, Vp 6 u wv = (u 6 = .int .i64 CV) := fun u wv => by subst hVdef; rfl
  have Vp7 : ∀ u wv, Vp 7 u wv = (u 7 = .int .i64 CV) := fun u wv => by subst hVdef; rfl
  have HVD := Lib.hid hVdef
  clear hVdef
  refine region_each (V := Vp) (drop := fun _ _ => false) (G := fun wv => Below X0.heap.size X0 wv) (Rel := fun jx wv wv' => Below wv.heap.size wv wv') (by kernel_rfl) (by kernel_rfl) (Below.refl _ _).drew ?hmonoq1 ?hdepq1 ⟨?s0_q1, ?s1_q1, ?s2_q1, ?s3_q1, ?s4_q1, ?s5_q1, ?s6_q1, ?s7_q1, trivial⟩ ?behindq1
  case hmonoq1 =>
    intro ix jx u wv wv' hij hw hd hr
    rw [HVD.out]
    dsimp only
    split <;> intro h <;> first | exact trivial | exact h
  case hdepq1 =>
    intro ix u u' wv h1 h2
    rw [HVD.out]
    dsimp only
    split <;> intro h <;> first | exact trivial | (rw [← h1]; exact h)
  case s0_q1 =>
    refine owe rfl fun a wx val hG hV hN hO K hK => ?_
    have e3 : a.tmps[3]? = some (.pointer (some ⟨w.heap.size, 0, none⟩)) := (hO 3 (by kernel_rfl)).trans (by rfl)
    clear hV hN hO
    obtain ⟨y0, y1, y2, y3⟩ := (HG.out.on hG).cells ; have y4 := (hG.cell LX.out).trans HX.out ; have y5 := (hG.cell LY.out).trans HY.out
    go_simp
    exact hK.out _ _ (by rw [Vp0, upd_at] <;> (congr 1 <;> omega)) (Below.refl _ _) hG
  case s1_q1 =>
    refine owe rfl fun a wx val hG hV hN hO K hK => ?_
    have e1 : a.tmps[1]? = some (.pointer (some px)) := (hO 1 (by kernel_rfl)).trans (by rfl)
    clear hV hN hO
    obtain ⟨y0, y1, y2, y3⟩ := (HG.out.on hG).cells ; have y4 := (hG.cell LX.out).trans HX.out ; have y5 := (hG.cell LY.out).trans HY.out
    go_simp
    exact hK.out _ _ (by rw [Vp1, upd_at] <;> (congr 1 <;> omega)) (Below.refl _ _) hG
  case s2_q1 =>
    refine owe rfl fun a wx val hG hV hN hO K hK => ?_
    have e5 := hN 0 5 (by kernel_rfl) (by kernel_rfl) (by simp)
    have f5 := hV 0 (by kernel_rfl) (by kernel_rfl)
    rw [Vp0] at f5; rw [f5] at e5; clear f5
    have e6 := hN 1 6 (by kernel_rfl) (by kernel_rfl) (by simp)
    have f6 := hV 1 (by kernel_rfl) (by kernel_rfl)
    rw [Vp1] at f6; rw [f6] at e6; clear f6
    clear hV hN hO
    go_simp
    refine (CX.out _).mono ?_
    rintro e w11 ⟨rfl, hb⟩
    exact hK.out _ _ (by rw [Vp2, upd_at]) hb (hG.trans (hb.mono hG.size))
  case s3_q1 =>
    refine owe rfl fun a wx val hG hV hN hO K hK => ?_
    have e3 : a.tmps[3]? = some (.pointer (some ⟨w.heap.size, 0, none⟩)) := (hO 3 (by kernel_rfl)).trans (by rfl)
    clear hV hN hO
    obtain ⟨y0, y1, y2, y3⟩ := (HG.out.on hG).cells ; have y4 := (hG.cell LX.out).trans HX.out ; have y5 := (hG.cell LY.out).trans HY.out
    go_simp
    exact hK.out _ _ (by rw [Vp3, upd_at] <;> (congr 1 <;> omega)) (Below.refl _ _) hG
  case s4_q1 =>
    refine owe rfl fun a wx val hG hV hN hO K hK => ?_
    have e2 : a.tmps[2]? = some (.pointer (some py)) := (hO 2 (by kernel_rfl)).trans (by rfl)
    clear hV hN hO
    obtain ⟨y0, y1, y2, y3⟩ := (HG.out.on hG).cells ; have y4 := (hG.cell LX.out).trans HX.out ; have y5 := (hG.cell LY.out).trans HY.out
    go_simp
    exact hK.out _ _ (by rw [Vp4, upd_at] <;> (congr 1 <;> omega)) (Below.refl _ _) hG
  case s5_q1 =>
    refine owe rfl fun a wx val hG hV hN hO K hK => ?_
    have e8 := hN 3 8 (by kernel_rfl) (by kernel_rfl) (by simp)
    have f8 := hV 3 (by kernel_rfl) (by kernel_rfl)
    rw [Vp3] at f8; rw [f8] at e8; clear f8
    have e9 := hN 4 9 (by kernel_rfl) (by kernel_rfl) (by simp)
    have f9 := hV 4 (by kernel_rfl) (by kernel_rfl)
    rw [Vp4] at f9; rw [f9] at e9; clear f9
    clear hV hN hO
    go_simp
    refine (CY.out _).mono ?_
    rintro e w11 ⟨rfl, hb⟩
    exact hK.out _ _ (by rw [Vp5, upd_at]) hb (hG.trans (hb.mono hG.size))
  case s6_q1 =>
    refine owe rfl fun a wx val hG hV hN hO K hK => ?_
    have e7 := hN 2 7 (by kernel_rfl) (by kernel_rfl) (by simp)
    have f7 := hV 2 (by kernel_rfl) (by kernel_rfl)
    rw [Vp2] at f7; rw [f7] at e7; clear f7
    have e10 := hN 5 10 (by kernel_rfl) (by kernel_rfl) (by simp)
    have f10 := hV 5 (by kernel_rfl) (by kernel_rfl)
    rw [Vp5] at f10; rw [f10] at e10; clear f10
    clear hV hN hO
    go_simp
    refine (CO.out _).mono ?_
    rintro e w11 ⟨rfl, hb⟩
    exact hK.out _ _ (by rw [Vp6, upd_at]) hb (hG.trans (hb.mono hG.size))
  case s7_q1 =>
    refine owe rfl fun a wx val hG hV hN hO K hK => ?_
    have e11 := hN 6 11 (by kernel_rfl) (by kernel_rfl) (by simp)
    have f11 := hV 6 (by kernel_rfl) (by kernel_rfl)
    rw [Vp6] at f11; rw [f11] at e11; clear f11
    clear hV hN hO
    go_simp
    exact hK.out _ _ (by rw [Vp7, upd_at] <;> (congr 1 <;> omega)) (Below.refl _ _) hG
  intro val wx hG hV
  have f0 := hV 0 (by simp) (fun _ _ => by rfl)
  rw [Vp0] at f0
  have f1 := hV 1 (by simp) (fun _ _ => by rfl)
  rw [Vp1] at f1
  have f2 := hV 2 (by simp) (fun _ _ => by rfl)
  rw [Vp2] at f2
  have f3 := hV 3 (by simp) (fun _ _ => by rfl)
  rw [Vp3] at f3
  have f4 := hV 4 (by simp) (fun _ _ => by rfl)
  rw [Vp4] at f4
  have f5 := hV 5 (by simp) (fun _ _ => by rfl)
  rw [Vp5] at f5
  have f6 := hV 6 (by simp) (fun _ _ => by rfl)
  rw [Vp6] at f6
  have f7 := hV 7 (by simp) (fun _ _ => by rfl)
  rw [Vp7] at f7
  clear hV Vp0 Vp1 Vp2 Vp3 Vp4 Vp5 Vp6 Vp7
  simp only [putAll, Act.put, List.setIfInBounds_toArray, List.set_cons_zero, List.set_cons_succ]
  generalize val 0 = z0 at *; (subst f0)
  generalize val 1 = z1 at *; (subst f1)
  generalize val 2 = z2 at *; (subst f2)
  generalize val 3 = z3 at *; (subst f3)
  generalize val 4 = z4 at *; (subst f4)
  generalize val 5 = z5 at *; (subst f5)
  generalize val 6 = z6 at *; (subst f6)
  generalize val 7 = z7 at *; (subst f7)
  clear HVD
  go_wp2_with fail
  go_ret
  exact ⟨rfl, HB.out.trans (hG.mono HB.out.size)⟩

end Go.Proofs.Ytlgbgkiajhcneaa

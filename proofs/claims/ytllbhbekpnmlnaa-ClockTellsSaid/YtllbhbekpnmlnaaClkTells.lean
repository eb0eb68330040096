/-
  The law ClockTells.
-/
import Derived.Test.YtllbhbekpnmlnaaClkMids
namespace Go.Proofs.Ytllbhbekpnmlnaa
open Go.RowKit

/-- Pairs of numbers as a statement's own list of arrays holds them. -/
def PairsAt (w : World) (g : Nat) (l : List (Int × Int)) : Prop := ∀ j p, l[j]? = some p → w.cell? ⟨g, j * 2, none⟩ = some (.int .i64 p.1) ∧ w.cell? ⟨g, j * 2 + 1, none⟩ = some (.int .i64 p.2)
theorem PairsAt.below {w w' : World} {g B : Nat} {l : List (Int × Int)} (h : PairsAt w g l) (hb : Below B w w') (hg : g < B) : PairsAt w' g l := fun j p hp => by
  obtain ⟨h1, h2⟩ := h j p hp
  exact ⟨(hb.cell (p := ⟨g, j * 2, none⟩) hg).trans h1, (hb.cell (p := ⟨g, j * 2 + 1, none⟩) hg).trans h2⟩
theorem pairs_new (W : World) (t : TypeId) (a b c d e f p q : Int) : PairsAt (W.alloc (.cells #[.int .i64 a, .int .i64 b, .int .i64 c, .int .i64 d, .int .i64 e, .int .i64 f, .int .i64 p, .int .i64 q] t)) W.heap.size [(a, b), (c, d), (e, f), (p, q)] := fun j x hx => by
  have hj : j < 4 := (List.getElem?_eq_some_iff.1 hx).1
  unfold World.cell?
  rw [heap_new]
  rcases (show j = 0 ∨ j = 1 ∨ j = 2 ∨ j = 3 by omega) with rfl | rfl | rfl | rfl <;> (simp at hx; subst hx; simp)

set_option maxRecDepth 100000 in
set_option maxHeartbeats 2000000 in
theorem clockTells_walk (a0 a1 a2 : Int) (A3 : Option Addr) (c3 : Nat) (l3 : List Int) (w0 : (Lit.int .i64 a0).wf = true) (w1 : (Lit.int .i64 a1).wf = true) (w2 : (Lit.int .i64 a2).wf = true) (w : World) (f3 : IntsOk w A3 c3 l3) :
    Calls Try.prog 3 #[.int .i64 a0, .int .i64 a1, .int .i64 a2, .slice A3 l3.length c3] w fun e w' => e = .returned (.bool true) ∧ Below w.heap.size w w' := by
  have P1 := Lib.hid (fun W => pick_any a0 1099511627776 w0 (by omega) W)
  have P2 := Lib.hid (fun W => pick_any a1 2001 w1 (by omega) W)
  have P3 := Lib.hid (fun W => pick_any a1 1048576 w1 (by omega) W)
  have P4 := Lib.hid (fun W => pick_any a0 2199023255552 w0 (by omega) W)
  have P5 := Lib.hid (fun W => pick_any a1 100 w1 (by omega) W)
  have P6 := Lib.hid (fun W => pick_any a2 9 w2 (by omega) W)
  have P7 := Lib.hid (fun W => pick_any a1 50 w1 (by omega) W)
  obtain ⟨r10, r11⟩ := pickI_range a0 1099511627776 (by omega)
  obtain ⟨r20, r21⟩ := pickI_range a1 2001 (by omega)
  obtain ⟨r30, r31⟩ := pickI_range a1 1048576 (by omega)
  obtain ⟨r40, r41⟩ := pickI_range a0 2199023255552 (by omega)
  obtain ⟨r50, r51⟩ := pickI_range a1 100 (by omega)
  obtain ⟨r60, r61⟩ := pickI_range a2 9 (by omega)
  obtain ⟨r70, r71⟩ := pickI_range a1 50 (by omega)
  have hb1 := bounds_i64 w1
  generalize pickI a0 1099511627776 = q1 at *
  generalize pickI a1 2001 = q2 at *
  generalize pickI a1 1048576 = q3 at *
  generalize pickI a0 2199023255552 = q4 at *
  generalize pickI a1 100 = q5 at *
  generalize pickI a2 9 = q6 at *
  generalize pickI a1 50 = q7 at *
  clear w0 w1 w2
  have hl := f3.len
  unfold maxLen at hl
  have hrow := f3.row
  clear f3
  obtain ⟨X, n, hXn, hXr, hn⟩ : ∃ (X : List Int) (n : Nat), X.length = n ∧ Row w w.heap.size A3 X ∧ ((n = l3.length ∧ l3.length ≤ 80) ∨ (n = 80 ∧ 80 < l3.length)) := by
    rcases Nat.lt_or_ge 80 l3.length with h | h
    · exact ⟨l3.take 80, 80, by rw [List.length_take]; omega, hrow.take 80, .inr ⟨rfl, h⟩⟩
    · exact ⟨l3, l3.length, rfl, hrow, .inl ⟨rfl, h⟩⟩
  clear hrow
  have hXm : X.length ≤ maxLen := by unfold maxLen; omega
  have CM := Lib.hid (fun k W hb => middle_any k A3 c3 X W (hXr.below hb (Nat.le_refl _) |>.more hb.size) hXm)
  have RM := Lib.hid (fun k W hb => refMiddle_any k A3 c3 X W (hXr.below hb (Nat.le_refl _) |>.more hb.size) hXm)
  have CC := Lib.hid (fun k W hb => correct_any a0 k a1 hb1 A3 c3 X W (hXr.below hb (Nat.le_refl _) |>.more hb.size) hXm)
  have RC := Lib.hid (fun k W hb => refCorrect_any a0 k a1 hb1 A3 c3 X W (hXr.below hb (Nat.le_refl _) |>.more hb.size) hXm)
  have CD := Lib.hid (fun k W hb => correct_any a0 k q7 (by omega) A3 c3 X W (hXr.below hb (Nat.le_refl _) |>.more hb.size) hXm)
  have RD := Lib.hid (fun k W hb => refCorrect_any a0 k q7 (by omega) A3 c3 X W (hXr.below hb (Nat.le_refl _) |>.more hb.size) hXm)
  have CS := Lib.hid (fun W hb => spread_any A3 c3 w.heap.size X W (hXr.below hb (Nat.le_refl _)) hb.size hXm)
  have RS := Lib.hid (fun W hb => refSpread_any A3 c3 w.heap.size X W (hXr.below hb (Nat.le_refl _)) hXm)
  rw [hXn] at CM RM CC RC CD RD CS RS
  obtain ⟨MV, hMV⟩ : ∃ f : Int → Int, (fun k => midV k X) = f := ⟨_, rfl⟩
  obtain ⟨ME, hME⟩ : ∃ f : Int → Int, (fun k => midE k X) = f := ⟨_, rfl⟩
  clear hMV hME MV ME
  clear hXr hXm hXn hb1
  rcases hn with ⟨rfl, hn⟩ | ⟨rfl, hn⟩
  all_goals
    go_enter Try.func3, Try.ntmps3
    go_wp2_with fail; refine (awake_any _).mono ?_; rintro e v1 ⟨rfl, b⟩
    have HB1 := Lib.hid b; clear b
    go_wp2_with fail; (with_reducible refine (P1.out _).mono ?_); rintro e v2 ⟨rfl, rfl⟩
    go_wp2_with fail; (with_reducible refine (P2.out _).mono ?_); rintro e v2 ⟨rfl, rfl⟩
    go_wp2_with fail; (with_reducible refine (P3.out _).mono ?_); rintro e v2 ⟨rfl, rfl⟩
    go_wp2_with fail; (with_reducible refine (P4.out _).mono ?_); rintro e v2 ⟨rfl, rfl⟩
    go_wp2_with fail; (with_reducible refine (P5.out _).mono ?_); rintro e v2 ⟨rfl, rfl⟩
    go_wp2_with fail
    have hpa := pairs_new v1 24 a0 a1 q1 (q2 - 1000) a0 (1 + q3) (q4 - 1099511627776) (1 + q5)
    have hb2 := Joins.below_alloc1 v1 (.cells #[.int .i64 a0, .int .i64 a1, .int .i64 q1, .int .i64 (q2 - 1000), .int .i64 a0, .int .i64 (1 + q3), .int .i64 (q4 - 1099511627776), .int .i64 (1 + q5)] 24)
    obtain ⟨L, hL⟩ : ∃ L, L = [(a0, a1), (q1, q2 - 1000), (a0, 1 + q3), (q4 - 1099511627776, 1 + q5)] := ⟨_, rfl⟩
    rw [← hL] at hpa
    have HLL : Hid (L.length = 4) := Lib.hid (by rw [hL]; rfl)
    have HPA := Lib.hid hpa
    have HB2 := Lib.hid (HB1.out.trans (hb2.mono HB1.out.size))
    have HGS : Hid (v1.heap.size < (v1.alloc (.cells #[.int .i64 a0, .int .i64 a1, .int .i64 q1, .int .i64 (q2 - 1000), .int .i64 a0, .int .i64 (1 + q3), .int .i64 (q4 - 1099511627776), .int .i64 (1 + q5)] 24)).heap.size) := Lib.hid (by simp)
    obtain ⟨g, hg⟩ : ∃ g, v1.heap.size = g := ⟨_, rfl⟩
    rw [hg] at HPA HGS ⊢
    clear hpa hb2 hL hg HB1 P1 P2 P3 P4 P5
    generalize v1.alloc (.cells #[.int .i64 a0, .int .i64 a1, .int .i64 q1, .int .i64 (q2 - 1000), .int .i64 a0, .int .i64 (1 + q3), .int .i64 (q4 - 1099511627776), .int .i64 (1 + q5)] 24) = v2 at *
    have HW0 := Lib.hid (Below.refl v2.heap.size v2)
    go_loopw [58] (fun i wr => ∃ k : Nat, k ≤ 4 ∧ i = .int .i64 k ∧ Below v2.heap.size v2 wr) (fun i _ => 4 - (intOf i).toNat)
    case atStart => exact ⟨0, by omega, rfl, HW0.out⟩
    case round =>
      obtain ⟨k, hk, rfl, hb⟩ := hrel
      have HB3 := Lib.hid hb; clear hb HW0
      by_cases hk4 : k < 4
      · have hkI : (k : Int) < 4 := by omega
        obtain ⟨⟨x, y⟩, hx⟩ : ∃ x, L[k]? = some x := ⟨_, List.getElem?_eq_getElem (by rw [HLL.out]; omega)⟩
        obtain ⟨y0, y1⟩ := (HPA.out.below HB3.out HGS.out) k _ hx
        simp only at y0 y1
        have C1 := Lib.hid (fun W => elapsed_any x y W)
        have C2 := Lib.hid (fun W => refElapsed_any x y W)
        have C3 := Lib.hid (fun W => macro_any x y W)
        have C4 := Lib.hid (fun W => refMacro_any x y W)
        have hbx := Joins.below_alloc1 wr (.cells #[.int .i64 x, .int .i64 y] 24)
        have x0 : (wr.alloc (.cells #[.int .i64 x, .int .i64 y] 24)).cell? ⟨wr.heap.size, 0, none⟩ = some (.int .i64 x) := by unfold World.cell?; rw [heap_new]; rfl
        have x1 : (wr.alloc (.cells #[.int .i64 x, .int .i64 y] 24)).cell? ⟨wr.heap.size, 1, none⟩ = some (.int .i64 y) := by unfold World.cell?; rw [heap_new]; rfl
        have X0 := Lib.hid x0
        have X1 := Lib.hid x1
        have HBX := Lib.hid hbx
        clear hx x0 x1 hbx
        have HBL : Hid (wr.heap.size < (wr.alloc (.cells #[.int .i64 x, .int .i64 y] 24)).heap.size) := Lib.hid (by simp)
        have HBW := Lib.hid (HB3.out.trans (HBX.out.mono HB3.out.size))
        go_wp2_with fail; (with_reducible refine (C1.out _).mono ?_); rintro e w5 ⟨rfl, b5⟩
        have z0 := (b5.cell (p := ⟨wr.heap.size, 0, none⟩) HBL.out).trans X0.out
        have z1 := (b5.cell (p := ⟨wr.heap.size, 1, none⟩) HBL.out).trans X1.out
        have HB5 := Lib.hid (HBW.out.trans (b5.mono HBW.out.size))
        have HBL5 : Hid (wr.heap.size < w5.heap.size) := Lib.hid (by have := b5.size; have := HBL.out; omega)
        clear b5 y0 y1
        go_wp2_with fail; (with_reducible refine (C2.out _).mono ?_); rintro e w6 ⟨rfl, rfl⟩
        go_wp2_with fail; (with_reducible refine (C3.out _).mono ?_); rintro e w6 ⟨rfl, b6⟩
        have z2 := (b6.cell (p := ⟨wr.heap.size, 0, none⟩) HBL5.out).trans z0
        have z3 := (b6.cell (p := ⟨wr.heap.size, 1, none⟩) HBL5.out).trans z1
        have HB6 := Lib.hid (HB5.out.trans (b6.mono HB5.out.size))
        clear b6 z0 z1
        go_wp2_with fail; (with_reducible refine (C4.out _).mono ?_); rintro e w7 ⟨rfl, rfl⟩
        clear z2 z3
        generalize elV x y = t1 at *
        generalize elE x y = t2 at *
        generalize maV x y = t3 at *
        generalize maR x y = t4 at *
        generalize maE x y = t5 at *
        go_wp2_with fail
        go_roundw
        case rel => exact ⟨k + 1, by omega, by go_num, HB6.out⟩
        case measure => simp [intOf]; omega
      · have hkI : ¬ (k : Int) < 4 := by omega
        have HB4 := Lib.hid (HB2.out.trans (HB3.out.mono HB2.out.size))
        clear HB2 HB3 HPA HGS HLL
        go_wp2_with fail; (with_reducible refine (P6.out _).mono ?_); rintro e w5 ⟨rfl, rfl⟩
        go_wp2_with fail
        have hr5 := Row.new wr [a2, q6]
        have hb5 := Joins.below_alloc1 wr (.cells #[.int .i64 a2, .int .i64 q6] 3)
        have HB5 := Lib.hid (HB4.out.trans (hb5.mono HB4.out.size))
        have HR5 : Hid (Row (wr.alloc (.cells #[.int .i64 a2, .int .i64 q6] 3)) (wr.heap.size + 1) (some ⟨wr.heap.size, 0, none⟩) [a2, q6]) := Lib.hid hr5
        have HZ5 : Hid (wr.heap.size + 1 ≤ (wr.alloc (.cells #[.int .i64 a2, .int .i64 q6] 3)).heap.size) := Lib.hid (by simp)
        obtain ⟨b, hb⟩ : ∃ b, wr.heap.size = b := ⟨_, rfl⟩
        rw [hb] at HR5 HZ5 ⊢
        obtain ⟨M, hM⟩ : ∃ M, M = [a2, q6] := ⟨_, rfl⟩
        rw [← hM] at HR5
        have HML : Hid (M.length = 2) := Lib.hid (by rw [hM]; rfl)
        clear hr5 hb5 hb hM HB4 P6
        generalize wr.alloc (.cells #[.int .i64 a2, .int .i64 q6] 3) = w5 at *
        have HW0 := Lib.hid (Below.refl w5.heap.size w5)
        go_loopw [125] (fun i wr => ∃ k : Nat, k ≤ 2 ∧ i = .int .i64 k ∧ Below w5.heap.size w5 wr) (fun i _ => 2 - (intOf i).toNat)
        case atStart => exact ⟨0, by omega, rfl, HW0.out⟩
        case round =>
          obtain ⟨j, hj, rfl, hb⟩ := hrel
          have HB6 := Lib.hid hb; clear hb HW0
          have HB7 := Lib.hid (HB5.out.trans (HB6.out.mono HB5.out.size))
          by_cases hj2 : j < 2
          · have hjI : (j : Int) < 2 := by omega
            obtain ⟨x, hx⟩ : ∃ x, M[j]? = some x := ⟨_, List.getElem?_eq_getElem (by rw [HML.out]; omega)⟩
            obtain ⟨ad, hA, -, hc⟩ := (HR5.out.below HB6.out HZ5.out) (by rw [HML.out]; omega)
            injection hA with hA
            subst hA
            have y0 := hc j x hx
            rw [show (⟨b, 0, none⟩ : Addr).add j = ⟨b, j, none⟩ from by unfold Addr.add; split <;> simp_all] at y0
            clear hx hc
            go_wp2_with fail; (with_reducible refine (CM.out _ _ HB7.out).mono ?_); rintro e v5 ⟨rfl, b5⟩
            have HC5 := Lib.hid (HB7.out.trans (b5.mono HB7.out.size))
            have HD5 := Lib.hid (HB6.out.trans (b5.mono HB6.out.size)); clear b5 y0
            go_wp2_with fail; (with_reducible refine (RM.out _ _ HC5.out).mono ?_); rintro e v6 ⟨rfl, b5⟩
            have HC6 := Lib.hid (HC5.out.trans (b5.mono HC5.out.size))
            have HD6 := Lib.hid (HD5.out.trans (b5.mono HD5.out.size)); clear b5
            have CC6 := Lib.hid (fun W h => CC.out x W h)
            have RC6 := Lib.hid (fun W h => RC.out x W h)
            have CD6 := Lib.hid (fun W h => CD.out x W h)
            have RD6 := Lib.hid (fun W h => RD.out x W h)
            generalize midV x X = t1 at *
            generalize midE x X = t2 at *
            generalize corrI a0 x a1 X = t3 at *
            generalize corrI a0 x q7 X = t4 at *
            go_wp2_with fail; (with_reducible refine (CC6.out _ HC6.out).mono ?_); rintro e v7 ⟨rfl, b5⟩
            have HC7 := Lib.hid (HC6.out.trans (b5.mono HC6.out.size))
            have HD7 := Lib.hid (HD6.out.trans (b5.mono HD6.out.size)); clear b5
            go_wp2_with fail; (with_reducible refine (RC6.out _ HC7.out).mono ?_); rintro e v8 ⟨rfl, b5⟩
            have HC8 := Lib.hid (HC7.out.trans (b5.mono HC7.out.size))
            have HD8 := Lib.hid (HD7.out.trans (b5.mono HD7.out.size)); clear b5
            go_wp2_with fail; (with_reducible refine (P7.out _).mono ?_); rintro e v9 ⟨rfl, rfl⟩
            go_wp2_with fail; (with_reducible refine (CD6.out _ HC8.out).mono ?_); rintro e v9 ⟨rfl, b5⟩
            have HC9 := Lib.hid (HC8.out.trans (b5.mono HC8.out.size))
            have HD9 := Lib.hid (HD8.out.trans (b5.mono HD8.out.size)); clear b5
            go_wp2_with fail; (with_reducible refine (P7.out _).mono ?_); rintro e v10 ⟨rfl, rfl⟩
            go_wp2_with fail; (with_reducible refine (RD6.out _ HC9.out).mono ?_); rintro e v10 ⟨rfl, b5⟩
            have HD10 := Lib.hid (HD9.out.trans (b5.mono HD9.out.size)); clear b5
            go_wp2_with fail
            go_roundw
            case rel => exact ⟨j + 1, by omega, by go_num, HD10.out⟩
            case measure => simp [intOf]; omega
          · have hjI : ¬ (j : Int) < 2 := by omega
            go_wp2_with fail; (with_reducible refine (CS.out _ HB7.out).mono ?_); rintro e v5 ⟨rfl, b5⟩
            have HC5 := Lib.hid (HB7.out.trans (b5.mono HB7.out.size)); clear b5
            generalize spreadI X = S at *
            go_wp2_with fail; (with_reducible refine (RS.out _ HC5.out).mono ?_); rintro e v6 ⟨rfl, rfl⟩
            go_wp2_with fail
            go_ret
            exact ⟨rfl, HC5.out⟩

end Go.Proofs.Ytllbhbekpnmlnaa

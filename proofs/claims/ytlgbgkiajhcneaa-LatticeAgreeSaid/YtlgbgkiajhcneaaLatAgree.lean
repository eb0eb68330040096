/-
  The law LatticeAgree.
-/
import Derived.Test.YtlgbgkiajhcneaaLatTurns
namespace Go.Proofs.Ytlgbgkiajhcneaa
open Go.RowKit

theorem four_new (W : World) (d0 d1 d2 d3 : Int) : (W.alloc (.cells #[.int .i64 d0, .int .i64 d1, .int .i64 d2, .int .i64 d3] 37)).heap[W.heap.size]? = some (.cells #[.int .i64 d0, .int .i64 d1, .int .i64 d2, .int .i64 d3] 37 (0, 0)) := heap_new W _
def Four (w : World) (b : Nat) (l : List Int) : Prop := ∀ k x, l[k]? = some x → w.cell? ⟨b, k, none⟩ = some (.int .i64 x)
theorem Four.on {w w' : World} {b : Nat} {l : List Int} (h : Four w b l) (hb : Below w.heap.size w w') : Four w' b l := fun k x hx => by
  have h1 := h k x hx
  exact (hb.cell (World.block_lt_of_cell? w _ h1)).trans h1
theorem four_all {w : World} {b : Nat} {d0 d1 d2 d3 : Int} (h : w.heap[b]? = some (.cells #[.int .i64 d0, .int .i64 d1, .int .i64 d2, .int .i64 d3] 37 (0, 0))) : Four w b [d0, d1, d2, d3] := fun k x hx => by
  match k, hx with
  | 0, hx => rw [cell_of h]; simpa using hx
  | 1, hx => rw [cell_of h]; simpa using hx
  | 2, hx => rw [cell_of h]; simpa using hx
  | 3, hx => rw [cell_of h]; simpa using hx
  | k + 4, hx => simp at hx

theorem ep_near {la lg x r d : Int} (h : Rt la lg) (hr : 0 ≤ r ∧ r < la) (hd : -(lg / 2) ≤ d ∧ d ≤ lg / 2) : epI la lg (x * (la + lg) + r + d) = x := by
  obtain ⟨⟨a0, a1⟩, g0, g1⟩ := id h
  rw [Int.add_assoc]
  exact ep_at h (by omega) (by omega)

set_option maxRecDepth 100000 in
set_option maxHeartbeats 4000000 in
theorem latticeAgree_walk (a0 a1 a2 a3 a4 a5 d0 d1 d2 d3 : Int) (w0 : (Lit.int .i64 a0).wf = true) (w1 : (Lit.int .i64 a1).wf = true) (w2 : (Lit.int .i64 a2).wf = true) (w3 : (Lit.int .i64 a3).wf = true) (w4 : (Lit.int .i64 a4).wf = true) (w5 : (Lit.int .i64 a5).wf = true) (x6 : (Lit.int .i64 d0).wf = true ∧ (Lit.int .i64 d1).wf = true ∧ (Lit.int .i64 d2).wf = true ∧ (Lit.int .i64 d3).wf = true) (w : World) :
    Calls Try.prog 4 #[.int .i64 a0, .int .i64 a1, .int .i64 a2, .int .i64 a3, .int .i64 a4, .int .i64 a5, .agg #[.int .i64 d0, .int .i64 d1, .int .i64 d2, .int .i64 d3]] w fun e w' => e = .returned (.bool true) ∧ Below w.heap.size w w' := by
  have CL := Lib.hid (fun W => lattice_any a0 a1 w0 w1 W)
  have P2 := Lib.hid (fun W => pick_any a2 1048576 w2 (by omega) W)
  have P3 := Lib.hid (fun W => pick_any a3 1048576 w3 (by omega) W)
  have hr : Rt (latA a0) (latA a1) := ⟨latA_range a0, latA_range a1⟩
  obtain ⟨t0, t1⟩ := pickI_range a2 1048576 (by omega)
  obtain ⟨u0, u1⟩ := pickI_range a3 1048576 (by omega)
  generalize latA a0 = la at *
  generalize latA a1 = lg at *
  generalize pickI a2 1048576 = P at *
  generalize pickI a3 1048576 = Q at *
  obtain ⟨⟨l0, l1⟩, g0, g1⟩ := id hr
  have P4 := Lib.hid (fun W => pick_any a4 la w4 (by omega) W)
  have P5 := Lib.hid (fun W => pick_any a5 la w5 (by omega) W)
  have hr1 := pickI_range a4 la (by omega)
  have hr2 := pickI_range a5 la (by omega)
  generalize pickI a4 la = r1 at *
  generalize pickI a5 la = r2 at *
  obtain ⟨x, hx⟩ : ∃ t, P - 524288 = t := ⟨_, rfl⟩
  obtain ⟨y, hy⟩ : ∃ t, Q - 524288 = t := ⟨_, rfl⟩
  have hP : P = x + 524288 := by omega
  have hQ : Q = y + 524288 := by omega
  subst hP hQ
  have cb := fun W => begin_any la lg x W
  have cd := fun W => begin_any la lg y W
  rw [(beg_ok hr (.inl ⟨by omega, by omega⟩)).1, (beg_ok hr (.inl ⟨by omega, by omega⟩)).2] at cb cd
  have hx1 : x * (la + lg) ≤ 524288 * (la + lg) := Int.mul_le_mul_of_nonneg_right (by omega) (by omega)
  have hx2 : -524288 * (la + lg) ≤ x * (la + lg) := Int.mul_le_mul_of_nonneg_right (by omega) (by omega)
  have hy1 : y * (la + lg) ≤ 524288 * (la + lg) := Int.mul_le_mul_of_nonneg_right (by omega) (by omega)
  have hy2 : -524288 * (la + lg) ≤ y * (la + lg) := Int.mul_le_mul_of_nonneg_right (by omega) (by omega)
  have ca := fun W => active_any la lg (x * (la + lg) + r1) W
  have cc := fun W => active_any la lg (y * (la + lg) + r2) W
  rw [act_ok hr ⟨by omega, by omega⟩, (dv (S := la + lg) (q := x) (r := r1) (by omega) (by omega)).2, decide_eq_true hr1.2] at ca
  rw [act_ok hr ⟨by omega, by omega⟩, (dv (S := la + lg) (q := y) (r := r2) (by omega) (by omega)).2, decide_eq_true hr2.2] at cc
  have hh := half_eq lg g0
  obtain ⟨hf, hhf⟩ : ∃ h, lg / 2 = h := ⟨_, rfl⟩
  obtain ⟨f0, f1, f2⟩ : 0 ≤ hf ∧ hf ≤ 5000 ∧ 2 * hf ≤ lg := by omega
  have HE := Lib.hid (fun (d : Int) (hd : -hf ≤ d ∧ d ≤ hf) (W : World) => (show Calls Try.prog 18 #[lv la lg, .int .i64 (x * (la + lg) + r1 + d)] W fun e w' => e = .returned (.tuple #[.int .i64 x, .int .i64 0]) ∧ Below W.heap.size W w' by
    have := epoch_any la lg (x * (la + lg) + r1 + d) W
    rw [ep_ok hr ⟨by omega, by omega⟩, err_ok hr ⟨by omega, by omega⟩, ep_near hr hr1 (by rw [hhf]; exact hd)] at this
    exact this))
  have HO := Lib.hid (fun (d d' : Int) (hd : -hf ≤ d ∧ d ≤ hf) (hd' : -hf ≤ d' ∧ d' ≤ hf) (W : World) => (show Calls Try.prog 20 #[lv la lg, .int .i64 (x * (la + lg) + r1 + d), .int .i64 (y * (la + lg) + r2 + d')] W fun e w' => e = .returned (.tuple #[.int .i64 (cmpI x y), .int .i64 0]) ∧ Below W.heap.size W w' by
    have := order_any la lg (x * (la + lg) + r1 + d) (y * (la + lg) + r2 + d') W
    rw [(or_ok hr ⟨by omega, by omega⟩ ⟨by omega, by omega⟩).1, (or_ok hr ⟨by omega, by omega⟩ ⟨by omega, by omega⟩).2, ep_near hr hr1 (by rw [hhf]; exact hd), ep_near hr hr2 (by rw [hhf]; exact hd')] at this
    exact this))
  have HN := Lib.hid (fun (d : Int) (hd : -hf ≤ d ∧ d ≤ hf) (W : World) => (show Calls Try.prog 14 #[lv la lg, .int .i64 d] W fun e w' => e = .returned (.bool true) ∧ Below W.heap.size W w' by
    have := near_any la lg d W
    rw [near_ok hr, hhf, (inB_iff _ _ _).2 hd] at this
    exact this))
  have cn1 := fun W => near_any la lg (hf + 1) W
  have cn2 := fun W => near_any la lg (-hf - 1) W
  rw [near_ok hr, hhf, (inB_not _ _ _).2 (by omega)] at cn1 cn2
  have HPK := Lib.hid (fun (d : Int) (hd : (Lit.int .i64 d).wf = true) (W : World) => pick_any d (2 * hf + 1) hd (by omega) W)
  have HPR := Lib.hid (fun (d : Int) => pickI_range d (2 * hf + 1) (by omega))
  have HW : Hid (∀ (k : Nat) (e : Int), [d0, d1, d2, d3][k]? = some e → (Lit.int .i64 e).wf = true) := Lib.hid (fun (k : Nat) (e : Int) (he : [d0, d1, d2, d3][k]? = some e) => by
    obtain ⟨z0, z1, z2, z3⟩ := x6
    match k, he with
    | 0, he => simp at he; subst he; exact z0
    | 1, he => simp at he; subst he; exact z1
    | 2, he => simp at he; subst he; exact z2
    | 3, he => simp at he; subst he; exact z3
    | k + 4, he => simp at he)
  rw [hhf] at hh
  have HX : Hid (-10485760000 ≤ x * (la + lg) ∧ x * (la + lg) ≤ 10485760000) := Lib.hid ⟨by omega, by omega⟩
  have HY : Hid (-10485760000 ≤ y * (la + lg) ∧ y * (la + lg) ≤ 10485760000) := Lib.hid ⟨by omega, by omega⟩
  have HCM : Hid ((x < y → cmpI x y = -1) ∧ (y < x → cmpI x y = 1) ∧ (x = y → cmpI x y = 0)) := Lib.hid ⟨cmp_lt, cmp_gt, cmp_eq⟩
  generalize x * (la + lg) = X at *
  generalize y * (la + lg) = Y at *
  generalize cmpI x y = CV at *
  obtain ⟨X0, X1⟩ := HX.out
  obtain ⟨Y0, Y1⟩ := HY.out
  obtain ⟨r10, r11⟩ := hr1
  obtain ⟨r20, r21⟩ := hr2
  have HF0 := Lib.hid (four_all (four_new w d0 d1 d2 d3))
  have HB0 := Lib.hid (Joins.below_alloc1 w (.cells #[.int .i64 d0, .int .i64 d1, .int .i64 d2, .int .i64 d3] 37))
  have CB := Lib.hid cb
  have CD := Lib.hid cd
  have CA := Lib.hid ca
  have CC := Lib.hid cc
  have CN1 := Lib.hid cn1
  have CN2 := Lib.hid cn2
  have CAW := Lib.hid (fun W => awake_any W)
  clear w0 w1 w2 w3 w4 w5 x6 hr cb cd ca cc cn1 cn2 hx1 hx2 hy1 hy2 hhf hx hy HX HY
  rcases Int.lt_trichotomy x y with h | h | h
  · have hv := HCM.out.1 h
    have h2 : ¬ y < x := by omega
    clear HCM
    subst hv
    go_enter Try.func4, Try.ntmps4
    go_wp2_with fail
    (refine (CAW.out _).mono ?_); rintro e v1 ⟨rfl, b⟩
    have HB := Lib.hid (HB0.out.trans (b.mono HB0.out.size))
    have HF := Lib.hid (HF0.out.on b)
    clear b
    go_wp2_with fail
    (refine (CL.out _).mono ?_); rintro e v2 ⟨rfl, b⟩
    have HL := Lib.hid (LtAt.new v2 la lg)
    have HC := Joins.below_alloc1 v2 (.cells #[.int .i64 la, .int .i64 lg] 23)
    replace HF := Lib.hid ((HF.out.on b).on HC)
    replace HB := Lib.hid ((HB.out.trans (b.mono HB.out.size)).trans (HC.mono (HB.out.trans (b.mono HB.out.size)).size))
    obtain ⟨y0, y1⟩ := HL.out.cells
    clear b HC
    go_wp2_with fail
    (with_reducible refine (P2.out _).mono ?_); rintro e v3 ⟨rfl, rfl⟩
    go_wp2_with fail
    (with_reducible refine (P3.out _).mono ?_); rintro e v3 ⟨rfl, rfl⟩
    go_wp2_with fail
    (with_reducible refine (CB.out _).mono ?_); rintro e v4 ⟨rfl, b⟩
    replace HB := Lib.hid (HB.out.trans (b.mono HB.out.size))
    replace HL := Lib.hid (HL.out.on b)
    replace HF := Lib.hid (HF.out.on b)
    clear y0 y1 b
    obtain ⟨y0, y1⟩ := HL.out.cells
    go_wp2_with fail
    (with_reducible refine (CD.out _).mono ?_); rintro e v5 ⟨rfl, b⟩
    replace HB := Lib.hid (HB.out.trans (b.mono HB.out.size))
    replace HL := Lib.hid (HL.out.on b)
    replace HF := Lib.hid (HF.out.on b)
    clear y0 y1 b
    obtain ⟨y0, y1⟩ := HL.out.cells
    go_wp2_with fail
    (with_reducible refine (P4.out _).mono ?_); rintro e v6 ⟨rfl, rfl⟩
    go_wp2_with fail
    (with_reducible refine (P5.out _).mono ?_); rintro e v6 ⟨rfl, rfl⟩
    go_wp2_with fail
    (with_reducible refine (CA.out _).mono ?_); rintro e v6 ⟨rfl, b⟩
    replace HB := Lib.hid (HB.out.trans (b.mono HB.out.size))
    replace HL := Lib.hid (HL.out.on b)
    replace HF := Lib.hid (HF.out.on b)
    clear y0 y1 b
    obtain ⟨y0, y1⟩ := HL.out.cells
    go_wp2_with fail
    (with_reducible refine (CC.out _).mono ?_); rintro e v7 ⟨rfl, b⟩
    replace HB := Lib.hid (HB.out.trans (b.mono HB.out.size))
    replace HL := Lib.hid (HL.out.on b)
    replace HF := Lib.hid (HF.out.on b)
    clear y0 y1 b
    obtain ⟨y0, y1⟩ := HL.out.cells
    obtain ⟨bl, hbl⟩ : ∃ b, v2.heap.size = b := ⟨_, rfl⟩
    rw [hbl] at HL y0 y1
    (try rw [hbl])
    go_wp2_with fail
    have HW0 := Lib.hid (Below.refl v7.heap.size v7)
    clear y0 y1 CAW CL P2 P3 P4 P5 CB CD CA CC HF0 HB0
    go_loopw [27] (fun i wr => ∃ k : Nat, k ≤ 4 ∧ i = .int .i64 k ∧ Below v7.heap.size v7 wr) (fun i _ => 4 - (intOf i).toNat)
    case atStart => exact ⟨0, by omega, rfl, HW0.out⟩
    case round =>
      obtain ⟨k, hk, rfl, hb⟩ := hrel
      have HL7 := Lib.hid (HL.out.on hb)
      have HF7 := Lib.hid (HF.out.on hb)
      have HB7 := Lib.hid hb
      obtain ⟨y0, y1⟩ := HL7.out.cells
      clear hb HW0
      by_cases hlt : k < 4
      · have hkI : (k : Int) < 4 := by omega
        obtain ⟨j, hj⟩ : ∃ j : Nat, j + k = 3 := ⟨3 - k, by omega⟩
        obtain ⟨u, hu⟩ : ∃ u, [d0, d1, d2, d3][k]? = some u := ⟨_, List.getElem?_eq_getElem (by simp; omega)⟩
        obtain ⟨v, hv⟩ : ∃ v, [d0, d1, d2, d3][j]? = some v := ⟨_, List.getElem?_eq_getElem (by simp; omega)⟩
        have cu := HF7.out k u hu
        have HCV := Lib.hid (fun W (hb : Below wr.heap.size wr W) => (HF7.out.on hb) j v hv)
        have PU := Lib.hid (HPK.out u (HW.out k u hu))
        have PV := Lib.hid (HPK.out v (HW.out j v hv))
        obtain ⟨p0, p1⟩ := HPR.out u
        obtain ⟨p2, p3⟩ := HPR.out v
        obtain ⟨K0, hK0⟩ : ∃ c, pickI u (2 * hf + 1) = c := ⟨_, rfl⟩
        obtain ⟨K1, hK1⟩ : ∃ c, pickI v (2 * hf + 1) = c := ⟨_, rfl⟩
        rw [hK0] at PU p0 p1
        rw [hK1] at PV p2 p3
        have CE := Lib.hid (HE.out (K0 - hf) ⟨by omega, by omega⟩)
        have CO := Lib.hid (HO.out (K0 - hf) (K1 - hf) ⟨by omega, by omega⟩ ⟨by omega, by omega⟩)
        have CN := Lib.hid (HN.out (K0 - hf) ⟨by omega, by omega⟩)
        have QJ : Hid ((0 : Int) ≤ j ∧ (j : Int) < 4 ∧ (3 : Int) - (k : Int) = (j : Int)) := Lib.hid (by omega)
        have QW : Hid (IntKind.i64.wrap (3 - (k : Int)) = (j : Int)) := Lib.hid (by rw [IntWalk.i64_in _ (by omega)]; omega)
        clear hK0 hK1 hu hv HPK HPR HE HO HN HW CN1 CN2 HF7 HF hj
        go_wp2_with fail
        (with_reducible refine (PU.out _).mono ?_); rintro e v10 ⟨rfl, rfl⟩
        go_wp2_with fail
        (with_reducible refine (CE.out _).mono ?_); rintro e v11 ⟨rfl, b⟩
        have HL8 := Lib.hid (HL7.out.on b)
        have HB8 := Lib.hid (HB7.out.trans (b.mono HB7.out.size))
        have HC8 : Hid (∀ W, Below v11.heap.size v11 W → W.cell? ⟨w.heap.size, j, none⟩ = some (.int .i64 v)) := Lib.hid (fun W hb => HCV.out W (b.trans (hb.mono b.size)))
        clear b y0 y1 cu
        go_upto_region 22 with fail
        generalize v11 = Y1 at *
        clear HL7 HB7 HCV PU CE
        have HV : ∃ Vp : Nat → (Nat → Value) → World → Prop, Vp = (fun ix u wv => match ix with
          | 0 => u 0 = .agg #[.int .i64 la, .int .i64 lg]
          | 1 => u 1 = .int .i64 (X + r1)
          | 2 => u 2 = .int .i64 (K0 - hf)
          | 3 => u 3 = .int .i64 (X + r1 + (K0 - hf))
          | 4 => u 4 = .int .i64 (Y + r2)
          | 5 => u 5 = .int .i64 (k : Int)
          | 6 => u 6 = .int .i64 (j : Int)
          | 7 => u 7 = .pointer (some ⟨w.heap.size, j, none⟩)
          | 8 => u 8 = .int .i64 v
          | 9 => u 9 = .int .i64 hf
          | 10 => u 10 = .int .i64 (2 * hf)
          | 11 => u 11 = .int .i64 (2 * hf + 1)
          | 12 => u 12 = .int .i64 K1
          | 13 => u 13 = .int .i64 (Y + r2 + K1)
          | 14 => u 14 = .int .i64 hf
          | 15 => u 15 = .int .i64 (Y + r2 + (K1 - hf))
          | 16 => u 16 = .tuple #[.int .i64 (-1), .int .i64 0]
          | 17 => u 17 = .tuple #[.int .i64 (-1), .int .i64 0]
          | 18 => u 18 = .int .i64 (-1)
          | 19 => u 19 = .int .i64 0
          | 20 => u 20 = .int .i64 (-1)
          | 21 => u 21 = .int .i64 0
          | _ => True) := ⟨_, rfl⟩
        obtain ⟨Vp, hVdef⟩ := HV
        have Vp0 : ∀ u wv, Vp 0 u wv = (u 0 = .agg #[.int .i64 la, .int .i64 lg]) := fun u wv => by subst hVdef; rfl
        have Vp1 : ∀ u wv, Vp 1 u wv = (u 1 = .int .i64 (X + r1)) := fun u wv => by subst hVdef; rfl
        have Vp2 : ∀ u wv, Vp 2 u wv = (u 2 = .int .i64 (K0 - hf)) := fun u wv => by subst hVdef; rfl
        have Vp3 : ∀ u wv, Vp 3 u wv = (u 3 = .int .i64 (X + r1 + (K0 - hf))) := fun u wv => by subst hVdef; rfl
        have Vp4 : ∀ u wv, Vp 4 u wv = (u 4 = .int .i64 (Y + r2)) := fun u wv => by subst hVdef; rfl
        have Vp5 : ∀ u wv, Vp 5 u wv = (u 5 = .int .i64 (k : Int)) := fun u wv => by subst hVdef; rfl
        have Vp6 : ∀ u wv, Vp 6 u wv = (u 6 = .int .i64 (j : Int)) := fun u wv => by subst hVdef; rfl
        have Vp7 : ∀ u wv, Vp 7 u wv = (u 7 = .pointer (some ⟨w.heap.size, j, none⟩)) := fun u wv => by subst hVdef; rfl
        have Vp8 : ∀ u wv, Vp 8 u wv = (u 8 = .int .i64 v) := fun u wv => by subst hVdef; rfl
        have Vp9 : ∀ u wv, Vp 9 u wv = (u 9 = .int .i64 hf) := fun u wv => by subst hVdef; rfl
        have Vp10 : ∀ u wv, Vp 10 u wv = (u 10 = .int .i64 (2 * hf)) := fun u wv => by subst hVdef; rfl
        have Vp11 : ∀ u wv, Vp 11 u wv = (u 11 = .int .i64 (2 * hf + 1)) := fun u wv => by subst hVdef; rfl
        have Vp12 : ∀ u wv, Vp 12 u wv = (u 12 = .int .i64 K1) := fun u wv => by subst hVdef; rfl
        have Vp13 : ∀ u wv, Vp 13 u wv = (u 13 = .int .i64 (Y + r2 + K1)) := fun u wv => by subst hVdef; rfl
        have Vp14 : ∀ u wv, Vp 14 u wv = (u 14 = .int .i64 hf) := fun u wv => by subst hVdef; rfl
        have Vp15 : ∀ u wv, Vp 15 u wv = (u 15 = .int .i64 (Y + r2 + (K1 - hf))) := fun u wv => by subst hVdef; rfl
        have Vp16 : ∀ u wv, Vp 16 u wv = (u 16 = .tuple #[.int .i64 (-1), .int .i64 0]) := fun u wv => by subst hVdef; rfl
        have Vp17 : ∀ u wv, Vp 17 u wv = (u 17 = .tuple #[.int .i64 (-1), .int .i64 0]) := fun u wv => by subst hVdef; rfl
        have Vp18 : ∀ u wv, Vp 18 u wv = (u 18 = .int .i64 (-1)) := fun u wv => by subst hVdef; rfl
        have Vp19 : ∀ u wv, Vp 19 u wv = (u 19 = .int .i64 0) := fun u wv => by subst hVdef; rfl
        have Vp20 : ∀ u wv, Vp 20 u wv = (u 20 = .int .i64 (-1)) := fun u wv => by subst hVdef; rfl
        have Vp21 : ∀ u wv, Vp 21 u wv = (u 21 = .int .i64 0) := fun u wv => by subst hVdef; rfl
        have HVD := Lib.hid hVdef
        clear hVdef
        refine region_each (V := Vp) (drop := fun _ _ => false) (G := fun wv => Below Y1.heap.size Y1 wv) (Rel := fun jx wv wv' => Below wv.heap.size wv wv') (by kernel_rfl) (by kernel_rfl) (Below.refl _ _).drew ?hmonoq1 ?hdepq1 ⟨?s0_q1, ?s1_q1, ?s2_q1, ?s3_q1, ?s4_q1, ?s5_q1, ?s6_q1, ?s7_q1, ?s8_q1, ?s9_q1, ?s10_q1, ?s11_q1, ?s12_q1, ?s13_q1, ?s14_q1, ?s15_q1, ?s16_q1, ?s17_q1, ?s18_q1, ?s19_q1, ?s20_q1, ?s21_q1, trivial⟩ ?behindq1
        case hmonoq1 =>
          intro ix jx u wv wv' hij hw hd hr
          rw [HVD.out]
          dsimp only
          split <;> intro h <;> first | exact trivial | exact h
        case hdepq1 =>
          intro ix u u' wv h1 h2
          rw [HVD.out]
          dsimp only
          split <;> intro h <;> first | exact trivial | (rw [← h1]; exact h)
        case s0_q1 =>
          refine owe rfl fun a wx val hG hV hN hO K hK => ?_
          have e16 : a.tmps[16]? = some (.pointer (some ⟨bl, 0, none⟩)) := (hO 16 (by kernel_rfl)).trans (by rfl)
          clear hV hN hO
          obtain ⟨y0, y1⟩ := (HL8.out.on hG).cells ; have y2 := HC8.out _ hG
          go_simp
          exact hK.out _ _ (by rw [Vp0, upd_at] <;> (congr 1 <;> omega)) (Below.refl _ _) hG
        case s1_q1 =>
          refine owe rfl fun a wx val hG hV hN hO K hK => ?_
          have e24 : a.tmps[24]? = some (.int .i64 (X + r1)) := (hO 24 (by kernel_rfl)).trans (by rfl)
          clear hV hN hO
          go_simp
          exact hK.out _ _ (by rw [Vp1, upd_at] <;> (congr 1 <;> omega)) (Below.refl _ _) hG
        case s2_q1 =>
          refine owe rfl fun a wx val hG hV hN hO K hK => ?_
          have e28 : a.tmps[28]? = some (.int .i64 (K0 - hf)) := (hO 28 (by kernel_rfl)).trans (by rfl)
          clear hV hN hO
          go_simp
          exact hK.out _ _ (by rw [Vp2, upd_at] <;> (congr 1 <;> omega)) (Below.refl _ _) hG
        case s3_q1 =>
          refine owe rfl fun a wx val hG hV hN hO K hK => ?_
          have e117 := hN 1 117 (by kernel_rfl) (by kernel_rfl) (by simp)
          have f117 := hV 1 (by kernel_rfl) (by kernel_rfl)
          rw [Vp1] at f117; rw [f117] at e117; clear f117
          have e118 := hN 2 118 (by kernel_rfl) (by kernel_rfl) (by simp)
          have f118 := hV 2 (by kernel_rfl) (by kernel_rfl)
          rw [Vp2] at f118; rw [f118] at e118; clear f118
          clear hV hN hO
          have q1 : IntKind.i64.wrap (X + r1 + (K0 - hf)) = X + r1 + (K0 - hf) := IntWalk.i64_in _ (by omega)
          go_simp
          exact hK.out _ _ (by rw [Vp3, upd_at] <;> (congr 1 <;> omega)) (Below.refl _ _) hG
        case s4_q1 =>
          refine owe rfl fun a wx val hG hV hN hO K hK => ?_
          have e25 : a.tmps[25]? = some (.int .i64 (Y + r2)) := (hO 25 (by kernel_rfl)).trans (by rfl)
          clear hV hN hO
          go_simp
          exact hK.out _ _ (by rw [Vp4, upd_at] <;> (congr 1 <;> omega)) (Below.refl _ _) hG
        case s5_q1 =>
          refine owe rfl fun a wx val hG hV hN hO K hK => ?_
          have e27 : a.tmps[27]? = some (.int .i64 (k : Int)) := (hO 27 (by kernel_rfl)).trans (by rfl)
          clear hV hN hO
          go_simp
          exact hK.out _ _ (by rw [Vp5, upd_at] <;> (congr 1 <;> omega)) (Below.refl _ _) hG
        case s6_q1 =>
          refine owe rfl fun a wx val hG hV hN hO K hK => ?_
          have e121 := hN 5 121 (by kernel_rfl) (by kernel_rfl) (by simp)
          have f121 := hV 5 (by kernel_rfl) (by kernel_rfl)
          rw [Vp5] at f121; rw [f121] at e121; clear f121
          clear hV hN hO
          have q1 := QW.out
          go_simp
          exact hK.out _ _ (by rw [Vp6, upd_at] <;> (congr 1 <;> omega)) (Below.refl _ _) hG
        case s7_q1 =>
          refine owe rfl fun a wx val hG hV hN hO K hK => ?_
          have e13 : a.tmps[13]? = some (.pointer (some ⟨w.heap.size, 0, none⟩)) := (hO 13 (by kernel_rfl)).trans (by rfl)
          have e122 := hN 6 122 (by kernel_rfl) (by kernel_rfl) (by simp)
          have f122 := hV 6 (by kernel_rfl) (by kernel_rfl)
          rw [Vp6] at f122; rw [f122] at e122; clear f122
          clear hV hN hO
          obtain ⟨q1, q2, q3⟩ := QJ.out
          go_simp
          exact hK.out _ _ (by rw [Vp7, upd_at] <;> (congr 1 <;> omega)) (Below.refl _ _) hG
        case s8_q1 =>
          refine owe rfl fun a wx val hG hV hN hO K hK => ?_
          have e123 := hN 7 123 (by kernel_rfl) (by kernel_rfl) (by simp)
          have f123 := hV 7 (by kernel_rfl) (by kernel_rfl)
          rw [Vp7] at f123; rw [f123] at e123; clear f123
          clear hV hN hO
          obtain ⟨y0, y1⟩ := (HL8.out.on hG).cells ; have y2 := HC8.out _ hG
          go_simp
          exact hK.out _ _ (by rw [Vp8, upd_at] <;> (congr 1 <;> omega)) (Below.refl _ _) hG
        case s9_q1 =>
          refine owe rfl fun a wx val hG hV hN hO K hK => ?_
          have e17 : a.tmps[17]? = some (.int .i64 hf) := (hO 17 (by kernel_rfl)).trans (by rfl)
          clear hV hN hO
          go_simp
          exact hK.out _ _ (by rw [Vp9, upd_at] <;> (congr 1 <;> omega)) (Below.refl _ _) hG
        case s10_q1 =>
          refine owe rfl fun a wx val hG hV hN hO K hK => ?_
          have e125 := hN 9 125 (by kernel_rfl) (by kernel_rfl) (by simp)
          have f125 := hV 9 (by kernel_rfl) (by kernel_rfl)
          rw [Vp9] at f125; rw [f125] at e125; clear f125
          clear hV hN hO
          have q1 : IntKind.i64.wrap (2 * hf) = 2 * hf := IntWalk.i64_in _ (by omega)
          go_simp
          exact hK.out _ _ (by rw [Vp10, upd_at] <;> (congr 1 <;> omega)) (Below.refl _ _) hG
        case s11_q1 =>
          refine owe rfl fun a wx val hG hV hN hO K hK => ?_
          have e126 := hN 10 126 (by kernel_rfl) (by kernel_rfl) (by simp)
          have f126 := hV 10 (by kernel_rfl) (by kernel_rfl)
          rw [Vp10] at f126; rw [f126] at e126; clear f126
          clear hV hN hO
          have q1 : IntKind.i64.wrap (2 * hf + 1) = 2 * hf + 1 := IntWalk.i64_in _ (by omega)
          go_simp
          exact hK.out _ _ (by rw [Vp11, upd_at] <;> (congr 1 <;> omega)) (Below.refl _ _) hG
        case s12_q1 =>
          refine owe rfl fun a wx val hG hV hN hO K hK => ?_
          have e124 := hN 8 124 (by kernel_rfl) (by kernel_rfl) (by simp)
          have f124 := hV 8 (by kernel_rfl) (by kernel_rfl)
          rw [Vp8] at f124; rw [f124] at e124; clear f124
          have e127 := hN 11 127 (by kernel_rfl) (by kernel_rfl) (by simp)
          have f127 := hV 11 (by kernel_rfl) (by kernel_rfl)
          rw [Vp11] at f127; rw [f127] at e127; clear f127
          clear hV hN hO
          go_simp
          refine (PV.out _).mono ?_
          rintro e w11 ⟨rfl, rfl⟩
          exact hK.out _ _ (by rw [Vp12, upd_at] <;> (congr 1 <;> omega)) (Below.refl _ _) hG
        case s13_q1 =>
          refine owe rfl fun a wx val hG hV hN hO K hK => ?_
          have e120 := hN 4 120 (by kernel_rfl) (by kernel_rfl) (by simp)
          have f120 := hV 4 (by kernel_rfl) (by kernel_rfl)
          rw [Vp4] at f120; rw [f120] at e120; clear f120
          have e128 := hN 12 128 (by kernel_rfl) (by kernel_rfl) (by simp)
          have f128 := hV 12 (by kernel_rfl) (by kernel_rfl)
          rw [Vp12] at f128; rw [f128] at e128; clear f128
          clear hV hN hO
          have q1 : IntKind.i64.wrap (Y + r2 + K1) = Y + r2 + K1 := IntWalk.i64_in _ (by omega)
          go_simp
          exact hK.out _ _ (by rw [Vp13, upd_at] <;> (congr 1 <;> omega)) (Below.refl _ _) hG
        case s14_q1 =>
          refine owe rfl fun a wx val hG hV hN hO K hK => ?_
          have e17 : a.tmps[17]? = some (.int .i64 hf) := (hO 17 (by kernel_rfl)).trans (by rfl)
          clear hV hN hO
          go_simp
          exact hK.out _ _ (by rw [Vp14, upd_at] <;> (congr 1 <;> omega)) (Below.refl _ _) hG
        case s15_q1 =>
          refine owe rfl fun a wx val hG hV hN hO K hK => ?_
          have e129 := hN 13 129 (by kernel_rfl) (by kernel_rfl) (by simp)
          have f129 := hV 13 (by kernel_rfl) (by kernel_rfl)
          rw [Vp13] at f129; rw [f129] at e129; clear f129
          have e130 := hN 14 130 (by kernel_rfl) (by kernel_rfl) (by simp)
          have f130 := hV 14 (by kernel_rfl) (by kernel_rfl)
          rw [Vp14] at f130; rw [f130] at e130; clear f130
          clear hV hN hO
          have q1 : IntKind.i64.wrap (Y + r2 + K1 - hf) = Y + r2 + (K1 - hf) := by rw [IntWalk.i64_in _ (by omega)]; omega
          go_simp
          exact hK.out _ _ (by rw [Vp15, upd_at] <;> (congr 1 <;> omega)) (Below.refl _ _) hG
        case s16_q1 =>
          refine owe rfl fun a wx val hG hV hN hO K hK => ?_
          have e116 := hN 0 116 (by kernel_rfl) (by kernel_rfl) (by simp)
          have f116 := hV 0 (by kernel_rfl) (by kernel_rfl)
          rw [Vp0] at f116; rw [f116] at e116; clear f116
          have e119 := hN 3 119 (by kernel_rfl) (by kernel_rfl) (by simp)
          have f119 := hV 3 (by kernel_rfl) (by kernel_rfl)
          rw [Vp3] at f119; rw [f119] at e119; clear f119
          have e131 := hN 15 131 (by kernel_rfl) (by kernel_rfl) (by simp)
          have f131 := hV 15 (by kernel_rfl) (by kernel_rfl)
          rw [Vp15] at f131; rw [f131] at e131; clear f131
          clear hV hN hO
          go_simp
          refine (CO.out _).mono ?_
          rintro e w11 ⟨rfl, hb⟩
          exact hK.out _ _ (by rw [Vp16, upd_at]) hb (hG.trans (hb.mono hG.size))
        case s17_q1 =>
          refine owe rfl fun a wx val hG hV hN hO K hK => ?_
          have e132 := hN 16 132 (by kernel_rfl) (by kernel_rfl) (by simp)
          have f132 := hV 16 (by kernel_rfl) (by kernel_rfl)
          rw [Vp16] at f132; rw [f132] at e132; clear f132
          clear hV hN hO
          go_simp
          exact hK.out _ _ (by rw [Vp17, upd_at] <;> (congr 1 <;> omega)) (Below.refl _ _) hG
        case s18_q1 =>
          refine owe rfl fun a wx val hG hV hN hO K hK => ?_
          have e115 := hN 17 115 (by kernel_rfl) (by kernel_rfl) (by simp)
          have f115 := hV 17 (by kernel_rfl) (by kernel_rfl)
          rw [Vp17] at f115; rw [f115] at e115; clear f115
          clear hV hN hO
          go_simp
          exact hK.out _ _ (by rw [Vp18, upd_at] <;> (congr 1 <;> omega)) (Below.refl _ _) hG
        case s19_q1 =>
          refine owe rfl fun a wx val hG hV hN hO K hK => ?_
          have e115 := hN 17 115 (by kernel_rfl) (by kernel_rfl) (by simp)
          have f115 := hV 17 (by kernel_rfl) (by kernel_rfl)
          rw [Vp17] at f115; rw [f115] at e115; clear f115
          clear hV hN hO
          go_simp
          exact hK.out _ _ (by rw [Vp19, upd_at] <;> (congr 1 <;> omega)) (Below.refl _ _) hG
        case s20_q1 =>
          refine owe rfl fun a wx val hG hV hN hO K hK => ?_
          have e133 := hN 18 133 (by kernel_rfl) (by kernel_rfl) (by simp)
          have f133 := hV 18 (by kernel_rfl) (by kernel_rfl)
          rw [Vp18] at f133; rw [f133] at e133; clear f133
          clear hV hN hO
          go_simp
          exact hK.out _ _ (by rw [Vp20, upd_at] <;> (congr 1 <;> omega)) (Below.refl _ _) hG
        case s21_q1 =>
          refine owe rfl fun a wx val hG hV hN hO K hK => ?_
          have e134 := hN 19 134 (by kernel_rfl) (by kernel_rfl) (by simp)
          have f134 := hV 19 (by kernel_rfl) (by kernel_rfl)
          rw [Vp19] at f134; rw [f134] at e134; clear f134
          clear hV hN hO
          go_simp
          exact hK.out _ _ (by rw [Vp21, upd_at] <;> (congr 1 <;> omega)) (Below.refl _ _) hG
        intro val wx hG hV
        have f0 := hV 0 (by simp) (fun _ _ => by rfl)
        rw [Vp0] at f0
        have f1 := hV 1 (by simp) (fun _ _ => by rfl)
        rw [Vp1] at f1
        have f2 := hV 2 (by simp) (fun _ _ => by rfl)
        rw [Vp2] at f2
        have f3 := hV 3 (by simp) (fun _ _ => by rfl)
        rw [Vp3] at f3
        have f4 := hV 4 (by simp) (fun _ _ => by rfl)
        rw [Vp4] at f4
        have f5 := hV 5 (by simp) (fun _ _ => by rfl)
        rw [Vp5] at f5
        have f6 := hV 6 (by simp) (fun _ _ => by rfl)
        rw [Vp6] at f6
        have f7 := hV 7 (by simp) (fun _ _ => by rfl)
        rw [Vp7] at f7
        have f8 := hV 8 (by simp) (fun _ _ => by rfl)
        rw [Vp8] at f8
        have f9 := hV 9 (by simp) (fun _ _ => by rfl)
        rw [Vp9] at f9
        have f10 := hV 10 (by simp) (fun _ _ => by rfl)
        rw [Vp10] at f10
        have f11 := hV 11 (by simp) (fun _ _ => by rfl)
        rw [Vp11] at f11
        have f12 := hV 12 (by simp) (fun _ _ => by rfl)
        rw [Vp12] at f12
        have f13 := hV 13 (by simp) (fun _ _ => by rfl)
        rw [Vp13] at f13
        have f14 := hV 14 (by simp) (fun _ _ => by rfl)
        rw [Vp14] at f14
        have f15 := hV 15 (by simp) (fun _ _ => by rfl)
        rw [Vp15] at f15
        have f16 := hV 16 (by simp) (fun _ _ => by rfl)
        rw [Vp16] at f16
        have f17 := hV 17 (by simp) (fun _ _ => by rfl)
        rw [Vp17] at f17
        have f18 := hV 18 (by simp) (fun _ _ => by rfl)
        rw [Vp18] at f18
        have f19 := hV 19 (by simp) (fun _ _ => by rfl)
        rw [Vp19] at f19
        have f20 := hV 20 (by simp) (fun _ _ => by rfl)
        rw [Vp20] at f20
        have f21 := hV 21 (by simp) (fun _ _ => by rfl)
        rw [Vp21] at f21
        clear hV Vp0 Vp1 Vp2 Vp3 Vp4 Vp5 Vp6 Vp7 Vp8 Vp9 Vp10 Vp11 Vp12 Vp13 Vp14 Vp15 Vp16 Vp17 Vp18 Vp19 Vp20 Vp21
        simp only [putAll, Act.put, List.setIfInBounds_toArray, List.set_cons_zero, List.set_cons_succ]
        generalize val 0 = z0 at *; (subst f0)
        generalize val 1 = z1 at *; (subst f1)
        generalize val 2 = z2 at *; (subst f2)
        generalize val 3 = z3 at *; (subst f3)
        generalize val 4 = z4 at *; (subst f4)
        generalize val 5 = z5 at *; (subst f5)
        generalize val 6 = z6 at *; (subst f6)
        generalize val 7 = z7 at *; (subst f7)
        generalize val 8 = z8 at *; (subst f8)
        generalize val 9 = z9 at *; (subst f9)
        generalize val 10 = z10 at *; (subst f10)
        generalize val 11 = z11 at *; (subst f11)
        generalize val 12 = z12 at *; (subst f12)
        generalize val 13 = z13 at *; (subst f13)
        generalize val 14 = z14 at *; (subst f14)
        generalize val 15 = z15 at *; (subst f15)
        generalize val 16 = z16 at *; (subst f16)
        generalize val 17 = z17 at *; (subst f17)
        generalize val 18 = z18 at *; (subst f18)
        generalize val 19 = z19 at *; (subst f19)
        generalize val 20 = z20 at *; (subst f20)
        generalize val 21 = z21 at *; (subst f21)
        clear HVD
        have HB9 := Lib.hid (HB8.out.trans (hG.mono HB8.out.size))
        have HL9 := Lib.hid (HL8.out.on hG)
        clear hG HL8 HB8 HC8 PV CO
        obtain ⟨y0, y1⟩ := HL9.out.cells
        go_wp2_with fail
        (with_reducible refine (CN.out _).mono ?_); rintro e v12 ⟨rfl, b⟩
        have HB10 := Lib.hid (HB9.out.trans (b.mono HB9.out.size))
        clear b y0 y1
        go_wp2_with fail
        go_roundw
        case rel => exact ⟨k + 1, by omega, by go_num, HB10.out⟩
        case measure => simp [intOf]; omega
      · have hkI : ¬ (k : Int) < 4 := by omega
        go_wp2_with fail
        (with_reducible refine (CN1.out _).mono ?_); rintro e v12 ⟨rfl, b⟩
        have HB10 := Lib.hid (HB7.out.trans (b.mono HB7.out.size))
        obtain ⟨z0, z1⟩ := (HL7.out.on b).cells
        clear b y0 y1
        go_wp2_with fail
        (with_reducible refine (CN2.out _).mono ?_); rintro e v13 ⟨rfl, b⟩
        have HB11 := Lib.hid (HB10.out.trans (b.mono HB10.out.size))
        clear b z0 z1
        go_wp2_with fail
        go_ret
        exact ⟨rfl, HB.out.trans (HB11.out.mono HB.out.size)⟩
  · have hv := HCM.out.2.2 h
    have h2 : ¬ x < y := by omega
    clear HCM h2
    subst hv
    subst h
    go_enter Try.func4, Try.ntmps4
    go_wp2_with fail
    (refine (CAW.out _).mono ?_); rintro e v1 ⟨rfl, b⟩
    have HB := Lib.hid (HB0.out.trans (b.mono HB0.out.size))
    have HF := Lib.hid (HF0.out.on b)
    clear b
    go_wp2_with fail
    (refine (CL.out _).mono ?_); rintro e v2 ⟨rfl, b⟩
    have HL := Lib.hid (LtAt.new v2 la lg)
    have HC := Joins.below_alloc1 v2 (.cells #[.int .i64 la, .int .i64 lg] 23)
    replace HF := Lib.hid ((HF.out.on b).on HC)
    replace HB := Lib.hid ((HB.out.trans (b.mono HB.out.size)).trans (HC.mono (HB.out.trans (b.mono HB.out.size)).size))
    obtain ⟨y0, y1⟩ := HL.out.cells
    clear b HC
    go_wp2_with fail
    (with_reducible refine (P2.out _).mono ?_); rintro e v3 ⟨rfl, rfl⟩
    go_wp2_with fail
    (with_reducible refine (P3.out _).mono ?_); rintro e v3 ⟨rfl, rfl⟩
    go_wp2_with fail
    (with_reducible refine (CB.out _).mono ?_); rintro e v4 ⟨rfl, b⟩
    replace HB := Lib.hid (HB.out.trans (b.mono HB.out.size))
    replace HL := Lib.hid (HL.out.on b)
    replace HF := Lib.hid (HF.out.on b)
    clear y0 y1 b
    obtain ⟨y0, y1⟩ := HL.out.cells
    go_wp2_with fail
    (with_reducible refine (CD.out _).mono ?_); rintro e v5 ⟨rfl, b⟩
    replace HB := Lib.hid (HB.out.trans (b.mono HB.out.size))
    replace HL := Lib.hid (HL.out.on b)
    replace HF := Lib.hid (HF.out.on b)
    clear y0 y1 b
    obtain ⟨y0, y1⟩ := HL.out.cells
    go_wp2_with fail
    (with_reducible refine (P4.out _).mono ?_); rintro e v6 ⟨rfl, rfl⟩
    go_wp2_with fail
    (with_reducible refine (P5.out _).mono ?_); rintro e v6 ⟨rfl, rfl⟩
    go_wp2_with fail
    (with_reducible refine (CA.out _).mono ?_); rintro e v6 ⟨rfl, b⟩
    replace HB := Lib.hid (HB.out.trans (b.mono HB.out.size))
    replace HL := Lib.hid (HL.out.on b)
    replace HF := Lib.hid (HF.out.on b)
    clear y0 y1 b
    obtain ⟨y0, y1⟩ := HL.out.cells
    go_wp2_with fail
    (with_reducible refine (CC.out _).mono ?_); rintro e v7 ⟨rfl, b⟩
    replace HB := Lib.hid (HB.out.trans (b.mono HB.out.size))
    replace HL := Lib.hid (HL.out.on b)
    replace HF := Lib.hid (HF.out.on b)
    clear y0 y1 b
    obtain ⟨y0, y1⟩ := HL.out.cells
    obtain ⟨bl, hbl⟩ : ∃ b, v2.heap.size = b := ⟨_, rfl⟩
    rw [hbl] at HL y0 y1
    (try rw [hbl])
    go_wp2_with fail
    have HW0 := Lib.hid (Below.refl v7.heap.size v7)
    clear y0 y1 CAW CL P2 P3 P4 P5 CB CD CA CC HF0 HB0
    go_loopw [27] (fun i wr => ∃ k : Nat, k ≤ 4 ∧ i = .int .i64 k ∧ Below v7.heap.size v7 wr) (fun i _ => 4 - (intOf i).toNat)
    case atStart => exact ⟨0, by omega, rfl, HW0.out⟩
    case round =>
      obtain ⟨k, hk, rfl, hb⟩ := hrel
      have HL7 := Lib.hid (HL.out.on hb)
      have HF7 := Lib.hid (HF.out.on hb)
      have HB7 := Lib.hid hb
      obtain ⟨y0, y1⟩ := HL7.out.cells
      clear hb HW0
      by_cases hlt : k < 4
      · have hkI : (k : Int) < 4 := by omega
        obtain ⟨j, hj⟩ : ∃ j : Nat, j + k = 3 := ⟨3 - k, by omega⟩
        obtain ⟨u, hu⟩ : ∃ u, [d0, d1, d2, d3][k]? = some u := ⟨_, List.getElem?_eq_getElem (by simp; omega)⟩
        obtain ⟨v, hv⟩ : ∃ v, [d0, d1, d2, d3][j]? = some v := ⟨_, List.getElem?_eq_getElem (by simp; omega)⟩
        have cu := HF7.out k u hu
        have HCV := Lib.hid (fun W (hb : Below wr.heap.size wr W) => (HF7.out.on hb) j v hv)
        have PU := Lib.hid (HPK.out u (HW.out k u hu))
        have PV := Lib.hid (HPK.out v (HW.out j v hv))
        obtain ⟨p0, p1⟩ := HPR.out u
        obtain ⟨p2, p3⟩ := HPR.out v
        obtain ⟨K0, hK0⟩ : ∃ c, pickI u (2 * hf + 1) = c := ⟨_, rfl⟩
        obtain ⟨K1, hK1⟩ : ∃ c, pickI v (2 * hf + 1) = c := ⟨_, rfl⟩
        rw [hK0] at PU p0 p1
        rw [hK1] at PV p2 p3
        have CE := Lib.hid (HE.out (K0 - hf) ⟨by omega, by omega⟩)
        have CO := Lib.hid (HO.out (K0 - hf) (K1 - hf) ⟨by omega, by omega⟩ ⟨by omega, by omega⟩)
        have CN := Lib.hid (HN.out (K0 - hf) ⟨by omega, by omega⟩)
        have QJ : Hid ((0 : Int) ≤ j ∧ (j : Int) < 4 ∧ (3 : Int) - (k : Int) = (j : Int)) := Lib.hid (by omega)
        have QW : Hid (IntKind.i64.wrap (3 - (k : Int)) = (j : Int)) := Lib.hid (by rw [IntWalk.i64_in _ (by omega)]; omega)
        clear hK0 hK1 hu hv HPK HPR HE HO HN HW CN1 CN2 HF7 HF hj
        go_wp2_with fail
        (with_reducible refine (PU.out _).mono ?_); rintro e v10 ⟨rfl, rfl⟩
        go_wp2_with fail
        (with_reducible refine (CE.out _).mono ?_); rintro e v11 ⟨rfl, b⟩
        have HL8 := Lib.hid (HL7.out.on b)
        have HB8 := Lib.hid (HB7.out.trans (b.mono HB7.out.size))
        have HC8 : Hid (∀ W, Below v11.heap.size v11 W → W.cell? ⟨w.heap.size, j, none⟩ = some (.int .i64 v)) := Lib.hid (fun W hb => HCV.out W (b.trans (hb.mono b.size)))
        clear b y0 y1 cu
        go_upto_region 22 with fail
        generalize v11 = Y1 at *
        clear HL7 HB7 HCV PU CE
        have HV : ∃ Vp : Nat → (Nat → Value) → World → Prop, Vp = (fun ix u wv => match ix with
          | 0 => u 0 = .agg #[.int .i64 la, .int .i64 lg]
          | 1 => u 1 = .int .i64 (X + r1)
          | 2 => u 2 = .int .i64 (K0 - hf)
          | 3 => u 3 = .int .i64 (X + r1 + (K0 - hf))
          | 4 => u 4 = .int .i64 (Y + r2)
          | 5 => u 5 = .int .i64 (k : Int)
          | 6 => u 6 = .int .i64 (j : Int)
          | 7 => u 7 = .pointer (some ⟨w.heap.size, j, none⟩)
          | 8 => u 8 = .int .i64 v
          | 9 => u 9 = .int .i64 hf
          | 10 => u 10 = .int .i64 (2 * hf)
          | 11 => u 11 = .int .i64 (2 * hf + 1)
          | 12 => u 12 = .int .i64 K1
          | 13 => u 13 = .int .i64 (Y + r2 + K1)
          | 14 => u 14 = .int .i64 hf
          | 15 => u 15 = .int .i64 (Y + r2 + (K1 - hf))
          | 16 => u 16 = .tuple #[.int .i64 0, .int .i64 0]
          | 17 => u 17 = .tuple #[.int .i64 0, .int .i64 0]
          | 18 => u 18 = .int .i64 0
          | 19 => u 19 = .int .i64 0
          | 20 => u 20 = .int .i64 0
          | 21 => u 21 = .int .i64 0
          | _ => True) := ⟨_, rfl⟩
        obtain ⟨Vp, hVdef⟩ := HV
        have Vp0 : ∀ u wv, Vp 0 u wv = (u 0 = .agg #[.int .i64 la, .int .i64 lg]) := fun u wv => by subst hVdef; rfl
        have Vp1 : ∀ u wv, Vp 1 u wv = (u 1 = .int .i64 (X + r1)) := fun u wv => by subst hVdef; rfl
        have Vp2 : ∀ u wv, Vp 2 u wv = (u 2 = .int .i64 (K0 - hf)) := fun u wv => by subst hVdef; rfl
        have Vp3 : ∀ u wv, Vp 3 u wv = (u 3 = .int .i64 (X + r1 + (K0 - hf))) := fun u wv => by subst hVdef; rfl
        have Vp4 : ∀ u wv, Vp 4 u wv = (u 4 = .int .i64 (Y + r2)) := fun u wv => by subst hVdef; rfl
        have Vp5 : ∀ u wv, Vp 5 u wv = (u 5 = .int .i64 (k : Int)) := fun u wv => by subst hVdef; rfl
        have Vp6 : ∀ u wv, Vp 6 u wv = (u 6 = .int .i64 (j : Int)) := fun u wv => by subst hVdef; rfl
        have Vp7 : ∀ u wv, Vp 7 u wv = (u 7 = .pointer (some ⟨w.heap.size, j, none⟩)) := fun u wv => by subst hVdef; rfl
        have Vp8 : ∀ u wv, Vp 8 u wv = (u 8 = .int .i64 v) := fun u wv => by subst hVdef; rfl
        have Vp9 : ∀ u wv, Vp 9 u wv = (u 9 = .int .i64 hf) := fun u wv => by subst hVdef; rfl
        have Vp10 : ∀ u wv, Vp 10 u wv = (u 10 = .int .i64 (2 * hf)) := fun u wv => by subst hVdef; rfl
        have Vp11 : ∀ u wv, Vp 11 u wv = (u 11 = .int .i64 (2 * hf + 1)) := fun u wv => by subst hVdef; rfl
        have Vp12 : ∀ u wv, Vp 12 u wv = (u 12 = .int .i64 K1) := fun u wv => by subst hVdef; rfl
        have Vp13 : ∀ u wv, Vp 13 u wv = (u 13 = .int .i64 (Y + r2 + K1)) := fun u wv => by subst hVdef; rfl
        have Vp14 : ∀ u wv, Vp 14 u wv = (u 14 = .int .i64 hf) := fun u wv => by subst hVdef; rfl
        have Vp15 : ∀ u wv, Vp 15 u wv = (u 15 = .int .i64 (Y + r2 + (K1 - hf))) := fun u wv => by subst hVdef; rfl
        have Vp16 : ∀ u wv, Vp 16 u wv = (u 16 = .tuple #[.int .i64 0, .int .i64 0]) := fun u wv => by subst hVdef; rfl
        have Vp17 : ∀ u wv, Vp 17 u wv = (u 17 = .tuple #[.int .i64 0, .int .i64 0]) := fun u wv => by subst hVdef; rfl
        have Vp18 : ∀ u wv, Vp 18 u wv = (u 18 = .int .i64 0) := fun u wv => by subst hVdef; rfl
        have Vp19 : ∀ u wv, Vp 19 u wv = (u 19 = .int .i64 0) := fun u wv => by subst hVdef; rfl
        have Vp20 : ∀ u wv, Vp 20 u wv = (u 20 = .int .i64 0) := fun u wv => by subst hVdef; rfl
        have Vp21 : ∀ u wv, Vp 21 u wv = (u 21 = .int .i64 0) := fun u wv => by subst hVdef; rfl
        have HVD := Lib.hid hVdef
        clear hVdef
        refine region_each (V := Vp) (drop := fun _ _ => false) (G := fun wv => Below Y1.heap.size Y1 wv) (Rel := fun jx wv wv' => Below wv.heap.size wv wv') (by kernel_rfl) (by kernel_rfl) (Below.refl _ _).drew ?hmonoq2 ?hdepq2 ⟨?s0_q2, ?s1_q2, ?s2_q2, ?s3_q2, ?s4_q2, ?s5_q2, ?s6_q2, ?s7_q2, ?s8_q2, ?s9_q2, ?s10_q2, ?s11_q2, ?s12_q2, ?s13_q2, ?s14_q2, ?s15_q2, ?s16_q2, ?s17_q2, ?s18_q2, ?s19_q2, ?s20_q2, ?s21_q2, trivial⟩ ?behindq2
        case hmonoq2 =>
          intro ix jx u wv wv' hij hw hd hr
          rw [HVD.out]
          dsimp only
          split <;> intro h <;> first | exact trivial | exact h
        case hdepq2 =>
          intro ix u u' wv h1 h2
          rw [HVD.out]
          dsimp only
          split <;> intro h <;> first | exact trivial | (rw [← h1]; exact h)
        case s0_q2 =>
          refine owe rfl fun a wx val hG hV hN hO K hK => ?_
          have e16 : a.tmps[16]? = some (.pointer (some ⟨bl, 0, none⟩)) := (hO 16 (by kernel_rfl)).trans (by rfl)
          clear hV hN hO
          obtain ⟨y0, y1⟩ := (HL8.out.on hG).cells ; have y2 := HC8.out _ hG
          go_simp
          exact hK.out _ _ (by rw [Vp0, upd_at] <;> (congr 1 <;> omega)) (Below.refl _ _) hG
        case s1_q2 =>
          refine owe rfl fun a wx val hG hV hN hO K hK => ?_
          have e24 : a.tmps[24]? = some (.int .i64 (X + r1)) := (hO 24 (by kernel_rfl)).trans (by rfl)
          clear hV hN hO
          go_simp
          exact hK.out _ _ (by rw [Vp1, upd_at] <;> (congr 1 <;> omega)) (Below.refl _ _) hG
        case s2_q2 =>
          refine owe rfl fun a wx val hG hV hN hO K hK => ?_
          have e28 : a.tmps[28]? = some (.int .i64 (K0 - hf)) := (hO 28 (by kernel_rfl)).trans (by rfl)
          clear hV hN hO
          go_simp
          exact hK.out _ _ (by rw [Vp2, upd_at] <;> (congr 1 <;> omega)) (Below.refl _ _) hG
        case s3_q2 =>
          refine owe rfl fun a wx val hG hV hN hO K hK => ?_
          have e117 := hN 1 117 (by kernel_rfl) (by kernel_rfl) (by simp)
          have f117 := hV 1 (by kernel_rfl) (by kernel_rfl)
          rw [Vp1] at f117; rw [f117] at e117; clear f117
          have e118 := hN 2 118 (by kernel_rfl) (by kernel_rfl) (by simp)
          have f118 := hV 2 (by kernel_rfl) (by kernel_rfl)
          rw [Vp2] at f118; rw [f118] at e118; clear f118
          clear hV hN hO
          have q1 : IntKind.i64.wrap (X + r1 + (K0 - hf)) = X + r1 + (K0 - hf) := IntWalk.i64_in _ (by omega)
          go_simp
          exact hK.out _ _ (by rw [Vp3, upd_at] <;> (congr 1 <;> omega)) (Below.refl _ _) hG
        case s4_q2 =>
          refine owe rfl fun a wx val hG hV hN hO K hK => ?_
          have e25 : a.tmps[25]? = some (.int .i64 (Y + r2)) := (hO 25 (by kernel_rfl)).trans (by rfl)
          clear hV hN hO
          go_simp
          exact hK.out _ _ (by rw [Vp4, upd_at] <;> (congr 1 <;> omega)) (Below.refl _ _) hG
        case s5_q2 =>
          refine owe rfl fun a wx val hG hV hN hO K hK => ?_
          have e27 : a.tmps[27]? = some (.int .i64 (k : Int)) := (hO 27 (by kernel_rfl)).trans (by rfl)
          clear hV hN hO
          go_simp
          exact hK.out _ _ (by rw [Vp5, upd_at] <;> (congr 1 <;> omega)) (Below.refl _ _) hG
        case s6_q2 =>
          refine owe rfl fun a wx val hG hV hN hO K hK => ?_
          have e121 := hN 5 121 (by kernel_rfl) (by kernel_rfl) (by simp)
          have f121 := hV 5 (by kernel_rfl) (by kernel_rfl)
          rw [Vp5] at f121; rw [f121] at e121; clear f121
          clear hV hN hO
          have q1 := QW.out
          go_simp
          exact hK.out _ _ (by rw [Vp6, upd_at] <;> (congr 1 <;> omega)) (Below.refl _ _) hG
        case s7_q2 =>
          refine owe rfl fun a wx val hG hV hN hO K hK => ?_
          have e13 : a.tmps[13]? = some (.pointer (some ⟨w.heap.size, 0, none⟩)) := (hO 13 (by kernel_rfl)).trans (by rfl)
          have e122 := hN 6 122 (by kernel_rfl) (by kernel_rfl) (by simp)
          have f122 := hV 6 (by kernel_rfl) (by kernel_rfl)
          rw [Vp6] at f122; rw [f122] at e122; clear f122
          clear hV hN hO
          obtain ⟨q1, q2, q3⟩ := QJ.out
          go_simp
          exact hK.out _ _ (by rw [Vp7, upd_at] <;> (congr 1 <;> omega)) (Below.refl _ _) hG
        case s8_q2 =>
          refine owe rfl fun a wx val hG hV hN hO K hK => ?_
          have e123 := hN 7 123 (by kernel_rfl) (by kernel_rfl) (by simp)
          have f123 := hV 7 (by kernel_rfl) (by kernel_rfl)
          rw [Vp7] at f123; rw [f123] at e123; clear f123
          clear hV hN hO
          obtain ⟨y0, y1⟩ := (HL8.out.on hG).cells ; have y2 := HC8.out _ hG
          go_simp
          exact hK.out _ _ (by rw [Vp8, upd_at] <;> (congr 1 <;> omega)) (Below.refl _ _) hG
        case s9_q2 =>
          refine owe rfl fun a wx val hG hV hN hO K hK => ?_
          have e17 : a.tmps[17]? = some (.int .i64 hf) := (hO 17 (by kernel_rfl)).trans (by rfl)
          clear hV hN hO
          go_simp
          exact hK.out _ _ (by rw [Vp9, upd_at] <;> (congr 1 <;> omega)) (Below.refl _ _) hG
        case s10_q2 =>
          refine owe rfl fun a wx val hG hV hN hO K hK => ?_
          have e125 := hN 9 125 (by kernel_rfl) (by kernel_rfl) (by simp)
          have f125 := hV 9 (by kernel_rfl) (by kernel_rfl)
          rw [Vp9] at f125; rw [f125] at e125; clear f125
          clear hV hN hO
          have q1 : IntKind.i64.wrap (2 * hf) = 2 * hf := IntWalk.i64_in _ (by omega)
          go_simp
          exact hK.out _ _ (by rw [Vp10, upd_at] <;> (congr 1 <;> omega)) (Below.refl _ _) hG
        case s11_q2 =>
          refine owe rfl fun a wx val hG hV hN hO K hK => ?_
          have e126 := hN 10 126 (by kernel_rfl) (by kernel_rfl) (by simp)
          have f126 := hV 10 (by kernel_rfl) (by kernel_rfl)
          rw [Vp10] at f126; rw [f126] at e126; clear f126
          clear hV hN hO
          have q1 : IntKind.i64.wrap (2 * hf + 1) = 2 * hf + 1 := IntWalk.i64_in _ (by omega)
          go_simp
          exact hK.out _ _ (by rw [Vp11, upd_at] <;> (congr 1 <;> omega)) (Below.refl _ _) hG
        case s12_q2 =>
          refine owe rfl fun a wx val hG hV hN hO K hK => ?_
          have e124 := hN 8 124 (by kernel_rfl) (by kernel_rfl) (by simp)
          have f124 := hV 8 (by kernel_rfl) (by kernel_rfl)
          rw [Vp8] at f124; rw [f124] at e124; clear f124
          have e127 := hN 11 127 (by kernel_rfl) (by kernel_rfl) (by simp)
          have f127 := hV 11 (by kernel_rfl) (by kernel_rfl)
          rw [Vp11] at f127; rw [f127] at e127; clear f127
          clear hV hN hO
          go_simp
          refine (PV.out _).mono ?_
          rintro e w11 ⟨rfl, rfl⟩
          exact hK.out _ _ (by rw [Vp12, upd_at] <;> (congr 1 <;> omega)) (Below.refl _ _) hG
        case s13_q2 =>
          refine owe rfl fun a wx val hG hV hN hO K hK => ?_
          have e120 := hN 4 120 (by kernel_rfl) (by kernel_rfl) (by simp)
          have f120 := hV 4 (by kernel_rfl) (by kernel_rfl)
          rw [Vp4] at f120; rw [f120] at e120; clear f120
          have e128 := hN 12 128 (by kernel_rfl) (by kernel_rfl) (by simp)
          have f128 := hV 12 (by kernel_rfl) (by kernel_rfl)
          rw [Vp12] at f128; rw [f128] at e128; clear f128
          clear hV hN hO
          have q1 : IntKind.i64.wrap (Y + r2 + K1) = Y + r2 + K1 := IntWalk.i64_in _ (by omega)
          go_simp
          exact hK.out _ _ (by rw [Vp13, upd_at] <;> (congr 1 <;> omega)) (Below.refl _ _) hG
        case s14_q2 =>
          refine owe rfl fun a wx val hG hV hN hO K hK => ?_
          have e17 : a.tmps[17]? = some (.int .i64 hf) := (hO 17 (by kernel_rfl)).trans (by rfl)
          clear hV hN hO
          go_simp
          exact hK.out _ _ (by rw [Vp14, upd_at] <;> (congr 1 <;> omega)) (Below.refl _ _) hG
        case s15_q2 =>
          refine owe rfl fun a wx val hG hV hN hO K hK => ?_
          have e129 := hN 13 129 (by kernel_rfl) (by kernel_rfl) (by simp)
          have f129 := hV 13 (by kernel_rfl) (by kernel_rfl)
          rw [Vp13] at f129; rw [f129] at e129; clear f129
          have e130 := hN 14 130 (by kernel_rfl) (by kernel_rfl) (by simp)
          have f130 := hV 14 (by kernel_rfl) (by kernel_rfl)
          rw [Vp14] at f130; rw [f130] at e130; clear f130
          clear hV hN hO
          have q1 : IntKind.i64.wrap (Y + r2 + K1 - hf) = Y + r2 + (K1 - hf) := by rw [IntWalk.i64_in _ (by omega)]; omega
          go_simp
          exact hK.out _ _ (by rw [Vp15, upd_at] <;> (congr 1 <;> omega)) (Below.refl _ _) hG
        case s16_q2 =>
          refine owe rfl fun a wx val hG hV hN hO K hK => ?_
          have e116 := hN 0 116 (by kernel_rfl) (by kernel_rfl) (by simp)
          have f116 := hV 0 (by kernel_rfl) (by kernel_rfl)
          rw [Vp0] at f116; rw [f116] at e116; clear f116
          have e119 := hN 3 119 (by kernel_rfl) (by kernel_rfl) (by simp)
          have f119 := hV 3 (by kernel_rfl) (by kernel_rfl)
          rw [Vp3] at f119; rw [f119] at e119; clear f119
          have e131 := hN 15 131 (by kernel_rfl) (by kernel_rfl) (by simp)
          have f131 := hV 15 (by kernel_rfl) (by kernel_rfl)
          rw [Vp15] at f131; rw [f131] at e131; clear f131
          clear hV hN hO
          go_simp
          refine (CO.out _).mono ?_
          rintro e w11 ⟨rfl, hb⟩
          exact hK.out _ _ (by rw [Vp16, upd_at]) hb (hG.trans (hb.mono hG.size))
        case s17_q2 =>
          refine owe rfl fun a wx val hG hV hN hO K hK => ?_
          have e132 := hN 16 132 (by kernel_rfl) (by kernel_rfl) (by simp)
          have f132 := hV 16 (by kernel_rfl) (by kernel_rfl)
          rw [Vp16] at f132; rw [f132] at e132; clear f132
          clear hV hN hO
          go_simp
          exact hK.out _ _ (by rw [Vp17, upd_at] <;> (congr 1 <;> omega)) (Below.refl _ _) hG
        case s18_q2 =>
          refine owe rfl fun a wx val hG hV hN hO K hK => ?_
          have e115 := hN 17 115 (by kernel_rfl) (by kernel_rfl) (by simp)
          have f115 := hV 17 (by kernel_rfl) (by kernel_rfl)
          rw [Vp17] at f115; rw [f115] at e115; clear f115
          clear hV hN hO
          go_simp
          exact hK.out _ _ (by rw [Vp18, upd_at] <;> (congr 1 <;> omega)) (Below.refl _ _) hG
        case s19_q2 =>
          refine owe rfl fun a wx val hG hV hN hO K hK => ?_
          have e115 := hN 17 115 (by kernel_rfl) (by kernel_rfl) (by simp)
          have f115 := hV 17 (by kernel_rfl) (by kernel_rfl)
          rw [Vp17] at f115; rw [f115] at e115; clear f115
          clear hV hN hO
          go_simp
          exact hK.out _ _ (by rw [Vp19, upd_at] <;> (congr 1 <;> omega)) (Below.refl _ _) hG
        case s20_q2 =>
          refine owe rfl fun a wx val hG hV hN hO K hK => ?_
          have e133 := hN 18 133 (by kernel_rfl) (by kernel_rfl) (by simp)
          have f133 := hV 18 (by kernel_rfl) (by kernel_rfl)
          rw [Vp18] at f133; rw [f133] at e133; clear f133
          clear hV hN hO
          go_simp
          exact hK.out _ _ (by rw [Vp20, upd_at] <;> (congr 1 <;> omega)) (Below.refl _ _) hG
        case s21_q2 =>
          refine owe rfl fun a wx val hG hV hN hO K hK => ?_
          have e134 := hN 19 134 (by kernel_rfl) (by kernel_rfl) (by simp)
          have f134 := hV 19 (by kernel_rfl) (by kernel_rfl)
          rw [Vp19] at f134; rw [f134] at e134; clear f134
          clear hV hN hO
          go_simp
          exact hK.out _ _ (by rw [Vp21, upd_at] <;> (congr 1 <;> omega)) (Below.refl _ _) hG
        intro val wx hG hV
        have f0 := hV 0 (by simp) (fun _ _ => by rfl)
        rw [Vp0] at f0
        have f1 := hV 1 (by simp) (fun _ _ => by rfl)
        rw [Vp1] at f1
        have f2 := hV 2 (by simp) (fun _ _ => by rfl)
        rw [Vp2] at f2
        have f3 := hV 3 (by simp) (fun _ _ => by rfl)
        rw [Vp3] at f3
        have f4 := hV 4 (by simp) (fun _ _ => by rfl)
        rw [Vp4] at f4
        have f5 := hV 5 (by simp) (fun _ _ => by rfl)
        rw [Vp5] at f5
        have f6 := hV 6 (by simp) (fun _ _ => by rfl)
        rw [Vp6] at f6
        have f7 := hV 7 (by simp) (fun _ _ => by rfl)
        rw [Vp7] at f7
        have f8 := hV 8 (by simp) (fun _ _ => by rfl)
        rw [Vp8] at f8
        have f9 := hV 9 (by simp) (fun _ _ => by rfl)
        rw [Vp9] at f9
        have f10 := hV 10 (by simp) (fun _ _ => by rfl)
        rw [Vp10] at f10
        have f11 := hV 11 (by simp) (fun _ _ => by rfl)
        rw [Vp11] at f11
        have f12 := hV 12 (by simp) (fun _ _ => by rfl)
        rw [Vp12] at f12
        have f13 := hV 13 (by simp) (fun _ _ => by rfl)
        rw [Vp13] at f13
        have f14 := hV 14 (by simp) (fun _ _ => by rfl)
        rw [Vp14] at f14
        have f15 := hV 15 (by simp) (fun _ _ => by rfl)
        rw [Vp15] at f15
        have f16 := hV 16 (by simp) (fun _ _ => by rfl)
        rw [Vp16] at f16
        have f17 := hV 17 (by simp) (fun _ _ => by rfl)
        rw [Vp17] at f17
        have f18 := hV 18 (by simp) (fun _ _ => by rfl)
        rw [Vp18] at f18
        have f19 := hV 19 (by simp) (fun _ _ => by rfl)
        rw [Vp19] at f19
        have f20 := hV 20 (by simp) (fun _ _ => by rfl)
        rw [Vp20] at f20
        have f21 := hV 21 (by simp) (fun _ _ => by rfl)
        rw [Vp21] at f21
        clear hV Vp0 Vp1 Vp2 Vp3 Vp4 Vp5 Vp6 Vp7 Vp8 Vp9 Vp10 Vp11 Vp12 Vp13 Vp14 Vp15 Vp16 Vp17 Vp18 Vp19 Vp20 Vp21
        simp only [putAll, Act.put, List.setIfInBounds_toArray, List.set_cons_zero, List.set_cons_succ]
        generalize val 0 = z0 at *; (subst f0)
        generalize val 1 = z1 at *; (subst f1)
        generalize val 2 = z2 at *; (subst f2)
        generalize val 3 = z3 at *; (subst f3)
        generalize val 4 = z4 at *; (subst f4)
        generalize val 5 = z5 at *; (subst f5)
        generalize val 6 = z6 at *; (subst f6)
        generalize val 7 = z7 at *; (subst f7)
        generalize val 8 = z8 at *; (subst f8)
        generalize val 9 = z9 at *; (subst f9)
        generalize val 10 = z10 at *; (subst f10)
        generalize val 11 = z11 at *; (subst f11)
        generalize val 12 = z12 at *; (subst f12)
        generalize val 13 = z13 at *; (subst f13)
        generalize val 14 = z14 at *; (subst f14)
        generalize val 15 = z15 at *; (subst f15)
        generalize val 16 = z16 at *; (subst f16)
        generalize val 17 = z17 at *; (subst f17)
        generalize val 18 = z18 at *; (subst f18)
        generalize val 19 = z19 at *; (subst f19)
        generalize val 20 = z20 at *; (subst f20)
        generalize val 21 = z21 at *; (subst f21)
        clear HVD
        have HB9 := Lib.hid (HB8.out.trans (hG.mono HB8.out.size))
        have HL9 := Lib.hid (HL8.out.on hG)
        clear hG HL8 HB8 HC8 PV CO
        obtain ⟨y0, y1⟩ := HL9.out.cells
        go_wp2_with fail
        (with_reducible refine (CN.out _).mono ?_); rintro e v12 ⟨rfl, b⟩
        have HB10 := Lib.hid (HB9.out.trans (b.mono HB9.out.size))
        clear b y0 y1
        go_wp2_with fail
        go_roundw
        case rel => exact ⟨k + 1, by omega, by go_num, HB10.out⟩
        case measure => simp [intOf]; omega
      · have hkI : ¬ (k : Int) < 4 := by omega
        go_wp2_with fail
        (with_reducible refine (CN1.out _).mono ?_); rintro e v12 ⟨rfl, b⟩
        have HB10 := Lib.hid (HB7.out.trans (b.mono HB7.out.size))
        obtain ⟨z0, z1⟩ := (HL7.out.on b).cells
        clear b y0 y1
        go_wp2_with fail
        (with_reducible refine (CN2.out _).mono ?_); rintro e v13 ⟨rfl, b⟩
        have HB11 := Lib.hid (HB10.out.trans (b.mono HB10.out.size))
        clear b z0 z1
        go_wp2_with fail
        go_ret
        exact ⟨rfl, HB.out.trans (HB11.out.mono HB.out.size)⟩
  · have hv := HCM.out.2.1 h
    have h2 : ¬ x < y := by omega
    clear HCM
    subst hv
    go_enter Try.func4, Try.ntmps4
    go_wp2_with fail
    (refine (CAW.out _).mono ?_); rintro e v1 ⟨rfl, b⟩
    have HB := Lib.hid (HB0.out.trans (b.mono HB0.out.size))
    have HF := Lib.hid (HF0.out.on b)
    clear b
    go_wp2_with fail
    (refine (CL.out _).mono ?_); rintro e v2 ⟨rfl, b⟩
    have HL := Lib.hid (LtAt.new v2 la lg)
    have HC := Joins.below_alloc1 v2 (.cells #[.int .i64 la, .int .i64 lg] 23)
    replace HF := Lib.hid ((HF.out.on b).on HC)
    replace HB := Lib.hid ((HB.out.trans (b.mono HB.out.size)).trans (HC.mono (HB.out.trans (b.mono HB.out.size)).size))
    obtain ⟨y0, y1⟩ := HL.out.cells
    clear b HC
    go_wp2_with fail
    (with_reducible refine (P2.out _).mono ?_); rintro e v3 ⟨rfl, rfl⟩
    go_wp2_with fail
    (with_reducible refine (P3.out _).mono ?_); rintro e v3 ⟨rfl, rfl⟩
    go_wp2_with fail
    (with_reducible refine (CB.out _).mono ?_); rintro e v4 ⟨rfl, b⟩
    replace HB := Lib.hid (HB.out.trans (b.mono HB.out.size))
    replace HL := Lib.hid (HL.out.on b)
    replace HF := Lib.hid (HF.out.on b)
    clear y0 y1 b
    obtain ⟨y0, y1⟩ := HL.out.cells
    go_wp2_with fail
    (with_reducible refine (CD.out _).mono ?_); rintro e v5 ⟨rfl, b⟩
    replace HB := Lib.hid (HB.out.trans (b.mono HB.out.size))
    replace HL := Lib.hid (HL.out.on b)
    replace HF := Lib.hid (HF.out.on b)
    clear y0 y1 b
    obtain ⟨y0, y1⟩ := HL.out.cells
    go_wp2_with fail
    (with_reducible refine (P4.out _).mono ?_); rintro e v6 ⟨rfl, rfl⟩
    go_wp2_with fail
    (with_reducible refine (P5.out _).mono ?_); rintro e v6 ⟨rfl, rfl⟩
    go_wp2_with fail
    (with_reducible refine (CA.out _).mono ?_); rintro e v6 ⟨rfl, b⟩
    replace HB := Lib.hid (HB.out.trans (b.mono HB.out.size))
    replace HL := Lib.hid (HL.out.on b)
    replace HF := Lib.hid (HF.out.on b)
    clear y0 y1 b
    obtain ⟨y0, y1⟩ := HL.out.cells
    go_wp2_with fail
    (with_reducible refine (CC.out _).mono ?_); rintro e v7 ⟨rfl, b⟩
    replace HB := Lib.hid (HB.out.trans (b.mono HB.out.size))
    replace HL := Lib.hid (HL.out.on b)
    replace HF := Lib.hid (HF.out.on b)
    clear y0 y1 b
    obtain ⟨y0, y1⟩ := HL.out.cells
    obtain ⟨bl, hbl⟩ : ∃ b, v2.heap.size = b := ⟨_, rfl⟩
    rw [hbl] at HL y0 y1
    (try rw [hbl])
    go_wp2_with fail
    have HW0 := Lib.hid (Below.refl v7.heap.size v7)
    clear y0 y1 CAW CL P2 P3 P4 P5 CB CD CA CC HF0 HB0
    go_loopw [27] (fun i wr => ∃ k : Nat, k ≤ 4 ∧ i = .int .i64 k ∧ Below v7.heap.size v7 wr) (fun i _ => 4 - (intOf i).toNat)
    case atStart => exact ⟨0, by omega, rfl, HW0.out⟩
    case round =>
      obtain ⟨k, hk, rfl, hb⟩ := hrel
      have HL7 := Lib.hid (HL.out.on hb)
      have HF7 := Lib.hid (HF.out.on hb)
      have HB7 := Lib.hid hb
      obtain ⟨y0, y1⟩ := HL7.out.cells
      clear hb HW0
      by_cases hlt : k < 4
      · have hkI : (k : Int) < 4 := by omega
        obtain ⟨j, hj⟩ : ∃ j : Nat, j + k = 3 := ⟨3 - k, by omega⟩
        obtain ⟨u, hu⟩ : ∃ u, [d0, d1, d2, d3][k]? = some u := ⟨_, List.getElem?_eq_getElem (by simp; omega)⟩
        obtain ⟨v, hv⟩ : ∃ v, [d0, d1, d2, d3][j]? = some v := ⟨_, List.getElem?_eq_getElem (by simp; omega)⟩
        have cu := HF7.out k u hu
        have HCV := Lib.hid (fun W (hb : Below wr.heap.size wr W) => (HF7.out.on hb) j v hv)
        have PU := Lib.hid (HPK.out u (HW.out k u hu))
        have PV := Lib.hid (HPK.out v (HW.out j v hv))
        obtain ⟨p0, p1⟩ := HPR.out u
        obtain ⟨p2, p3⟩ := HPR.out v
        obtain ⟨K0, hK0⟩ : ∃ c, pickI u (2 * hf + 1) = c := ⟨_, rfl⟩
        obtain ⟨K1, hK1⟩ : ∃ c, pickI v (2 * hf + 1) = c := ⟨_, rfl⟩
        rw [hK0] at PU p0 p1
        rw [hK1] at PV p2 p3
        have CE := Lib.hid (HE.out (K0 - hf) ⟨by omega, by omega⟩)
        have CO := Lib.hid (HO.out (K0 - hf) (K1 - hf) ⟨by omega, by omega⟩ ⟨by omega, by omega⟩)
        have CN := Lib.hid (HN.out (K0 - hf) ⟨by omega, by omega⟩)
        have QJ : Hid ((0 : Int) ≤ j ∧ (j : Int) < 4 ∧ (3 : Int) - (k : Int) = (j : Int)) := Lib.hid (by omega)
        have QW : Hid (IntKind.i64.wrap (3 - (k : Int)) = (j : Int)) := Lib.hid (by rw [IntWalk.i64_in _ (by omega)]; omega)
        clear hK0 hK1 hu hv HPK HPR HE HO HN HW CN1 CN2 HF7 HF hj
        go_wp2_with fail
        (with_reducible refine (PU.out _).mono ?_); rintro e v10 ⟨rfl, rfl⟩
        go_wp2_with fail
        (with_reducible refine (CE.out _).mono ?_); rintro e v11 ⟨rfl, b⟩
        have HL8 := Lib.hid (HL7.out.on b)
        have HB8 := Lib.hid (HB7.out.trans (b.mono HB7.out.size))
        have HC8 : Hid (∀ W, Below v11.heap.size v11 W → W.cell? ⟨w.heap.size, j, none⟩ = some (.int .i64 v)) := Lib.hid (fun W hb => HCV.out W (b.trans (hb.mono b.size)))
        clear b y0 y1 cu
        go_upto_region 22 with fail
        generalize v11 = Y1 at *
        clear HL7 HB7 HCV PU CE
        have HV : ∃ Vp : Nat → (Nat → Value) → World → Prop, Vp = (fun ix u wv => match ix with
          | 0 => u 0 = .agg #[.int .i64 la, .int .i64 lg]
          | 1 => u 1 = .int .i64 (X + r1)
          | 2 => u 2 = .int .i64 (K0 - hf)
          | 3 => u 3 = .int .i64 (X + r1 + (K0 - hf))
          | 4 => u 4 = .int .i64 (Y + r2)
          | 5 => u 5 = .int .i64 (k : Int)
          | 6 => u 6 = .int .i64 (j : Int)
          | 7 => u 7 = .pointer (some ⟨w.heap.size, j, none⟩)
          | 8 => u 8 = .int .i64 v
          | 9 => u 9 = .int .i64 hf
          | 10 => u 10 = .int .i64 (2 * hf)
          | 11 => u 11 = .int .i64 (2 * hf + 1)
          | 12 => u 12 = .int .i64 K1
          | 13 => u 13 = .int .i64 (Y + r2 + K1)
          | 14 => u 14 = .int .i64 hf
          | 15 => u 15 = .int .i64 (Y + r2 + (K1 - hf))
          | 16 => u 16 = .tuple #[.int .i64 1, .int .i64 0]
          | 17 => u 17 = .tuple #[.int .i64 1, .int .i64 0]
          | 18 => u 18 = .int .i64 1
          | 19 => u 19 = .int .i64 0
          | 20 => u 20 = .int .i64 1
          | 21 => u 21 = .int .i64 0
          | _ => True) := ⟨_, rfl⟩
        obtain ⟨Vp, hVdef⟩ := HV
        have Vp0 : ∀ u wv, Vp 0 u wv = (u 0 = .agg #[.int .i64 la, .int .i64 lg]) := fun u wv => by subst hVdef; rfl
        have Vp1 : ∀ u wv, Vp 1 u wv = (u 1 = .int .i64 (X + r1)) := fun u wv => by subst hVdef; rfl
        have Vp2 : ∀ u wv, Vp 2 u wv = (u 2 = .int .i64 (K0 - hf)) := fun u wv => by subst hVdef; rfl
        have Vp3 : ∀ u wv, Vp 3 u wv = (u 3 = .int .i64 (X + r1 + (K0 - hf))) := fun u wv => by subst hVdef; rfl
        have Vp4 : ∀ u wv, Vp 4 u wv = (u 4 = .int .i64 (Y + r2)) := fun u wv => by subst hVdef; rfl
        have Vp5 : ∀ u wv, Vp 5 u wv = (u 5 = .int .i64 (k : Int)) := fun u wv => by subst hVdef; rfl
        have Vp6 : ∀ u wv, Vp 6 u wv = (u 6 = .int .i64 (j : Int)) := fun u wv => by subst hVdef; rfl
        have Vp7 : ∀ u wv, Vp 7 u wv = (u 7 = .pointer (some ⟨w.heap.size, j, none⟩)) := fun u wv => by subst hVdef; rfl
        have Vp8 : ∀ u wv, Vp 8 u wv = (u 8 = .int .i64 v) := fun u wv => by subst hVdef; rfl
        have Vp9 : ∀ u wv, Vp 9 u wv = (u 9 = .int .i64 hf) := fun u wv => by subst hVdef; rfl
        have Vp10 : ∀ u wv, Vp 10 u wv = (u 10 = .int .i64 (2 * hf)) := fun u wv => by subst hVdef; rfl
        have Vp11 : ∀ u wv, Vp 11 u wv = (u 11 = .int .i64 (2 * hf + 1)) := fun u wv => by subst hVdef; rfl
        have Vp12 : ∀ u wv, Vp 12 u wv = (u 12 = .int .i64 K1) := fun u wv => by subst hVdef; rfl
        have Vp13 : ∀ u wv, Vp 13 u wv = (u 13 = .int .i64 (Y + r2 + K1)) := fun u wv => by subst hVdef; rfl
        have Vp14 : ∀ u wv, Vp 14 u wv = (u 14 = .int .i64 hf) := fun u wv => by subst hVdef; rfl
        have Vp15 : ∀ u wv, Vp 15 u wv = (u 15 = .int .i64 (Y + r2 + (K1 - hf))) := fun u wv => by subst hVdef; rfl
        have Vp16 : ∀ u wv, Vp 16 u wv = (u 16 = .tuple #[.int .i64 1, .int .i64 0]) := fun u wv => by subst hVdef; rfl
        have Vp17 : ∀ u wv, Vp 17 u wv = (u 17 = .tuple #[.int .i64 1, .int .i64 0]) := fun u wv => by subst hVdef; rfl
        have Vp18 : ∀ u wv, Vp 18 u wv = (u 18 = .int .i64 1) := fun u wv => by subst hVdef; rfl
        have Vp19 : ∀ u wv, Vp 19 u wv = (u 19 = .int .i64 0) := fun u wv => by subst hVdef; rfl
        have Vp20 : ∀ u wv, Vp 20 u wv = (u 20 = .int .i64 1) := fun u wv => by subst hVdef; rfl
        have Vp21 : ∀ u wv, Vp 21 u wv = (u 21 = .int .i64 0) := fun u wv => by subst hVdef; rfl
        have HVD := Lib.hid hVdef
        clear hVdef
        refine region_each (V := Vp) (drop := fun _ _ => false) (G := fun wv => Below Y1.heap.size Y1 wv) (Rel := fun jx wv wv' => Below wv.heap.size wv wv') (by kernel_rfl) (by kernel_rfl) (Below.refl _ _).drew ?hmonoq3 ?hdepq3 ⟨?s0_q3, ?s1_q3, ?s2_q3, ?s3_q3, ?s4_q3, ?s5_q3, ?s6_q3, ?s7_q3, ?s8_q3, ?s9_q3, ?s10_q3, ?s11_q3, ?s12_q3, ?s13_q3, ?s14_q3, ?s15_q3, ?s16_q3, ?s17_q3, ?s18_q3, ?s19_q3, ?s20_q3, ?s21_q3, trivial⟩ ?behindq3
        case hmonoq3 =>
          intro ix jx u wv wv' hij hw hd hr
          rw [HVD.out]
          dsimp only
          split <;> intro h <;> first | exact trivial | exact h
        case hdepq3 =>
          intro ix u u' wv h1 h2
          rw [HVD.out]
          dsimp only
          split <;> intro h <;> first | exact trivial | (rw [← h1]; exact h)
        case s0_q3 =>
          refine owe rfl fun a wx val hG hV hN hO K hK => ?_
          have e16 : a.tmps[16]? = some (.pointer (some ⟨bl, 0, none⟩)) := (hO 16 (by kernel_rfl)).trans (by rfl)
          clear hV hN hO
          obtain ⟨y0, y1⟩ := (HL8.out.on hG).cells ; have y2 := HC8.out _ hG
          go_simp
          exact hK.out _ _ (by rw [Vp0, upd_at] <;> (congr 1 <;> omega)) (Below.refl _ _) hG
        case s1_q3 =>
          refine owe rfl fun a wx val hG hV hN hO K hK => ?_
          have e24 : a.tmps[24]? = some (.int .i64 (X + r1)) := (hO 24 (by kernel_rfl)).trans (by rfl)
          clear hV hN hO
          go_simp
          exact hK.out _ _ (by rw [Vp1, upd_at] <;> (congr 1 <;> omega)) (Below.refl _ _) hG
        case s2_q3 =>
          refine owe rfl fun a wx val hG hV hN hO K hK => ?_
          have e28 : a.tmps[28]? = some (.int .i64 (K0 - hf)) := (hO 28 (by kernel_rfl)).trans (by rfl)
          clear hV hN hO
          go_simp
          exact hK.out _ _ (by rw [Vp2, upd_at] <;> (congr 1 <;> omega)) (Below.refl _ _) hG
        case s3_q3 =>
          refine owe rfl fun a wx val hG hV hN hO K hK => ?_
          have e117 := hN 1 117 (by kernel_rfl) (by kernel_rfl) (by simp)
          have f117 := hV 1 (by kernel_rfl) (by kernel_rfl)
          rw [Vp1] at f117; rw [f117] at e117; clear f117
          have e118 := hN 2 118 (by kernel_rfl) (by kernel_rfl) (by simp)
          have f118 := hV 2 (by kernel_rfl) (by kernel_rfl)
          rw [Vp2] at f118; rw [f118] at e118; clear f118
          clear hV hN hO
          have q1 : IntKind.i64.wrap (X + r1 + (K0 - hf)) = X + r1 + (K0 - hf) := IntWalk.i64_in _ (by omega)
          go_simp
          exact hK.out _ _ (by rw [Vp3, upd_at] <;> (congr 1 <;> omega)) (Below.refl _ _) hG
        case s4_q3 =>
          refine owe rfl fun a wx val hG hV hN hO K hK => ?_
          have e25 : a.tmps[25]? = some (.int .i64 (Y + r2)) := (hO 25 (by kernel_rfl)).trans (by rfl)
          clear hV hN hO
          go_simp
          exact hK.out _ _ (by rw [Vp4, upd_at] <;> (congr 1 <;> omega)) (Below.refl _ _) hG
        case s5_q3 =>
          refine owe rfl fun a wx val hG hV hN hO K hK => ?_
          have e27 : a.tmps[27]? = some (.int .i64 (k : Int)) := (hO 27 (by kernel_rfl)).trans (by rfl)
          clear hV hN hO
          go_simp
          exact hK.out _ _ (by rw [Vp5, upd_at] <;> (congr 1 <;> omega)) (Below.refl _ _) hG
        case s6_q3 =>
          refine owe rfl fun a wx val hG hV hN hO K hK => ?_
          have e121 := hN 5 121 (by kernel_rfl) (by kernel_rfl) (by simp)
          have f121 := hV 5 (by kernel_rfl) (by kernel_rfl)
          rw [Vp5] at f121; rw [f121] at e121; clear f121
          clear hV hN hO
          have q1 := QW.out
          go_simp
          exact hK.out _ _ (by rw [Vp6, upd_at] <;> (congr 1 <;> omega)) (Below.refl _ _) hG
        case s7_q3 =>
          refine owe rfl fun a wx val hG hV hN hO K hK => ?_
          have e13 : a.tmps[13]? = some (.pointer (some ⟨w.heap.size, 0, none⟩)) := (hO 13 (by kernel_rfl)).trans (by rfl)
          have e122 := hN 6 122 (by kernel_rfl) (by kernel_rfl) (by simp)
          have f122 := hV 6 (by kernel_rfl) (by kernel_rfl)
          rw [Vp6] at f122; rw [f122] at e122; clear f122
          clear hV hN hO
          obtain ⟨q1, q2, q3⟩ := QJ.out
          go_simp
          exact hK.out _ _ (by rw [Vp7, upd_at] <;> (congr 1 <;> omega)) (Below.refl _ _) hG
        case s8_q3 =>
          refine owe rfl fun a wx val hG hV hN hO K hK => ?_
          have e123 := hN 7 123 (by kernel_rfl) (by kernel_rfl) (by simp)
          have f123 := hV 7 (by kernel_rfl) (by kernel_rfl)
          rw [Vp7] at f123; rw [f123] at e123; clear f123
          clear hV hN hO
          obtain ⟨y0, y1⟩ := (HL8.out.on hG).cells ; have y2 := HC8.out _ hG
          go_simp
          exact hK.out _ _ (by rw [Vp8, upd_at] <;> (congr 1 <;> omega)) (Below.refl _ _) hG
        case s9_q3 =>
          refine owe rfl fun a wx val hG hV hN hO K hK => ?_
          have e17 : a.tmps[17]? = some (.int .i64 hf) := (hO 17 (by kernel_rfl)).trans (by rfl)
          clear hV hN hO
          go_simp
          exact hK.out _ _ (by rw [Vp9, upd_at] <;> (congr 1 <;> omega)) (Below.refl _ _) hG
        case s10_q3 =>
          refine owe rfl fun a wx val hG hV hN hO K hK => ?_
          have e125 := hN 9 125 (by kernel_rfl) (by kernel_rfl) (by simp)
          have f125 := hV 9 (by kernel_rfl) (by kernel_rfl)
          rw [Vp9] at f125; rw [f125] at e125; clear f125
          clear hV hN hO
          have q1 : IntKind.i64.wrap (2 * hf) = 2 * hf := IntWalk.i64_in _ (by omega)
          go_simp
          exact hK.out _ _ (by rw [Vp10, upd_at] <;> (congr 1 <;> omega)) (Below.refl _ _) hG
        case s11_q3 =>
          refine owe rfl fun a wx val hG hV hN hO K hK => ?_
          have e126 := hN 10 126 (by kernel_rfl) (by kernel_rfl) (by simp)
          have f126 := hV 10 (by kernel_rfl) (by kernel_rfl)
          rw [Vp10] at f126; rw [f126] at e126; clear f126
          clear hV hN hO
          have q1 : IntKind.i64.wrap (2 * hf + 1) = 2 * hf + 1 := IntWalk.i64_in _ (by omega)
          go_simp
          exact hK.out _ _ (by rw [Vp11, upd_at] <;> (congr 1 <;> omega)) (Below.refl _ _) hG
        case s12_q3 =>
          refine owe rfl fun a wx val hG hV hN hO K hK => ?_
          have e124 := hN 8 124 (by kernel_rfl) (by kernel_rfl) (by simp)
          have f124 := hV 8 (by kernel_rfl) (by kernel_rfl)
          rw [Vp8] at f124; rw [f124] at e124; clear f124
          have e127 := hN 11 127 (by kernel_rfl) (by kernel_rfl) (by simp)
          have f127 := hV 11 (by kernel_rfl) (by kernel_rfl)
          rw [Vp11] at f127; rw [f127] at e127; clear f127
          clear hV hN hO
          go_simp
          refine (PV.out _).mono ?_
          rintro e w11 ⟨rfl, rfl⟩
          exact hK.out _ _ (by rw [Vp12, upd_at] <;> (congr 1 <;> omega)) (Below.refl _ _) hG
        case s13_q3 =>
          refine owe rfl fun a wx val hG hV hN hO K hK => ?_
          have e120 := hN 4 120 (by kernel_rfl) (by kernel_rfl) (by simp)
          have f120 := hV 4 (by kernel_rfl) (by kernel_rfl)
          rw [Vp4] at f120; rw [f120] at e120; clear f120
          have e128 := hN 12 128 (by kernel_rfl) (by kernel_rfl) (by simp)
          have f128 := hV 12 (by kernel_rfl) (by kernel_rfl)
          rw [Vp12] at f128; rw [f128] at e128; clear f128
          clear hV hN hO
          have q1 : IntKind.i64.wrap (Y + r2 + K1) = Y + r2 + K1 := IntWalk.i64_in _ (by omega)
          go_simp
          exact hK.out _ _ (by rw [Vp13, upd_at] <;> (congr 1 <;> omega)) (Below.refl _ _) hG
        case s14_q3 =>
          refine owe rfl fun a wx val hG hV hN hO K hK => ?_
          have e17 : a.tmps[17]? = some (.int .i64 hf) := (hO 17 (by kernel_rfl)).trans (by rfl)
          clear hV hN hO
          go_simp
          exact hK.out _ _ (by rw [Vp14, upd_at] <;> (congr 1 <;> omega)) (Below.refl _ _) hG
        case s15_q3 =>
          refine owe rfl fun a wx val hG hV hN hO K hK => ?_
          have e129 := hN 13 129 (by kernel_rfl) (by kernel_rfl) (by simp)
          have f129 := hV 13 (by kernel_rfl) (by kernel_rfl)
          rw [Vp13] at f129; rw [f129] at e129; clear f129
          have e130 := hN 14 130 (by kernel_rfl) (by kernel_rfl) (by simp)
          have f130 := hV 14 (by kernel_rfl) (by kernel_rfl)
          rw [Vp14] at f130; rw [f130] at e130; clear f130
          clear hV hN hO
          have q1 : IntKind.i64.wrap (Y + r2 + K1 - hf) = Y + r2 + (K1 - hf) := by rw [IntWalk.i64_in _ (by omega)]; omega
          go_simp
          exact hK.out _ _ (by rw [Vp15, upd_at] <;> (congr 1 <;> omega)) (Below.refl _ _) hG
        case s16_q3 =>
          refine owe rfl fun a wx val hG hV hN hO K hK => ?_
          have e116 := hN 0 116 (by kernel_rfl) (by kernel_rfl) (by simp)
          have f116 := hV 0 (by kernel_rfl) (by kernel_rfl)
          rw [Vp0] at f116; rw [f116] at e116; clear f116
          have e119 := hN 3 119 (by kernel_rfl) (by kernel_rfl) (by simp)
          have f119 := hV 3 (by kernel_rfl) (by kernel_rfl)
          rw [Vp3] at f119; rw [f119] at e119; clear f119
          have e131 := hN 15 131 (by kernel_rfl) (by kernel_rfl) (by simp)
          have f131 := hV 15 (by kernel_rfl) (by kernel_rfl)
          rw [Vp15] at f131; rw [f131] at e131; clear f131
          clear hV hN hO
          go_simp
          refine (CO.out _).mono ?_
          rintro e w11 ⟨rfl, hb⟩
          exact hK.out _ _ (by rw [Vp16, upd_at]) hb (hG.trans (hb.mono hG.size))
        case s17_q3 =>
          refine owe rfl fun a wx val hG hV hN hO K hK => ?_
          have e132 := hN 16 132 (by kernel_rfl) (by kernel_rfl) (by simp)
          have f132 := hV 16 (by kernel_rfl) (by kernel_rfl)
          rw [Vp16] at f132; rw [f132] at e132; clear f132
          clear hV hN hO
          go_simp
          exact hK.out _ _ (by rw [Vp17, upd_at] <;> (congr 1 <;> omega)) (Below.refl _ _) hG
        case s18_q3 =>
          refine owe rfl fun a wx val hG hV hN hO K hK => ?_
          have e115 := hN 17 115 (by kernel_rfl) (by kernel_rfl) (by simp)
          have f115 := hV 17 (by kernel_rfl) (by kernel_rfl)
          rw [Vp17] at f115; rw [f115] at e115; clear f115
          clear hV hN hO
          go_simp
          exact hK.out _ _ (by rw [Vp18, upd_at] <;> (congr 1 <;> omega)) (Below.refl _ _) hG
        case s19_q3 =>
          refine owe rfl fun a wx val hG hV hN hO K hK => ?_
          have e115 := hN 17 115 (by kernel_rfl) (by kernel_rfl) (by simp)
          have f115 := hV 17 (by kernel_rfl) (by kernel_rfl)
          rw [Vp17] at f115; rw [f115] at e115; clear f115
          clear hV hN hO
          go_simp
          exact hK.out _ _ (by rw [Vp19, upd_at] <;> (congr 1 <;> omega)) (Below.refl _ _) hG
        case s20_q3 =>
          refine owe rfl fun a wx val hG hV hN hO K hK => ?_
          have e133 := hN 18 133 (by kernel_rfl) (by kernel_rfl) (by simp)
          have f133 := hV 18 (by kernel_rfl) (by kernel_rfl)
          rw [Vp18] at f133; rw [f133] at e133; clear f133
          clear hV hN hO
          go_simp
          exact hK.out _ _ (by rw [Vp20, upd_at] <;> (congr 1 <;> omega)) (Below.refl _ _) hG
        case s21_q3 =>
          refine owe rfl fun a wx val hG hV hN hO K hK => ?_
          have e134 := hN 19 134 (by kernel_rfl) (by kernel_rfl) (by simp)
          have f134 := hV 19 (by kernel_rfl) (by kernel_rfl)
          rw [Vp19] at f134; rw [f134] at e134; clear f134
          clear hV hN hO
          go_simp
          exact hK.out _ _ (by rw [Vp21, upd_at] <;> (congr 1 <;> omega)) (Below.refl _ _) hG
        intro val wx hG hV
        have f0 := hV 0 (by simp) (fun _ _ => by rfl)
        rw [Vp0] at f0
        have f1 := hV 1 (by simp) (fun _ _ => by rfl)
        rw [Vp1] at f1
        have f2 := hV 2 (by simp) (fun _ _ => by rfl)
        rw [Vp2] at f2
        have f3 := hV 3 (by simp) (fun _ _ => by rfl)
        rw [Vp3] at f3
        have f4 := hV 4 (by simp) (fun _ _ => by rfl)
        rw [Vp4] at f4
        have f5 := hV 5 (by simp) (fun _ _ => by rfl)
        rw [Vp5] at f5
        have f6 := hV 6 (by simp) (fun _ _ => by rfl)
        rw [Vp6] at f6
        have f7 := hV 7 (by simp) (fun _ _ => by rfl)
        rw [Vp7] at f7
        have f8 := hV 8 (by simp) (fun _ _ => by rfl)
        rw [Vp8] at f8
        have f9 := hV 9 (by simp) (fun _ _ => by rfl)
        rw [Vp9] at f9
        have f10 := hV 10 (by simp) (fun _ _ => by rfl)
        rw [Vp10] at f10
        have f11 := hV 11 (by simp) (fun _ _ => by rfl)
        rw [Vp11] at f11
        have f12 := hV 12 (by simp) (fun _ _ => by rfl)
        rw [Vp12] at f12
        have f13 := hV 13 (by simp) (fun _ _ => by rfl)
        rw [Vp13] at f13
        have f14 := hV 14 (by simp) (fun _ _ => by rfl)
        rw [Vp14] at f14
        have f15 := hV 15 (by simp) (fun _ _ => by rfl)
        rw [Vp15] at f15
        have f16 := hV 16 (by simp) (fun _ _ => by rfl)
        rw [Vp16] at f16
        have f17 := hV 17 (by simp) (fun _ _ => by rfl)
        rw [Vp17] at f17
        have f18 := hV 18 (by simp) (fun _ _ => by rfl)
        rw [Vp18] at f18
        have f19 := hV 19 (by simp) (fun _ _ => by rfl)
        rw [Vp19] at f19
        have f20 := hV 20 (by simp) (fun _ _ => by rfl)
        rw [Vp20] at f20
        have f21 := hV 21 (by simp) (fun _ _ => by rfl)
        rw [Vp21] at f21
        clear hV Vp0 Vp1 Vp2 Vp3 Vp4 Vp5 Vp6 Vp7 Vp8 Vp9 Vp10 Vp11 Vp12 Vp13 Vp14 Vp15 Vp16 Vp17 Vp18 Vp19 Vp20 Vp21
        simp only [putAll, Act.put, List.setIfInBounds_toArray, List.set_cons_zero, List.set_cons_succ]
        generalize val 0 = z0 at *; (subst f0)
        generalize val 1 = z1 at *; (subst f1)
        generalize val 2 = z2 at *; (subst f2)
        generalize val 3 = z3 at *; (subst f3)
        generalize val 4 = z4 at *; (subst f4)
        generalize val 5 = z5 at *; (subst f5)
        generalize val 6 = z6 at *; (subst f6)
        generalize val 7 = z7 at *; (subst f7)
        generalize val 8 = z8 at *; (subst f8)
        generalize val 9 = z9 at *; (subst f9)
        generalize val 10 = z10 at *; (subst f10)
        generalize val 11 = z11 at *; (subst f11)
        generalize val 12 = z12 at *; (subst f12)
        generalize val 13 = z13 at *; (subst f13)
        generalize val 14 = z14 at *; (subst f14)
        generalize val 15 = z15 at *; (subst f15)
        generalize val 16 = z16 at *; (subst f16)
        generalize val 17 = z17 at *; (subst f17)
        generalize val 18 = z18 at *; (subst f18)
        generalize val 19 = z19 at *; (subst f19)
        generalize val 20 = z20 at *; (subst f20)
        generalize val 21 = z21 at *; (subst f21)
        clear HVD
        have HB9 := Lib.hid (HB8.out.trans (hG.mono HB8.out.size))
        have HL9 := Lib.hid (HL8.out.on hG)
        clear hG HL8 HB8 HC8 PV CO
        obtain ⟨y0, y1⟩ := HL9.out.cells
        go_wp2_with fail
        (with_reducible refine (CN.out _).mono ?_); rintro e v12 ⟨rfl, b⟩
        have HB10 := Lib.hid (HB9.out.trans (b.mono HB9.out.size))
        clear b y0 y1
        go_wp2_with fail
        go_roundw
        case rel => exact ⟨k + 1, by omega, by go_num, HB10.out⟩
        case measure => simp [intOf]; omega
      · have hkI : ¬ (k : Int) < 4 := by omega
        go_wp2_with fail
        (with_reducible refine (CN1.out _).mono ?_); rintro e v12 ⟨rfl, b⟩
        have HB10 := Lib.hid (HB7.out.trans (b.mono HB7.out.size))
        obtain ⟨z0, z1⟩ := (HL7.out.on b).cells
        clear b y0 y1
        go_wp2_with fail
        (with_reducible refine (CN2.out _).mono ?_); rintro e v13 ⟨rfl, b⟩
        have HB11 := Lib.hid (HB10.out.trans (b.mono HB10.out.size))
        clear b z0 z1
        go_wp2_with fail
        go_ret
        exact ⟨rfl, HB.out.trans (HB11.out.mono HB.out.size)⟩

end Go.Proofs.Ytlgbgkiajhcneaa

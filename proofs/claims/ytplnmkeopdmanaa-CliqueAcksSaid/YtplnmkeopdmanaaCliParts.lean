/-
  The law CliqueParts.
-/
import Derived.Test.YtplnmkeopdmanaaCliCounts
namespace Go.Proofs.Ytplnmkeopdmanaa
open Go.RowKit

/-! ## Counting -/
def cntP (p : Nat → Bool) : Nat → Nat
  | 0 => 0
  | k + 1 => cntP p k + (p k).toNat
theorem cnt_le (p : Nat → Bool) (k : Nat) : cntP p k ≤ k := by
  induction k with
  | zero => exact Nat.le_refl _
  | succ k ih => have := Bool.toNat_le (p k); show cntP p k + _ ≤ _; omega
def tB (v : Int) (j : Nat) : Bool := hasB v j
def pG (v : Int) (i j : Nat) : Bool := !decide (j = i) && (tB v j == tB v i)
def pB (v : Int) (i j : Nat) : Bool := !(tB v j == tB v i)
def pS (v : Int) (i j : Nat) : Bool := tB v j == tB v i
theorem cnt_good (v : Int) (i k : Nat) : cntP (pG v i) k + (decide (i < k)).toNat = cntP (pS v i) k := by
  induction k with
  | zero => rfl
  | succ k ih =>
    show cntP (pG v i) k + (pG v i k).toNat + _ = cntP (pS v i) k + (pS v i k).toNat
    have hg : pG v i k = (!decide (k = i) && (tB v k == tB v i)) := rfl
    have hs : pS v i k = (tB v k == tB v i) := rfl
    rw [hg, hs]
    by_cases e : k = i
    · subst e
      have h1 : decide (k < k) = false := by simp
      have h2 : decide (k < k + 1) = true := by simp
      rw [h1] at ih
      rw [h2]
      have h3 : (tB v k == tB v k) = true := by simp
      have h4 : decide (k = k) = true := by simp
      rw [h3, h4]
      simp at ih ⊢
      omega
    · have h1 : decide (i < k + 1) = decide (i < k) := by rw [decide_eq_decide]; omega
      have h2 : decide (k = i) = false := by simpa using e
      rw [h1, ← ih, h2, Bool.not_false, Bool.true_and]
      omega
theorem cnt_bad (v : Int) (i k : Nat) : cntP (pB v i) k + cntP (pS v i) k = k := by
  induction k with
  | zero => rfl
  | succ k ih =>
    show cntP (pB v i) k + (pB v i k).toNat + (cntP (pS v i) k + (pS v i k).toNat) = _
    have hg : pB v i k = !(tB v k == tB v i) := rfl
    have hs : pS v i k = (tB v k == tB v i) := rfl
    rw [hg, hs]
    cases tB v k == tB v i <;> simp <;> omega
theorem cnt_same (v : Int) (i k : Nat) (hk : k ≤ 16) : (cntP (pS v i) k : Int) = if tB v i then (cb (md v) k : Int) else (k : Int) - cb (md v) k := by
  induction k with
  | zero => simp [cntP, cb]
  | succ k ih =>
    show ((cntP (pS v i) k + (pS v i k).toNat : Nat) : Int) = if tB v i then ((cb (md v) k + ((md v).testBit k).toNat : Nat) : Int) else ((k + 1 : Nat) : Int) - ((cb (md v) k + ((md v).testBit k).toNat : Nat) : Int)
    have ih := ih (by omega)
    have e : (md v).testBit k = tB v k := (hasB_nat v k (by omega)).symm
    rw [e]
    have hs : pS v i k = (tB v k == tB v i) := rfl
    rw [hs]
    cases h1 : tB v i <;> cases h2 : tB v k <;> rw [h1] at ih <;> simp at ih ⊢ <;> omega
def mineI (v : Int) (N i : Nat) : Int := if tB v i then countI v else (N : Int) - countI v
theorem parts_all (v : Int) (N i : Nat) (hN : N ≤ 16) (hi : i < N) (hv : ∀ j, j < 16 → N ≤ j → (md v).testBit j = false) :
    (cntP (pG v i) N : Int) = mineI v N i - 1 ∧ (cntP (pB v i) N : Int) = N - mineI v N i ∧ 1 ≤ mineI v N i ∧ mineI v N i ≤ N := by
  have h1 := cnt_good v i N
  have h2 := cnt_bad v i N
  have h3 := cnt_same v i N hN
  have e : cb (md v) 16 = cb (md v) N := cb_cut (md v) N 16 hN (md v) fun j hj => by
    by_cases h : j < N
    · simp [h]
    · rw [hv j hj (by omega)]; simp
  have h4 : (cntP (pS v i) N : Int) = mineI v N i := by
    rw [h3]; unfold mineI countI; rw [e]
  have h5 : decide (i < N) = true := by simpa using hi
  rw [h5] at h1
  simp at h1
  refine ⟨?_, ?_, ?_, ?_⟩ <;> omega
theorem with_other (h : Int) (i k : Nat) (hi : i < 16) (hne : k ≠ i) : hasB (withI h k) i = hasB h i := by
  rw [hasB_nat _ i hi, hasB_nat _ i hi, md_with _ _ i hi]
  have : decide (i = ((k : Int)).toNat) = false := by simp; omega
  rw [this]; simp
theorem below_and (p : Int) (N : Nat) : ∃ v : Int, bits .and .i64 p (allI N) = v ∧ ∀ j, j < 16 → N ≤ j → (md v).testBit j = false := by
  refine ⟨_, rfl, fun j hj hN => ?_⟩
  show (md (bits .and .i64 p ((allN N : Nat) : Int))).testBit j = false
  rw [and_low p _ (allN_lt N), md_nat _ (and_lt _ _ (allN_lt N)), Nat.testBit_and]
  have := md_all (N : Int) j hj
  unfold allI at this
  rw [md_nat _ (allN_lt N)] at this
  rw [this]
  have e : decide ((j : Int) < N) = false := by simp; exact hN
  rw [e]; simp

set_option maxRecDepth 100000 in
set_option maxHeartbeats 4000000 in
theorem cliqueParts_walk (a0 a1 : Int) (w0 : (Lit.int .i64 a0).wf = true) (w1 : (Lit.int .i64 a1).wf = true) (w : World) :
    Calls Try.prog 3 #[.int .i64 a0, .int .i64 a1] w fun e w' => e = .returned (.bool true) ∧ Below w.heap.size w w' := by
  have AW := Lib.hid (fun W => awake_any W)
  have p1 := Lib.hid (fun W => pick_any a1 15 w1 (by omega) W)
  obtain ⟨q0, q1⟩ := pickI_range a1 15 (by omega)
  generalize pickI a1 15 = q at *
  obtain ⟨N, hN⟩ : ∃ N : Nat, 2 + q = (N : Int) := ⟨(2 + q).toNat, by omega⟩
  have n2 : 2 ≤ N := by omega
  have n16 : N ≤ 16 := by omega
  have g1 : IntKind.i64.wrap (2 + q) = (N : Int) := by rw [← hN]; exact IntWalk.i64_in _ (by omega)
  have p2 := Lib.hid (fun W => pick_any a0 65536 w0 (by omega) W)
  generalize pickI a0 65536 = P at *
  obtain ⟨v, hv, hbits⟩ := below_and P N
  have HBI := Lib.hid hbits
  have cA := Lib.hid (fun W => refAll_any (N : Int) W)
  have cC := Lib.hid (fun W => refCount_any v W)
  generalize allI (N : Int) = AL at *
  clear w0 w1 q0 q1 hN hbits
  go_enter Try.func3, Try.ntmps3
  go_wp2_with fail
  (with_reducible refine (AW.out _).mono ?_); rintro e v1 ⟨rfl, hb⟩
  have HB := Lib.hid hb; clear hb
  go_wp2_with fail
  (with_reducible refine (p1.out _).mono ?_); rintro e u1 ⟨rfl, rfl⟩
  go_wp2_with fail
  (with_reducible refine (p2.out _).mono ?_); rintro e u1 ⟨rfl, rfl⟩
  go_wp2_with fail
  (with_reducible refine (cA.out _).mono ?_); rintro e u2 ⟨rfl, hb⟩
  replace HB := Lib.hid (HB.out.trans (hb.mono HB.out.size)); clear hb
  go_wp2_with fail
  (with_reducible refine (cC.out _).mono ?_); rintro e u3 ⟨rfl, hb⟩
  replace HB := Lib.hid (HB.out.trans (hb.mono HB.out.size)); clear hb
  have HCI : Hid (0 ≤ countI v ∧ countI v ≤ 16) := Lib.hid (by unfold countI; have := cb_le (md v) 16; omega)
  go_wp2_with fail
  clear cA cC p1 p2 AW hv
  go_loopw [9] (fun s9 wr => ∃ i : Nat, i ≤ N ∧ s9 = .int .i64 i ∧ Below w.heap.size w wr) (fun s9 _ => N - (intOf s9).toNat)
  case atStart => exact ⟨0, by omega, rfl, HB.out⟩
  case round =>
    obtain ⟨i, hi, rfl, hb⟩ := hrel
    clear HB
    have HB := Lib.hid hb; clear hb
    by_cases hlt : i < N
    · have i1 : (i : Int) < (N : Int) := by omega
      have HEi := Lib.hid (ErAt.new wr ⟨0, 0, 0⟩)
      have HW9 : Hid (w.heap.size ≤ wr.heap.size) := Lib.hid HB.out.size
      replace HB := Lib.hid (HB.out.trans ((Joins.below_alloc1 wr (.cells #[.int .i64 0, .int .i64 0, .int .i64 0] 26)).mono HB.out.size))
      have kH := Lib.hid (fun x W => refHas_any v x W)
      go_wp2_with fail
      generalize wr.alloc (.cells #[.int .i64 0, .int .i64 0, .int .i64 0] 26) = V at *
      generalize wr.heap.size = E at *
      go_loopw [11] (fun s11 wq => ∃ (k : Nat) (h : Int), k ≤ N ∧ s11 = .int .i64 k ∧ hasB h i = false ∧ ErAt wq E ⟨h, cntP (pG v i) k, cntP (pB v i) k⟩ ∧ Below w.heap.size w wq) (fun s11 _ => N - (intOf s11).toNat)
      case atStart => exact ⟨0, 0, by omega, rfl, by unfold hasB; rw [show md 0 = 0 from rfl, Nat.zero_testBit]; simp, HEi.out, HB.out⟩
      case round =>
        obtain ⟨k, h, hk, rfl, hh, he, hb⟩ := hrel
        clear HB HEi
        have HB := Lib.hid hb; clear hb
        have HE := Lib.hid he; clear he
        have HH := Lib.hid hh; clear hh
        by_cases hlt2 : k < N
        · have j1 : (k : Int) < (N : Int) := by omega
          have hnk : nodeB (k : Int) = true := nodeB_nat k (by omega)
          have hgl := cnt_le (pG v i) k
          have hbl := cnt_le (pB v i) k
          have SG : Hid (cntP (pG v i) (k + 1) = cntP (pG v i) k + (!decide (k = i) && (hasB v k == hasB v i)).toNat) := Lib.hid rfl
          have SB : Hid (cntP (pB v i) (k + 1) = cntP (pB v i) k + (!(hasB v k == hasB v i)).toNat) := Lib.hid rfl
          have kI := kH.out i
          have kK := kH.out k
          have WO := Lib.hid (with_other h i k (by omega))
          generalize cntP (pG v i) k = G at *
          generalize cntP (pB v i) k = Bd at *
          have mG := moreI_small (G : Int) (by omega) (by omega)
          have mB := moreI_small (Bd : Int) (by omega) (by omega)
          have cH := fun how W => hear_any ⟨h, G, Bd⟩ k how W
          generalize hti : hasB v i = ti at *
          generalize htk : hasB v k = tk at *
          clear kH
          by_cases hki : k = i
          · have hkt : tk = ti := by rw [← htk, ← hti, hki]
            have hz : ((k : Int) != (i : Int)) = false := by simp; omega
            subst hkt
            have HKI := Lib.hid hki; clear hki
            cases tk
            ·
              clear cH mG mB hti htk
              have KI := Lib.hid kI; have KK := Lib.hid kK; clear kI kK
              go_wp2_with fail
              (with_reducible refine (KI.out _).mono ?_); rintro e x1 ⟨rfl, rfl⟩
              go_wp2_with fail
              (with_reducible refine (KK.out _).mono ?_); rintro e x1 ⟨rfl, rfl⟩
              go_wp2_with fail
              go_roundw
              case rel => exact ⟨k + 1, h, by omega, by go_num, HH.out, by rw [SG.out, SB.out]; simpa [HKI.out] using HE.out, HB.out⟩
              case measure => simp [intOf]; omega
            ·
              clear cH mG mB hti htk
              have KI := Lib.hid kI; have KK := Lib.hid kK; clear kI kK
              go_wp2_with fail
              (with_reducible refine (KI.out _).mono ?_); rintro e x1 ⟨rfl, rfl⟩
              go_wp2_with fail
              (with_reducible refine (KK.out _).mono ?_); rintro e x1 ⟨rfl, rfl⟩
              go_wp2_with fail
              go_roundw
              case rel => exact ⟨k + 1, h, by omega, by go_num, HH.out, by rw [SG.out, SB.out]; simpa [HKI.out] using HE.out, HB.out⟩
              case measure => simp [intOf]; omega
          · have hz : ((k : Int) != (i : Int)) = true := by simp; omega
            cases ti <;> cases tk
            ·
              have cQ := cH 1
              rw [hear_good _ _ hnk] at cQ; unfold goodE at cQ; simp only at cQ; rw [mG] at cQ
              have CQ := Lib.hid cQ; clear cQ
              clear cH mG mB hti htk
              have KI := Lib.hid kI; have KK := Lib.hid kK; clear kI kK
              go_wp2_with fail
              (with_reducible refine (KI.out _).mono ?_); rintro e x1 ⟨rfl, rfl⟩
              go_wp2_with fail
              (with_reducible refine (KK.out _).mono ?_); rintro e x1 ⟨rfl, rfl⟩
              obtain ⟨y0, y1, y2⟩ := HE.out.cells
              go_wp2_with fail
              (with_reducible refine (CQ.out _).mono ?_); rintro e x2 ⟨rfl, hb⟩
              replace HE := Lib.hid (HE.out.on hb)
              replace HB := Lib.hid (HB.out.trans (hb.mono HB.out.size)); clear y0 y1 y2 hb
              obtain ⟨y0, y1, y2⟩ := HE.out.cells; have hfr := HE.out.frozen
              go_wp2_with fail
              go_roundw
              case rel => exact ⟨k + 1, withI h k, by omega, by go_num, by rw [WO.out hki]; exact HH.out, by rw [SG.out, SB.out]; simpa [hki] using HE.out.set ⟨withI h k, ((G + 1 : Nat) : Int), (Bd : Int)⟩, below_set3 HB.out HW9.out _ _ _⟩
              case measure => simp [intOf]; omega
            ·
              have cQ := cH 2
              rw [hear_bad _ _ hnk] at cQ; unfold badE at cQ; simp only at cQ; rw [mB] at cQ
              have CQ := Lib.hid cQ; clear cQ
              clear cH mG mB hti htk
              have KI := Lib.hid kI; have KK := Lib.hid kK; clear kI kK
              go_wp2_with fail
              (with_reducible refine (KI.out _).mono ?_); rintro e x1 ⟨rfl, rfl⟩
              go_wp2_with fail
              (with_reducible refine (KK.out _).mono ?_); rintro e x1 ⟨rfl, rfl⟩
              obtain ⟨y0, y1, y2⟩ := HE.out.cells
              go_wp2_with fail
              (with_reducible refine (CQ.out _).mono ?_); rintro e x2 ⟨rfl, hb⟩
              replace HE := Lib.hid (HE.out.on hb)
              replace HB := Lib.hid (HB.out.trans (hb.mono HB.out.size)); clear y0 y1 y2 hb
              obtain ⟨y0, y1, y2⟩ := HE.out.cells; have hfr := HE.out.frozen
              go_wp2_with fail
              go_roundw
              case rel => exact ⟨k + 1, h, by omega, by go_num, HH.out, by rw [SG.out, SB.out]; simpa [hki] using HE.out.set ⟨h, (G : Int), ((Bd + 1 : Nat) : Int)⟩, below_set3 HB.out HW9.out _ _ _⟩
              case measure => simp [intOf]; omega
            ·
              have cQ := cH 2
              rw [hear_bad _ _ hnk] at cQ; unfold badE at cQ; simp only at cQ; rw [mB] at cQ
              have CQ := Lib.hid cQ; clear cQ
              clear cH mG mB hti htk
              have KI := Lib.hid kI; have KK := Lib.hid kK; clear kI kK
              go_wp2_with fail
              (with_reducible refine (KI.out _).mono ?_); rintro e x1 ⟨rfl, rfl⟩
              go_wp2_with fail
              (with_reducible refine (KK.out _).mono ?_); rintro e x1 ⟨rfl, rfl⟩
              obtain ⟨y0, y1, y2⟩ := HE.out.cells
              go_wp2_with fail
              (with_reducible refine (CQ.out _).mono ?_); rintro e x2 ⟨rfl, hb⟩
              replace HE := Lib.hid (HE.out.on hb)
              replace HB := Lib.hid (HB.out.trans (hb.mono HB.out.size)); clear y0 y1 y2 hb
              obtain ⟨y0, y1, y2⟩ := HE.out.cells; have hfr := HE.out.frozen
              go_wp2_with fail
              go_roundw
              case rel => exact ⟨k + 1, h, by omega, by go_num, HH.out, by rw [SG.out, SB.out]; simpa [hki] using HE.out.set ⟨h, (G : Int), ((Bd + 1 : Nat) : Int)⟩, below_set3 HB.out HW9.out _ _ _⟩
              case measure => simp [intOf]; omega
            ·
              have cQ := cH 1
              rw [hear_good _ _ hnk] at cQ; unfold goodE at cQ; simp only at cQ; rw [mG] at cQ
              have CQ := Lib.hid cQ; clear cQ
              clear cH mG mB hti htk
              have KI := Lib.hid kI; have KK := Lib.hid kK; clear kI kK
              go_wp2_with fail
              (with_reducible refine (KI.out _).mono ?_); rintro e x1 ⟨rfl, rfl⟩
              go_wp2_with fail
              (with_reducible refine (KK.out _).mono ?_); rintro e x1 ⟨rfl, rfl⟩
              obtain ⟨y0, y1, y2⟩ := HE.out.cells
              go_wp2_with fail
              (with_reducible refine (CQ.out _).mono ?_); rintro e x2 ⟨rfl, hb⟩
              replace HE := Lib.hid (HE.out.on hb)
              replace HB := Lib.hid (HB.out.trans (hb.mono HB.out.size)); clear y0 y1 y2 hb
              obtain ⟨y0, y1, y2⟩ := HE.out.cells; have hfr := HE.out.frozen
              go_wp2_with fail
              go_roundw
              case rel => exact ⟨k + 1, withI h k, by omega, by go_num, by rw [WO.out hki]; exact HH.out, by rw [SG.out, SB.out]; simpa [hki] using HE.out.set ⟨withI h k, ((G + 1 : Nat) : Int), (Bd : Int)⟩, below_set3 HB.out HW9.out _ _ _⟩
              case measure => simp [intOf]; omega
        · have j1 : ¬ (k : Int) < (N : Int) := by omega
          have ek : k = N := by omega
          obtain ⟨f1, f2, f3, f4⟩ := parts_all v N i n16 hlt (HBI.out)
          rw [ek] at HE
          have HE2 : Hid (ErAt wr E ⟨h, mineI v N i - 1, (N : Int) - mineI v N i⟩) := Lib.hid (by rw [← f1, ← f2]; exact HE.out)
          have kI := kH.out i
          have HM : Hid (mineI v N i = if hasB v i then countI v else (N : Int) - countI v) := Lib.hid rfl
          have kh := fun W => refHas_any h i W
          rw [HH.out] at kh
          have cS := fun W => stays_any ⟨h, mineI v N i - 1, (N : Int) - mineI v N i⟩ W
          have hst : staysB ⟨h, mineI v N i - 1, (N : Int) - mineI v N i⟩ = decide ((N : Int) < 2 * mineI v N i) := by show decide ((N : Int) - mineI v N i ≤ mineI v N i - 1) = _; rw [decide_eq_decide]; omega
          rw [hst] at cS
          clear hst f1 f2 HE kH HBI
          generalize mineI v N i = M at *
          have g2 : IntKind.i64.wrap (2 * M) = 2 * M := IntWalk.i64_in _ (by omega)
          have g3 : IntKind.i64.wrap (M - 1) = M - 1 := IntWalk.i64_in _ (by omega)
          have g4 : IntKind.i64.wrap ((N : Int) - M) = (N : Int) - M := IntWalk.i64_in _ (by omega)
          have CS := Lib.hid cS; have KH := Lib.hid kh
          clear cS kh
          cases hti : hasB v i
          · rw [hti] at kI HM
            have g5 : IntKind.i64.wrap ((N : Int) - countI v) = M := by have := HM.out; have h9 := HCI.out; rw [if_neg (by simp)] at this; rw [this]; exact IntWalk.i64_in _ (by omega)
            have KI := Lib.hid kI; clear kI HM hti
            by_cases hq : (N : Int) < 2 * M
            · have cS := CS.out; rw [decide_eq_true hq] at cS
              clear CS
              go_wp2_with fail
              (with_reducible refine (KI.out _).mono ?_); rintro e x1 ⟨rfl, rfl⟩
              obtain ⟨y0, y1, y2⟩ := HE2.out.cells
              go_wp2_with fail
              (with_reducible refine (cS _).mono ?_); rintro e x2 ⟨rfl, hb⟩
              replace HE2 := Lib.hid (HE2.out.on hb)
              replace HB := Lib.hid (HB.out.trans (hb.mono HB.out.size)); clear y0 y1 y2 hb
              obtain ⟨y0, y1, y2⟩ := HE2.out.cells
              go_wp2_with fail
              (with_reducible refine (KH.out _).mono ?_); rintro e x3 ⟨rfl, rfl⟩
              go_wp2_with fail
              go_roundw
              case rel => exact ⟨i + 1, by omega, by go_num, HB.out⟩
              case measure => simp [intOf]; omega
            · have cS := CS.out; rw [decide_eq_false hq] at cS
              clear CS
              go_wp2_with fail
              (with_reducible refine (KI.out _).mono ?_); rintro e x1 ⟨rfl, rfl⟩
              obtain ⟨y0, y1, y2⟩ := HE2.out.cells
              go_wp2_with fail
              (with_reducible refine (cS _).mono ?_); rintro e x2 ⟨rfl, hb⟩
              replace HE2 := Lib.hid (HE2.out.on hb)
              replace HB := Lib.hid (HB.out.trans (hb.mono HB.out.size)); clear y0 y1 y2 hb
              obtain ⟨y0, y1, y2⟩ := HE2.out.cells
              go_wp2_with fail
              (with_reducible refine (KH.out _).mono ?_); rintro e x3 ⟨rfl, rfl⟩
              go_wp2_with fail
              go_roundw
              case rel => exact ⟨i + 1, by omega, by go_num, HB.out⟩
              case measure => simp [intOf]; omega
          · rw [hti] at kI HM
            have hMC : M = countI v := by have := HM.out; rw [if_pos rfl] at this; exact this
            subst hMC
            have KI := Lib.hid kI; clear kI HM hti
            by_cases hq : (N : Int) < 2 * countI v
            · have cS := CS.out; rw [decide_eq_true hq] at cS
              clear CS
              go_wp2_with fail
              (with_reducible refine (KI.out _).mono ?_); rintro e x1 ⟨rfl, rfl⟩
              obtain ⟨y0, y1, y2⟩ := HE2.out.cells
              go_wp2_with fail
              (with_reducible refine (cS _).mono ?_); rintro e x2 ⟨rfl, hb⟩
              replace HE2 := Lib.hid (HE2.out.on hb)
              replace HB := Lib.hid (HB.out.trans (hb.mono HB.out.size)); clear y0 y1 y2 hb
              obtain ⟨y0, y1, y2⟩ := HE2.out.cells
              go_wp2_with fail
              (with_reducible refine (KH.out _).mono ?_); rintro e x3 ⟨rfl, rfl⟩
              go_wp2_with fail
              go_roundw
              case rel => exact ⟨i + 1, by omega, by go_num, HB.out⟩
              case measure => simp [intOf]; omega
            · have cS := CS.out; rw [decide_eq_false hq] at cS
              clear CS
              go_wp2_with fail
              (with_reducible refine (KI.out _).mono ?_); rintro e x1 ⟨rfl, rfl⟩
              obtain ⟨y0, y1, y2⟩ := HE2.out.cells
              go_wp2_with fail
              (with_reducible refine (cS _).mono ?_); rintro e x2 ⟨rfl, hb⟩
              replace HE2 := Lib.hid (HE2.out.on hb)
              replace HB := Lib.hid (HB.out.trans (hb.mono HB.out.size)); clear y0 y1 y2 hb
              obtain ⟨y0, y1, y2⟩ := HE2.out.cells
              go_wp2_with fail
              (with_reducible refine (KH.out _).mono ?_); rintro e x3 ⟨rfl, rfl⟩
              go_wp2_with fail
              go_roundw
              case rel => exact ⟨i + 1, by omega, by go_num, HB.out⟩
              case measure => simp [intOf]; omega
    · have i1 : ¬ (i : Int) < (N : Int) := by omega
      go_wp2_with fail
      go_ret
      exact ⟨rfl, HB.out⟩

end Go.Proofs.Ytplnmkeopdmanaa

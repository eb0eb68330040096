/-
  The walk of the law IdentTells: which identifiers may be, their keys, order and bytes are as the document's own answers say.
-/
import Derived.Test.YtnngkpcikmbnmaaDoorIdentEq
import Derived.Deep.DeepCutAuto
namespace Go.Proofs.YtnngkpcikmbnmaaDoor
open Go.RowKit

theorem run_front (s : ByteArray) (e : Int) (n : Nat) (he : e = (n : Int)) (hn : n ≤ s.size) (w : World) :
    (Instr.slice 9 (.string s) none (some (.int .i64 e)) none).run Tryd.prog w = .ok (.string (txt (s.data.toList.take n))) w := by
  subst he
  rw [run_slice_string_to_if w 9 s .i64 n Tryd.underlying9, if_pos ⟨by omega, by omega⟩, Lib.extract_eq]
  rfl

/-- One of three. -/
def three (X Y Z : ByteArray) : Nat → ByteArray
  | 0 => X
  | 1 => Y
  | _ => Z
theorem three_size (X Y Z : ByteArray) (j : Nat) (hX : X.size ≤ 20) (hY : Y.size ≤ 20) (hZ : Z.size ≤ 20) : (three X Y Z j).size ≤ 20 := by
  unfold three
  split <;> assumption
theorem printI_size (b : Bool) (n : Int) : (txt (printI b n)).size ≤ 20 := by
  rw [txt_size]
  unfold printI
  split
  · exact Nat.le_of_ble_eq_true rfl
  · exact Nat.le_of_ble_eq_true rfl

set_option maxHeartbeats 20000000 in
set_option maxRecDepth 100000 in
theorem identTells_walk (a0 : Bool) (b0 : Int) (a1 : Bool) (b1 : Int) (a2 : Int) (a3 : ByteArray) (_w0 : (Lit.int .i64 b0).wf = true) (_w1 : (Lit.int .i64 b1).wf = true) (w2 : (Lit.int .i64 a2).wf = true) (_z3 : a3.size ≤ 140737488351232) (w : World) (L : Laid w) :
    Calls Tryd.prog 3 #[.agg #[.bool a0, .int .i64 b0], .agg #[.bool a1, .int .i64 b1], .int .i64 a2, .string a3] w fun e w' => e = .returned (.bool true) ∧ Below w.heap.size w w' := by
  have hZ := printI_size a0 b0
  have k1 := fun w L => key_any a0 b0 w L
  have k2 := fun w => refKey_any a0 b0 w
  have k3 := fun w L => at_any a2 w2 w L
  have k4 := fun w => refAt_any a2 w2 w
  unfold AtPost at k3 k4
  have k5 := fun w L => print_any a0 b0 w L
  have k6 := fun w => refPrint_any a0 b0 w
  have k7 := fun w L => right_any a0 b0 w L
  have k8 := fun w => refRight_any a0 b0 w
  have k9 := fun w L => less_any a0 b0 a1 b1 w L
  have k10 := fun w => refLess_any a0 b0 a1 b1 w
  generalize keyV a0 b0 = M at k1 k2
  generalize keyE a0 b0 = E at k1 k2 k5 k6
  generalize txt (printI a0 b0) = Z at k5 k6 hZ
  generalize atRB a2 = CB at k3 k4
  generalize atRN a2 = CN at k3 k4
  generalize atRE a2 = CE at k3 k4
  generalize rightI a0 b0 = ri at k7 k8
  generalize lessI a0 b0 a1 b1 = le at k9 k10
  clear w2
  have HZ := Lib.hid hZ; clear hZ
  have HNE := Lib.hid (fun w => neq_agg CB CB CN CN w)
  have hE1 : (!(CB == CB && CN == CN)) = false := by simp
  have HNQ : Hid (∀ w, (binOp .neq 23 (.agg #[.bool CB, .int .i64 CN]) (.agg #[.bool CB, .int .i64 CN])).run Tryd.prog w = .ok (.bool false) w) := Lib.hid fun w => by rw [HNE.out w, hE1]
  clear hE1 HNE
  have K1 := Lib.hid k1; clear k1
  have K2 := Lib.hid k2; clear k2
  have K3 := Lib.hid k3; clear k3
  have K4 := Lib.hid k4; clear k4
  have K5 := Lib.hid k5; clear k5
  have K6 := Lib.hid k6; clear k6
  have K7 := Lib.hid k7; clear k7
  have K8 := Lib.hid k8; clear k8
  have K9 := Lib.hid k9; clear k9
  have K10 := Lib.hid k10; clear k10
  go_enter Tryd.func3, Tryd.ntmps3
  have AW := Lib.hid awake_any
  go_wp2_with fail
  refine (AW.out _ ((L.alloc _).alloc _)).mono ?_
  rintro e w1 ⟨rfl, hb1⟩
  have XA := (((Two.new _ a0 b0 _).alloc _)).below hb1
  have XB := ((Two.new1 _ _ a1 b1 _)).below hb1
  have L0 := ((L.alloc _).alloc _).below hb1
  have hW := below_trans (Joins.below_alloc2 _ _ _) hb1
  clear hb1
  obtain ⟨sXA, qXA0, qXA1⟩ := id XA
  obtain ⟨sXB, qXB0, qXB1⟩ := id XB
  go_upto_region 2 with fail
  go_cut [10] (fun s wx => ∃ X : ByteArray, s = .string X ∧ X.size ≤ 20 ∧ wx = w1)
  case first =>
    by_cases h20 : a3.size ≤ 20
    · have h21 : (a3.size : Int) ≤ 20 := by omega
      go_wp2_with fail
      go_meet
      exact ⟨a3, rfl, h20, rfl⟩
    · have kf := run_front a3 20 20 rfl (by omega)
      have h21 : (20 : Int) < (a3.size : Int) := by omega
      go_wp2_with fail
      go_meet
      exact ⟨_, rfl, by rw [txt_size, List.length_take]; omega, rfl⟩
  case rest =>
  obtain ⟨X, rfl, hX, hwx⟩ := hcut
  subst hwx
  have HX := Lib.hid hX; clear hX
  go_wp2_with fail
  refine (K1.out _ L0).mono ?_
  rintro e w2 ⟨rfl, hb2⟩
  clear qXA0 qXA1 qXB0 qXB1 sXA sXB
  replace XA := (XA).below hb2
  replace XB := (XB).below hb2
  replace L0 := L0.below hb2
  replace hW := below_trans hW hb2
  clear hb2
  obtain ⟨sXA, qXA0, qXA1⟩ := id XA
  obtain ⟨sXB, qXB0, qXB1⟩ := id XB
  go_wp2_with fail
  refine (K2.out _).mono ?_
  rintro e w3 ⟨rfl, hb3⟩
  clear qXA0 qXA1 qXB0 qXB1 sXA sXB
  replace XA := (XA).below hb3
  replace XB := (XB).below hb3
  replace L0 := L0.below hb3
  replace hW := below_trans hW hb3
  clear hb3
  obtain ⟨sXA, qXA0, qXA1⟩ := id XA
  obtain ⟨sXB, qXB0, qXB1⟩ := id XB
  go_wp2_with fail
  refine (K3.out _ L0).mono ?_
  rintro e w4 ⟨rfl, hb4⟩
  clear qXA0 qXA1 qXB0 qXB1 sXA sXB
  replace XA := (XA).below hb4
  replace XB := (XB).below hb4
  replace L0 := L0.below hb4
  replace hW := below_trans hW hb4
  clear hb4
  obtain ⟨sXA, qXA0, qXA1⟩ := id XA
  obtain ⟨sXB, qXB0, qXB1⟩ := id XB
  go_wp2_with fail
  refine (K4.out _).mono ?_
  rintro e w5 ⟨rfl, hb5⟩
  clear qXA0 qXA1 qXB0 qXB1 sXA sXB
  replace XA := ((XA.alloc _)).below hb5
  replace XB := ((XB.alloc _)).below hb5
  have XC := ((Two.new _ CB CN _)).below hb5
  replace L0 := (L0.alloc _).below hb5
  replace hW := below_trans (below_new hW _) hb5
  clear hb5
  obtain ⟨sXA, qXA0, qXA1⟩ := id XA
  obtain ⟨sXB, qXB0, qXB1⟩ := id XB
  obtain ⟨sXC, qXC0, qXC1⟩ := id XC
  go_wp2_with fail
  refine (K5.out _ (L0.alloc _)).mono ?_
  rintro e w6 ⟨rfl, hb6⟩
  clear qXA0 qXA1 qXB0 qXB1 qXC0 qXC1 sXA sXB sXC
  replace XA := ((XA.alloc _)).below hb6
  replace XB := ((XB.alloc _)).below hb6
  replace XC := ((XC.alloc _)).below hb6
  have XD := ((Two.new _ CB CN _)).below hb6
  replace L0 := (L0.alloc _).below hb6
  replace hW := below_trans (below_new hW _) hb6
  clear hb6
  obtain ⟨sXA, qXA0, qXA1⟩ := id XA
  obtain ⟨sXB, qXB0, qXB1⟩ := id XB
  obtain ⟨sXC, qXC0, qXC1⟩ := id XC
  obtain ⟨sXD, qXD0, qXD1⟩ := id XD
  go_wp2_with fail
  refine (K6.out _).mono ?_
  rintro e w7 ⟨rfl, hb7⟩
  clear qXA0 qXA1 qXB0 qXB1 qXC0 qXC1 qXD0 qXD1 sXA sXB sXC sXD
  replace XA := (XA).below hb7
  replace XB := (XB).below hb7
  replace XC := (XC).below hb7
  replace XD := (XD).below hb7
  replace L0 := L0.below hb7
  replace hW := below_trans hW hb7
  clear hb7
  obtain ⟨sXA, qXA0, qXA1⟩ := id XA
  obtain ⟨sXB, qXB0, qXB1⟩ := id XB
  obtain ⟨sXC, qXC0, qXC1⟩ := id XC
  obtain ⟨sXD, qXD0, qXD1⟩ := id XD
  go_upto_region 9 with fail
  clear qXA0 qXA1 qXB0 qXB1 qXC0 qXC1 qXD0 qXD1 sXA sXB sXC sXD K1 K2 K3 K4 K5 K6 AW
  go_cut [108] (fun s wx => s = .bool false ∧ Below w7.heap.size w7 wx)
  case first =>
    have hge := fun x y w => eq_guard .neq x y CB CB CN CN w
    have hne := HNQ.out
    have LE := L0
    have HST : Hid (∀ w', Below w7.heap.size w7 w' → (w'.cell? ⟨w.heap.size, 0, none⟩ = some (.bool a0) ∧ w'.cell? ⟨w.heap.size, 1, none⟩ = some (.int .i64 b0) ∧ w'.cell? ⟨w.heap.size + 1, 0, none⟩ = some (.bool a1) ∧ w'.cell? ⟨w.heap.size + 1, 1, none⟩ = some (.int .i64 b1) ∧ w'.cell? ⟨w4.heap.size, 0, none⟩ = some (.bool CB) ∧ w'.cell? ⟨w4.heap.size, 1, none⟩ = some (.int .i64 CN) ∧ w'.cell? ⟨w5.heap.size, 0, none⟩ = some (.bool CB) ∧ w'.cell? ⟨w5.heap.size, 1, none⟩ = some (.int .i64 CN) ∧ Below w7.heap.size w7 w')) := by
      apply Lib.hid
      intro w' hb
      exact ⟨(XA.below hb).2.1, (XA.below hb).2.2, (XB.below hb).2.1, (XB.below hb).2.2, (XC.below hb).2.1, (XC.below hb).2.2, (XD.below hb).2.1, (XD.below hb).2.2, hb⟩
    have HSL : Hid (∀ w', (w'.cell? ⟨w.heap.size, 0, none⟩ = some (.bool a0) ∧ w'.cell? ⟨w.heap.size, 1, none⟩ = some (.int .i64 b0) ∧ w'.cell? ⟨w.heap.size + 1, 0, none⟩ = some (.bool a1) ∧ w'.cell? ⟨w.heap.size + 1, 1, none⟩ = some (.int .i64 b1) ∧ w'.cell? ⟨w4.heap.size, 0, none⟩ = some (.bool CB) ∧ w'.cell? ⟨w4.heap.size, 1, none⟩ = some (.int .i64 CN) ∧ w'.cell? ⟨w5.heap.size, 0, none⟩ = some (.bool CB) ∧ w'.cell? ⟨w5.heap.size, 1, none⟩ = some (.int .i64 CN) ∧ Below w7.heap.size w7 w') → Below w7.heap.size w7 w') := Lib.hid fun w' h => h.2.2.2.2.2.2.2.2
    have HST2 : Hid (∀ w' w'', (w'.cell? ⟨w.heap.size, 0, none⟩ = some (.bool a0) ∧ w'.cell? ⟨w.heap.size, 1, none⟩ = some (.int .i64 b0) ∧ w'.cell? ⟨w.heap.size + 1, 0, none⟩ = some (.bool a1) ∧ w'.cell? ⟨w.heap.size + 1, 1, none⟩ = some (.int .i64 b1) ∧ w'.cell? ⟨w4.heap.size, 0, none⟩ = some (.bool CB) ∧ w'.cell? ⟨w4.heap.size, 1, none⟩ = some (.int .i64 CN) ∧ w'.cell? ⟨w5.heap.size, 0, none⟩ = some (.bool CB) ∧ w'.cell? ⟨w5.heap.size, 1, none⟩ = some (.int .i64 CN) ∧ Below w7.heap.size w7 w') → Below w'.heap.size w' w'' → (w''.cell? ⟨w.heap.size, 0, none⟩ = some (.bool a0) ∧ w''.cell? ⟨w.heap.size, 1, none⟩ = some (.int .i64 b0) ∧ w''.cell? ⟨w.heap.size + 1, 0, none⟩ = some (.bool a1) ∧ w''.cell? ⟨w.heap.size + 1, 1, none⟩ = some (.int .i64 b1) ∧ w''.cell? ⟨w4.heap.size, 0, none⟩ = some (.bool CB) ∧ w''.cell? ⟨w4.heap.size, 1, none⟩ = some (.int .i64 CN) ∧ w''.cell? ⟨w5.heap.size, 0, none⟩ = some (.bool CB) ∧ w''.cell? ⟨w5.heap.size, 1, none⟩ = some (.int .i64 CN) ∧ Below w7.heap.size w7 w'')) := Lib.hid fun w' w'' h hb => HST.out w'' (below_trans (HSL.out w' h) hb)
    have HLD : Hid (∀ w', (w'.cell? ⟨w.heap.size, 0, none⟩ = some (.bool a0) ∧ w'.cell? ⟨w.heap.size, 1, none⟩ = some (.int .i64 b0) ∧ w'.cell? ⟨w.heap.size + 1, 0, none⟩ = some (.bool a1) ∧ w'.cell? ⟨w.heap.size + 1, 1, none⟩ = some (.int .i64 b1) ∧ w'.cell? ⟨w4.heap.size, 0, none⟩ = some (.bool CB) ∧ w'.cell? ⟨w4.heap.size, 1, none⟩ = some (.int .i64 CN) ∧ w'.cell? ⟨w5.heap.size, 0, none⟩ = some (.bool CB) ∧ w'.cell? ⟨w5.heap.size, 1, none⟩ = some (.int .i64 CN) ∧ Below w7.heap.size w7 w') → Laid w') := Lib.hid fun w' h => LE.below (HSL.out w' h)
    first | (go_region_held3 (fun w' => w'.cell? ⟨w.heap.size, 0, none⟩ = some (.bool a0) ∧ w'.cell? ⟨w.heap.size, 1, none⟩ = some (.int .i64 b0) ∧ w'.cell? ⟨w.heap.size + 1, 0, none⟩ = some (.bool a1) ∧ w'.cell? ⟨w.heap.size + 1, 1, none⟩ = some (.int .i64 b1) ∧ w'.cell? ⟨w4.heap.size, 0, none⟩ = some (.bool CB) ∧ w'.cell? ⟨w4.heap.size, 1, none⟩ = some (.int .i64 CN) ∧ w'.cell? ⟨w5.heap.size, 0, none⟩ = some (.bool CB) ∧ w'.cell? ⟨w5.heap.size, 1, none⟩ = some (.int .i64 CN) ∧ Below w7.heap.size w7 w') (first | assumption | exact HST.out _ (Below.refl _ _).drew | exact HST2.out _ _ (by assumption) (by assumption)) (first | (go_at_call 16; refine (K7.out _ (HLD.out _ (by assumption))).mono ?_; rintro e v1 ⟨rfl, hb1⟩) | (go_at_call 17; refine (K8.out _).mono ?_; rintro e v2 ⟨rfl, hb2⟩) | (go_at_call 18; refine (K9.out _ (HLD.out _ (by assumption))).mono ?_; rintro e v3 ⟨rfl, hb3⟩) | (go_at_call 19; refine (K10.out _).mono ?_; rintro e v4 ⟨rfl, hb4⟩))) | fail
    all_goals
      go_wp2_with fail
      go_meet
      exact ⟨rfl, HSL.out _ (by assumption)⟩
  case rest =>
    obtain ⟨rfl, hbx⟩ := hcut
    have L1 := L0.below hbx
    replace hW := below_trans hW hbx
    clear XA XB XC XD L0 hbx HNQ K7 K8 K9 K10
    obtain ⟨wq, hwq⟩ : ∃ x, x = wc := ⟨_, rfl⟩
    subst hwq
    have HB0 := Lib.hid hW; clear hW
    go_upto_region 11 with fail
    go_cut [116, 117, 118] (fun s t u wx => ∃ Y : ByteArray, s = .slice (some ⟨wq.heap.size, 0, none⟩) 3 3 ∧ t = .int .i64 3 ∧ u = .int .i64 0 ∧ wx = wq.alloc (.cells #[.string X, .string Y, .string Z] 9) ∧ Y.size ≤ 20)
    case first =>
      have hx := HX.out
      by_cases h4 : X.size ≤ 4
      · have h5 : (X.size : Int) ≤ 4 := by omega
        go_wp2_with fail
        go_meet
        exact ⟨X, rfl, rfl, rfl, rfl, by omega⟩
      · have kf := run_front X 4 4 rfl (by omega)
        have h5 : (4 : Int) < (X.size : Int) := by omega
        go_wp2_with fail
        go_meet
        exact ⟨_, rfl, rfl, rfl, rfl, by rw [txt_size, List.length_take]; omega⟩
    case rest =>
    obtain ⟨Y, rfl, rfl, rfl, hwx, hY⟩ := hcut
    have HY := Lib.hid hY; clear hY
    have hW := HB0.out
    obtain ⟨H, hH⟩ : ∃ H, H = wq.heap.size := ⟨_, rfl⟩
    have hcells : ∀ j, j < 3 → (wq.alloc (.cells #[.string X, .string Y, .string Z] 9)).cell? ⟨H, j, none⟩ = some (.string (three X Y Z j)) := by
      intro j hj
      rw [hH, cell_of_row _ _ _ _ 9 (0, 0) (heap_alloc_new wq _)]
      have : j = 0 ∨ j = 1 ∨ j = 2 := by omega
      rcases this with rfl | rfl | rfl <;> rfl
    have hbl : Below w.heap.size w (wq.alloc (.cells #[.string X, .string Y, .string Z] 9)) := below_new hW _
    have hsz : H < (wq.alloc (.cells #[.string X, .string Y, .string Z] 9)).heap.size := by rw [hH]; simp
    have hL := L1.alloc (.cells #[.string X, .string Y, .string Z] 9)
    have HC := Lib.hid hcells; clear hcells
    have HB := Lib.hid hbl; clear hbl
    have HS := Lib.hid hsz; clear hsz
    have HL := Lib.hid hL; clear hL
    subst hwx
    rw [← hH]
    clear hH hW L1
    go_wp2_with fail
    go_loopw [118] (fun v wr => ∃ i : Nat, i ≤ 3 ∧ v = .int .i64 i ∧ Below w.heap.size w wr ∧ H < wr.heap.size ∧ Laid wr ∧ (∀ j, j < 3 → wr.cell? ⟨H, j, none⟩ = some (.string (three X Y Z j)))) (fun v _ => 3 - (intOf v).toNat)
    case atStart => exact ⟨0, by omega, rfl, HB.out, HS.out, HL.out, HC.out⟩
    case round =>
      obtain ⟨i, hi, rfl, hBel, hSz, hLw, hCell⟩ := hrel
      have HBel := Lib.hid hBel; clear hBel
      have HSz := Lib.hid hSz; clear hSz
      have HLw := Lib.hid hLw; clear hLw
      have HCell := Lib.hid hCell; clear hCell
      by_cases hlt : i < 3
      · have hys := three_size X Y Z i HX.out HY.out HZ.out
        have hc := HCell.out i hlt
        obtain ⟨y, hy⟩ : ∃ y, y = three X Y Z i := ⟨_, rfl⟩
        rw [← hy] at hys hc
        clear hy
        have d1 := fun w L => parse_any y w L (by unfold maxLen; omega)
        have d2 := fun w => refParse_any y w (by unfold maxLen; omega)
        unfold ParsePost at d1 d2
        generalize psRB y.data.toList = PB at d1 d2
        generalize psRN y.data.toList = PN at d1 d2
        generalize psE y.data.toList = PE at d1 d2
        have hge := fun x y w => eq_guard .neq x y PB PB PN PN w
        have hE2 : (!(PB == PB && PN == PN)) = false := by simp
        have hne : ∀ w, (binOp .neq 23 (.agg #[.bool PB, .int .i64 PN]) (.agg #[.bool PB, .int .i64 PN])).run Tryd.prog w = .ok (.bool false) w := fun w => by rw [neq_agg, hE2]
        clear hE2
        have D1 := Lib.hid d1; clear d1
        have D2 := Lib.hid d2; clear d2
        go_wp2_with fail
        refine (D1.out _ HLw.out).mono ?_
        rintro e v1 ⟨rfl, hb1⟩
        have L1 := HLw.out.below hb1
        have P1 := Two.new v1 PB PN 23
        go_wp2_with fail
        refine (D2.out _).mono ?_
        rintro e v2 ⟨rfl, hb2⟩
        have hb3 := below_trans (below_new hb1 (.cells #[.bool PB, .int .i64 PN] 23)) hb2
        replace P1 := P1.below hb2
        obtain ⟨sp, p0, p1⟩ := P1
        have hs2 := HSz.out
        go_wp2_with fail
        have hb4 := below_new hb3 (.cells #[.bool PB, .int .i64 PN] 23)
        have hz4 := hb4.size
        go_roundw
        case rel => exact ⟨i + 1, by omega, by go_num, below_trans HBel.out hb4, by omega, HLw.out.below hb4, fun j hj => (hb4.cell (p := ⟨H, j, none⟩) hs2).trans (HCell.out j hj)⟩
        case measure => simp [intOf]; omega
      · go_wp2_with fail
        go_ret
        exact ⟨rfl, HBel.out⟩

end Go.Proofs.YtnngkpcikmbnmaaDoor

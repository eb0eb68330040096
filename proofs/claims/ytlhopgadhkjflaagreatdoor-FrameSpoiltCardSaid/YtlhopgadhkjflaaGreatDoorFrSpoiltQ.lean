/-
  The law FrameSpoilt, walked.
-/
import Derived.Test.YtlhopgadhkjflaaGreatDoorFrTwoQ
namespace Go.Proofs.YtlhopgadhkjflaaGreatDoor
open Go.RowKit
theorem spoilt_dec {X : Fr} (hR : rightF X = true) (k : Nat) (mask : Int) {B : List UInt8} (hB : B = C.burstI (encTF X) (k : Int) mask) : (B = encTF X → decEF B = 0 ∧ decFF B = X) ∧ (B ≠ encTF X → decEF B = 5 ∧ decFF B = zeroFr) := by
 refine ⟨fun h => by rw [h]; exact dec_encF hR, fun h => ?_⟩
 have hc : C.isClosed B = false := by
  rw [hB, C.burstI_nat, encTF_right hR, C.closed_burst]
  rw [hB, C.burstI_nat, encTF_right hR] at h
  simpa using h
 have h5 : decEF B = 5 := by unfold decEF; rw [if_neg (by rw [hc]; decide)]
 exact ⟨h5, by unfold decFF; rw [if_neg (by rw [h5]; decide)]⟩
set_option maxRecDepth 100000 in
set_option maxHeartbeats 8000000 in
theorem frameSpoilt_walk (A : Option Addr) (c : Nat) (l : List Int) (r : F.Raw) (n0 n1 n2 : Int) (A' : Option Addr) (c' : Nat) (raw : List Raw) (p mask : Int) (wr : F.WfR r) (k0 : (Lit.int .i64 n0).wf = true) (k1 : (Lit.int .i64 n1).wf = true) (k2 : (Lit.int .i64 n2).wf = true) (w4 : (Lit.int .i64 p).wf = true) (_w5 : (Lit.int .i64 mask).wf = true) (w : World) (L : Laid w) (f0 : IncsOk w A c l) (f3 : RowsOk w A' c' raw) :
  Calls Tryz.prog 4 #[.slice A l.length c, F.rv r, .agg #[.int .i64 n0, .int .i64 n1, .int .i64 n2], .slice A' raw.length c', .int .i64 p, .int .i64 mask] w fun e w' => e = .returned (.bool true) ∧ Below w.heap.size w w' := by
 obtain ⟨X, hX⟩ : ∃ X, frX l r n0 n1 n2 raw = X := ⟨_, rfl⟩
 have hR : rightF X = true := hX ▸ frX_right l r n0 n1 n2 raw
 have hi := Inp.of f0 f3
 have cF := fun W (h : Inp W A l A' raw) => rawS7_any k0 k1 k2 wr c c' hX W h
 have hlen := encTF_length hR
 have hbl := body_small hR
 rw [bodyF_length] at hbl
 have hsz : 27 ≤ (txt (encTF X)).size ∧ (txt (encTF X)).size ≤ 500 := by rw [txt_size]; omega
 have hSM := small_rightF hR
 have cE := fun A c A' c' W L h h' => encFP_any X A c A' c' W L h h' hSM
 rw [encEF_right hR] at cE
 have hpr := pickI_range p (8 * ((txt (encTF X)).size : Int)) (by omega)
 have cP := fun W => pick7_any p (8 * ((txt (encTF X)).size : Int)) w4 (by omega) W
 obtain ⟨P, hP⟩ : ∃ P : Nat, pickI p (8 * ((txt (encTF X)).size : Int)) = (P : Int) := ⟨_, (Int.toNat_of_nonneg hpr.1).symm⟩
 rw [hP] at cP
 have cB := fun W => C.burst_any (txt (encTF X)) (P : Int) mask W (by omega)
 rw [txt_data] at cB
 obtain ⟨B, hB⟩ : ∃ B, B = C.burstI (encTF X) (P : Int) mask := ⟨_, rfl⟩
 have hsp := spoilt_dec hR P mask hB
 have hBl : B.length = (encTF X).length := by rw [hB]; exact C.burstI_length _ _ _
 have htB : C.txt (C.burstI (encTF X) (P : Int) mask) = txt B := by rw [hB]; rfl
 rw [htB] at cB
 clear htB hB hP hpr
 have cD := fun W L => decFP_any (txt B) (by rw [txt_size, hBl, ← txt_size]; omega) W L
 rw [txt_data] at cD
 unfold DecFPost at cD
 have hBs : (txt B).size = (txt (encTF X)).size := by rw [txt_size, txt_size, hBl]
 have q1 := Joins.below_alloc2 w (.cells #[.int .i64 r.a, .int .i64 r.b, .int .i64 r.c, .int .i64 r.d] 23) (.cells #[.int .i64 n0, .int .i64 n1, .int .i64 n2] 24)
 have d1 := (show At4R' (w.alloc (.cells #[.int .i64 r.a, .int .i64 r.b, .int .i64 r.c, .int .i64 r.d] 23)) w.heap.size r from heap_alloc_new w _)
 have d2 := At3.new (w.alloc (.cells #[.int .i64 r.a, .int .i64 r.b, .int .i64 r.c, .int .i64 r.d] 23)) n0 n1 n2
 have d1' : At4R' _ w.heap.size r := ((Joins.below_alloc1 (w.alloc (.cells #[.int .i64 r.a, .int .i64 r.b, .int .i64 r.c, .int .i64 r.d] 23)) (.cells #[.int .i64 n0, .int .i64 n1, .int .i64 n2] 24)).block _ (by simp)).trans d1
 rw [World.size_alloc] at d2
 have CF := Lib.hid cF
 have CE := Lib.hid cE
 have CP := Lib.hid cP
 have CB := Lib.hid cB
 have CD := Lib.hid cD
 have HI := Lib.hid (hi.on q1)
 have HL := Lib.hid L
 have HQ := Lib.hid q1
 have D1 := Lib.hid d1'
 have D2 := Lib.hid d2
 have HSP := Lib.hid hsp
 have HBS := Lib.hid hBs
 clear cF cE cP cB cD hi L q1 d1 d1' d2 hsp hBs hbl hlen hBl f0 f3 hX w4 k0 k1 k2 wr
 have HTE : Hid (∀ h : B = encTF X, ((txt B).toList == (txt (encTF X)).toList) = true) := Lib.hid (fun h => by rw [h]; simp)
 have HTN : Hid (∀ h : B ≠ encTF X, ((txt B).toList == (txt (encTF X)).toList) = false) := Lib.hid (fun h => by rw [txt_toList, txt_toList]; simpa using h)
 obtain ⟨ra, rb, rc, rd⟩ := r
 obtain ⟨W0, hW0⟩ : ∃ W0, W0 = (w.alloc (.cells #[.int .i64 ra, .int .i64 rb, .int .i64 rc, .int .i64 rd] 23)).alloc (.cells #[.int .i64 n0, .int .i64 n1, .int .i64 n2] 24) := ⟨_, rfl⟩
 simp only at HQ HI D1 D2 CF
 rw [← hW0] at HQ HI D1 D2
 have HS := Lib.hid hsz
 have HM8 : Hid (IntKind.i64.wrap (8 * ((txt (encTF X)).size : Int)) = 8 * ((txt (encTF X)).size : Int)) := Lib.hid (IntWalk.i64_in _ (by omega))
 have HSM := Lib.hid hSM
 have HRX := Lib.hid hR
 clear hsz hSM hR
 have HTX : Hid (∀ A B A' B' c d c' d' W, F.Pcs W W.heap.size A X.ps → Ents W W.heap.size A' X.es → F.Pcs W W.heap.size B X.ps → Ents W W.heap.size B' X.es → Calls Tryz.prog 24 #[fv X (.slice A X.ps.length c) (.slice A' X.es.length c'), fv X (.slice B X.ps.length d) (.slice B' X.es.length d')] W fun e w' => e = .returned (.bool true) ∧ Below W.heap.size W w') := Lib.hid (fun A B A' B' c d c' d' W h1 h2 h3 h4 => by
  have h := refSame7_any X X A B A' B' c d c' d' W h1 h2 h3 h4 HSM.out.1 HSM.out.2.1 (fun x hx => ⟨(HSM.out.2.2.2 x hx).1, (HSM.out.2.2.2 x hx).2.1⟩)
  rw [same_self] at h
  exact h)
 have HZX : Hid (∀ A A' c c' W, Calls Tryz.prog 24 #[fv zeroFr (.slice A zeroFr.ps.length c) (.slice A' zeroFr.es.length c'), fv zeroFr (.slice none 0 0) (.slice none 0 0)] W fun e w' => e = .returned (.bool true) ∧ Below W.heap.size W w') := Lib.hid (fun A A' c c' W => by
  have h := refSame7_any zeroFr zeroFr A none A' none c 0 c' 0 W (F.Pcs.nil _ _ _) (Ents.nil _ _ _) (F.Pcs.nil _ _ _) (Ents.nil _ _ _) (by decide) (by decide) (fun x hx => by cases hx)
  rw [same_self] at h
  exact h)
 go_enter Tryz.func4, Tryz.ntmps4
 go_upto_region 1 with fail
 rw [← hW0]
 clear hW0
 obtain ⟨z0, hz0⟩ : ∃ z, w.heap.size = z := ⟨_, rfl⟩
 have HZ0 := Lib.hid hz0
 rw [hz0] at HQ D1 D2 ⊢
 clear hz0
 have HLE : Hid (z0 ≤ W0.heap.size) := Lib.hid (by have := HQ.out.size; have := HZ0.out; omega)
 go_wp2_with fail; refine (awake7_any _ (HL.out.below (by rw [HZ0.out]; exact HQ.out))).mono ?_; rintro e w1 ⟨rfl, q1⟩
 have HQ1 := Lib.hid (HQ.out.trans (q1.mono HLE.out))
 have HI1 := Lib.hid (HI.out.on q1)
 have E1 : Hid (At4R' w1 z0 ⟨ra, rb, rc, rd⟩) := Lib.hid ((q1.block _ (Array.getElem?_eq_some_iff.1 D1.out).1).trans D1.out)
 have E2 := Lib.hid (D2.out.on q1)
 have HL1 : Hid (z0 ≤ w1.heap.size) := Lib.hid (Nat.le_trans HLE.out q1.size)
 clear q1 HQ HI D1 D2 HLE
 have y0 : w1.cell? ⟨z0, 0, none⟩ = some (.int .i64 ra) := cell_of E1.out 0
 have y1 : w1.cell? ⟨z0, 1, none⟩ = some (.int .i64 rb) := cell_of E1.out 1
 have y2 : w1.cell? ⟨z0, 2, none⟩ = some (.int .i64 rc) := cell_of E1.out 2
 have y3 : w1.cell? ⟨z0, 3, none⟩ = some (.int .i64 rd) := cell_of E1.out 3
 obtain ⟨y4, y5, y6⟩ := E2.out.cells
 have cf := CF.out w1 HI1.out
 simp only [F.rv] at cf
 go_wp2_with fail; refine cf.mono ?_; rintro e w2 ⟨q2, A1, k1, A2, k2, rfl, hp, he⟩
 have hbx := Box7.new (f := X) (c := k1) (c' := k2) hp he
 have a2 := Joins.below_alloc1 w2 (.cells (fc X (.slice A1 X.ps.length k1) (.slice A2 X.es.length k2)) 29)
 simp only [fc] at hbx a2
 clear y0 y1 y2 y3 y4 y5 y6 cf hp he E1 E2 HI1 CF
 have q3 := q2.trans (a2.mono q2.size)
 have HQ2 := Lib.hid (HQ1.out.trans (q3.mono HL1.out))
 have HX2 := Lib.hid hbx
 have HL2 := Lib.hid (Nat.le_trans HL1.out q3.size)
 clear hbx a2 q2 q3 HQ1 HL1
 go_upto_region 3 with fail
 generalize w2.alloc (.cells #[.int .i64 X.snd, .int .i64 X.rnd, .int .i64 X.inc, .int .i64 X.term, .int .i64 X.role, .int .i64 X.vote, .int .i64 X.hrd, .int .i64 X.last, .int .i64 X.lterm, .int .i64 X.ack, .int .i64 X.com, .int .i64 X.prv, .int .i64 X.pterm, .slice A1 X.ps.length k1, .slice A2 X.es.length k2] 29) = W2 at *
 generalize w2.heap.size = g at *
 obtain ⟨y0, y1, y2, y3, y4, y5, y6, y7, y8, y9, y10, y11, y12, y13, y14⟩ := HX2.out.fr.cells
 go_wp2_with fail; refine (CE.out _ _ _ _ _ (HL.out.below (by rw [HZ0.out]; exact HQ2.out)) HX2.out.ps HX2.out.es).mono ?_; rintro e w3 ⟨rfl, q3⟩
 have HQ3 := Lib.hid (HQ2.out.trans (q3.mono HL2.out))
 have HX3 := Lib.hid (HX2.out.on q3)
 have HL3 := Lib.hid (Nat.le_trans HL2.out q3.size)
 clear q3 HQ2 HX2 HL2 y0 y1 y2 y3 y4 y5 y6 y7 y8 y9 y10 y11 y12 y13 y14 CE
 have HTS := Lib.hid (show (txt (encTF X)).size = (txt (encTF X)).size from rfl)
 generalize encTF X = TX at *
 generalize txt TX = T at *
 have hs27 : ¬ (T.size : Int) < 27 := by have := HS.out; omega
 have hm8 := HM8.out
 go_wp2_with fail; refine (CP.out _).mono ?_; rintro e w4 ⟨rfl, rfl⟩
 go_wp2_with fail; refine (CB.out _).mono ?_; rintro e w4 ⟨rfl, q4⟩
 have HQ4 := Lib.hid (HQ3.out.trans (q4.mono HL3.out))
 have HX4 := Lib.hid (HX3.out.on q4)
 have HL4 := Lib.hid (Nat.le_trans HL3.out q4.size)
 clear q4 HQ3 HX3 HL3 CP CB
 have hBS := HBS.out
 by_cases hB : B = TX
 ·obtain ⟨h5, hF⟩ := HSP.out.1 hB
  have hte := HTE.out hB
  have cd := CD.out w4 (HL.out.below (by rw [HZ0.out]; exact HQ4.out))
  rw [h5, hF] at cd
  have CD2 := Lib.hid cd
  clear HSP HTE HTN CD h5 hF hB cd HZX
  generalize txt B = TB at *
  go_wp2_with fail; refine CD2.out.mono ?_; rintro e w5 ⟨q5, A5, k5, A6, k6, rfl, hp, he⟩
  have a5 := Joins.below_alloc1 w5 (.cells (fc X (.slice A5 X.ps.length k5) (.slice A6 X.es.length k6)) 29)
  have hb5 := Box7.new (f := X) (c := k5) (c' := k6) hp he
  have hb4 := (HX4.out.on q5).on a5
  simp only [fc] at a5 hb5 hb4
  have HX5 := Lib.hid hb5
  have HX6 := Lib.hid hb4
  have HQ6 := Lib.hid (HQ4.out.trans ((q5.trans (a5.mono q5.size)).mono HL4.out))
  have HZ6 : Hid (w.heap.size ≤ z0) := Lib.hid (by rw [HZ0.out]; exact Nat.le_refl _)
  clear a5 hb5 hb4 q5 hp he CD2 HX4 HQ4 HL4
  go_upto_region 8 with fail
  generalize w5.alloc (.cells #[.int .i64 X.snd, .int .i64 X.rnd, .int .i64 X.inc, .int .i64 X.term, .int .i64 X.role, .int .i64 X.vote, .int .i64 X.hrd, .int .i64 X.last, .int .i64 X.lterm, .int .i64 X.ack, .int .i64 X.com, .int .i64 X.prv, .int .i64 X.pterm, .slice A5 X.ps.length k5, .slice A6 X.es.length k6] 29) = W5 at *
  generalize w5.heap.size = g5 at *
  obtain ⟨y0, y1, y2, y3, y4, y5, y6, y7, y8, y9, y10, y11, y12, y13, y14⟩ := HX6.out.fr.cells
  obtain ⟨z1, z2, z3, z4, z5, z6, z7, z8, z9, z10, z11, z12, z13, z14, z15⟩ := HX5.out.fr.cells
  go_wp2_with fail; (refine (HTX.out _ _ _ _ _ _ _ _ _ HX5.out.ps HX5.out.es HX6.out.ps HX6.out.es).mono ?_); rintro e w6 ⟨rfl, q6⟩
  clear y0 y1 y2 y3 y4 y5 y6 y7 y8 y9 y10 y11 y12 y13 y14 z1 z2 z3 z4 z5 z6 z7 z8 z9 z10 z11 z12 z13 z14 z15
  have HQ7 := Lib.hid (HQ6.out.trans (q6.mono (by have := HQ6.out.size; have := HZ0.out; omega)))
  clear q6
  go_wp2_with fail
  go_ret
  exact ⟨rfl, by rw [HZ0.out]; exact HQ7.out⟩
 ·obtain ⟨h5, hF⟩ := HSP.out.2 hB
  have hte := HTN.out hB
  have cd := CD.out w4 (HL.out.below (by rw [HZ0.out]; exact HQ4.out))
  rw [h5, hF] at cd
  have CD2 := Lib.hid cd
  clear HSP HTE HTN CD h5 hF hB cd HTX
  generalize txt B = TB at *
  go_wp2_with fail; refine CD2.out.mono ?_; rintro e w5 ⟨q5, A5, k5, A6, k6, rfl, hp, he⟩
  have a5 := Joins.below_alloc1 w5 (.cells (fc zeroFr (.slice A5 zeroFr.ps.length k5) (.slice A6 zeroFr.es.length k6)) 29)
  have hb5 := FrAt.new w5 zeroFr (.slice A5 zeroFr.ps.length k5) (.slice A6 zeroFr.es.length k6)
  have HQ6 := Lib.hid (HQ4.out.trans ((q5.trans (a5.mono q5.size)).mono HL4.out))
  have HX5 := Lib.hid hb5.cells
  have hzx := HZX.out
  simp only [fc, fv, zeroFr, List.length_nil] at HQ6 HX5 hzx
  have HZY := Lib.hid hzx
  simp only [fv, zeroFr, List.length_nil]
  clear a5 hb5 q5 hp he CD2 HX4 HQ4 HL4 hzx HZX
  go_upto_region 8 with fail
  generalize w5.alloc (.cells #[.int .i64 0, .int .i64 0, .int .i64 0, .int .i64 0, .int .i64 0, .int .i64 0, .int .i64 0, .int .i64 0, .int .i64 0, .int .i64 0, .int .i64 0, .int .i64 0, .int .i64 0, .slice A5 0 k5, .slice A6 0 k6] 29) = W5 at *
  generalize w5.heap.size = g5 at *
  obtain ⟨z1, z2, z3, z4, z5, z6, z7, z8, z9, z10, z11, z12, z13, z14, z15⟩ := HX5.out
  go_wp2_with fail; (refine (HZY.out _ _ _ _ _).mono ?_); rintro e w6 ⟨rfl, q6⟩
  clear z1 z2 z3 z4 z5 z6 z7 z8 z9 z10 z11 z12 z13 z14 z15
  have HQ7 := Lib.hid (HQ6.out.trans (q6.mono (by have := HQ6.out.size; have := HZ0.out; omega)))
  clear q6
  go_wp2_with fail
  go_ret
  exact ⟨rfl, by rw [HZ0.out]; exact HQ7.out⟩
end Go.Proofs.YtlhopgadhkjflaaGreatDoor

/-
  The law FrameCuts, walked.
-/
import Derived.Test.YtlhopgadhkjflaaGreatDoorFrTwoQ
import Derived.Test.YtlhopgadhkjflaaGreatDoorCrcRefBQ
import Derived.Test.YtlhopgadhkjflaaGreatDoorFrCutsQ
namespace Go.Proofs.YtlhopgadhkjflaaGreatDoor
open Go.RowKit
theorem decEF_close (l : List UInt8) : decEF (Crc16.close l) = bodyE l := by
 unfold decEF
 rw [if_pos (C.isClosed_close _), C.opened_close]
theorem decFF_close {l : List UInt8} (h : bodyE l ≠ 0) : decFF (Crc16.close l) = zeroFr := by
 unfold decFF
 rw [if_neg (by rw [decEF_close]; exact h)]
set_option maxRecDepth 100000 in
set_option maxHeartbeats 8000000 in
theorem frameCuts_walk (A : Option Addr) (c : Nat) (l : List Int) (r : F.Raw) (n0 n1 n2 : Int) (A' : Option Addr) (c' : Nat) (raw : List Raw) (p : Int) (more : ByteArray) (wr : F.WfR r) (k0 : (Lit.int .i64 n0).wf = true) (k1 : (Lit.int .i64 n1).wf = true) (k2 : (Lit.int .i64 n2).wf = true) (w4 : (Lit.int .i64 p).wf = true) (z5 : more.size ≤ 140737488351232) (w : World) (L : Laid w) (f0 : IncsOk w A c l) (f3 : RowsOk w A' c' raw) :
  Calls Tryz.prog 7 #[.slice A l.length c, F.rv r, .agg #[.int .i64 n0, .int .i64 n1, .int .i64 n2], .slice A' raw.length c', .int .i64 p, .string more] w fun e w' => e = .returned (.bool true) ∧ Below w.heap.size w w' := by
 obtain ⟨X, hX⟩ : ∃ X, frX l r n0 n1 n2 raw = X := ⟨_, rfl⟩
 have hR : rightF X = true := hX ▸ frX_right l r n0 n1 n2 raw
 have hi := Inp.of f0 f3
 have cF := fun W (h : Inp W A l A' raw) => rawS7_any k0 k1 k2 wr c c' hX W h
 have hbl := body_small hR
 have hbl25 := bodyF_length X
 have hSM := small_rightF hR
 have cE := fun A c A' c' W L h h' => encFP_any X A c A' c' W L h h' hSM
 rw [encEF_right hR, encTF_right hR] at cE
 have hcl : (Crc16.close (bodyF X)).length = (bodyF X).length + 2 := C.close_length _
 have hct : (Crc16.close (bodyF X)).take ((Crc16.close (bodyF X)).length - 2) = bodyF X := by
  have h := C.opened_close (bodyF X)
  unfold C.opened at h
  rw [if_pos (C.isClosed_close _)] at h
  exact h
 have hpr := pickI_range p ((bodyF X).length : Int) (by omega)
 have cP := fun W => pick7_any p ((bodyF X).length : Int) w4 (by omega) W
 obtain ⟨P, hP⟩ : ∃ P : Nat, pickI p ((bodyF X).length : Int) = (P : Int) := ⟨_, (Int.toNat_of_nonneg hpr.1).symm⟩
 rw [hP] at cP hpr
 have hPl : P < (bodyF X).length := by omega
 obtain ⟨mx, hmx⟩ : ∃ mx, mx = (more.data.toList ++ [120]).take (min (more.size + 1) 20) := ⟨_, rfl⟩
 have hml := Lib.size_eq more
 have hmxl : mx.length = min (more.size + 1) 20 := by rw [hmx, List.length_take, List.length_append, ← hml]; simp
 have hmxn : mx ≠ [] := fun e => by rw [e] at hmxl; simp at hmxl; omega
 have e1 := body_cut hR P hPl
 have e2 := body_more hR mx hmxn
 obtain ⟨e3, e4⟩ := body_dec hR
 have cD := fun (b : List UInt8) (hb : b.length ≤ 900) W L => decFP_any (txt (Crc16.close b)) (by rw [txt_size, C.close_length]; omega) W L
 have cC := fun (b : List UInt8) (hb : b.length ≤ 900) W => C.refClose_any (txt b) W (by rw [txt_size]; omega)
 have cD1 := cD ((bodyF X).take P) (by rw [List.length_take]; omega)
 have cD2 := cD (bodyF X ++ mx) (by rw [List.length_append, hmxl]; omega)
 have cD3 := cD (bodyF X) (by omega)
 have cC1 := cC ((bodyF X).take P) (by rw [List.length_take]; omega)
 have cC2 := cC (bodyF X ++ mx) (by rw [List.length_append, hmxl]; omega)
 have cC3 := cC (bodyF X) (by omega)
 rw [txt_data] at cC1 cC2 cC3 cD1 cD2 cD3
 unfold DecFPost at cD1 cD2 cD3
 rw [decEF_close, decFF_close (by rw [e1]; decide), e1] at cD1
 rw [decEF_close, decFF_close (by rw [e2]; decide), e2] at cD2
 have e5 : decFF (Crc16.close (bodyF X)) = X := by unfold decFF; rw [if_pos (by rw [decEF_close]; exact e3), C.opened_close]; exact e4
 rw [decEF_close, e3, e5] at cD3
 have hTs : (txt (Crc16.close (bodyF X))).size = (bodyF X).length + 2 := by rw [txt_size, hcl]
 have hTe : (txt (Crc16.close (bodyF X))).extract 0 (bodyF X).length = txt (bodyF X) := by
  apply ByteArray.ext
  rw [ByteArray.data_extract]
  apply Array.ext'
  rw [Array.toList_extract, List.extract_eq_take_drop, List.drop_zero, txt_data, txt_data, Nat.sub_zero]
  have := hct
  rwa [hcl, Nat.add_sub_cancel] at this
 have hXe : (more ++ (⟨#[120]⟩ : ByteArray)).extract 0 (min (more.size + 1) 20) = txt mx := by
  apply ByteArray.ext
  rw [ByteArray.data_extract]
  apply Array.ext'
  rw [Array.toList_extract, List.extract_eq_take_drop, List.drop_zero, ByteArray.data_append, Array.toList_append, txt_data, hmx, Nat.sub_zero]
 have hPe : (txt (bodyF X)).extract 0 P = txt ((bodyF X).take P) := by
  apply ByteArray.ext
  rw [ByteArray.data_extract]
  apply Array.ext'
  rw [Array.toList_extract, List.extract_eq_take_drop, List.drop_zero, txt_data, txt_data, Nat.sub_zero]
 have hBe : txt (bodyF X) ++ txt mx = txt (bodyF X ++ mx) := by
  apply ByteArray.ext
  rw [ByteArray.data_append]
  apply Array.ext'
  rw [Array.toList_append, txt_data, txt_data, txt_data]
 have q1 := Joins.below_alloc2 w (.cells #[.int .i64 r.a, .int .i64 r.b, .int .i64 r.c, .int .i64 r.d] 23) (.cells #[.int .i64 n0, .int .i64 n1, .int .i64 n2] 24)
 have d1 := (show At4R' (w.alloc (.cells #[.int .i64 r.a, .int .i64 r.b, .int .i64 r.c, .int .i64 r.d] 23)) w.heap.size r from heap_alloc_new w _)
 have d2 := At3.new (w.alloc (.cells #[.int .i64 r.a, .int .i64 r.b, .int .i64 r.c, .int .i64 r.d] 23)) n0 n1 n2
 have d1' : At4R' _ w.heap.size r := ((Joins.below_alloc1 (w.alloc (.cells #[.int .i64 r.a, .int .i64 r.b, .int .i64 r.c, .int .i64 r.d] 23)) (.cells #[.int .i64 n0, .int .i64 n1, .int .i64 n2] 24)).block _ (by simp)).trans d1
 rw [World.size_alloc] at d2
 have cR := fun A c A' c' W L hP hE => rightFP_any X A c A' c' W L hP hE hSM
 rw [hR] at cR
 have CF := Lib.hid cF
 have CE := Lib.hid cE
 have CP := Lib.hid cP
 have CD1 := Lib.hid cD1
 have CD2 := Lib.hid cD2
 have CD3 := Lib.hid cD3
 rw [show C.txt (Crc16.close ((bodyF X).take P)) = txt (Crc16.close ((bodyF X).take P)) from rfl] at cC1
 rw [show C.txt (Crc16.close (bodyF X ++ mx)) = txt (Crc16.close (bodyF X ++ mx)) from rfl] at cC2
 rw [show C.txt (Crc16.close (bodyF X)) = txt (Crc16.close (bodyF X)) from rfl] at cC3
 have HMS : Hid ((txt mx).size ≤ 20) := Lib.hid (by rw [txt_size]; omega)
 have CC1 := Lib.hid cC1
 have CC2 := Lib.hid cC2
 have CC3 := Lib.hid cC3
 have CR := Lib.hid cR
 have HI := Lib.hid (hi.on q1)
 have HL := Lib.hid L
 have HQ := Lib.hid q1
 have D1 := Lib.hid d1'
 have D2 := Lib.hid d2
 have HTS := Lib.hid hTs
 have HTE := Lib.hid hTe
 have HXE := Lib.hid hXe
 have HPE := Lib.hid hPe
 have HBE := Lib.hid hBe
 have hb25 : 25 ≤ (bodyF X).length := by omega
 have hb900 : (bodyF X).length ≤ 446 := hbl
 obtain ⟨bl, hblx⟩ : ∃ bl, (bodyF X).length = bl := ⟨_, rfl⟩
 rw [hblx] at CP HTS HTE hb25 hb900 hPl
 clear cF cE cP cD cC cD1 cD2 cD3 cC1 cC2 cC3 cR hi L q1 d1 d1' d2 hTs hTe hXe hPe hBe hcl hct hpr hP hmx hmxl hmxn e1 e2 e3 e4 e5 hbl hbl25 f0 f3 hX w4 k0 k1 k2 wr hR hSM hblx hml
 obtain ⟨ra, rb, rc, rd⟩ := r
 obtain ⟨W0, hW0⟩ : ∃ W0, W0 = (w.alloc (.cells #[.int .i64 ra, .int .i64 rb, .int .i64 rc, .int .i64 rd] 23)).alloc (.cells #[.int .i64 n0, .int .i64 n1, .int .i64 n2] 24) := ⟨_, rfl⟩
 simp only at HQ HI D1 D2 CF
 rw [← hW0] at HQ HI D1 D2
 go_enter Tryz.func7, Tryz.ntmps7
 go_upto_region 1 with fail
 rw [← hW0]
 clear hW0
 obtain ⟨z0, hz0⟩ : ∃ z, w.heap.size = z := ⟨_, rfl⟩
 have HZ0 := Lib.hid hz0
 rw [hz0] at HQ D1 D2 ⊢
 clear hz0
 have HLE : Hid (z0 ≤ W0.heap.size) := Lib.hid (by have := HQ.out.size; have := HZ0.out; omega)
 go_wp2_with fail; refine (awake7_any _ (HL.out.below (by rw [HZ0.out]; exact HQ.out))).mono ?_; rintro e w1 ⟨rfl, q1⟩
 have HQ1 := Lib.hid (HQ.out.trans (q1.mono HLE.out))
 have HI1 := Lib.hid (HI.out.on q1)
 have E1 : Hid (At4R' w1 z0 ⟨ra, rb, rc, rd⟩) := Lib.hid ((q1.block _ (Array.getElem?_eq_some_iff.1 D1.out).1).trans D1.out)
 have E2 := Lib.hid (D2.out.on q1)
 have HL1 : Hid (z0 ≤ w1.heap.size) := Lib.hid (Nat.le_trans HLE.out q1.size)
 clear q1 HQ HI D1 D2 HLE
 have y0 : w1.cell? ⟨z0, 0, none⟩ = some (.int .i64 ra) := cell_of E1.out 0
 have y1 : w1.cell? ⟨z0, 1, none⟩ = some (.int .i64 rb) := cell_of E1.out 1
 have y2 : w1.cell? ⟨z0, 2, none⟩ = some (.int .i64 rc) := cell_of E1.out 2
 have y3 : w1.cell? ⟨z0, 3, none⟩ = some (.int .i64 rd) := cell_of E1.out 3
 obtain ⟨y4, y5, y6⟩ := E2.out.cells
 have cf := CF.out w1 HI1.out
 simp only [F.rv] at cf
 go_wp2_with fail; refine cf.mono ?_; rintro e w2 ⟨q2, A1, k1, A2, k2, rfl, hp, he⟩
 have HQ2 := Lib.hid (HQ1.out.trans (q2.mono HL1.out))
 have HL2 := Lib.hid (Nat.le_trans HL1.out q2.size)
 have HP2 := Lib.hid hp
 have HE2 := Lib.hid he
 clear y0 y1 y2 y3 y4 y5 y6 cf q2 hp he E1 E2 HI1 CF HQ1 HL1
 go_wp2_with fail; refine (CE.out _ _ _ _ _ (HL.out.below (by rw [HZ0.out]; exact HQ2.out)) HP2.out HE2.out).mono ?_; rintro e w3 ⟨rfl, q3⟩
 have HQ3 := Lib.hid (HQ2.out.trans (q3.mono HL2.out))
 have HL3 := Lib.hid (Nat.le_trans HL2.out q3.size)
 clear q3 HQ2 HL2 HP2 HE2 CE
 generalize txt (Crc16.close (bodyF X)) = T at *
 have hs27 : ¬ (T.size : Int) < 27 := by have := HTS.out; omega
 have hs2 : (2 : Int) ≤ (T.size : Int) := by have := HTS.out; omega
 have hsm : (T.size : Int) ≤ 448 := by have := HTS.out; omega
 have hms : (more.size : Int) ≤ 140737488351232 := by omega
 go_upto_region 7 with fail
 have et : T.size - 2 = bl := by have := HTS.out; omega
 have em : (min ((more.size : Int) + 1) 20).toNat = min (more.size + 1) 20 := by omega
 rw [et, em, HTE.out, HXE.out]
 have HBS : Hid ((txt (bodyF X)).size = bl) := Lib.hid (by rw [← HTE.out, ByteArray.size_extract]; have := HTS.out; omega)
 have hbs : ((txt (bodyF X)).size : Int) = (bl : Int) := by have := HBS.out; omega
 have HBI := Lib.hid hbs
 have cp := CP.out
 rw [← hbs] at cp
 have CPX := Lib.hid cp
 have hPb : (P : Int) ≤ ((txt (bodyF X)).size : Int) := by omega
 clear hbs cp et em CP
 obtain ⟨TB, hTB⟩ : ∃ x, txt (bodyF X) = x := ⟨_, rfl⟩
 obtain ⟨TM, hTM⟩ : ∃ x, txt mx = x := ⟨_, rfl⟩
 obtain ⟨TC, hTC⟩ : ∃ x, txt ((bodyF X).take P) = x := ⟨_, rfl⟩
 obtain ⟨TD, hTD⟩ : ∃ x, txt (bodyF X ++ mx) = x := ⟨_, rfl⟩
 rw [hTB] at CPX HPE HBE CC3 HBI hPb ⊢
 rw [hTM] at HBE ⊢
 rw [hTC] at HPE CC1
 rw [hTD] at HBE CC2
 rw [hTM] at HMS
 have hmi : (TM.size : Int) ≤ 100 := by have := HMS.out; omega
 have htb : (TB.size : Int) ≤ 446 := by have := HBI.out; omega
 clear hTB hTM hTC hTD HTE HXE HBS
 go_wp2_with fail; refine (CPX.out _).mono ?_; rintro e w4 ⟨rfl, rfl⟩
 have hpe : TB.extract 0 P = TC := HPE.out
 go_wp2_with fail; refine (CC1.out _).mono ?_; rintro e w4 ⟨rfl, q⟩
 have HQ4 := Lib.hid (HQ3.out.trans (q.mono HL3.out))
 have HL4 := Lib.hid (Nat.le_trans HL3.out q.size)
 clear q HQ3 HL3 hpe
 go_wp2_with fail; refine (CD1.out _ (HL.out.below (by rw [HZ0.out]; exact HQ4.out))).mono ?_; rintro e w5 ⟨q, A5, k5, A6, k6, rfl, hp, he⟩
 have a := Joins.below_alloc1 w5 (.cells (fc zeroFr (.slice A5 zeroFr.ps.length k5) (.slice A6 zeroFr.es.length k6)) 29)
 have HQ5 := Lib.hid (HQ4.out.trans ((q.trans (a.mono q.size)).mono HL4.out))
 have HL5 := Lib.hid (Nat.le_trans HL4.out (q.trans (a.mono q.size)).size)
 simp only [fc, zeroFr, List.length_nil] at HQ5 HL5
 simp only [fv, zeroFr, List.length_nil]
 clear a q hp he HQ4 HL4
 go_upto_region 8 with fail
 generalize w5.alloc (.cells #[.int .i64 0, .int .i64 0, .int .i64 0, .int .i64 0, .int .i64 0, .int .i64 0, .int .i64 0, .int .i64 0, .int .i64 0, .int .i64 0, .int .i64 0, .int .i64 0, .int .i64 0, .slice A5 0 k5, .slice A6 0 k6] 29) = W5 at *
 generalize w5.heap.size = g5 at *
 have hbe : TB ++ TM = TD := HBE.out
 go_wp2_with fail; refine (CC2.out _).mono ?_; rintro e w6 ⟨rfl, q⟩
 have HQ6 := Lib.hid (HQ5.out.trans (q.mono HL5.out))
 have HL6 := Lib.hid (Nat.le_trans HL5.out q.size)
 clear q HQ5 HL5 hbe
 go_wp2_with fail; refine (CD2.out _ (HL.out.below (by rw [HZ0.out]; exact HQ6.out))).mono ?_; rintro e w7 ⟨q, A7, k7, A8, k8, rfl, hp, he⟩
 have a := Joins.below_alloc1 w7 (.cells (fc zeroFr (.slice A7 zeroFr.ps.length k7) (.slice A8 zeroFr.es.length k8)) 29)
 have HQ7 := Lib.hid (HQ6.out.trans ((q.trans (a.mono q.size)).mono HL6.out))
 have HL7 := Lib.hid (Nat.le_trans HL6.out (q.trans (a.mono q.size)).size)
 simp only [fc, zeroFr, List.length_nil] at HQ7 HL7
 simp only [fv, zeroFr, List.length_nil]
 clear a q hp he HQ6 HL6
 go_upto_region 9 with fail
 generalize w7.alloc (.cells #[.int .i64 0, .int .i64 0, .int .i64 0, .int .i64 0, .int .i64 0, .int .i64 0, .int .i64 0, .int .i64 0, .int .i64 0, .int .i64 0, .int .i64 0, .int .i64 0, .int .i64 0, .slice A7 0 k7, .slice A8 0 k8] 29) = W7 at *
 generalize w7.heap.size = g7 at *
 go_wp2_with fail; refine (CC3.out _).mono ?_; rintro e w8 ⟨rfl, q⟩
 have HQ8 := Lib.hid (HQ7.out.trans (q.mono HL7.out))
 have HL8 := Lib.hid (Nat.le_trans HL7.out q.size)
 clear q HQ7 HL7
 go_wp2_with fail; refine (CD3.out _ (HL.out.below (by rw [HZ0.out]; exact HQ8.out))).mono ?_; rintro e w9 ⟨q, A9, k9, A10, k10, rfl, hp, he⟩
 have a := Joins.below_alloc1 w9 (.cells (fc X (.slice A9 X.ps.length k9) (.slice A10 X.es.length k10)) 29)
 have hbx := Box7.new (f := X) (c := k9) (c' := k10) hp he
 have HQ9 := Lib.hid (HQ8.out.trans ((q.trans (a.mono q.size)).mono HL8.out))
 have HL9 := Lib.hid (Nat.le_trans HL8.out (q.trans (a.mono q.size)).size)
 simp only [fc] at HQ9 HL9 hbx
 have HX9 := Lib.hid hbx
 clear hbx
 clear a q hp he HQ8 HL8
 go_upto_region 10 with fail
 generalize w9.alloc (.cells #[.int .i64 X.snd, .int .i64 X.rnd, .int .i64 X.inc, .int .i64 X.term, .int .i64 X.role, .int .i64 X.vote, .int .i64 X.hrd, .int .i64 X.last, .int .i64 X.lterm, .int .i64 X.ack, .int .i64 X.com, .int .i64 X.prv, .int .i64 X.pterm, .slice A9 X.ps.length k9, .slice A10 X.es.length k10] 29) = W9 at *
 generalize w9.heap.size = g9 at *
 obtain ⟨y0, y1, y2, y3, y4, y5, y6, y7, y8, y9, y10, y11, y12, y13, y14⟩ := HX9.out.fr.cells
 go_wp2_with fail; refine (CR.out _ _ _ _ _ (HL.out.below (by rw [HZ0.out]; exact HQ9.out)) HX9.out.ps HX9.out.es).mono ?_; rintro e w10 ⟨rfl, q⟩
 have HQ10 := Lib.hid (HQ9.out.trans (q.mono HL9.out))
 clear q y0 y1 y2 y3 y4 y5 y6 y7 y8 y9 y10 y11 y12 y13 y14
 go_wp2_with fail
 go_ret
 exact ⟨rfl, by rw [HZ0.out]; exact HQ10.out⟩
end Go.Proofs.YtlhopgadhkjflaaGreatDoor

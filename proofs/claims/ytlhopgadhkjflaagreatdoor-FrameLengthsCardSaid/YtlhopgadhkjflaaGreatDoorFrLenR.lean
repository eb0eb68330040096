/-
  The law FrameLengths, walked.
-/
import Derived.Deep.DeepCutAuto
import Derived.Test.YtlhopgadhkjflaaGreatDoorFrSitsR
import Derived.Test.YtlhopgadhkjflaaGreatDoorFragEncPR
import Derived.Test.YtlhopgadhkjflaaGreatDoorEntEncR
set_option maxHeartbeats 8000000
set_option maxRecDepth 100000
namespace Go.Proofs.YtlhopgadhkjflaaGreatDoor
open Lib (hid)
open Go.RowKit
theorem close_inj7 {a b : List UInt8} (h : Crc16.close a = Crc16.close b) : a = b := by
 have h1 := C.opened_close a
 rw [h, C.opened_close] at h1
 exact h1.symm
theorem enc_same7 {X Y : Fr} (hX : rightF X = true) (hY : rightF Y = true) : ((txt (encTF X)).toList == (txt (encTF Y)).toList) = sameF X Y := by
 rw [Bool.eq_iff_iff, sameF_iff, beq_iff_eq, txt_toList, txt_toList]
 constructor
 ·intro h
  have h2 : encTF X = encTF Y := by simpa using h
  rw [encTF_right hX, encTF_right hY] at h2
  exact bodyF_inj hX hY (close_inj7 h2)
 ·rintro rfl
  rfl
def lenP (l : List F.Pc) (k : Nat) : Nat := ((l.take k).flatMap F.encL).length
def lenE (l : List Ent) (k : Nat) : Nat := ((l.take k).flatMap encEnt).length
theorem lenP_succ {l : List F.Pc} {k : Nat} {x : F.Pc} (h : l[k]? = some x) : lenP l (k + 1) = lenP l k + (F.encL x).length := by
 unfold lenP; rw [flat_take F.encL h, List.length_append]
theorem lenE_succ {l : List Ent} {k : Nat} {x : Ent} (h : l[k]? = some x) : lenE l (k + 1) = lenE l k + (encEnt x).length := by
 unfold lenE; rw [flat_take encEnt h, List.length_append]
theorem frameLengths_walk (A : Option Addr) (c : Nat) (l : List Int) (B : Option Addr) (d : Nat) (m : List Int) (r : F.Raw) (n0 n1 n2 : Int) (A' : Option Addr) (c' : Nat) (raw : List Raw) (wr : F.WfR r) (k0 : (Lit.int .i64 n0).wf = true) (k1 : (Lit.int .i64 n1).wf = true) (k2 : (Lit.int .i64 n2).wf = true) (w : World) (L : Laid w) (f0 : IncsOk w A c l) (f1 : IncsOk w B d m) (f4 : RowsOk w A' c' raw) :
  Calls Tryz.prog 6 #[.slice A l.length c, .slice B m.length d, F.rv r, .agg #[.int .i64 n0, .int .i64 n1, .int .i64 n2], .slice A' raw.length c'] w fun e w' => e = .returned (.bool true) ∧ Below w.heap.size w w' := by
 obtain ⟨X, hX⟩ : ∃ X, frX l r n0 n1 n2 raw = X := ⟨_, rfl⟩
 obtain ⟨Y, hY⟩ : ∃ Y, frX m r n0 n1 n2 raw = Y := ⟨_, rfl⟩
 have hR : rightF X = true := hX ▸ frX_right l r n0 n1 n2 raw
 have hS : rightF Y = true := hY ▸ frX_right m r n0 n1 n2 raw
 have hi := Inp.of f0 f4
 have hj := Inp.of f1 f4
 have cF := fun W (h : Inp W A l A' raw) => rawS7_any k0 k1 k2 wr c c' hX W h
 have cG := fun W (h : Inp W B m A' raw) => rawS7_any k0 k1 k2 wr d c' hY W h
 have hlen := encTF_length hR
 have hps := parts_small hR
 have hSX := small_rightF hR
 have hSY := small_rightF hS
 have cE := fun A c A' c' W L h h' => encFP_any X A c A' c' W L h h' hSX
 have cH := fun A c A' c' W L h h' => encFP_any Y A c A' c' W L h h' hSY
 rw [encEF_right hR] at cE
 rw [encEF_right hS] at cH
 have hst := enc_same7 hR hS
 have cS := fun A B A' B' c d c' d' W h1 h2 h3 h4 => refSame7_any X Y A B A' B' c d c' d' W h1 h2 h3 h4 hSX.1 hSX.2.1 (fun x hx => ⟨(hSX.2.2.2 x hx).1, (hSX.2.2.2 x hx).2.1⟩)
 generalize sameF X Y = sb at *
 obtain ⟨-, -, -, -, -, hop, hoe⟩ := (rightF_iff X).1 hR
 have HPA := hid (oneB_all hop)
 have HEA := hid (oneB_all hoe)
 have hpl := oneB_len hop
 have hel := oneB_len hoe
 have HTL : Hid (((txt (encTF X)).size : Int) = 27 + (lenP X.ps X.ps.length : Int) + (lenE X.es X.es.length : Int)) := hid (by
  rw [txt_size, hlen]
  unfold partsF lenP lenE
  rw [List.take_length, List.take_length, List.length_append]
  omega)
 have HLP : Hid (∀ k, lenP X.ps k ≤ 21) := hid (fun k => by
  have h1 := flat_small F.encL 21 (X.ps.take k) (fun x hx => piece_small (HPA.out x (List.mem_of_mem_take hx)))
  rw [List.length_take] at h1
  unfold lenP
  omega)
 have HLE : Hid (∀ k, k ≤ X.es.length → lenE X.es k ≤ 400) := hid (fun k hk => by
  rcases Nat.lt_or_ge k 1 with h | h
  ·have : k = 0 := by omega
   subst this
   unfold lenE; simp
  ·have : k = X.es.length := by omega
   subst this
   unfold lenE
   rw [List.take_length]; exact hps.2)
 have HRP := hid (fun (p : F.Pc) (hp : F.rightP p = true) W => F.refEncP_any p (by have := ((F.rightP_iff p).1 hp).2.2.2.2; unfold maxLen; omega) W)
 have HRE := hid (fun (x : Ent) (hx : rightE x = true) A c A' c' W h h' => refEncE_any x A c A' c' W h h' (right_lens hx).1 (right_lens hx).2.1 (right_lens hx).2.2)
 have q1 := Joins.below_alloc2 w (.cells #[.int .i64 r.a, .int .i64 r.b, .int .i64 r.c, .int .i64 r.d] 23) (.cells #[.int .i64 n0, .int .i64 n1, .int .i64 n2] 24)
 have d1 := (show At4R' (w.alloc (.cells #[.int .i64 r.a, .int .i64 r.b, .int .i64 r.c, .int .i64 r.d] 23)) w.heap.size r from heap_alloc_new w _)
 have d2 := At3.new (w.alloc (.cells #[.int .i64 r.a, .int .i64 r.b, .int .i64 r.c, .int .i64 r.d] 23)) n0 n1 n2
 have d1' : At4R' _ w.heap.size r := ((Joins.below_alloc1 (w.alloc (.cells #[.int .i64 r.a, .int .i64 r.b, .int .i64 r.c, .int .i64 r.d] 23)) (.cells #[.int .i64 n0, .int .i64 n1, .int .i64 n2] 24)).block _ (by simp)).trans d1
 rw [World.size_alloc] at d2
 have CF := hid cF
 have CG := hid cG
 have CE := hid cE
 have CH := hid cH
 have CS := hid cS
 have HST := hid hst
 have HI := hid (hi.on q1)
 have HJ := hid (hj.on q1)
 have HL := hid L
 have HQ := hid q1
 have D1 := hid d1'
 have D2 := hid d2
 clear cF cG cE cH cS hi hj L q1 d1 d1' d2 hst hlen hps f0 f1 f4 hX hY k0 k1 k2 wr hR hS hSX hSY hop hoe
 obtain ⟨ra, rb, rc, rd⟩ := r
 obtain ⟨W0, hW0⟩ : ∃ W0, W0 = (w.alloc (.cells #[.int .i64 ra, .int .i64 rb, .int .i64 rc, .int .i64 rd] 23)).alloc (.cells #[.int .i64 n0, .int .i64 n1, .int .i64 n2] 24) := ⟨_, rfl⟩
 simp only at HQ HI HJ D1 D2 CF CG
 rw [← hW0] at HQ HI HJ D1 D2
 go_enter Tryz.func6, Tryz.ntmps6
 go_upto_region 1 with fail
 rw [← hW0]
 clear hW0
 obtain ⟨z0, hz0⟩ : ∃ z, w.heap.size = z := ⟨_, rfl⟩
 have HZ0 := hid hz0
 rw [hz0] at HQ D1 D2 ⊢
 clear hz0
 have HLZ : Hid (z0 ≤ W0.heap.size) := hid (by have := HQ.out.size; have := HZ0.out; omega)
 go_wp2_with fail; refine (awake7_any _ (HL.out.below (by rw [HZ0.out]; exact HQ.out))).mono ?_; rintro e w1 ⟨rfl, q1⟩
 have HQ1 := hid (HQ.out.trans (q1.mono HLZ.out))
 have HI1 := hid (HI.out.on q1)
 have HJ1 := hid (HJ.out.on q1)
 have E1 : Hid (At4R' w1 z0 ⟨ra, rb, rc, rd⟩) := hid ((q1.block _ (Array.getElem?_eq_some_iff.1 D1.out).1).trans D1.out)
 have E2 := hid (D2.out.on q1)
 have HL1 : Hid (z0 ≤ w1.heap.size) := hid (Nat.le_trans HLZ.out q1.size)
 clear q1 HQ HI HJ D1 D2 HLZ
 have y0 : w1.cell? ⟨z0, 0, none⟩ = some (.int .i64 ra) := cell_of E1.out 0
 have y1 : w1.cell? ⟨z0, 1, none⟩ = some (.int .i64 rb) := cell_of E1.out 1
 have y2 : w1.cell? ⟨z0, 2, none⟩ = some (.int .i64 rc) := cell_of E1.out 2
 have y3 : w1.cell? ⟨z0, 3, none⟩ = some (.int .i64 rd) := cell_of E1.out 3
 obtain ⟨y4, y5, y6⟩ := E2.out.cells
 have cf := CF.out w1 HI1.out
 simp only [F.rv] at cf
 go_wp2_with fail; refine cf.mono ?_; rintro e w2 ⟨q2, A1, k1, A2, k2, rfl, hp, he⟩
 have hbx := Box7.new (f := X) (c := k1) (c' := k2) hp he
 have a2 := Joins.below_alloc1 w2 (.cells (fc X (.slice A1 X.ps.length k1) (.slice A2 X.es.length k2)) 29)
 simp only [fc] at hbx a2
 have q3 := q2.trans (a2.mono q2.size)
 have HQ2 := hid (HQ1.out.trans (q3.mono HL1.out))
 have HX2 := hid hbx
 have HL2 := hid (Nat.le_trans HL1.out q3.size)
 have HJ2 := hid (HJ1.out.on q3)
 have E12 : Hid (At4R' _ z0 ⟨ra, rb, rc, rd⟩) := hid ((q3.block _ (Array.getElem?_eq_some_iff.1 E1.out).1).trans E1.out)
 have E22 := hid (E2.out.on q3)
 clear y0 y1 y2 y3 y4 y5 y6 cf hp he E1 E2 HI1 HJ1 CF hbx a2 q2 q3 HQ1 HL1
 go_upto_region 3 with fail
 generalize w2.alloc (.cells #[.int .i64 X.snd, .int .i64 X.rnd, .int .i64 X.inc, .int .i64 X.term, .int .i64 X.role, .int .i64 X.vote, .int .i64 X.hrd, .int .i64 X.last, .int .i64 X.lterm, .int .i64 X.ack, .int .i64 X.com, .int .i64 X.prv, .int .i64 X.pterm, .slice A1 X.ps.length k1, .slice A2 X.es.length k2] 29) = W2 at *
 generalize w2.heap.size = g at *
 have y0 : W2.cell? ⟨z0, 0, none⟩ = some (.int .i64 ra) := cell_of E12.out 0
 have y1 : W2.cell? ⟨z0, 1, none⟩ = some (.int .i64 rb) := cell_of E12.out 1
 have y2 : W2.cell? ⟨z0, 2, none⟩ = some (.int .i64 rc) := cell_of E12.out 2
 have y3 : W2.cell? ⟨z0, 3, none⟩ = some (.int .i64 rd) := cell_of E12.out 3
 obtain ⟨y4, y5, y6⟩ := E22.out.cells
 have cg := CG.out W2 HJ2.out
 simp only [F.rv] at cg
 go_wp2_with fail; refine cg.mono ?_; rintro e w3 ⟨q2, B1, j1, B2, j2, rfl, hp, he⟩
 have hbx := Box7.new (f := Y) (c := j1) (c' := j2) hp he
 have a2 := Joins.below_alloc1 w3 (.cells (fc Y (.slice B1 Y.ps.length j1) (.slice B2 Y.es.length j2)) 29)
 simp only [fc] at hbx a2
 have q3 := q2.trans (a2.mono q2.size)
 have HQ3 := hid (HQ2.out.trans (q3.mono HL2.out))
 have HX3 := hid (HX2.out.on q3)
 have HY3 := hid hbx
 have HL3 := hid (Nat.le_trans HL2.out q3.size)
 clear y0 y1 y2 y3 y4 y5 y6 cg hp he E12 E22 HJ2 CG hbx a2 q2 q3 HQ2 HL2 HX2
 go_upto_region 4 with fail
 generalize w3.alloc (.cells #[.int .i64 Y.snd, .int .i64 Y.rnd, .int .i64 Y.inc, .int .i64 Y.term, .int .i64 Y.role, .int .i64 Y.vote, .int .i64 Y.hrd, .int .i64 Y.last, .int .i64 Y.lterm, .int .i64 Y.ack, .int .i64 Y.com, .int .i64 Y.prv, .int .i64 Y.pterm, .slice B1 Y.ps.length j1, .slice B2 Y.es.length j2] 29) = W3 at *
 generalize w3.heap.size = g' at *
 generalize fv X (.slice A1 X.ps.length k1) (.slice A2 X.es.length k2) = dead1
 generalize fv Y (.slice B1 Y.ps.length j1) (.slice B2 Y.es.length j2) = dead2
 obtain ⟨y0, y1, y2, y3, y4, y5, y6, y7, y8, y9, y10, y11, y12, y13, y14⟩ := HX3.out.fr.cells
 go_wp2_with fail; refine (CE.out _ _ _ _ _ (HL.out.below (by rw [HZ0.out]; exact HQ3.out)) HX3.out.ps HX3.out.es).mono ?_; rintro e w4 ⟨rfl, q4⟩
 have HQ4 := hid (HQ3.out.trans (q4.mono HL3.out))
 have HX4 := hid (HX3.out.on q4)
 have HY4 := hid (HY3.out.on q4)
 have HL4 := hid (Nat.le_trans HL3.out q4.size)
 clear q4 HQ3 HX3 HY3 HL3 y0 y1 y2 y3 y4 y5 y6 y7 y8 y9 y10 y11 y12 y13 y14 CE
 obtain ⟨y0, y1, y2, y3, y4, y5, y6, y7, y8, y9, y10, y11, y12, y13, y14⟩ := HY4.out.fr.cells
 go_wp2_with fail; refine (CH.out _ _ _ _ _ (HL.out.below (by rw [HZ0.out]; exact HQ4.out)) HY4.out.ps HY4.out.es).mono ?_; rintro e w5 ⟨rfl, q4⟩
 have HQ5 := hid (HQ4.out.trans (q4.mono HL4.out))
 have HX5 := hid (HX4.out.on q4)
 have HY5 := hid (HY4.out.on q4)
 have HL5 := hid (Nat.le_trans HL4.out q4.size)
 clear q4 HQ4 HX4 HY4 HL4 y0 y1 y2 y3 y4 y5 y6 y7 y8 y9 y10 y11 y12 y13 y14 CH
 generalize txt (encTF X) = T at *
 generalize txt (encTF Y) = U at *
 go_upto_region 7 with fail
 generalize Value.agg #[.int .i64 X.snd, .int .i64 X.rnd, .int .i64 X.inc, .int .i64 X.term, .int .i64 X.role, .int .i64 X.vote, .int .i64 X.hrd, .int .i64 X.last, .int .i64 X.lterm, .int .i64 X.ack, .int .i64 X.com, .int .i64 X.prv, .int .i64 X.pterm, .slice A1 X.ps.length k1, .slice A2 X.es.length k2] = dead3
 generalize Value.agg #[.int .i64 Y.snd, .int .i64 Y.rnd, .int .i64 Y.inc, .int .i64 Y.term, .int .i64 Y.role, .int .i64 Y.vote, .int .i64 Y.hrd, .int .i64 Y.last, .int .i64 Y.lterm, .int .i64 Y.ack, .int .i64 Y.com, .int .i64 Y.prv, .int .i64 Y.pterm, .slice B1 Y.ps.length j1, .slice B2 Y.es.length j2] = dead4
 have HW0 := hid (Below.refl w5.heap.size w5)
 have HP0 : Hid (lenP X.ps 0 = 0) := hid rfl
 have HE0 : Hid (lenE X.es 0 = 0) := hid rfl
 go_wp2_with fail
 go_loopw [18, 19] (fun v i wr => ∃ k : Nat, k ≤ X.ps.length ∧ i = .int .i64 k ∧ v = .int .i64 (27 + (lenP X.ps k : Int)) ∧ Below w5.heap.size w5 wr) (fun _ i _ => X.ps.length - (intOf i).toNat)
 case atStart => exact ⟨0, by omega, rfl, by rw [HP0.out]; rfl, HW0.out⟩
 case round =>
  obtain ⟨k, hk, rfl, rfl, hb⟩ := hrel
  have HB := hid hb; clear hb HW0 HP0
  have HXR := hid (HX5.out.on HB.out)
  obtain ⟨-, -, -, -, -, -, -, -, -, -, -, -, -, y13, y14⟩ := HXR.out.fr.cells
  have hlp := HLP.out k
  by_cases hlt : k < X.ps.length
  ·have hkI : (k : Int) < (X.ps.length : Int) := by omega
   obtain ⟨p, hp⟩ : ∃ p, X.ps[k]? = some p := ⟨_, List.getElem?_eq_getElem hlt⟩
   have hpr := HPA.out p (List.mem_of_getElem? hp)
   have ce := HRP.out p hpr
   rw [piece_txt hpr, show F.encPE p = 0 by unfold F.encPE; rw [if_pos hpr]] at ce
   have hps := piece_small hpr
   have T1 := hid (lenP_succ hp)
   have htp : (txt (F.encL p)).size = (F.encL p).length := txt_size _
   obtain ⟨ad, hA, hadb, hcc⟩ := HXR.out.ps (by omega)
   subst hA
   obtain ⟨x0, x1, x2, x3⟩ := hcc k p hp
   have CE2 := hid ce
   have htps : ((txt (F.encL p)).size : Int) ≤ 21 := by omega
   have HTP := hid htp
   clear hp hpr ce hps htp hcc
   generalize txt (F.encL p) = TP at *
   generalize lenP X.ps k = lp at *
   go_wp2_with fail; (refine (CE2.out _).mono ?_); rintro e w6 ⟨rfl, b⟩
   have HB6 := hid (HB.out.trans (b.mono HB.out.size)); clear b
   go_wp2_with fail
   go_roundw
   case rel => exact ⟨k + 1, by omega, by go_num, by rw [T1.out]; have := HTP.out; congr 1; omega, HB6.out⟩
   case measure => simp [intOf]; omega
  ·have ek : k = X.ps.length := by omega
   have HEN : Hid (k = X.ps.length) := hid ek
   have HLK : Hid (lenP X.ps k = lenP X.ps X.ps.length) := hid (by rw [ek])
   have hkI : ¬ (k : Int) < (X.ps.length : Int) := by omega
   have hkd : decide (k < X.ps.length) = false := by rw [decide_eq_false_iff_not]; exact hlt
   clear ek
   generalize lenP X.ps k = lp at *
   go_wp2_with fail
   clear y13 y14 hkI hkd hlt
   go_loopw [18, 22] (fun v i wr => ∃ j : Nat, j ≤ X.es.length ∧ i = .int .i64 j ∧ v = .int .i64 (27 + (lp : Int) + (lenE X.es j : Int)) ∧ Below w5.heap.size w5 wr) (fun _ i _ => X.es.length - (intOf i).toNat)
   case atStart => exact ⟨0, by omega, rfl, by rw [HE0.out]; simp, HB.out⟩
   case round =>
    obtain ⟨j, hj, rfl, rfl, hb⟩ := hrel
    have HB2 := hid hb; clear hb
    have HXS := hid (HX5.out.on HB2.out)
    obtain ⟨-, -, -, -, -, -, -, -, -, -, -, -, -, y13, y14⟩ := HXS.out.fr.cells
    have hle := HLE.out j hj
    by_cases hlt : j < X.es.length
    ·have hkI : (j : Int) < (X.es.length : Int) := by omega
     obtain ⟨x, hx⟩ : ∃ x, X.es[j]? = some x := ⟨_, List.getElem?_eq_getElem hlt⟩
     have hxr := HEA.out x (List.mem_of_getElem? hx)
     have T1 := hid (lenE_succ hx)
     have htp : (txt (encEnt x)).size = (encEnt x).length := txt_size _
     have hxs := HLE.out (j + 1) (by omega)
     rw [T1.out] at hxs
     obtain ⟨ad, hA, hadb, hcc⟩ := HXS.out.es (by omega)
     subst hA
     obtain ⟨U1, u1, U2, u2, ⟨x0, x1, x2, x3, x4⟩, hr1, hm1⟩ := hcc j x hx
     have ce := HRE.out x hxr U1 u1 U2 u2 _ hr1 hm1
     rw [encTE_right hxr] at ce
     have CE2 := hid ce
     have htps : ((txt (encEnt x)).size : Int) ≤ 400 := by omega
     have HTP := hid htp
     clear hx hxr ce hxs htp hcc hr1 hm1
     generalize txt (encEnt x) = TP at *
     generalize lenE X.es j = le at *
     go_wp2_with fail; (refine CE2.out.mono ?_); rintro e w6 ⟨rfl, b⟩
     have HB6 := hid (HB2.out.trans (b.mono HB2.out.size)); clear b
     go_wp2_with fail
     go_roundw
     case rel => exact ⟨j + 1, by omega, by go_num, by rw [T1.out]; have := HTP.out; congr 1; omega, HB6.out⟩
     case measure => simp [intOf]; omega
    ·have ej : j = X.es.length := by omega
     have HTS : Hid ((T.size : Int) = 27 + (lp : Int) + (lenE X.es j : Int)) := hid (by rw [HTL.out, ← HLK.out, ej])
     have hkI : ¬ (j : Int) < (X.es.length : Int) := by omega
     have hkd : decide (j < X.es.length) = false := by rw [decide_eq_false_iff_not]; exact hlt
     generalize lenE X.es j = le at *
     have hts : ((T.size : Int) == 27 + (lp : Int) + (le : Int)) = true := by rw [HTS.out]; simp
     have HYS := hid (HY5.out.on HB2.out)
     have hst := HST.out
     clear ej y13 y14 HTS
     obtain ⟨y0, y1, y2, y3, y4, y5, y6, y7, y8, y9, y10, y11, y12, y13, y14⟩ := HXS.out.fr.cells
     obtain ⟨z1, z2, z3, z4, z5, z6, z7, z8, z9, z10, z11, z12, z13, z14, z15⟩ := HYS.out.fr.cells
     go_wp2_with fail; (refine (CS.out _ _ _ _ _ _ _ _ _ HXS.out.ps HXS.out.es HYS.out.ps HYS.out.es).mono ?_); rintro e w6 ⟨rfl, b⟩
     have HB6 := hid (HB2.out.trans (b.mono HB2.out.size)); clear b
     clear y0 y1 y2 y3 y4 y5 y6 y7 y8 y9 y10 y11 y12 y13 y14 z1 z2 z3 z4 z5 z6 z7 z8 z9 z10 z11 z12 z13 z14 z15
     go_wp2_with fail
     go_ret
     exact ⟨rfl, by rw [HZ0.out]; exact HQ5.out.trans (HB6.out.mono HL5.out)⟩
end Go.Proofs.YtlhopgadhkjflaaGreatDoor

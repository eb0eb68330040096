/-
  A frame's bytes, by the program.
-/
import Derived.Test.YtmmbnjkdknnidaaGreatDoorFrHeadOfV
import Derived.Test.YtmmbnjkdknnidaaGreatDoorFrSameV
import Derived.Test.YtmmbnjkdknnidaaGreatDoorCrcCloseV
import Derived.Test.YtmmbnjkdknnidaaGreatDoorCrcBurstsV
import Derived.Test.YtmmbnjkdknnidaaGreatDoorOncePhaseV
set_option maxHeartbeats 8000000
set_option maxRecDepth 100000
namespace Go.Proofs.YtmmbnjkdknnidaaGreatDoor
open Lib (hid)
open Go.RowKit
def encTF (f : Fr) : List UInt8 := if rightF f = true then Crc16.close (bodyF f) else []
def encEF (f : Fr) : Int := if rightF f = true then 0 else 1
theorem encTF_right {f : Fr} (h : rightF f = true) : encTF f = Crc16.close (bodyF f) := by unfold encTF; rw [if_pos h]
theorem encEF_right {f : Fr} (h : rightF f = true) : encEF f = 0 := by unfold encEF; rw [if_pos h]
theorem parts_small {f : Fr} (h : rightF f = true) : (f.ps.flatMap F.encL).length ≤ 21 ∧ (f.es.flatMap encEnt).length ≤ 400 := by
 obtain ⟨-, -, -, -, -, hp, he⟩ := (rightF_iff f).1 h
 have h1 := flat_small F.encL 21 f.ps (fun x hx => piece_small (oneB_all hp x hx))
 have h2 := flat_small encEnt 359 f.es (fun x hx => encEnt_small (oneB_all he x hx))
 have := oneB_len hp
 have := oneB_len he
 constructor <;> omega
theorem headF_length (f : Fr) : (headF f).length = 25 := by
 have h := ahead_length f
 rw [List.length_append] at h
 unfold headF
 rw [List.length_append, List.length_append]; simp; omega
theorem body_small {f : Fr} (h : rightF f = true) : (bodyF f).length ≤ 446 := by
 obtain ⟨h1, h2⟩ := parts_small h
 rw [bodyF_length]; unfold partsF; rw [List.length_append]; omega
theorem headF_any (f : Fr) (A : Option Addr) (c : Nat) (A' : Option Addr) (c' : Nat) (hr : rightF f = true) (w : World) : Calls Tryz.prog 45 #[fv f (.slice A f.ps.length c) (.slice A' f.es.length c')] w fun e W' => e = .returned (.string (txt (headF f))) ∧ Below w.heap.size w W' := callsIn_wide.1 (head_in 4 (Nat.le_refl _) f A c A' c' hr w)
theorem encFP_any (f : Fr) (A : Option Addr) (c : Nat) (A' : Option Addr) (c' : Nat) (w : World) (L : Laid w) (hP : F.Pcs w w.heap.size A f.ps) (hE : Ents w w.heap.size A' f.es) (hs : SmallF f) :
  Calls Tryz.prog 17 #[fv f (.slice A f.ps.length c) (.slice A' f.es.length c')] w fun e w' => e = .returned (.tuple #[.string (txt (encTF f)), .int .i64 (encEF f)]) ∧ Below w.heap.size w w' := by
 have b0 := Joins.below_alloc1 w (.cells (fc f (.slice A f.ps.length c) (.slice A' f.es.length c')) 29)
 have a0 := FrAt.new w f (.slice A f.ps.length c) (.slice A' f.es.length c')
 have p0 := (hP.below b0 (Nat.le_refl _)).more b0.size
 have e0 := (hE.below b0 (Nat.le_refl _)).more b0.size
 have L0 := L.below b0
 have cR := rightFP_any f A c A' c' _ L0 p0 e0 hs
 have HB0 := hid b0
 have HA0 := hid a0
 have HP0 := hid p0
 have HE0 := hid e0
 have HL0 := hid L0
 obtain ⟨y0, y1, y2, y3, y4, y5, y6, y7, y8, y9, y10, y11, y12, y13, y14⟩ := a0.cells
 clear b0 a0 p0 e0 L0 L hP hE
 cases hr : rightF f
 ·rw [hr] at cR
  rw [show encTF f = [] by unfold encTF; rw [hr]; rfl, show encEF f = 1 by unfold encEF; rw [hr]; rfl]
  clear hr
  go_enter Tryz.func17, Tryz.ntmps17
  go_wp2_with fail; refine cR.mono ?_; rintro e w1 ⟨rfl, q1⟩
  go_wp2_with fail
  go_ret2
  exact ⟨rfl, HB0.out.trans (q1.mono HB0.out.size)⟩
 ·rw [hr] at cR
  rw [encTF_right hr, encEF_right hr]
  have hr0 := (rightF_iff f).1 hr
  obtain ⟨-, -, -, -, -, hps, hes⟩ := hr0
  have C1 := hid (fun W => headF_any f A c A' c' hr W)
  have C2 := hid (fun W h => partsP_any A c f.ps W h hps)
  have C3 := hid (fun W L h => partsE_any A' c' f.es W L h hes)
  have hsm := parts_small hr
  have hhl := headF_length f
  have hAD1 := add_txt (headF f) (f.ps.flatMap F.encL) (headF f ++ f.ps.flatMap F.encL) rfl (by omega)
  have hAD2 := add_txt (headF f ++ f.ps.flatMap F.encL) (f.es.flatMap encEnt) (bodyF f) (by rw [← head_body]; unfold partsF; simp) (by rw [List.length_append]; omega)
  have C4 := hid (fun W => C.close_any (txt (bodyF f)) W (by rw [txt_size]; have := body_small hr; omega))
  have HTD : Hid (C.txt (Crc16.close (txt (bodyF f)).data.toList) = txt (Crc16.close (bodyF f))) := hid (by rw [txt_data]; rfl)
  rw [HTD.out] at C4
  have AD1 := hid hAD1
  have AD2 := hid hAD2
  clear hAD1 hAD2 hsm hhl hps hes hr HTD
  generalize headF f ++ f.ps.flatMap F.encL = T2 at *
  generalize headF f = T1 at *
  generalize f.ps.flatMap F.encL = TP at *
  generalize f.es.flatMap encEnt = TE at *
  generalize Crc16.close (bodyF f) = TC at *
  generalize bodyF f = TB at *
  obtain ⟨n0, n1, n2, n3, n4, n5, n6, n7, n8, n9, n10, n11, n12, ps, es⟩ := f
  simp only at *
  generalize ps.length = pn at *
  generalize es.length = en at *
  go_enter Tryz.func17, Tryz.ntmps17
  go_wp2_with fail; refine cR.mono ?_; rintro e w1 ⟨rfl, q1⟩
  have HB1 := hid (HB0.out.trans (q1.mono HB0.out.size))
  have HA1 := hid (HA0.out.on q1)
  have HP1 := hid ((HP0.out.below q1 (Nat.le_refl _)).more q1.size)
  have HE1 := hid ((HE0.out.below q1 (Nat.le_refl _)).more q1.size)
  have HL1 := hid (HL0.out.below q1)
  clear q1 y0 y1 y2 y3 y4 y5 y6 y7 y8 y9 y10 y11 y12 y13 y14 HB0 HA0 HP0 HE0 HL0
  generalize hbb : w.heap.size = b at *
  have HBB : Hid (w.heap.size = b) := hid hbb; clear hbb
  have HLE : Hid (b ≤ w1.heap.size) := hid (by have := HB1.out.size; have := HBB.out; omega)
  go_upto_region 3 with fail
  have HV : ∃ O : Nat → (Nat → Value) → World → Prop, O = (fun ix u wv => match ix with
   | 0 => u 0 = .agg #[.int .i64 n0, .int .i64 n1, .int .i64 n2, .int .i64 n3, .int .i64 n4, .int .i64 n5, .int .i64 n6, .int .i64 n7, .int .i64 n8, .int .i64 n9, .int .i64 n10, .int .i64 n11, .int .i64 n12, .slice A pn c, .slice A' en c']
   | 1 => u 1 = .string (txt T1)
   | 2 => u 2 = .pointer (some ⟨b, 13, none⟩)
   | 3 => u 3 = .slice A pn c
   | 4 => u 4 = .string (txt TP)
   | 5 => u 5 = .string (txt T2)
   | 6 => u 6 = .pointer (some ⟨b, 14, none⟩)
   | 7 => u 7 = .slice A' en c'
   | 8 => u 8 = .string (txt TE)
   | 9 => u 9 = .string (txt TB)
   | 10 => u 10 = .string (txt TC)
   | 11 => u 11 = .string (txt TC)
   | 12 => u 12 = .int .i64 0
   | _ => True) := ⟨_, rfl⟩
  obtain ⟨O, hd7⟩ := HV
  have O0 : ∀ u wv, O 0 u wv = (u 0 = .agg #[.int .i64 n0, .int .i64 n1, .int .i64 n2, .int .i64 n3, .int .i64 n4, .int .i64 n5, .int .i64 n6, .int .i64 n7, .int .i64 n8, .int .i64 n9, .int .i64 n10, .int .i64 n11, .int .i64 n12, .slice A pn c, .slice A' en c']) := fun _ _ => by subst hd7; rfl
  have O1 : ∀ u wv, O 1 u wv = (u 1 = .string (txt T1)) := fun _ _ => by subst hd7; rfl
  have O2 : ∀ u wv, O 2 u wv = (u 2 = .pointer (some ⟨b, 13, none⟩)) := fun _ _ => by subst hd7; rfl
  have O3 : ∀ u wv, O 3 u wv = (u 3 = .slice A pn c) := fun _ _ => by subst hd7; rfl
  have O4 : ∀ u wv, O 4 u wv = (u 4 = .string (txt TP)) := fun _ _ => by subst hd7; rfl
  have O5 : ∀ u wv, O 5 u wv = (u 5 = .string (txt T2)) := fun _ _ => by subst hd7; rfl
  have O6 : ∀ u wv, O 6 u wv = (u 6 = .pointer (some ⟨b, 14, none⟩)) := fun _ _ => by subst hd7; rfl
  have O7 : ∀ u wv, O 7 u wv = (u 7 = .slice A' en c') := fun _ _ => by subst hd7; rfl
  have O8 : ∀ u wv, O 8 u wv = (u 8 = .string (txt TE)) := fun _ _ => by subst hd7; rfl
  have O9 : ∀ u wv, O 9 u wv = (u 9 = .string (txt TB)) := fun _ _ => by subst hd7; rfl
  have O10 : ∀ u wv, O 10 u wv = (u 10 = .string (txt TC)) := fun _ _ => by subst hd7; rfl
  have O11 : ∀ u wv, O 11 u wv = (u 11 = .string (txt TC)) := fun _ _ => by subst hd7; rfl
  have O12 : ∀ u wv, O 12 u wv = (u 12 = .int .i64 0) := fun _ _ => by subst hd7; rfl
  have HVD := hid hd7
  clear hd7
  refine region_each (V := O) (drop := fun _ _ => false) (G := fun wv => Below w1.heap.size w1 wv) (Rel := fun jx wv wv' => Below wv.heap.size wv wv') (by kernel_rfl) (by kernel_rfl) (Below.refl _ _).drew ?hmonoq1 ?hdepq1 ⟨?s0_q1, ?s1_q1, ?s2_q1, ?s3_q1, ?s4_q1, ?s5_q1, ?s6_q1, ?s7_q1, ?s8_q1, ?s9_q1, ?s10_q1, ?s11_q1, ?s12_q1, trivial⟩ ?behindq1
  case hmonoq1 =>
   intro ix jx u wv wv' hij hw hd hr
   rw [HVD.out]
   dsimp only
   split <;> intro h <;> first | exact trivial | exact h
  case hdepq1 =>
   intro ix u u' wv h1 h2
   rw [HVD.out]
   dsimp only
   split <;> intro h <;> first | exact trivial | (rw [← h1]; exact h)
  case s0_q1 =>
   refine owe rfl fun a wx val hG hV hN hO K hK => ?_
   have e1 : a.tmps[1]? = some (.pointer (some ⟨b, 0, none⟩)) := (hO 1).trans (by rfl)
   clear hV hN hO
   obtain ⟨y0, y1, y2, y3, y4, y5, y6, y7, y8, y9, y10, y11, y12, y13, y14⟩ := (HA1.out.on hG).cells
   go_simp
   exact hK.out _ _ (by rw [O0, upd_at] <;> (congr 1 <;> omega)) (Below.refl _ _) hG
  case s1_q1 =>
   refine owe rfl fun a wx val hG hV hN hO K hK => ?_
   have e7 := hN 0 7
   have f7 := hV 0
   rw [O0] at f7; rw [f7] at e7; clear f7
   clear hV hN hO
   go_simp
   refine (C1.out _).mono ?_
   rintro e w11 ⟨rfl, hb⟩
   exact hK.out _ _ (by rw [O1, upd_at]) hb (hG.trans (hb.mono hG.size))
  case s2_q1 =>
   refine owe rfl fun a wx val hG hV hN hO K hK => ?_
   have e1 : a.tmps[1]? = some (.pointer (some ⟨b, 0, none⟩)) := (hO 1).trans (by rfl)
   clear hV hN hO
   go_simp
   exact hK.out _ _ (by rw [O2, upd_at] <;> (congr 1 <;> omega)) (Below.refl _ _) hG
  case s3_q1 =>
   refine owe rfl fun a wx val hG hV hN hO K hK => ?_
   have e9 := hN 2 9
   have f9 := hV 2
   rw [O2] at f9; rw [f9] at e9; clear f9
   clear hV hN hO
   obtain ⟨y0, y1, y2, y3, y4, y5, y6, y7, y8, y9, y10, y11, y12, y13, y14⟩ := (HA1.out.on hG).cells
   go_simp
   exact hK.out _ _ (by rw [O3, upd_at] <;> (congr 1 <;> omega)) (Below.refl _ _) hG
  case s4_q1 =>
   refine owe rfl fun a wx val hG hV hN hO K hK => ?_
   have e10 := hN 3 10
   have f10 := hV 3
   rw [O3] at f10; rw [f10] at e10; clear f10
   clear hV hN hO
   go_simp
   refine (C2.out _ ((HP1.out.below hG (Nat.le_refl _)).more hG.size)).mono ?_
   rintro e w11 ⟨rfl, hb⟩
   exact hK.out _ _ (by rw [O4, upd_at]) hb (hG.trans (hb.mono hG.size))
  case s5_q1 =>
   refine owe rfl fun a wx val hG hV hN hO K hK => ?_
   have e8 := hN 1 8
   have f8 := hV 1
   rw [O1] at f8; rw [f8] at e8; clear f8
   have e11 := hN 4 11
   have f11 := hV 4
   rw [O4] at f11; rw [f11] at e11; clear f11
   clear hV hN hO
   obtain ⟨q1, q2⟩ := AD1.out
   go_simp
   exact hK.out _ _ (by rw [O5, upd_at] <;> (congr 1 <;> omega)) (Below.refl _ _) hG
  case s6_q1 =>
   refine owe rfl fun a wx val hG hV hN hO K hK => ?_
   have e1 : a.tmps[1]? = some (.pointer (some ⟨b, 0, none⟩)) := (hO 1).trans (by rfl)
   clear hV hN hO
   go_simp
   exact hK.out _ _ (by rw [O6, upd_at] <;> (congr 1 <;> omega)) (Below.refl _ _) hG
  case s7_q1 =>
   refine owe rfl fun a wx val hG hV hN hO K hK => ?_
   have e13 := hN 6 13
   have f13 := hV 6
   rw [O6] at f13; rw [f13] at e13; clear f13
   clear hV hN hO
   obtain ⟨y0, y1, y2, y3, y4, y5, y6, y7, y8, y9, y10, y11, y12, y13, y14⟩ := (HA1.out.on hG).cells
   go_simp
   exact hK.out _ _ (by rw [O7, upd_at] <;> (congr 1 <;> omega)) (Below.refl _ _) hG
  case s8_q1 =>
   refine owe rfl fun a wx val hG hV hN hO K hK => ?_
   have e14 := hN 7 14
   have f14 := hV 7
   rw [O7] at f14; rw [f14] at e14; clear f14
   clear hV hN hO
   go_simp
   refine (C3.out _ (HL1.out.below hG) ((HE1.out.below hG (Nat.le_refl _)).more hG.size)).mono ?_
   rintro e w11 ⟨rfl, hb⟩
   exact hK.out _ _ (by rw [O8, upd_at]) hb (hG.trans (hb.mono hG.size))
  case s9_q1 =>
   refine owe rfl fun a wx val hG hV hN hO K hK => ?_
   have e12 := hN 5 12
   have f12 := hV 5
   rw [O5] at f12; rw [f12] at e12; clear f12
   have e15 := hN 8 15
   have f15 := hV 8
   rw [O8] at f15; rw [f15] at e15; clear f15
   clear hV hN hO
   obtain ⟨q1, q2⟩ := AD2.out
   go_simp
   exact hK.out _ _ (by rw [O9, upd_at] <;> (congr 1 <;> omega)) (Below.refl _ _) hG
  case s10_q1 =>
   refine owe rfl fun a wx val hG hV hN hO K hK => ?_
   have e16 := hN 9 16
   have f16 := hV 9
   rw [O9] at f16; rw [f16] at e16; clear f16
   clear hV hN hO
   go_simp
   refine (C4.out _).mono ?_
   rintro e w11 ⟨rfl, hb⟩
   exact hK.out _ _ (by rw [O10, upd_at]) hb (hG.trans (hb.mono hG.size))
  case s11_q1 =>
   refine owe rfl fun a wx val hG hV hN hO K hK => ?_
   have e17 := hN 10 17
   have f17 := hV 10
   rw [O10] at f17; rw [f17] at e17; clear f17
   clear hV hN hO
   go_simp
   exact hK.out _ _ (by rw [O11, upd_at] <;> (congr 1 <;> omega)) (Below.refl _ _) hG
  case s12_q1 =>
   refine owe rfl fun a wx val hG hV hN hO K hK => ?_
   clear hV hN hO
   go_simp
   exact hK.out _ _ (by rw [O12, upd_at] <;> (congr 1 <;> omega)) (Below.refl _ _) hG
  intro val wx hG hV
  have f0 := hV 0 (by simp) (fun _ _ => by rfl)
  rw [O0] at f0
  have f1 := hV 1 (by simp) (fun _ _ => by rfl)
  rw [O1] at f1
  have f2 := hV 2 (by simp) (fun _ _ => by rfl)
  rw [O2] at f2
  have f3 := hV 3 (by simp) (fun _ _ => by rfl)
  rw [O3] at f3
  have f4 := hV 4 (by simp) (fun _ _ => by rfl)
  rw [O4] at f4
  have f5 := hV 5 (by simp) (fun _ _ => by rfl)
  rw [O5] at f5
  have f6 := hV 6 (by simp) (fun _ _ => by rfl)
  rw [O6] at f6
  have f7 := hV 7 (by simp) (fun _ _ => by rfl)
  rw [O7] at f7
  have f8 := hV 8 (by simp) (fun _ _ => by rfl)
  rw [O8] at f8
  have f9 := hV 9 (by simp) (fun _ _ => by rfl)
  rw [O9] at f9
  have f10 := hV 10 (by simp) (fun _ _ => by rfl)
  rw [O10] at f10
  have f11 := hV 11 (by simp) (fun _ _ => by rfl)
  rw [O11] at f11
  have f12 := hV 12 (by simp) (fun _ _ => by rfl)
  rw [O12] at f12
  clear hV O0 O1 O2 O3 O4 O5 O6 O7 O8 O9 O10 O11 O12
  simp only [putAll, Act.put, List.setIfInBounds_toArray, List.set_cons_zero, List.set_cons_succ]
  generalize val 0 = z0, val 1 = z1, val 2 = z2, val 3 = z3, val 4 = z4, val 5 = z5, val 6 = z6, val 7 = z7, val 8 = z8, val 9 = z9, val 10 = z10, val 11 = z11, val 12 = z12 at *
  subst f0 f1 f2 f3 f4 f5 f6 f7 f8 f9 f10 f11 f12
  clear HVD
  go_wp2_with fail
  go_ret2
  exact ⟨rfl, by rw [HBB.out]; exact HB1.out.trans (hG.mono HLE.out)⟩
end Go.Proofs.YtmmbnjkdknnidaaGreatDoor

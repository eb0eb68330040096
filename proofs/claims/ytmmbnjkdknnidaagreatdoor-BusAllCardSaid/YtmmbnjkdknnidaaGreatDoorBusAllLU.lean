/-
  Layer 9: the law BusAll.
-/
import Derived.Deep.DeepCutAuto
import Derived.Test.YtmmbnjkdknnidaaGreatDoorBusAwakeU
import Derived.Test.YtmmbnjkdknnidaaGreatDoorBusDecU
set_option maxHeartbeats 8000000
set_option maxRecDepth 100000
namespace Go.Proofs.YtmmbnjkdknnidaaGreatDoor
open Lib (hid)
open Go.RowKit Go.Shelf
structure FltsOk (w : World) (A : Option Addr) (c : Nat) (l : List (Int × Int × Int)) : Prop where
 row : Flts w w.heap.size A l
 len : l.length ≤ c ∧ c ≤ maxLen
theorem Flts.more {w : World} {B B' : Nat} {A : Option Addr} {l : List (Int × Int × Int)} (h : Flts w B A l) (hB : B ≤ B') : Flts w B' A l := fun hn => by
 obtain ⟨ad, e, hk, hc⟩ := h hn
 exact ⟨ad, e, by omega, hc⟩
theorem Flts.front {w : World} {B : Nat} {A : Option Addr} {l : List (Int × Int × Int)} (h : Flts w B A l) (n : Nat) : Flts w B A (l.take n) := fun hn => by
 obtain ⟨ad, e, hb, hc⟩ := h (by rw [List.length_take] at hn; omega)
 refine ⟨ad, e, hb, fun j x hx => hc j x ?_⟩
 have hj : j < (l.take n).length := (List.getElem?_eq_some_iff.1 hx).1
 rw [List.length_take] at hj
 rwa [List.getElem?_take_of_lt (by omega)] at hx
theorem row9_front {w : World} {B : Nat} {A : Option Addr} {l : List Int} (h : V.Row w B A l) (n : Nat) : V.Row w B A (l.take n) := fun hn => by
 obtain ⟨ad, e, hb, hc⟩ := h (by rw [List.length_take] at hn; omega)
 refine ⟨ad, e, hb, fun j x hx => hc j x ?_⟩
 have hj : j < (l.take n).length := (List.getElem?_eq_some_iff.1 hx).1
 rw [List.length_take] at hj
 rwa [List.getElem?_take_of_lt (by omega)] at hx
theorem flts_one (W : World) (x y z : Int) : Flts (W.alloc (.cells #[.int .i64 x, .int .i64 y, .int .i64 z] 61)) (W.heap.size + 1) (some ⟨W.heap.size, 0, none⟩) [(x, y, z)] := fun _ => ⟨_, rfl, Nat.lt_succ_self _, fun j f hf => by
 have hj : j < 1 := (List.getElem?_eq_some_iff.1 hf).1
 have hh := heap_alloc_new W (.cells #[.int .i64 x, .int .i64 y, .int .i64 z] 61)
 obtain rfl : j = 0 := by omega
 simp at hf; subst hf
 exact ⟨cell_of hh 0, cell_of hh 1, cell_of hh 2⟩⟩
theorem flt_info : (Tryz.prog.info? 61).map (fun i => (i.zero, i.size, i.bytes)) = some (some (.agg #[.int .i64 0, .int .i64 0, .int .i64 0]), 3, 24) := by kernel_rfl
theorem take_ints (A : Option Addr) (n c : Nat) (hl : n ≤ c) (w : World) : (Instr.slice 22 (.slice A n c) none (some (.int .i64 (min (n : Int) 10))) none).run Tryz.prog w = .ok (.slice A (min n 10) c) w := by
 have hu : Tryz.prog.underlying 22 = some (.slice (Tryz.prog.elem 22)) := by kernel_rfl
 have hs : ∀ w, (sizeOf (Tryz.prog.elem 22)).run Tryz.prog w = .ok 1 w := fun w => by
  obtain ⟨i0, hi, hz0, hz1, hz2⟩ := info_parts V.int_info
  have he : Tryz.prog.elem 22 = 3 := by kernel_rfl
  rw [he]
  simp [sizeOf, typeInfo, hi, hz1]
 rw [run_slice_h w 22 A n c hu .i64 (min (n : Int) 10) (by omega) (by omega), hs]
 have e : (min (n : Int) 10).toNat = min n 10 := by omega
 rw [e]
 simp only [Result.andThen, sliced, Nat.zero_mul, Nat.sub_zero]
 rw [show (if c = 0 then A else Option.map (fun x => x.add 0) A) = A from by
  split
  ·rfl
  ·cases A with
   | none => rfl
   | some ad => simp [Addr.add]]
theorem take_faults (A : Option Addr) (n c : Nat) (hl : n ≤ c) (w : World) : (Instr.slice 57 (.slice A n c) none (some (.int .i64 (min (n : Int) 10))) none).run Tryz.prog w = .ok (.slice A (min n 10) c) w := by
 have hu : Tryz.prog.underlying 57 = some (.slice (Tryz.prog.elem 57)) := by kernel_rfl
 have hs : ∀ w, (sizeOf (Tryz.prog.elem 57)).run Tryz.prog w = .ok 3 w := fun w => by
  obtain ⟨i0, hi, hz0, hz1, hz2⟩ := info_parts flt_info
  have he : Tryz.prog.elem 57 = 61 := by kernel_rfl
  rw [he]
  simp [sizeOf, typeInfo, hi, hz1]
 rw [run_slice_h w 57 A n c hu .i64 (min (n : Int) 10) (by omega) (by omega), hs]
 have e : (min (n : Int) 10).toNat = min n 10 := by omega
 rw [e]
 simp only [Result.andThen, sliced, Nat.zero_mul, Nat.sub_zero]
 rw [show (if c = 0 then A else Option.map (fun x => x.add 0) A) = A from by
  split
  ·rfl
  ·cases A with
   | none => rfl
   | some ad => simp [Addr.add]]
theorem howL_at (s : ByteArray) (win : Int) (devs : List Int) (l : List (Int × Int × Int)) {k n : Nat} (hk : k < n) : (howL s win devs l n)[k]? = some (howAt s win devs l k) := by
 unfold howL
 rw [List.getElem?_map, List.getElem?_range hk]; rfl
theorem howAt_one (s : ByteArray) (win dev : Int) (x y z : Int) : howL s win [dev] [(x, y, z)] 1 = [hearV (passS s x y z) (passB x y z) dev win] := rfl
theorem busAll_walk (A : Option Addr) (c : Nat) (l : List Int) (r : F.Raw) (n0 n1 n2 : Int) (A' : Option Addr) (c' : Nat) (raw : List Raw) (A4 : Option Addr) (c4 : Nat) (l4 : List (Int × Int × Int)) (A5 : Option Addr) (c5 : Nat) (l5 : List Int) (a6 : Int) (wr : F.WfR r) (k0 : (Lit.int .i64 n0).wf = true) (k1 : (Lit.int .i64 n1).wf = true) (k2 : (Lit.int .i64 n2).wf = true) (w6 : (Lit.int .i64 a6).wf = true) (w : World) (L : Laid w) (f0 : IncsOk w A c l) (f3 : RowsOk w A' c' raw) (f4 : FltsOk w A4 c4 l4) (f5 : IncsOk w A5 c5 l5) :
  Calls Tryz.prog 11 #[.slice A l.length c, F.rv r, .agg #[.int .i64 n0, .int .i64 n1, .int .i64 n2], .slice A' raw.length c', .slice A4 l4.length c4, .slice A5 l5.length c5, .int .i64 a6] w fun e w' => e = .returned (.bool true) ∧ Below w.heap.size w w' := by
 obtain ⟨X, hX⟩ : ∃ X, frX l r n0 n1 n2 raw = X := ⟨_, rfl⟩
 have hR : rightF X = true := hX ▸ frX_right l r n0 n1 n2 raw
 have hi := Inp.of f0 f3
 have cF := fun W (h : Inp W A l A' raw) => rawS7_any k0 k1 k2 wr c c' hX W h
 have hlen := encTF_length hR
 have hbl := body_small hR
 rw [bodyF_length] at hbl
 have hsz : (txt (encTF X)).size ≤ 1000 := by rw [txt_size]; omega
 have hSM := small_rightF hR
 have cE := fun A c A' c' W L h h' => encFP_any X A c A' c' W L h h' hSM
 rw [encEF_right hR] at cE
 obtain ⟨p0, p1⟩ := pickI_range a6 1001 (by omega)
 have cP := fun W => pick9_any a6 1001 w6 (by omega) W
 generalize pickI a6 1001 = win at *
 have t4 := fun W => take_faults A4 l4.length c4 f4.len.1 W
 have t5 := fun W => take_ints A5 l5.length c5 f5.len.1 W
 obtain ⟨FL, hFL⟩ : ∃ x, l4.take 10 = x := ⟨_, rfl⟩
 obtain ⟨DL, hDL⟩ : ∃ x, l5.take 10 = x := ⟨_, rfl⟩
 have hn4 : min l4.length 10 = FL.length := by rw [← hFL, List.length_take]; omega
 have hn5 : min l5.length 10 = DL.length := by rw [← hDL, List.length_take]; omega
 rw [hn4] at t4
 rw [hn5] at t5
 have hf4 : Flts w w.heap.size A4 FL := hFL ▸ f4.row.front 10
 have hd5 : V.Row w w.heap.size A5 DL := hDL ▸ row9_front f5.row 10
 have hFn : FL.length ≤ 10 := by omega
 have hDn : DL.length ≤ 10 := by omega
 have q1 := Joins.below_alloc2 w (.cells #[.int .i64 r.a, .int .i64 r.b, .int .i64 r.c, .int .i64 r.d] 23) (.cells #[.int .i64 n0, .int .i64 n1, .int .i64 n2] 24)
 have d1 := (show At4R' (w.alloc (.cells #[.int .i64 r.a, .int .i64 r.b, .int .i64 r.c, .int .i64 r.d] 23)) w.heap.size r from heap_alloc_new w _)
 have d2 := At3.new (w.alloc (.cells #[.int .i64 r.a, .int .i64 r.b, .int .i64 r.c, .int .i64 r.d] 23)) n0 n1 n2
 have d1' : At4R' _ w.heap.size r := ((Joins.below_alloc1 (w.alloc (.cells #[.int .i64 r.a, .int .i64 r.b, .int .i64 r.c, .int .i64 r.d] 23)) (.cells #[.int .i64 n0, .int .i64 n1, .int .i64 n2] 24)).block _ (by simp)).trans d1
 rw [World.size_alloc] at d2
 have CF := hid cF
 have CE := hid cE
 have CP := hid cP
 have T4 := hid t4
 have T5 := hid t5
 have HI := hid (hi.on q1)
 have HL := hid L
 have HQ := hid q1
 have D1 := hid d1'
 have D2 := hid d2
 have HF4 := hid hf4
 have HD5 := hid hd5
 clear cF cE cP t4 t5 hi L q1 d1 d1' d2 hbl hlen f0 f3 f4 f5 hX w6 k0 k1 k2 wr hn4 hn5 hFL hDL hf4 hd5 hSM hR
 obtain ⟨ra, rb, rc, rd⟩ := r
 obtain ⟨W0, hW0⟩ : ∃ W0, W0 = (w.alloc (.cells #[.int .i64 ra, .int .i64 rb, .int .i64 rc, .int .i64 rd] 23)).alloc (.cells #[.int .i64 n0, .int .i64 n1, .int .i64 n2] 24) := ⟨_, rfl⟩
 simp only at HQ HI D1 D2 CF
 rw [← hW0] at HQ HI D1 D2
 have CH := hid (fun (k a m dev : Int) W L => hear_any (txt (encTF X)) k a m dev win hsz W L)
 have CA := hid (fun (dl : List Int) (A : Option Addr) (c : Nat) (fl : List (Int × Int × Int)) (A' : Option Addr) (c' : Nat) (h1 : dl.length ≤ 1000000) (h2 : fl.length ≤ 1000) W hL hD hF => all_any (txt (encTF X)) hsz win dl A c fl A' c' h1 h2 W hL hD hF)
 clear hsz
 go_enter Tryz.func11, Tryz.ntmps11
 go_upto_region 1 with fail
 rw [← hW0]
 clear hW0
 obtain ⟨z0, hz0⟩ : ∃ z, w.heap.size = z := ⟨_, rfl⟩
 have HZ0 := hid hz0
 rw [hz0] at HQ D1 D2 HF4 HD5 ⊢
 clear hz0
 have HLL : Hid (∀ W, Below z0 w W → Laid W) := hid (fun W hb => HL.out.below (by rw [HZ0.out]; exact hb))
 have HLE : Hid (z0 ≤ W0.heap.size) := hid (by have := HQ.out.size; have := HZ0.out; omega)
 clear HL
 go_wp2_with fail; refine (awake9_any _ (HLL.out _ HQ.out)).mono ?_; rintro e w1 ⟨rfl, q1⟩
 have HQ1 := hid (HQ.out.trans (q1.mono HLE.out))
 have HI1 := hid (HI.out.on q1)
 have E1 : Hid (At4R' w1 z0 ⟨ra, rb, rc, rd⟩) := hid ((q1.block _ (Array.getElem?_eq_some_iff.1 D1.out).1).trans D1.out)
 have E2 := hid (D2.out.on q1)
 have HL1 : Hid (z0 ≤ w1.heap.size) := hid (Nat.le_trans HLE.out q1.size)
 clear q1 HQ HI D1 D2 HLE
 have y0 : w1.cell? ⟨z0, 0, none⟩ = some (.int .i64 ra) := cell_of E1.out 0
 have y1 : w1.cell? ⟨z0, 1, none⟩ = some (.int .i64 rb) := cell_of E1.out 1
 have y2 : w1.cell? ⟨z0, 2, none⟩ = some (.int .i64 rc) := cell_of E1.out 2
 have y3 : w1.cell? ⟨z0, 3, none⟩ = some (.int .i64 rd) := cell_of E1.out 3
 obtain ⟨y4, y5, y6⟩ := E2.out.cells
 have cf := CF.out w1 HI1.out
 simp only [F.rv] at cf
 go_wp2_with fail; refine cf.mono ?_; rintro e w2 ⟨q2, A1, k1, A2, k2, rfl, hp, he⟩
 have HQ2 := hid (HQ1.out.trans (q2.mono HL1.out))
 have HL2 := hid (Nat.le_trans HL1.out q2.size)
 have CE2 := hid (CE.out _ k1 _ k2 _ (HLL.out _ HQ2.out) hp he)
 clear y0 y1 y2 y3 y4 y5 y6 cf hp he E1 E2 HI1 CF CE q2 HQ1 HL1
 go_wp2_with fail; refine CE2.out.mono ?_; rintro e w3 ⟨rfl, q3⟩
 have HQ3 := hid (HQ2.out.trans (q3.mono HL2.out))
 have HL3 := hid (Nat.le_trans HL2.out q3.size)
 clear q3 HQ2 HL2 CE2
 generalize txt (encTF X) = S at *
 have t4 := T4.out
 have t5 := T5.out
 clear T4 T5
 go_wp2_with fail; (with_reducible refine (CP.out _).mono ?_); rintro e w4 ⟨rfl, rfl⟩
 have HDz := hid (fun W (hb : Below z0 w W) => HD5.out.below hb (Nat.le_refl _))
 have HFz := hid (fun W (hb : Below z0 w W) => HF4.out.below hb (Nat.le_refl _))
 clear HD5 HF4
 have CA3 := hid (CA.out DL A5 c5 FL A4 c4 (by omega) (by omega) w3 (HLL.out _ HQ3.out) ((HDz.out _ HQ3.out).more HL3.out) ((HFz.out _ HQ3.out).more HL3.out))
 clear CP
 go_wp2_with fail; refine CA3.out.mono ?_; rintro e w5 ⟨u, rfl, ho, q5⟩
 have HQ5 := hid (HQ3.out.trans (q5.mono HL3.out))
 have HL5 := hid (Nat.le_trans HL3.out q5.size)
 have hhl := howL_length S win DL FL FL.length
 have hat := fun k (hk : k < FL.length) => howL_at S win DL FL (k := k) (n := FL.length) hk
 generalize howL S win DL FL FL.length = HS at *
 rw [← hhl] at ho
 obtain ⟨U, uc, rfl, huc, hur⟩ := V.Row.of_own ho
 rw [hhl] at ho huc ⊢
 have HU := hid hur
 have HAT := hid hat
 have HSL := hid hhl
 have hne : ((FL.length : Int) != (FL.length : Int)) = false := by simp
 clear q5 HQ3 HL3 CA3 ho hhl hur hat t4 t5
 go_wp2_with fail
 obtain ⟨nF, hnF⟩ : ∃ n, FL.length = n := ⟨_, rfl⟩
 have HNF := hid hnF
 rw [hnF] at hFn ⊢
 clear hnF hne
 have HW0 := hid (Below.refl w5.heap.size w5)
 go_loopw [22] (fun i wr => ∃ k : Nat, k ≤ nF ∧ i = .int .i64 k ∧ Below w5.heap.size w5 wr) (fun i _ => nF - (intOf i).toNat)
 case atStart => exact ⟨0, by omega, rfl, HW0.out⟩
 case round =>
  obtain ⟨k, hk, rfl, hb⟩ := hrel
  have HB := hid hb; clear hb HW0
  have HBz := hid (HQ5.out.trans (HB.out.mono HL5.out))
  have HLz := hid (Nat.le_trans HL5.out HB.out.size)
  by_cases hlt : k < nF
  ·have hkI : (k : Int) < (nF : Int) := by omega
   obtain ⟨⟨fk, fa, fm⟩, hf⟩ : ∃ f, FL[k]? = some f := ⟨_, List.getElem?_eq_getElem (by rw [HNF.out]; exact hlt)⟩
   obtain ⟨ad, eA, hadb, hcc⟩ := (HFz.out w (Below.refl _ _)) (by rw [HNF.out]; omega)
   subst eA
   have hx : ∀ W, Below z0 w W → W.cell? (ad.add (k * 3)) = some (.int .i64 fk) ∧ W.cell? ⟨(ad.add (k * 3)).block, (ad.add (k * 3)).off + 1, none⟩ = some (.int .i64 fa) ∧ W.cell? ⟨(ad.add (k * 3)).block, (ad.add (k * 3)).off + 2, none⟩ = some (.int .i64 fm) := fun W hb => by
    obtain ⟨h1, h2, h3⟩ := hcc k _ hf
    exact ⟨(hb.cell (by rw [adb]; exact hadb)).trans h1, (hb.cell (by show (ad.add (k * 3)).block < _; rw [adb]; exact hadb)).trans h2, (hb.cell (by show (ad.add (k * 3)).block < _; rw [adb]; exact hadb)).trans h3⟩
   obtain ⟨uad, eU, huadb, huc2⟩ := HU.out (by rw [HSL.out, HNF.out]; omega)
   subst eU
   have hux : ∀ W, Below w5.heap.size w5 W → W.cell? (uad.add k) = some (.int .i64 (howAt S win DL FL k)) := fun W hb => (hb.cell (by rw [adb]; exact huadb)).trans (huc2 k _ (HAT.out k (by rw [HNF.out]; exact hlt)))
   obtain ⟨dev, hdev⟩ : ∃ d, devI DL k = d := ⟨_, rfl⟩
   have hov : howAt S win DL FL k = hearV (passS S fk fa fm) (passB fk fa fm) dev win := by unfold howAt; rw [hf, hdev]
   rw [hov] at hux
   have CHk := hid (fun W L => CH.out fk fa fm dev W L)
   have CAk := hid (fun (A : Option Addr) (A' : Option Addr) W hL hD hF => CA.out [dev] A 1 [(fk, fa, fm)] A' 1 (by simp) (by simp) W hL hD hF)
   rw [show ([(fk, fa, fm)] : List (Int × Int × Int)).length = 1 from rfl, howAt_one] at CAk
   have HX := hid hx
   have HUX := hid hux
   have HAD := hid (show ad.block < z0 by exact hadb)
   have HUAD := hid huadb
   clear hcc hf hx huc2 hux hov hadb huadb CH CA
   generalize hearF (passS S fk fa fm) (passB fk fa fm) dev win = RF at *
   generalize hearV (passS S fk fa fm) (passB fk fa fm) dev win = RV at *
   by_cases hdn : k < DL.length
   ·have hdI : (k : Int) < (DL.length : Int) := by omega
    obtain ⟨dad, eD, hdb, hdc⟩ := (HDz.out _ HBz.out) (by omega)
    subst eD
    have hd1 := hdc k dev (by rw [← hdev]; unfold devI; rw [List.getD_eq_getElem?_getD, List.getElem?_eq_getElem hdn]; rfl)
    clear hdc hdev
    go_upto_region 15 with fail
    clear hd1 hdb hdI
    obtain ⟨y0, y1, y2⟩ := HX.out _ HBz.out
    go_wp2_with fail; (refine (CHk.out _ (HLL.out _ HBz.out)).mono ?_); rintro e v1 ⟨q6, P1, m1, P2, m2, rfl, -, -⟩
    have a6 := Joins.below_alloc1 v1 (.cells (fc RF (.slice P1 RF.ps.length m1) (.slice P2 RF.es.length m2)) 29)
    have q7 := q6.trans (a6.mono q6.size)
    have HB7 := hid (HB.out.trans (q7.mono HB.out.size))
    have HBz7 := hid (HBz.out.trans (q7.mono HLz.out))
    have HLz7 := hid (Nat.le_trans HLz.out q7.size)
    simp only [fc] at HB7 HBz7 HLz7
    clear y0 y1 y2 a6 q6 q7 CHk
    go_upto_region 16 with fail
    generalize v1.alloc (.cells #[.int .i64 RF.snd, .int .i64 RF.rnd, .int .i64 RF.inc, .int .i64 RF.term, .int .i64 RF.role, .int .i64 RF.vote, .int .i64 RF.hrd, .int .i64 RF.last, .int .i64 RF.lterm, .int .i64 RF.ack, .int .i64 RF.com, .int .i64 RF.prv, .int .i64 RF.pterm, .slice P1 RF.ps.length m1, .slice P2 RF.es.length m2] 29) = X7 at *
    generalize (Value.tuple #[fv RF (.slice P1 RF.ps.length m1) (.slice P2 RF.es.length m2), .int .i64 RV]) = dd1
    generalize fv RF (.slice P1 RF.ps.length m1) (.slice P2 RF.es.length m2) = dd2
    have b1 := Joins.below_alloc1 X7 (.cells #[.int .i64 dev] 3)
    have hD := row9_one X7 dev
    have hz := flts_one (X7.alloc (.cells #[.int .i64 dev] 3)) fk fa fm
    have b2 := Joins.below_alloc1 (X7.alloc (.cells #[.int .i64 dev] 3)) (.cells #[.int .i64 fk, .int .i64 fa, .int .i64 fm] 61)
    obtain ⟨Z1, hZ1⟩ : ∃ P, P = X7.alloc (.cells #[.int .i64 dev] 3) := ⟨_, rfl⟩
    have hs1 : Z1.heap.size = X7.heap.size + 1 := by rw [hZ1, World.size_alloc]
    replace hD : V.Row Z1 Z1.heap.size (some ⟨X7.heap.size, 0, none⟩) [dev] := by rw [hs1, hZ1]; exact hD
    rw [← hZ1] at hz b1 b2
    obtain ⟨Z2, hZ2⟩ : ∃ P, P = Z1.alloc (.cells #[.int .i64 fk, .int .i64 fa, .int .i64 fm] 61) := ⟨_, rfl⟩
    have hs2 : Z2.heap.size = Z1.heap.size + 1 := by rw [hZ2, World.size_alloc]
    rw [← hZ2] at hz b2
    rw [← hs2] at hz
    have b3 := b1.trans (b2.mono (by omega))
    have HB8 := hid (HB7.out.trans (b3.mono HB7.out.size))
    have HBz8 := hid (HBz7.out.trans (b3.mono HLz7.out))
    have CA8 := hid (CAk.out (some ⟨X7.heap.size, 0, none⟩) (some ⟨Z1.heap.size, 0, none⟩) Z2 (HLL.out _ HBz8.out) ((hD.below b2 (Nat.le_refl _)).more b2.size) hz)
    have b1z : Below z0 w Z1 := HBz7.out.trans (b1.mono HLz7.out)
    have hxz := HX.out _ b1z
    clear CAk hz hD b1 b2 b3 hs2 b1z
    subst hZ2
    rw [hs1] at CA8
    subst hZ1
    clear hs1
    obtain ⟨y0, y1, y2⟩ := hxz
    go_wp2_with fail
    refine CA8.out.mono ?_; rintro e v7 ⟨u1, rfl, ho, b⟩
    have HB9 := hid (HB8.out.trans (b.mono HB8.out.size))
    obtain ⟨U1, uc1, rfl, huc1, hur1⟩ := V.Row.of_own (l := [RV]) ho
    obtain ⟨uad1, eU1, -, huc3⟩ := hur1 (by simp)
    subst eU1
    have g0 := huc3 0 RV rfl
    have g1 := HUX.out _ HB9.out
    have g2 : uad1.add 0 = uad1 := by simp [Addr.add]
    rw [g2] at g0
    clear y0 y1 y2 b HB7 HB8 HBz7 HBz8 HLz7 CA8 ho hur1 huc1 huc3 g2
    have hrr : (RV != RV) = false := by simp
    go_wp2_with fail
    go_roundw
    case rel => exact ⟨k + 1, by omega, by go_num, HB9.out⟩
    case measure => simp [intOf]; omega
   ·have hdI : ¬ (k : Int) < (DL.length : Int) := by omega
    have hd0 : dev = 0 := by rw [← hdev]; unfold devI; rw [List.getD_eq_getElem?_getD, List.getElem?_eq_none (by omega)]; rfl
    subst hd0
    clear hdev
    go_upto_region 15 with fail
    clear hdI
    obtain ⟨y0, y1, y2⟩ := HX.out _ HBz.out
    go_wp2_with fail; (refine (CHk.out _ (HLL.out _ HBz.out)).mono ?_); rintro e v1 ⟨q6, P1, m1, P2, m2, rfl, -, -⟩
    have a6 := Joins.below_alloc1 v1 (.cells (fc RF (.slice P1 RF.ps.length m1) (.slice P2 RF.es.length m2)) 29)
    have q7 := q6.trans (a6.mono q6.size)
    have HB7 := hid (HB.out.trans (q7.mono HB.out.size))
    have HBz7 := hid (HBz.out.trans (q7.mono HLz.out))
    have HLz7 := hid (Nat.le_trans HLz.out q7.size)
    simp only [fc] at HB7 HBz7 HLz7
    clear y0 y1 y2 a6 q6 q7 CHk
    go_upto_region 16 with fail
    generalize v1.alloc (.cells #[.int .i64 RF.snd, .int .i64 RF.rnd, .int .i64 RF.inc, .int .i64 RF.term, .int .i64 RF.role, .int .i64 RF.vote, .int .i64 RF.hrd, .int .i64 RF.last, .int .i64 RF.lterm, .int .i64 RF.ack, .int .i64 RF.com, .int .i64 RF.prv, .int .i64 RF.pterm, .slice P1 RF.ps.length m1, .slice P2 RF.es.length m2] 29) = X7 at *
    generalize (Value.tuple #[fv RF (.slice P1 RF.ps.length m1) (.slice P2 RF.es.length m2), .int .i64 RV]) = dd1
    generalize fv RF (.slice P1 RF.ps.length m1) (.slice P2 RF.es.length m2) = dd2
    have b1 := Joins.below_alloc1 X7 (.cells #[.int .i64 0] 3)
    have hD := row9_one X7 0
    have hz := flts_one (X7.alloc (.cells #[.int .i64 0] 3)) fk fa fm
    have b2 := Joins.below_alloc1 (X7.alloc (.cells #[.int .i64 0] 3)) (.cells #[.int .i64 fk, .int .i64 fa, .int .i64 fm] 61)
    obtain ⟨Z1, hZ1⟩ : ∃ P, P = X7.alloc (.cells #[.int .i64 0] 3) := ⟨_, rfl⟩
    have hs1 : Z1.heap.size = X7.heap.size + 1 := by rw [hZ1, World.size_alloc]
    replace hD : V.Row Z1 Z1.heap.size (some ⟨X7.heap.size, 0, none⟩) [0] := by rw [hs1, hZ1]; exact hD
    rw [← hZ1] at hz b1 b2
    obtain ⟨Z2, hZ2⟩ : ∃ P, P = Z1.alloc (.cells #[.int .i64 fk, .int .i64 fa, .int .i64 fm] 61) := ⟨_, rfl⟩
    have hs2 : Z2.heap.size = Z1.heap.size + 1 := by rw [hZ2, World.size_alloc]
    rw [← hZ2] at hz b2
    rw [← hs2] at hz
    have b3 := b1.trans (b2.mono (by omega))
    have HB8 := hid (HB7.out.trans (b3.mono HB7.out.size))
    have HBz8 := hid (HBz7.out.trans (b3.mono HLz7.out))
    have CA8 := hid (CAk.out (some ⟨X7.heap.size, 0, none⟩) (some ⟨Z1.heap.size, 0, none⟩) Z2 (HLL.out _ HBz8.out) ((hD.below b2 (Nat.le_refl _)).more b2.size) hz)
    have b1z : Below z0 w Z1 := HBz7.out.trans (b1.mono HLz7.out)
    have hxz := HX.out _ b1z
    clear CAk hz hD b1 b2 b3 hs2 b1z
    subst hZ2
    rw [hs1] at CA8
    subst hZ1
    clear hs1
    obtain ⟨y0, y1, y2⟩ := hxz
    go_wp2_with fail
    refine CA8.out.mono ?_; rintro e v7 ⟨u1, rfl, ho, b⟩
    have HB9 := hid (HB8.out.trans (b.mono HB8.out.size))
    obtain ⟨U1, uc1, rfl, huc1, hur1⟩ := V.Row.of_own (l := [RV]) ho
    obtain ⟨uad1, eU1, -, huc3⟩ := hur1 (by simp)
    subst eU1
    have g0 := huc3 0 RV rfl
    have g1 := HUX.out _ HB9.out
    have g2 : uad1.add 0 = uad1 := by simp [Addr.add]
    rw [g2] at g0
    clear y0 y1 y2 b HB7 HB8 HBz7 HBz8 HLz7 CA8 ho hur1 huc1 huc3 g2
    have hrr : (RV != RV) = false := by simp
    go_wp2_with fail
    go_roundw
    case rel => exact ⟨k + 1, by omega, by go_num, HB9.out⟩
    case measure => simp [intOf]; omega
  ·have hkI : ¬ (k : Int) < (nF : Int) := by omega
   go_wp2_with fail
   go_ret
   exact ⟨rfl, by rw [HZ0.out]; exact HBz.out⟩
end Go.Proofs.YtmmbnjkdknnidaaGreatDoor

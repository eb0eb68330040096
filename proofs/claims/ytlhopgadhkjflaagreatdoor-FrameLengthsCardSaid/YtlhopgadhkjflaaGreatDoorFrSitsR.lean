/-
  What the frames' laws have in common: raw frames by contract, frames in boxes.
-/
import Derived.Test.YtlhopgadhkjflaaGreatDoorFrReadR
import Derived.Test.YtlhopgadhkjflaaGreatDoorFrCatchR
import Derived.Test.YtlhopgadhkjflaaGreatDoorCrcCloseR
import Derived.Test.YtlhopgadhkjflaaGreatDoorCrcBurstsR
import Derived.Test.YtlhopgadhkjflaaGreatDoorFrEncPR
import Derived.Test.YtlhopgadhkjflaaGreatDoorFrSameR
import Derived.Lib.ConvBytes
import Derived.ScopeJumps
import Derived.Test.YtlhopgadhkjflaaGreatDoorFrRawR
set_option maxHeartbeats 8000000
set_option maxRecDepth 100000
namespace Go.Proofs.YtlhopgadhkjflaaGreatDoor
open Lib (hid)
open Go.RowKit
def decEF (l : List UInt8) : Int := if C.isClosed l = true then bodyE (C.opened l) else 5
def decFF (l : List UInt8) : Fr := if decEF l = 0 then frameD (C.opened l) else zeroFr
def DecFPost (l : List UInt8) (w : World) (e : Ending) (w' : World) : Prop := Below w.heap.size w w' ∧ ∃ A c A' c', e = .returned (.tuple #[fv (decFF l) (.slice A (decFF l).ps.length c) (.slice A' (decFF l).es.length c'), .int .i64 (decEF l)]) ∧ F.Pcs w' w'.heap.size A (decFF l).ps ∧ Ents w' w'.heap.size A' (decFF l).es
theorem decF_none {l : List UInt8} {E : Int} (h : decEF l = E) (hE : E ≠ 0) {w w' : World} (hb : Below w.heap.size w w') : DecFPost l w (.returned (.tuple #[fv zeroFr (.slice none 0 0) (.slice none 0 0), .int .i64 E])) w' := by
 have hz : decFF l = zeroFr := by unfold decFF; rw [if_neg (by rw [h]; exact hE)]
 unfold DecFPost
 rw [hz, h]
 exact ⟨hb, none, 0, none, 0, rfl, F.Pcs.nil _ _ _, Ents.nil _ _ _⟩
theorem opened_len (l : List UInt8) : (C.opened l).length ≤ l.length := by
 unfold C.opened
 split
 ·rw [List.length_take]; omega
 ·simp
theorem decFP_any (s : ByteArray) (hs : s.size ≤ 1000) (w : World) (L : Laid w) : Calls Tryz.prog 22 #[.string s] w (DecFPost s.data.toList w) := by
 have hmf : ∀ (fn : Fn) (first cap : Array Value) (w : World), (Instr.makeFunc fn first cap).run Tryz.prog w = .ok (.func fn first cap) w := fun _ _ _ _ => rfl
 have hl := Lib.size_eq s
 have cO := fun W => C.open_any s W (by omega)
 have hol := opened_len s.data.toList
 have hEE : decEF s.data.toList = if C.isClosed s.data.toList = true then bodyE (C.opened s.data.toList) else 5 := rfl
 have HFF : Hid (∀ h : decEF s.data.toList = 0, decFF s.data.toList = frameD (C.opened s.data.toList)) := hid (fun h => by unfold decFF; rw [if_pos h])
 have HEE := hid hEE
 have hrd := read_any (txt (C.opened s.data.toList)) (by rw [txt_size]; omega)
 rw [txt_data] at hrd
 have HRD := hid hrd
 have hts : C.txt (C.opened s.data.toList) = txt (C.opened s.data.toList) := rfl
 rw [hts] at cO
 clear hEE hrd hts hol hl
 have b0 := Joins.below_alloc2 w (.cells (fc zeroFr (.slice none 0 0) (.slice none 0 0)) 29) (.cells #[.int .i64 0] 38)
 have f0 := (FrAt.new w zeroFr (.slice none 0 0) (.slice none 0 0)).on (Joins.below_alloc1 _ (.cells #[.int .i64 0] 38))
 have e0 := Boxed.new (w.alloc (.cells (fc zeroFr (.slice none 0 0) (.slice none 0 0)) 29)) 38 (.int .i64 0)
 have n0 : ((w.alloc (.cells (fc zeroFr (.slice none 0 0) (.slice none 0 0)) 29)).alloc (.cells #[.int .i64 0] 38)).heap.size = w.heap.size + 2 := by simp
 rw [World.size_alloc] at e0
 simp only [fc, zeroFr] at b0 f0 e0 n0
 generalize hX : (w.alloc (.cells #[.int .i64 0, .int .i64 0, .int .i64 0, .int .i64 0, .int .i64 0, .int .i64 0, .int .i64 0, .int .i64 0, .int .i64 0, .int .i64 0, .int .i64 0, .int .i64 0, .int .i64 0, .slice none 0 0, .slice none 0 0] 29)).alloc (.cells #[.int .i64 0] 38) = X2 at *
 have HB0 := hid b0
 have HF0 : Hid (FrAt X2 w.heap.size zeroFr (.slice none 0 0) (.slice none 0 0)) := hid f0
 have HE0 := hid e0
 have HN0 : Hid (w.heap.size + 2 ≤ X2.heap.size) := hid (by omega)
 have HL0 := hid L
 clear b0 f0 e0 n0 L
 obtain ⟨ic, hic⟩ : ∃ ic, C.isClosed s.data.toList = ic := ⟨_, rfl⟩
 rw [hic] at cO
 have HIC := hid hic; clear hic
 obtain ⟨S, hS⟩ : ∃ S, S = C.opened s.data.toList := ⟨_, rfl⟩
 rw [← hS] at HEE HFF HRD cO
 clear hS
 cases ic
 ·have hE5 : decEF s.data.toList = 5 := by rw [HEE.out, HIC.out]; rfl
  go_enter_defers Tryz.func22, Tryz.ntmps22
  (try rw [hX])
  go_wp2_with fail
  (try rw [hX])
  refine (cO _).mono ?_; rintro e w1 ⟨rfl, q1⟩
  go_wp2_with fail; refine (must_n (by first | rfl | simp) 5 _).mono ?_; rintro e w2 ⟨rfl, q2⟩
  have q3 := q1.trans (q2.mono q1.size)
  refine leaves_cons (f := 60) (args := #[.pointer (some ⟨w.heap.size, 0, none⟩), .pointer (some ⟨w.heap.size + 1, 0, none⟩)]) (by simp) (by simp [go_sem]) ?_
  refine (catch_up w.heap.size (w.heap.size + 1) zeroFr (.slice none 0 0) (.slice none 0 0) 0 5 [] w2 (HF0.out.on q3) ((q3.block _ HE0.out.lt).trans HE0.out) (by omega) w.heap.size (Nat.le_refl _) (by omega)).mono ?_
  rintro e u' w9 ⟨rfl, rfl, hf, he, hb⟩
  obtain ⟨r0, r1, r2, r3, r4, r5, r6, r7, r8, r9, r10, r11, r12, r13, r14⟩ := hf.cells
  have r15 := he.cell
  simp [Leaves, settle, results, Tryz.results22, go_sem, r0, r1, r2, r3, r4, r5, r6, r7, r8, r9, r10, r11, r12, r13, r14, r15]
  exact decF_none hE5 (by decide) ((HB0.out.trans (q3.mono (by have := HN0.out; omega))).trans hb)
 go_enter_defers Tryz.func22, Tryz.ntmps22
 (try rw [hX])
 go_wp2_with fail
 (try rw [hX])
 refine (cO _).mono ?_; rintro e w1 ⟨rfl, q1⟩
 go_wp2_with fail; refine (must_y (by first | rfl | simp) 5 _).mono ?_; rintro e w2 ⟨rfl, rfl⟩
 have HB1 := hid (HB0.out.trans (q1.mono (by have := HN0.out; omega)))
 have hrd := HRD.out w1 (HL0.out.below HB1.out)
 have HEE1 : Hid (decEF s.data.toList = bodyE S) := hid (by rw [HEE.out, HIC.out]; rfl)
 go_wp2_with fail; refine hrd.mono ?_
 rintro e w3 ⟨q2, ⟨hne, rfl⟩ | ⟨h0, A, c, A', c', rfl, hpe⟩⟩
 ·have q3 := q1.trans (q2.mono q1.size)
  refine leaves_cons (f := 60) (args := #[.pointer (some ⟨w.heap.size, 0, none⟩), .pointer (some ⟨w.heap.size + 1, 0, none⟩)]) (by simp) (by simp [go_sem]) ?_
  refine (catch_up w.heap.size (w.heap.size + 1) zeroFr (.slice none 0 0) (.slice none 0 0) 0 (bodyE S) [] w3 (HF0.out.on q3) ((q3.block _ HE0.out.lt).trans HE0.out) (by omega) w.heap.size (Nat.le_refl _) (by omega)).mono ?_
  rintro e u' w9 ⟨rfl, rfl, hf, he, hb⟩
  obtain ⟨r0, r1, r2, r3, r4, r5, r6, r7, r8, r9, r10, r11, r12, r13, r14⟩ := hf.cells
  have r15 := he.cell
  simp [Leaves, settle, results, Tryz.results22, go_sem, r0, r1, r2, r3, r4, r5, r6, r7, r8, r9, r10, r11, r12, r13, r14, r15]
  exact decF_none HEE1.out hne ((HB0.out.trans (q3.mono (by have := HN0.out; omega))).trans hb)
 ·have q3 := q1.trans (q2.mono q1.size)
  have hF3 := HF0.out.on q3
  have hE3 : Boxed w3 (w.heap.size + 1) 38 (.int .i64 0) := (q3.block _ HE0.out.lt).trans HE0.out
  obtain ⟨z0, z1, z2, z3, z4, z5, z6, z7, z8, z9, z10, z11, z12, z13, z14⟩ := hF3.cells
  have zf := hF3.frozen
  have x0 := hE3.cell
  have xf := hE3.frozen
  have hp := putF_at hF3 (frameD S) (.slice A (frameD S).ps.length c) (.slice A' (frameD S).es.length c')
  have hB3 := HB0.out.trans (q3.mono (by have := HN0.out; omega))
  have hbz := putF_below hB3 (b := w.heap.size) (Nat.le_refl _) (frameD S) (.slice A (frameD S).ps.length c) (.slice A' (frameD S).es.length c')
  have hfar : ∀ k, k ≠ w.heap.size → (putF w3 w.heap.size (frameD S) (.slice A (frameD S).ps.length c) (.slice A' (frameD S).es.length c')).heap[k]? = w3.heap[k]? := fun k hk => putF_far w3 hk _ _ _
  have hsz := putF_size w3 w.heap.size (frameD S) (.slice A (frameD S).ps.length c) (.slice A' (frameD S).es.length c')
  have HPZ := hid hp
  have HBZ := hid hbz
  have HFZ := hid hfar
  have HSZ := hid hsz
  have HPE := hid hpe
  have HE3 := hid hE3
  have HQ3 : Hid (w.heap.size + 2 ≤ w1.heap.size) := hid (by have := q1.size; have := HN0.out; omega)
  clear hp hbz hfar hsz hF3 hE3 hB3 q1 q2 q3 hpe
  go_wp2_with fail
  obtain ⟨V, hV⟩ : ∃ V, V = putF w3 w.heap.size (frameD S) (.slice A (frameD S).ps.length c) (.slice A' (frameD S).es.length c') := ⟨_, rfl⟩
  have hpz := HPZ.out
  have hbz := HBZ.out
  have hfz := HFZ.out
  have hsz := HSZ.out
  rw [← hV] at hpz hbz hfz hsz
  unfold putF at hV
  simp only [← hV]
  clear hV HPZ HBZ HFZ HSZ z0 z1 z2 z3 z4 z5 z6 z7 z8 z9 z10 z11 z12 z13 z14 zf x0 xf
  have hEV : Boxed V (w.heap.size + 1) 38 (.int .i64 0) := (hfz _ (by omega)).trans HE3.out
  have hEU := hEV.set (.int .i64 0)
  have hFU : FrAt (V.setCell ⟨w.heap.size + 1, 0, none⟩ (.int .i64 0)) w.heap.size (frameD S) (.slice A (frameD S).ps.length c) (.slice A' (frameD S).es.length c') := (Below.heap_setCell _ _ _ _ (by show w.heap.size ≠ w.heap.size + 1; omega)).trans hpz
  have hBU := hbz.setCell (p := ⟨w.heap.size + 1, 0, none⟩) (by show w.heap.size ≤ w.heap.size + 1; omega) (.int .i64 0)
  have hKU : ∀ k, w1.heap.size ≤ k → (V.setCell ⟨w.heap.size + 1, 0, none⟩ (.int .i64 0)).heap[k]? = w3.heap[k]? := fun k hk => (Below.heap_setCell _ _ _ _ (by show k ≠ w.heap.size + 1; have := HQ3.out; omega)).trans (hfz k (by have := HQ3.out; omega))
  have hsU : (V.setCell ⟨w.heap.size + 1, 0, none⟩ (.int .i64 0)).heap.size = w3.heap.size := by rw [World.size_setCell, hsz]
  generalize V.setCell ⟨w.heap.size + 1, 0, none⟩ (.int .i64 0) = U at *
  refine leaves_cons (f := 60) (args := #[.pointer (some ⟨w.heap.size, 0, none⟩), .pointer (some ⟨w.heap.size + 1, 0, none⟩)]) (by simp) (by simp [go_sem]) ?_
  refine (catch_idle w.heap.size (w.heap.size + 1) U).mono ?_
  rintro e u' w9 ⟨rfl, rfl, hb⟩
  have hF9 := hFU.on hb
  have hE9 : Boxed w9 (w.heap.size + 1) 38 (.int .i64 0) := (hb.block _ hEU.lt).trans hEU
  have hpe9 := HPE.out w9 (fun k h1 h2 => (hb.block k (by rw [hsU]; exact h2)).trans (hKU k h1)) (by rw [← hsU]; exact hb.size)
  have hB9 := hBU.trans (hb.mono (by have := (Array.getElem?_eq_some_iff.1 hFU).1; omega))
  obtain ⟨r0, r1, r2, r3, r4, r5, r6, r7, r8, r9, r10, r11, r12, r13, r14⟩ := hF9.cells
  have r15 := hE9.cell
  have hD0 : decEF s.data.toList = 0 := by rw [HEE1.out, h0]
  have hFD := HFF.out hD0
  have hpost : DecFPost s.data.toList w (.returned (.tuple #[fv (frameD S) (.slice A (frameD S).ps.length c) (.slice A' (frameD S).es.length c'), .int .i64 0])) w9 := by
   unfold DecFPost
   rw [hFD, hD0]
   exact ⟨hB9, A, c, A', c', rfl, hpe9.1, hpe9.2⟩
  simp [Leaves, settle, results, Tryz.results22, go_sem, r0, r1, r2, r3, r4, r5, r6, r7, r8, r9, r10, r11, r12, r13, r14, r15]
  exact hpost
end Go.Proofs.YtlhopgadhkjflaaGreatDoor
namespace Go.Proofs.YtlhopgadhkjflaaGreatDoor
open Lib (hid)
open Go.RowKit
theorem dec_encF {f : Fr} (h : rightF f = true) : decEF (encTF f) = 0 ∧ decFF (encTF f) = f := by
 have h1 : decEF (encTF f) = 0 := by
  unfold decEF
  rw [encTF_right h, if_pos (C.isClosed_close _), C.opened_close]
  exact (body_dec h).1
 refine ⟨h1, ?_⟩
 unfold decFF
 rw [if_pos h1, encTF_right h, C.opened_close]
 exact (body_dec h).2
theorem encTF_length {f : Fr} (h : rightF f = true) : (encTF f).length = 27 + (partsF f).length := by
 rw [encTF_right h, C.close_length, bodyF_length]; omega
theorem small_rightF {f : Fr} (h : rightF f = true) : SmallF f := by
 obtain ⟨-, -, -, -, -, hp, he⟩ := (rightF_iff f).1 h
 exact small_right (oneB_len hp) (oneB_len he) (oneB_all hp) (oneB_all he)
def oneFr : Fr := ⟨0, 0, 1, 0, 0, -1, 0, 0, 0, 0, 0, 0, 0, [], []⟩
theorem oneFr_right : rightF oneFr = true := by decide
theorem zeroFr_right : rightF zeroFr = false := by decide
theorem SmallF.nil (f : Fr) (h1 : f.ps = []) (h2 : f.es = []) : SmallF f := by
 refine ⟨by rw [h1]; exact Nat.zero_le _, by rw [h2]; exact Nat.zero_le _, ?_, ?_⟩
 ·rw [h1]; intro p hp; cases hp
 ·rw [h2]; intro p hp; cases hp
theorem text_dec : decEF [116, 101, 120, 116] = 5 := by
 unfold decEF
 rw [if_neg (by decide +kernel)]
theorem text_close : decEF (Crc16.close [116, 101, 120, 116]) = 3 := by
 unfold decEF
 rw [if_pos (C.isClosed_close _), C.opened_close]
 rfl
theorem same_self (f : Fr) : sameF f f = true := (sameF_iff f f).2 rfl
theorem awake7_any (w : World) (L : Laid w) : Calls Tryz.prog 13 #[] w fun e w' => e = .returned (.bool true) ∧ Below w.heap.size w w' := by
 have b0 := Joins.below_alloc1 w (.cells (fc oneFr (.slice none 0 0) (.slice none 0 0)) 29)
 have f0 := FrAt.new w oneFr (.slice none 0 0) (.slice none 0 0)
 have n0 : (w.alloc (.cells (fc oneFr (.slice none 0 0) (.slice none 0 0)) 29)).heap.size = w.heap.size + 1 := by simp
 have cE := fun W (h : Laid W) => encFP_any oneFr none 0 none 0 W h (F.Pcs.nil _ _ _) (Ents.nil _ _ _) (SmallF.nil _ rfl rfl)
 have cZ := fun W (h : Laid W) => encFP_any zeroFr none 0 none 0 W h (F.Pcs.nil _ _ _) (Ents.nil _ _ _) (SmallF.nil _ rfl rfl)
 have cR := fun W (h : Laid W) => rightFP_any oneFr none 0 none 0 W h (F.Pcs.nil _ _ _) (Ents.nil _ _ _) (SmallF.nil _ rfl rfl)
 have hT : (encTF oneFr).length = 27 := by rw [encTF_length oneFr_right]; rfl
 obtain ⟨hd1, hd2⟩ := dec_encF oneFr_right
 rw [encEF_right oneFr_right] at cE
 rw [show encTF zeroFr = [] by unfold encTF; rw [zeroFr_right]; rfl, show encEF zeroFr = 1 by unfold encEF; rw [zeroFr_right]; rfl] at cZ
 rw [oneFr_right] at cR
 have cD := fun W (h : Laid W) => decFP_any (txt (encTF oneFr)) (by rw [txt_size, hT]; omega) W h
 rw [txt_data] at cD
 have cT := fun W (h : Laid W) => decFP_any ⟨#[116, 101, 120, 116]⟩ (by decide) W h
 have ct : (⟨#[116, 101, 120, 116]⟩ : ByteArray).data.toList = [116, 101, 120, 116] := rfl
 rw [ct] at cT
 have cC := fun W => C.close_any ⟨#[116, 101, 120, 116]⟩ W (by decide)
 rw [ct] at cC
 have hcl : (Crc16.close [116, 101, 120, 116]).length = 6 := by decide +kernel
 have cX := fun W (h : Laid W) => decFP_any (C.txt (Crc16.close [116, 101, 120, 116])) (by rw [C.txt_size, hcl]; decide) W h
 rw [C.txt_data] at cX
 unfold DecFPost at cD cT cX
 have hz1 : decFF [116, 101, 120, 116] = zeroFr := by unfold decFF; rw [text_dec]; rfl
 have hz2 : decFF (Crc16.close [116, 101, 120, 116]) = zeroFr := by unfold decFF; rw [text_close]; rfl
 rw [hd1, hd2] at cD
 rw [text_dec, hz1] at cT
 rw [text_close, hz2] at cX
 have cS := fun (A B A' B' : Option Addr) (c d c' d' : Nat) (W : World) (h1 : F.Pcs W W.heap.size A oneFr.ps) (h2 : Ents W W.heap.size A' oneFr.es) => refSame7_any oneFr oneFr A B A' B' c d c' d' W h1 h2 (F.Pcs.nil _ _ _) (Ents.nil _ _ _) (by decide) (by decide) (fun x hx => by cases hx)
 rw [same_self] at cS
 have hs27 : (txt (encTF oneFr)).size = 27 := by rw [txt_size]; exact hT
 have HL := hid L
 have HB0 := hid b0
 have HF0 := hid f0
 have CE := hid cE
 have CZ := hid cZ
 have CR := hid cR
 have CD := hid cD
 have CT := hid cT
 have CC := hid cC
 have CX := hid cX
 have CS := hid cS
 clear b0 f0 n0 L hd1 hd2 hT hcl hz1 hz2 ct cE cZ cR cD cT cC cX cS
 have HS27 := hid hs27; clear hs27
 go_enter Tryz.func13, Tryz.ntmps13
 go_upto_region 2 with fail
 obtain ⟨W0, hW0⟩ : ∃ W0, W0 = w.alloc (.cells (fc oneFr (.slice none 0 0) (.slice none 0 0)) 29) := ⟨_, rfl⟩
 rw [← hW0] at HB0 HF0
 simp only [fc, oneFr] at hW0
 rw [← hW0]
 clear hW0
 obtain ⟨b, hb⟩ : ∃ b, w.heap.size = b := ⟨_, rfl⟩
 have HBW := hid hb
 rw [hb] at HF0 HB0 ⊢
 clear hb
 have HLE : Hid (b ≤ W0.heap.size) := hid (by have := HB0.out.size; have := HBW.out; omega)
 obtain ⟨y0, y1, y2, y3, y4, y5, y6, y7, y8, y9, y10, y11, y12, y13, y14⟩ := HF0.out.cells
 go_wp2_with fail; refine (CE.out _ (HL.out.below (by rw [HBW.out]; exact HB0.out))).mono ?_; rintro e w1 ⟨rfl, q1⟩
 have HB1 := hid (HB0.out.trans (q1.mono HLE.out))
 have HF1 := hid (HF0.out.on q1)
 have HL1 : Hid (b ≤ w1.heap.size) := hid (Nat.le_trans HLE.out q1.size)
 clear q1 y0 y1 y2 y3 y4 y5 y6 y7 y8 y9 y10 y11 y12 y13 y14 HB0 HF0 HLE CE
 go_wp2_with fail; refine (CD.out _ (HL.out.below (by rw [HBW.out]; exact HB1.out))).mono ?_; rintro e w2 ⟨q2, A, c, A', c', rfl, hp, he⟩
 have a2 := Joins.below_alloc1 w2 (.cells #[.int .i64 oneFr.snd, .int .i64 oneFr.rnd, .int .i64 oneFr.inc, .int .i64 oneFr.term, .int .i64 oneFr.role, .int .i64 oneFr.vote, .int .i64 oneFr.hrd, .int .i64 oneFr.last, .int .i64 oneFr.lterm, .int .i64 oneFr.ack, .int .i64 oneFr.com, .int .i64 oneFr.prv, .int .i64 oneFr.pterm, .slice A oneFr.ps.length c, .slice A' oneFr.es.length c'] 29)
 have HG2 : Hid (FrAt (w2.alloc (.cells #[.int .i64 oneFr.snd, .int .i64 oneFr.rnd, .int .i64 oneFr.inc, .int .i64 oneFr.term, .int .i64 oneFr.role, .int .i64 oneFr.vote, .int .i64 oneFr.hrd, .int .i64 oneFr.last, .int .i64 oneFr.lterm, .int .i64 oneFr.ack, .int .i64 oneFr.com, .int .i64 oneFr.prv, .int .i64 oneFr.pterm, .slice A oneFr.ps.length c, .slice A' oneFr.es.length c'] 29)) w2.heap.size oneFr (.slice A oneFr.ps.length c) (.slice A' oneFr.es.length c')) := hid (FrAt.new w2 oneFr _ _)
 have q3 := q2.trans (a2.mono q2.size)
 have HB2 := hid (HB1.out.trans (q3.mono HL1.out))
 have HF2 := hid (HF1.out.on q3)
 have HL2 : Hid (b ≤ (w2.alloc (.cells #[.int .i64 oneFr.snd, .int .i64 oneFr.rnd, .int .i64 oneFr.inc, .int .i64 oneFr.term, .int .i64 oneFr.role, .int .i64 oneFr.vote, .int .i64 oneFr.hrd, .int .i64 oneFr.last, .int .i64 oneFr.lterm, .int .i64 oneFr.ack, .int .i64 oneFr.com, .int .i64 oneFr.prv, .int .i64 oneFr.pterm, .slice A oneFr.ps.length c, .slice A' oneFr.es.length c'] 29)).heap.size) := hid (Nat.le_trans HL1.out q3.size)
 have HP2 := hid ((hp.below a2 (Nat.le_refl _)).more a2.size)
 have HE2 := hid ((he.below a2 (Nat.le_refl _)).more a2.size)
 clear q2 a2 q3 hp he HB1 HF1 HL1 CD
 go_upto_region 4 with fail
 generalize w2.alloc (.cells #[.int .i64 oneFr.snd, .int .i64 oneFr.rnd, .int .i64 oneFr.inc, .int .i64 oneFr.term, .int .i64 oneFr.role, .int .i64 oneFr.vote, .int .i64 oneFr.hrd, .int .i64 oneFr.last, .int .i64 oneFr.lterm, .int .i64 oneFr.ack, .int .i64 oneFr.com, .int .i64 oneFr.prv, .int .i64 oneFr.pterm, .slice A oneFr.ps.length c, .slice A' oneFr.es.length c'] 29) = W2 at *
 generalize w2.heap.size = g at *
 go_wp2_with fail; refine (CT.out _ (HL.out.below (by rw [HBW.out]; exact HB2.out))).mono ?_; rintro e w3 ⟨q2, A3, c3, A4, c4, rfl, -, -⟩
 have a3 := Joins.below_alloc1 w3 (.cells #[.int .i64 zeroFr.snd, .int .i64 zeroFr.rnd, .int .i64 zeroFr.inc, .int .i64 zeroFr.term, .int .i64 zeroFr.role, .int .i64 zeroFr.vote, .int .i64 zeroFr.hrd, .int .i64 zeroFr.last, .int .i64 zeroFr.lterm, .int .i64 zeroFr.ack, .int .i64 zeroFr.com, .int .i64 zeroFr.prv, .int .i64 zeroFr.pterm, .slice A3 zeroFr.ps.length c3, .slice A4 zeroFr.es.length c4] 29)
 have q3 := q2.trans (a3.mono q2.size)
 have HB3 := hid (HB2.out.trans (q3.mono HL2.out))
 have HF3 := hid (HF2.out.on q3)
 have HG3 := hid (HG2.out.on q3)
 have HL3 : Hid (b ≤ (w3.alloc (.cells #[.int .i64 zeroFr.snd, .int .i64 zeroFr.rnd, .int .i64 zeroFr.inc, .int .i64 zeroFr.term, .int .i64 zeroFr.role, .int .i64 zeroFr.vote, .int .i64 zeroFr.hrd, .int .i64 zeroFr.last, .int .i64 zeroFr.lterm, .int .i64 zeroFr.ack, .int .i64 zeroFr.com, .int .i64 zeroFr.prv, .int .i64 zeroFr.pterm, .slice A3 zeroFr.ps.length c3, .slice A4 zeroFr.es.length c4] 29)).heap.size) := hid (Nat.le_trans HL2.out q3.size)
 have HP3 := hid ((HP2.out.below q3 (Nat.le_refl _)).more q3.size)
 have HE3 := hid ((HE2.out.below q3 (Nat.le_refl _)).more q3.size)
 clear q2 a3 q3 HB2 HF2 HG2 HL2 HP2 HE2 CT
 go_upto_region 5 with fail
 generalize w3.alloc (.cells #[.int .i64 zeroFr.snd, .int .i64 zeroFr.rnd, .int .i64 zeroFr.inc, .int .i64 zeroFr.term, .int .i64 zeroFr.role, .int .i64 zeroFr.vote, .int .i64 zeroFr.hrd, .int .i64 zeroFr.last, .int .i64 zeroFr.lterm, .int .i64 zeroFr.ack, .int .i64 zeroFr.com, .int .i64 zeroFr.prv, .int .i64 zeroFr.pterm, .slice A3 zeroFr.ps.length c3, .slice A4 zeroFr.es.length c4] 29) = W3 at *
 generalize w3.heap.size = g3 at *
 go_wp2_with fail; refine (CC.out _).mono ?_; rintro e w4 ⟨rfl, q4⟩
 have HB4 := hid (HB3.out.trans (q4.mono HL3.out))
 go_wp2_with fail; refine (CX.out _ (HL.out.below (by rw [HBW.out]; exact HB4.out))).mono ?_; rintro e w5 ⟨q2, A5, c5, A6, c6, rfl, -, -⟩
 have a5 := Joins.below_alloc1 w5 (.cells #[.int .i64 zeroFr.snd, .int .i64 zeroFr.rnd, .int .i64 zeroFr.inc, .int .i64 zeroFr.term, .int .i64 zeroFr.role, .int .i64 zeroFr.vote, .int .i64 zeroFr.hrd, .int .i64 zeroFr.last, .int .i64 zeroFr.lterm, .int .i64 zeroFr.ack, .int .i64 zeroFr.com, .int .i64 zeroFr.prv, .int .i64 zeroFr.pterm, .slice A5 zeroFr.ps.length c5, .slice A6 zeroFr.es.length c6] 29)
 have q3 := (q4.trans (q2.mono q4.size)).trans (a5.mono (Nat.le_trans q4.size q2.size))
 have HB5 := hid (HB3.out.trans (q3.mono HL3.out))
 have HF5 := hid (HF3.out.on q3)
 have HG5 := hid (HG3.out.on q3)
 have HL5 : Hid (b ≤ (w5.alloc (.cells #[.int .i64 zeroFr.snd, .int .i64 zeroFr.rnd, .int .i64 zeroFr.inc, .int .i64 zeroFr.term, .int .i64 zeroFr.role, .int .i64 zeroFr.vote, .int .i64 zeroFr.hrd, .int .i64 zeroFr.last, .int .i64 zeroFr.lterm, .int .i64 zeroFr.ack, .int .i64 zeroFr.com, .int .i64 zeroFr.prv, .int .i64 zeroFr.pterm, .slice A5 zeroFr.ps.length c5, .slice A6 zeroFr.es.length c6] 29)).heap.size) := hid (Nat.le_trans HL3.out q3.size)
 have HP5 := hid ((HP3.out.below q3 (Nat.le_refl _)).more q3.size)
 have HE5 := hid ((HE3.out.below q3 (Nat.le_refl _)).more q3.size)
 clear q2 q4 a5 q3 HB3 HB4 HF3 HG3 HL3 HP3 HE3 CX CC
 go_upto_region 6 with fail
 generalize w5.alloc (.cells #[.int .i64 zeroFr.snd, .int .i64 zeroFr.rnd, .int .i64 zeroFr.inc, .int .i64 zeroFr.term, .int .i64 zeroFr.role, .int .i64 zeroFr.vote, .int .i64 zeroFr.hrd, .int .i64 zeroFr.last, .int .i64 zeroFr.lterm, .int .i64 zeroFr.ack, .int .i64 zeroFr.com, .int .i64 zeroFr.prv, .int .i64 zeroFr.pterm, .slice A5 zeroFr.ps.length c5, .slice A6 zeroFr.es.length c6] 29) = W5 at *
 generalize w5.heap.size = g5 at *
 go_wp2_with fail; refine (CZ.out _ (HL.out.below (by rw [HBW.out]; exact HB5.out))).mono ?_; rintro e w6 ⟨rfl, q6⟩
 have HB6 := hid (HB5.out.trans (q6.mono HL5.out))
 have HF6 := hid (HF5.out.on q6)
 have HG6 := hid (HG5.out.on q6)
 have HL6 : Hid (b ≤ w6.heap.size) := hid (Nat.le_trans HL5.out q6.size)
 have HP6 := hid ((HP5.out.below q6 (Nat.le_refl _)).more q6.size)
 have HE6 := hid ((HE5.out.below q6 (Nat.le_refl _)).more q6.size)
 clear q6 HB5 HF5 HG5 HL5 HP5 HE5 CZ
 have hs27 : ((txt (encTF oneFr)).size : Int) = 27 := by rw [HS27.out]; rfl
 obtain ⟨y0, y1, y2, y3, y4, y5, y6, y7, y8, y9, y10, y11, y12, y13, y14⟩ := HF6.out.cells
 obtain ⟨x0, x1, x2, x3, x4, x5, x6, x7, x8, x9, x10, x11, x12, x13, x14⟩ := HG6.out.cells
 have cs := CS.out A none A' none c 0 c' 0 w6 HP6.out HE6.out
 generalize txt (encTF oneFr) = T1 at *
 go_wp2_with fail
 refine cs.mono ?_; rintro e w7 ⟨rfl, q7⟩
 have HB7 := hid (HB6.out.trans (q7.mono HL6.out))
 have HF7 := hid (HF6.out.on q7)
 have HL7 : Hid (b ≤ w7.heap.size) := hid (Nat.le_trans HL6.out q7.size)
 clear q7 HB6 HF6 HG6 HL6 HP6 HE6 y0 y1 y2 y3 y4 y5 y6 y7 y8 y9 y10 y11 y12 y13 y14 x0 x1 x2 x3 x4 x5 x6 x7 x8 x9 x10 x11 x12 x13 x14 cs
 obtain ⟨y0, y1, y2, y3, y4, y5, y6, y7, y8, y9, y10, y11, y12, y13, y14⟩ := HF7.out.cells
 go_wp2_with fail
 refine (CR.out _ (HL.out.below (by rw [HBW.out]; exact HB7.out))).mono ?_; rintro e w8 ⟨rfl, q8⟩
 go_wp2_with fail
 go_ret
 exact ⟨rfl, by rw [HBW.out]; exact HB7.out.trans (q8.mono HL7.out)⟩
end Go.Proofs.YtlhopgadhkjflaaGreatDoor
namespace Go.Proofs.YtlhopgadhkjflaaGreatDoor
open Lib (hid)
open Go.RowKit
theorem rawS7_any {n0 n1 n2 : Int} (k0 : (Lit.int .i64 n0).wf = true) (k1 : (Lit.int .i64 n1).wf = true) (k2 : (Lit.int .i64 n2).wf = true) {r : F.Raw} (wr : F.WfR r) {A : Option Addr} (c : Nat) {l : List Int} {A' : Option Addr} (c' : Nat) {raw : List Raw} {X : Fr} (hX : frX l r n0 n1 n2 raw = X) (w : World) (h : Inp w A l A' raw) :
  Calls Tryz.prog 14 #[.slice A l.length c, F.rv r, .agg #[.int .i64 n0, .int .i64 n1, .int .i64 n2], .slice A' raw.length c'] w (RawFPost X w) := by
 rw [← hX]
 exact rawF_any A c l r n0 n1 n2 A' c' raw w k0 k1 k2 wr h.row h.raws h.li h.lr h.wi h.wr
structure Box7 (w : World) (b : Nat) (f : Fr) (A : Option Addr) (c : Nat) (A' : Option Addr) (c' : Nat) : Prop where
 fr : FrAt w b f (.slice A f.ps.length c) (.slice A' f.es.length c')
 ps : F.Pcs w w.heap.size A f.ps
 es : Ents w w.heap.size A' f.es
theorem Box7.on {w w' : World} {b : Nat} {f : Fr} {A A' : Option Addr} {c c' : Nat} (h : Box7 w b f A c A' c') (hb : Below w.heap.size w w') : Box7 w' b f A c A' c' :=
 ⟨h.fr.on hb, (h.ps.below hb (Nat.le_refl _)).more hb.size, (h.es.below hb (Nat.le_refl _)).more hb.size⟩
theorem Box7.new {w : World} {f : Fr} {A A' : Option Addr} {c c' : Nat} (h1 : F.Pcs w w.heap.size A f.ps) (h2 : Ents w w.heap.size A' f.es) : Box7 (w.alloc (.cells (fc f (.slice A f.ps.length c) (.slice A' f.es.length c')) 29)) w.heap.size f A c A' c' :=
 have hb := Joins.below_alloc1 w (.cells (fc f (.slice A f.ps.length c) (.slice A' f.es.length c')) 29)
 ⟨FrAt.new w _ _ _, (h1.below hb (Nat.le_refl _)).more hb.size, (h2.below hb (Nat.le_refl _)).more hb.size⟩
def At4R' (w : World) (b : Nat) (r : F.Raw) : Prop := w.heap[b]? = some (.cells #[.int .i64 r.a, .int .i64 r.b, .int .i64 r.c, .int .i64 r.d] 23 (0, 0))
end Go.Proofs.YtlhopgadhkjflaaGreatDoor

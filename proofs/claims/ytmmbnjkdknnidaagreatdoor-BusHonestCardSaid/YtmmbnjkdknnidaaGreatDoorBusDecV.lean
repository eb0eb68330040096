/-
  What frame.Decode tells, by the program, with what it made told as lying in new memory.
-/
import Derived.Test.YtmmbnjkdknnidaaGreatDoorFrReadV
import Derived.Test.YtmmbnjkdknnidaaGreatDoorFrCatchV
import Derived.Test.YtmmbnjkdknnidaaGreatDoorCrcCloseV
import Derived.Test.YtmmbnjkdknnidaaGreatDoorCrcBurstsV
import Derived.Test.YtmmbnjkdknnidaaGreatDoorFrEncPV
import Derived.Test.YtmmbnjkdknnidaaGreatDoorFrSameV
import Derived.Test.YtmmbnjkdknnidaaGreatDoorFrRawV
import Derived.Test.YtmmbnjkdknnidaaGreatDoorFrRightV
set_option maxHeartbeats 8000000
set_option maxRecDepth 100000
namespace Go.Proofs.YtmmbnjkdknnidaaGreatDoor
open Lib (hid)
open Go.RowKit
def decEF (l : List UInt8) : Int := if C.isClosed l = true then bodyE (C.opened l) else 5
def decFF (l : List UInt8) : Fr := if decEF l = 0 then frameD (C.opened l) else zeroFr
theorem opened_len (l : List UInt8) : (C.opened l).length ≤ l.length := by
 unfold C.opened
 split
 ·rw [List.length_take]; omega
 ·simp
theorem dec_encF {f : Fr} (h : rightF f = true) : decEF (encTF f) = 0 ∧ decFF (encTF f) = f := by
 have h1 : decEF (encTF f) = 0 := by
  unfold decEF
  rw [encTF_right h, if_pos (C.isClosed_close _), C.opened_close]
  exact (body_dec h).1
 refine ⟨h1, ?_⟩
 unfold decFF
 rw [if_pos h1, encTF_right h, C.opened_close]
 exact (body_dec h).2
theorem encTF_length {f : Fr} (h : rightF f = true) : (encTF f).length = 27 + (partsF f).length := by
 rw [encTF_right h, C.close_length, bodyF_length]; omega
theorem small_rightF {f : Fr} (h : rightF f = true) : SmallF f := by
 obtain ⟨-, -, -, -, -, hp, he⟩ := (rightF_iff f).1 h
 exact small_right (oneB_len hp) (oneB_len he) (oneB_all hp) (oneB_all he)
theorem SmallF.nil (f : Fr) (h1 : f.ps = []) (h2 : f.es = []) : SmallF f := by
 refine ⟨by rw [h1]; exact Nat.zero_le _, by rw [h2]; exact Nat.zero_le _, ?_, ?_⟩
 ·rw [h1]; intro p hp; cases hp
 ·rw [h2]; intro p hp; cases hp
theorem same_self (f : Fr) : sameF f f = true := (sameF_iff f f).2 rfl
theorem rawS7_any {n0 n1 n2 : Int} (k0 : (Lit.int .i64 n0).wf = true) (k1 : (Lit.int .i64 n1).wf = true) (k2 : (Lit.int .i64 n2).wf = true) {r : F.Raw} (wr : F.WfR r) {A : Option Addr} (c : Nat) {l : List Int} {A' : Option Addr} (c' : Nat) {raw : List Raw} {X : Fr} (hX : frX l r n0 n1 n2 raw = X) (w : World) (h : Inp w A l A' raw) :
  Calls Tryz.prog 14 #[.slice A l.length c, F.rv r, .agg #[.int .i64 n0, .int .i64 n1, .int .i64 n2], .slice A' raw.length c'] w (RawFPost X w) := by
 rw [← hX]
 exact rawF_any A c l r n0 n1 n2 A' c' raw w k0 k1 k2 wr h.row h.raws h.li h.lr h.wi h.wr
structure Box7 (w : World) (b : Nat) (f : Fr) (A : Option Addr) (c : Nat) (A' : Option Addr) (c' : Nat) : Prop where
 fr : FrAt w b f (.slice A f.ps.length c) (.slice A' f.es.length c')
 ps : F.Pcs w w.heap.size A f.ps
 es : Ents w w.heap.size A' f.es
theorem Box7.on {w w' : World} {b : Nat} {f : Fr} {A A' : Option Addr} {c c' : Nat} (h : Box7 w b f A c A' c') (hb : Below w.heap.size w w') : Box7 w' b f A c A' c' :=
 ⟨h.fr.on hb, (h.ps.below hb (Nat.le_refl _)).more hb.size, (h.es.below hb (Nat.le_refl _)).more hb.size⟩
theorem Box7.new {w : World} {f : Fr} {A A' : Option Addr} {c c' : Nat} (h1 : F.Pcs w w.heap.size A f.ps) (h2 : Ents w w.heap.size A' f.es) : Box7 (w.alloc (.cells (fc f (.slice A f.ps.length c) (.slice A' f.es.length c')) 29)) w.heap.size f A c A' c' :=
 have hb := Joins.below_alloc1 w (.cells (fc f (.slice A f.ps.length c) (.slice A' f.es.length c')) 29)
 ⟨FrAt.new w _ _ _, (h1.below hb (Nat.le_refl _)).more hb.size, (h2.below hb (Nat.le_refl _)).more hb.size⟩
def At4R' (w : World) (b : Nat) (r : F.Raw) : Prop := w.heap[b]? = some (.cells #[.int .i64 r.a, .int .i64 r.b, .int .i64 r.c, .int .i64 r.d] 23 (0, 0))
def DecQPost (l : List UInt8) (w : World) (e : Ending) (w' : World) : Prop := Below w.heap.size w w' ∧ ∃ A c A' c', e = .returned (.tuple #[fv (decFF l) (.slice A (decFF l).ps.length c) (.slice A' (decFF l).es.length c'), .int .i64 (decEF l)]) ∧ ∀ W : World, (∀ k, w.heap.size ≤ k → k < w'.heap.size → W.heap[k]? = w'.heap[k]?) → w'.heap.size ≤ W.heap.size → F.Pcs W W.heap.size A (decFF l).ps ∧ Ents W W.heap.size A' (decFF l).es
theorem decQ_none {l : List UInt8} {E : Int} (h : decEF l = E) (hE : E ≠ 0) {w w' : World} (hb : Below w.heap.size w w') : DecQPost l w (.returned (.tuple #[fv zeroFr (.slice none 0 0) (.slice none 0 0), .int .i64 E])) w' := by
 have hz : decFF l = zeroFr := by unfold decFF; rw [if_neg (by rw [h]; exact hE)]
 unfold DecQPost
 rw [hz, h]
 exact ⟨hb, none, 0, none, 0, rfl, fun W _ _ => ⟨F.Pcs.nil _ _ _, Ents.nil _ _ _⟩⟩
theorem decFQ_any (s : ByteArray) (hs : s.size ≤ 1000) (w : World) (L : Laid w) : Calls Tryz.prog 22 #[.string s] w (DecQPost s.data.toList w) := by
 have hmf : ∀ (fn : Fn) (first cap : Array Value) (w : World), (Instr.makeFunc fn first cap).run Tryz.prog w = .ok (.func fn first cap) w := fun _ _ _ _ => rfl
 have hl := Lib.size_eq s
 have cO := fun W => C.open_any s W (by omega)
 have hol := opened_len s.data.toList
 have hEE : decEF s.data.toList = if C.isClosed s.data.toList = true then bodyE (C.opened s.data.toList) else 5 := rfl
 have HFF : Hid (∀ h : decEF s.data.toList = 0, decFF s.data.toList = frameD (C.opened s.data.toList)) := hid (fun h => by unfold decFF; rw [if_pos h])
 have HEE := hid hEE
 have hrd := read_any (txt (C.opened s.data.toList)) (by rw [txt_size]; omega)
 rw [txt_data] at hrd
 have HRD := hid hrd
 have hts : C.txt (C.opened s.data.toList) = txt (C.opened s.data.toList) := rfl
 rw [hts] at cO
 clear hEE hrd hts hol hl
 have b0 := Joins.below_alloc2 w (.cells (fc zeroFr (.slice none 0 0) (.slice none 0 0)) 29) (.cells #[.int .i64 0] 38)
 have f0 := (FrAt.new w zeroFr (.slice none 0 0) (.slice none 0 0)).on (Joins.below_alloc1 _ (.cells #[.int .i64 0] 38))
 have e0 := Boxed.new (w.alloc (.cells (fc zeroFr (.slice none 0 0) (.slice none 0 0)) 29)) 38 (.int .i64 0)
 have n0 : ((w.alloc (.cells (fc zeroFr (.slice none 0 0) (.slice none 0 0)) 29)).alloc (.cells #[.int .i64 0] 38)).heap.size = w.heap.size + 2 := by simp
 rw [World.size_alloc] at e0
 simp only [fc, zeroFr] at b0 f0 e0 n0
 generalize hX : (w.alloc (.cells #[.int .i64 0, .int .i64 0, .int .i64 0, .int .i64 0, .int .i64 0, .int .i64 0, .int .i64 0, .int .i64 0, .int .i64 0, .int .i64 0, .int .i64 0, .int .i64 0, .int .i64 0, .slice none 0 0, .slice none 0 0] 29)).alloc (.cells #[.int .i64 0] 38) = X2 at *
 have HB0 := hid b0
 have HF0 : Hid (FrAt X2 w.heap.size zeroFr (.slice none 0 0) (.slice none 0 0)) := hid f0
 have HE0 := hid e0
 have HN0 : Hid (w.heap.size + 2 ≤ X2.heap.size) := hid (by omega)
 have HL0 := hid L
 clear b0 f0 e0 n0 L
 obtain ⟨ic, hic⟩ : ∃ ic, C.isClosed s.data.toList = ic := ⟨_, rfl⟩
 rw [hic] at cO
 have HIC := hid hic; clear hic
 obtain ⟨S, hS⟩ : ∃ S, S = C.opened s.data.toList := ⟨_, rfl⟩
 rw [← hS] at HEE HFF HRD cO
 clear hS
 cases ic
 ·have hE5 : decEF s.data.toList = 5 := by rw [HEE.out, HIC.out]; rfl
  go_enter_defers Tryz.func22, Tryz.ntmps22
  (try rw [hX])
  go_wp2_with fail
  (try rw [hX])
  refine (cO _).mono ?_; rintro e w1 ⟨rfl, q1⟩
  go_wp2_with fail; refine (must_n (by first | rfl | simp) 5 _).mono ?_; rintro e w2 ⟨rfl, q2⟩
  have q3 := q1.trans (q2.mono q1.size)
  refine leaves_cons (f := 60) (args := #[.pointer (some ⟨w.heap.size, 0, none⟩), .pointer (some ⟨w.heap.size + 1, 0, none⟩)]) (by simp) (by simp [go_sem]) ?_
  refine (catch_up w.heap.size (w.heap.size + 1) zeroFr (.slice none 0 0) (.slice none 0 0) 0 5 [] w2 (HF0.out.on q3) ((q3.block _ HE0.out.lt).trans HE0.out) (by omega) w.heap.size (Nat.le_refl _) (by omega)).mono ?_
  rintro e u' w9 ⟨rfl, rfl, hf, he, hb⟩
  obtain ⟨r0, r1, r2, r3, r4, r5, r6, r7, r8, r9, r10, r11, r12, r13, r14⟩ := hf.cells
  have r15 := he.cell
  simp [Leaves, settle, results, Tryz.results22, go_sem, r0, r1, r2, r3, r4, r5, r6, r7, r8, r9, r10, r11, r12, r13, r14, r15]
  exact decQ_none hE5 (by decide) ((HB0.out.trans (q3.mono (by have := HN0.out; omega))).trans hb)
 go_enter_defers Tryz.func22, Tryz.ntmps22
 (try rw [hX])
 go_wp2_with fail
 (try rw [hX])
 refine (cO _).mono ?_; rintro e w1 ⟨rfl, q1⟩
 go_wp2_with fail; refine (must_y (by first | rfl | simp) 5 _).mono ?_; rintro e w2 ⟨rfl, rfl⟩
 have HB1 := hid (HB0.out.trans (q1.mono (by have := HN0.out; omega)))
 have hrd := HRD.out w1 (HL0.out.below HB1.out)
 have HEE1 : Hid (decEF s.data.toList = bodyE S) := hid (by rw [HEE.out, HIC.out]; rfl)
 go_wp2_with fail; refine hrd.mono ?_
 rintro e w3 ⟨q2, ⟨hne, rfl⟩ | ⟨h0, A, c, A', c', rfl, hpe⟩⟩
 ·have q3 := q1.trans (q2.mono q1.size)
  refine leaves_cons (f := 60) (args := #[.pointer (some ⟨w.heap.size, 0, none⟩), .pointer (some ⟨w.heap.size + 1, 0, none⟩)]) (by simp) (by simp [go_sem]) ?_
  refine (catch_up w.heap.size (w.heap.size + 1) zeroFr (.slice none 0 0) (.slice none 0 0) 0 (bodyE S) [] w3 (HF0.out.on q3) ((q3.block _ HE0.out.lt).trans HE0.out) (by omega) w.heap.size (Nat.le_refl _) (by omega)).mono ?_
  rintro e u' w9 ⟨rfl, rfl, hf, he, hb⟩
  obtain ⟨r0, r1, r2, r3, r4, r5, r6, r7, r8, r9, r10, r11, r12, r13, r14⟩ := hf.cells
  have r15 := he.cell
  simp [Leaves, settle, results, Tryz.results22, go_sem, r0, r1, r2, r3, r4, r5, r6, r7, r8, r9, r10, r11, r12, r13, r14, r15]
  exact decQ_none HEE1.out hne ((HB0.out.trans (q3.mono (by have := HN0.out; omega))).trans hb)
 ·have q3 := q1.trans (q2.mono q1.size)
  have hF3 := HF0.out.on q3
  have hE3 : Boxed w3 (w.heap.size + 1) 38 (.int .i64 0) := (q3.block _ HE0.out.lt).trans HE0.out
  obtain ⟨z0, z1, z2, z3, z4, z5, z6, z7, z8, z9, z10, z11, z12, z13, z14⟩ := hF3.cells
  have zf := hF3.frozen
  have x0 := hE3.cell
  have xf := hE3.frozen
  have hp := putF_at hF3 (frameD S) (.slice A (frameD S).ps.length c) (.slice A' (frameD S).es.length c')
  have hB3 := HB0.out.trans (q3.mono (by have := HN0.out; omega))
  have hbz := putF_below hB3 (b := w.heap.size) (Nat.le_refl _) (frameD S) (.slice A (frameD S).ps.length c) (.slice A' (frameD S).es.length c')
  have hfar : ∀ k, k ≠ w.heap.size → (putF w3 w.heap.size (frameD S) (.slice A (frameD S).ps.length c) (.slice A' (frameD S).es.length c')).heap[k]? = w3.heap[k]? := fun k hk => putF_far w3 hk _ _ _
  have hsz := putF_size w3 w.heap.size (frameD S) (.slice A (frameD S).ps.length c) (.slice A' (frameD S).es.length c')
  have HPZ := hid hp
  have HBZ := hid hbz
  have HFZ := hid hfar
  have HSZ := hid hsz
  have HPE := hid hpe
  have HE3 := hid hE3
  have HQ3 : Hid (w.heap.size + 2 ≤ w1.heap.size) := hid (by have := q1.size; have := HN0.out; omega)
  clear hp hbz hfar hsz hF3 hE3 hB3 q1 q2 q3 hpe
  go_wp2_with fail
  obtain ⟨V, hV⟩ : ∃ V, V = putF w3 w.heap.size (frameD S) (.slice A (frameD S).ps.length c) (.slice A' (frameD S).es.length c') := ⟨_, rfl⟩
  have hpz := HPZ.out
  have hbz := HBZ.out
  have hfz := HFZ.out
  have hsz := HSZ.out
  rw [← hV] at hpz hbz hfz hsz
  unfold putF at hV
  simp only [← hV]
  clear hV HPZ HBZ HFZ HSZ z0 z1 z2 z3 z4 z5 z6 z7 z8 z9 z10 z11 z12 z13 z14 zf x0 xf
  have hEV : Boxed V (w.heap.size + 1) 38 (.int .i64 0) := (hfz _ (by omega)).trans HE3.out
  have hEU := hEV.set (.int .i64 0)
  have hFU : FrAt (V.setCell ⟨w.heap.size + 1, 0, none⟩ (.int .i64 0)) w.heap.size (frameD S) (.slice A (frameD S).ps.length c) (.slice A' (frameD S).es.length c') := (Below.heap_setCell _ _ _ _ (by show w.heap.size ≠ w.heap.size + 1; omega)).trans hpz
  have hBU := hbz.setCell (p := ⟨w.heap.size + 1, 0, none⟩) (by show w.heap.size ≤ w.heap.size + 1; omega) (.int .i64 0)
  have hKU : ∀ k, w1.heap.size ≤ k → (V.setCell ⟨w.heap.size + 1, 0, none⟩ (.int .i64 0)).heap[k]? = w3.heap[k]? := fun k hk => (Below.heap_setCell _ _ _ _ (by show k ≠ w.heap.size + 1; have := HQ3.out; omega)).trans (hfz k (by have := HQ3.out; omega))
  have hsU : (V.setCell ⟨w.heap.size + 1, 0, none⟩ (.int .i64 0)).heap.size = w3.heap.size := by rw [World.size_setCell, hsz]
  generalize V.setCell ⟨w.heap.size + 1, 0, none⟩ (.int .i64 0) = U at *
  refine leaves_cons (f := 60) (args := #[.pointer (some ⟨w.heap.size, 0, none⟩), .pointer (some ⟨w.heap.size + 1, 0, none⟩)]) (by simp) (by simp [go_sem]) ?_
  refine (catch_idle w.heap.size (w.heap.size + 1) U).mono ?_
  rintro e u' w9 ⟨rfl, rfl, hb⟩
  have hF9 := hFU.on hb
  have hE9 : Boxed w9 (w.heap.size + 1) 38 (.int .i64 0) := (hb.block _ hEU.lt).trans hEU
  have hpe9 : ∀ W : World, (∀ k, w.heap.size ≤ k → k < w9.heap.size → W.heap[k]? = w9.heap[k]?) → w9.heap.size ≤ W.heap.size → F.Pcs W W.heap.size A (frameD S).ps ∧ Ents W W.heap.size A' (frameD S).es := fun W hk hs => HPE.out W (fun k h1 h2 => (hk k (by have := HQ3.out; omega) (by have := hb.size; omega)).trans ((hb.block k (by rw [hsU]; exact h2)).trans (hKU k h1))) (by have := hb.size; omega)
  have hB9 := hBU.trans (hb.mono (by have := (Array.getElem?_eq_some_iff.1 hFU).1; omega))
  obtain ⟨r0, r1, r2, r3, r4, r5, r6, r7, r8, r9, r10, r11, r12, r13, r14⟩ := hF9.cells
  have r15 := hE9.cell
  have hD0 : decEF s.data.toList = 0 := by rw [HEE1.out, h0]
  have hFD := HFF.out hD0
  have hpost : DecQPost s.data.toList w (.returned (.tuple #[fv (frameD S) (.slice A (frameD S).ps.length c) (.slice A' (frameD S).es.length c'), .int .i64 0])) w9 := by
   unfold DecQPost
   rw [hFD, hD0]
   exact ⟨hB9, A, c, A', c', rfl, hpe9⟩
  simp [Leaves, settle, results, Tryz.results22, go_sem, r0, r1, r2, r3, r4, r5, r6, r7, r8, r9, r10, r11, r12, r13, r14, r15]
  exact hpost
end Go.Proofs.YtmmbnjkdknnidaaGreatDoor

/-
  The bytes of pieces, by the document: Decode.
-/
import Derived.Test.YtggeojjiongbbaaFragApp
import Derived.Test.YtggeojjiongbbaaFragMath
import Derived.Test.YtggeojjiongbbaaFragWhole
import Derived.Test.YtggeojjiongbbaaOnce
import Derived.IntWalk
import Derived.BigRegion
namespace Go.Proofs.Ytggeojjiongbbaa
open Go.RowKit

def txt (l : List UInt8) : ByteArray := ⟨l.toArray⟩
theorem txt_size (l : List UInt8) : (txt l).size = l.length := rfl
theorem txt_data (l : List UInt8) : (txt l).data.toList = l := rfl
theorem txt_of (s : ByteArray) : txt s.data.toList = s := rfl
theorem set_blk {w : World} {g : Nat} {Z : Array Value} {T : TypeId} (h : w.heap[g]? = some (.cells Z T (0, 0))) (i : Nat) (v : Value) : (w.setCell ⟨g, i, none⟩ v).heap[g]? = some (.cells (Z.setIfInBounds i v) T (0, 0)) := by
  simp [World.setCell, Array.getElem?_modify, h]

/-- Block g is as great as a piece. -/
def Four (w : World) (g : Nat) : Prop := ∃ Z : Array Value, w.heap[g]? = some (.cells Z 23 (0, 0)) ∧ Z.size = 4
theorem Four.new (w : World) (m : Pc) : Four (w.alloc (.cells (pcl m) 23)) w.heap.size := ⟨_, heap_alloc_new w _, rfl⟩
theorem Four.of {w : World} {g : Nat} {m : Pc} (h : PcAt w g m) : Four w g := ⟨_, h, rfl⟩
theorem Four.lt {w : World} {g : Nat} (h : Four w g) : g < w.heap.size := by
  obtain ⟨Z, h1, _⟩ := h
  exact (Array.getElem?_eq_some_iff.1 h1).1
theorem Four.on {w w' : World} {g : Nat} (h : Four w g) (hb : Below w.heap.size w w') : Four w' g := by
  obtain ⟨Z, h1, h2⟩ := h
  exact ⟨Z, (hb.block g (Array.getElem?_eq_some_iff.1 h1).1).trans h1, h2⟩
/-- A piece stored into block g, cell by cell. -/
def put4 (w : World) (g : Nat) (m : Pc) : World :=
  (((w.setCell ⟨g, 0, none⟩ (.int .i64 m.seq)).setCell ⟨g, 1, none⟩ (.int .i64 m.at')).setCell ⟨g, 2, none⟩ (.int .i64 m.of')).setCell ⟨g, 3, none⟩ (.string m.bytes)
set_option maxRecDepth 100000 in
theorem put4_blk {w : World} {g : Nat} (h : Four w g) (m : Pc) : PcAt (put4 w g m) g m := by
  obtain ⟨Z, h1, h2⟩ := h
  obtain ⟨l, rfl⟩ : ∃ l : List Value, Z = l.toArray := ⟨Z.toList, by simp⟩
  have h3 : l.length = 4 := by simpa using h2
  match l, h3, h1 with
  | [z0, z1, z2, z3], _, h1 =>
    have e0 := set_blk h1 0 (.int .i64 m.seq)
    have e1 := set_blk e0 1 (.int .i64 m.at')
    have e2 := set_blk e1 2 (.int .i64 m.of')
    have e3 := set_blk e2 3 (.string m.bytes)
    simp only [List.setIfInBounds_toArray, List.set_cons_zero, List.set_cons_succ] at e3
    exact e3
theorem put4_far (w : World) {g g' : Nat} (h : g' ≠ g) (m : Pc) : (put4 w g m).heap[g']? = w.heap[g']? := by
  unfold put4
  rw [Below.heap_setCell _ _ _ _ h, Below.heap_setCell _ _ _ _ h, Below.heap_setCell _ _ _ _ h, Below.heap_setCell _ _ _ _ h]
theorem put4_below {B : Nat} {a w : World} (h : Below B a w) {g : Nat} (hg : B ≤ g) (m : Pc) : Below B a (put4 w g m) :=
  ((((h.setCell (p := ⟨g, 0, none⟩) hg _).setCell (p := ⟨g, 1, none⟩) hg _).setCell (p := ⟨g, 2, none⟩) hg _).setCell (p := ⟨g, 3, none⟩) hg _)
theorem put4_size (w : World) (g : Nat) (m : Pc) : (put4 w g m).heap.size = w.heap.size := by unfold put4; simp
set_option maxRecDepth 100000 in
theorem Four.put4 {w : World} {g g' : Nat} (h : Four w g) (h' : Four w g') (m : Pc) : Four (put4 w g m) g' := by
  by_cases e : g' = g
  · rw [e]; exact ⟨_, put4_blk h m, rfl⟩
  · obtain ⟨Z, h1, h2⟩ := h'
    exact ⟨Z, (put4_far w e m).trans h1, h2⟩
set_option maxRecDepth 100000 in
theorem PcAt.put4 {w : World} {g g' : Nat} (h : Four w g) {m : Pc} (h' : PcAt w g' m) : PcAt (put4 w g m) g' m := by
  by_cases e : g' = g
  · rw [e]; exact put4_blk h m
  · exact (put4_far w e m).trans h'
set_option maxRecDepth 100000 in
/-- Its cells, each of them, and that none is frozen. -/
theorem Four.cells {w : World} {g : Nat} (h : Four w g) : ∃ z0 z1 z2 z3 : Value, (w.cell? ⟨g, 0, none⟩ = some z0 ∧ w.cell? ⟨g, 1, none⟩ = some z1 ∧ w.cell? ⟨g, 2, none⟩ = some z2 ∧ w.cell? ⟨g, 3, none⟩ = some z3) ∧ ∀ i, w.frozen? ⟨g, i, none⟩ = false := by
  obtain ⟨⟨l⟩, h1, h2⟩ := h
  match l, h2 with
  | [z0, z1, z2, z3], _ =>
    refine ⟨z0, z1, z2, z3, ?_, fun i => by simp [World.frozen?, h1]⟩
    refine ⟨?_, ?_, ?_, ?_⟩ <;> simp [World.cell?, h1]

/-! ## What the bytes tell -/
def decN (l : List UInt8) : Nat := (l.getD 4 0).toNat
def decM (l : List UInt8) : Pc := ⟨256 * ((l.getD 0 0).toNat : Int) + ((l.getD 1 0).toNat : Int), ((l.getD 2 0).toNat : Int), ((l.getD 3 0).toNat : Int), txt ((l.drop 5).take (decN l))⟩
def decE (l : List UInt8) : Int := if l.length < 5 then 3 else if 16 < decN l then 2 else if l.length < 5 + decN l then 3 else if rightP (decM l) = true then 0 else 2
def decR (l : List UInt8) : Pc := if decE l = 0 then decM l else zeroP
def decRest (l : List UInt8) : ByteArray := if decE l = 0 then txt (l.drop (5 + decN l)) else ⟨#[]⟩
def DecPost (l : List UInt8) (w : World) (e : Ending) (w' : World) : Prop := e = .returned (.tuple #[pv (decR l), .string (decRest l), .int .i64 (decE l)]) ∧ Below w.heap.size w w'
set_option maxRecDepth 100000 in
theorem dec_none (l : List UInt8) (E : Int) (h : decE l = E) (hE : E ≠ 0) : ∀ w w', Below w.heap.size w w' → DecPost l w (.returned (.tuple #[pv zeroP, .string ⟨#[]⟩, .int .i64 E])) w' := by
  intro w w' hb
  refine ⟨?_, hb⟩
  have h0 : ¬ decE l = 0 := by rw [h]; exact hE
  unfold decR decRest
  rw [if_neg h0, if_neg h0, h]
set_option maxRecDepth 100000 in
theorem dec_one (l : List UInt8) (h : decE l = 0) : ∀ w w', Below w.heap.size w w' → DecPost l w (.returned (.tuple #[pv (decM l), .string (txt (l.drop (5 + decN l))), .int .i64 0])) w' := by
  intro w w' hb
  refine ⟨?_, hb⟩
  unfold decR decRest
  rw [if_pos h, if_pos h, h]

set_option maxRecDepth 100000 in
theorem run_to (s : ByteArray) (e : Int) (n : Nat) (he : e = (n : Int)) (hn : n ≤ s.size) (w : World) :
    (Instr.slice 9 (.string s) none (some (.int .i64 e)) none).run Try.prog w = .ok (.string (txt (s.data.toList.take n))) w := by
  subst he
  rw [run_slice_string_to_if w 9 s .i64 n Try.underlying9, if_pos ⟨by omega, by omega⟩, Lib.extract_eq]
  rfl
set_option maxRecDepth 100000 in
theorem run_from (s : ByteArray) (e : Int) (n : Nat) (he : e = (n : Int)) (hn : n ≤ s.size) (w : World) :
    (Instr.slice 9 (.string s) (some (.int .i64 e)) none none).run Try.prog w = .ok (.string (txt (s.data.toList.drop n))) w := by
  subst he
  rw [run_slice_string_from_if w 9 s .i64 n Try.underlying9, if_pos ⟨by omega, by omega⟩, Lib.extract_eq]
  have : (s.data.toList.drop n).take (s.size - n) = s.data.toList.drop n := List.take_of_length_le (by rw [List.length_drop, ← Lib.size_eq]; omega)
  rw [Int.toNat_natCast, this]
  rfl
set_option maxRecDepth 100000 in
theorem run_mid (s : ByteArray) (e f : Int) (n m : Nat) (he : e = (n : Int)) (hf : f = ((n + m : Nat) : Int)) (hn : n + m ≤ s.size) (w : World) :
    (Instr.slice 9 (.string s) (some (.int .i64 e)) (some (.int .i64 f)) none).run Try.prog w = .ok (.string (txt ((s.data.toList.drop n).take m))) w := by
  subst he hf
  rw [run_slice_string w 9 s .i64 .i64 (n : Int) ((n + m : Nat) : Int) Try.underlying9 (by omega) (by omega) (by omega), Lib.extract_eq]
  rw [Int.toNat_natCast, Int.toNat_natCast, Nat.add_sub_cancel_left]
  rfl
theorem byte_at (s : ByteArray) (n : Nat) (h : n < s.size) : s[n].toNat = (s.data.toList.getD n 0).toNat := by
  have h2 : n < s.data.toList.length := by rw [← Lib.size_eq]; exact h
  rw [List.getD_eq_getElem?_getD, List.getElem?_eq_getElem h2]
  rfl
set_option maxRecDepth 100000 in
theorem run_at (s : ByteArray) (e : Int) (n : Nat) (he : e = (n : Int)) (hn : n < s.size) (w : World) :
    (Instr.index 9 (.string s) (.int .i64 e)).run Try.prog w = .ok (.int .u8 (((s.data.toList.getD n 0).toNat : Nat) : Int)) w := by
  subst he
  rw [← byte_at s n hn]
  rw [run_index_string w 9 s .i64 (n : Int) Try.underlying9]
  rw [dif_pos ⟨by omega, by omega⟩]
  rfl

set_option maxRecDepth 100000 in
set_option maxHeartbeats 4000000 in
theorem refDec_any (s : ByteArray) (hs : s.size ≤ maxLen) (w : World) :
    Calls Try.prog 21 #[.string s] w (DecPost s.data.toList w) := by
  have hm := hs
  unfold maxLen at hs
  have hl := Lib.size_eq s
  by_cases h1 : s.size < 5
  · have HE := Lib.hid (dec_none s.data.toList 3 (by unfold decE; rw [if_pos (by omega)]) (by omega))
    have h2 : (s.size : Int) < 5 := by omega
    have HL := Lib.hid hl; clear hl
    go_enter Try.func21, Try.ntmps21
    go_wp2_with fail
    exact bodyPost_ret (v := .tuple #[pv zeroP, .string ⟨#[]⟩, .int .i64 3]) (by simp [results, Try.results21, go_sem, zeroP]) rfl (HE.out _ _ (Joins.below_alloc1 _ _))
  · have h2 : (5 : Int) ≤ s.size := by omega
    have k4 := run_at s 4 4 rfl (by omega)
    have e1 := fun E (h : decE s.data.toList = E) (hE : E ≠ 0) => dec_none s.data.toList E h hE
    have ed : ∀ E, (if 16 < decN s.data.toList then (2 : Int) else if s.data.toList.length < 5 + decN s.data.toList then 3 else if rightP (decM s.data.toList) = true then 0 else 2) = E → decE s.data.toList = E := fun E h => by
      unfold decE; rw [if_neg (by omega)]; exact h
    have ex : decN s.data.toList = (s.data.toList.getD 4 0).toNat := rfl
    have bx := (s.data.toList.getD 4 0).toNat_lt
    rw [← ex] at k4 bx
    clear ex
    rcases Nat.lt_or_ge 16 (decN s.data.toList) with h3 | h3
    · have HE := Lib.hid (e1 2 (ed 2 (by rw [if_pos h3])) (by omega))
      clear e1 ed
      generalize decN s.data.toList = x at *
      have h4 : (16 : Int) < x := by omega
      have w0 : IntKind.i64.wrap (x : Int) = x := IntWalk.i64_in _ (by omega)
      have HL := Lib.hid hl; clear hl
      go_enter Try.func21, Try.ntmps21
      go_wp2_with fail
      exact bodyPost_ret (v := .tuple #[pv zeroP, .string ⟨#[]⟩, .int .i64 2]) (by simp [results, Try.results21, go_sem, zeroP]) rfl (HE.out _ _ (Joins.below_alloc1 _ _))
    · rcases Nat.lt_or_ge s.size (5 + decN s.data.toList) with h5 | h5
      · have HE := Lib.hid (e1 3 (ed 3 (by rw [if_neg (by omega), if_pos (by omega)])) (by omega))
        clear e1 ed
        generalize decN s.data.toList = x at *
        have h4 : (x : Int) ≤ 16 := by omega
        have h6 : (s.size : Int) < 5 + x := by omega
        have w0 : IntKind.i64.wrap (x : Int) = x := IntWalk.i64_in _ (by omega)
        have HL := Lib.hid hl; clear hl
        go_enter Try.func21, Try.ntmps21
        go_wp2_with fail
        exact bodyPost_ret (v := .tuple #[pv zeroP, .string ⟨#[]⟩, .int .i64 3]) (by simp [results, Try.results21, go_sem, zeroP]) rfl (HE.out _ _ (Joins.below_alloc1 _ _))
      · have k0 := run_at s 0 0 rfl (by omega)
        have k1 := run_at s 1 1 rfl (by omega)
        have k2 := run_at s 2 2 rfl (by omega)
        have k3 := run_at s 3 3 rfl (by omega)
        have km := run_mid s 5 (5 + (decN s.data.toList : Int)) 5 (decN s.data.toList) rfl (by omega) h5
        have kb := run_from s (5 + (decN s.data.toList : Int)) (5 + decN s.data.toList) (by omega) h5
        have hE2 : rightP (decM s.data.toList) = false → decE s.data.toList = 2 := fun h => ed 2 (by
          rw [if_neg (by omega), if_neg (by omega), h]; rfl)
        have hE0 : rightP (decM s.data.toList) = true → decE s.data.toList = 0 := fun h => ed 0 (by rw [if_neg (by omega), if_neg (by omega), if_pos h])
        have d0 := fun h => dec_one s.data.toList (hE0 h)
        have d2 := fun h => e1 2 (hE2 h) (by omega)
        have hds : (decM s.data.toList).bytes.size ≤ maxLen := by show (txt _).size ≤ _; rw [txt_size, List.length_take]; unfold maxLen; omega
        have cr := fun w => refRightP_any (decM s.data.toList) hds w
        have hfld : decM s.data.toList = ⟨256 * ((s.data.toList.getD 0 0).toNat : Int) + ((s.data.toList.getD 1 0).toNat : Int), ((s.data.toList.getD 2 0).toNat : Int), ((s.data.toList.getD 3 0).toNat : Int), txt ((s.data.toList.drop 5).take (decN s.data.toList))⟩ := rfl
        clear e1 ed hE2 hE0 hds
        have b0 := (s.data.toList.getD 0 0).toNat_lt
        have b1 := (s.data.toList.getD 1 0).toNat_lt
        have b2 := (s.data.toList.getD 2 0).toNat_lt
        have b3 := (s.data.toList.getD 3 0).toNat_lt
        generalize decM s.data.toList = M at *
        generalize (s.data.toList.getD 0 0).toNat = y0 at *
        generalize (s.data.toList.getD 1 0).toNat = y1 at *
        generalize (s.data.toList.getD 2 0).toNat = y2 at *
        generalize (s.data.toList.getD 3 0).toNat = y3 at *
        generalize txt ((s.data.toList.drop 5).take (decN s.data.toList)) = Dt at *
        generalize txt (s.data.toList.drop (5 + decN s.data.toList)) = Rt at *
        generalize decN s.data.toList = x at *
        subst hfld
        have D0 := Lib.hid d0; clear d0
        have D2 := Lib.hid d2; clear d2
        have h4 : (x : Int) ≤ 16 := by omega
        have h6 : 5 + (x : Int) ≤ (s.size : Int) := by omega
        have w0 : IntKind.i64.wrap (x : Int) = x := IntWalk.i64_in _ (by omega)
        have w1 : IntKind.i64.wrap (y0 : Int) = y0 := IntWalk.i64_in _ (by omega)
        have w2 : IntKind.i64.wrap (y1 : Int) = y1 := IntWalk.i64_in _ (by omega)
        have w3 : IntKind.i64.wrap (y2 : Int) = y2 := IntWalk.i64_in _ (by omega)
        have w4 : IntKind.i64.wrap (y3 : Int) = y3 := IntWalk.i64_in _ (by omega)
        have w5 : IntKind.i64.wrap (5 + (x : Int)) = 5 + (x : Int) := IntWalk.i64_in _ (by omega)
        have w6 : IntKind.i64.wrap (256 * (y0 : Int)) = 256 * (y0 : Int) := IntWalk.i64_in _ (by omega)
        have w7 : IntKind.i64.wrap (256 * (y0 : Int) + (y1 : Int)) = 256 * (y0 : Int) + (y1 : Int) := IntWalk.i64_in _ (by omega)
        have HL := Lib.hid hl; clear hl
        clear h1 h3 h5 hs
        have hF := Four.new w zeroP
        have hW := Joins.below_alloc1 w (.cells (pcl zeroP) 23)
        simp only [pcl, zeroP] at hF hW
        have HF := Lib.hid hF; clear hF
        have HW := Lib.hid hW; clear hW
        go_enter Try.func21, Try.ntmps21
        go_wp2_with fail
        generalize hWW : w.alloc (.cells #[.int .i64 0, .int .i64 0, .int .i64 0, .string ⟨#[]⟩] 23) = W at *
        go_region
        have hP2 : PcAt (W.alloc (.cells (pcl ⟨256 * (y0 : Int) + (y1 : Int), (y2 : Int), (y3 : Int), Dt⟩) 23)).drew W.heap.size ⟨256 * (y0 : Int) + (y1 : Int), (y2 : Int), (y3 : Int), Dt⟩ := PcAt.new W _
        have hb2 : Below W.heap.size W (W.alloc (.cells (pcl ⟨256 * (y0 : Int) + (y1 : Int), (y2 : Int), (y3 : Int), Dt⟩) 23)).drew := (Joins.below_alloc1 W _).drew
        simp only [pcl] at hP2 hb2
        have hlt : w.heap.size < W.heap.size := HF.out.lt
        clear w0 w1 w2 w3 w4 w6 w7
        generalize hW2 : (W.alloc (.cells #[.int .i64 (256 * (y0 : Int) + (y1 : Int)), .int .i64 (y2 : Int), .int .i64 (y3 : Int), .string Dt] 23)).drew = W2 at *
        have HB2 := Lib.hid (HW.out.trans (hb2.mono HW.out.size))
        have HF2 := Lib.hid (HF.out.on hb2)
        have HNE : Hid (w.heap.size ≠ W.heap.size) := Lib.hid (by omega)
        obtain ⟨m0, m1, m2, m3⟩ := hP2.cells
        have HP2 := Lib.hid hP2
        clear hP2 hb2 hlt hW2 hWW k0 k1 k2 k3 km k4
        cases hr : rightP ⟨256 * (y0 : Int) + (y1 : Int), (y2 : Int), (y3 : Int), Dt⟩
        · rw [hr] at cr
          have HD := Lib.hid (D2.out hr)
          clear hr
          go_wp2_with fail; refine (cr _).mono ?_; rintro e w3 ⟨rfl, b3⟩
          have hF3 := HF2.out.on b3
          have H3 := Lib.hid hF3
          have HB3 := Lib.hid (HB2.out.trans (b3.mono HB2.out.size))
          obtain ⟨z0, z1, z2, z3, ⟨q0, q1, q2, q3⟩, hfz⟩ := hF3.cells
          clear m0 m1 m2 m3 b3 hF3
          go_wp2_with fail
          have hf := (put4_blk H3.out zeroP).cells
          unfold put4 at hf
          simp only [zeroP] at hf
          obtain ⟨r0, r1, r2, r3⟩ := hf
          exact bodyPost_ret (v := .tuple #[pv zeroP, .string ⟨#[]⟩, .int .i64 2]) (by simp [results, Try.results21, go_sem, zeroP, r0, r1, r2, r3]) rfl (HD.out _ _ (put4_below HB3.out (Nat.le_refl _) zeroP))
        · rw [hr] at cr
          have HD := Lib.hid (D0.out hr)
          clear hr
          go_wp2_with fail; refine (cr _).mono ?_; rintro e w3 ⟨rfl, b3⟩
          have hF3 := HF2.out.on b3
          have H3 := Lib.hid hF3
          have HB3 := Lib.hid (HB2.out.trans (b3.mono HB2.out.size))
          obtain ⟨z0, z1, z2, z3, ⟨q0, q1, q2, q3⟩, hfz⟩ := hF3.cells
          have hP3 := HP2.out.on b3
          clear m0 m1 m2 m3 b3 hF3
          obtain ⟨m0, m1, m2, m3⟩ := hP3.cells
          clear hP3
          go_wp2_with fail
          have hne := HNE.out
          go_region
          have hf := (put4_blk H3.out ⟨256 * (y0 : Int) + (y1 : Int), (y2 : Int), (y3 : Int), Dt⟩).cells
          unfold put4 at hf
          simp only at hf
          obtain ⟨r0, r1, r2, r3⟩ := hf
          go_wp2_with fail
          exact bodyPost_ret (v := .tuple #[pv ⟨256 * (y0 : Int) + (y1 : Int), (y2 : Int), (y3 : Int), Dt⟩, .string Rt, .int .i64 0]) (by simp [results, Try.results21, go_sem, r0, r1, r2, r3]) rfl (HD.out _ _ (put4_below HB3.out (Nat.le_refl _) ⟨256 * (y0 : Int) + (y1 : Int), (y2 : Int), (y3 : Int), Dt⟩).drew)

end Go.Proofs.Ytggeojjiongbbaa

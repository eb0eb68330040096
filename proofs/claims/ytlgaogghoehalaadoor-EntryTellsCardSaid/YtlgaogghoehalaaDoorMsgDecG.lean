/-
  The bytes of messages, by the document: Decode.
-/
import Derived.Test.YtlgaogghoehalaaDoorMsgEncG

namespace Go.Proofs.YtlgaogghoehalaaDoor
open Go.RowKit

theorem set_blk {w : World} {g : Nat} {Z : Array Value} {T : TypeId} (h : w.heap[g]? = some (.cells Z T (0, 0))) (i : Nat) (v : Value) : (w.setCell ⟨g, i, none⟩ v).heap[g]? = some (.cells (Z.setIfInBounds i v) T (0, 0)) := by
  simp [World.setCell, Array.getElem?_modify, h]
/-- A message stored into block g, cell by cell. -/
def put7 (w : World) (g : Nat) (m : Msg) : World :=
  ((((((w.setCell ⟨g, 0, none⟩ (.bool m.ext)).setCell ⟨g, 1, none⟩ (.int .i64 m.n)).setCell ⟨g, 2, none⟩ (.int .i64 m.sender)).setCell ⟨g, 3, none⟩ (.int .i64 m.inc)).setCell ⟨g, 4, none⟩ (.int .i64 m.seq)).setCell ⟨g, 5, none⟩ (.int .i64 m.number)).setCell ⟨g, 6, none⟩ (.string m.data)
set_option maxRecDepth 100000 in
theorem put7_blk {w : World} {g : Nat} (h : Seven w g) (m : Msg) : (put7 w g m).heap[g]? = some (.cells (mc m) 36 (0, 0)) := by
  obtain ⟨Z, h1, h2⟩ := h
  obtain ⟨l, rfl⟩ : ∃ l : List Value, Z = l.toArray := ⟨Z.toList, by simp⟩
  have h3 : l.length = 7 := by simpa using h2
  match l, h3, h1 with
  | [z0, z1, z2, z3, z4, z5, z6], _, h1 =>
    have e0 := set_blk h1 0 (.bool m.ext)
    have e1 := set_blk e0 1 (.int .i64 m.n)
    have e2 := set_blk e1 2 (.int .i64 m.sender)
    have e3 := set_blk e2 3 (.int .i64 m.inc)
    have e4 := set_blk e3 4 (.int .i64 m.seq)
    have e5 := set_blk e4 5 (.int .i64 m.number)
    have e6 := set_blk e5 6 (.string m.data)
    simp only [List.setIfInBounds_toArray, List.set_cons_zero, List.set_cons_succ] at e6
    exact e6
theorem put7_far (w : World) {g g' : Nat} (h : g' ≠ g) (m : Msg) : (put7 w g m).heap[g']? = w.heap[g']? := by
  unfold put7
  rw [Below.heap_setCell _ _ _ _ h, Below.heap_setCell _ _ _ _ h, Below.heap_setCell _ _ _ _ h, Below.heap_setCell _ _ _ _ h, Below.heap_setCell _ _ _ _ h, Below.heap_setCell _ _ _ _ h, Below.heap_setCell _ _ _ _ h]
theorem put7_below {B : Nat} {a w : World} (h : Below B a w) {g : Nat} (hg : B ≤ g) (m : Msg) : Below B a (put7 w g m) :=
  (((((((h.setCell (p := ⟨g, 0, none⟩) hg _).setCell (p := ⟨g, 1, none⟩) hg _).setCell (p := ⟨g, 2, none⟩) hg _).setCell (p := ⟨g, 3, none⟩) hg _).setCell (p := ⟨g, 4, none⟩) hg _).setCell (p := ⟨g, 5, none⟩) hg _).setCell (p := ⟨g, 6, none⟩) hg _)
theorem Holds.of_blk {w : World} {g : Nat} {m : Msg} (h : w.heap[g]? = some (.cells (mc m) 36 (0, 0))) : Holds w g m := by
  have hl := (Array.getElem?_eq_some_iff.1 h).1
  refine ⟨hl, ?_, ?_, ?_, ?_, ?_, ?_, ?_⟩ <;> simp [World.cell?, h]
set_option maxRecDepth 100000 in
theorem Seven.put7 {w : World} {g g' : Nat} (h : Seven w g) (h' : Seven w g') (m : Msg) : Seven (put7 w g m) g' := by
  by_cases e : g' = g
  · rw [e]; exact ⟨_, put7_blk h m, rfl⟩
  · obtain ⟨Z, h1, h2⟩ := h'
    exact ⟨Z, (put7_far w e m).trans h1, h2⟩
theorem Holds.far {w w' : World} {g : Nat} {m : Msg} (h : Holds w g m) (e : w'.heap[g]? = w.heap[g]?) (hl : g < w'.heap.size) : Holds w' g m := by
  obtain ⟨hB, h0, h1, h2, h3, h4, h5, h6⟩ := h
  exact ⟨hl, (World.cell?_of_block e).trans h0, (World.cell?_of_block e).trans h1, (World.cell?_of_block e).trans h2, (World.cell?_of_block e).trans h3, (World.cell?_of_block e).trans h4, (World.cell?_of_block e).trans h5, (World.cell?_of_block e).trans h6⟩
set_option maxRecDepth 100000 in
theorem Holds.put7 {w : World} {g g' : Nat} (h : Seven w g) {m : Msg} (h' : Holds w g' m) : Holds (put7 w g m) g' m := by
  by_cases e : g' = g
  · rw [e]; exact Holds.of_blk (put7_blk h m)
  · have hs := (put7_below (Below.refl 0 w) (Nat.zero_le g) m).size
    exact h'.far (put7_far w e m) (Nat.lt_of_lt_of_le h'.1 hs)
set_option maxRecDepth 100000 in
/-- Its cells, each of them, and that none is frozen. -/
theorem Seven.cells {w : World} {g : Nat} (h : Seven w g) : ∃ z0 z1 z2 z3 z4 z5 z6 : Value, (w.cell? ⟨g, 0, none⟩ = some z0 ∧ w.cell? ⟨g, 1, none⟩ = some z1 ∧ w.cell? ⟨g, 2, none⟩ = some z2 ∧ w.cell? ⟨g, 3, none⟩ = some z3 ∧ w.cell? ⟨g, 4, none⟩ = some z4 ∧ w.cell? ⟨g, 5, none⟩ = some z5 ∧ w.cell? ⟨g, 6, none⟩ = some z6) ∧ ∀ i, w.frozen? ⟨g, i, none⟩ = false := by
  obtain ⟨⟨l⟩, h1, h2⟩ := h
  match l, h2 with
  | [z0, z1, z2, z3, z4, z5, z6], _ =>
    refine ⟨z0, z1, z2, z3, z4, z5, z6, ?_, fun i => by simp [World.frozen?, h1]⟩
    refine ⟨?_, ?_, ?_, ?_, ?_, ?_, ?_⟩ <;> simp [World.cell?, h1]

/-- Two bytes' number. -/
def pairL (l : List UInt8) (k : Nat) : Int := 256 * ((l.getD k 0).toNat : Int) + ((l.getD (k + 1) 0).toNat : Int)

set_option maxRecDepth 100000 in
theorem refTold_any (s : ByteArray) (k : Nat) (hk : k + 1 < s.size) (hs : s.size ≤ maxLen) (w : World) :
    Calls Tryd.prog 71 #[.string s, .int .i64 k] w fun e w' => e = .returned (.int .i64 (pairL s.data.toList k)) ∧ ∃ n, w' = w.drewN n := by
  unfold maxLen at hs
  have k0 := run_at s k k rfl (by omega)
  have k1 := run_at s ((k : Int) + 1) (k + 1) (by omega) hk
  have ek : IntKind.i64.wrap ((k : Int) + 1) = (k : Int) + 1 := IntWalk.i64_in _ (by omega)
  have HV : Hid (pairL s.data.toList k = 256 * ((s.data.toList.getD k 0).toNat : Int) + ((s.data.toList.getD (k + 1) 0).toNat : Int)) := Lib.hid rfl
  have b0 := (s.data.toList.getD k 0).toNat_lt
  have b1 := (s.data.toList.getD (k + 1) 0).toNat_lt
  generalize (s.data.toList.getD k 0).toNat = x0 at *
  generalize (s.data.toList.getD (k + 1) 0).toNat = x1 at *
  have e0 : IntKind.i64.wrap (x0 : Int) = x0 := IntWalk.i64_in _ (by omega)
  have e1 : IntKind.i64.wrap (x1 : Int) = x1 := IntWalk.i64_in _ (by omega)
  have f0 : IntKind.i64.wrap (256 * (x0 : Int)) = 256 * (x0 : Int) := IntWalk.i64_in _ (by omega)
  have g1 : IntKind.i64.wrap (256 * (x0 : Int) + (x1 : Int)) = 256 * (x0 : Int) + (x1 : Int) := IntWalk.i64_in _ (by omega)
  go_enter Tryd.func71, Tryd.ntmps71
  go_wp2_with fail
  go_quiet (fail)
  go_wp2_with fail
  go_ret
  exact ⟨ret_i HV.out.symm, _, rfl⟩

/-- How many bytes of data are told. -/
def decN (l : List UInt8) : Nat := (l.getD 11 0).toNat
/-- The message that bytes may tell. -/
def decM (l : List UInt8) : Msg := ⟨psRB (l.take 4), psRN (l.take 4), ((l.getD 4 0).toNat : Int), pairL l 5, pairL l 7, pairL l 9, txt ((l.drop 12).take (decN l))⟩
def decE (l : List UInt8) : Int := if l.length < 12 then 3 else if 8 < decN l then 2 else if l.length < 12 + decN l then 3 else if psE (l.take 4) = 0 then (if rightM (decM l) = true then 0 else 2) else 2
def decR (l : List UInt8) : Msg := if decE l = 0 then decM l else zeroM
def decRest (l : List UInt8) : List UInt8 := if decE l = 0 then l.drop (12 + decN l) else []
def DecPost (l : List UInt8) (w : World) (e : Ending) (w' : World) : Prop := e = .returned (.tuple #[mv (decR l), .string (txt (decRest l)), .int .i64 (decE l)]) ∧ Below w.heap.size w w'
set_option maxRecDepth 100000 in
theorem dec_none (l : List UInt8) (E : Int) (h : decE l = E) (hE : E ≠ 0) : ∀ w w', Below w.heap.size w w' → DecPost l w (.returned (.tuple #[mv zeroM, .string ⟨#[]⟩, .int .i64 E])) w' := by
  intro w w' hb
  have h0 : ¬ decE l = 0 := by rw [h]; exact hE
  refine ⟨?_, hb⟩
  unfold decR decRest
  rw [if_neg h0, if_neg h0, h]
  rfl
set_option maxRecDepth 100000 in
theorem dec_one (l : List UInt8) (h : decE l = 0) : ∀ w w', Below w.heap.size w w' → DecPost l w (.returned (.tuple #[mv (decM l), .string (txt (l.drop (12 + decN l))), .int .i64 0])) w' := by
  intro w w' hb
  refine ⟨?_, hb⟩
  unfold decR decRest
  rw [if_pos h, if_pos h, h]

set_option maxRecDepth 100000 in
theorem run_to (s : ByteArray) (e : Int) (n : Nat) (he : e = (n : Int)) (hn : n ≤ s.size) (w : World) :
    (Instr.slice 9 (.string s) none (some (.int .i64 e)) none).run Tryd.prog w = .ok (.string (txt (s.data.toList.take n))) w := by
  subst he
  rw [run_slice_string_to_if w 9 s .i64 n Tryd.underlying9, if_pos ⟨by omega, by omega⟩, Lib.extract_eq]
  rfl
set_option maxRecDepth 100000 in
theorem run_from (s : ByteArray) (e : Int) (n : Nat) (he : e = (n : Int)) (hn : n ≤ s.size) (w : World) :
    (Instr.slice 9 (.string s) (some (.int .i64 e)) none none).run Tryd.prog w = .ok (.string (txt (s.data.toList.drop n))) w := by
  subst he
  rw [run_slice_string_from_if w 9 s .i64 n Tryd.underlying9, if_pos ⟨by omega, by omega⟩, Lib.extract_eq]
  have : (s.data.toList.drop n).take (s.size - n) = s.data.toList.drop n := List.take_of_length_le (by rw [List.length_drop, ← Lib.size_eq]; omega)
  rw [Int.toNat_natCast, this]
  rfl
set_option maxRecDepth 100000 in
theorem run_mid (s : ByteArray) (e f : Int) (n m : Nat) (he : e = (n : Int)) (hf : f = ((n + m : Nat) : Int)) (hn : n + m ≤ s.size) (w : World) :
    (Instr.slice 9 (.string s) (some (.int .i64 e)) (some (.int .i64 f)) none).run Tryd.prog w = .ok (.string (txt ((s.data.toList.drop n).take m))) w := by
  subst he hf
  rw [run_slice_string w 9 s .i64 .i64 (n : Int) ((n + m : Nat) : Int) Tryd.underlying9 (by omega) (by omega) (by omega), Lib.extract_eq]
  rw [Int.toNat_natCast, Int.toNat_natCast, Nat.add_sub_cancel_left]
  rfl

set_option maxRecDepth 100000 in
set_option maxHeartbeats 4000000 in
theorem refDec_any (s : ByteArray) (hs : s.size ≤ maxLen) (w : World) :
    Calls Tryd.prog 47 #[.string s] w (DecPost s.data.toList w) := by
  have hm := hs
  unfold maxLen at hs
  have hl := Lib.size_eq s
  by_cases h1 : s.size < 12
  · have HE := Lib.hid (dec_none s.data.toList 3 (by unfold decE; rw [if_pos (by omega)]) (by omega))
    have h2 : (s.size : Int) < 12 := by omega
    have HL := Lib.hid hl; clear hl
    go_enter Tryd.func47, Tryd.ntmps47
    go_wp2_with fail
    exact bodyPost_ret (v := .tuple #[mv zeroM, .string ⟨#[]⟩, .int .i64 3]) (by simp [results, Tryd.results47, go_sem, zeroM]) rfl (HE.out _ _ (Joins.below_alloc1 _ _))
  · have h2 : (12 : Int) ≤ s.size := by omega
    have k11 := run_at s 11 11 rfl (by omega)
    have e1 := fun E (h : decE s.data.toList = E) (hE : E ≠ 0) => dec_none s.data.toList E h hE
    have ed : ∀ E, (if 8 < decN s.data.toList then (2 : Int) else if s.data.toList.length < 12 + decN s.data.toList then 3 else if psE (s.data.toList.take 4) = 0 then (if rightM (decM s.data.toList) = true then 0 else 2) else 2) = E → decE s.data.toList = E := fun E h => by
      unfold decE; rw [if_neg (by omega)]; exact h
    have ex : decN s.data.toList = (s.data.toList.getD 11 0).toNat := rfl
    have bx := (s.data.toList.getD 11 0).toNat_lt
    rw [← ex] at k11 bx
    clear ex
    rcases Nat.lt_or_ge 8 (decN s.data.toList) with h3 | h3
    · have HE := Lib.hid (e1 2 (ed 2 (by rw [if_pos h3])) (by omega))
      clear e1 ed
      generalize decN s.data.toList = x at *
      have h4 : (8 : Int) < x := by omega
      have w0 : IntKind.i64.wrap (x : Int) = x := IntWalk.i64_in _ (by omega)
      have HL := Lib.hid hl; clear hl
      go_enter Tryd.func47, Tryd.ntmps47
      go_wp2_with fail
      exact bodyPost_ret (v := .tuple #[mv zeroM, .string ⟨#[]⟩, .int .i64 2]) (by simp [results, Tryd.results47, go_sem, zeroM]) rfl (HE.out _ _ (Joins.below_alloc1 _ _))
    · rcases Nat.lt_or_ge s.size (12 + decN s.data.toList) with h5 | h5
      · have HE := Lib.hid (e1 3 (ed 3 (by rw [if_neg (by omega), if_pos (by omega)])) (by omega))
        clear e1 ed
        generalize decN s.data.toList = x at *
        have h4 : (x : Int) ≤ 8 := by omega
        have h6 : (s.size : Int) < 12 + x := by omega
        have w0 : IntKind.i64.wrap (x : Int) = x := IntWalk.i64_in _ (by omega)
        have HL := Lib.hid hl; clear hl
        go_enter Tryd.func47, Tryd.ntmps47
        go_wp2_with fail
        exact bodyPost_ret (v := .tuple #[mv zeroM, .string ⟨#[]⟩, .int .i64 3]) (by simp [results, Tryd.results47, go_sem, zeroM]) rfl (HE.out _ _ (Joins.below_alloc1 _ _))
      · have k4 := run_to s 4 4 rfl (by omega)
        have km := run_mid s 12 (12 + (decN s.data.toList : Int)) 12 (decN s.data.toList) rfl (by omega) h5
        have kb := run_from s (12 + (decN s.data.toList : Int)) (12 + decN s.data.toList) (by omega) h5
        have ks := run_at s 4 4 rfl (by omega)
        have ht4 : (txt (s.data.toList.take 4)).size ≤ maxLen := by rw [txt_size, List.length_take]; unfold maxLen; omega
        have cp := fun w => refParse_any (txt (s.data.toList.take 4)) w ht4
        have t5 := fun w => refTold_any s 5 (by omega) hm w
        have t7 := fun w => refTold_any s 7 (by omega) hm w
        have t9 := fun w => refTold_any s 9 (by omega) hm w
        have hE2 : psE (s.data.toList.take 4) ≠ 0 ∨ rightM (decM s.data.toList) = false → decE s.data.toList = 2 := fun h => ed 2 (by
          rw [if_neg (by omega), if_neg (by omega)]
          by_cases hp : psE (s.data.toList.take 4) = 0
          · rw [if_pos hp, h.resolve_left (fun hn => hn hp)]; rfl
          · rw [if_neg hp])
        have hE0 : psE (s.data.toList.take 4) = 0 → rightM (decM s.data.toList) = true → decE s.data.toList = 0 := fun h h' => ed 0 (by rw [if_neg (by omega), if_neg (by omega), if_pos h, if_pos h'])
        have d0 := fun h h' => dec_one s.data.toList (hE0 h h')
        have d2 := fun h => e1 2 (hE2 h) (by omega)
        have hds : (decM s.data.toList).data.size ≤ maxLen := by show (txt _).size ≤ _; rw [txt_size, List.length_take]; unfold maxLen; omega
        have cr := fun w => refRightM_any (decM s.data.toList) hds w
        have hfld : decM s.data.toList = ⟨psRB (s.data.toList.take 4), psRN (s.data.toList.take 4), ((s.data.toList.getD 4 0).toNat : Int), pairL s.data.toList 5, pairL s.data.toList 7, pairL s.data.toList 9, txt ((s.data.toList.drop 12).take (decN s.data.toList))⟩ := rfl
        have cp : ∀ w, Calls Tryd.prog 70 #[.string (txt (s.data.toList.take 4))] w fun e w' => e = .returned (.tuple #[.agg #[.bool (psRB (s.data.toList.take 4)), .int .i64 (psRN (s.data.toList.take 4))], .int .i64 (psE (s.data.toList.take 4))]) ∧ Below w.heap.size w w' := cp
        clear e1 ed hE2 hE0 ht4 hds
        have bs := (s.data.toList.getD 4 0).toNat_lt
        generalize decM s.data.toList = M at *
        generalize psRB (s.data.toList.take 4) = b at *
        generalize psRN (s.data.toList.take 4) = nn at *
        generalize psE (s.data.toList.take 4) = pe at *
        generalize txt (s.data.toList.take 4) = T4 at *
        generalize (s.data.toList.getD 4 0).toNat = sd at *
        generalize pairL s.data.toList 5 = p5 at *
        generalize pairL s.data.toList 7 = p7 at *
        generalize pairL s.data.toList 9 = p9 at *
        generalize txt ((s.data.toList.drop 12).take (decN s.data.toList)) = Dt at *
        generalize txt (s.data.toList.drop (12 + decN s.data.toList)) = Rt at *
        generalize decN s.data.toList = x at *
        subst hfld
        have D0 := Lib.hid d0; clear d0
        have D2 := Lib.hid d2; clear d2
        have h4 : (x : Int) ≤ 8 := by omega
        have h6 : 12 + (x : Int) ≤ (s.size : Int) := by omega
        have w0 : IntKind.i64.wrap (x : Int) = x := IntWalk.i64_in _ (by omega)
        have w1' : IntKind.i64.wrap (sd : Int) = sd := IntWalk.i64_in _ (by omega)
        have w2' : IntKind.i64.wrap (12 + (x : Int)) = 12 + (x : Int) := IntWalk.i64_in _ (by omega)
        have HL := Lib.hid hl; clear hl
        clear h1 h3 h5 hs
        go_enter Tryd.func47, Tryd.ntmps47
        go_wp2_with fail; refine (cp _).mono ?_; rintro e w1 ⟨rfl, b1⟩
        have hW := Joins.below_alloc1 w (.cells (mc zeroM) 36)
        have hs0 := (Seven.new w zeroM).below b1
        go_wp2_with fail
        have x0 : (w1.alloc (.cells #[.bool b, .int .i64 nn] 34)).cell? ⟨w1.heap.size, 0, none⟩ = some (.bool b) := by simp [go_sem]
        have x1 : (w1.alloc (.cells #[.bool b, .int .i64 nn] 34)).cell? ⟨w1.heap.size, 1, none⟩ = some (.int .i64 nn) := by simp [go_sem]
        have hs1 := hs0.below (Joins.below_alloc1 w1 (.cells #[.bool b, .int .i64 nn] 34))
        have hzz : w1.heap.size < (w1.alloc (.cells #[.bool b, .int .i64 nn] 34)).heap.size := by simp
        have b2 := (hW.trans (b1.mono hW.size)).trans ((Joins.below_alloc1 w1 (.cells #[.bool b, .int .i64 nn] 34)).mono (Nat.le_trans hW.size b1.size))
        generalize w1.alloc (.cells #[.bool b, .int .i64 nn] 34) = W2 at *
        have X0 := Lib.hid x0; clear x0
        have X1 := Lib.hid x1; clear x1
        have HZ := Lib.hid hzz; clear hzz
        have Z1 := Lib.hid hs1; clear hs1 hs0
        have B2 := Lib.hid b2; clear b2 b1 hW cp
        have HV : ∃ V : Nat → (Nat → Value) → World → Prop, V = (fun ix u wv => match ix with
          | 0 => u 0 = .agg #[.bool b, .int .i64 nn]
          | 1 => u 1 = .string s
          | 2 => u 2 = .int .u8 (sd : Int)
          | 3 => u 3 = .int .i64 (sd : Int)
          | 4 => u 4 = .string s
          | 5 => u 5 = .int .i64 p5
          | 6 => u 6 = .string s
          | 7 => u 7 = .int .i64 p7
          | 8 => u 8 = .string s
          | 9 => u 9 = .int .i64 p9
          | 10 => u 10 = .string s
          | 11 => u 11 = .int .i64 (x : Int)
          | 12 => u 12 = .int .i64 (12 + (x : Int))
          | 13 => u 13 = .string Dt
          | 14 => u 14 = .agg #[.bool b, .int .i64 nn, .int .i64 (sd : Int), .int .i64 p5, .int .i64 p7, .int .i64 p9, .string Dt]
          | 15 => ∃ g, u 15 = .pointer (some ⟨g, 0, none⟩) ∧ W2.heap.size ≤ g ∧ Seven wv g
          | 16 => ∃ g, u 15 = .pointer (some ⟨g, 0, none⟩) ∧ W2.heap.size ≤ g ∧ Holds wv g ⟨b, nn, (sd : Int), p5, p7, p9, Dt⟩
          | _ => True) := ⟨_, rfl⟩
        obtain ⟨V, hVdef⟩ := HV
        have V0 : ∀ u wv, V 0 u wv = (u 0 = .agg #[.bool b, .int .i64 nn]) := fun u wv => by subst hVdef; rfl
        have V1 : ∀ u wv, V 1 u wv = (u 1 = .string s) := fun u wv => by subst hVdef; rfl
        have V2 : ∀ u wv, V 2 u wv = (u 2 = .int .u8 (sd : Int)) := fun u wv => by subst hVdef; rfl
        have V3 : ∀ u wv, V 3 u wv = (u 3 = .int .i64 (sd : Int)) := fun u wv => by subst hVdef; rfl
        have V4 : ∀ u wv, V 4 u wv = (u 4 = .string s) := fun u wv => by subst hVdef; rfl
        have V5 : ∀ u wv, V 5 u wv = (u 5 = .int .i64 p5) := fun u wv => by subst hVdef; rfl
        have V6 : ∀ u wv, V 6 u wv = (u 6 = .string s) := fun u wv => by subst hVdef; rfl
        have V7 : ∀ u wv, V 7 u wv = (u 7 = .int .i64 p7) := fun u wv => by subst hVdef; rfl
        have V8 : ∀ u wv, V 8 u wv = (u 8 = .string s) := fun u wv => by subst hVdef; rfl
        have V9 : ∀ u wv, V 9 u wv = (u 9 = .int .i64 p9) := fun u wv => by subst hVdef; rfl
        have V10 : ∀ u wv, V 10 u wv = (u 10 = .string s) := fun u wv => by subst hVdef; rfl
        have V11 : ∀ u wv, V 11 u wv = (u 11 = .int .i64 (x : Int)) := fun u wv => by subst hVdef; rfl
        have V12 : ∀ u wv, V 12 u wv = (u 12 = .int .i64 (12 + (x : Int))) := fun u wv => by subst hVdef; rfl
        have V13 : ∀ u wv, V 13 u wv = (u 13 = .string Dt) := fun u wv => by subst hVdef; rfl
        have V14 : ∀ u wv, V 14 u wv = (u 14 = .agg #[.bool b, .int .i64 nn, .int .i64 (sd : Int), .int .i64 p5, .int .i64 p7, .int .i64 p9, .string Dt]) := fun u wv => by subst hVdef; rfl
        have V15 : ∀ u wv, V 15 u wv = (∃ g, u 15 = .pointer (some ⟨g, 0, none⟩) ∧ W2.heap.size ≤ g ∧ Seven wv g) := fun u wv => by subst hVdef; rfl
        have V16 : ∀ u wv, V 16 u wv = (∃ g, u 15 = .pointer (some ⟨g, 0, none⟩) ∧ W2.heap.size ≤ g ∧ Holds wv g ⟨b, nn, (sd : Int), p5, p7, p9, Dt⟩) := fun u wv => by subst hVdef; rfl
        have HVD := Lib.hid hVdef
        clear hVdef
        refine region_each (V := V) (drop := fun _ _ => false) (G := fun wv => Below W2.heap.size W2 wv) (Rel := fun jx wv wv' => Below W2.heap.size wv wv' ∧ (∀ g, Seven wv g → Seven wv' g) ∧ (∀ g, Holds wv g ⟨b, nn, (sd : Int), p5, p7, p9, Dt⟩ → Holds wv' g ⟨b, nn, (sd : Int), p5, p7, p9, Dt⟩)) (by kernel_rfl) (by kernel_rfl) (Below.refl _ _).drew ?hmono1 ?hdep1 ⟨?s0_1, ?s1_1, ?s2_1, ?s3_1, ?s4_1, ?s5_1, ?s6_1, ?s7_1, ?s8_1, ?s9_1, ?s10_1, ?s11_1, ?s12_1, ?s13_1, ?s14_1, ?s15_1, ?s16_1, trivial⟩ ?behind1
        case hmono1 =>
          intro ix jx u wv wv' hij hw hd hr
          rw [HVD.out]
          dsimp only
          split <;> intro h <;> first | exact trivial | exact h | (obtain ⟨g, h1, h2, h3⟩ := h; first | exact ⟨g, h1, h2, hr.2.1 g h3⟩ | exact ⟨g, h1, h2, hr.2.2 g h3⟩)
        case hdep1 =>
          intro ix u u' wv h1 h2
          rw [HVD.out]
          dsimp only
          split <;> intro h <;> first | exact trivial | (rw [← h1]; exact h) | (obtain ⟨g, e1, e2⟩ := h; first | exact ⟨g, h1 ▸ e1, e2⟩ | exact ⟨g, (h2 15 (by kernel_rfl)) ▸ e1, e2⟩)
        case s0_1 =>
          refine owe rfl fun a wx val hG hV hN hO K hK => ?_
          have e6 : a.tmps[6]? = some (.pointer (some ⟨w1.heap.size, 0, none⟩)) := (hO 6 (by kernel_rfl)).trans (by rfl)
          clear hV hN hO
          have x0 : wx.cell? ⟨w1.heap.size, 0, none⟩ = some (.bool b) := (hG.cell (p := ⟨w1.heap.size, 0, none⟩) HZ.out).trans X0.out
          have x1 : wx.cell? ⟨w1.heap.size, 1, none⟩ = some (.int .i64 nn) := (hG.cell (p := ⟨w1.heap.size, 1, none⟩) HZ.out).trans X1.out
          go_simp
          exact hK.out _ _ (by rw [V0, upd_at]) ⟨Below.refl _ _, fun _ h => h, fun _ h => h⟩ hG
        case s1_1 =>
          refine owe rfl fun a wx val hG hV hN hO K hK => ?_
          have e0 : a.tmps[0]? = some (.string s) := (hO 0 (by kernel_rfl)).trans (by rfl)
          clear hV hN hO
          go_simp
          exact hK.out _ _ (by rw [V1, upd_at]) ⟨Below.refl _ _, fun _ h => h, fun _ h => h⟩ hG
        case s2_1 =>
          refine owe rfl fun a wx val hG hV hN hO K hK => ?_
          have e32 := hN 1 32 (by kernel_rfl) (by kernel_rfl) (by simp)
          have f32 := hV 1 (by kernel_rfl) (by kernel_rfl)
          rw [V1] at f32
          rw [f32] at e32; clear f32
          clear hV hN hO
          go_simp
          exact hK.out _ _ (by rw [V2, upd_at]) ⟨Below.refl _ _, fun _ h => h, fun _ h => h⟩ hG
        case s3_1 =>
          refine owe rfl fun a wx val hG hV hN hO K hK => ?_
          have e33 := hN 2 33 (by kernel_rfl) (by kernel_rfl) (by simp)
          have f33 := hV 2 (by kernel_rfl) (by kernel_rfl)
          rw [V2] at f33
          rw [f33] at e33; clear f33
          clear hV hN hO
          go_simp
          exact hK.out _ _ (by rw [V3, upd_at]) ⟨Below.refl _ _, fun _ h => h, fun _ h => h⟩ hG
        case s4_1 =>
          refine owe rfl fun a wx val hG hV hN hO K hK => ?_
          have e0 : a.tmps[0]? = some (.string s) := (hO 0 (by kernel_rfl)).trans (by rfl)
          clear hV hN hO
          go_simp
          exact hK.out _ _ (by rw [V4, upd_at]) ⟨Below.refl _ _, fun _ h => h, fun _ h => h⟩ hG
        case s5_1 =>
          refine owe rfl fun a wx val hG hV hN hO K hK => ?_
          have e35 := hN 4 35 (by kernel_rfl) (by kernel_rfl) (by simp)
          have f35 := hV 4 (by kernel_rfl) (by kernel_rfl)
          rw [V4] at f35
          rw [f35] at e35; clear f35
          clear hV hN hO
          go_simp
          refine (t5 _).mono ?_
          rintro e w3 ⟨rfl, nq, rfl⟩
          have hb := below_drewN (Below.refl wx.heap.size wx) nq
          exact hK.out _ _ (by rw [V5, upd_at]) ⟨hb.mono hG.size, fun _ h => h.below hb, fun _ h => h.below hb⟩ (hG.trans (hb.mono hG.size))
        case s6_1 =>
          refine owe rfl fun a wx val hG hV hN hO K hK => ?_
          have e0 : a.tmps[0]? = some (.string s) := (hO 0 (by kernel_rfl)).trans (by rfl)
          clear hV hN hO
          go_simp
          exact hK.out _ _ (by rw [V6, upd_at]) ⟨Below.refl _ _, fun _ h => h, fun _ h => h⟩ hG
        case s7_1 =>
          refine owe rfl fun a wx val hG hV hN hO K hK => ?_
          have e37 := hN 6 37 (by kernel_rfl) (by kernel_rfl) (by simp)
          have f37 := hV 6 (by kernel_rfl) (by kernel_rfl)
          rw [V6] at f37
          rw [f37] at e37; clear f37
          clear hV hN hO
          go_simp
          refine (t7 _).mono ?_
          rintro e w3 ⟨rfl, nq, rfl⟩
          have hb := below_drewN (Below.refl wx.heap.size wx) nq
          exact hK.out _ _ (by rw [V7, upd_at]) ⟨hb.mono hG.size, fun _ h => h.below hb, fun _ h => h.below hb⟩ (hG.trans (hb.mono hG.size))
        case s8_1 =>
          refine owe rfl fun a wx val hG hV hN hO K hK => ?_
          have e0 : a.tmps[0]? = some (.string s) := (hO 0 (by kernel_rfl)).trans (by rfl)
          clear hV hN hO
          go_simp
          exact hK.out _ _ (by rw [V8, upd_at]) ⟨Below.refl _ _, fun _ h => h, fun _ h => h⟩ hG
        case s9_1 =>
          refine owe rfl fun a wx val hG hV hN hO K hK => ?_
          have e39 := hN 8 39 (by kernel_rfl) (by kernel_rfl) (by simp)
          have f39 := hV 8 (by kernel_rfl) (by kernel_rfl)
          rw [V8] at f39
          rw [f39] at e39; clear f39
          clear hV hN hO
          go_simp
          refine (t9 _).mono ?_
          rintro e w3 ⟨rfl, nq, rfl⟩
          have hb := below_drewN (Below.refl wx.heap.size wx) nq
          exact hK.out _ _ (by rw [V9, upd_at]) ⟨hb.mono hG.size, fun _ h => h.below hb, fun _ h => h.below hb⟩ (hG.trans (hb.mono hG.size))
        case s10_1 =>
          refine owe rfl fun a wx val hG hV hN hO K hK => ?_
          have e0 : a.tmps[0]? = some (.string s) := (hO 0 (by kernel_rfl)).trans (by rfl)
          clear hV hN hO
          go_simp
          exact hK.out _ _ (by rw [V10, upd_at]) ⟨Below.refl _ _, fun _ h => h, fun _ h => h⟩ hG
        case s11_1 =>
          refine owe rfl fun a wx val hG hV hN hO K hK => ?_
          have e5 : a.tmps[5]? = some (.int .i64 (x : Int)) := (hO 5 (by kernel_rfl)).trans (by rfl)
          clear hV hN hO
          go_simp
          exact hK.out _ _ (by rw [V11, upd_at]) ⟨Below.refl _ _, fun _ h => h, fun _ h => h⟩ hG
        case s12_1 =>
          refine owe rfl fun a wx val hG hV hN hO K hK => ?_
          have e42 := hN 11 42 (by kernel_rfl) (by kernel_rfl) (by simp)
          have f42 := hV 11 (by kernel_rfl) (by kernel_rfl)
          rw [V11] at f42
          rw [f42] at e42; clear f42
          clear hV hN hO
          go_simp
          exact hK.out _ _ (by rw [V12, upd_at]) ⟨Below.refl _ _, fun _ h => h, fun _ h => h⟩ hG
        case s13_1 =>
          refine owe rfl fun a wx val hG hV hN hO K hK => ?_
          have e41 := hN 10 41 (by kernel_rfl) (by kernel_rfl) (by simp)
          have f41 := hV 10 (by kernel_rfl) (by kernel_rfl)
          rw [V10] at f41
          rw [f41] at e41; clear f41
          have e43 := hN 12 43 (by kernel_rfl) (by kernel_rfl) (by simp)
          have f43 := hV 12 (by kernel_rfl) (by kernel_rfl)
          rw [V12] at f43
          rw [f43] at e43; clear f43
          clear hV hN hO
          go_simp
          exact hK.out _ _ (by rw [V13, upd_at]) ⟨Below.refl _ _, fun _ h => h, fun _ h => h⟩ hG
        case s14_1 =>
          refine owe rfl fun a wx val hG hV hN hO K hK => ?_
          have e31 := hN 0 31 (by kernel_rfl) (by kernel_rfl) (by simp)
          have f31 := hV 0 (by kernel_rfl) (by kernel_rfl)
          rw [V0] at f31
          rw [f31] at e31; clear f31
          have e34 := hN 3 34 (by kernel_rfl) (by kernel_rfl) (by simp)
          have f34 := hV 3 (by kernel_rfl) (by kernel_rfl)
          rw [V3] at f34
          rw [f34] at e34; clear f34
          have e36 := hN 5 36 (by kernel_rfl) (by kernel_rfl) (by simp)
          have f36 := hV 5 (by kernel_rfl) (by kernel_rfl)
          rw [V5] at f36
          rw [f36] at e36; clear f36
          have e38 := hN 7 38 (by kernel_rfl) (by kernel_rfl) (by simp)
          have f38 := hV 7 (by kernel_rfl) (by kernel_rfl)
          rw [V7] at f38
          rw [f38] at e38; clear f38
          have e40 := hN 9 40 (by kernel_rfl) (by kernel_rfl) (by simp)
          have f40 := hV 9 (by kernel_rfl) (by kernel_rfl)
          rw [V9] at f40
          rw [f40] at e40; clear f40
          have e44 := hN 13 44 (by kernel_rfl) (by kernel_rfl) (by simp)
          have f44 := hV 13 (by kernel_rfl) (by kernel_rfl)
          rw [V13] at f44
          rw [f44] at e44; clear f44
          clear hV hN hO
          go_simp
          exact hK.out _ _ (by rw [V14, upd_at]) ⟨Below.refl _ _, fun _ h => h, fun _ h => h⟩ hG
        case s15_1 =>
          refine owe rfl fun a wx val hG hV hN hO K hK => ?_
          clear hV hN hO
          go_simp
          have hb := Joins.below_alloc1 wx (.cells (mc zeroM) 36)
          exact hK.out _ _ (by rw [V15, upd_at]; exact ⟨_, rfl, hG.size, Seven.new wx zeroM⟩) ⟨hb.mono hG.size, fun _ h => h.below hb, fun _ h => h.below hb⟩ (hG.trans (hb.mono hG.size))
        case s16_1 =>
          refine owe rfl fun a wx val hG hV hN hO K hK => ?_
          have e8 := hN 15 8 (by kernel_rfl) (by kernel_rfl) (by simp)
          have f8 := hV 15 (by kernel_rfl) (by kernel_rfl)
          rw [V15] at f8
          obtain ⟨g, hv, hg, hc⟩ := f8; rw [hv] at e8
          have e45 := hN 14 45 (by kernel_rfl) (by kernel_rfl) (by simp)
          have f45 := hV 14 (by kernel_rfl) (by kernel_rfl)
          rw [V14] at f45
          rw [f45] at e45; clear f45
          clear hV hN hO
          obtain ⟨z0, z1, z2, z3, z4, z5, z6, ⟨c0, c1, c2, c3, c4, c5, c6⟩, hfz⟩ := hc.cells
          go_simp
          exact hK.out undef (put7 wx g ⟨b, nn, (sd : Int), p5, p7, p9, Dt⟩) (by rw [V16]; exact ⟨g, (upd_ne _ _ (by decide)).trans hv, hg, Holds.of_blk (put7_blk hc _)⟩) ⟨put7_below (Below.refl _ _) hg _, fun _ h => Seven.put7 hc h _, fun _ h => Holds.put7 hc h⟩ (put7_below hG hg _)
        intro val wx hG hV
        have f0 := hV 0 (by simp) (fun _ _ => by rfl)
        rw [V0] at f0
        have f1 := hV 1 (by simp) (fun _ _ => by rfl)
        rw [V1] at f1
        have f2 := hV 2 (by simp) (fun _ _ => by rfl)
        rw [V2] at f2
        have f3 := hV 3 (by simp) (fun _ _ => by rfl)
        rw [V3] at f3
        have f4 := hV 4 (by simp) (fun _ _ => by rfl)
        rw [V4] at f4
        have f5 := hV 5 (by simp) (fun _ _ => by rfl)
        rw [V5] at f5
        have f6 := hV 6 (by simp) (fun _ _ => by rfl)
        rw [V6] at f6
        have f7 := hV 7 (by simp) (fun _ _ => by rfl)
        rw [V7] at f7
        have f8 := hV 8 (by simp) (fun _ _ => by rfl)
        rw [V8] at f8
        have f9 := hV 9 (by simp) (fun _ _ => by rfl)
        rw [V9] at f9
        have f10 := hV 10 (by simp) (fun _ _ => by rfl)
        rw [V10] at f10
        have f11 := hV 11 (by simp) (fun _ _ => by rfl)
        rw [V11] at f11
        have f12 := hV 12 (by simp) (fun _ _ => by rfl)
        rw [V12] at f12
        have f13 := hV 13 (by simp) (fun _ _ => by rfl)
        rw [V13] at f13
        have f14 := hV 14 (by simp) (fun _ _ => by rfl)
        rw [V14] at f14
        have f15 := hV 15 (by simp) (fun _ _ => by rfl)
        rw [V15] at f15
        have f16 := hV 16 (by simp) (fun _ _ => by rfl)
        rw [V16] at f16
        clear hV V0 V1 V2 V3 V4 V5 V6 V7 V8 V9 V10 V11 V12 V13 V14 V15 V16
        simp only [putAll, Act.put, List.setIfInBounds_toArray, List.set_cons_zero, List.set_cons_succ]
        generalize val 0 = z0 at *; (subst f0)
        generalize val 1 = z1 at *; (subst f1)
        generalize val 2 = z2 at *; (subst f2)
        generalize val 3 = z3 at *; (subst f3)
        generalize val 4 = z4 at *; (subst f4)
        generalize val 5 = z5 at *; (subst f5)
        generalize val 6 = z6 at *; (subst f6)
        generalize val 7 = z7 at *; (subst f7)
        generalize val 8 = z8 at *; (subst f8)
        generalize val 9 = z9 at *; (subst f9)
        generalize val 10 = z10 at *; (subst f10)
        generalize val 11 = z11 at *; (subst f11)
        generalize val 12 = z12 at *; (subst f12)
        generalize val 13 = z13 at *; (subst f13)
        generalize val 14 = z14 at *; (subst f14)
        obtain ⟨g, hv15, hg, hM⟩ := f16
        clear f15
        generalize val 15 = z15 at *
        subst hv15
        have hz := Z1.out.below hG
        have HB := Lib.hid (B2.out.trans (hG.mono B2.out.size))
        have hne : w.heap.size ≠ g := by
          have h := B2.out.size
          obtain ⟨_, h1, _⟩ := Z1.out
          have := (Array.getElem?_eq_some_iff.1 h1).1
          omega
        clear Z1 B2 hG X0 X1 HZ t5 t7 t9 k4 km k11 ks
        obtain ⟨_, m0, m1, m2, m3, m4, m5, m6⟩ := id hM
        by_cases hp : pe = 0
        · subst hp
          cases hr : rightM ⟨b, nn, (sd : Int), p5, p7, p9, Dt⟩
          · rw [hr] at cr
            have HD := Lib.hid (D2.out (.inr hr))
            go_wp2_with fail; refine (cr _).mono ?_; rintro e w3 ⟨rfl, b3⟩
            have h3 := hz.below b3
            have H3 := Lib.hid h3
            have HB3 := Lib.hid (HB.out.trans (b3.mono HB.out.size))
            obtain ⟨z0, z1, z2, z3, z4, z5, z6, ⟨q0, q1, q2, q3, q4, q5, q6⟩, hfz⟩ := h3.cells
            clear m0 m1 m2 m3 m4 m5 m6 h3 b3
            go_wp2_with fail
            have hf := Holds.of_blk (put7_blk H3.out zeroM)
            unfold put7 at hf
            simp only [zeroM] at hf
            obtain ⟨_, r0, r1, r2, r3, r4, r5, r6⟩ := hf
            exact bodyPost_ret (v := .tuple #[mv zeroM, .string ⟨#[]⟩, .int .i64 2]) (by simp [results, Tryd.results47, go_sem, zeroM, r0, r1, r2, r3, r4, r5, r6]) rfl (HD.out _ _ (put7_below HB3.out (Nat.le_refl _) zeroM))
          · rw [hr] at cr
            have HD := Lib.hid (D0.out rfl hr)
            go_wp2_with fail; refine (cr _).mono ?_; rintro e w3 ⟨rfl, b3⟩
            have h3 := hz.below b3
            have H3 := Lib.hid h3
            have HB3 := Lib.hid (HB.out.trans (b3.mono HB.out.size))
            have hM3 := hM.below b3
            obtain ⟨z0, z1, z2, z3, z4, z5, z6, ⟨q0, q1, q2, q3, q4, q5, q6⟩, hfz⟩ := h3.cells
            clear m0 m1 m2 m3 m4 m5 m6 h3 b3
            obtain ⟨_, m0, m1, m2, m3, m4, m5, m6⟩ := hM3
            go_wp2_with fail
            go_region
            go_wp2_with fail
            have hf := Holds.of_blk (put7_blk H3.out ⟨b, nn, (sd : Int), p5, p7, p9, Dt⟩)
            unfold put7 at hf
            simp only at hf
            obtain ⟨_, r0, r1, r2, r3, r4, r5, r6⟩ := hf
            exact bodyPost_ret (v := .tuple #[mv ⟨b, nn, (sd : Int), p5, p7, p9, Dt⟩, .string Rt, .int .i64 0]) (by simp [results, Tryd.results47, go_sem, r0, r1, r2, r3, r4, r5, r6]) rfl (HD.out _ _ (put7_below HB3.out (Nat.le_refl _) ⟨b, nn, (sd : Int), p5, p7, p9, Dt⟩).drew)
        · have hp2 : ((pe : Int) != 0) = true := by simpa using hp
          have HD := Lib.hid (D2.out (.inl hp))
          have HP := Lib.hid hp; clear hp
          have H3 := Lib.hid hz
          obtain ⟨z0, z1, z2, z3, z4, z5, z6, ⟨q0, q1, q2, q3, q4, q5, q6⟩, hfz⟩ := hz.cells
          clear m0 m1 m2 m3 m4 m5 m6 hz
          go_wp2_with fail
          have hf := Holds.of_blk (put7_blk H3.out zeroM)
          unfold put7 at hf
          simp only [zeroM] at hf
          obtain ⟨_, r0, r1, r2, r3, r4, r5, r6⟩ := hf
          exact bodyPost_ret (v := .tuple #[mv zeroM, .string ⟨#[]⟩, .int .i64 2]) (by simp [results, Tryd.results47, go_sem, zeroM, r0, r1, r2, r3, r4, r5, r6]) rfl (HD.out _ _ (put7_below HB.out (Nat.le_refl _) zeroM))

end Go.Proofs.YtlgaogghoehalaaDoor

/-
  The bytes of messages, by the document: Decode.
-/
import Derived.Test.YtehajmockicilaaDoorMsgEnc
namespace Go.Proofs.YtehajmockicilaaDoor
open Go.RowKit

theorem set_blk {w : World} {g : Nat} {Z : Array Value} {T : TypeId} (h : w.heap[g]? = some (.cells Z T (0, 0))) (i : Nat) (v : Value) : (w.setCell ⟨g, i, none⟩ v).heap[g]? = some (.cells (Z.setIfInBounds i v) T (0, 0)) := by
  simp [World.setCell, Array.getElem?_modify, h]
/-- A message stored into block g, cell by cell. -/
def put7 (w : World) (g : Nat) (m : Msg) : World :=
  ((((((w.setCell ⟨g, 0, none⟩ (.bool m.ext)).setCell ⟨g, 1, none⟩ (.int .i64 m.n)).setCell ⟨g, 2, none⟩ (.int .i64 m.sender)).setCell ⟨g, 3, none⟩ (.int .i64 m.inc)).setCell ⟨g, 4, none⟩ (.int .i64 m.seq)).setCell ⟨g, 5, none⟩ (.int .i64 m.number)).setCell ⟨g, 6, none⟩ (.string m.data)
set_option maxRecDepth 100000 in
theorem put7_blk {w : World} {g : Nat} (h : Seven w g) (m : Msg) : (put7 w g m).heap[g]? = some (.cells (mc m) 26 (0, 0)) := by
  obtain ⟨Z, h1, h2⟩ := h
  obtain ⟨l, rfl⟩ : ∃ l : List Value, Z = l.toArray := ⟨Z.toList, by simp⟩
  have h3 : l.length = 7 := by simpa using h2
  match l, h3, h1 with
  | [z0, z1, z2, z3, z4, z5, z6], _, h1 =>
    have e0 := set_blk h1 0 (.bool m.ext)
    have e1 := set_blk e0 1 (.int .i64 m.n)
    have e2 := set_blk e1 2 (.int .i64 m.sender)
    have e3 := set_blk e2 3 (.int .i64 m.inc)
    have e4 := set_blk e3 4 (.int .i64 m.seq)
    have e5 := set_blk e4 5 (.int .i64 m.number)
    have e6 := set_blk e5 6 (.string m.data)
    simp only [List.setIfInBounds_toArray, List.set_cons_zero, List.set_cons_succ] at e6
    exact e6
theorem put7_far (w : World) {g g' : Nat} (h : g' ≠ g) (m : Msg) : (put7 w g m).heap[g']? = w.heap[g']? := by
  unfold put7
  rw [Below.heap_setCell _ _ _ _ h, Below.heap_setCell _ _ _ _ h, Below.heap_setCell _ _ _ _ h, Below.heap_setCell _ _ _ _ h, Below.heap_setCell _ _ _ _ h, Below.heap_setCell _ _ _ _ h, Below.heap_setCell _ _ _ _ h]
theorem put7_below {B : Nat} {a w : World} (h : Below B a w) {g : Nat} (hg : B ≤ g) (m : Msg) : Below B a (put7 w g m) :=
  (((((((h.setCell (p := ⟨g, 0, none⟩) hg _).setCell (p := ⟨g, 1, none⟩) hg _).setCell (p := ⟨g, 2, none⟩) hg _).setCell (p := ⟨g, 3, none⟩) hg _).setCell (p := ⟨g, 4, none⟩) hg _).setCell (p := ⟨g, 5, none⟩) hg _).setCell (p := ⟨g, 6, none⟩) hg _)
theorem Holds.of_blk {w : World} {g : Nat} {m : Msg} (h : w.heap[g]? = some (.cells (mc m) 26 (0, 0))) : Holds w g m := by
  have hl := (Array.getElem?_eq_some_iff.1 h).1
  refine ⟨hl, ?_, ?_, ?_, ?_, ?_, ?_, ?_⟩ <;> simp [World.cell?, h]
set_option maxRecDepth 100000 in
theorem Seven.put7 {w : World} {g g' : Nat} (h : Seven w g) (h' : Seven w g') (m : Msg) : Seven (put7 w g m) g' := by
  by_cases e : g' = g
  · rw [e]; exact ⟨_, put7_blk h m, rfl⟩
  · obtain ⟨Z, h1, h2⟩ := h'
    exact ⟨Z, (put7_far w e m).trans h1, h2⟩
theorem Holds.far {w w' : World} {g : Nat} {m : Msg} (h : Holds w g m) (e : w'.heap[g]? = w.heap[g]?) (hl : g < w'.heap.size) : Holds w' g m := by
  obtain ⟨hB, h0, h1, h2, h3, h4, h5, h6⟩ := h
  exact ⟨hl, (World.cell?_of_block e).trans h0, (World.cell?_of_block e).trans h1, (World.cell?_of_block e).trans h2, (World.cell?_of_block e).trans h3, (World.cell?_of_block e).trans h4, (World.cell?_of_block e).trans h5, (World.cell?_of_block e).trans h6⟩
set_option maxRecDepth 100000 in
theorem Holds.put7 {w : World} {g g' : Nat} (h : Seven w g) {m : Msg} (h' : Holds w g' m) : Holds (put7 w g m) g' m := by
  by_cases e : g' = g
  · rw [e]; exact Holds.of_blk (put7_blk h m)
  · have hs := (put7_below (Below.refl 0 w) (Nat.zero_le g) m).size
    exact h'.far (put7_far w e m) (Nat.lt_of_lt_of_le h'.1 hs)
set_option maxRecDepth 100000 in
/-- Its cells, each of them, and that none is frozen. -/
theorem Seven.cells {w : World} {g : Nat} (h : Seven w g) : ∃ z0 z1 z2 z3 z4 z5 z6 : Value, (w.cell? ⟨g, 0, none⟩ = some z0 ∧ w.cell? ⟨g, 1, none⟩ = some z1 ∧ w.cell? ⟨g, 2, none⟩ = some z2 ∧ w.cell? ⟨g, 3, none⟩ = some z3 ∧ w.cell? ⟨g, 4, none⟩ = some z4 ∧ w.cell? ⟨g, 5, none⟩ = some z5 ∧ w.cell? ⟨g, 6, none⟩ = some z6) ∧ ∀ i, w.frozen? ⟨g, i, none⟩ = false := by
  obtain ⟨⟨l⟩, h1, h2⟩ := h
  match l, h2 with
  | [z0, z1, z2, z3, z4, z5, z6], _ =>
    refine ⟨z0, z1, z2, z3, z4, z5, z6, ?_, fun i => by simp [World.frozen?, h1]⟩
    refine ⟨?_, ?_, ?_, ?_, ?_, ?_, ?_⟩ <;> simp [World.cell?, h1]

/-- Two bytes' number. -/
def pairL (l : List UInt8) (k : Nat) : Int := 256 * ((l.getD k 0).toNat : Int) + ((l.getD (k + 1) 0).toNat : Int)

/-- How many bytes of data are told. -/
def decN (l : List UInt8) : Nat := (l.getD 11 0).toNat
/-- The message that bytes may tell. -/
def decM (l : List UInt8) : Msg := ⟨psRB (l.take 4), psRN (l.take 4), ((l.getD 4 0).toNat : Int), pairL l 5, pairL l 7, pairL l 9, txt ((l.drop 12).take (decN l))⟩
def decE (l : List UInt8) : Int := if l.length < 12 then 3 else if 8 < decN l then 2 else if l.length < 12 + decN l then 3 else if psE (l.take 4) = 0 then (if rightM (decM l) = true then 0 else 2) else 2
def decR (l : List UInt8) : Msg := if decE l = 0 then decM l else zeroM
def decRest (l : List UInt8) : List UInt8 := if decE l = 0 then l.drop (12 + decN l) else []
def DecPost (l : List UInt8) (w : World) (e : Ending) (w' : World) : Prop := e = .returned (.tuple #[mv (decR l), .string (txt (decRest l)), .int .i64 (decE l)]) ∧ Below w.heap.size w w'
set_option maxRecDepth 100000 in
theorem dec_none (l : List UInt8) (E : Int) (h : decE l = E) (hE : E ≠ 0) : ∀ w w', Below w.heap.size w w' → DecPost l w (.returned (.tuple #[mv zeroM, .string ⟨#[]⟩, .int .i64 E])) w' := by
  intro w w' hb
  have h0 : ¬ decE l = 0 := by rw [h]; exact hE
  refine ⟨?_, hb⟩
  unfold decR decRest
  rw [if_neg h0, if_neg h0, h]
  rfl
set_option maxRecDepth 100000 in
theorem dec_one (l : List UInt8) (h : decE l = 0) : ∀ w w', Below w.heap.size w w' → DecPost l w (.returned (.tuple #[mv (decM l), .string (txt (l.drop (12 + decN l))), .int .i64 0])) w' := by
  intro w w' hb
  refine ⟨?_, hb⟩
  unfold decR decRest
  rw [if_pos h, if_pos h, h]

set_option maxRecDepth 100000 in
theorem run_to (s : ByteArray) (e : Int) (n : Nat) (he : e = (n : Int)) (hn : n ≤ s.size) (w : World) :
    (Instr.slice 9 (.string s) none (some (.int .i64 e)) none).run Tryd.prog w = .ok (.string (txt (s.data.toList.take n))) w := by
  subst he
  rw [run_slice_string_to_if w 9 s .i64 n Tryd.underlying9, if_pos ⟨by omega, by omega⟩, Lib.extract_eq]
  rfl
set_option maxRecDepth 100000 in
theorem run_from (s : ByteArray) (e : Int) (n : Nat) (he : e = (n : Int)) (hn : n ≤ s.size) (w : World) :
    (Instr.slice 9 (.string s) (some (.int .i64 e)) none none).run Tryd.prog w = .ok (.string (txt (s.data.toList.drop n))) w := by
  subst he
  rw [run_slice_string_from_if w 9 s .i64 n Tryd.underlying9, if_pos ⟨by omega, by omega⟩, Lib.extract_eq]
  have : (s.data.toList.drop n).take (s.size - n) = s.data.toList.drop n := List.take_of_length_le (by rw [List.length_drop, ← Lib.size_eq]; omega)
  rw [Int.toNat_natCast, this]
  rfl
set_option maxRecDepth 100000 in
theorem run_mid (s : ByteArray) (e f : Int) (n m : Nat) (he : e = (n : Int)) (hf : f = ((n + m : Nat) : Int)) (hn : n + m ≤ s.size) (w : World) :
    (Instr.slice 9 (.string s) (some (.int .i64 e)) (some (.int .i64 f)) none).run Tryd.prog w = .ok (.string (txt ((s.data.toList.drop n).take m))) w := by
  subst he hf
  rw [run_slice_string w 9 s .i64 .i64 (n : Int) ((n + m : Nat) : Int) Tryd.underlying9 (by omega) (by omega) (by omega), Lib.extract_eq]
  rw [Int.toNat_natCast, Int.toNat_natCast, Nat.add_sub_cancel_left]
  rfl

end Go.Proofs.YtehajmockicilaaDoor

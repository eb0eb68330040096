/-
  Messages and their bytes: Decode undoes Encode, whatever stands behind; Encode undoes Decode.
-/
import Derived.IntWalk
import Derived.Test.YtmmbnjkdknnidaaGreatDoorMsgOwnV
import Derived.Test.YtmmbnjkdknnidaaGreatDoorOncePhaseV
import Derived.Test.YtmmbnjkdknnidaaGreatDoorIdentPsV
set_option maxRecDepth 100000
namespace Go.Proofs.YtmmbnjkdknnidaaGreatDoor
open Go.RowKit
def twoL (n : Int) : List UInt8 := [octet (n / 256), octet n]
def encL (m : Msg) : List UInt8 := printI m.ext m.n ++ [octet m.sender] ++ twoL m.inc ++ twoL m.seq ++ twoL m.number ++ [octet m.data.size] ++ m.data.data.toList
def encT (m : Msg) : List UInt8 := if rightM m = true then encL m else []
def encE (m : Msg) : Int := if rightM m = true then 0 else 1
theorem two_bytes (w : World) (a b : Int) : (convert 42 9 (.slice (some ⟨w.heap.size, 0, none⟩) 2 2)).run Tryz.prog (w.alloc (.cells #[.int .u8 a, .int .u8 b] 5)) = .ok (.string (txt [UInt8.ofNat a.toNat, UInt8.ofNat b.toNat])) (w.alloc (.cells #[.int .u8 a, .int .u8 b] 5)) := by
 refine run_convert_bytes_arg (P := Tryz.prog) _ 42 5 Tryz.underlying42 Tryz.underlying5 w.heap.size 0 2 2 [a, b] rfl ?_ 9 Tryz.underlying9
 intro i hi
 have : i = 0 ∨ i = 1 := by omega
 rcases this with rfl | rfl <;> simp [go_sem]
theorem add_txt (A O C : List UInt8) (h : C = A ++ O) (hs : A.length + O.length ≤ 1000) : txt A ++ txt O = txt C ∧ ¬ 9223372036854775807 < (txt A).size + (txt O).size := by
 refine ⟨by rw [h]; apply ByteArray.ext; simp [txt], ?_⟩
 rw [txt_size, txt_size]; omega
theorem one_at (w : World) (g : Nat) (a : Int) (hc : w.cell? ⟨g, 0, none⟩ = some (.int .u8 a)) : (convert 42 9 (.slice (some ⟨g, 0, none⟩) 1 1)).run Tryz.prog w = .ok (.string (txt [UInt8.ofNat a.toNat])) w := by
 refine run_convert_bytes_arg (P := Tryz.prog) _ 42 5 Tryz.underlying42 Tryz.underlying5 g 0 1 1 [a] rfl ?_ 9 Tryz.underlying9
 intro i hi
 have : i = 0 := by omega
 subst this
 simpa using hc
theorem set_blk {w : World} {g : Nat} {Z : Array Value} {T : TypeId} (h : w.heap[g]? = some (.cells Z T (0, 0))) (i : Nat) (v : Value) : (w.setCell ⟨g, i, none⟩ v).heap[g]? = some (.cells (Z.setIfInBounds i v) T (0, 0)) := by
 simp [World.setCell, Array.getElem?_modify, h]
def put7 (w : World) (g : Nat) (m : Msg) : World :=
 ((((((w.setCell ⟨g, 0, none⟩ (.bool m.ext)).setCell ⟨g, 1, none⟩ (.int .i64 m.n)).setCell ⟨g, 2, none⟩ (.int .i64 m.sender)).setCell ⟨g, 3, none⟩ (.int .i64 m.inc)).setCell ⟨g, 4, none⟩ (.int .i64 m.seq)).setCell ⟨g, 5, none⟩ (.int .i64 m.number)).setCell ⟨g, 6, none⟩ (.string m.data)
theorem put7_blk {w : World} {g : Nat} (h : Seven w g) (m : Msg) : (put7 w g m).heap[g]? = some (.cells (mc m) 109 (0, 0)) := by
 obtain ⟨Z, h1, h2⟩ := h
 obtain ⟨l, rfl⟩ : ∃ l : List Value, Z = l.toArray := ⟨Z.toList, by simp⟩
 have h3 : l.length = 7 := by simpa using h2
 match l, h3, h1 with
 | [z0, z1, z2, z3, z4, z5, z6], _, h1 =>
  have e0 := set_blk h1 0 (.bool m.ext)
  have e1 := set_blk e0 1 (.int .i64 m.n)
  have e2 := set_blk e1 2 (.int .i64 m.sender)
  have e3 := set_blk e2 3 (.int .i64 m.inc)
  have e4 := set_blk e3 4 (.int .i64 m.seq)
  have e5 := set_blk e4 5 (.int .i64 m.number)
  have e6 := set_blk e5 6 (.string m.data)
  simp only [List.setIfInBounds_toArray, List.set_cons_zero, List.set_cons_succ] at e6
  exact e6
theorem put7_far (w : World) {g g' : Nat} (h : g' ≠ g) (m : Msg) : (put7 w g m).heap[g']? = w.heap[g']? := by
 unfold put7
 rw [Below.heap_setCell _ _ _ _ h, Below.heap_setCell _ _ _ _ h, Below.heap_setCell _ _ _ _ h, Below.heap_setCell _ _ _ _ h, Below.heap_setCell _ _ _ _ h, Below.heap_setCell _ _ _ _ h, Below.heap_setCell _ _ _ _ h]
theorem put7_below {B : Nat} {a w : World} (h : Below B a w) {g : Nat} (hg : B ≤ g) (m : Msg) : Below B a (put7 w g m) :=
 (((((((h.setCell (p := ⟨g, 0, none⟩) hg _).setCell (p := ⟨g, 1, none⟩) hg _).setCell (p := ⟨g, 2, none⟩) hg _).setCell (p := ⟨g, 3, none⟩) hg _).setCell (p := ⟨g, 4, none⟩) hg _).setCell (p := ⟨g, 5, none⟩) hg _).setCell (p := ⟨g, 6, none⟩) hg _)
theorem Holds.of_blk {w : World} {g : Nat} {m : Msg} (h : w.heap[g]? = some (.cells (mc m) 109 (0, 0))) : Holds w g m := by
 have hl := (Array.getElem?_eq_some_iff.1 h).1
 refine ⟨hl, ?_, ?_, ?_, ?_, ?_, ?_, ?_⟩ <;> simp [World.cell?, h]
theorem Seven.put7 {w : World} {g g' : Nat} (h : Seven w g) (h' : Seven w g') (m : Msg) : Seven (put7 w g m) g' := by
 by_cases e : g' = g
 ·rw [e]; exact ⟨_, put7_blk h m, rfl⟩
 ·obtain ⟨Z, h1, h2⟩ := h'
  exact ⟨Z, (put7_far w e m).trans h1, h2⟩
theorem Seven.cells {w : World} {g : Nat} (h : Seven w g) : ∃ z0 z1 z2 z3 z4 z5 z6 : Value, (w.cell? ⟨g, 0, none⟩ = some z0 ∧ w.cell? ⟨g, 1, none⟩ = some z1 ∧ w.cell? ⟨g, 2, none⟩ = some z2 ∧ w.cell? ⟨g, 3, none⟩ = some z3 ∧ w.cell? ⟨g, 4, none⟩ = some z4 ∧ w.cell? ⟨g, 5, none⟩ = some z5 ∧ w.cell? ⟨g, 6, none⟩ = some z6) ∧ ∀ i, w.frozen? ⟨g, i, none⟩ = false := by
 obtain ⟨⟨l⟩, h1, h2⟩ := h
 match l, h2 with
 | [z0, z1, z2, z3, z4, z5, z6], _ =>
  refine ⟨z0, z1, z2, z3, z4, z5, z6, ?_, fun i => by simp [World.frozen?, h1]⟩
  refine ⟨?_, ?_, ?_, ?_, ?_, ?_, ?_⟩ <;> simp [World.cell?, h1]
def pairL (l : List UInt8) (k : Nat) : Int := 256 * ((l.getD k 0).toNat : Int) + ((l.getD (k + 1) 0).toNat : Int)
def decN (l : List UInt8) : Nat := (l.getD 11 0).toNat
def decM (l : List UInt8) : Msg := ⟨psRB (l.take 4), psRN (l.take 4), ((l.getD 4 0).toNat : Int), pairL l 5, pairL l 7, pairL l 9, txt ((l.drop 12).take (decN l))⟩
def decE (l : List UInt8) : Int := if l.length < 12 then 3 else if 8 < decN l then 2 else if l.length < 12 + decN l then 3 else if psE (l.take 4) = 0 then (if rightM (decM l) = true then 0 else 2) else 2
def decR (l : List UInt8) : Msg := if decE l = 0 then decM l else zeroM
def decRest (l : List UInt8) : List UInt8 := if decE l = 0 then l.drop (12 + decN l) else []
def DecPost (l : List UInt8) (w : World) (e : Ending) (w' : World) : Prop := e = .returned (.tuple #[mv (decR l), .string (txt (decRest l)), .int .i64 (decE l)]) ∧ Below w.heap.size w w'
theorem dec_none (l : List UInt8) (E : Int) (h : decE l = E) (hE : E ≠ 0) : ∀ w w', Below w.heap.size w w' → DecPost l w (.returned (.tuple #[mv zeroM, .string ⟨#[]⟩, .int .i64 E])) w' := by
 intro w w' hb
 have h0 : ¬ decE l = 0 := by rw [h]; exact hE
 refine ⟨?_, hb⟩
 unfold decR decRest
 rw [if_neg h0, if_neg h0, h]
 rfl
theorem dec_one (l : List UInt8) (h : decE l = 0) : ∀ w w', Below w.heap.size w w' → DecPost l w (.returned (.tuple #[mv (decM l), .string (txt (l.drop (12 + decN l))), .int .i64 0])) w' := by
 intro w w' hb
 refine ⟨?_, hb⟩
 unfold decR decRest
 rw [if_pos h, if_pos h, h]
theorem run_to (s : ByteArray) (e : Int) (n : Nat) (he : e = (n : Int)) (hn : n ≤ s.size) (w : World) :
  (Instr.slice 9 (.string s) none (some (.int .i64 e)) none).run Tryz.prog w = .ok (.string (txt (s.data.toList.take n))) w := by
 subst he
 rw [run_slice_string_to_if w 9 s .i64 n Tryz.underlying9, if_pos ⟨by omega, by omega⟩, Lib.extract_eq]
 rfl
theorem run_from (s : ByteArray) (e : Int) (n : Nat) (he : e = (n : Int)) (hn : n ≤ s.size) (w : World) :
  (Instr.slice 9 (.string s) (some (.int .i64 e)) none none).run Tryz.prog w = .ok (.string (txt (s.data.toList.drop n))) w := by
 subst he
 rw [run_slice_string_from_if w 9 s .i64 n Tryz.underlying9, if_pos ⟨by omega, by omega⟩, Lib.extract_eq]
 have : (s.data.toList.drop n).take (s.size - n) = s.data.toList.drop n := List.take_of_length_le (by rw [List.length_drop, ← Lib.size_eq]; omega)
 rw [Int.toNat_natCast, this]
 rfl
theorem rightM_data {m : Msg} (h : rightM m = true) : m.data.size ≤ 8 := ((rightM_iff m).1 h).2.2.2.2.2
theorem encT_right {m : Msg} (h : rightM m = true) : encT m = encL m := by unfold encT; rw [if_pos h]
theorem encE_right {m : Msg} (h : rightM m = true) : encE m = 0 := by unfold encE; rw [if_pos h]
theorem pair_two (n : Int) (h : 1 ≤ n ∧ n ≤ 65535) : 256 * ((octet (n / 256)).toNat : Int) + ((octet n).toNat : Int) = n := by
 rw [octet_nat, octet_nat]; omega
theorem enc_shape {m : Msg} (h : rightM m = true) : ∃ a b c d, printI m.ext m.n = [a, b, c, d] ∧ encL m = a :: b :: c :: d :: octet m.sender :: octet (m.inc / 256) :: octet m.inc :: octet (m.seq / 256) :: octet m.seq :: octet (m.number / 256) :: octet m.number :: octet m.data.size :: m.data.data.toList := by
 have hr := ((rightM_iff m).1 h).1
 have hp : printI m.ext m.n = four (numI m.ext m.n) := by unfold printI; rw [hr]; rfl
 refine ⟨_, _, _, _, hp.trans rfl, ?_⟩
 unfold encL
 rw [hp]
 rfl
theorem encL_length {m : Msg} (h : rightM m = true) : (encL m).length = 12 + m.data.size := by
 obtain ⟨a, b, c, d, _, e⟩ := enc_shape h
 rw [e]
 have := Lib.size_eq m.data
 simp only [List.length_cons]
 omega
theorem dec_enc {m : Msg} (h : rightM m = true) (r : List UInt8) : decE (encL m ++ r) = 0 ∧ decR (encL m ++ r) = m ∧ decRest (encL m ++ r) = r := by
 have H := (rightM_iff m).1 h
 obtain ⟨hr, hs, hi, hq, hn, hd⟩ := H
 obtain ⟨p1, p2, p3, p4⟩ := ps_print hr
 obtain ⟨a, b, c, d, hp, e⟩ := enc_shape h
 have hl := encL_length h
 have hz := Lib.size_eq m.data
 obtain ⟨X, hX⟩ : ∃ X, X = encL m ++ r := ⟨_, rfl⟩
 have e2 : X = a :: b :: c :: d :: octet m.sender :: octet (m.inc / 256) :: octet m.inc :: octet (m.seq / 256) :: octet m.seq :: octet (m.number / 256) :: octet m.number :: octet m.data.size :: (m.data.data.toList ++ r) := by rw [hX, e]; rfl
 have hXl : X.length = 12 + m.data.size + r.length := by rw [hX, List.length_append, hl]
 rw [← hX]
 have ht : X.take 4 = printI m.ext m.n := by rw [e2, hp]; rfl
 have hN : decN X = m.data.size := by
  have : decN X = (octet m.data.size).toNat := by rw [e2]; rfl
  rw [this]
  have := octet_nat m.data.size
  omega
 have hM : decM X = m := by
  unfold decM
  rw [ht, p1, p2, hN]
  have e4 : ((X.getD 4 0).toNat : Int) = m.sender := by
   have : X.getD 4 0 = octet m.sender := by rw [e2]; rfl
   rw [this, octet_nat]; omega
  have e5 : pairL X 5 = m.inc := by
   have : pairL X 5 = 256 * ((octet (m.inc / 256)).toNat : Int) + ((octet m.inc).toNat : Int) := by rw [e2]; rfl
   rw [this]; exact pair_two _ hi
  have e7 : pairL X 7 = m.seq := by
   have : pairL X 7 = 256 * ((octet (m.seq / 256)).toNat : Int) + ((octet m.seq).toNat : Int) := by rw [e2]; rfl
   rw [this]; exact pair_two _ hq
  have e9 : pairL X 9 = m.number := by
   have : pairL X 9 = 256 * ((octet (m.number / 256)).toNat : Int) + ((octet m.number).toNat : Int) := by rw [e2]; rfl
   rw [this]; exact pair_two _ hn
  have e12 : X.drop 12 = m.data.data.toList ++ r := by rw [e2]; rfl
  rw [e4, e5, e7, e9, e12, List.take_left' (by omega)]
  rfl
 have hE : decE X = 0 := by
  unfold decE
  rw [if_neg (by omega), if_neg (by omega), if_neg (by omega), ht, if_pos p3, hM, if_pos h]
 refine ⟨hE, ?_, ?_⟩
 ·unfold decR; rw [if_pos hE, hM]
 ·unfold decRest
  rw [if_pos hE, hN, e2]
  show List.drop (12 + m.data.size) _ = r
  rw [← List.drop_drop]
  show List.drop m.data.size (m.data.data.toList ++ r) = r
  exact List.drop_left' (by omega)
theorem decE_facts {l : List UInt8} (h : decE l = 0) : 12 + decN l ≤ l.length ∧ decN l ≤ 8 ∧ psE (l.take 4) = 0 ∧ rightM (decM l) = true := by
 unfold decE at h
 by_cases h1 : l.length < 12
 ·rw [if_pos h1] at h; omega
 rw [if_neg h1] at h
 by_cases h2 : 8 < decN l
 ·rw [if_pos h2] at h; omega
 rw [if_neg h2] at h
 by_cases h3 : l.length < 12 + decN l
 ·rw [if_pos h3] at h; omega
 rw [if_neg h3] at h
 by_cases h4 : psE (l.take 4) = 0
 ·rw [if_pos h4] at h
  by_cases h5 : rightM (decM l) = true
  ·exact ⟨by omega, by omega, h4, h5⟩
  ·rw [if_neg h5] at h; omega
 ·rw [if_neg h4] at h; omega
theorem enc_dec {l : List UInt8} (h : decE l = 0) : rightM (decR l) = true ∧ encL (decR l) ++ decRest l = l := by
 obtain ⟨h1, h2, h3, h4⟩ := decE_facts h
 have hR : decR l = decM l := by unfold decR; rw [if_pos h]
 have hT : decRest l = l.drop (12 + decN l) := by unfold decRest; rw [if_pos h]
 rw [hR, hT]
 refine ⟨h4, ?_⟩
 have hp := (print_ps h3).1
 clear h4 hR hT h
 match l, h1, h2, hp with
 | a :: b :: c :: d :: s :: i1 :: i2 :: q1 :: q2 :: n1 :: n2 :: z :: t, h1, h2, hp =>
  have hN : decN (a :: b :: c :: d :: s :: i1 :: i2 :: q1 :: q2 :: n1 :: n2 :: z :: t) = z.toNat := rfl
  rw [hN] at h1 h2 ⊢
  have ht : z.toNat ≤ t.length := by simp only [List.length_cons] at h1; omega
  have two : ∀ x y : UInt8, twoL (256 * (x.toNat : Int) + (y.toNat : Int)) = [x, y] := fun x y => by
   have hx := x.toNat_lt
   have hy := y.toNat_lt
   unfold twoL
   rw [octet_of_byte x _ (by omega), octet_of_byte y _ (by omega)]
  have one : octet (s.toNat : Int) = s := octet_of_byte s _ (by have := s.toNat_lt; omega)
  have hd : (txt (t.take z.toNat)).size = z.toNat := by rw [txt_size, List.length_take]; omega
  have oz : octet (z.toNat : Int) = z := octet_of_byte z _ (by have := z.toNat_lt; omega)
  have hM : decM (a :: b :: c :: d :: s :: i1 :: i2 :: q1 :: q2 :: n1 :: n2 :: z :: t) = ⟨psRB [a, b, c, d], psRN [a, b, c, d], (s.toNat : Int), 256 * (i1.toNat : Int) + (i2.toNat : Int), 256 * (q1.toNat : Int) + (q2.toNat : Int), 256 * (n1.toNat : Int) + (n2.toNat : Int), txt (t.take z.toNat)⟩ := rfl
  rw [hM]
  have hp' : printI (psRB [a, b, c, d]) (psRN [a, b, c, d]) = [a, b, c, d] := hp
  unfold encL
  simp only []
  rw [hp', two, two, two, one, hd, oz, txt_data, ← List.drop_drop]
  show a :: b :: c :: d :: s :: i1 :: i2 :: q1 :: q2 :: n1 :: n2 :: z :: (t.take z.toNat ++ t.drop z.toNat) = _
  rw [List.take_append_drop]
end Go.Proofs.YtmmbnjkdknnidaaGreatDoor

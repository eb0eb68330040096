/-
  Decode undoes Encode, and back; the pieces of a text put together: plain mathematics.
-/
import Derived.IntWalk
import Derived.BigRegion
import Derived.Test.YtmmbnjkdknnidaaGreatDoorFragSplitV
import Derived.Test.YtmmbnjkdknnidaaGreatDoorFragEncPV
import Derived.Test.YtmmbnjkdknnidaaGreatDoorOncePhaseV
set_option maxRecDepth 100000
namespace Go.Proofs.YtmmbnjkdknnidaaGreatDoor.F
open Go.RowKit
def txt (l : List UInt8) : ByteArray := ⟨l.toArray⟩
theorem txt_size (l : List UInt8) : (txt l).size = l.length := rfl
theorem txt_data (l : List UInt8) : (txt l).data.toList = l := rfl
theorem set_blk {w : World} {g : Nat} {Z : Array Value} {T : TypeId} (h : w.heap[g]? = some (.cells Z T (0, 0))) (i : Nat) (v : Value) : (w.setCell ⟨g, i, none⟩ v).heap[g]? = some (.cells (Z.setIfInBounds i v) T (0, 0)) := by
 simp [World.setCell, Array.getElem?_modify, h]
def Four (w : World) (g : Nat) : Prop := ∃ Z : Array Value, w.heap[g]? = some (.cells Z 53 (0, 0)) ∧ Z.size = 4
theorem Four.new (w : World) (m : Pc) : Four (w.alloc (.cells (pcl m) 53)) w.heap.size := ⟨_, heap_alloc_new w _, rfl⟩
theorem Four.lt {w : World} {g : Nat} (h : Four w g) : g < w.heap.size := by
 obtain ⟨Z, h1, _⟩ := h
 exact (Array.getElem?_eq_some_iff.1 h1).1
theorem Four.on {w w' : World} {g : Nat} (h : Four w g) (hb : Below w.heap.size w w') : Four w' g := by
 obtain ⟨Z, h1, h2⟩ := h
 exact ⟨Z, (hb.block g (Array.getElem?_eq_some_iff.1 h1).1).trans h1, h2⟩
def put4 (w : World) (g : Nat) (m : Pc) : World :=
 (((w.setCell ⟨g, 0, none⟩ (.int .i64 m.seq)).setCell ⟨g, 1, none⟩ (.int .i64 m.at')).setCell ⟨g, 2, none⟩ (.int .i64 m.of')).setCell ⟨g, 3, none⟩ (.string m.bytes)
theorem put4_blk {w : World} {g : Nat} (h : Four w g) (m : Pc) : PcAt (put4 w g m) g m := by
 obtain ⟨Z, h1, h2⟩ := h
 obtain ⟨l, rfl⟩ : ∃ l : List Value, Z = l.toArray := ⟨Z.toList, by simp⟩
 have h3 : l.length = 4 := by simpa using h2
 match l, h3, h1 with
 | [z0, z1, z2, z3], _, h1 =>
  have e0 := set_blk h1 0 (.int .i64 m.seq)
  have e1 := set_blk e0 1 (.int .i64 m.at')
  have e2 := set_blk e1 2 (.int .i64 m.of')
  have e3 := set_blk e2 3 (.string m.bytes)
  simp only [List.setIfInBounds_toArray, List.set_cons_zero, List.set_cons_succ] at e3
  exact e3
theorem put4_below {B : Nat} {a w : World} (h : Below B a w) {g : Nat} (hg : B ≤ g) (m : Pc) : Below B a (put4 w g m) :=
 ((((h.setCell (p := ⟨g, 0, none⟩) hg _).setCell (p := ⟨g, 1, none⟩) hg _).setCell (p := ⟨g, 2, none⟩) hg _).setCell (p := ⟨g, 3, none⟩) hg _)
theorem Four.cells {w : World} {g : Nat} (h : Four w g) : ∃ z0 z1 z2 z3 : Value, (w.cell? ⟨g, 0, none⟩ = some z0 ∧ w.cell? ⟨g, 1, none⟩ = some z1 ∧ w.cell? ⟨g, 2, none⟩ = some z2 ∧ w.cell? ⟨g, 3, none⟩ = some z3) ∧ ∀ i, w.frozen? ⟨g, i, none⟩ = false := by
 obtain ⟨⟨l⟩, h1, h2⟩ := h
 match l, h2 with
 | [z0, z1, z2, z3], _ =>
  refine ⟨z0, z1, z2, z3, ?_, fun i => by simp [World.frozen?, h1]⟩
  refine ⟨?_, ?_, ?_, ?_⟩ <;> simp [World.cell?, h1]
def decN (l : List UInt8) : Nat := (l.getD 4 0).toNat
def decM (l : List UInt8) : Pc := ⟨256 * ((l.getD 0 0).toNat : Int) + ((l.getD 1 0).toNat : Int), ((l.getD 2 0).toNat : Int), ((l.getD 3 0).toNat : Int), txt ((l.drop 5).take (decN l))⟩
def decE (l : List UInt8) : Int := if l.length < 5 then 3 else if 16 < decN l then 2 else if l.length < 5 + decN l then 3 else if rightP (decM l) = true then 0 else 2
def decR (l : List UInt8) : Pc := if decE l = 0 then decM l else zeroP
def decRest (l : List UInt8) : ByteArray := if decE l = 0 then txt (l.drop (5 + decN l)) else ⟨#[]⟩
def DecPost (l : List UInt8) (w : World) (e : Ending) (w' : World) : Prop := e = .returned (.tuple #[pv (decR l), .string (decRest l), .int .i64 (decE l)]) ∧ Below w.heap.size w w'
theorem dec_none (l : List UInt8) (E : Int) (h : decE l = E) (hE : E ≠ 0) : ∀ w w', Below w.heap.size w w' → DecPost l w (.returned (.tuple #[pv zeroP, .string ⟨#[]⟩, .int .i64 E])) w' := by
 intro w w' hb
 refine ⟨?_, hb⟩
 have h0 : ¬ decE l = 0 := by rw [h]; exact hE
 unfold decR decRest
 rw [if_neg h0, if_neg h0, h]
theorem dec_one (l : List UInt8) (h : decE l = 0) : ∀ w w', Below w.heap.size w w' → DecPost l w (.returned (.tuple #[pv (decM l), .string (txt (l.drop (5 + decN l))), .int .i64 0])) w' := by
 intro w w' hb
 refine ⟨?_, hb⟩
 unfold decR decRest
 rw [if_pos h, if_pos h, h]
theorem run_to (s : ByteArray) (e : Int) (n : Nat) (he : e = (n : Int)) (hn : n ≤ s.size) (w : World) :
  (Instr.slice 9 (.string s) none (some (.int .i64 e)) none).run Tryz.prog w = .ok (.string (txt (s.data.toList.take n))) w := by
 subst he
 rw [run_slice_string_to_if w 9 s .i64 n Tryz.underlying9, if_pos ⟨by omega, by omega⟩, Lib.extract_eq]
 rfl
theorem run_from (s : ByteArray) (e : Int) (n : Nat) (he : e = (n : Int)) (hn : n ≤ s.size) (w : World) :
  (Instr.slice 9 (.string s) (some (.int .i64 e)) none none).run Tryz.prog w = .ok (.string (txt (s.data.toList.drop n))) w := by
 subst he
 rw [run_slice_string_from_if w 9 s .i64 n Tryz.underlying9, if_pos ⟨by omega, by omega⟩, Lib.extract_eq]
 have : (s.data.toList.drop n).take (s.size - n) = s.data.toList.drop n := List.take_of_length_le (by rw [List.length_drop, ← Lib.size_eq]; omega)
 rw [Int.toNat_natCast, this]
 rfl
theorem byte_at (s : ByteArray) (n : Nat) (h : n < s.size) : s[n].toNat = (s.data.toList.getD n 0).toNat := by
 have h2 : n < s.data.toList.length := by rw [← Lib.size_eq]; exact h
 rw [List.getD_eq_getElem?_getD, List.getElem?_eq_getElem h2]
 rfl
theorem run_at (s : ByteArray) (e : Int) (n : Nat) (he : e = (n : Int)) (hn : n < s.size) (w : World) :
  (Instr.index 9 (.string s) (.int .i64 e)).run Tryz.prog w = .ok (.int .u8 (((s.data.toList.getD n 0).toNat : Nat) : Int)) w := by
 subst he
 rw [← byte_at s n hn]
 rw [run_index_string w 9 s .i64 (n : Int) Tryz.underlying9]
 rw [dif_pos ⟨by omega, by omega⟩]
 rfl
def encL (p : Pc) : List UInt8 := [octet5 (p.seq / 256), octet5 (p.seq % 256), octet5 p.at', octet5 p.of', octet5 p.bytes.size] ++ p.bytes.data.toList
theorem txt_app (a b : List UInt8) : txt (a ++ b) = txt a ++ txt b := by
 apply ByteArray.ext
 show (a ++ b).toArray = (txt a ++ txt b).data
 rw [ByteArray.data_append]
 simp [txt]
theorem app_data (a b : ByteArray) : (a ++ b).data.toList = a.data.toList ++ b.data.toList := by
 rw [ByteArray.data_append, Array.toList_append]
theorem encP_list {p : Pc} (h : rightP p = true) : (encP p).data.toList = encL p := by
 unfold encP
 rw [if_pos h, app_data]
 rfl
theorem octet_nat (n : Int) (h0 : 0 ≤ n) (h1 : n ≤ 255) : ((octet5 n).toNat : Int) = n := by
 unfold octet5
 rw [UInt8.toNat_ofNat_of_lt' (by show n.toNat < 256; omega)]
 omega
theorem octet_back (a : UInt8) : octet5 (a.toNat : Int) = a := by
 unfold octet5
 rw [Int.toNat_natCast]
 exact UInt8.ofNat_toNat
theorem dec_enc {p : Pc} (h : rightP p = true) (y : List UInt8) : decE (encL p ++ y) = 0 ∧ decR (encL p ++ y) = p ∧ decRest (encL p ++ y) = txt y := by
 obtain ⟨⟨r1, r2⟩, ⟨r3, r4⟩, ⟨r5, r6⟩, r7, r8⟩ := (rightP_iff p).1 h
 have hn : decN (encL p ++ y) = p.bytes.size := by
  have := octet_nat p.bytes.size (by omega) (by omega)
  show (octet5 p.bytes.size).toNat = _
  omega
 have hd : (encL p ++ y).drop 5 = p.bytes.data.toList ++ y := rfl
 have hl := Lib.size_eq p.bytes
 have hm : decM (encL p ++ y) = p := by
  obtain ⟨s, a, o, d⟩ := p
  simp only at r1 r2 r3 r4 r5 r6 r7 r8 hl
  unfold decM
  rw [hn, hd]
  have e0 : (((encL ⟨s, a, o, d⟩ ++ y).getD 0 0).toNat : Int) = s / 256 := octet_nat _ (by show 0 ≤ s / 256; omega) (by show s / 256 ≤ 255; omega)
  have e1 : (((encL ⟨s, a, o, d⟩ ++ y).getD 1 0).toNat : Int) = s % 256 := octet_nat _ (by show 0 ≤ s % 256; omega) (by show s % 256 ≤ 255; omega)
  have e2 : (((encL ⟨s, a, o, d⟩ ++ y).getD 2 0).toNat : Int) = a := octet_nat _ (by show 0 ≤ a; omega) (by show a ≤ 255; omega)
  have e3 : (((encL ⟨s, a, o, d⟩ ++ y).getD 3 0).toNat : Int) = o := octet_nat _ (by show 0 ≤ o; omega) (by show o ≤ 255; omega)
  rw [e0, e1, e2, e3]
  have e4 : txt ((d.data.toList ++ y).take d.size) = d := by
   rw [List.take_left' hl.symm]
   rfl
  simp only [e4]
  have e5 : 256 * (s / 256) + s % 256 = s := by omega
  rw [e5]
 have hlen : (encL p ++ y).length = 5 + p.bytes.size + y.length := by
  unfold encL
  simp only [List.length_append, List.length_cons, List.length_nil]
  omega
 have he : decE (encL p ++ y) = 0 := by
  unfold decE
  rw [hn, hm, if_neg (by omega), if_neg (by omega), if_neg (by omega), if_pos h]
 refine ⟨he, ?_, ?_⟩
 ·unfold decR; rw [if_pos he]; exact hm
 ·unfold decRest
  rw [if_pos he, hn]
  congr 1
  rw [← List.drop_drop, hd, List.drop_left' hl.symm]
theorem five_up (l : List UInt8) (h : 5 ≤ l.length) : ∃ a b c d e t, l = a :: b :: c :: d :: e :: t := by
 match l with
 | [] => simp at h
 | [_] => simp at h
 | [_, _] => simp at h
 | [_, _, _] => simp at h
 | [_, _, _, _] => simp at h
 | a :: b :: c :: d :: e :: t => exact ⟨a, b, c, d, e, t, rfl⟩
theorem enc_dec {l : List UInt8} (h : decE l = 0) : encPE (decR l) = 0 ∧ encP (decR l) ++ decRest l = txt l := by
 have hr : decR l = decM l := by unfold decR; rw [if_pos h]
 have hrest : decRest l = txt (l.drop (5 + decN l)) := by unfold decRest; rw [if_pos h]
 have h1 : ¬ l.length < 5 := fun hh => by unfold decE at h; rw [if_pos hh] at h; cases h
 unfold decE at h
 rw [if_neg h1] at h
 have h2 : ¬ 16 < decN l := fun hh => by rw [if_pos hh] at h; cases h
 rw [if_neg h2] at h
 have h3 : ¬ l.length < 5 + decN l := fun hh => by rw [if_pos hh] at h; cases h
 rw [if_neg h3] at h
 have h4 : rightP (decM l) = true := by
  cases hq : rightP (decM l)
  ·rw [hq] at h; cases h
  ·rfl
 rw [hr, hrest]
 refine ⟨by unfold encPE; rw [if_pos h4], ?_⟩
 have e1 : encP (decM l) = txt (encL (decM l)) := by
  rw [← encP_list h4]; rfl
 rw [e1, ← txt_app]
 congr 1
 obtain ⟨a, b, c, d, e, t, rfl⟩ := five_up l (by omega)
 have hn : decN (a :: b :: c :: d :: e :: t) = e.toNat := rfl
 have hb : (decM (a :: b :: c :: d :: e :: t)).bytes = txt (t.take e.toNat) := rfl
 have hsz : (txt (t.take e.toNat)).size = e.toNat := by
  rw [txt_size, List.length_take]
  rw [hn] at h3
  simp only [List.length_cons] at h3
  omega
 have b0 := a.toNat_lt
 have b1 := b.toNat_lt
 unfold encL
 rw [hb, hsz]
 have s1 : (decM (a :: b :: c :: d :: e :: t)).seq = 256 * (a.toNat : Int) + (b.toNat : Int) := rfl
 have s2 : (decM (a :: b :: c :: d :: e :: t)).at' = (c.toNat : Int) := rfl
 have s3 : (decM (a :: b :: c :: d :: e :: t)).of' = (d.toNat : Int) := rfl
 rw [s1, s2, s3]
 have d1 : (256 * (a.toNat : Int) + (b.toNat : Int)) / 256 = (a.toNat : Int) := by omega
 have d2 : (256 * (a.toNat : Int) + (b.toNat : Int)) % 256 = (b.toNat : Int) := by omega
 rw [d1, d2, octet_back, octet_back, octet_back, octet_back, octet_back, hn]
 have d3 : (a :: b :: c :: d :: e :: t).drop (5 + e.toNat) = t.drop e.toNat := by
  rw [Nat.add_comm]; rfl
 rw [d3, txt_data]
 show a :: b :: c :: d :: e :: (t.take e.toNat ++ t.drop e.toNat) = _
 rw [List.take_append_drop]
end Go.Proofs.YtmmbnjkdknnidaaGreatDoor.F

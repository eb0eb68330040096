/-
  Decode undoes Encode, and back; the pieces of a text put together: plain mathematics.
-/
import Derived.Test.YtggeojjiongbbaaFragEnc
import Derived.Test.YtggeojjiongbbaaFragDec
import Derived.Test.YtggeojjiongbbaaFragMath
namespace Go.Proofs.Ytggeojjiongbbaa
open Go.RowKit

def encL (p : Pc) : List UInt8 := [octet5 (p.seq / 256), octet5 (p.seq % 256), octet5 p.at', octet5 p.of', octet5 p.bytes.size] ++ p.bytes.data.toList
theorem txt_app (a b : List UInt8) : txt (a ++ b) = txt a ++ txt b := by
  apply ByteArray.ext
  show (a ++ b).toArray = (txt a ++ txt b).data
  rw [ByteArray.data_append]
  simp [txt]
theorem app_data (a b : ByteArray) : (a ++ b).data.toList = a.data.toList ++ b.data.toList := by
  rw [ByteArray.data_append, Array.toList_append]
theorem encP_list {p : Pc} (h : rightP p = true) : (encP p).data.toList = encL p := by
  unfold encP
  rw [if_pos h, app_data]
  rfl
theorem octet_nat (n : Int) (h0 : 0 ≤ n) (h1 : n ≤ 255) : ((octet5 n).toNat : Int) = n := by
  unfold octet5
  rw [UInt8.toNat_ofNat_of_lt' (by show n.toNat < 256; omega)]
  omega
theorem octet_back (a : UInt8) : octet5 (a.toNat : Int) = a := by
  unfold octet5
  rw [Int.toNat_natCast]
  exact UInt8.ofNat_toNat
theorem dec_enc {p : Pc} (h : rightP p = true) (y : List UInt8) : decE (encL p ++ y) = 0 ∧ decR (encL p ++ y) = p ∧ decRest (encL p ++ y) = txt y := by
  obtain ⟨⟨r1, r2⟩, ⟨r3, r4⟩, ⟨r5, r6⟩, r7, r8⟩ := (rightP_iff p).1 h
  have hn : decN (encL p ++ y) = p.bytes.size := by
    have := octet_nat p.bytes.size (by omega) (by omega)
    show (octet5 p.bytes.size).toNat = _
    omega
  have hd : (encL p ++ y).drop 5 = p.bytes.data.toList ++ y := rfl
  have hl := Lib.size_eq p.bytes
  have hm : decM (encL p ++ y) = p := by
    obtain ⟨s, a, o, d⟩ := p
    simp only at r1 r2 r3 r4 r5 r6 r7 r8 hl
    unfold decM
    rw [hn, hd]
    have e0 : (((encL ⟨s, a, o, d⟩ ++ y).getD 0 0).toNat : Int) = s / 256 := octet_nat _ (by show 0 ≤ s / 256; omega) (by show s / 256 ≤ 255; omega)
    have e1 : (((encL ⟨s, a, o, d⟩ ++ y).getD 1 0).toNat : Int) = s % 256 := octet_nat _ (by show 0 ≤ s % 256; omega) (by show s % 256 ≤ 255; omega)
    have e2 : (((encL ⟨s, a, o, d⟩ ++ y).getD 2 0).toNat : Int) = a := octet_nat _ (by show 0 ≤ a; omega) (by show a ≤ 255; omega)
    have e3 : (((encL ⟨s, a, o, d⟩ ++ y).getD 3 0).toNat : Int) = o := octet_nat _ (by show 0 ≤ o; omega) (by show o ≤ 255; omega)
    rw [e0, e1, e2, e3]
    have e4 : txt ((d.data.toList ++ y).take d.size) = d := by
      rw [List.take_left' hl.symm]
      rfl
    simp only [e4]
    have e5 : 256 * (s / 256) + s % 256 = s := by omega
    rw [e5]
  have hlen : (encL p ++ y).length = 5 + p.bytes.size + y.length := by
    unfold encL
    simp only [List.length_append, List.length_cons, List.length_nil]
    omega
  have he : decE (encL p ++ y) = 0 := by
    unfold decE
    rw [hn, hm, if_neg (by omega), if_neg (by omega), if_neg (by omega), if_pos h]
  refine ⟨he, ?_, ?_⟩
  · unfold decR; rw [if_pos he]; exact hm
  · unfold decRest
    rw [if_pos he, hn]
    congr 1
    rw [← List.drop_drop, hd, List.drop_left' hl.symm]
theorem five_up (l : List UInt8) (h : 5 ≤ l.length) : ∃ a b c d e t, l = a :: b :: c :: d :: e :: t := by
  match l with
  | [] => simp at h
  | [_] => simp at h
  | [_, _] => simp at h
  | [_, _, _] => simp at h
  | [_, _, _, _] => simp at h
  | a :: b :: c :: d :: e :: t => exact ⟨a, b, c, d, e, t, rfl⟩
theorem enc_dec {l : List UInt8} (h : decE l = 0) : encPE (decR l) = 0 ∧ encP (decR l) ++ decRest l = txt l := by
  have hr : decR l = decM l := by unfold decR; rw [if_pos h]
  have hrest : decRest l = txt (l.drop (5 + decN l)) := by unfold decRest; rw [if_pos h]
  have h1 : ¬ l.length < 5 := fun hh => by unfold decE at h; rw [if_pos hh] at h; cases h
  unfold decE at h
  rw [if_neg h1] at h
  have h2 : ¬ 16 < decN l := fun hh => by rw [if_pos hh] at h; cases h
  rw [if_neg h2] at h
  have h3 : ¬ l.length < 5 + decN l := fun hh => by rw [if_pos hh] at h; cases h
  rw [if_neg h3] at h
  have h4 : rightP (decM l) = true := by
    cases hq : rightP (decM l)
    · rw [hq] at h; cases h
    · rfl
  rw [hr, hrest]
  refine ⟨by unfold encPE; rw [if_pos h4], ?_⟩
  have e1 : encP (decM l) = txt (encL (decM l)) := by
    rw [← encP_list h4]; rfl
  rw [e1, ← txt_app]
  congr 1
  obtain ⟨a, b, c, d, e, t, rfl⟩ := five_up l (by omega)
  have hn : decN (a :: b :: c :: d :: e :: t) = e.toNat := rfl
  have hb : (decM (a :: b :: c :: d :: e :: t)).bytes = txt (t.take e.toNat) := rfl
  have hsz : (txt (t.take e.toNat)).size = e.toNat := by
    rw [txt_size, List.length_take]
    rw [hn] at h3
    simp only [List.length_cons] at h3
    omega
  have b0 := a.toNat_lt
  have b1 := b.toNat_lt
  unfold encL
  rw [hb, hsz]
  have s1 : (decM (a :: b :: c :: d :: e :: t)).seq = 256 * (a.toNat : Int) + (b.toNat : Int) := rfl
  have s2 : (decM (a :: b :: c :: d :: e :: t)).at' = (c.toNat : Int) := rfl
  have s3 : (decM (a :: b :: c :: d :: e :: t)).of' = (d.toNat : Int) := rfl
  rw [s1, s2, s3]
  have d1 : (256 * (a.toNat : Int) + (b.toNat : Int)) / 256 = (a.toNat : Int) := by omega
  have d2 : (256 * (a.toNat : Int) + (b.toNat : Int)) % 256 = (b.toNat : Int) := by omega
  rw [d1, d2, octet_back, octet_back, octet_back, octet_back, octet_back, hn]
  have d3 : (a :: b :: c :: d :: e :: t).drop (5 + e.toNat) = t.drop e.toNat := by
    rw [Nat.add_comm]; rfl
  rw [d3, txt_data]
  show a :: b :: c :: d :: e :: (t.take e.toNat ++ t.drop e.toNat) = _
  rw [List.take_append_drop]

/-- The pieces up to k, one behind the other. -/
def upK (x : ByteArray) (n k : Nat) : ByteArray := txt (x.data.toList.take (k * n))
theorem upK_zero (x : ByteArray) (n : Nat) : upK x n 0 = ⟨#[]⟩ := by unfold upK; rw [Nat.zero_mul]; rfl
theorem upK_succ (x : ByteArray) (n k : Nat) : upK x n (k + 1) = upK x n k ++ cutT x k n := by
  unfold upK cutT
  have e : (k + 1) * n = k * n + n := Nat.succ_mul k n
  rw [e, List.take_add, txt_app]
  rfl
theorem upK_all (x : ByteArray) (n : Nat) (hn : 1 ≤ n) : upK x n (countP x.size n) = x := by
  unfold upK
  rw [List.take_of_length_le (by rw [← Lib.size_eq]; exact countP_end hn)]
  rfl

end Go.Proofs.Ytggeojjiongbbaa

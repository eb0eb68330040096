/-
  Messages and their bytes: Decode undoes Encode, whatever stands behind; Encode undoes Decode.
-/
import Derived.Test.YtehajmockicilaaDoorIdentPs
import Derived.Test.YtehajmockicilaaDoorMsgDec
namespace Go.Proofs.YtehajmockicilaaDoor
open Go.RowKit

theorem rightM_data {m : Msg} (h : rightM m = true) : m.data.size ≤ 8 := ((rightM_iff m).1 h).2.2.2.2.2
theorem encT_right {m : Msg} (h : rightM m = true) : encT m = encL m := by unfold encT; rw [if_pos h]
theorem encE_right {m : Msg} (h : rightM m = true) : encE m = 0 := by unfold encE; rw [if_pos h]

theorem pair_two (n : Int) (h : 1 ≤ n ∧ n ≤ 65535) : 256 * ((octet (n / 256)).toNat : Int) + ((octet n).toNat : Int) = n := by
  rw [octet_nat, octet_nat]; omega

set_option maxRecDepth 100000 in
/-- The bytes of a message that may be. -/
theorem enc_shape {m : Msg} (h : rightM m = true) : ∃ a b c d, printI m.ext m.n = [a, b, c, d] ∧ encL m = a :: b :: c :: d :: octet m.sender :: octet (m.inc / 256) :: octet m.inc :: octet (m.seq / 256) :: octet m.seq :: octet (m.number / 256) :: octet m.number :: octet m.data.size :: m.data.data.toList := by
  have hr := ((rightM_iff m).1 h).1
  have hp : printI m.ext m.n = four (numI m.ext m.n) := by unfold printI; rw [hr]; rfl
  refine ⟨_, _, _, _, hp.trans rfl, ?_⟩
  unfold encL
  rw [hp]
  rfl
set_option maxRecDepth 100000 in
theorem encL_length {m : Msg} (h : rightM m = true) : (encL m).length = 12 + m.data.size := by
  obtain ⟨a, b, c, d, _, e⟩ := enc_shape h
  rw [e]
  have := Lib.size_eq m.data
  simp only [List.length_cons]
  omega

set_option maxRecDepth 100000 in
theorem dec_enc {m : Msg} (h : rightM m = true) (r : List UInt8) : decE (encL m ++ r) = 0 ∧ decR (encL m ++ r) = m ∧ decRest (encL m ++ r) = r := by
  have H := (rightM_iff m).1 h
  obtain ⟨hr, hs, hi, hq, hn, hd⟩ := H
  obtain ⟨p1, p2, p3, p4⟩ := ps_print hr
  obtain ⟨a, b, c, d, hp, e⟩ := enc_shape h
  have hl := encL_length h
  have hz := Lib.size_eq m.data
  obtain ⟨X, hX⟩ : ∃ X, X = encL m ++ r := ⟨_, rfl⟩
  have e2 : X = a :: b :: c :: d :: octet m.sender :: octet (m.inc / 256) :: octet m.inc :: octet (m.seq / 256) :: octet m.seq :: octet (m.number / 256) :: octet m.number :: octet m.data.size :: (m.data.data.toList ++ r) := by rw [hX, e]; rfl
  have hXl : X.length = 12 + m.data.size + r.length := by rw [hX, List.length_append, hl]
  rw [← hX]
  have ht : X.take 4 = printI m.ext m.n := by rw [e2, hp]; rfl
  have hN : decN X = m.data.size := by
    have : decN X = (octet m.data.size).toNat := by rw [e2]; rfl
    rw [this]
    have := octet_nat m.data.size
    omega
  have hM : decM X = m := by
    unfold decM
    rw [ht, p1, p2, hN]
    have e4 : ((X.getD 4 0).toNat : Int) = m.sender := by
      have : X.getD 4 0 = octet m.sender := by rw [e2]; rfl
      rw [this, octet_nat]; omega
    have e5 : pairL X 5 = m.inc := by
      have : pairL X 5 = 256 * ((octet (m.inc / 256)).toNat : Int) + ((octet m.inc).toNat : Int) := by rw [e2]; rfl
      rw [this]; exact pair_two _ hi
    have e7 : pairL X 7 = m.seq := by
      have : pairL X 7 = 256 * ((octet (m.seq / 256)).toNat : Int) + ((octet m.seq).toNat : Int) := by rw [e2]; rfl
      rw [this]; exact pair_two _ hq
    have e9 : pairL X 9 = m.number := by
      have : pairL X 9 = 256 * ((octet (m.number / 256)).toNat : Int) + ((octet m.number).toNat : Int) := by rw [e2]; rfl
      rw [this]; exact pair_two _ hn
    have e12 : X.drop 12 = m.data.data.toList ++ r := by rw [e2]; rfl
    rw [e4, e5, e7, e9, e12, List.take_left' (by omega)]
    rfl
  have hE : decE X = 0 := by
    unfold decE
    rw [if_neg (by omega), if_neg (by omega), if_neg (by omega), ht, if_pos p3, hM, if_pos h]
  refine ⟨hE, ?_, ?_⟩
  · unfold decR; rw [if_pos hE, hM]
  · unfold decRest
    rw [if_pos hE, hN, e2]
    show List.drop (12 + m.data.size) _ = r
    rw [← List.drop_drop]
    show List.drop m.data.size (m.data.data.toList ++ r) = r
    exact List.drop_left' (by omega)

set_option maxRecDepth 100000 in
theorem decE_facts {l : List UInt8} (h : decE l = 0) : 12 + decN l ≤ l.length ∧ decN l ≤ 8 ∧ psE (l.take 4) = 0 ∧ rightM (decM l) = true := by
  unfold decE at h
  by_cases h1 : l.length < 12
  · rw [if_pos h1] at h; omega
  rw [if_neg h1] at h
  by_cases h2 : 8 < decN l
  · rw [if_pos h2] at h; omega
  rw [if_neg h2] at h
  by_cases h3 : l.length < 12 + decN l
  · rw [if_pos h3] at h; omega
  rw [if_neg h3] at h
  by_cases h4 : psE (l.take 4) = 0
  · rw [if_pos h4] at h
    by_cases h5 : rightM (decM l) = true
    · exact ⟨by omega, by omega, h4, h5⟩
    · rw [if_neg h5] at h; omega
  · rw [if_neg h4] at h; omega

set_option maxRecDepth 100000 in
theorem enc_dec {l : List UInt8} (h : decE l = 0) : rightM (decR l) = true ∧ encL (decR l) ++ decRest l = l := by
  obtain ⟨h1, h2, h3, h4⟩ := decE_facts h
  have hR : decR l = decM l := by unfold decR; rw [if_pos h]
  have hT : decRest l = l.drop (12 + decN l) := by unfold decRest; rw [if_pos h]
  rw [hR, hT]
  refine ⟨h4, ?_⟩
  have hp := (print_ps h3).1
  clear h4 hR hT h
  match l, h1, h2, hp with
  | a :: b :: c :: d :: s :: i1 :: i2 :: q1 :: q2 :: n1 :: n2 :: z :: t, h1, h2, hp =>
    have hN : decN (a :: b :: c :: d :: s :: i1 :: i2 :: q1 :: q2 :: n1 :: n2 :: z :: t) = z.toNat := rfl
    rw [hN] at h1 h2 ⊢
    have ht : z.toNat ≤ t.length := by simp only [List.length_cons] at h1; omega
    have two : ∀ x y : UInt8, twoL (256 * (x.toNat : Int) + (y.toNat : Int)) = [x, y] := fun x y => by
      have hx := x.toNat_lt
      have hy := y.toNat_lt
      unfold twoL
      rw [octet_of_byte x _ (by omega), octet_of_byte y _ (by omega)]
    have one : octet (s.toNat : Int) = s := octet_of_byte s _ (by have := s.toNat_lt; omega)
    have hd : (txt (t.take z.toNat)).size = z.toNat := by rw [txt_size, List.length_take]; omega
    have oz : octet (z.toNat : Int) = z := octet_of_byte z _ (by have := z.toNat_lt; omega)
    have hM : decM (a :: b :: c :: d :: s :: i1 :: i2 :: q1 :: q2 :: n1 :: n2 :: z :: t) = ⟨psRB [a, b, c, d], psRN [a, b, c, d], (s.toNat : Int), 256 * (i1.toNat : Int) + (i2.toNat : Int), 256 * (q1.toNat : Int) + (q2.toNat : Int), 256 * (n1.toNat : Int) + (n2.toNat : Int), txt (t.take z.toNat)⟩ := rfl
    rw [hM]
    have hp' : printI (psRB [a, b, c, d]) (psRN [a, b, c, d]) = [a, b, c, d] := hp
    unfold encL
    simp only []
    rw [hp', two, two, two, one, hd, oz, txt_data, ← List.drop_drop]
    show a :: b :: c :: d :: s :: i1 :: i2 :: q1 :: q2 :: n1 :: n2 :: z :: (t.take z.toNat ++ t.drop z.toNat) = _
    rw [List.take_append_drop]

end Go.Proofs.YtehajmockicilaaDoor

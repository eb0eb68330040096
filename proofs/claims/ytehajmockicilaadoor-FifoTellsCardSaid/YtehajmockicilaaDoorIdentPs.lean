/-
  Identifiers as bytes: Parse undoes Print, and Print Parse.
-/
import Derived.Test.YtehajmockicilaaDoorIdentRefParse
namespace Go.Proofs.YtehajmockicilaaDoor
open Go.RowKit

theorem octet_nat (x : Int) : ((octet x).toNat : Int) = x % 256 := by
  unfold octet
  have h1 : 0 ≤ x % 256 := by omega
  have h2 : x % 256 < 256 := by omega
  rw [UInt8.toNat_ofNat']
  omega

/-- Parse undoes Print. -/
theorem ps_print {b : Bool} {n : Int} (h : rightI b n = true) : psRB (printI b n) = b ∧ psRN (printI b n) = n ∧ psE (printI b n) = 0 ∧ (printI b n).length = 4 := by
  have hr := right_range h
  have hl := lim_range b
  have hp : printI b n = four (numI b n) := by unfold printI; rw [h]; rfl
  have hlen : (printI b n).length = 4 := by rw [hp]; rfl
  have hnum : numL (printI b n) = numI b n := by
    rw [hp, numL_four _ rfl]
    show 16777216 * ((octet (numI b n / 16777216)).toNat : Int) + 65536 * ((octet (numI b n / 65536)).toNat : Int) + 256 * ((octet (numI b n / 256)).toNat : Int) + ((octet (numI b n)).toNat : Int) = numI b n
    rw [octet_nat, octet_nat, octet_nat, octet_nat]
    have : 0 ≤ numI b n ∧ numI b n < 4294967296 := by
      cases b
      · show 0 ≤ n ∧ n < 4294967296
        omega
      · show 0 ≤ n + 2147483648 ∧ n + 2147483648 < 4294967296
        omega
    omega
  have hb : psB (printI b n) = b := by
    unfold psB
    rw [hnum]
    cases b
    · exact decide_eq_false (by show ¬ 2147483648 ≤ n; omega)
    · exact decide_eq_true (by show 2147483648 ≤ n + 2147483648; omega)
  have hn : psN (printI b n) = n := by
    unfold psN
    rw [hnum]
    cases b
    · show n % 2147483648 = n
      omega
    · show (n + 2147483648) % 2147483648 = n
      omega
  have hok : psOk (printI b n) = true := by
    unfold psOk
    rw [hb, hn, h, hlen]; rfl
  refine ⟨?_, ?_, ?_, hlen⟩
  · unfold psRB; rw [hok, hb]; rfl
  · unfold psRN; rw [hok, hn]; rfl
  · unfold psE; rw [hlen, hok]; rfl

theorem octet_of_byte (a : UInt8) (x : Int) (h : x % 256 = (a.toNat : Int)) : octet x = a := by
  apply UInt8.toNat_inj.1
  have := octet_nat x
  omega

/-- Print undoes Parse. -/
theorem print_ps {l : List UInt8} (h : psE l = 0) : printI (psRB l) (psRN l) = l ∧ rightI (psRB l) (psRN l) = true := by
  have h4 : l.length = 4 := by
    unfold psE at h
    by_cases h1 : l.length < 4
    · rw [if_pos h1] at h; omega
    · rw [if_neg h1] at h
      by_cases h2 : 4 < l.length
      · rw [if_pos h2] at h; omega
      · omega
  have hok : psOk l = true := by
    unfold psE at h
    rw [if_neg (by omega), if_neg (by omega)] at h
    by_cases h1 : psOk l = true
    · exact h1
    · rw [if_neg h1] at h; omega
  have e1 : psRB l = psB l := by unfold psRB; rw [hok]; rfl
  have e2 : psRN l = psN l := by unfold psRN; rw [hok]; rfl
  have hr : rightI (psB l) (psN l) = true := by
    unfold psOk at hok
    exact (Bool.and_eq_true _ _ ▸ hok).2
  rw [e1, e2]
  refine ⟨?_, hr⟩
  have hn := numL_four l h4
  have hnum : numI (psB l) (psN l) = numL l := by
    have hx := numL_range l
    rw [h4] at hx
    have hy := lim_range (psB l)
    have hz := right_range hr
    unfold psN at *
    by_cases hb : 2147483648 ≤ numL l
    · have : psB l = true := decide_eq_true hb
      rw [this]
      show numL l % 2147483648 + 2147483648 = numL l
      omega
    · have : psB l = false := decide_eq_false hb
      rw [this]
      show numL l % 2147483648 = numL l
      omega
  unfold printI
  rw [if_pos hr, hnum, hn]
  match l, h4 with
  | [a, b, c, d], _ =>
    have ha := a.toNat_lt
    have hb := b.toNat_lt
    have hc := c.toNat_lt
    have hd := d.toNat_lt
    show four (16777216 * (a.toNat : Int) + 65536 * (b.toNat : Int) + 256 * (c.toNat : Int) + (d.toNat : Int)) = [a, b, c, d]
    unfold four
    rw [octet_of_byte a _ (by omega), octet_of_byte b _ (by omega), octet_of_byte c _ (by omega), octet_of_byte d _ (by omega)]

end Go.Proofs.YtehajmockicilaaDoor

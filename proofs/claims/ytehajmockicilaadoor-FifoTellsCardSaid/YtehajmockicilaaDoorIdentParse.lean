/-
  Identifiers out of bytes: what ident.Parse does, and the document's.
-/
import Derived.Test.YtehajmockicilaaDoorIdentPrint
namespace Go.Proofs.YtehajmockicilaaDoor
open Go.RowKit

/-- The number that stands in bytes. -/
def numL (l : List UInt8) : Int := l.foldl (fun n c => n * 256 + (c.toNat : Int)) 0
def psB (l : List UInt8) : Bool := decide (2147483648 ≤ numL l)
def psN (l : List UInt8) : Int := numL l % 2147483648
def psOk (l : List UInt8) : Bool := decide (l.length = 4) && rightI (psB l) (psN l)
def psRB (l : List UInt8) : Bool := psOk l && psB l
def psRN (l : List UInt8) : Int := if psOk l = true then psN l else 0
def psE (l : List UInt8) : Int := if l.length < 4 then 3 else if 4 < l.length then 4 else if psOk l = true then 0 else 2

def ParsePost (l : List UInt8) (w : World) (e : Ending) (w' : World) : Prop := e = .returned (.tuple #[.agg #[.bool (psRB l), .int .i64 (psRN l)], .int .i64 (psE l)]) ∧ Below w.heap.size w w'

theorem numL_snoc (l : List UInt8) (c : UInt8) : numL (l ++ [c]) = numL l * 256 + (c.toNat : Int) := by
  unfold numL
  rw [List.foldl_append]; rfl
theorem numL_take (l : List UInt8) (k : Nat) (h : k < l.length) : numL (l.take (k + 1)) = numL (l.take k) * 256 + (l[k].toNat : Int) := by
  rw [List.take_succ_eq_append_getElem h, numL_snoc]
theorem numL_range : ∀ (l : List UInt8), 0 ≤ numL l ∧ numL l < ((256 ^ l.length : Nat) : Int) := by
  intro l
  suffices h : ∀ (k : Nat), k ≤ l.length → 0 ≤ numL (l.take k) ∧ numL (l.take k) < ((256 ^ k : Nat) : Int) by
    have := h l.length (Nat.le_refl _)
    rwa [List.take_length] at this
  intro k
  induction k with
  | zero => intro _; rw [List.take_zero]; exact ⟨Int.le_refl 0, by decide⟩
  | succ k ih =>
    intro hk
    obtain ⟨h1, h2⟩ := ih (by omega)
    rw [numL_take l k (by omega)]
    have hc := l[k].toNat_lt
    rw [Nat.pow_succ]
    omega
theorem numL_part (l : List UInt8) (k : Nat) (hk : k ≤ 3) : 0 ≤ numL (l.take k) ∧ numL (l.take k) < 16777216 := by
  have h := numL_range (l.take k)
  have h2 : (l.take k).length ≤ 3 := by rw [List.length_take]; omega
  have h3 : (256 : Nat) ^ (l.take k).length ≤ 256 ^ 3 := Nat.pow_le_pow_right (by omega) h2
  omega

theorem ps_none (l : List UInt8) (E : Int) (hok : psOk l = false) (hE : psE l = E) : ∀ w w', Below w.heap.size w w' → ParsePost l w (.returned (.tuple #[.agg #[.bool false, .int .i64 0], .int .i64 E])) w' := by
  intro w w' hb
  refine ⟨?_, hb⟩
  have e1 : psRB l = false := by unfold psRB; rw [hok]; rfl
  have e2 : psRN l = 0 := by unfold psRN; rw [hok]; rfl
  rw [e1, e2, hE]
theorem ps_one (l : List UInt8) (hl : l.length = 4) (hok : psOk l = true) : ∀ w w', Below w.heap.size w w' → ParsePost l w (.returned (.tuple #[.agg #[.bool (psB l), .int .i64 (psN l)], .int .i64 0])) w' := by
  intro w w' hb
  refine ⟨?_, hb⟩
  have e1 : psRB l = psB l := by unfold psRB; rw [hok]; rfl
  have e2 : psRN l = psN l := by unfold psRN; rw [hok]; rfl
  have e3 : psE l = 0 := by unfold psE; rw [if_neg (by omega), if_neg (by omega), hok]; rfl
  rw [e1, e2, e3]

theorem parse_bit (n : Int) (h0 : 0 ≤ n) (h1 : n < 4294967296) : (bits BinOp.and IntKind.i64 n 2147483648 != 0) = decide (2147483648 ≤ n) := by
  rw [i64_bit31]
  by_cases h : 2147483648 ≤ n
  · rw [decide_eq_true h]
    have : n / 2147483648 % 2 * 2147483648 = 2147483648 := by omega
    rw [this]; rfl
  · rw [decide_eq_false h]
    have : n / 2147483648 % 2 * 2147483648 = 0 := by omega
    rw [this]; rfl

theorem wrap_byte (c : UInt8) : wrap64 (c.toNat : Int) = (c.toNat : Int) := by
  have hc := c.toNat_lt
  unfold wrap64
  omega

end Go.Proofs.YtehajmockicilaaDoor

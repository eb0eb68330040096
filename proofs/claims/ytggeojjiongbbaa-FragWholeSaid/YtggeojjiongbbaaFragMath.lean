/-
  Texts in pieces: plain mathematics.
-/
import Derived.Test.YtggeojjiongbbaaFragBase
namespace Go.Proofs.Ytggeojjiongbbaa
open Go.RowKit

/-- How many pieces there are. -/
def countP (z n : Nat) : Nat := (z + n - 1) / n
def cutT (s : ByteArray) (i n : Nat) : ByteArray := ⟨((s.data.toList.drop (i * n)).take n).toArray⟩
def pieceP (q : Int) (s : ByteArray) (n i : Nat) : Pc := ⟨q, i, countP s.size n, cutT s i n⟩
def splitL (q : Int) (s : ByteArray) (n : Nat) : List Pc := (List.range (countP s.size n)).map (pieceP q s n)
theorem splitL_length (q : Int) (s : ByteArray) (n : Nat) : (splitL q s n).length = countP s.size n := by unfold splitL; simp
theorem splitL_at (q : Int) (s : ByteArray) (n k : Nat) (h : k < countP s.size n) : (splitL q s n)[k]? = some (pieceP q s n k) := by
  unfold splitL
  rw [List.getElem?_map, List.getElem?_range h]; rfl
theorem splitL_take (q : Int) (s : ByteArray) (n k : Nat) (h : k < countP s.size n) : (splitL q s n).take (k + 1) = (splitL q s n).take k ++ [pieceP q s n k] := by
  rw [List.take_add_one, splitL_at q s n k h]; rfl
theorem countP_le (z n : Nat) (hz : 1 ≤ z) (hn : 1 ≤ n) : countP z n ≤ z := by
  unfold countP
  apply Nat.le_of_lt_succ
  rw [Nat.div_lt_iff_lt_mul (by omega)]
  have h1 : z * 1 ≤ z * n := Nat.mul_le_mul_left z hn
  have h2 : (z + 1) * n = z * n + n := Nat.succ_mul z n
  have h3 : z.succ * n = (z + 1) * n := rfl
  omega
theorem countP_pos (z n : Nat) (hz : 1 ≤ z) (hn : 1 ≤ n) : 1 ≤ countP z n := by
  unfold countP
  rw [Nat.le_div_iff_mul_le (by omega)]
  omega
theorem countP_at {z n k : Nat} (hn : 1 ≤ n) (h : k < countP z n) : k * n < z := by
  unfold countP at h
  have h1 := (Nat.le_div_iff_mul_le (by omega : 0 < n)).1 h
  have h2 : (k + 1) * n = k * n + n := Nat.succ_mul k n
  have h3 : k.succ * n = (k + 1) * n := rfl
  omega
theorem countP_end {z n : Nat} (hn : 1 ≤ n) : z ≤ countP z n * n := by
  unfold countP
  have h1 := Nat.div_add_mod (z + n - 1) n
  have h2 := Nat.mod_lt (z + n - 1) (show n > 0 by omega)
  rw [Nat.mul_comm] at h1
  omega
theorem cutT_size (s : ByteArray) (i n : Nat) : (cutT s i n).size = min n (s.size - i * n) := by
  have hl := Lib.size_eq s
  show ((s.data.toList.drop (i * n)).take n).toArray.size = _
  rw [List.size_toArray, List.length_take, List.length_drop]
  omega

def splitB (q : Int) (z : Nat) (n : Int) : Bool := smallB q && (decide (1 ≤ z) && (decide (z ≤ 20) && (decide (1 ≤ n) && decide (n ≤ 16))))
theorem splitB_iff (q : Int) (z : Nat) (n : Int) : splitB q z n = true ↔ (1 ≤ q ∧ q ≤ 65535) ∧ (1 ≤ z ∧ z ≤ 20) ∧ 1 ≤ n ∧ n ≤ 16 := by
  unfold splitB
  simp only [Bool.and_eq_true, smallB_iff, decide_eq_true_eq]
  constructor
  · rintro ⟨a, b, c, d, e⟩; exact ⟨a, ⟨b, c⟩, d, e⟩
  · rintro ⟨a, ⟨b, c⟩, d, e⟩; exact ⟨a, b, c, d, e⟩
def splitR (q : Int) (s : ByteArray) (n : Int) : List Pc := if splitB q s.size n = true then splitL q s n.toNat else []
def splitE (q : Int) (s : ByteArray) (n : Int) : Int := if splitB q s.size n = true then 0 else 1

/-- Each piece of a text that is split is right. -/
theorem piece_right {q : Int} {s : ByteArray} {n : Int} (h : splitB q s.size n = true) {k : Nat} (hk : k < countP s.size n.toNat) : rightP (pieceP q s n.toNat k) = true := by
  obtain ⟨⟨a, b⟩, ⟨c, d⟩, e, f⟩ := (splitB_iff _ _ _).1 h
  have h1 := countP_le s.size n.toNat c (by omega)
  have h2 := countP_at (by omega) hk
  have h3 := cutT_size s k n.toNat
  rw [rightP_iff]
  refine ⟨⟨a, b⟩, ⟨?_, ?_⟩, ⟨?_, ?_⟩, ?_, ?_⟩
  · show (1 : Int) ≤ (countP s.size n.toNat : Int); omega
  · show (countP s.size n.toNat : Int) ≤ 20; omega
  · show (0 : Int) ≤ (k : Int); omega
  · show (k : Int) < (countP s.size n.toNat : Int); omega
  · show 1 ≤ (cutT s k n.toNat).size; omega
  · show (cutT s k n.toNat).size ≤ 16; omega

set_option maxRecDepth 100000 in
theorem cut_run (s : ByteArray) (k n : Nat) (hn : 1 ≤ n) (e f : Int) (he : e = ((k * n : Nat) : Int)) (hf : f = (min (k * n + n) s.size : Nat)) (hk : k * n < s.size) (w : World) :
    (Instr.slice 9 (.string s) (some (.int .i64 e)) (some (.int .i64 f)) none).run Try.prog w = .ok (.string (cutT s k n)) w := by
  have hl := Lib.size_eq s
  subst he hf
  rw [run_slice_string w 9 s .i64 .i64 ((k * n : Nat) : Int) ((min (k * n + n) s.size : Nat) : Int) Try.underlying9 (by omega) (by omega) (by omega), Lib.extract_eq]
  rw [Int.toNat_natCast, Int.toNat_natCast]
  unfold cutT
  congr 4
  rcases Nat.lt_or_ge s.size (k * n + n) with h | h
  · rw [Nat.min_eq_right (by omega), List.take_of_length_le (by rw [List.length_drop]; omega), List.take_of_length_le (by rw [List.length_drop]; omega)]
  · rw [Nat.min_eq_left h, Nat.add_sub_cancel_left]

end Go.Proofs.Ytggeojjiongbbaa

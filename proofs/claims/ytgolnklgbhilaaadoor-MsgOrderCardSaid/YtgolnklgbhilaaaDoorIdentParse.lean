/-
  Identifiers out of bytes: what ident.Parse does, and the document's.
-/
import Derived.Test.YtgolnklgbhilaaaDoorIdentPrint
namespace Go.Proofs.YtgolnklgbhilaaaDoor
open Go.RowKit

/-- The number that stands in bytes. -/
def numL (l : List UInt8) : Int := l.foldl (fun n c => n * 256 + (c.toNat : Int)) 0
def psB (l : List UInt8) : Bool := decide (2147483648 ≤ numL l)
def psN (l : List UInt8) : Int := numL l % 2147483648
def psOk (l : List UInt8) : Bool := decide (l.length = 4) && rightI (psB l) (psN l)
def psRB (l : List UInt8) : Bool := psOk l && psB l
def psRN (l : List UInt8) : Int := if psOk l = true then psN l else 0
def psE (l : List UInt8) : Int := if l.length < 4 then 3 else if 4 < l.length then 4 else if psOk l = true then 0 else 2

def ParsePost (l : List UInt8) (w : World) (e : Ending) (w' : World) : Prop := e = .returned (.tuple #[.agg #[.bool (psRB l), .int .i64 (psRN l)], .int .i64 (psE l)]) ∧ Below w.heap.size w w'

theorem numL_snoc (l : List UInt8) (c : UInt8) : numL (l ++ [c]) = numL l * 256 + (c.toNat : Int) := by
  unfold numL
  rw [List.foldl_append]; rfl
theorem numL_take (l : List UInt8) (k : Nat) (h : k < l.length) : numL (l.take (k + 1)) = numL (l.take k) * 256 + (l[k].toNat : Int) := by
  rw [List.take_succ_eq_append_getElem h, numL_snoc]
theorem numL_range : ∀ (l : List UInt8), 0 ≤ numL l ∧ numL l < ((256 ^ l.length : Nat) : Int) := by
  intro l
  suffices h : ∀ (k : Nat), k ≤ l.length → 0 ≤ numL (l.take k) ∧ numL (l.take k) < ((256 ^ k : Nat) : Int) by
    have := h l.length (Nat.le_refl _)
    rwa [List.take_length] at this
  intro k
  induction k with
  | zero => intro _; rw [List.take_zero]; exact ⟨Int.le_refl 0, by decide⟩
  | succ k ih =>
    intro hk
    obtain ⟨h1, h2⟩ := ih (by omega)
    rw [numL_take l k (by omega)]
    have hc := l[k].toNat_lt
    rw [Nat.pow_succ]
    omega
theorem numL_part (l : List UInt8) (k : Nat) (hk : k ≤ 3) : 0 ≤ numL (l.take k) ∧ numL (l.take k) < 16777216 := by
  have h := numL_range (l.take k)
  have h2 : (l.take k).length ≤ 3 := by rw [List.length_take]; omega
  have h3 : (256 : Nat) ^ (l.take k).length ≤ 256 ^ 3 := Nat.pow_le_pow_right (by omega) h2
  omega

theorem ps_none (l : List UInt8) (E : Int) (hok : psOk l = false) (hE : psE l = E) : ∀ w w', Below w.heap.size w w' → ParsePost l w (.returned (.tuple #[.agg #[.bool false, .int .i64 0], .int .i64 E])) w' := by
  intro w w' hb
  refine ⟨?_, hb⟩
  have e1 : psRB l = false := by unfold psRB; rw [hok]; rfl
  have e2 : psRN l = 0 := by unfold psRN; rw [hok]; rfl
  rw [e1, e2, hE]
theorem ps_one (l : List UInt8) (hl : l.length = 4) (hok : psOk l = true) : ∀ w w', Below w.heap.size w w' → ParsePost l w (.returned (.tuple #[.agg #[.bool (psB l), .int .i64 (psN l)], .int .i64 0])) w' := by
  intro w w' hb
  refine ⟨?_, hb⟩
  have e1 : psRB l = psB l := by unfold psRB; rw [hok]; rfl
  have e2 : psRN l = psN l := by unfold psRN; rw [hok]; rfl
  have e3 : psE l = 0 := by unfold psE; rw [if_neg (by omega), if_neg (by omega), hok]; rfl
  rw [e1, e2, e3]

theorem parse_bit (n : Int) (h0 : 0 ≤ n) (h1 : n < 4294967296) : (bits BinOp.and IntKind.i64 n 2147483648 != 0) = decide (2147483648 ≤ n) := by
  rw [i64_bit31]
  by_cases h : 2147483648 ≤ n
  · rw [decide_eq_true h]
    have : n / 2147483648 % 2 * 2147483648 = 2147483648 := by omega
    rw [this]; rfl
  · rw [decide_eq_false h]
    have : n / 2147483648 % 2 * 2147483648 = 0 := by omega
    rw [this]; rfl

theorem parse_short (s : ByteArray) (w : World) (hs : s.size < 4) :
    Calls Tryd.prog 51 #[.string s] w (ParsePost s.data.toList w) := by
  have hl : s.data.toList.length = s.size := (Lib.size_eq s).symm
  have HQ := Lib.hid (ps_none s.data.toList 3 (by unfold psOk; rw [decide_eq_false (by omega)]; rfl) (by unfold psE; rw [if_pos (by omega)]))
  clear hl
  go_enter Tryd.func51, Tryd.ntmps51
  go_wp2_with fail
  exact bodyPost_ret (v := .tuple #[.agg #[.bool false, .int .i64 0], .int .i64 3]) (by simp [results, Tryd.results51, go_sem]) rfl (HQ.out _ _ (Joins.below_alloc1 _ _))

theorem parse_long (s : ByteArray) (w : World) (hs : 4 < s.size) (hm : s.size ≤ maxLen) :
    Calls Tryd.prog 51 #[.string s] w (ParsePost s.data.toList w) := by
  unfold maxLen at hm
  have hl : s.data.toList.length = s.size := (Lib.size_eq s).symm
  have HQ := Lib.hid (ps_none s.data.toList 4 (by unfold psOk; rw [decide_eq_false (by omega)]; rfl) (by unfold psE; rw [if_neg (by omega), if_pos (by omega)]))
  clear hl
  go_enter Tryd.func51, Tryd.ntmps51
  go_wp2_with fail
  exact bodyPost_ret (v := .tuple #[.agg #[.bool false, .int .i64 0], .int .i64 4]) (by simp [results, Tryd.results51, go_sem]) rfl (HQ.out _ _ (Joins.below_alloc1 _ _))

theorem wrap_byte (c : UInt8) : wrap64 (c.toNat : Int) = (c.toNat : Int) := by
  have hc := c.toNat_lt
  unfold wrap64
  omega

/-- The way through the loop, and behind it. -/
theorem parse_four (s : ByteArray) (w : World) (L : Laid w) (hs : s.size = 4) :
    Calls Tryd.prog 51 #[.string s] w (ParsePost s.data.toList w) := by
  have hl : s.data.toList.length = 4 := by rw [← Lib.size_eq, hs]
  have h3 : 4 ≤ s.size := by omega
  have h4 : s.size ≤ 4 := by omega
  obtain ⟨hn0, hn1⟩ := numL_range s.data.toList
  rw [hl] at hn1
  have hn2 : numL s.data.toList < 4294967296 := hn1
  have hB := parse_bit (numL s.data.toList) hn0 hn2
  have hN := i64_drop31 (numL s.data.toList) hn0 hn2
  have hB2 : psB s.data.toList = decide (2147483648 ≤ numL s.data.toList) := rfl
  have hN2 : psN s.data.toList = numL s.data.toList % 2147483648 := rfl
  rw [← hB2] at hB
  rw [← hN2] at hN
  have hq : psOk s.data.toList = rightI (psB s.data.toList) (psN s.data.toList) := by unfold psOk; rw [decide_eq_true hl, Bool.true_and]
  have HQ1 := fun h => Lib.hid (ps_one s.data.toList hl h)
  have HQ0 := fun h => Lib.hid (ps_none s.data.toList 2 h (by unfold psE; rw [if_neg (by omega), if_neg (by omega), h]; rfl))
  rw [hq] at HQ1 HQ0
  clear hq hB2 hN2
  generalize psB s.data.toList = B at HQ1 HQ0 hB
  generalize psN s.data.toList = N at HQ1 HQ0 hN
  have HB := Lib.hid hB; clear hB
  have HN := Lib.hid hN; clear hN
  have HS := Lib.hid hs; clear hs
  have HL := Lib.hid hl; clear hl
  clear hn0 hn1 hn2
  have c1 := fun w L => right_any B N w L
  cases h : rightI B N
  · rw [h] at c1
    have HQ := HQ0 h
    clear HQ0 HQ1
    have C1 := Lib.hid c1; clear c1
    have H := Lib.hid h; clear h
    go_enter Tryd.func51, Tryd.ntmps51
    go_wp2_with fail
    go_loop [4, 15] (fun n i => ∃ k : Nat, k ≤ 4 ∧ i = .int .i64 k ∧ n = .int .i64 (numL (s.data.toList.take k))) (fun _ i => 4 - (intOf i).toNat)
    case atStart => exact ⟨0, Nat.zero_le _, rfl, rfl⟩
    case round =>
      obtain ⟨k, hk, rfl, rfl⟩ := hrel
      by_cases hlt : k < 4
      · have hks : k < s.size := by omega
        obtain ⟨hp0, hp1⟩ := numL_part s.data.toList k (by omega)
        have HN := Lib.hid (numL_take s.data.toList k (by rw [HL.out]; exact hlt))
        go_wp2_with fail
        go_round
        case rel =>
          refine ⟨k + 1, by omega, by go_num, ?_⟩
          rw [wrap_byte, HN.out, i64_byte _ _ hp0 hp1]; rfl
        case measure => simp [intOf]; omega
      · have hk4 : s.data.toList.take k = s.data.toList := List.take_of_length_le (by rw [HL.out]; omega)
        rw [hk4]
        have HK := Lib.hid hk4; clear hk4
        have hB := HB.out
        have hN := HN.out
        generalize numL s.data.toList = M at hB hN
        go_wp2_with fail
        refine (C1.out _ ((L.alloc _).alloc _)).mono ?_
        rintro e w1 ⟨rfl, hb1⟩
        obtain ⟨hc, hf⟩ := bcell hb1
        have hz : w.heap.size + 1 < w1.heap.size := by have := hb1.size; simp at this; omega
        have q0 : w1.cell? ⟨w.heap.size, 0, none⟩ = some (.bool false) := (hc _ _ (by simp; omega)).trans (by simp [go_sem])
        have q1 : w1.cell? ⟨w.heap.size, 1, none⟩ = some (.int .i64 0) := (hc _ _ (by simp; omega)).trans (by simp [go_sem])
        go_wp2_with fail
        exact bodyPost_ret (v := .tuple #[.agg #[.bool false, .int .i64 0], .int .i64 2]) (by simp [results, Tryd.results51, go_sem, q0, q1]) rfl (HQ.out _ _ ((((Joins.below_alloc2 _ _ _).trans (hb1.mono (by simp; omega))).setCell (by simp) _).setCell (by simp) _))
  · rw [h] at c1
    have HQ := HQ1 h
    clear HQ0 HQ1
    have C1 := Lib.hid c1; clear c1
    have H := Lib.hid h; clear h
    go_enter Tryd.func51, Tryd.ntmps51
    go_wp2_with fail
    go_loop [4, 15] (fun n i => ∃ k : Nat, k ≤ 4 ∧ i = .int .i64 k ∧ n = .int .i64 (numL (s.data.toList.take k))) (fun _ i => 4 - (intOf i).toNat)
    case atStart => exact ⟨0, Nat.zero_le _, rfl, rfl⟩
    case round =>
      obtain ⟨k, hk, rfl, rfl⟩ := hrel
      by_cases hlt : k < 4
      · have hks : k < s.size := by omega
        obtain ⟨hp0, hp1⟩ := numL_part s.data.toList k (by omega)
        have HN := Lib.hid (numL_take s.data.toList k (by rw [HL.out]; exact hlt))
        go_wp2_with fail
        go_round
        case rel =>
          refine ⟨k + 1, by omega, by go_num, ?_⟩
          rw [wrap_byte, HN.out, i64_byte _ _ hp0 hp1]; rfl
        case measure => simp [intOf]; omega
      · have hk4 : s.data.toList.take k = s.data.toList := List.take_of_length_le (by rw [HL.out]; omega)
        rw [hk4]
        have HK := Lib.hid hk4; clear hk4
        have hB := HB.out
        have hN := HN.out
        generalize numL s.data.toList = M at hB hN
        go_wp2_with fail
        refine (C1.out _ ((L.alloc _).alloc _)).mono ?_
        rintro e w1 ⟨rfl, hb1⟩
        obtain ⟨hc, hf⟩ := bcell hb1
        have hz : w.heap.size + 1 < w1.heap.size := by have := hb1.size; simp at this; omega
        have q0 : w1.cell? ⟨w.heap.size, 0, none⟩ = some (.bool false) := (hc _ _ (by simp; omega)).trans (by simp [go_sem])
        have q1 : w1.cell? ⟨w.heap.size, 1, none⟩ = some (.int .i64 0) := (hc _ _ (by simp; omega)).trans (by simp [go_sem])
        go_wp2_with fail
        exact bodyPost_ret (v := .tuple #[.agg #[.bool B, .int .i64 N], .int .i64 0]) (by simp [results, Tryd.results51, go_sem, q0, q1]) rfl (HQ.out _ _ ((((Joins.below_alloc2 _ _ _).trans (hb1.mono (by simp; omega))).setCell (by simp) _).setCell (by simp) _))

theorem parse_any (s : ByteArray) (w : World) (L : Laid w) (hm : s.size ≤ maxLen) :
    Calls Tryd.prog 51 #[.string s] w (ParsePost s.data.toList w) := by
  by_cases h1 : s.size < 4
  · exact parse_short s w h1
  by_cases h2 : 4 < s.size
  · exact parse_long s w h2 hm
  exact parse_four s w L (by omega)

end Go.Proofs.YtgolnklgbhilaaaDoor

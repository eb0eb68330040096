/-
  What the law FragWhole asks: what was put together of which pieces: plain mathematics.
-/
import Derived.Test.YtggeojjiongbbaaFragNewMath
import Derived.Test.YtggeojjiongbbaaFragWholeP
import Derived.Test.YtggeojjiongbbaaFragTrip
namespace Go.Proofs.Ytggeojjiongbbaa
open Go.RowKit

/-- The parts, of the pieces that were put. -/
def partL (x : ByteArray) (N : Nat) (hs : List Bool) : List ByteArray := hs.mapIdx fun k b => if b = true then cutT x k N else ⟨#[]⟩
def gW (g0 : Gt) (x : ByteArray) (N : Nat) (hs : List Bool) : Gt := if hs.any id = true then ⟨2, 9, partL x N hs⟩ else g0
theorem part_length (x : ByteArray) (N : Nat) (hs : List Bool) : (partL x N hs).length = hs.length := by unfold partL; simp
theorem part_at (x : ByteArray) (N : Nat) (hs : List Bool) (k : Nat) (b : Bool) (h : hs[k]? = some b) : (partL x N hs)[k]? = some (if b = true then cutT x k N else ⟨#[]⟩) := by
  unfold partL; rw [List.getElem?_mapIdx, h]; rfl
theorem part_set (x : ByteArray) (N : Nat) (hs : List Bool) (k : Nat) (hk : k < hs.length) : partL x N (hs.set k true) = (partL x N hs).set k (cutT x k N) := by
  apply List.ext_getElem?
  intro j
  rw [List.getElem?_set]
  by_cases e : k = j
  · subst e
    rw [if_pos rfl, if_pos (by rw [part_length]; exact hk), part_at x N _ k true (by rw [List.getElem?_set, if_pos rfl, if_pos hk]), if_pos rfl]
  · rw [if_neg e]
    unfold partL
    rw [List.getElem?_mapIdx, List.getElem?_mapIdx, List.getElem?_set, if_neg e]
theorem part_blank (x : ByteArray) (N : Nat) (hs : List Bool) (h : ¬ hs.any id = true) : partL x N hs = blank hs.length := by
  apply List.ext_getElem?
  intro j
  by_cases hj : j < hs.length
  · rw [blank_at _ _ hj, part_at x N hs j false ?_]
    · rfl
    · have hf : hs[j] ≠ true := fun e => h (List.any_eq_true.2 ⟨hs[j], List.getElem_mem hj, e⟩)
      rw [List.getElem?_eq_getElem hj]
      congr 1
      simpa using hf
  · rw [List.getElem?_eq_none (by rw [part_length]; omega), List.getElem?_eq_none (by rw [blank_length]; omega)]
theorem any_set (hs : List Bool) (k : Nat) (hk : k < hs.length) : (hs.set k true).any id = true :=
  List.any_eq_true.2 ⟨true, List.mem_iff_getElem?.2 ⟨k, by rw [List.getElem?_set, if_pos rfl, if_pos hk]⟩, rfl⟩

section
variable {x : ByteArray} {N : Nat} (hsp : splitB 9 x.size (N : Int) = true)
include hsp
theorem cut_some {k : Nat} (hk : k < countP x.size N) : 1 ≤ (cutT x k N).size ∧ (cutT x k N).size ≤ 16 := by
  have h := (rightP_iff _).1 (piece_right hsp hk)
  exact ⟨h.2.2.2.1, h.2.2.2.2⟩
theorem cut_full {k : Nat} (hk : k < countP x.size N) : fullB (cutT x k N) = true := (full_iff _).2 (cut_some hsp hk).1
theorem count_20 : countP x.size N ≤ 20 := by
  have h := (splitB_iff _ _ _).1 hsp
  have := countP_le x.size N (by omega) (by omega)
  omega
theorem count_1 : 1 ≤ countP x.size N := by
  have h := (splitB_iff _ _ _).1 hsp
  exact countP_pos x.size N (by omega) (by omega)
theorem gW_may {hs : List Bool} (hl : hs.length = countP x.size N) (ha : hs.any id = true) : mayG ⟨2, 9, partL x N hs⟩ = true := by
  unfold mayG mayB
  rw [if_neg (by simp)]
  simp only [Bool.and_eq_true, decide_eq_true_eq, List.all_eq_true, List.any_eq_true]
  refine ⟨fun d hd => ?_, by decide, by decide, by rw [part_length, hl]; exact count_20 hsp, ?_⟩
  · obtain ⟨k, hk⟩ := List.mem_iff_getElem?.1 hd
    have hlt : k < hs.length := by have := (List.getElem?_eq_some_iff.1 hk).1; rwa [part_length] at this
    rw [part_at x N hs k hs[k] (List.getElem?_eq_getElem hlt)] at hk
    injection hk with hk
    rw [← hk]
    split
    · exact (cut_some hsp (by omega)).2
    · decide
  · obtain ⟨b, hb, e⟩ := List.any_eq_true.1 ha
    obtain ⟨k, hk⟩ := List.mem_iff_getElem?.1 hb
    have hlt := (List.getElem?_eq_some_iff.1 hk).1
    have e' : b = true := e
    subst e'
    exact ⟨_, List.mem_iff_getElem?.2 ⟨k, part_at x N hs k true hk⟩, by rw [if_pos rfl]; exact cut_full hsp (by omega)⟩
theorem wh_put {g0 : Gt} (h0 : mayG g0 = true) (hi : g0.i ≤ 2) (hq : g0.i = 2 → g0.q ≤ 8) {hs : List Bool} (hl : hs.length = countP x.size N) {k : Nat} (hk : k < countP x.size N) :
    putG (gW g0 x N hs) 2 (pieceP 9 x N k) = gW g0 x N (hs.set k true) ∧ putE (gW g0 x N hs) 2 (pieceP 9 x N k) = 0 := by
  have hp : rightP (pieceP 9 x N k) = true := piece_right hsp hk
  have hm : mayG (gW g0 x N hs) = true := by
    unfold gW; split
    · rename_i ha; exact gW_may hsp hl ha
    · exact h0
  refine ⟨?_, put_ok hm hp (by decide)⟩
  have hr : gW g0 x N (hs.set k true) = ⟨2, 9, (partL x N hs).set k (cutT x k N)⟩ := by
    unfold gW; rw [if_pos (any_set hs k (by omega)), part_set x N hs k (by omega)]
  rw [hr]
  by_cases ha : hs.any id = true
  · have e : gW g0 x N hs = ⟨2, 9, partL x N hs⟩ := by unfold gW; rw [if_pos ha]
    rw [e] at hm ⊢
    have ok : okG ⟨2, 9, partL x N hs⟩ 2 (pieceP 9 x N k) = true := by unfold okG; rw [hm, hp]; decide
    have hkept : keptB ⟨2, 9, partL x N hs⟩ 2 (pieceP 9 x N k) = true := by
      unfold keptB pieceP
      simp only [part_length, hl]
      simp
    have hn : newerB 2 9 2 (pieceP 9 x N k).seq = false := by show newerB 2 9 2 9 = false; decide
    unfold putG basisL
    rw [ok, hkept]
    simp only [hn, if_true]
    rw [if_neg Bool.false_ne_true]
    have es : (pieceP 9 x N k).seq = 9 := rfl
    have ea : (pieceP 9 x N k).at'.toNat = k := Int.toNat_natCast k
    have eb : (pieceP 9 x N k).bytes = cutT x k N := rfl
    rw [es, ea, eb]
    congr 1
    unfold putAt
    by_cases hb : hs[k]? = some true
    · have h1 := part_at x N hs k true hb
      rw [if_pos rfl] at h1
      have h2 : (partL x N hs).getD k ⟨#[]⟩ = cutT x k N := by rw [List.getD_eq_getElem?_getD, h1]; rfl
      rw [h2, if_pos (cut_full hsp hk)]
      apply List.ext_getElem?
      intro j
      rw [List.getElem?_set]
      by_cases ej : k = j
      · subst ej; rw [if_pos rfl, if_pos (by rw [part_length]; omega), h1]
      · rw [if_neg ej]
    · have h1 : hs[k]? = some false := by
        rw [List.getElem?_eq_getElem (by omega)] at hb ⊢
        congr 1
        simpa using hb
      have h2 : (partL x N hs).getD k ⟨#[]⟩ = ⟨#[]⟩ := by rw [List.getD_eq_getElem?_getD, part_at x N hs k false h1]; rfl
      rw [h2, full_empty, if_neg Bool.false_ne_true]
  · have e : gW g0 x N hs = g0 := by unfold gW; rw [if_neg ha]
    rw [e]
    have hkept : keptB g0 2 (pieceP 9 x N k) = false := by
      unfold keptB
      rw [Bool.and_eq_false_iff]
      by_cases h2 : g0.i = 2
      · right
        have := hq h2
        rw [Bool.and_eq_false_iff]
        left
        have es : (pieceP 9 x N k).seq = 9 := rfl
        rw [es]
        exact decide_eq_false (by omega)
      · left; exact decide_eq_false h2
    have hn : newerB g0.i g0.q 2 (pieceP 9 x N k).seq = false := by
      unfold newerB
      have es : (pieceP 9 x N k).seq = 9 := rfl
      rw [es, Bool.or_eq_false_iff, Bool.and_eq_false_iff]
      refine ⟨decide_eq_false (by omega), ?_⟩
      by_cases h2 : g0.i = 2
      · right; have := hq h2; exact decide_eq_false (by omega)
      · left; exact decide_eq_false h2
    rw [put_fresh h0 hp (by decide) hn hkept, part_blank x N hs ha]
    have es : (pieceP 9 x N k).seq = 9 := rfl
    rw [es]
    congr 1
    unfold oneL
    have ea : (pieceP 9 x N k).at'.toNat = k := Int.toNat_natCast k
    have eo : (pieceP 9 x N k).of'.toNat = countP x.size N := Int.toNat_natCast _
    rw [ea, eo, hl]
    rfl
theorem wh_whole {g0 : Gt} {hs : List Bool} (hl : hs.length = countP x.size N) (ha : hs.any id = true) :
    wholeB (gW g0 x N hs).i (gW g0 x N hs).q (gW g0 x N hs).l = decide (hs.count true = countP x.size N) ∧ (hs.count true = countP x.size N → wholeT (gW g0 x N hs).i (gW g0 x N hs).q (gW g0 x N hs).l = x) := by
  have e : gW g0 x N hs = ⟨2, 9, partL x N hs⟩ := by unfold gW; rw [if_pos ha]
  have hm := gW_may hsp hl ha
  have hM := count_1 hsp
  rw [e]
  have hall : (partL x N hs).all fullB = true ↔ hs.count true = countP x.size N := by
    rw [← hl, List.count_eq_length, List.all_eq_true]
    constructor
    · intro h b hb
      obtain ⟨k, hk⟩ := List.mem_iff_getElem?.1 hb
      cases b with
      | true => rfl
      | false =>
        have h1 := part_at x N hs k false hk
        have h2 := h _ (List.mem_iff_getElem?.2 ⟨k, h1⟩)
        rw [if_neg Bool.false_ne_true, full_empty] at h2
        cases h2
    · intro h d hd
      obtain ⟨k, hk⟩ := List.mem_iff_getElem?.1 hd
      have hlt : k < hs.length := by have := (List.getElem?_eq_some_iff.1 hk).1; rwa [part_length] at this
      have hb := h hs[k] (List.getElem_mem hlt)
      rw [part_at x N hs k true (by rw [List.getElem?_eq_getElem hlt, ← hb]), if_pos rfl] at hk
      injection hk with hk
      rw [← hk]
      exact cut_full hsp (by omega)
  have hw : wholeB 2 9 (partL x N hs) = (partL x N hs).all fullB := by
    unfold wholeB
    have : mayB 2 9 (partL x N hs) = true := hm
    rw [this, part_length, hl, decide_eq_true (by omega : 0 < countP x.size N)]
    simp
  refine ⟨?_, fun hc => ?_⟩
  · show wholeB 2 9 (partL x N hs) = _
    rw [hw, Bool.eq_iff_iff, hall, decide_eq_true_eq]
  · show wholeT 2 9 (partL x N hs) = x
    unfold wholeT
    rw [hw, hall.2 hc, if_pos rfl]
    have hT : ∀ k, k ≤ countP x.size N → joinT ((partL x N hs).take k) = upK x N k := by
      intro k
      induction k with
      | zero => intro _; rw [upK_zero]; rfl
      | succ k ih =>
        intro hk
        have hlt : k < hs.length := by omega
        have hb : hs[k]? = some true := by
          rw [List.getElem?_eq_getElem hlt]
          congr 1
          rw [← hl, List.count_eq_length] at hc
          exact (hc _ (List.getElem_mem hlt)).symm
        rw [join_take (part_at x N hs k true hb), ih (by omega), if_pos rfl, upK_succ]
    have h1 := hT (countP x.size N) (Nat.le_refl _)
    have h2 := (splitB_iff _ _ _).1 hsp
    rw [List.take_of_length_le (by rw [part_length]; omega)] at h1
    rw [h1]
    exact upK_all x N (by omega)
theorem wh_old {g0 : Gt} {hs : List Bool} (hl : hs.length = countP x.size N) (ha : hs.any id = true) (r : Raw) :
    putG (gW g0 x N hs) (rawI r) (rawP r) = gW g0 x N hs ∧ putE (gW g0 x N hs) (rawI r) (rawP r) = 0 := by
  have e : gW g0 x N hs = ⟨2, 9, partL x N hs⟩ := by unfold gW; rw [if_pos ha]
  have hm := gW_may hsp hl ha
  rw [e]
  have hi := raw_inc r
  have hq := raw_seq r
  have hs' : smallB (rawI r) = true := (smallB_iff _).2 (by omega)
  refine ⟨put_older hm (raw_right r) hs' ?_, put_ok hm (raw_right r) hs'⟩
  unfold newerB
  rw [Bool.or_eq_true, Bool.and_eq_true]
  by_cases h2 : rawI r = 2
  · right; exact ⟨decide_eq_true (by show (2 : Int) = _; omega), decide_eq_true (by show _ < (9 : Int); omega)⟩
  · left; exact decide_eq_true (by show _ < (2 : Int); omega)
end
/-- The rows gather nothing of 9 or more. -/
theorem put_seq {g : Gt} {inc : Int} {p : Pc} {m : Int} (hg : g.q ≤ m) (hi : p.seq ≤ m) : (putG g inc p).q ≤ m := by
  unfold putG
  split
  · split
    · exact hg
    · exact hi
  · exact hg
theorem gat_seq (l : List Raw) : (gatL l).q ≤ 8 := by
  suffices h : ∀ (l : List Raw) (g : Gt), g.q ≤ 8 → (l.foldl (fun g r => putG g (rawI r) (rawP r)) g).q ≤ 8 from h l emptyG (by unfold emptyG; simp)
  intro l
  induction l with
  | nil => intro g h; exact h
  | cons r l ih => intro g h; exact ih _ (put_seq h (by have := raw_seq r; omega))

end Go.Proofs.Ytggeojjiongbbaa

/-
  The insertion of messages one by one, as the library's sort carries it out, and the document's order: plain mathematics.
-/
import Derived.Test.YtehajmockicilaaDoorMsgSort
import Derived.Shelf.GgSortFunc.SmallK
import Derived.Shelf.SlSortFuncK.RowK2
namespace Go.Proofs.YtehajmockicilaaDoor
open Go.RowKit

instance : Inhabited Msg := ⟨zeroM⟩

def insAll (l : List Msg) : List Msg := l.foldl (fun out m => insM m out) []
theorem insAll_snoc (l : List Msg) (m : Msg) : insAll (l ++ [m]) = insM m (insAll l) := by
  unfold insAll; rw [List.foldl_append]; rfl
theorem insAll_length (l : List Msg) : (insAll l).length = l.length := by
  suffices h : ∀ (l out : List Msg), (l.foldl (fun out m => insM m out) out).length = out.length + l.length by
    have := h l []
    simpa [insAll] using this
  intro l
  induction l with
  | nil => intro out; simp
  | cons m l ih =>
    intro out
    rw [List.foldl_cons, ih, insM_length, List.length_cons]
    omega
theorem insAll_take (l : List Msg) (k : Nat) (m : Msg) (hm : l[k]? = some m) : insAll (l.take (k + 1)) = insM m (insAll (l.take k)) := by
  obtain ⟨hk, he⟩ := List.getElem?_eq_some_iff.1 hm
  rw [List.take_succ_eq_append_getElem hk, he, insAll_snoc]
def keptL (l : List Msg) : List Msg := l.filter fun m => rightI m.ext m.n
theorem sortL_kept (l : List Msg) : sortL l = insAll (keptL l) := by
  suffices h : ∀ (l out : List Msg), l.foldl (fun out m => if rightI m.ext m.n = true then insM m out else out) out = (keptL l).foldl (fun out m => insM m out) out from h l []
  intro l
  induction l with
  | nil => intro out; rfl
  | cons m l ih =>
    intro out
    rw [List.foldl_cons, ih]
    unfold keptL
    rw [List.filter_cons]
    split <;> rfl
theorem kept_take (l : List Msg) (k : Nat) (m : Msg) (hm : l[k]? = some m) : keptL (l.take (k + 1)) = if rightI m.ext m.n = true then keptL (l.take k) ++ [m] else keptL (l.take k) := by
  obtain ⟨hk, he⟩ := List.getElem?_eq_some_iff.1 hm
  rw [List.take_succ_eq_append_getElem hk, he]
  unfold keptL
  rw [List.filter_append, List.filter_cons]
  split <;> simp
theorem kept_length (l : List Msg) : (keptL l).length ≤ l.length := List.length_filter_le _ _

/-- The row while message m goes down from the end of what is in order: it stands at j. -/
def rowL (out : List Msg) (m : Msg) (j : Nat) (rest : List Msg) : List Msg := out.take j ++ m :: (out.drop j ++ rest)
theorem rowL_length (out : List Msg) (m : Msg) (j : Nat) (rest : List Msg) : (rowL out m j rest).length = out.length + 1 + rest.length := by
  unfold rowL
  simp only [List.length_append, List.length_cons, List.length_take, List.length_drop]
  omega
theorem rowL_at (out : List Msg) (m : Msg) (j : Nat) (rest : List Msg) (hj : j ≤ out.length) : (rowL out m j rest)[j]? = some m := by
  unfold rowL
  rw [List.getElem?_append_right (by rw [List.length_take]; omega), List.length_take, Nat.min_eq_left hj, Nat.sub_self]
  rfl
theorem rowL_below (out : List Msg) (m : Msg) (j : Nat) (rest : List Msg) (hj : j < out.length) : (rowL out m (j + 1) rest)[j]? = some (out.getD j zeroM) := by
  unfold rowL
  rw [List.getElem?_append_left (by rw [List.length_take]; omega), List.getElem?_take_of_lt (by omega), List.getD_eq_getElem?_getD, List.getElem?_eq_getElem hj]
  rfl
theorem rowL_start (l : List Msg) (i : Nat) (m : Msg) (hm : l[i]? = some m) : rowL (insAll (l.take i)) m i (l.drop (i + 1)) = insAll (l.take i) ++ l.drop i := by
  obtain ⟨hk, he⟩ := List.getElem?_eq_some_iff.1 hm
  have hl : (insAll (l.take i)).length = i := by rw [insAll_length, List.length_take]; omega
  unfold rowL
  rw [List.take_of_length_le (by omega), List.drop_of_length_le (by omega), List.nil_append, List.drop_eq_getElem_cons hk, he]
theorem rowL_end (out : List Msg) (m : Msg) (j : Nat) (rest : List Msg) (h : placeM m out out.length = j) : rowL out m j rest = insM m out ++ rest := by
  unfold rowL insM
  rw [h]
  simp
theorem ext_msgs {a b : Array Msg} (hs : a.size = b.size) (h : ∀ t, t < a.size → a[t]! = b[t]!) : a = b :=
  Array.ext hs fun t h1 h2 => by have := h t h1; rwa [getElem!_pos a t h1, getElem!_pos b t h2] at this
theorem swap_list (A C : List Msg) (x m : Msg) : Go.Sort.swp (A ++ x :: m :: C).toArray (A.length + 1) A.length = (A ++ m :: x :: C).toArray := by
  have s1 : (A ++ x :: m :: C).toArray.size = A.length + (C.length + 2) := by simp
  have s2 : (A ++ m :: x :: C).toArray.size = A.length + (C.length + 2) := by simp
  have g : ∀ (L : List Msg) (t : Nat), L.toArray[t]! = (L[t]?).getD zeroM := fun L t => by
    rw [List.getElem!_toArray, List.getElem!_eq_getElem?_getD]; rfl
  apply ext_msgs
  · rw [Go.Sort.size_swp, s1, s2]
  intro t ht
  rw [Go.Sort.size_swp, s1] at ht
  rw [Go.Sort.swp_get _ (by rw [s1]; omega) (by rw [s1]; omega)]
  simp only [g]
  by_cases h0 : t = A.length
  · subst h0
    rw [if_pos rfl, List.getElem?_append_right (by omega), List.getElem?_append_right (by omega)]
    simp
  · rw [if_neg h0]
    by_cases h1 : t = A.length + 1
    · subst h1
      rw [if_pos rfl, List.getElem?_append_right (by omega), List.getElem?_append_right (by omega)]
      simp
    · rw [if_neg h1]
      by_cases h2 : t < A.length
      · rw [List.getElem?_append_left h2, List.getElem?_append_left h2]
      · rw [List.getElem?_append_right (by omega), List.getElem?_append_right (by omega)]
        obtain ⟨d, hd⟩ : ∃ d, t - A.length = d + 2 := ⟨t - A.length - 2, by omega⟩
        rw [hd]
        rfl
theorem rowL_swap (out : List Msg) (m : Msg) (j : Nat) (rest : List Msg) (hj : j < out.length) : Go.Sort.swp (rowL out m (j + 1) rest).toArray (j + 1) j = (rowL out m j rest).toArray := by
  have e1 : out.take (j + 1) = out.take j ++ [out[j]] := List.take_succ_eq_append_getElem hj
  have e2 : out.drop j = out[j] :: out.drop (j + 1) := List.drop_eq_getElem_cons hj
  have hl : (out.take j).length = j := by rw [List.length_take]; omega
  have h := swap_list (out.take j) (out.drop (j + 1) ++ rest) out[j] m
  rw [hl] at h
  unfold rowL
  rw [e1, e2]
  simp only [List.append_assoc, List.cons_append, List.nil_append] at h ⊢
  exact h

end Go.Proofs.YtehajmockicilaaDoor

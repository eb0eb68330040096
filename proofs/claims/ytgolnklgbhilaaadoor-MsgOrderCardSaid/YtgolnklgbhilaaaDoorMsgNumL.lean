/-
  The messages that the laws on order make of raw numbers: numbered as they come.
-/
import Derived.Test.YtgolnklgbhilaaaDoorMsgRawL
import Derived.Test.YtgolnklgbhilaaaDoorMsgOrd
namespace Go.Proofs.YtgolnklgbhilaaaDoor
open Go.RowKit

/-- A raw message with another Number. -/
def numbered (m : Msg) (i : Int) : Msg := ⟨m.ext, m.n, m.sender, m.inc, m.seq, i, m.data⟩
def rowN (l : List Raw) : List Msg := l.mapIdx fun i r => numbered (rmsg ⟨#[]⟩ r) ((i : Int) + 1)
theorem rowN_length (l : List Raw) : (rowN l).length = l.length := by unfold rowN; rw [List.length_mapIdx]
theorem rowN_take (l : List Raw) (k : Nat) (r : Raw) (h : l[k]? = some r) : rowN (l.take (k + 1)) = rowN (l.take k) ++ [numbered (rmsg ⟨#[]⟩ r) ((k : Int) + 1)] := by
  obtain ⟨hk, he⟩ := List.getElem?_eq_some_iff.1 h
  unfold rowN
  rw [List.take_succ_eq_append_getElem hk, he, List.mapIdx_concat, List.length_take, Nat.min_eq_left (by omega)]
theorem rowN_at (l : List Raw) (j : Nat) (m : Msg) (h : (rowN l)[j]? = some m) : ∃ r, m = numbered (rmsg ⟨#[]⟩ r) ((j : Int) + 1) := by
  unfold rowN at h
  rw [List.getElem?_mapIdx] at h
  cases hr : l[j]? with
  | none => rw [hr] at h; cases h
  | some r => rw [hr] at h; exact ⟨r, by simpa using h.symm⟩
theorem rowN_small (l : List Raw) : ∀ (j : Nat) (m : Msg), (rowN l)[j]? = some m → m.data.size ≤ 281474976710656 := fun j m h => by
  obtain ⟨r, rfl⟩ := rowN_at l j m h
  have := rightM_data (rmsg_right ⟨#[]⟩ r)
  show (rmsg ⟨#[]⟩ r).data.size ≤ _
  omega
theorem rowN_good (l : List Raw) : Good (rowN l) := by
  refine ⟨fun m hm => ?_, ?_⟩
  · obtain ⟨j, hj, rfl⟩ := List.getElem_of_mem hm
    obtain ⟨r, e⟩ := rowN_at l j _ (List.getElem?_eq_getElem hj)
    rw [e]
    exact ((rightM_iff _).1 (rmsg_right ⟨#[]⟩ r)).1
  · rw [List.pairwise_iff_getElem]
    intro i j hi hj hij
    obtain ⟨r, e⟩ := rowN_at l i _ (List.getElem?_eq_getElem hi)
    obtain ⟨s, e2⟩ := rowN_at l j _ (List.getElem?_eq_getElem hj)
    rw [e, e2]
    show (i : Int) + 1 ≠ (j : Int) + 1
    omega
theorem small_perm {l l' : List Msg} (hp : l'.Perm l) (h : ∀ (j : Nat) (m : Msg), l[j]? = some m → m.data.size ≤ 281474976710656) : ∀ (j : Nat) (m : Msg), l'[j]? = some m → m.data.size ≤ 281474976710656 := fun j m hm => by
  obtain ⟨i, hi, e⟩ := List.getElem_of_mem (hp.subset (List.mem_of_getElem? hm))
  exact h i m (by rw [← e]; exact List.getElem?_eq_getElem hi)
theorem small_sub {l l' : List Msg} (hs : ∀ m ∈ l', m ∈ l) (h : ∀ (j : Nat) (m : Msg), l[j]? = some m → m.data.size ≤ 281474976710656) : ∀ (j : Nat) (m : Msg), l'[j]? = some m → m.data.size ≤ 281474976710656 := fun j m hm => by
  obtain ⟨i, hi, e⟩ := List.getElem_of_mem (hs m (List.mem_of_getElem? hm))
  exact h i m (by rw [← e]; exact List.getElem?_eq_getElem hi)

end Go.Proofs.YtgolnklgbhilaaaDoor

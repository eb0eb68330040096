/-
  Messages of unlike senders, sorted: plain mathematics.
-/
import Derived.Shelf.GgSortFunc.SmallK
import Derived.Shelf.SlSortFuncK.RowK2
import Derived.Test.YtmmbnjkdknnidaaGreatDoorMsgRowsV
namespace Go.Proofs.YtmmbnjkdknnidaaGreatDoor
open Go.RowKit
instance : Inhabited Msg := ⟨zeroM⟩
def insAll (l : List Msg) : List Msg := l.foldl (fun out m => insM m out) []
theorem insAll_snoc (l : List Msg) (m : Msg) : insAll (l ++ [m]) = insM m (insAll l) := by
 unfold insAll; rw [List.foldl_append]; rfl
theorem insAll_take (l : List Msg) (k : Nat) (m : Msg) (hm : l[k]? = some m) : insAll (l.take (k + 1)) = insM m (insAll (l.take k)) := by
 obtain ⟨hk, he⟩ := List.getElem?_eq_some_iff.1 hm
 rw [List.take_succ_eq_append_getElem hk, he, insAll_snoc]
def keptL (l : List Msg) : List Msg := l.filter fun m => rightI m.ext m.n
theorem sortL_kept (l : List Msg) : sortL l = insAll (keptL l) := by
 suffices h : ∀ (l out : List Msg), l.foldl (fun out m => if rightI m.ext m.n = true then insM m out else out) out = (keptL l).foldl (fun out m => insM m out) out from h l []
 intro l
 induction l with
 | nil => intro out; rfl
 | cons m l ih =>
  intro out
  rw [List.foldl_cons, ih]
  unfold keptL
  rw [List.filter_cons]
  split <;> rfl
def goodI (m : Msg) : Prop := rightI m.ext m.n = true
abbrev LT (a b : Msg) : Prop := lessM a b = true
theorem keyI_inj {b c : Bool} {n k : Int} (h : keyI b n = keyI c k) : b = c ∧ n = k := by
 cases b <;> cases c <;> simp only [keyI, if_true, if_false, Bool.false_eq_true] at h <;> first | exact ⟨rfl, by omega⟩ | (exfalso; omega)
theorem lessM_iff {a b : Msg} (ha : goodI a) (hb : goodI b) : lessM a b = true ↔ keyI a.ext a.n < keyI b.ext b.n ∨ (keyI a.ext a.n = keyI b.ext b.n ∧ (a.sender < b.sender ∨ (a.sender = b.sender ∧ a.number < b.number))) := by
 unfold lessM
 by_cases h : sameId a b = true
 ·rw [if_pos h]
  have e : a.ext = b.ext ∧ a.n = b.n := by unfold sameId at h; simpa using h
  rw [e.1, e.2]
  split
  ·simp; omega
  ·simp; omega
 ·rw [if_neg h]
  have hne : keyI a.ext a.n ≠ keyI b.ext b.n := fun e => by
   obtain ⟨e1, e2⟩ := keyI_inj e
   exact h (by unfold sameId; simp [e1, e2])
  unfold lessI
  rw [show rightI a.ext a.n = true from ha, show rightI b.ext b.n = true from hb]
  simp
  omega
theorem lt_trans {a b c : Msg} (ha : goodI a) (hb : goodI b) (hc : goodI c) (h1 : LT a b) (h2 : LT b c) : LT a c := by
 have e1 := (lessM_iff ha hb).1 h1
 have e2 := (lessM_iff hb hc).1 h2
 exact (lessM_iff ha hc).2 (by omega)
theorem place_spec (m : Msg) (out : List Msg) : ∀ k, (∀ i, placeM m out k ≤ i → i < k → LT m (out.getD i zeroM)) ∧ (placeM m out k = 0 ∨ lessM m (out.getD (placeM m out k - 1) zeroM) = false)
 | 0 => ⟨fun i _ h => absurd h (by omega), .inl rfl⟩
 | k + 1 => by
  obtain ⟨h1, h2⟩ := place_spec m out k
  unfold placeM
  by_cases h : lessM m (out.getD k zeroM) = true
  ·rw [if_pos h]
   refine ⟨fun i hi hk => ?_, h2⟩
   rcases Nat.lt_or_ge i k with h3 | h3
   ·exact h1 i hi h3
   ·rw [show i = k by omega]; exact h
  ·rw [if_neg h]
   exact ⟨fun i hi hk => absurd hk (by omega), .inr (by simpa using h)⟩
theorem insM_perm (m : Msg) (out : List Msg) : (insM m out).Perm (m :: out) := by
 unfold insM
 rw [List.append_assoc, List.singleton_append]
 refine List.perm_middle.trans ?_
 rw [List.take_append_drop]
theorem lt_totalS {a b : Msg} (ha : goodI a) (hb : goodI b) (hn : a.sender ≠ b.sender) (h : lessM a b = false) : LT b a := by
 have e1 : ¬ _ := fun e => by rw [(lessM_iff ha hb).2 e] at h; cases h
 exact (lessM_iff hb ha).2 (by omega)
theorem insM_sortedS (m : Msg) (out : List Msg) (hm : goodI m) (hg : ∀ x ∈ out, goodI x) (hn : ∀ x ∈ out, x.sender ≠ m.sender) (hs : out.Pairwise LT) : (insM m out).Pairwise LT := by
 obtain ⟨h1, h2⟩ := place_spec m out out.length
 have hle := placeM_le m out out.length
 generalize hp : placeM m out out.length = p at *
 have hgt : ∀ i, i < out.length → out.getD i zeroM ∈ out := fun i hi => by
  rw [List.getD_eq_getElem?_getD, List.getElem?_eq_getElem hi]; exact List.getElem_mem hi
 have hpw : ∀ i j, i < j → j < out.length → LT (out.getD i zeroM) (out.getD j zeroM) := fun i j hij hj => by
  rw [List.getD_eq_getElem?_getD, List.getD_eq_getElem?_getD, List.getElem?_eq_getElem hj, List.getElem?_eq_getElem (by omega)]
  exact List.pairwise_iff_getElem.1 hs i j _ _ hij
 have hlow : ∀ i, i < p → LT (out.getD i zeroM) m := fun i hi => by
  have hl := h2.resolve_left (by omega)
  have hq := lt_totalS hm (hg _ (hgt (p - 1) (by omega))) (fun e => hn _ (hgt (p - 1) (by omega)) e.symm) hl
  rcases Nat.lt_or_ge i (p - 1) with h3 | h3
  ·exact lt_trans (hg _ (hgt i (by omega))) (hg _ (hgt (p - 1) (by omega))) hm (hpw i (p - 1) h3 (by omega)) hq
  ·rw [show i = p - 1 by omega]; exact hq
 unfold insM
 rw [hp, List.append_assoc, List.singleton_append, List.pairwise_append, List.pairwise_cons]
 have hsp : (out.take p ++ out.drop p).Pairwise LT := by rw [List.take_append_drop]; exact hs
 rw [List.pairwise_append] at hsp
 refine ⟨hsp.1, ⟨fun b hb => ?_, hsp.2.1⟩, fun a ha b hb => ?_⟩
 ·obtain ⟨i, hi, rfl⟩ := List.getElem_of_mem hb
  rw [List.length_drop] at hi
  have := h1 (p + i) (by omega) (by omega)
  rw [List.getD_eq_getElem?_getD, List.getElem?_eq_getElem (by omega)] at this
  rw [List.getElem_drop]
  exact this
 ·have ham : LT a m := by
   obtain ⟨i, hi, rfl⟩ := List.getElem_of_mem ha
   rw [List.length_take] at hi
   have := hlow i (by omega)
   rw [List.getD_eq_getElem?_getD, List.getElem?_eq_getElem (by omega)] at this
   rw [List.getElem_take]
   exact this
  rcases List.mem_cons.1 hb with rfl | hb
  ·exact ham
  ·exact hsp.2.2 a ha b hb
def GoodS (l : List Msg) : Prop := (∀ m ∈ l, goodI m) ∧ l.Pairwise fun a b => a.sender ≠ b.sender
theorem GoodS.perm {l l' : List Msg} (h : GoodS l) (hp : l'.Perm l) : GoodS l' :=
 ⟨fun m hm => h.1 m (hp.subset hm), hp.symm.pairwise h.2 (fun hab => fun e => hab e.symm)⟩
theorem insAll_specS (l : List Msg) (h : GoodS l) : ∀ k, k ≤ l.length → (insAll (l.take k)).Pairwise LT ∧ (insAll (l.take k)).Perm (l.take k)
 | 0, _ => ⟨List.Pairwise.nil, List.Perm.refl _⟩
 | k + 1, hk => by
  obtain ⟨h1, h2⟩ := insAll_specS l h k (by omega)
  have hm : l[k]? = some l[k] := List.getElem?_eq_getElem (by omega)
  rw [insAll_take l k _ hm, List.take_succ_eq_append_getElem (by omega)]
  have hg : ∀ x ∈ insAll (l.take k), x ∈ l.take k := fun x hx => h2.subset hx
  refine ⟨insM_sortedS _ _ (h.1 _ (List.getElem_mem _)) (fun x hx => h.1 x (List.mem_of_mem_take (hg x hx))) (fun x hx => ?_) h1, ?_⟩
  ·obtain ⟨i, hi, rfl⟩ := List.getElem_of_mem (hg x hx)
   rw [List.length_take] at hi
   rw [List.getElem_take]
   exact List.pairwise_iff_getElem.1 h.2 i k _ _ (by omega)
  ·refine (insM_perm _ _).trans ?_
   refine ((h2.cons l[k]).trans ?_)
   exact (List.perm_append_singleton _ _).symm
theorem sortL_goodS (l : List Msg) (h : GoodS l) : (sortL l).Pairwise LT ∧ (sortL l).Perm l := by
 have hk : keptL l = l := List.filter_eq_self.2 fun m hm => h.1 m hm
 have := insAll_specS l h l.length (Nat.le_refl _)
 rw [List.take_length] at this
 rw [sortL_kept, hk]
 exact this
end Go.Proofs.YtmmbnjkdknnidaaGreatDoor

/-
  The order of messages of right identifiers: plain mathematics. Sorted, those of unlike numbers stand in one way alone.
-/
import Derived.Test.YtehajmockicilaaDoorMsgIns
namespace Go.Proofs.YtehajmockicilaaDoor
open Go.RowKit

def goodI (m : Msg) : Prop := rightI m.ext m.n = true
abbrev LT (a b : Msg) : Prop := lessM a b = true
theorem keyI_inj {b c : Bool} {n k : Int} (h : keyI b n = keyI c k) : b = c ∧ n = k := by
  cases b <;> cases c <;> simp only [keyI, if_true, if_false, Bool.false_eq_true] at h <;> first | exact ⟨rfl, by omega⟩ | (exfalso; omega)
theorem lessM_iff {a b : Msg} (ha : goodI a) (hb : goodI b) : lessM a b = true ↔ keyI a.ext a.n < keyI b.ext b.n ∨ (keyI a.ext a.n = keyI b.ext b.n ∧ (a.sender < b.sender ∨ (a.sender = b.sender ∧ a.number < b.number))) := by
  unfold lessM
  by_cases h : sameId a b = true
  · rw [if_pos h]
    have e : a.ext = b.ext ∧ a.n = b.n := by unfold sameId at h; simpa using h
    rw [e.1, e.2]
    split
    · simp; omega
    · simp; omega
  · rw [if_neg h]
    have hne : keyI a.ext a.n ≠ keyI b.ext b.n := fun e => by
      obtain ⟨e1, e2⟩ := keyI_inj e
      exact h (by unfold sameId; simp [e1, e2])
    unfold lessI
    rw [show rightI a.ext a.n = true from ha, show rightI b.ext b.n = true from hb]
    simp
    omega
theorem lt_trans {a b c : Msg} (ha : goodI a) (hb : goodI b) (hc : goodI c) (h1 : LT a b) (h2 : LT b c) : LT a c := by
  have e1 := (lessM_iff ha hb).1 h1
  have e2 := (lessM_iff hb hc).1 h2
  exact (lessM_iff ha hc).2 (by omega)
theorem lt_asymm {a b : Msg} (ha : goodI a) (hb : goodI b) (h1 : LT a b) : lessM b a = false := by
  rw [← Bool.not_eq_true]
  intro h2
  have e1 := (lessM_iff ha hb).1 h1
  have e2 := (lessM_iff hb ha).1 h2
  omega
theorem lt_total {a b : Msg} (ha : goodI a) (hb : goodI b) (hn : a.number ≠ b.number) (h : lessM a b = false) : LT b a := by
  have e1 : ¬ _ := fun e => by rw [(lessM_iff ha hb).2 e] at h; cases h
  exact (lessM_iff hb ha).2 (by omega)
theorem lt_unlike {a b : Msg} (ha : goodI a) (h : LT a b) : sameM a b = false := by
  rw [← Bool.not_eq_true, sameM_iff]
  rintro rfl
  have := lt_asymm ha ha h
  have h2 : lessM a a = true := h
  rw [this] at h2
  cases h2

theorem place_spec (m : Msg) (out : List Msg) : ∀ k, (∀ i, placeM m out k ≤ i → i < k → LT m (out.getD i zeroM)) ∧ (placeM m out k = 0 ∨ lessM m (out.getD (placeM m out k - 1) zeroM) = false)
  | 0 => ⟨fun i _ h => absurd h (by omega), .inl rfl⟩
  | k + 1 => by
    obtain ⟨h1, h2⟩ := place_spec m out k
    unfold placeM
    by_cases h : lessM m (out.getD k zeroM) = true
    · rw [if_pos h]
      refine ⟨fun i hi hk => ?_, h2⟩
      rcases Nat.lt_or_ge i k with h3 | h3
      · exact h1 i hi h3
      · rw [show i = k by omega]; exact h
    · rw [if_neg h]
      exact ⟨fun i hi hk => absurd hk (by omega), .inr (by simpa using h)⟩

theorem insM_perm (m : Msg) (out : List Msg) : (insM m out).Perm (m :: out) := by
  unfold insM
  rw [List.append_assoc, List.singleton_append]
  refine List.perm_middle.trans ?_
  rw [List.take_append_drop]
theorem insM_sorted (m : Msg) (out : List Msg) (hm : goodI m) (hg : ∀ x ∈ out, goodI x) (hn : ∀ x ∈ out, x.number ≠ m.number) (hs : out.Pairwise LT) : (insM m out).Pairwise LT := by
  obtain ⟨h1, h2⟩ := place_spec m out out.length
  have hle := placeM_le m out out.length
  generalize hp : placeM m out out.length = p at *
  have hgt : ∀ i, i < out.length → out.getD i zeroM ∈ out := fun i hi => by
    rw [List.getD_eq_getElem?_getD, List.getElem?_eq_getElem hi]; exact List.getElem_mem hi
  have hpw : ∀ i j, i < j → j < out.length → LT (out.getD i zeroM) (out.getD j zeroM) := fun i j hij hj => by
    rw [List.getD_eq_getElem?_getD, List.getD_eq_getElem?_getD, List.getElem?_eq_getElem hj, List.getElem?_eq_getElem (by omega)]
    exact List.pairwise_iff_getElem.1 hs i j _ _ hij
  have hlow : ∀ i, i < p → LT (out.getD i zeroM) m := fun i hi => by
    have hl := h2.resolve_left (by omega)
    have hq := lt_total hm (hg _ (hgt (p - 1) (by omega))) (fun e => hn _ (hgt (p - 1) (by omega)) e.symm) hl
    rcases Nat.lt_or_ge i (p - 1) with h3 | h3
    · exact lt_trans (hg _ (hgt i (by omega))) (hg _ (hgt (p - 1) (by omega))) hm (hpw i (p - 1) h3 (by omega)) hq
    · rw [show i = p - 1 by omega]; exact hq
  unfold insM
  rw [hp, List.append_assoc, List.singleton_append, List.pairwise_append, List.pairwise_cons]
  have hsp : (out.take p ++ out.drop p).Pairwise LT := by rw [List.take_append_drop]; exact hs
  rw [List.pairwise_append] at hsp
  refine ⟨hsp.1, ⟨fun b hb => ?_, hsp.2.1⟩, fun a ha b hb => ?_⟩
  · obtain ⟨i, hi, rfl⟩ := List.getElem_of_mem hb
    rw [List.length_drop] at hi
    have := h1 (p + i) (by omega) (by omega)
    rw [List.getD_eq_getElem?_getD, List.getElem?_eq_getElem (by omega)] at this
    rw [List.getElem_drop]
    exact this
  · have ham : LT a m := by
      obtain ⟨i, hi, rfl⟩ := List.getElem_of_mem ha
      rw [List.length_take] at hi
      have := hlow i (by omega)
      rw [List.getD_eq_getElem?_getD, List.getElem?_eq_getElem (by omega)] at this
      rw [List.getElem_take]
      exact this
    rcases List.mem_cons.1 hb with rfl | hb
    · exact ham
    · exact hsp.2.2 a ha b hb

/-- Messages of right identifiers and unlike numbers. -/
def Good (l : List Msg) : Prop := (∀ m ∈ l, goodI m) ∧ l.Pairwise fun a b => a.number ≠ b.number
theorem Good.perm {l l' : List Msg} (h : Good l) (hp : l'.Perm l) : Good l' :=
  ⟨fun m hm => h.1 m (hp.subset hm), hp.symm.pairwise h.2 (fun hab => fun e => hab e.symm)⟩
theorem insAll_spec (l : List Msg) (h : Good l) : ∀ k, k ≤ l.length → (insAll (l.take k)).Pairwise LT ∧ (insAll (l.take k)).Perm (l.take k)
  | 0, _ => ⟨List.Pairwise.nil, List.Perm.refl _⟩
  | k + 1, hk => by
    obtain ⟨h1, h2⟩ := insAll_spec l h k (by omega)
    have hm : l[k]? = some l[k] := List.getElem?_eq_getElem (by omega)
    rw [insAll_take l k _ hm, List.take_succ_eq_append_getElem (by omega)]
    have hg : ∀ x ∈ insAll (l.take k), x ∈ l.take k := fun x hx => h2.subset hx
    refine ⟨insM_sorted _ _ (h.1 _ (List.getElem_mem _)) (fun x hx => h.1 x (List.mem_of_mem_take (hg x hx))) (fun x hx => ?_) h1, ?_⟩
    · obtain ⟨i, hi, rfl⟩ := List.getElem_of_mem (hg x hx)
      rw [List.length_take] at hi
      rw [List.getElem_take]
      exact List.pairwise_iff_getElem.1 h.2 i k _ _ (by omega)
    · refine (insM_perm _ _).trans ?_
      refine ((h2.cons l[k]).trans ?_)
      exact (List.perm_append_singleton _ _).symm
theorem sortL_good (l : List Msg) (h : Good l) : (sortL l).Pairwise LT ∧ (sortL l).Perm l := by
  have hk : keptL l = l := List.filter_eq_self.2 fun m hm => h.1 m hm
  have := insAll_spec l h l.length (Nat.le_refl _)
  rw [List.take_length] at this
  rw [sortL_kept, hk]
  exact this
theorem sortL_same {l l' : List Msg} (h : Good l) (hp : l'.Perm l) : sortL l' = sortL l := by
  obtain ⟨a1, a2⟩ := sortL_good l h
  obtain ⟨b1, b2⟩ := sortL_good l' (h.perm hp)
  refine List.Perm.eq_of_pairwise (le := LT) (fun a b ha hb h1 h2 => ?_) b1 a1 ((b2.trans hp).trans a2.symm)
  have ga := h.1 a ((b2.trans hp).subset ha)
  have gb := h.1 b (a2.subset hb)
  have h3 : lessM b a = true := h2
  rw [lt_asymm ga gb h1] at h3
  cases h3
theorem sorted_at {l : List Msg} (h : Good l) {i j : Nat} {a b : Msg} (ha : (sortL l)[j]? = some a) (hb : (sortL l)[i]? = some b) (hij : j < i) : lessM a b = true ∧ lessM b a = false ∧ sameM b a = false := by
  obtain ⟨a1, a2⟩ := sortL_good l h
  obtain ⟨hj, ea⟩ := List.getElem?_eq_some_iff.1 ha
  obtain ⟨hi, eb⟩ := List.getElem?_eq_some_iff.1 hb
  have hlt : LT a b := by rw [← ea, ← eb]; exact List.pairwise_iff_getElem.1 a1 j i hj hi hij
  have ga := h.1 a (a2.subset (List.mem_of_getElem? ha))
  have gb := h.1 b (a2.subset (List.mem_of_getElem? hb))
  refine ⟨hlt, lt_asymm ga gb hlt, ?_⟩
  rw [← Bool.not_eq_true, sameM_iff]
  rintro rfl
  have := lt_unlike ga hlt
  rw [(sameM_iff _ _).2 rfl] at this
  cases this

end Go.Proofs.YtehajmockicilaaDoor

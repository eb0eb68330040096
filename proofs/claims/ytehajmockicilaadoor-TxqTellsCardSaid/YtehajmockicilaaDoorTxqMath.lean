/-
  What Put comes to, either way: a message among sorted ones.
-/
import Derived.Test.YtehajmockicilaaDoorTxqCut
import Derived.Test.YtehajmockicilaaDoorMsgOrd
namespace Go.Proofs.YtehajmockicilaaDoor
open Go Go.RowKit

theorem okTo_at {l : List Msg} : ∀ {n : Nat}, okTo l n = true → ∀ k, k < n → okAt l k = true
  | 0, _, k, hk => by omega
  | n + 1, h, k, hk => by
    have h' : (okTo l n && okAt l n) = true := h
    rw [Bool.and_eq_true] at h'
    rcases Nat.lt_or_ge k n with h1 | h1
    · exact okTo_at h'.1 k h1
    · obtain rfl : k = n := by omega
      exact h'.2
theorem okAt_has {l : List Msg} {k : Nat} {m : Msg} (hm : l[k]? = some m) (h : okAt l k = true) : rightM m = true ∧ (∀ x, 0 < k → l[k - 1]? = some x → LT x m) ∧ ∀ x ∈ l.take k, x.number ≠ m.number := by
  rw [okAt_is hm rfl] at h
  simp only [Bool.not_eq_true', Bool.or_eq_false_iff, Bool.not_eq_false'] at h
  obtain ⟨⟨h1, h2⟩, h3⟩ := h
  refine ⟨h1, fun x hk hx => ?_, fun x hx e => ?_⟩
  · have e : l.getD (k - 1) zeroM = x := by rw [List.getD_eq_getElem?_getD, hx]; rfl
    rw [e] at h2
    simpa [hk] using h2
  · have : hasN (l.take k) m.number = true := (has_iff _ _).2 ⟨x, hx, e⟩
    rw [this] at h3; cases h3
structure Sorted (l : List Msg) : Prop where
  right : ∀ m ∈ l, rightM m = true
  lt : l.Pairwise LT
  unlike : l.Pairwise fun a b => a.number ≠ b.number
theorem good_of (m : Msg) (h : rightM m = true) : goodI m := ((rightM_iff m).1 h).1
theorem sorted_of {l : List Msg} (h : okTo l l.length = true) : Sorted l := by
  have hat := fun k hk m (hm : l[k]? = some m) => okAt_has hm (okTo_at h k hk)
  have hr : ∀ m ∈ l, rightM m = true := fun m hm => by
    obtain ⟨k, hk, e⟩ := List.getElem_of_mem hm
    exact (hat k hk m (by rw [List.getElem?_eq_getElem hk, e])).1
  suffices hs : ∀ k, k ≤ l.length → (l.take k).Pairwise LT ∧ (l.take k).Pairwise fun a b => a.number ≠ b.number by
    have := hs l.length (Nat.le_refl _)
    rw [List.take_length] at this
    exact ⟨hr, this.1, this.2⟩
  intro k
  induction k with
  | zero => intro _; simp
  | succ k ih =>
    intro hk
    obtain ⟨i1, i2⟩ := ih (by omega)
    obtain ⟨m, hm⟩ : ∃ m, l[k]? = some m := ⟨_, List.getElem?_eq_getElem (by omega)⟩
    obtain ⟨h1, h2, h3⟩ := hat k (by omega) m hm
    rw [List.take_add_one, hm]
    simp only [Option.toList_some]
    refine ⟨List.pairwise_append.2 ⟨i1, by simp, fun a ha b hb => ?_⟩, List.pairwise_append.2 ⟨i2, by simp, fun a ha b hb => ?_⟩⟩
    · simp only [List.mem_singleton] at hb
      subst hb
      obtain ⟨j, hj, e⟩ := List.getElem_of_mem ha
      rw [List.length_take] at hj
      rw [List.getElem_take] at e
      have hx : l[k - 1]? = some l[k - 1] := List.getElem?_eq_getElem (by omega)
      have h4 := h2 _ (by omega) hx
      rcases Nat.lt_or_ge j (k - 1) with hj2 | hj2
      · have h5 := List.pairwise_iff_getElem.1 i1 j (k - 1) (by rw [List.length_take]; omega) (by rw [List.length_take]; omega) hj2
        rw [List.getElem_take, List.getElem_take, e] at h5
        exact lt_trans (good_of _ (hr a (List.mem_of_mem_take ha))) (good_of _ (hr _ (List.getElem_mem _))) (good_of _ h1) h5 h4
      · obtain rfl : j = k - 1 := by omega
        rw [← e]; exact h4
    · simp only [List.mem_singleton] at hb
      subst hb
      exact h3 a ha
theorem insAt_perm (l : List Msg) (k : Nat) (m : Msg) : (insAt l k m).Perm (m :: l) := by
  unfold insAt
  have h1 : (l.take k ++ m :: l.drop k).Perm (m :: (l.take k ++ l.drop k)) := List.perm_middle
  rwa [List.take_append_drop] at h1
theorem insAt_sorted {l : List Msg} {m : Msg} (h : Sorted l) (hm : rightM m = true) (hn : ∀ x ∈ l, x.number ≠ m.number) : Sorted (insAt l (l.findIdx (lessM m)) m) := by
  have hp := insAt_perm l (l.findIdx (lessM m)) m
  have hle := List.findIdx_le_length (p := lessM m) (xs := l)
  have hb : ∀ x ∈ l.take (l.findIdx (lessM m)), LT x m := fun x hx => by
    obtain ⟨j, hj, e⟩ := List.getElem_of_mem hx
    rw [List.length_take] at hj
    rw [List.getElem_take] at e
    have h1 := List.not_of_lt_findIdx (p := lessM m) (xs := l) (i := j) (by omega)
    have hxl := List.mem_of_mem_take hx
    rw [e] at h1
    exact lt_total (good_of _ hm) (good_of _ (h.right x hxl)) (fun e2 => hn x hxl e2.symm) (by simpa using h1)
  have hf : ∀ x ∈ l.drop (l.findIdx (lessM m)), LT m x := fun x hx => by
    obtain ⟨j, hj, e⟩ := List.getElem_of_mem hx
    rw [List.length_drop] at hj
    rw [List.getElem_drop] at e
    have h0 : l.findIdx (lessM m) < l.length := by omega
    have h1 : LT m l[l.findIdx (lessM m)] := List.findIdx_getElem (p := lessM m) (xs := l) (w := h0)
    rcases Nat.eq_zero_or_pos j with rfl | hj2
    · rw [← e]; exact h1
    · have h2 := List.pairwise_iff_getElem.1 h.lt (l.findIdx (lessM m)) (l.findIdx (lessM m) + j) h0 (by omega) (by omega)
      rw [e] at h2
      exact lt_trans (good_of _ hm) (good_of _ (h.right _ (List.getElem_mem _))) (good_of _ (h.right x (List.mem_of_mem_drop hx))) h1 h2
  have hlt : (l.take (l.findIdx (lessM m)) ++ l.drop (l.findIdx (lessM m))).Pairwise LT := by rw [List.take_append_drop]; exact h.lt
  obtain ⟨p1, p2, p3⟩ := List.pairwise_append.1 hlt
  refine ⟨fun x hx => ?_, ?_, ?_⟩
  · rcases List.mem_cons.1 (hp.mem_iff.1 hx) with rfl | h2
    · exact hm
    · exact h.right x h2
  · unfold insAt
    refine List.pairwise_append.2 ⟨p1, List.pairwise_cons.2 ⟨hf, p2⟩, fun a ha b hb' => ?_⟩
    rcases List.mem_cons.1 hb' with rfl | h2
    · exact hb a ha
    · exact p3 a ha b h2
  · refine (hp.pairwise_iff (fun {a b} (hab : a.number ≠ b.number) => Ne.symm hab)).2 (List.pairwise_cons.2 ⟨fun x hx e => hn x hx e.symm, h.unlike⟩)
theorem Sorted.good {l : List Msg} (h : Sorted l) : Good l := ⟨fun m hm => good_of m (h.right m hm), h.unlike⟩
/-- Sorted lists of the same messages are one. -/
theorem sorted_one {a b : List Msg} (ha : Sorted a) (hb : Sorted b) (hp : a.Perm b) : a = b := by
  refine List.Perm.eq_of_pairwise (le := LT) (fun x y hx hy h1 h2 => ?_) ha.lt hb.lt hp
  have h3 : lessM y x = true := h2
  rw [lt_asymm (good_of _ (ha.right x hx)) (good_of _ (hb.right y hy)) h1] at h3; cases h3
theorem put_sort {l : List Msg} {m : Msg} (h : Sorted l) (hm : rightM m = true) (hn : ∀ x ∈ l, x.number ≠ m.number) : sortL (l ++ [m]) = insAt l (l.findIdx (lessM m)) m := by
  have hs := insAt_sorted h hm hn
  have hp : (l ++ [m]).Perm (insAt l (l.findIdx (lessM m)) m) := (List.perm_append_singleton m l).trans (insAt_perm l _ m).symm
  have hg := Good.perm hs.good hp
  obtain ⟨s1, s2⟩ := sortL_good _ hg
  have hpp := s2.trans hp
  exact sorted_one ⟨fun x hx => hs.right x (hpp.mem_iff.1 hx), s1, (hpp.pairwise_iff (fun {a b} (hab : a.number ≠ b.number) => Ne.symm hab)).2 hs.unlike⟩ hs hpp

theorem rightQ_parts {L : Int} {l : List Msg} (h : rightQ L l = true) : (1 ≤ L ∧ L ≤ 32) ∧ (l.length : Int) ≤ L ∧ Sorted l := by
  unfold rightQ at h
  simp only [Bool.and_eq_true, decide_eq_true_iff] at h
  exact ⟨(limB_iff L).1 h.1.1, h.1.2, sorted_of h.2⟩
theorem sorted_okTo {l : List Msg} (h : Sorted l) : ∀ k, k ≤ l.length → okTo l k = true
  | 0, _ => rfl
  | k + 1, hk => by
    refine okTo_next (sorted_okTo h k (by omega)) ?_
    have hm : l[k]? = some l[k] := List.getElem?_eq_getElem (by omega)
    rw [okAt_is hm rfl]
    have h1 := h.right l[k] (List.getElem_mem _)
    have h2 : hasN (l.take k) l[k].number = false := by
      rw [← Bool.not_eq_true, has_iff]
      rintro ⟨x, hx, e⟩
      obtain ⟨j, hj, e2⟩ := List.getElem_of_mem hx
      rw [List.length_take] at hj
      rw [List.getElem_take] at e2
      have := List.pairwise_iff_getElem.1 h.unlike j k (by omega) (by omega) (by omega)
      rw [e2] at this
      exact this e
    rw [h1, h2]
    by_cases hk0 : 0 < k
    · have e : l.getD (k - 1) zeroM = l[k - 1] := by rw [List.getD_eq_getElem?_getD, List.getElem?_eq_getElem (by omega)]; rfl
      have h3 := List.pairwise_iff_getElem.1 h.lt (k - 1) k (by omega) (by omega) (by omega)
      rw [e]
      have h4 : lessM l[k - 1] l[k] = true := h3
      rw [h4]; simp
    · have : k = 0 := by omega
      subst this; simp
theorem rightQ_of {L : Int} {l : List Msg} (h1 : 1 ≤ L) (h2 : L ≤ 32) (h3 : (l.length : Int) ≤ L) (h : Sorted l) : rightQ L l = true := by
  unfold rightQ
  rw [(limB_iff L).2 ⟨h1, h2⟩, decide_eq_true h3, sorted_okTo h _ (Nat.le_refl _)]; rfl
theorem hasN_no {l : List Msg} {n : Int} (h : hasN l n = false) : ∀ x ∈ l, x.number ≠ n := fun x hx e => by
  rw [(has_iff l n).2 ⟨x, hx, e⟩] at h; cases h

end Go.Proofs.YtehajmockicilaaDoor

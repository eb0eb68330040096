/-
  Clocks, as mathematics: lists that rise, the n-th of a list's numbers by their greatness, middles.
-/
namespace Go.Proofs.Ytllbhbekpnmlnaa

/-! ## Lists that rise -/
abbrev Rises (l : List Int) : Prop := l.Pairwise (· ≤ ·)
/-- x where it belongs in a list that rises: behind all that are no greater. -/
def insI (x : Int) : List Int → List Int
  | [] => [x]
  | y :: l => if x < y then x :: y :: l else y :: insI x l
theorem insI_perm (x : Int) (l : List Int) : (insI x l).Perm (x :: l) := by
  induction l with
  | nil => exact List.Perm.refl _
  | cons y l ih =>
    unfold insI
    split
    · exact List.Perm.refl _
    · exact (List.Perm.cons y ih).trans (List.Perm.swap x y l)
theorem insI_length (x : Int) (l : List Int) : (insI x l).length = l.length + 1 := (insI_perm x l).length_eq
theorem insI_rises (x : Int) (l : List Int) (h : Rises l) : Rises (insI x l) := by
  induction l with
  | nil => exact List.pairwise_singleton _ _
  | cons y l ih =>
    have h2 := List.pairwise_cons.1 h
    unfold insI
    split
    · refine List.pairwise_cons.2 ⟨fun z hz => ?_, h⟩
      rcases List.mem_cons.1 hz with rfl | hz
      · omega
      · have := h2.1 z hz; omega
    · refine List.pairwise_cons.2 ⟨fun z hz => ?_, ih h2.2⟩
      rcases List.mem_cons.1 ((insI_perm x l).mem_iff.1 hz) with rfl | hz
      · omega
      · exact h2.1 z hz
/-- Where it is put. -/
theorem insI_at (x : Int) : ∀ (s : List Int) (p : Nat), (∀ y ∈ s.take p, y ≤ x) → (∀ y ∈ s.drop p, x < y) → insI x s = s.take p ++ x :: s.drop p
  | [], p, _, _ => by simp [insI]
  | y :: s, 0, _, h2 => by
    have := h2 y (by simp)
    unfold insI
    rw [if_pos this]
    rfl
  | y :: s, p + 1, h1, h2 => by
    have := h1 y (by simp)
    unfold insI
    rw [if_neg (by omega), insI_at x s p (fun z hz => h1 z (by simp [hz])) (fun z hz => h2 z (by simpa using hz))]
    rfl
theorem rises_take {s : List Int} (h : Rises s) {p : Nat} {y x : Int} (hy : s[p]? = some y) (hx : y ≤ x) : ∀ z ∈ s.take (p + 1), z ≤ x := by
  intro z hz
  obtain ⟨j, hj, e⟩ := List.mem_take_iff_getElem.1 hz
  obtain ⟨hp, ep⟩ := List.getElem?_eq_some_iff.1 hy
  rcases Nat.lt_or_eq_of_le (show j ≤ p by omega) with hlt | heq
  · have := List.pairwise_iff_getElem.1 h j p (by omega) hp hlt
    rw [e, ep] at this
    omega
  · subst heq
    rw [ep] at e
    omega
theorem insI_done {s : List Int} (h : Rises s) (x : Int) (p : Nat) (h2 : ∀ y ∈ s.drop p, x < y) (h1 : p = 0 ∨ ∃ y, s[p - 1]? = some y ∧ y ≤ x) : insI x s = s.take p ++ x :: s.drop p := by
  refine insI_at x s p ?_ h2
  rcases h1 with rfl | ⟨y, hy, hx⟩
  · simp
  · rcases Nat.eq_zero_or_pos p with rfl | hp
    · simp
    · have := rises_take h hy hx
      rwa [show p - 1 + 1 = p by omega] at this
theorem drop_more {s : List Int} {x y : Int} {p : Nat} (h2 : ∀ z ∈ s.drop (p + 1), x < z) (hy : s[p]? = some y) (h : x < y) : ∀ z ∈ s.drop p, x < z := by
  obtain ⟨hp, ep⟩ := List.getElem?_eq_some_iff.1 hy
  intro z hz
  rw [List.drop_eq_getElem_cons hp, ep] at hz
  rcases List.mem_cons.1 hz with rfl | hz
  · exact h
  · exact h2 z hz
/-- What a store makes of it. -/
theorem shift_set (s : List Int) (p : Nat) (c y : Int) (hy : s[p]? = some y) : (s.take (p + 1) ++ c :: s.drop (p + 1)).set (p + 1) y = s.take p ++ y :: s.drop p := by
  obtain ⟨hp, ep⟩ := List.getElem?_eq_some_iff.1 hy
  rw [List.set_append_right _ _ (by rw [List.length_take]; omega), List.length_take, Nat.min_eq_left (by omega), Nat.sub_self, List.set_cons_zero, List.take_succ_eq_append_getElem hp, ep, List.drop_eq_getElem_cons hp, ep, List.append_assoc]
  rfl
theorem last_set (s : List Int) (p : Nat) (c x : Int) (hp : p ≤ s.length) : (s.take p ++ c :: s.drop p).set p x = s.take p ++ x :: s.drop p := by
  rw [List.set_append_right _ _ (by rw [List.length_take]; omega), List.length_take, Nat.min_eq_left hp, Nat.sub_self, List.set_cons_zero]
theorem shift_at (s : List Int) (p : Nat) (c y : Int) (hy : s[p]? = some y) : (s.take (p + 1) ++ c :: s.drop (p + 1))[p]? = some y := by
  obtain ⟨hp, ep⟩ := List.getElem?_eq_some_iff.1 hy
  rw [List.getElem?_append_left (by rw [List.length_take]; omega), List.getElem?_take_of_lt (by omega), hy]
theorem shift_length (s : List Int) (p : Nat) (c : Int) (hp : p ≤ s.length) : (s.take p ++ c :: s.drop p).length = s.length + 1 := by
  rw [List.length_append, List.length_cons, List.length_take, List.length_drop]; omega

def sortI (l : List Int) : List Int := l.foldl (fun s x => insI x s) []
theorem sortI_snoc (l : List Int) (x : Int) : sortI (l ++ [x]) = insI x (sortI l) := by unfold sortI; rw [List.foldl_append]; rfl
theorem sortI_take (l : List Int) (k : Nat) (x : Int) (h : l[k]? = some x) : sortI (l.take (k + 1)) = insI x (sortI (l.take k)) := by
  obtain ⟨hk, e⟩ := List.getElem?_eq_some_iff.1 h
  rw [List.take_succ_eq_append_getElem hk, e, sortI_snoc]
theorem foldl_perm (l : List Int) : ∀ s, (l.foldl (fun s x => insI x s) s).Perm (s ++ l) := by
  induction l with
  | nil => intro s; simp
  | cons x l ih =>
    intro s
    refine (ih (insI x s)).trans ?_
    refine ((insI_perm x s).append_right l).trans ?_
    exact (List.perm_middle (a := x) (l₁ := s) (l₂ := l)).symm
theorem sortI_perm (l : List Int) : (sortI l).Perm l := foldl_perm l []
theorem sortI_length (l : List Int) : (sortI l).length = l.length := (sortI_perm l).length_eq
theorem foldl_rises (l : List Int) : ∀ s, Rises s → Rises (l.foldl (fun s x => insI x s) s) := by
  induction l with
  | nil => intro s h; exact h
  | cons x l ih => intro s h; exact ih _ (insI_rises x s h)
theorem sortI_rises (l : List Int) : Rises (sortI l) := foldl_rises l [] List.Pairwise.nil

/-! ## How many are no greater -/
def cle (v : Int) (l : List Int) : Nat := l.countP (fun y => decide (y ≤ v))
theorem cle_perm {v : Int} {a b : List Int} (h : a.Perm b) : cle v a = cle v b := h.countP_eq _
theorem cle_append (v : Int) (a b : List Int) : cle v (a ++ b) = cle v a + cle v b := List.countP_append
theorem cle_le (v : Int) (l : List Int) : cle v l ≤ l.length := List.countP_le_length
theorem cle_zero {v : Int} {l : List Int} (h : ∀ y ∈ l, v < y) : cle v l = 0 := by
  unfold cle
  rw [List.countP_eq_zero]
  intro y hy
  have := h y hy
  simp; omega
theorem cle_all {v : Int} {l : List Int} (h : ∀ y ∈ l, y ≤ v) : cle v l = l.length := by
  unfold cle
  rw [List.countP_eq_length]
  intro y hy
  have := h y hy
  simp; omega
theorem rises_le : ∀ (s : List Int), Rises s → ∀ (i : Nat) (y : Int), s[i]? = some y → ∀ v, y ≤ v ↔ i < cle v s
  | [], _, i, y, h, _ => by simp at h
  | y0 :: s, hr, 0, y, h, v => by
    have h2 := List.pairwise_cons.1 hr
    obtain rfl : y0 = y := by simpa using h
    unfold cle
    rw [List.countP_cons]
    by_cases hv : y0 ≤ v
    · simp [hv]
    · have : s.countP (fun y => decide (y ≤ v)) = 0 := cle_zero (fun z hz => by have := h2.1 z hz; omega)
      rw [this]
      simp [hv]
  | y0 :: s, hr, i + 1, y, h, v => by
    have h2 := List.pairwise_cons.1 hr
    have hy : s[i]? = some y := by simpa using h
    have ih := rises_le s h2.2 i y hy v
    have hle := h2.1 y (List.mem_of_getElem? hy)
    unfold cle at ih ⊢
    rw [List.countP_cons]
    by_cases hv : y0 ≤ v
    · simp only [hv, decide_true, if_true]
      omega
    · have : s.countP (fun y => decide (y ≤ v)) = 0 := cle_zero (fun z hz => by have := h2.1 z hz; omega)
      rw [this]
      simp [hv]
      omega

/-- The i-th of a list's numbers, by their greatness. -/
def nth (l : List Int) (i : Nat) : Int := (sortI l).getD i 0
theorem nth_at (l : List Int) (i : Nat) (h : i < l.length) : (sortI l)[i]? = some (nth l i) := by
  have h2 : i < (sortI l).length := by rw [sortI_length]; exact h
  unfold nth
  rw [List.getD_eq_getElem?_getD, List.getElem?_eq_getElem h2, Option.getD_some]
theorem nth_le (l : List Int) (i : Nat) (h : i < l.length) (v : Int) : nth l i ≤ v ↔ i < cle v l := by
  rw [rises_le _ (sortI_rises l) i _ (nth_at l i h) v, cle_perm (sortI_perm l)]
theorem nth_mem (l : List Int) (i : Nat) (h : i < l.length) : nth l i ∈ l := (sortI_perm l).mem_iff.1 (List.mem_of_getElem? (nth_at l i h))
theorem nth_perm {a b : List Int} (h : a.Perm b) (i : Nat) (hi : i < a.length) : nth a i = nth b i := by
  have hb : i < b.length := by rw [← h.length_eq]; exact hi
  have h1 := nth_le a i hi (nth b i)
  have h2 := nth_le b i hb (nth a i)
  rw [cle_perm h, ← nth_le b i hb] at h1
  rw [← cle_perm h, ← nth_le a i hi] at h2
  have := h1.2 (Int.le_refl _)
  have := h2.2 (Int.le_refl _)
  omega
theorem nth_mono (l : List Int) (i j : Nat) (hij : i ≤ j) (hj : j < l.length) : nth l i ≤ nth l j := by
  rw [nth_le l i (by omega)]
  have := (nth_le l j hj (nth l j)).1 (Int.le_refl _)
  omega

/-! ## The least, the greatest -/
def minF (h : Int) (l : List Int) : Int := l.foldl min h
def maxF (h : Int) (l : List Int) : Int := l.foldl max h
theorem minF_take (h : Int) (l : List Int) (k : Nat) (x : Int) (hx : l[k]? = some x) : minF h (l.take (k + 1)) = min (minF h (l.take k)) x := by
  obtain ⟨hk, e⟩ := List.getElem?_eq_some_iff.1 hx
  unfold minF
  rw [List.take_succ_eq_append_getElem hk, e, List.foldl_append]
  rfl
theorem maxF_take (h : Int) (l : List Int) (k : Nat) (x : Int) (hx : l[k]? = some x) : maxF h (l.take (k + 1)) = max (maxF h (l.take k)) x := by
  obtain ⟨hk, e⟩ := List.getElem?_eq_some_iff.1 hx
  unfold maxF
  rw [List.take_succ_eq_append_getElem hk, e, List.foldl_append]
  rfl
theorem minF_le (l : List Int) : ∀ h, minF h l ≤ h ∧ (∀ y ∈ l, minF h l ≤ y) ∧ (minF h l = h ∨ minF h l ∈ l) := by
  induction l with
  | nil => intro h; exact ⟨Int.le_refl _, fun y hy => (by cases hy), .inl rfl⟩
  | cons x l ih =>
    intro h
    obtain ⟨h1, h2, h3⟩ := ih (min h x)
    have e : minF h (x :: l) = minF (min h x) l := rfl
    rw [e]
    refine ⟨by omega, fun y hy => ?_, ?_⟩
    · rcases List.mem_cons.1 hy with rfl | hy
      · omega
      · exact h2 y hy
    · rcases h3 with h3 | h3
      · rw [h3]
        rcases Int.le_total h x with hx | hx
        · rw [Int.min_eq_left hx]; exact .inl rfl
        · rw [Int.min_eq_right hx]; exact .inr (by simp)
      · exact .inr (by simp [h3])
theorem maxF_le (l : List Int) : ∀ h, h ≤ maxF h l ∧ (∀ y ∈ l, y ≤ maxF h l) ∧ (maxF h l = h ∨ maxF h l ∈ l) := by
  induction l with
  | nil => intro h; exact ⟨Int.le_refl _, fun y hy => (by cases hy), .inl rfl⟩
  | cons x l ih =>
    intro h
    obtain ⟨h1, h2, h3⟩ := ih (max h x)
    have e : maxF h (x :: l) = maxF (max h x) l := rfl
    rw [e]
    refine ⟨by omega, fun y hy => ?_, ?_⟩
    · rcases List.mem_cons.1 hy with rfl | hy
      · omega
      · exact h2 y hy
    · rcases h3 with h3 | h3
      · rw [h3]
        rcases Int.le_total h x with hx | hx
        · rw [Int.max_eq_right hx]; exact .inr (by simp)
        · rw [Int.max_eq_left hx]; exact .inl rfl
      · exact .inr (by simp [h3])
theorem minF_eq {h m : Int} {l : List Int} (hm : m = h ∨ m ∈ l) (h1 : m ≤ h) (h2 : ∀ y ∈ l, m ≤ y) : minF h l = m := by
  obtain ⟨a, b, c⟩ := minF_le l h
  have : minF h l ≤ m := by
    rcases hm with rfl | hm
    · exact a
    · exact b m hm
  have : m ≤ minF h l := by
    rcases c with c | c
    · omega
    · exact h2 _ c
  omega
theorem maxF_eq {h m : Int} {l : List Int} (hm : m = h ∨ m ∈ l) (h1 : h ≤ m) (h2 : ∀ y ∈ l, y ≤ m) : maxF h l = m := by
  obtain ⟨a, b, c⟩ := maxF_le l h
  have : m ≤ maxF h l := by
    rcases hm with rfl | hm
    · exact a
    · exact b m hm
  have : maxF h l ≤ m := by
    rcases c with c | c
    · omega
    · exact h2 _ c
  omega
/-- The least of some numbers, the greatest of them. -/
def loI (l : List Int) : Int := minF (l.headD 0) l
def hiI (l : List Int) : Int := maxF (l.headD 0) l
theorem head_mem {l : List Int} (h : l ≠ []) : l.headD 0 ∈ l := by
  cases l with
  | nil => exact absurd rfl h
  | cons x l => simp
theorem lo_spec {l : List Int} (h : l ≠ []) : loI l ∈ l ∧ ∀ y ∈ l, loI l ≤ y := by
  obtain ⟨a, b, c⟩ := minF_le l (l.headD 0)
  refine ⟨?_, b⟩
  rcases c with c | c
  · show minF _ _ ∈ l
    rw [c]; exact head_mem h
  · exact c
theorem hi_spec {l : List Int} (h : l ≠ []) : hiI l ∈ l ∧ ∀ y ∈ l, y ≤ hiI l := by
  obtain ⟨a, b, c⟩ := maxF_le l (l.headD 0)
  refine ⟨?_, b⟩
  rcases c with c | c
  · show maxF _ _ ∈ l
    rw [c]; exact head_mem h
  · exact c
theorem lo_eq {l : List Int} {m : Int} (hm : m ∈ l) (h : ∀ y ∈ l, m ≤ y) : loI l = m :=
  minF_eq (.inr hm) (h _ (head_mem (by rintro rfl; cases hm))) h
theorem hi_eq {l : List Int} {m : Int} (hm : m ∈ l) (h : ∀ y ∈ l, y ≤ m) : hiI l = m :=
  maxF_eq (.inr hm) (h _ (head_mem (by rintro rfl; cases hm))) h
theorem lo_le_hi {l : List Int} (h : l ≠ []) : loI l ≤ hiI l := (lo_spec h).2 _ (hi_spec h).1

/-- What is left of a list, without k of the least and the greatest ones: its ends. -/
theorem left_ends (l : List Int) (k : Nat) (h : 2 * k < l.length) :
    (((sortI l).take (l.length - k)).drop k).length = l.length - k - k ∧ loI (((sortI l).take (l.length - k)).drop k) = nth l k ∧ hiI (((sortI l).take (l.length - k)).drop k) = nth l (l.length - 1 - k) := by
  have hlen := sortI_length l
  have at_ : ∀ j, (((sortI l).take (l.length - k)).drop k)[j]? = if k + j < l.length - k then some (nth l (k + j)) else none := by
    intro j
    rw [List.getElem?_drop]
    split
    · next hlt => rw [List.getElem?_take_of_lt hlt, nth_at l _ (by omega)]
    · next hlt => rw [List.getElem?_eq_none]; rw [List.length_take]; omega
  have mem : ∀ y ∈ ((sortI l).take (l.length - k)).drop k, ∃ j, k ≤ j ∧ j ≤ l.length - 1 - k ∧ y = nth l j := by
    intro y hy
    obtain ⟨j, hj⟩ := List.mem_iff_getElem?.1 hy
    rw [at_] at hj
    split at hj
    · next hlt => exact ⟨k + j, by omega, by omega, by simpa using hj.symm⟩
    · cases hj
  refine ⟨by rw [List.length_drop, List.length_take]; omega, lo_eq ?_ ?_, hi_eq ?_ ?_⟩
  · refine List.mem_iff_getElem?.2 ⟨0, ?_⟩
    rw [at_, if_pos (by omega), Nat.add_zero]
  · intro y hy
    obtain ⟨j, h1, h2, rfl⟩ := mem y hy
    exact nth_mono l k j h1 (by omega)
  · refine List.mem_iff_getElem?.2 ⟨l.length - 1 - k - k, ?_⟩
    rw [at_, if_pos (by omega), show k + (l.length - 1 - k - k) = l.length - 1 - k by omega]
  · intro y hy
    obtain ⟨j, h1, h2, rfl⟩ := mem y hy
    exact nth_mono l j _ h2 (by omega)

/-! ## Middles -/
def devB (x : Int) : Bool := decide (-1073741824 ≤ x) && decide (x ≤ 1073741824)
theorem devB_iff (x : Int) : devB x = true ↔ -1073741824 ≤ x ∧ x ≤ 1073741824 := by unfold devB; simp
def dropB (d : Int) : Bool := decide (0 ≤ d) && decide (d ≤ 7)
theorem dropB_iff (d : Int) : dropB d = true ↔ 0 ≤ d ∧ d ≤ 7 := by unfold dropB; simp
def midE (d : Int) (l : List Int) : Int :=
  if dropB d = false then 1 else if l.all devB = false then 1 else if 64 < l.length then 4 else if (l.length : Int) ≤ 2 * d then 3 else 0
def midV (d : Int) (l : List Int) : Int :=
  if midE d l = 0 then (nth l d.toNat + nth l (l.length - 1 - d.toNat)) / 2 else 0
theorem midE_zero (d : Int) (l : List Int) : midE d l = 0 ↔ dropB d = true ∧ l.all devB = true ∧ l.length ≤ 64 ∧ 2 * d < l.length := by
  unfold midE
  cases h1 : dropB d <;> cases h2 : l.all devB <;> simp
  split
  · simp; omega
  · split <;> simp <;> omega
theorem midE_short {d : Int} {l : List Int} (hd : 0 ≤ d ∧ d ≤ 7) (hl : ∀ y ∈ l, -1073741824 ≤ y ∧ y ≤ 1073741824) (h64 : l.length ≤ 64) (h : (l.length : Int) ≤ 2 * d) : midE d l = 3 := by
  unfold midE
  rw [(dropB_iff d).2 hd, show l.all devB = true from List.all_eq_true.2 fun y hy => (devB_iff y).2 (hl y hy)]
  simp
  omega
theorem midE_ok {d : Int} {l : List Int} (hd : 0 ≤ d ∧ d ≤ 7) (hl : ∀ y ∈ l, -1073741824 ≤ y ∧ y ≤ 1073741824) (h64 : l.length ≤ 64) (h : 2 * d < (l.length : Int)) : midE d l = 0 :=
  (midE_zero d l).2 ⟨(dropB_iff d).2 hd, List.all_eq_true.2 fun y hy => (devB_iff y).2 (hl y hy), h64, h⟩
theorem midV_ok {d : Int} {l : List Int} {k : Nat} (hk : d = (k : Int)) (h : midE d l = 0) : midV d l = (nth l k + nth l (l.length - 1 - k)) / 2 := by
  unfold midV
  rw [if_pos h, hk, Int.toNat_natCast]
theorem midV_bad {d : Int} {l : List Int} (h : midE d l ≠ 0) : midV d l = 0 := by unfold midV; rw [if_neg h]
theorem dev_nth {l : List Int} (h : l.all devB = true) {i : Nat} (hi : i < l.length) : -1073741824 ≤ nth l i ∧ nth l i ≤ 1073741824 :=
  (devB_iff _).1 (List.all_eq_true.1 h _ (nth_mem l i hi))
theorem midE_perm {d : Int} {a b : List Int} (h : a.Perm b) : midE d a = midE d b := by
  unfold midE
  rw [h.length_eq, show a.all devB = b.all devB from h.all_eq]
theorem midV_perm {d : Int} {a b : List Int} (h : a.Perm b) : midV d a = midV d b := by
  by_cases he : midE d a = 0
  · have hb : midE d b = 0 := by rw [← midE_perm h]; exact he
    obtain ⟨h1, h2, h3, h4⟩ := (midE_zero d a).1 he
    have hd := (dropB_iff d).1 h1
    have hl := h.length_eq
    obtain ⟨k, rfl⟩ : ∃ k : Nat, d = (k : Int) := ⟨d.toNat, by omega⟩
    rw [midV_ok rfl he, midV_ok rfl hb, nth_perm h k (by omega), nth_perm h _ (by omega), hl]
  · rw [midV_bad he, midV_bad (by rw [← midE_perm h]; exact he)]

/-- At most k wrong ones are harmless. -/
theorem nth_ends (a b : List Int) (k : Nat) (hb : b.length ≤ k) (h : 2 * k < (a ++ b).length) : loI a ≤ nth (a ++ b) k ∧ nth (a ++ b) ((a ++ b).length - 1 - k) ≤ hiI a := by
  have hl : (a ++ b).length = a.length + b.length := List.length_append
  have ha : a ≠ [] := by rintro rfl; rw [hl] at h; simp at h; omega
  constructor
  · refine Int.not_lt.1 fun hlt => ?_
    have h1 := (nth_le (a ++ b) k (by omega) (loI a - 1)).1 (by omega)
    rw [cle_append, cle_zero (l := a) (fun y hy => by have := (lo_spec ha).2 y hy; omega)] at h1
    have := cle_le (loI a - 1) b
    omega
  · rw [nth_le _ _ (by omega), cle_append, cle_all (fun y hy => (hi_spec ha).2 y hy)]
    omega
theorem middle_right (a b : List Int) (k : Nat) (hb : b.length ≤ k) (h : 2 * k < (a ++ b).length) (d : Int) (hd : d = (k : Int)) (he : midE d (a ++ b) = 0) : loI a ≤ midV d (a ++ b) ∧ midV d (a ++ b) ≤ hiI a := by
  obtain ⟨h1, h2⟩ := nth_ends a b k hb h
  have h3 := nth_mono (a ++ b) k ((a ++ b).length - 1 - k) (by omega) (by omega)
  rw [midV_ok hd he]
  omega
/-- What two tell of the same right ones. -/
theorem nth_pair (a b : List Int) (k : Nat) (hb : b.length ≤ k) (h : 2 * k < a.length) :
    loI a ≤ nth (a ++ b) k ∧ nth (a ++ b) k ≤ nth a k ∧ nth a (a.length - 1 - k) ≤ nth (a ++ b) ((a ++ b).length - 1 - k) ∧ nth (a ++ b) ((a ++ b).length - 1 - k) ≤ hiI a := by
  have hl : (a ++ b).length = a.length + b.length := List.length_append
  obtain ⟨h1, h2⟩ := nth_ends a b k hb (by omega)
  refine ⟨h1, ?_, ?_, h2⟩
  · rw [nth_le _ _ (by omega), cle_append]
    have := (nth_le a k (by omega) (nth a k)).1 (Int.le_refl _)
    omega
  · refine Int.not_lt.1 fun hlt => ?_
    have h3 := (nth_le (a ++ b) ((a ++ b).length - 1 - k) (by omega) (nth a (a.length - 1 - k) - 1)).1 (by omega)
    rw [cle_append] at h3
    have h4 : ¬ (a.length - 1 - k < cle (nth a (a.length - 1 - k) - 1) a) := by rw [← nth_le a _ (by omega)]; omega
    have := cle_le (nth a (a.length - 1 - k) - 1) b
    omega
theorem middle_pair (a b c : List Int) (k : Nat) (hb : b.length ≤ k) (hc : c.length ≤ k) (h : 2 * k < a.length) (d : Int) (hd : d = (k : Int)) (h1 : midE d (a ++ b) = 0) (h2 : midE d (c ++ a) = 0) :
    2 * (midV d (a ++ b) - midV d (c ++ a)) ≤ hiI a - loI a + 1 ∧ 2 * (midV d (c ++ a) - midV d (a ++ b)) ≤ hiI a - loI a + 1 := by
  have hp : (c ++ a).Perm (a ++ c) := List.perm_append_comm
  rw [midV_perm hp]
  rw [midE_perm hp] at h2
  obtain ⟨x1, x2, x3, x4⟩ := nth_pair a b k hb h
  obtain ⟨y1, y2, y3, y4⟩ := nth_pair a c k hc h
  have h3 := nth_mono a k (a.length - 1 - k) (by omega) (by omega)
  rw [midV_ok hd h1, midV_ok hd h2]
  omega

/-! ## Shifts -/
theorem cle_map_add (v b : Int) (l : List Int) : cle v (l.map (· + b)) = cle (v - b) l := by
  unfold cle
  rw [List.countP_map]
  congr 1
  funext y
  simp only [Function.comp]
  apply decide_eq_decide.2
  omega
theorem nth_shift (l : List Int) (b : Int) (i : Nat) (h : i < l.length) : nth (l.map (· + b)) i = nth l i + b := by
  have h2 : i < (l.map (· + b)).length := by rw [List.length_map]; exact h
  have e : ∀ v, nth (l.map (· + b)) i ≤ v ↔ nth l i + b ≤ v := fun v => by
    rw [nth_le _ _ h2, cle_map_add, ← nth_le _ _ h]
    omega
  have := (e _).1 (Int.le_refl _)
  have := (e _).2 (Int.le_refl _)
  omega
theorem mid_shift (l : List Int) (b d : Int) (h1 : midE d l = 0) (h2 : midE d (l.map (· + b)) = 0) : midV d (l.map (· + b)) = midV d l + b := by
  obtain ⟨x1, x2, x3, x4⟩ := (midE_zero d l).1 h1
  have hd := (dropB_iff d).1 x1
  obtain ⟨k, rfl⟩ : ∃ k : Nat, d = (k : Int) := ⟨d.toNat, by omega⟩
  rw [midV_ok rfl h1, midV_ok rfl h2, List.length_map, nth_shift l b k (by omega), nth_shift l b _ (by omega)]
  omega
theorem lo_shift (l : List Int) (b : Int) (h : l ≠ []) : loI (l.map (· + b)) = loI l + b := by
  obtain ⟨h1, h2⟩ := lo_spec h
  refine lo_eq (List.mem_map.2 ⟨_, h1, rfl⟩) fun y hy => ?_
  obtain ⟨z, hz, rfl⟩ := List.mem_map.1 hy
  have := h2 z hz
  omega
theorem hi_shift (l : List Int) (b : Int) (h : l ≠ []) : hiI (l.map (· + b)) = hiI l + b := by
  obtain ⟨h1, h2⟩ := hi_spec h
  refine hi_eq (List.mem_map.2 ⟨_, h1, rfl⟩) fun y hy => ?_
  obtain ⟨z, hz, rfl⟩ := List.mem_map.1 hy
  have := h2 z hz
  omega
/-- Each is no less. -/
theorem cle_more (v : Int) : ∀ (a b : List Int), a.length = b.length → (∀ (i : Nat) (x y : Int), a[i]? = some x → b[i]? = some y → x ≤ y) → cle v b ≤ cle v a
  | [], [], _, _ => Nat.le_refl _
  | [], _ :: _, h, _ => by simp at h
  | _ :: _, [], h, _ => by simp at h
  | x :: a, y :: b, h, hx => by
    have h0 := hx 0 x y rfl rfl
    have ih := cle_more v a b (by simpa using h) (fun i p q hp hq => hx (i + 1) p q (by simpa using hp) (by simpa using hq))
    unfold cle at ih ⊢
    rw [List.countP_cons, List.countP_cons]
    by_cases hv : y ≤ v
    · simp [hv, show x ≤ v by omega]; omega
    · rw [if_neg (by simpa using hv)]
      omega
theorem nth_more (a b : List Int) (hl : a.length = b.length) (h : ∀ (i : Nat) (x y : Int), a[i]? = some x → b[i]? = some y → x ≤ y) (i : Nat) (hi : i < a.length) : nth a i ≤ nth b i := by
  have h1 := (nth_le b i (by omega) (nth b i)).1 (Int.le_refl _)
  have h2 := cle_more (nth b i) a b hl h
  rw [nth_le a i hi]
  omega
theorem mid_more (a b : List Int) (d : Int) (hl : a.length = b.length) (h : ∀ (i : Nat) (x y : Int), a[i]? = some x → b[i]? = some y → x ≤ y) (h1 : midE d a = 0) (h2 : midE d b = 0) : midV d a ≤ midV d b := by
  obtain ⟨x1, x2, x3, x4⟩ := (midE_zero d a).1 h1
  have hd := (dropB_iff d).1 x1
  obtain ⟨k, rfl⟩ : ∃ k : Nat, d = (k : Int) := ⟨d.toNat, by omega⟩
  have e1 := nth_more a b hl h k (by omega)
  have e2 := nth_more a b hl h (a.length - 1 - k) (by omega)
  rw [midV_ok rfl h1, midV_ok rfl h2, ← hl]
  omega
/-- The Middle lies between the least and the greatest. -/
theorem mid_between (l : List Int) (d : Int) (h : midE d l = 0) : loI l ≤ midV d l ∧ midV d l ≤ hiI l := by
  obtain ⟨x1, x2, x3, x4⟩ := (midE_zero d l).1 h
  have hd := (dropB_iff d).1 x1
  obtain ⟨k, hk⟩ : ∃ k : Nat, d = (k : Int) := ⟨d.toNat, by omega⟩
  have := middle_right l [] k (by simp) (by simp; omega) d hk (by simpa using h)
  simpa using this

end Go.Proofs.Ytllbhbekpnmlnaa

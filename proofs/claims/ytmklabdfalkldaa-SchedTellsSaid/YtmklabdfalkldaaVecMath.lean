/-
  Vectors: plain mathematics. A vector is what a number leaves, divided by 65536; its nodes are its bits.
-/
namespace Go.Proofs.Ytmklabdfalkldaa

/-- The vector that a number is. -/
def md (v : Int) : Nat := (v % 65536).toNat
theorem md_lt (v : Int) : md v < 65536 := by unfold md; omega
theorem md_nat (m : Nat) (h : m < 65536) : md (m : Int) = m := by unfold md; omega
theorem md_cast (v : Int) : ((md v : Nat) : Int) = v % 65536 := by unfold md; omega
theorem md_more (a k : Int) : md (a + 65536 * k) = md a := by unfold md; omega
theorem md_of (a : Int) (h0 : 0 ≤ a) (h1 : a < 65536) : ((md a : Nat) : Int) = a := by unfold md; omega

/-- Is it a node? -/
def nodeB (n : Int) : Bool := decide (0 ≤ n) && decide (n ≤ 15)
theorem nodeB_iff (n : Int) : nodeB n = true ↔ 0 ≤ n ∧ n ≤ 15 := by unfold nodeB; simp
theorem nodeB_no (n : Int) : nodeB n = false ↔ n < 0 ∨ 15 < n := by
  rw [← Bool.not_eq_true, nodeB_iff]; omega
theorem nodeB_nat (k : Nat) (h : k < 16) : nodeB (k : Int) = true := (nodeB_iff _).2 ⟨by omega, by omega⟩

/-- The vector of one node alone. -/
def bitI (n : Int) : Int := if nodeB n then ((2 ^ n.toNat : Nat) : Int) else 0

def hasB (v n : Int) : Bool := nodeB n && (md v).testBit n.toNat
def withI (v n : Int) : Int := ((if nodeB n then md v ||| 2 ^ n.toNat else md v : Nat) : Int)
def withoutI (v n : Int) : Int := ((if hasB v n then md v - 2 ^ n.toNat else md v : Nat) : Int)
def allN (n : Int) : Nat := 2 ^ (min (max n 0) 16).toNat - 1
def allI (n : Int) : Int := (allN n : Int)

/-- How many of the nodes below n it has. -/
def cb (m : Nat) : Nat → Nat
  | 0 => 0
  | n + 1 => cb m n + (m.testBit n).toNat
def countI (v : Int) : Int := (cb (md v) 16 : Int)

/-- Its nodes below k, rising. -/
def below (m k : Nat) : List Int := ((List.range k).filter m.testBit).map fun n : Nat => (n : Int)
def listI (v : Int) : List Int := below (md v) 16
def ofI (l : List Int) : Int := l.foldl withI 0
def mostB (v n : Int) : Bool := decide (1 ≤ n) && decide (n ≤ 16) && decide (n < 2 * (cb (md v) n.toNat : Int))

theorem two_pow_lt (k : Nat) (h : k < 16) : 2 ^ k < 65536 := Nat.pow_lt_pow_right (a := 2) (n := 16) (by omega) h

theorem below_zero (m : Nat) : below m 0 = [] := rfl
theorem below_hit (m k : Nat) (h : m.testBit k = true) : below m (k + 1) = below m k ++ [(k : Int)] := by
  unfold below
  rw [List.range_succ, List.filter_append, List.map_append]
  simp [h]
theorem below_miss (m k : Nat) (h : m.testBit k = false) : below m (k + 1) = below m k := by
  unfold below
  rw [List.range_succ, List.filter_append, List.map_append]
  simp [h]
theorem below_length (m k : Nat) : (below m k).length = cb m k := by
  induction k with
  | zero => rfl
  | succ k ih =>
    show _ = cb m k + (m.testBit k).toNat
    cases h : m.testBit k
    · rw [below_miss m k h, ih]; rfl
    · rw [below_hit m k h, List.length_append, ih]; rfl
theorem cb_le (m k : Nat) : cb m k ≤ k := by
  induction k with
  | zero => exact Nat.le_refl _
  | succ k ih =>
    show cb m k + (m.testBit k).toNat ≤ k + 1
    have := Bool.toNat_le (m.testBit k)
    omega
theorem below_pre (m k j : Nat) (h : k ≤ j) : below m k <+: below m j := by
  induction j with
  | zero =>
    have e : k = 0 := by omega
    rw [e]; exact List.prefix_refl _
  | succ j ih =>
    rcases Nat.eq_or_lt_of_le h with e | e
    · subst e; exact List.prefix_refl _
    · refine (ih (by omega)).trans ?_
      cases hb : m.testBit j
      · rw [below_miss m j hb]; exact List.prefix_refl _
      · rw [below_hit m j hb]; exact List.prefix_append _ _
theorem mem_below (m k : Nat) (x : Int) : x ∈ below m k ↔ ∃ n : Nat, n < k ∧ m.testBit n = true ∧ x = (n : Int) := by
  unfold below
  rw [List.mem_map]
  constructor
  · rintro ⟨n, hn, rfl⟩
    rw [List.mem_filter, List.mem_range] at hn
    exact ⟨n, hn.1, hn.2, rfl⟩
  · rintro ⟨n, h1, h2, rfl⟩
    exact ⟨n, by rw [List.mem_filter, List.mem_range]; exact ⟨h1, h2⟩, rfl⟩
theorem below_room (m k : Nat) (hk : k < 16) (hit : m.testBit k = true) : (below m k).length < (below m 16).length := by
  have h := (below_pre m (k + 1) 16 (by omega)).length_le
  rw [below_hit m k hit, List.length_append, List.length_singleton] at h
  omega

/-- More than sixteen bits no vector has. -/
theorem high_bit (m i : Nat) (h : m < 65536) (hi : 16 ≤ i) : m.testBit i = false :=
  Nat.testBit_lt_two_pow (Nat.lt_of_lt_of_le h (Nat.pow_le_pow_right (n := 2) (by omega) hi))
/-- Vectors of the same nodes are the same. -/
theorem vec_ext (a b : Nat) (ha : a < 65536) (hb : b < 65536) (h : ∀ i, i < 16 → a.testBit i = b.testBit i) : a = b := by
  apply Nat.eq_of_testBit_eq
  intro i
  rcases Nat.lt_or_ge i 16 with hi | hi
  · exact h i hi
  · rw [high_bit a i ha hi, high_bit b i hb hi]

theorem or_lt (a b : Nat) (ha : a < 65536) (hb : b < 65536) : a ||| b < 65536 := Nat.or_lt_two_pow (n := 16) ha hb
theorem and_lt (a b : Nat) (hb : b < 65536) : a &&& b < 65536 := Nat.lt_of_le_of_lt Nat.and_le_right hb

theorem withI_nat (v n : Int) : ∃ m : Nat, m < 65536 ∧ withI v n = (m : Int) ∧ ∀ i, i < 16 → m.testBit i = ((md v).testBit i || (nodeB n && decide (i = n.toNat))) := by
  unfold withI
  cases h : nodeB n
  · refine ⟨md v, md_lt v, by simp, fun i _ => by simp⟩
  · obtain ⟨h0, h1⟩ := (nodeB_iff n).1 h
    refine ⟨md v ||| 2 ^ n.toNat, or_lt _ _ (md_lt v) (two_pow_lt _ (by omega)), by simp, fun i _ => ?_⟩
    rw [Nat.testBit_or, Nat.testBit_two_pow]
    simp [eq_comm]
theorem split_bit (m k : Nat) : ∃ q r, r < 2 ^ k ∧ m = 2 ^ k * (2 * q + (m.testBit k).toNat) + r := by
  refine ⟨m / 2 ^ k / 2, m % 2 ^ k, Nat.mod_lt _ (Nat.pow_pos (by omega)), ?_⟩
  have h1 := Nat.div_add_mod m (2 ^ k)
  have h2 : m / 2 ^ k = 2 * (m / 2 ^ k / 2) + (m.testBit k).toNat := by
    rw [Nat.testBit_eq_decide_div_mod_eq]
    rcases Nat.mod_two_eq_zero_or_one (m / 2 ^ k) with h | h
    · simp only [h]; simp; omega
    · simp only [h]; simp; omega
  rw [← h2]
  omega
theorem bit_of_two (k q r i : Nat) (c : Bool) (hr : r < 2 ^ k) (h : i ≠ k) : (2 ^ k * (2 * q + c.toNat) + r).testBit i = (2 ^ k * (2 * q) + r).testBit i := by
  rw [Nat.testBit_two_pow_mul_add _ hr, Nat.testBit_two_pow_mul_add _ hr]
  rcases Nat.lt_or_ge i k with h1 | h1
  · rw [if_pos h1, if_pos h1]
  · rw [if_neg (by omega), if_neg (by omega)]
    obtain ⟨j, hj⟩ : ∃ j, i - k = j + 1 := ⟨i - k - 1, by omega⟩
    rw [hj, Nat.testBit_succ, Nat.testBit_succ]
    have e : (2 * q + c.toNat) / 2 = 2 * q / 2 := by cases c <;> simp <;> omega
    rw [e]
theorem bit_at_two (k q r : Nat) (c : Bool) (hr : r < 2 ^ k) : (2 ^ k * (2 * q + c.toNat) + r).testBit k = c := by
  rw [Nat.testBit_two_pow_mul_add _ hr, if_neg (by omega), Nat.sub_self, Nat.testBit_zero]
  cases c <;> simp <;> omega
/-- Its bit taken away. -/
theorem sub_bit (m k : Nat) (h : m.testBit k = true) (i : Nat) : (m - 2 ^ k).testBit i = (m.testBit i && decide (i ≠ k)) := by
  obtain ⟨q, r, hr, hm⟩ := split_bit m k
  rw [h] at hm
  have e : m - 2 ^ k = 2 ^ k * (2 * q + false.toNat) + r := by
    rw [hm]
    simp only [Bool.toNat_true, Bool.toNat_false, Nat.mul_add, Nat.mul_one]
    omega
  by_cases hi : i = k
  · subst hi
    rw [e, bit_at_two _ _ _ _ hr]; simp
  · rw [e, bit_of_two _ _ _ _ _ hr hi]
    have e2 : m.testBit i = (2 ^ k * (2 * q) + r).testBit i := by rw [hm, bit_of_two _ _ _ _ _ hr hi]
    rw [e2]; simp [hi]
/-- Its bit laid. -/
theorem add_bit (m k : Nat) (h : m.testBit k = false) (i : Nat) : (m + 2 ^ k).testBit i = (m.testBit i || decide (i = k)) := by
  obtain ⟨q, r, hr, hm⟩ := split_bit m k
  rw [h] at hm
  have e : m + 2 ^ k = 2 ^ k * (2 * q + true.toNat) + r := by
    rw [hm]
    simp only [Bool.toNat_true, Bool.toNat_false, Nat.mul_add, Nat.mul_one]
    omega
  by_cases hi : i = k
  · subst hi
    rw [e, bit_at_two _ _ _ _ hr]; simp
  · rw [e, bit_of_two _ _ _ _ _ hr hi]
    have e2 : m.testBit i = (2 ^ k * (2 * q) + r).testBit i := by rw [hm, bit_of_two _ _ _ _ _ hr hi]
    rw [e2]; simp [hi]
theorem or_bit (m k : Nat) (h : m.testBit k = false) : m ||| 2 ^ k = m + 2 ^ k := by
  apply Nat.eq_of_testBit_eq
  intro i
  rw [add_bit m k h, Nat.testBit_or, Nat.testBit_two_pow]
  simp [eq_comm]
theorem or_bit_there (m k : Nat) (h : m.testBit k = true) : m ||| 2 ^ k = m := by
  apply Nat.eq_of_testBit_eq
  intro i
  rw [Nat.testBit_or, Nat.testBit_two_pow]
  by_cases e : k = i
  · subst e; simp [h]
  · simp [e]

theorem withoutI_nat (v n : Int) : ∃ m : Nat, m < 65536 ∧ withoutI v n = (m : Int) ∧ ∀ i, i < 16 → m.testBit i = ((md v).testBit i && !(nodeB n && decide (i = n.toNat))) := by
  unfold withoutI
  cases hh : hasB v n
  · refine ⟨md v, md_lt v, by simp, fun i _ => ?_⟩
    unfold hasB at hh
    cases hn : nodeB n
    · simp
    · rw [hn, Bool.true_and] at hh
      by_cases e : i = n.toNat
      · subst e; simp [hh]
      · simp [e]
  · unfold hasB at hh
    rw [Bool.and_eq_true] at hh
    refine ⟨md v - 2 ^ n.toNat, Nat.lt_of_le_of_lt (Nat.sub_le _ _) (md_lt v), by simp, fun i _ => ?_⟩
    rw [sub_bit _ _ hh.2, hh.1]
    simp

theorem md_with (v n : Int) (i : Nat) (hi : i < 16) : (md (withI v n)).testBit i = ((md v).testBit i || (nodeB n && decide (i = n.toNat))) := by
  obtain ⟨m, h1, h2, h3⟩ := withI_nat v n
  rw [h2, md_nat m h1, h3 i hi]
theorem md_without (v n : Int) (i : Nat) (hi : i < 16) : (md (withoutI v n)).testBit i = ((md v).testBit i && !(nodeB n && decide (i = n.toNat))) := by
  obtain ⟨m, h1, h2, h3⟩ := withoutI_nat v n
  rw [h2, md_nat m h1, h3 i hi]
theorem withI_range (v n : Int) : 0 ≤ withI v n ∧ withI v n < 65536 := by
  obtain ⟨m, h1, h2, _⟩ := withI_nat v n
  rw [h2]; omega
theorem withoutI_range (v n : Int) : 0 ≤ withoutI v n ∧ withoutI v n < 65536 := by
  obtain ⟨m, h1, h2, _⟩ := withoutI_nat v n
  rw [h2]; omega
theorem withI_eq (v n : Int) (x : Int) (h0 : 0 ≤ x) (h1 : x < 65536) (h : ∀ i, i < 16 → (md x).testBit i = ((md v).testBit i || (nodeB n && decide (i = n.toNat)))) : withI v n = x := by
  have hr := withI_range v n
  rw [← md_of _ hr.1 hr.2, ← md_of x h0 h1]
  congr 1
  refine vec_ext _ _ (md_lt _) (md_lt _) fun i hi => ?_
  rw [md_with v n i hi, h i hi]
theorem vecI_ext (a b : Int) (ha0 : 0 ≤ a) (ha : a < 65536) (hb0 : 0 ≤ b) (hb : b < 65536) (h : ∀ i, i < 16 → (md a).testBit i = (md b).testBit i) : a = b := by
  rw [← md_of a ha0 ha, ← md_of b hb0 hb, vec_ext _ _ (md_lt _) (md_lt _) h]

theorem allN_lt (n : Int) : allN n < 65536 := by
  unfold allN
  have h : 2 ^ (min (max n 0) 16).toNat ≤ 2 ^ 16 := Nat.pow_le_pow_right (by omega) (by omega)
  have h2 : 0 < 2 ^ (min (max n 0) 16).toNat := Nat.pow_pos (by omega)
  omega
theorem md_all (n : Int) (i : Nat) (hi : i < 16) : (md (allI n)).testBit i = decide ((i : Int) < n) := by
  unfold allI
  rw [md_nat _ (allN_lt n)]
  unfold allN
  rw [Nat.testBit_two_pow_sub_one, decide_eq_decide]
  omega
theorem allI_range (n : Int) : 0 ≤ allI n ∧ allI n < 65536 := by
  have := allN_lt n
  unfold allI; omega

/-- Counted below n the nodes hang on the bits below n alone. -/
theorem cb_congr (a b n : Nat) (h : ∀ i, i < n → a.testBit i = b.testBit i) : cb a n = cb b n := by
  induction n with
  | zero => rfl
  | succ n ih =>
    show cb a n + _ = cb b n + _
    rw [ih fun i hi => h i (by omega), h n (by omega)]
theorem cb_cut (m k n : Nat) (hk : k ≤ n) (x : Nat) (h : ∀ i, i < n → x.testBit i = (m.testBit i && decide (i < k))) : cb x n = cb m k := by
  induction n with
  | zero =>
    have e : k = 0 := by omega
    rw [e]; rfl
  | succ n ih =>
    show cb x n + _ = _
    rcases Nat.eq_or_lt_of_le hk with e | e
    · rw [e]
      show _ = cb m n + _
      rw [h n (by omega), cb_congr x m n fun i hi => by rw [h i (by omega)]; simp; omega]
      simp [e]
    · rw [ih (by omega) fun i hi => h i (by omega), h n (by omega)]
      have : decide (n < k) = false := by simp; omega
      rw [this]; simp
theorem cb_sum (a b : Nat) (n : Nat) : cb (a ||| b) n + cb (a &&& b) n = cb a n + cb b n := by
  induction n with
  | zero => rfl
  | succ n ih =>
    show cb (a ||| b) n + _ + (cb (a &&& b) n + _) = cb a n + _ + (cb b n + _)
    rw [Nat.testBit_or, Nat.testBit_and]
    cases a.testBit n <;> cases b.testBit n <;> simp <;> omega
theorem cb_none (a n : Nat) (h : ∀ i, i < n → a.testBit i = false) : cb a n = 0 := by
  induction n with
  | zero => rfl
  | succ n ih =>
    show cb a n + _ = 0
    rw [ih fun i hi => h i (by omega), h n (by omega)]; rfl
theorem cb_full (a n : Nat) (h : ∀ i, i < n → a.testBit i = true) : cb a n = n := by
  induction n with
  | zero => rfl
  | succ n ih =>
    show cb a n + _ = n + 1
    rw [ih fun i hi => h i (by omega), h n (by omega)]; rfl
theorem cb_other (a b n : Nat) (h : ∀ i, i < n → b.testBit i = !a.testBit i) : cb a n + cb b n = n := by
  induction n with
  | zero => rfl
  | succ n ih =>
    show cb a n + _ + (cb b n + _) = n + 1
    have := ih fun i hi => h i (by omega)
    rw [h n (by omega)]
    cases a.testBit n <;> simp <;> omega
theorem cb_more (a b n : Nat) (h : ∀ i, i < n → a.testBit i = true → b.testBit i = true) : cb a n ≤ cb b n := by
  induction n with
  | zero => exact Nat.le_refl _
  | succ n ih =>
    show cb a n + _ ≤ cb b n + _
    have h1 := ih fun i hi => h i (by omega)
    have h2 := h n (by omega)
    cases ha : a.testBit n
    · simp; omega
    · rw [h2 ha]; simp; omega

theorem mostB_of (v n : Int) (h1 : 1 ≤ n) (h2 : n ≤ 16) : mostB v n = decide (n < 2 * (cb (md v) n.toNat : Int)) := by
  unfold mostB; simp [h1, h2]
theorem mostB_no (v n : Int) (h : ¬(1 ≤ n ∧ n ≤ 16)) : mostB v n = false := by
  unfold mostB
  by_cases h1 : 1 ≤ n <;> by_cases h2 : n ≤ 16
  · exact absurd ⟨h1, h2⟩ h
  all_goals simp [h1, h2]
theorem mostB_nat (v : Int) (k : Nat) (h1 : 1 ≤ k) (h2 : k ≤ 16) : mostB v (k : Int) = decide (k < 2 * cb (md v) k) := by
  rw [mostB_of v _ (by omega) (by omega), decide_eq_decide]
  rw [Int.toNat_natCast]; omega

/-- What the vector of a list has. -/
theorem ofI_bits (l : List Int) (v : Int) (i : Nat) (hi : i < 16) : (md (l.foldl withI v)).testBit i = ((md v).testBit i || l.any fun n => nodeB n && decide (i = n.toNat)) := by
  induction l generalizing v with
  | nil => simp
  | cons n l ih =>
    rw [List.foldl_cons, ih, md_with v n i hi, List.any_cons, Bool.or_assoc]
theorem ofI_range (l : List Int) : 0 ≤ ofI l ∧ ofI l < 65536 := by
  unfold ofI
  suffices h : ∀ (l : List Int) (v : Int), 0 ≤ v ∧ v < 65536 → 0 ≤ l.foldl withI v ∧ l.foldl withI v < 65536 from h l 0 ⟨by omega, by omega⟩
  intro l
  induction l with
  | nil => exact fun v h => h
  | cons n l ih => exact fun v _ => ih _ (withI_range v n)
theorem ofI_snoc (l : List Int) (n : Int) : ofI (l ++ [n]) = withI (ofI l) n := by unfold ofI; rw [List.foldl_append]; rfl
theorem md_of_list (l : List Int) (i : Nat) (hi : i < 16) : (md (ofI l)).testBit i = l.any fun n => nodeB n && decide (i = n.toNat) := by
  unfold ofI
  rw [ofI_bits l 0 i hi]
  have : (md 0) = 0 := rfl
  rw [this, Nat.zero_testBit, Bool.false_or]
theorem any_below (m k i : Nat) (hk : k ≤ 16) : ((below m k).any fun n => nodeB n && decide (i = n.toNat)) = (decide (i < k) && m.testBit i) := by
  rw [Bool.eq_iff_iff, List.any_eq_true]
  simp only [Bool.and_eq_true, decide_eq_true_eq]
  constructor
  · rintro ⟨x, hx, hn, e⟩
    obtain ⟨n, h1, h2, rfl⟩ := (mem_below m k x).1 hx
    rw [Int.toNat_natCast] at e
    subst e
    exact ⟨h1, h2⟩
  · rintro ⟨h1, h2⟩
    exact ⟨(i : Int), (mem_below m k _).2 ⟨i, h1, h2, rfl⟩, nodeB_nat i (by omega), by rw [Int.toNat_natCast]⟩
theorem any_list (a : Int) (i : Nat) (hi : i < 16) : ((listI a).any fun n => nodeB n && decide (i = n.toNat)) = (md a).testBit i := by
  unfold listI
  rw [any_below _ 16 i (Nat.le_refl _)]
  simp [hi]

end Go.Proofs.Ytmklabdfalkldaa

/-
  Plans, spots and times: plain mathematics.
-/
import Derived.Test.YtmklabdfalkldaaVecLists
namespace Go.Proofs.Ytmklabdfalkldaa

/-- A slot: whose, and how many ticks. -/
abbrev Pl := List (Int × Int)
def nodesS (l : Pl) : Int := ofI (l.map Prod.fst)
def tickB (x : Int) : Bool := decide (1 ≤ x) && decide (x ≤ 1000)
theorem tickB_iff (x : Int) : tickB x = true ↔ 1 ≤ x ∧ x ≤ 1000 := by unfold tickB; simp
def rightS (l : Pl) (c : Int) : Bool := (decide (2 ≤ l.length) && decide (l.length ≤ 16)) && ((decide (1 ≤ c) && decide (c ≤ 64)) && (l.all (fun s => tickB s.2) && decide (countI (nodesS l) = (l.length : Int))))
theorem rightS_iff (l : Pl) (c : Int) : rightS l c = true ↔ (2 ≤ l.length ∧ l.length ≤ 16) ∧ (1 ≤ c ∧ c ≤ 64) ∧ (∀ s ∈ l, 1 ≤ s.2 ∧ s.2 ≤ 1000) ∧ countI (nodesS l) = (l.length : Int) := by
  unfold rightS
  simp only [Bool.and_eq_true, decide_eq_true_eq, List.all_eq_true, tickB_iff]

theorem hasB_of (l : List Int) (n : Int) : hasB (ofI l) n = (nodeB n && l.any fun x => nodeB x && decide (x = n)) := by
  unfold hasB
  cases hn : nodeB n
  · rfl
  · rw [Bool.true_and, Bool.true_and]
    have h := (nodeB_iff n).1 hn
    rw [md_of_list l n.toNat (by omega)]
    rw [Bool.eq_iff_iff, List.any_eq_true, List.any_eq_true]
    constructor
    · rintro ⟨x, hx, h2⟩
      rw [Bool.and_eq_true, decide_eq_true_eq] at h2
      have h3 := (nodeB_iff x).1 h2.1
      exact ⟨x, hx, by rw [Bool.and_eq_true, decide_eq_true_eq]; exact ⟨h2.1, by omega⟩⟩
    · rintro ⟨x, hx, h2⟩
      rw [Bool.and_eq_true, decide_eq_true_eq] at h2
      exact ⟨x, hx, by rw [Bool.and_eq_true, decide_eq_true_eq]; exact ⟨h2.1, by rw [h2.2]⟩⟩
theorem withI_same (v n : Int) (h0 : 0 ≤ v) (h1 : v < 65536) (h : nodeB n = false ∨ hasB v n = true) : withI v n = v := by
  refine withI_eq v n v h0 h1 fun i hi => ?_
  rcases h with h | h
  · rw [h, Bool.false_and, Bool.or_false]
  · unfold hasB at h
    rw [Bool.and_eq_true] at h
    cases hd : decide (i = n.toNat)
    · simp
    · rw [decide_eq_true_eq] at hd
      subst hd
      rw [h.2, Bool.true_or]
theorem withoutI_same (v n : Int) (h0 : 0 ≤ v) (h1 : v < 65536) (h : hasB v n = false) : withoutI v n = v := by
  unfold withoutI
  rw [h]
  exact md_of v h0 h1
theorem count_with_new (v n : Int) (h0 : 0 ≤ v) (h1 : v < 65536) (hn : nodeB n = true) (h : hasB v n = false) : countI (withI v n) = countI v + 1 := by
  have k := (nodeB_iff n).1 hn
  have := count_with v n k.1 (by omega)
  rwa [withoutI_same v n h0 h1 h] at this

/-- All of a list are nodes, each once. -/
def OnceS (l : List Int) : Prop := (∀ x ∈ l, nodeB x = true) ∧ l.Pairwise (· ≠ ·)
theorem onceS_snoc (l : List Int) (n : Int) : OnceS (l ++ [n]) ↔ OnceS l ∧ nodeB n = true ∧ ∀ x ∈ l, x ≠ n := by
  unfold OnceS
  rw [List.pairwise_append]
  constructor
  · rintro ⟨h1, h2, -, h3⟩
    exact ⟨⟨fun x hx => h1 x (by simp [hx]), h2⟩, h1 n (by simp), fun x hx => h3 x hx n (by simp)⟩
  · rintro ⟨⟨h1, h2⟩, h3, h4⟩
    refine ⟨fun x hx => ?_, h2, List.pairwise_singleton _ _, fun a ha b hb => ?_⟩
    · rcases List.mem_append.1 hx with h | h
      · exact h1 x h
      · rw [List.mem_singleton.1 h]; exact h3
    · rw [List.mem_singleton.1 hb]; exact h4 a ha
theorem count_once (l : List Int) : countI (ofI l) ≤ l.length ∧ (countI (ofI l) = l.length ↔ OnceS l) := by
  induction h : l.length generalizing l with
  | zero =>
    obtain rfl := List.length_eq_zero_iff.1 h
    exact ⟨by decide, by constructor <;> intro _ <;> first | exact ⟨fun x hx => absurd hx (by simp), List.Pairwise.nil⟩ | decide⟩
  | succ k ih =>
    obtain ⟨m, n, rfl⟩ : ∃ m n, l = m ++ [n] := ⟨l.dropLast, l.getLast (by intro e; simp [e] at h), (List.dropLast_concat_getLast _).symm⟩
    have hm : m.length = k := by simpa using h
    obtain ⟨i1, i2⟩ := ih m hm
    rw [ofI_snoc, onceS_snoc]
    have hr := ofI_range m
    cases hn : nodeB n
    · rw [withI_same _ n hr.1 hr.2 (.inl hn)]
      refine ⟨by omega, ⟨fun e => by omega, fun e => absurd e.2.1 (by decide)⟩⟩
    · cases hh : hasB (ofI m) n
      · rw [count_with_new _ n hr.1 hr.2 hn hh]
        refine ⟨by omega, ⟨fun e => ⟨i2.1 (by omega), rfl, fun x hx e2 => ?_⟩, fun e => ?_⟩⟩
        · subst e2
          rw [hasB_of, hn, Bool.true_and] at hh
          rw [List.any_eq_false] at hh
          exact hh x hx (by rw [hn]; simp)
        · have := i2.2 e.1; omega
      · rw [withI_same _ n hr.1 hr.2 (.inr hh)]
        refine ⟨by omega, ⟨fun e => by omega, fun e => ?_⟩⟩
        rw [hasB_of, hn, Bool.true_and, List.any_eq_true] at hh
        obtain ⟨x, hx, h2⟩ := hh
        rw [Bool.and_eq_true, decide_eq_true_eq] at h2
        exact absurd h2.2 (e.2.2 x hx)
/-- What a right plan is, told slot by slot. -/
theorem rightS_each (l : Pl) (c : Int) : rightS l c = true ↔ (2 ≤ l.length ∧ l.length ≤ 16) ∧ (1 ≤ c ∧ c ≤ 64) ∧ (∀ s ∈ l, 1 ≤ s.2 ∧ s.2 ≤ 1000) ∧ (∀ s ∈ l, 0 ≤ s.1 ∧ s.1 ≤ 15) ∧ (l.map Prod.fst).Pairwise (· ≠ ·) := by
  rw [rightS_iff]
  have h := (count_once (l.map Prod.fst)).2
  rw [List.length_map] at h
  unfold nodesS
  rw [h]
  unfold OnceS
  constructor
  · rintro ⟨a, b, c, d, e⟩
    exact ⟨a, b, c, fun s hs => (nodeB_iff _).1 (d s.1 (List.mem_map.2 ⟨s, hs, rfl⟩)), e⟩
  · rintro ⟨a, b, c, d, e⟩
    refine ⟨a, b, c, fun x hx => ?_, e⟩
    obtain ⟨s, hs, rfl⟩ := List.mem_map.1 hx
    exact (nodeB_iff _).2 (d s hs)

/-- How many ticks all slots have; those ahead of a place. -/
def sumS : Pl → Int
  | [] => 0
  | s :: l => s.2 + sumS l
def aheadS (l : Pl) (k : Nat) : Int := sumS (l.take k)
theorem sumS_append (a b : Pl) : sumS (a ++ b) = sumS a + sumS b := by
  induction a with
  | nil => simp [sumS]
  | cons s a ih => simp only [List.cons_append, sumS, ih]; omega
theorem aheadS_zero (l : Pl) : aheadS l 0 = 0 := rfl
theorem aheadS_all (l : Pl) : aheadS l l.length = sumS l := by unfold aheadS; rw [List.take_length]
theorem aheadS_succ (l : Pl) (k : Nat) (s : Int × Int) (h : l[k]? = some s) : aheadS l (k + 1) = aheadS l k + s.2 := by
  unfold aheadS
  rw [List.take_add_one, h, sumS_append]
  simp [sumS]
def Ticked (l : Pl) : Prop := ∀ s ∈ l, 1 ≤ s.2 ∧ s.2 ≤ 1000
theorem aheadS_bounds {l : Pl} (h : Ticked l) (k : Nat) (hk : k ≤ l.length) : (k : Int) ≤ aheadS l k ∧ aheadS l k ≤ 1000 * k := by
  induction k with
  | zero => rw [aheadS_zero]; omega
  | succ k ih =>
    obtain ⟨s, hs⟩ : ∃ s, l[k]? = some s := ⟨_, List.getElem?_eq_getElem (by omega)⟩
    have := h s (List.mem_of_getElem? hs)
    rw [aheadS_succ l k s hs]
    have := ih (by omega)
    omega
theorem aheadS_mono {l : Pl} (h : Ticked l) {j k : Nat} (hjk : j ≤ k) (hk : k ≤ l.length) : aheadS l j ≤ aheadS l k := by
  induction k with
  | zero => have : j = 0 := by omega
            subst this; omega
  | succ k ih =>
    rcases Nat.lt_or_ge j (k + 1) with hj | hj
    · obtain ⟨s, hs⟩ : ∃ s, l[k]? = some s := ⟨_, List.getElem?_eq_getElem (by omega)⟩
      have := h s (List.mem_of_getElem? hs)
      rw [aheadS_succ l k s hs]
      have := ih (by omega) (by omega)
      omega
    · have : j = k + 1 := by omega
      subst this; omega
def roundS (l : Pl) (c : Int) : Int := if rightS l c = true then sumS l else 0

/-- Which slot a tick of a round is in, and which tick of it. -/
def seekS : Pl → Int → Nat × Int
  | [], r => (0, r)
  | s :: l, r => if s.2 ≤ r then ((seekS l (r - s.2)).1 + 1, (seekS l (r - s.2)).2) else (0, r)
theorem seekS_at : ∀ (l : Pl) (k : Nat) (s : Int × Int) (x : Int), Ticked l → l[k]? = some s → 0 ≤ x → x < s.2 → seekS l (aheadS l k + x) = (k, x)
  | [], k, s, x, _, h, _, _ => by simp at h
  | s' :: l, 0, s, x, ht, h, h0, h1 => by
    have e : s' = s := by simpa using h
    subst e
    rw [aheadS_zero, Int.zero_add]
    unfold seekS
    rw [if_neg (by omega)]
  | s' :: l, k + 1, s, x, ht, h, h0, h1 => by
    have htl : Ticked l := fun a ha => ht a (by simp [ha])
    have hk : l[k]? = some s := by simpa using h
    have ea : aheadS (s' :: l) (k + 1) = s'.2 + aheadS l k := rfl
    have hb := (aheadS_bounds htl k (by have := (List.getElem?_eq_some_iff.1 hk).1; omega)).1
    rw [ea]
    unfold seekS
    rw [if_pos (by omega), show s'.2 + aheadS l k + x - s'.2 = aheadS l k + x from by omega, seekS_at l k s x htl hk h0 h1]
theorem seekS_is : ∀ (l : Pl) (r : Int), Ticked l → 0 ≤ r → r < sumS l → ∃ (k : Nat) (s : Int × Int) (x : Int), l[k]? = some s ∧ 0 ≤ x ∧ x < s.2 ∧ r = aheadS l k + x ∧ seekS l r = (k, x)
  | [], r, _, h0, h1 => by unfold sumS at h1; omega
  | s :: l, r, ht, h0, h1 => by
    have e1 : sumS (s :: l) = s.2 + sumS l := rfl
    rw [e1] at h1
    by_cases h : s.2 ≤ r
    · obtain ⟨k, s', x, a, b, c, d, e⟩ := seekS_is l (r - s.2) (fun a ha => ht a (by simp [ha])) (by omega) (by omega)
      refine ⟨k + 1, s', x, by simpa using a, b, c, ?_, ?_⟩
      · have ea : aheadS (s :: l) (k + 1) = s.2 + aheadS l k := rfl
        rw [ea]; omega
      · unfold seekS
        rw [if_pos h, e]
    · refine ⟨0, s, r, rfl, h0, by omega, ?_, ?_⟩
      · rw [aheadS_zero]; omega
      · unfold seekS
        rw [if_neg h]

/-- Where a time stands. -/
structure Spot where
  cyc : Int
  rnd : Int
  slt : Int
  tck : Int
  deriving DecidableEq
def zeroSp : Spot := ⟨0, 0, 0, 0⟩
def maxT : Int := 1099511627776
def valS (l : Pl) (c : Int) (s : Spot) : Int := (s.cyc * c + s.rnd) * sumS l + aheadS l s.slt.toNat + s.tck
/-- A spot's numbers are within bounds. -/
def InS (l : Pl) (c : Int) (s : Spot) : Prop := 0 ≤ s.cyc ∧ (0 ≤ s.rnd ∧ s.rnd < c) ∧ 0 ≤ s.slt ∧ ∃ p, l[s.slt.toNat]? = some p ∧ 0 ≤ s.tck ∧ s.tck < p.2
def spotS (l : Pl) (c t : Int) : Spot := ⟨t / sumS l / c, t / sumS l % c, (seekS l (t % sumS l)).1, (seekS l (t % sumS l)).2⟩

theorem sumS_pos {l : Pl} (h : Ticked l) (hl : l ≠ []) : 1 ≤ sumS l ∧ (l.length : Int) ≤ sumS l ∧ sumS l ≤ 1000 * l.length := by
  have h1 := aheadS_bounds h l.length (Nat.le_refl _)
  rw [aheadS_all] at h1
  have := List.length_pos_iff.2 hl
  omega
theorem div_two {a R r : Int} (h0 : 0 ≤ r) (h1 : r < R) : (a * R + r) / R = a ∧ (a * R + r) % R = r := by
  have hR : R ≠ 0 := by omega
  refine ⟨?_, ?_⟩
  · rw [Int.add_comm, Int.add_mul_ediv_right _ _ hR, Int.ediv_eq_zero_of_lt h0 h1, Int.zero_add]
  · rw [Int.add_comm, Int.add_mul_emod_self_right, Int.emod_eq_of_lt h0 h1]
theorem valS_rest {l : Pl} {c : Int} {s : Spot} (ht : Ticked l) (h : InS l c s) : 0 ≤ aheadS l s.slt.toNat + s.tck ∧ aheadS l s.slt.toNat + s.tck < sumS l := by
  obtain ⟨-, -, -, p, hp, h0, h1⟩ := h
  have hk := (List.getElem?_eq_some_iff.1 hp).1
  have a := (aheadS_bounds ht s.slt.toNat (by omega)).1
  have b := aheadS_mono ht (j := s.slt.toNat + 1) (k := l.length) (by omega) (Nat.le_refl _)
  rw [aheadS_succ l _ p hp, aheadS_all] at b
  omega
/-- The spot of the time of a spot is that spot. -/
theorem spot_val {l : Pl} {c : Int} {s : Spot} (ht : Ticked l) (h : InS l c s) : spotS l c (valS l c s) = s := by
  obtain ⟨r0, r1⟩ := valS_rest ht h
  obtain ⟨h1, ⟨h2, h3⟩, h4, p, hp, h5, h6⟩ := h
  have e : valS l c s = (s.cyc * c + s.rnd) * sumS l + (aheadS l s.slt.toNat + s.tck) := by unfold valS; omega
  obtain ⟨d1, d2⟩ := div_two (a := s.cyc * c + s.rnd) r0 r1
  obtain ⟨d3, d4⟩ := div_two (a := s.cyc) h2 h3
  unfold spotS
  rw [e, d1, d2, d3, d4, seekS_at l s.slt.toNat p s.tck ht hp h5 h6]
  rcases s with ⟨a, b, k, x⟩
  simp only [Spot.mk.injEq, true_and, and_true]
  exact Int.toNat_of_nonneg h4
/-- The time of the spot of a time is that time; and it is one that may be. -/
theorem val_spot {l : Pl} {c t : Int} (ht : Ticked l) (hl : l ≠ []) (hc : 1 ≤ c) (h : 0 ≤ t) : valS l c (spotS l c t) = t ∧ InS l c (spotS l c t) := by
  have hR := (sumS_pos ht hl).1
  obtain ⟨k, s, x, a, b, c', d, e⟩ := seekS_is l (t % sumS l) ht (Int.emod_nonneg _ (by omega)) (Int.emod_lt_of_pos _ (by omega))
  have hq : 0 ≤ t / sumS l := Int.ediv_nonneg h (by omega)
  have em1 := Int.mul_ediv_add_emod (t / sumS l) c
  have em2 := Int.mul_ediv_add_emod t (sumS l)
  refine ⟨?_, ?_⟩
  · unfold valS spotS
    simp only [e, Int.toNat_natCast]
    rw [Int.mul_comm (t / sumS l / c) c, em1, Int.mul_comm (t / sumS l)]
    omega
  · unfold InS spotS
    simp only [e, Int.toNat_natCast]
    exact ⟨Int.ediv_nonneg hq (by omega), ⟨Int.emod_nonneg _ (by omega), Int.emod_lt_of_pos _ (by omega)⟩, by omega, s, a, b, c'⟩

/-- Time, At and Later, as functions: what they tell, and the error. -/
def inB (l : Pl) (c : Int) (s : Spot) : Bool := rightS l c && ((decide (0 ≤ s.cyc) && decide (s.cyc ≤ maxT)) && ((decide (0 ≤ s.rnd) && decide (s.rnd < c)) && ((decide (0 ≤ s.slt) && decide (s.slt < l.length)) && (decide (0 ≤ s.tck) && decide (s.tck < (l.getD s.slt.toNat (0, 0)).2)))))
theorem inB_iff (l : Pl) (c : Int) (s : Spot) : inB l c s = true ↔ rightS l c = true ∧ (0 ≤ s.cyc ∧ s.cyc ≤ maxT) ∧ (0 ≤ s.rnd ∧ s.rnd < c) ∧ (0 ≤ s.slt ∧ s.slt < l.length) ∧ 0 ≤ s.tck ∧ s.tck < (l.getD s.slt.toNat (0, 0)).2 := by
  unfold inB; simp only [Bool.and_eq_true, decide_eq_true_eq]
theorem inB_in {l : Pl} {c : Int} {s : Spot} (h : inB l c s = true) : InS l c s := by
  obtain ⟨-, ⟨h1, -⟩, h2, ⟨h3, h4⟩, h5, h6⟩ := (inB_iff l c s).1 h
  have hk : s.slt.toNat < l.length := by omega
  refine ⟨h1, h2, h3, l[s.slt.toNat], List.getElem?_eq_getElem hk, h5, ?_⟩
  have e : l.getD s.slt.toNat (0, 0) = l[s.slt.toNat] := by simp [List.getD, List.getElem?_eq_getElem hk]
  rwa [e] at h6
theorem in_inB {l : Pl} {c : Int} {s : Spot} (hr : rightS l c = true) (h : InS l c s) (hm : s.cyc ≤ maxT) : inB l c s = true := by
  obtain ⟨h1, h2, h3, p, hp, h5, h6⟩ := h
  have hk := (List.getElem?_eq_some_iff.1 hp).1
  have e : l.getD s.slt.toNat (0, 0) = p := by simp [List.getD, hp]
  rw [inB_iff, e]
  exact ⟨hr, ⟨h1, hm⟩, h2, ⟨h3, by omega⟩, h5, h6⟩
def timeE (l : Pl) (c : Int) (s : Spot) : Int := if inB l c s = true ∧ valS l c s ≤ maxT then 0 else 1
def timeV (l : Pl) (c : Int) (s : Spot) : Int := if timeE l c s = 0 then valS l c s else 0
theorem timeE_zero (l : Pl) (c : Int) (s : Spot) : timeE l c s = 0 ↔ inB l c s = true ∧ valS l c s ≤ maxT := by
  unfold timeE
  split <;> simp_all
theorem timeE_one (l : Pl) (c : Int) (s : Spot) (h : ¬ (inB l c s = true ∧ valS l c s ≤ maxT)) : timeE l c s = 1 ∧ timeV l c s = 0 := by
  have e : timeE l c s = 1 := by unfold timeE; rw [if_neg h]
  refine ⟨e, ?_⟩
  unfold timeV; rw [e, if_neg (by decide)]
theorem timeE_two (l : Pl) (c : Int) (s : Spot) : timeE l c s = 0 ∨ timeE l c s = 1 := by unfold timeE; split <;> simp
theorem timeV_of {l : Pl} {c : Int} {s : Spot} (h : timeE l c s = 0) : timeV l c s = valS l c s := by unfold timeV; rw [if_pos h]
def atB (l : Pl) (c t : Int) : Bool := rightS l c && (decide (0 ≤ t) && decide (t ≤ maxT))
def atE (l : Pl) (c t : Int) : Int := if atB l c t = true then 0 else 1
def atV (l : Pl) (c t : Int) : Spot := if atB l c t = true then spotS l c t else zeroSp
theorem atB_iff (l : Pl) (c t : Int) : atB l c t = true ↔ rightS l c = true ∧ 0 ≤ t ∧ t ≤ maxT := by
  unfold atB; simp only [Bool.and_eq_true, decide_eq_true_eq]
def nextS (l : Pl) (c : Int) (s : Spot) (m : Int) : Spot := ⟨(s.cyc * c + s.rnd + (s.slt + m) / l.length) / c, (s.cyc * c + s.rnd + (s.slt + m) / l.length) % c, (s.slt + m) % l.length, 0⟩
def laterB (l : Pl) (c : Int) (s : Spot) (m : Int) : Bool := decide (timeE l c s = 0) && (decide (0 ≤ m) && decide (m ≤ 1073741824))
def laterE (l : Pl) (c : Int) (s : Spot) (m : Int) : Int := if laterB l c s m = true then (if m = 0 then 0 else timeE l c (nextS l c s m)) else 1
def laterV (l : Pl) (c : Int) (s : Spot) (m : Int) : Spot := if laterE l c s m = 0 then (if m = 0 then s else nextS l c s m) else zeroSp
theorem laterB_iff (l : Pl) (c : Int) (s : Spot) (m : Int) : laterB l c s m = true ↔ timeE l c s = 0 ∧ 0 ≤ m ∧ m ≤ 1073741824 := by
  unfold laterB; simp only [Bool.and_eq_true, decide_eq_true_eq]

theorem rightS_ticked {l : Pl} {c : Int} (h : rightS l c = true) : Ticked l := ((rightS_iff l c).1 h).2.2.1
theorem rightS_len {l : Pl} {c : Int} (h : rightS l c = true) : 2 ≤ l.length ∧ l.length ≤ 16 := ((rightS_iff l c).1 h).1
theorem rightS_cyc {l : Pl} {c : Int} (h : rightS l c = true) : 1 ≤ c ∧ c ≤ 64 := ((rightS_iff l c).1 h).2.1
theorem rightS_sum {l : Pl} {c : Int} (h : rightS l c = true) : 2 ≤ sumS l ∧ sumS l ≤ 16000 ∧ (l.length : Int) ≤ sumS l := by
  have h1 := rightS_len h
  have := sumS_pos (rightS_ticked h) (by intro e; rw [e] at h1; simp at h1)
  omega
theorem rightS_ne {l : Pl} {c : Int} (h : rightS l c = true) : l ≠ [] := by
  have h1 := rightS_len h
  intro e; rw [e] at h1; simp at h1
theorem valS_bounds {l : Pl} {c : Int} {s : Spot} (h : inB l c s = true) : 0 ≤ s.cyc * c + s.rnd ∧ s.cyc * c + s.rnd ≤ 70368744177727 ∧ 0 ≤ (s.cyc * c + s.rnd) * sumS l ∧ (s.cyc * c + s.rnd) * sumS l ≤ 1125899906843632000 ∧ (s.cyc * c + s.rnd) ≤ (s.cyc * c + s.rnd) * sumS l := by
  obtain ⟨hr, ⟨h1, h1'⟩, ⟨h2, h2'⟩, -⟩ := (inB_iff l c s).1 h
  have hc := rightS_cyc hr
  have hS := rightS_sum hr
  unfold maxT at h1'
  have a : 0 ≤ s.cyc * c := Int.mul_nonneg h1 (by omega)
  have b : s.cyc * c ≤ 1099511627776 * 64 := Int.mul_le_mul h1' hc.2 (by omega) (by omega)
  have hq : 0 ≤ s.cyc * c + s.rnd := by omega
  have hq' : s.cyc * c + s.rnd ≤ 70368744177727 := by omega
  generalize s.cyc * c + s.rnd = q at *
  have d : 0 ≤ q * sumS l := Int.mul_nonneg hq (by omega)
  have e : q * sumS l ≤ 70368744177727 * 16000 := Int.mul_le_mul hq' hS.2.1 (by omega) (by omega)
  have f : q * 1 ≤ q * sumS l := Int.mul_le_mul_of_nonneg_left (by omega) hq
  omega

/-- The place of a node's slot. -/
def slotK (l : Pl) (n : Int) : Option Nat := l.findIdx? fun s => decide (s.1 = n)
theorem slotK_some {l : Pl} {n : Int} {k : Nat} {s : Int × Int} (h : l[k]? = some s) (hs : s.1 = n) (hb : ∀ (j : Nat) (x : Int × Int), j < k → l[j]? = some x → x.1 ≠ n) : slotK l n = some k := by
  unfold slotK
  rw [List.findIdx?_eq_some_iff_getElem]
  have hk := (List.getElem?_eq_some_iff.1 h).1
  have e := (List.getElem?_eq_some_iff.1 h).2
  refine ⟨hk, by rw [e]; simpa using hs, fun j hj => ?_⟩
  have := hb j (l[j]'(by omega)) hj (List.getElem?_eq_getElem (by omega))
  simpa using this
theorem slotK_none {l : Pl} {n : Int} (hb : ∀ (j : Nat) (x : Int × Int), l[j]? = some x → x.1 ≠ n) : slotK l n = none := by
  unfold slotK
  rw [List.findIdx?_eq_none_iff]
  intro x hx
  obtain ⟨j, hj⟩ := List.getElem?_of_mem hx
  simpa using hb j x hj
def slotV (l : Pl) (c n : Int) : Int := if rightS l c = true then ((slotK l n).getD 0 : Nat) else 0
def slotB (l : Pl) (c n : Int) : Bool := rightS l c && (slotK l n).isSome

end Go.Proofs.Ytmklabdfalkldaa

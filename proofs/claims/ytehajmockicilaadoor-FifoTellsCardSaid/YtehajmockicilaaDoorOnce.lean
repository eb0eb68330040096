/-
  A region that draws its order, by each operation once: whatever order is drawn, what an operation tells is told of it alone, in whatever world meets a condition, behind those that it waits for.
-/
import Derived.Orders
import Derived.WalkKit
import Derived.Below
namespace Go.Proofs.YtehajmockicilaaDoor
open Go.RowKit

section
variable (ops : Array Oper)

def dstOf (i : Nat) : Option Tmp := (ops[i]?).bind (·.dst)
/-- Does i wait for j? -/
def waits (i j : Nat) : Bool := ((ops[i]?).map fun o => o.after.any fun e => Region.binds .any e && e.on == j).getD false
/-- Does nobody write slot t ahead of i? -/
def early (i t : Nat) : Bool := (List.range ops.size).all fun j => dstOf ops j != some t || (j == i || waits ops j i)
/-- Each slot is written once, and nobody waits for one that stands behind. -/
def tidy : Bool := (List.range ops.size).all fun i =>
  ((List.range ops.size).all fun j => dstOf ops i == none || (dstOf ops i != dstOf ops j || i == j)) &&
  (((ops[i]?).map fun o => o.after.all fun e => !Region.binds .any e || decide (e.on < i)).getD true)

/-- Is what j tells still there when i comes up, if each k uses up what 'drop k' names? -/
def spare (drop : Nat → Nat → Bool) (i j : Nat) : Bool := (List.range ops.size).all fun k => !drop k j || (k == i || waits ops k i)
theorem spare_at {drop : Nat → Nat → Bool} {i j k : Nat} (h : spare ops drop i j = true) (hk : k < ops.size) (hd : drop k j = true) : k = i ∨ waits ops k i = true := by
  unfold spare at h
  have h1 := (List.all_eq_true.1 h) k (List.mem_range.2 hk)
  rw [hd, Bool.not_true, Bool.false_or, Bool.or_eq_true] at h1
  simpa using h1

theorem tidy_one (h : tidy ops = true) {i j t : Nat} (hi : dstOf ops i = some t) (hj : dstOf ops j = some t) : i = j := by
  have hin : i < ops.size := by
    rcases Nat.lt_or_ge i ops.size with h | h
    · exact h
    · unfold dstOf at hi; rw [Array.getElem?_eq_none h] at hi; cases hi
  have hjn : j < ops.size := by
    rcases Nat.lt_or_ge j ops.size with h | h
    · exact h
    · unfold dstOf at hj; rw [Array.getElem?_eq_none h] at hj; cases hj
  unfold tidy at h
  have h1 := (List.all_eq_true.1 h) i (List.mem_range.2 hin)
  rw [Bool.and_eq_true] at h1
  have h2 := (List.all_eq_true.1 h1.1) j (List.mem_range.2 hjn)
  rw [hi, hj] at h2
  simpa using h2
theorem tidy_back (h : tidy ops = true) {i : Nat} {o : Oper} (ho : ops[i]? = some o) {e : Edge} (he : e ∈ o.after) (hb : Region.binds .any e = true) : e.on < i := by
  have hin : i < ops.size := (Array.getElem?_eq_some_iff.1 ho).1
  unfold tidy at h
  have h1 := (List.all_eq_true.1 h) i (List.mem_range.2 hin)
  rw [Bool.and_eq_true] at h1
  have h2 := h1.2
  rw [ho] at h2
  simp only [Option.map_some, Option.getD_some] at h2
  have h3 := (Array.all_eq_true'.1 h2) e he
  simpa [hb] using h3
theorem waits_of {i : Nat} {o : Oper} (ho : ops[i]? = some o) (j : Nat) : waits ops i j = true ↔ ∃ e ∈ o.after, Region.binds .any e = true ∧ e.on = j := by
  unfold waits
  rw [ho]
  simp only [Option.map_some, Option.getD_some]
  rw [Array.any_eq_true']
  simp

/-- What the frame is when those of 'listed' are over. -/
structure Pt (a0 : Act) (listed : Array Bool) (val : Nat → Value) (a : Act) : Prop where
  defers : a.defers = a0.defers
  size : a.tmps.size = a0.tmps.size
  new : ∀ i t, listed.getD i false = true → dstOf ops i = some t → t < a0.tmps.size → a.tmps[t]? = some (val i)
  old : ∀ t, (∀ i, listed.getD i false = true → dstOf ops i ≠ some t) → a.tmps[t]? = a0.tmps[t]?

variable {ops}
theorem Pt.step (htidy : tidy ops = true) {a0 a : Act} {listed : Array Bool} {val : Nat → Value} (h : Pt ops a0 listed val a) {i : Nat} (hi : i < listed.size) (hu : listed.getD i false = false) (v : Value) :
    Pt ops a0 (listed.setIfInBounds i true) (fun j => if j = i then v else val j) (a.put (dstOf ops i) v) := by
  have hl : ∀ j, (listed.setIfInBounds i true).getD j false = true ↔ j = i ∨ listed.getD j false = true := by
    intro j
    rw [Array.getD_eq_getD_getElem?, Array.getD_eq_getD_getElem?, Array.getElem?_setIfInBounds]
    by_cases e : i = j
    · subst e; simp [hi]
    · rw [if_neg e]
      constructor
      · exact fun hh => .inr hh
      · rintro (hh | hh)
        · exact absurd hh.symm e
        · exact hh
  cases hd : dstOf ops i with
  | none =>
    refine ⟨h.defers, h.size, fun j t hj ht hs => ?_, fun t hn => h.old t fun j hj => hn j ((hl j).2 (.inr hj))⟩
    have hne : j ≠ i := fun e => by subst e; rw [hd] at ht; cases ht
    show a.tmps[t]? = some (if j = i then v else val j)
    rw [if_neg hne]
    exact h.new j t (((hl j).1 hj).resolve_left hne) ht hs
  | some d =>
    refine ⟨h.defers, ?_, fun j t hj ht hs => ?_, fun t hn => ?_⟩
    · show (a.tmps.setIfInBounds d v).size = _
      rw [Array.size_setIfInBounds, h.size]
    · show (a.tmps.setIfInBounds d v)[t]? = some (if j = i then v else val j)
      rw [Array.getElem?_setIfInBounds]
      by_cases e : j = i
      · subst e
        rw [hd] at ht
        injection ht with ht
        subst ht
        rw [if_pos rfl, if_pos (by rw [h.size]; exact hs), if_pos rfl]
      · have hne : d ≠ t := fun e' => by subst e'; exact e (tidy_one ops htidy ht hd)
        rw [if_neg hne, if_neg e]
        exact h.new j t (((hl j).1 hj).resolve_left e) ht hs
    · show (a.tmps.setIfInBounds d v)[t]? = _
      have hne : d ≠ t := fun e' => hn i ((hl i).2 (.inl rfl)) (by rw [hd, e'])
      rw [Array.getElem?_setIfInBounds, if_neg hne]
      exact h.old t fun j hj => hn j ((hl j).2 (.inr hj))
theorem Pt.same {a0 a b : Act} {listed : Array Bool} {val : Nat → Value} (h : Pt ops a0 listed val a) (k : Pt ops a0 listed val b) : a = b := by
  obtain ⟨ta, da⟩ := a
  obtain ⟨tb, db⟩ := b
  have h1 : da = db := h.defers.trans k.defers.symm
  have h2 : ta = tb := by
    apply Array.ext_getElem?
    intro t
    rcases Nat.lt_or_ge t a0.tmps.size with hs | hs
    · by_cases hw : ∃ i, listed.getD i false = true ∧ dstOf ops i = some t
      · obtain ⟨i, hi, ht⟩ := hw
        exact (h.new i t hi ht hs).trans (k.new i t hi ht hs).symm
      · have hn : ∀ i, listed.getD i false = true → dstOf ops i ≠ some t := fun i hi ht => hw ⟨i, hi, ht⟩
        exact (h.old t hn).trans (k.old t hn).symm
    · rw [Array.getElem?_eq_none (by have h3 : ta.size = a0.tmps.size := h.size; omega), Array.getElem?_eq_none (by have h3 : tb.size = a0.tmps.size := k.size; omega)]
  rw [h1, h2]

/-- All of them, in the order in which they stand. -/
def allPut (ops : Array Oper) (val : Nat → Value) (a0 : Act) : Nat → Act
  | 0 => a0
  | k + 1 => (allPut ops val a0 k).put (dstOf ops k) (val k)
def firstOnes (n k : Nat) : Array Bool := ((List.range n).map fun i => decide (i < k)).toArray
theorem firstOnes_get (n k i : Nat) : (firstOnes n k).getD i false = (decide (i < n) && decide (i < k)) := by
  unfold firstOnes
  rw [Array.getD_eq_getD_getElem?]
  simp only [List.getElem?_toArray, List.getElem?_map]
  by_cases h : i < n
  · rw [List.getElem?_range h]; simp [h]
  · rw [List.getElem?_eq_none (by simp; omega)]; simp [h]
theorem Pt.all (htidy : tidy ops = true) (a0 : Act) (val : Nat → Value) (k : Nat) (hk : k ≤ ops.size) : Pt ops a0 (firstOnes ops.size k) val (allPut ops val a0 k) := by
  induction k with
  | zero =>
    refine ⟨rfl, rfl, fun i t hi _ _ => ?_, fun t _ => rfl⟩
    rw [firstOnes_get] at hi
    simp at hi
  | succ k ih =>
    have h := (ih (by omega)).step htidy (i := k) (by unfold firstOnes; simp; omega) (by rw [firstOnes_get]; simp) (val k)
    have e1 : (firstOnes ops.size k).setIfInBounds k true = firstOnes ops.size (k + 1) := by
      apply Array.ext_getElem?
      intro i
      unfold firstOnes
      rw [Array.getElem?_setIfInBounds]
      simp only [List.getElem?_toArray, List.getElem?_map, List.size_toArray, List.length_map, List.length_range]
      by_cases e : k = i
      · subst e
        rw [if_pos rfl, if_pos (by omega), List.getElem?_range (by omega)]
        simp
      · rw [if_neg e]
        by_cases h : i < ops.size
        · rw [List.getElem?_range h]
          simp only [Option.map_some]
          congr 1
          rw [decide_eq_decide]
          omega
        · rw [List.getElem?_eq_none (by simp; omega)]
          rfl
    have e2 : (fun j => if j = k then val k else val j) = val := by
      funext j
      by_cases e : j = k
      · rw [if_pos e, e]
      · rw [if_neg e]
    rw [e1, e2] at h
    exact h

/-- How many are not over yet. -/
def openOnes (listed : Array Bool) (l : List Nat) : Nat := (l.filter fun i => !listed.getD i false).length
theorem open_less (listed : Array Bool) (i : Nat) (hi : i < listed.size) (hu : listed.getD i false = false) (l : List Nat) :
    openOnes (listed.setIfInBounds i true) l + (l.filter fun j => j == i).length = openOnes listed l := by
  unfold openOnes
  induction l with
  | nil => rfl
  | cons x l ih =>
    have hx : (listed.setIfInBounds i true).getD x false = if i = x then true else listed.getD x false := by
      rw [Array.getD_eq_getD_getElem?, Array.getD_eq_getD_getElem?, Array.getElem?_setIfInBounds]
      by_cases e : i = x
      · subst e; simp [hi]
      · rw [if_neg e, if_neg e]
    simp only [List.filter_cons]
    rw [hx]
    by_cases e : i = x
    · subst e
      simp only [hu, Bool.not_true, Bool.not_false, if_true, beq_self_eq_true, Bool.false_eq_true, if_false, List.length_cons]
      omega
    · have e2 : (x == i) = false := by simp; omega
      rw [if_neg e, e2]
      cases listed.getD x false
      · simp only [Bool.not_false, if_true, Bool.false_eq_true, if_false, List.length_cons]
        omega
      · simp only [Bool.not_true, Bool.false_eq_true, if_false]
        exact ih
theorem open_zero {listed : Array Bool} {l : List Nat} (h : openOnes listed l = 0) {i : Nat} (hi : i ∈ l) : listed.getD i false = true := by
  unfold openOnes at h
  have := List.eq_nil_of_length_eq_zero h
  rw [List.filter_eq_nil_iff] at this
  simpa using this i hi
theorem one_there (n i : Nat) (h : i < n) : 1 ≤ ((List.range n).filter fun j => j == i).length := by
  have : i ∈ (List.range n).filter fun j => j == i := by rw [List.mem_filter]; exact ⟨List.mem_range.2 h, by simp⟩
  exact List.length_pos_iff.2 (List.ne_nil_of_mem this)

variable {P : Program} {Q : Exit → Act → World → Prop} (a0 : Act) (V : Nat → (Nat → Value) → World → Prop) (G : World → Prop) (Rel : Nat → World → World → Prop) (drop : Nat → Nat → Bool)

/-- One value more. -/
def upd (val : Nat → Value) (i : Nat) (v : Value) : Nat → Value := fun j => if j = i then v else val j
theorem upd_at (val : Nat → Value) (i : Nat) (v : Value) : upd val i v i = v := if_pos rfl
theorem upd_ne (val : Nat → Value) {i j : Nat} (v : Value) (h : j ≠ i) : upd val i v j = val j := if_neg h

/-- What is owed of operation i: in whatever world meets G, behind those that it waits for. -/
def Owed (P : Program) (ops : Array Oper) (Q : Exit → Act → World → Prop) (i : Nat) (o : Oper) : Prop :=
  ∀ (a : Act) (w : World) (val : Nat → Value), G w → (∀ j, waits ops i j = true → spare ops drop i j = true → V j val w) →
    (∀ j t, waits ops i j = true → dstOf ops j = some t → t < a0.tmps.size → a.tmps[t]? = some (val j)) →
    (∀ t, early ops i t = true → a.tmps[t]? = a0.tmps[t]?) →
    if Region.wanted o (yielded ops a.tmps) = true then o.wp P a w (fun a' w' => ∃ v, a' = a.put o.dst v ∧ V i (upd val i v) w' ∧ Rel i w w' ∧ G w') Q else V i (upd val i undef) w

variable {a0 V G Rel drop}
theorem any_once (htidy : tidy ops = true) (hmono : ∀ i j u w w', i ≠ j → waits ops i j = false → drop j i = false → Rel j w w' → V i u w → V i u w') (hdep : ∀ i u u' w, u i = u' i → (∀ j, waits ops i j = true → u j = u' j) → V i u w → V i u' w)
    (howed : ∀ i o, ops[i]? = some o → Owed a0 V G Rel drop P ops Q i o)
    (hdone : ∀ val a w, G w → (∀ i, i < ops.size → (∀ j, j < ops.size → drop j i = false) → V i val w) → (∀ listed : Array Bool, (∀ i, i < ops.size → listed.getD i false = true) → listed.size = ops.size → Pt ops a0 listed val a) → Q .normal a w) :
    ∀ (fuel : Nat) (listed : Array Bool) (a : Act) (w : World) (val : Nat → Value), listed.size = ops.size → (∀ i j, listed.getD i false = true → waits ops i j = true → listed.getD j false = true) →
      Pt ops a0 listed val a → (∀ i, listed.getD i false = true → (∀ j, listed.getD j false = true → drop j i = false) → V i val w) → G w → openOnes listed (List.range ops.size) ≤ fuel → wpAny P .any ops Q fuel listed a w := by
  have getT : ∀ (listed : Array Bool) i, i < listed.size → listed.getD i true = listed.getD i false := fun listed i hi => by
    rw [Array.getD_eq_getD_getElem?, Array.getD_eq_getD_getElem?, Array.getElem?_eq_getElem hi]; rfl
  have inr : ∀ (listed : Array Bool), listed.size = ops.size → ∀ j, listed.getD j false = true → j < ops.size := fun listed hs j hj => by
    rcases Nat.lt_or_ge j ops.size with h | h
    · exact h
    · rw [Array.getD_eq_getD_getElem?, Array.getElem?_eq_none (by omega)] at hj; cases hj
  have stop : ∀ (listed : Array Bool) (a : Act) (w : World) (val : Nat → Value), listed.size = ops.size → Pt ops a0 listed val a → (∀ i, listed.getD i false = true → (∀ j, listed.getD j false = true → drop j i = false) → V i val w) → G w → (∀ i, i < ops.size → listed.getD i false = true) → Q .normal a w := by
    intro listed a w val hs hp hV hG hall
    refine hdone val a w hG (fun i hi hdr => hV i (hall i hi) fun j hj => hdr j (inr listed hs j hj)) fun listed' hall' hs' => ?_
    have e : listed = listed' := by
      apply Array.ext (by rw [hs, hs'])
      intro i h1 h2
      have g1 := hall i (by omega)
      have g2 := hall' i (by omega)
      rw [Array.getD_eq_getD_getElem?, Array.getElem?_eq_getElem h1] at g1
      rw [Array.getD_eq_getD_getElem?, Array.getElem?_eq_getElem h2] at g2
      simp at g1 g2
      rw [g1, g2]
    rw [← e]; exact hp
  intro fuel
  induction fuel with
  | zero =>
    intro listed a w val hs hc hp hV hG hf
    have hall : ∀ i, i < ops.size → listed.getD i false = true := fun i hi => open_zero (Nat.le_zero.1 hf) (List.mem_range.2 hi)
    refine ⟨?_, stop listed a w val hs hp hV hG hall⟩
    unfold Region.ready
    rw [List.filter_eq_nil_iff]
    intro i hi
    rw [getT listed i (by rw [hs]; exact List.mem_range.1 hi), hall i (List.mem_range.1 hi)]
    simp
  | succ fuel ih =>
    intro listed a w val hs hc hp hV hG hf
    refine ⟨fun hr => ?_, fun i hi => ?_⟩
    · -- nothing is ready: then all are over, for the first one that isn't would be
      refine stop listed a w val hs hp hV hG fun i hi => ?_
      induction i using Nat.strongRecOn with
      | ind i ihi =>
        cases hu : listed.getD i false
        · exfalso
          have hm : i ∈ Region.ready .any ops listed := by
            unfold Region.ready
            rw [List.mem_filter]
            refine ⟨List.mem_range.2 hi, ?_⟩
            rw [getT listed i (by omega), hu, Array.getElem?_eq_getElem hi]
            simp only [Bool.not_false, Bool.true_and, Option.map_some, Option.getD_some]
            rw [Array.all_eq_true']
            intro e he
            cases hb : Region.binds .any e
            · simp
            · have hlt := tidy_back ops htidy (Array.getElem?_eq_getElem hi) he hb
              rw [ihi e.on hlt (by omega)]; simp
          rw [hr] at hm
          cases hm
        · rfl
    · have hi' := hi
      unfold Region.ready at hi'
      rw [List.mem_filter] at hi'
      obtain ⟨hin, hr⟩ := hi'
      have hin := List.mem_range.1 hin
      rw [Bool.and_eq_true, getT listed i (by omega)] at hr
      obtain ⟨hu, hr⟩ := hr
      have hu : listed.getD i false = false := by simpa using hu
      obtain ⟨o, ho⟩ : ∃ o, ops[i]? = some o := ⟨_, Array.getElem?_eq_getElem hin⟩
      rw [ho] at hr
      simp only [Option.map_some, Option.getD_some] at hr
      have hpre : ∀ j, waits ops i j = true → listed.getD j false = true := fun j hj => by
        obtain ⟨e, he, hb, rfl⟩ := (waits_of ops ho j).1 hj
        have := (Array.all_eq_true'.1 hr) e he
        simpa [hb] using this
      have hO := howed i o ho a w val hG (fun j hj hsp => hV j (hpre j hj) fun k hk => by
        cases hd : drop k j
        · rfl
        · exfalso
          rcases spare_at ops hsp (inr listed hs k hk) hd with e | e
          · rw [e, hu] at hk; cases hk
          · have := hc k i hk e
            rw [hu] at this; cases this) (fun j t hj ht hs' => hp.new j t (hpre j hj) ht hs') (fun t ht => hp.old t fun j hj hd => by
        unfold early at ht
        have hjn : j < ops.size := by
          rcases Nat.lt_or_ge j ops.size with h | h
          · exact h
          · unfold dstOf at hd; rw [Array.getElem?_eq_none h] at hd; cases hd
        have h2 := (List.all_eq_true.1 ht) j (List.mem_range.2 hjn)
        rw [hd] at h2
        simp only [bne_self_eq_false, Bool.false_or, Bool.or_eq_true, beq_iff_eq] at h2
        rcases h2 with rfl | h2
        · rw [hu] at hj; cases hj
        · have := hc j i hj h2
          rw [hu] at this; cases this)
      have hdo : dstOf ops i = o.dst := by unfold dstOf; rw [ho]; rfl
      have next : ∀ (v : Value) (w' : World), V i (upd val i v) w' → (∀ j u, listed.getD j false = true → drop i j = false → V j u w → V j u w') → G w' → wpAny P .any ops Q fuel (listed.setIfInBounds i true) (a.put o.dst v) w' := by
        intro v w' hv hm hG'
        have hl : ∀ j, (listed.setIfInBounds i true).getD j false = true ↔ j = i ∨ listed.getD j false = true := by
          intro j
          rw [Array.getD_eq_getD_getElem?, Array.getD_eq_getD_getElem?, Array.getElem?_setIfInBounds]
          by_cases e : i = j
          · subst e; simp [show i < listed.size by omega]
          · rw [if_neg e]
            constructor
            · exact fun hh => .inr hh
            · rintro (hh | hh)
              · exact absurd hh.symm e
              · exact hh
        have hps := hp.step htidy (by omega : i < listed.size) hu v
        rw [hdo] at hps
        refine ih _ _ _ _ (by rw [Array.size_setIfInBounds, hs]) (fun j k hj hk => ?_) hps (fun j hj hdr => ?_) hG' ?_
        · rcases (hl j).1 hj with rfl | hj
          · exact (hl k).2 (.inr (hpre k hk))
          · exact (hl k).2 (.inr (hc j k hj hk))
        · show V j (upd val i v) w'
          by_cases e : j = i
          · rw [e]; exact hv
          · have hj' := ((hl j).1 hj).resolve_left e
            refine hdep j val _ w' (upd_ne val v e).symm (fun k hk => ?_) (hm _ _ hj' (hdr i ((hl i).2 (.inl rfl))) (hV j hj' fun k hk => hdr k ((hl k).2 (.inr hk))))
            have hk' := hc j k hj' hk
            exact (upd_ne val v (fun e' => by rw [e', hu] at hk'; cases hk')).symm
        · have h1 := open_less listed i (by omega) hu (List.range ops.size)
          have h2 := one_there ops.size i hin
          omega
      unfold wpOp
      rw [ho]
      simp only
      split
      · rename_i hw
        rw [if_pos hw] at hO
        refine .inl (Oper.wp_mono (fun a' w' h => ?_) hO)
        obtain ⟨v, rfl, hv, hrel, hG'⟩ := h
        exact next v w' hv (fun j u hj hdr => hmono j i u w w' (fun e => by rw [e, hu] at hj; cases hj) (by
          cases hw' : waits ops j i
          · rfl
          · have := hc j i hj hw'
            rw [hu] at this; cases this) hdr hrel) hG'
      · rename_i hw
        rw [if_neg hw] at hO
        exact next undef w hO (fun _ _ _ _ h => h) hG

theorem region_once {id : Nat} {w : World} (hm : P.follows .mixedOrders = true) (htidy : tidy ops = true) (hG : G w.drew) (hmono : ∀ i j u w w', i ≠ j → waits ops i j = false → drop j i = false → Rel j w w' → V i u w → V i u w') (hdep : ∀ i u u' w, u i = u' i → (∀ j, waits ops i j = true → u j = u' j) → V i u w → V i u' w)
    (howed : ∀ i o, ops[i]? = some o → Owed a0 V G Rel drop P ops Q i o)
    (hdone : ∀ val w', G w' → (∀ i, i < ops.size → (∀ j, j < ops.size → drop j i = false) → V i val w') → Q .normal (allPut ops val a0 ops.size) w') : (Code.region id ops true).wp P Q a0 w := by
  refine wp_region_any hm ?_
  have none0 : ∀ i, (Array.replicate ops.size false).getD i false = false := fun i => by
    rw [Array.getD_eq_getD_getElem?, Array.getElem?_replicate]
    split <;> rfl
  refine any_once (a0 := a0) (V := V) (G := G) (Rel := Rel) htidy hmono hdep howed (fun val a w' hG' hV hP => ?_) ops.size _ a0 w.drew (fun _ => undef) (by simp) (fun i j hi => by (rw [none0] at hi; cases hi))
    ⟨rfl, rfl, (fun i t hi => by (rw [none0] at hi; cases hi)), fun t _ => rfl⟩ (fun i hi _ => by (rw [none0] at hi; cases hi)) hG ?_
  · have h1 := hP (firstOnes ops.size ops.size) (fun i hi => by rw [firstOnes_get]; simp [hi]) (by unfold firstOnes; simp)
    have h2 := Pt.all htidy a0 val ops.size (Nat.le_refl _)
    rw [h1.same h2]
    exact hdone val w' hG' hV
  · unfold openOnes
    exact Nat.le_trans (List.length_filter_le _ _) (by simp)

/-- Of each operation of a list, with its number. -/
def Each (R : Nat → Oper → Prop) : Nat → List Oper → Prop
  | _, [] => True
  | k, o :: l => R k o ∧ Each R (k + 1) l
theorem Each.at {R : Nat → Oper → Prop} : ∀ {l : List Oper} {k : Nat}, Each R k l → ∀ i o, l[i]? = some o → R (k + i) o
  | [], _, _, i, o, h => by simp at h
  | x :: l, k, h, 0, o, ho => by
    have : x = o := by simpa using ho
    rw [← this]; exact h.1
  | x :: l, k, h, i + 1, o, ho => by
    have := Each.at h.2 i o (by simpa using ho)
    rw [show k + (i + 1) = k + 1 + i by omega]
    exact this
/-- All of them laid, as the list has them. -/
def putAll (val : Nat → Value) : Nat → List Oper → Act → Act
  | _, [], a => a
  | k, o :: l, a => putAll val (k + 1) l (a.put o.dst (val k))
theorem putAll_snoc (val : Nat → Value) (o : Oper) : ∀ (l : List Oper) (k : Nat) (a : Act), putAll val k (l ++ [o]) a = (putAll val k l a).put o.dst (val (k + l.length))
  | [], k, a => rfl
  | x :: l, k, a => by
    show putAll val (k + 1) (l ++ [o]) _ = _
    rw [putAll_snoc val o l (k + 1)]
    show _ = (putAll val (k + 1) l _).put o.dst (val (k + (l.length + 1)))
    rw [show k + 1 + l.length = k + (l.length + 1) by omega]
theorem allPut_list (val : Nat → Value) (a0 : Act) (l : List Oper) : ∀ n, n ≤ l.length → allPut l.toArray val a0 n = putAll val 0 (l.take n) a0
  | 0, _ => by rw [List.take_zero]; rfl
  | n + 1, h => by
    show (allPut l.toArray val a0 n).put (dstOf l.toArray n) (val n) = _
    rw [allPut_list val a0 l n (by omega), List.take_succ_eq_append_getElem (by omega), putAll_snoc]
    have e1 : dstOf l.toArray n = (l[n]'(by omega)).dst := by
      unfold dstOf
      rw [List.getElem?_toArray, List.getElem?_eq_getElem (by omega)]; rfl
    rw [e1, List.length_take, Nat.min_eq_left (by omega), Nat.zero_add]
theorem region_each {id : Nat} {w : World} {l : List Oper} (hm : P.follows .mixedOrders = true) (htidy : tidy l.toArray = true) (hG : G w.drew) (hmono : ∀ i j u w w', i ≠ j → waits l.toArray i j = false → drop j i = false → Rel j w w' → V i u w → V i u w') (hdep : ∀ i u u' w, u i = u' i → (∀ j, waits l.toArray i j = true → u j = u' j) → V i u w → V i u' w)
    (howed : Each (Owed a0 V G Rel drop P l.toArray Q) 0 l)
    (hdone : ∀ val w', G w' → (∀ i, i < l.length → (∀ j, j < l.length → drop j i = false) → V i val w') → Q .normal (putAll val 0 l a0) w') : (Code.region id l.toArray true).wp P Q a0 w :=
  region_once hm htidy hG hmono hdep (fun i o ho => by have := howed.at i o (by simpa using ho); rwa [Nat.zero_add] at this) (fun val w' h1 h2 => by
    rw [List.size_toArray, allPut_list val a0 l l.length (Nat.le_refl _), List.take_length]
    exact hdone val w' h1 (by simpa using h2))

/-- A hypothesis that no tactic looks into. -/
def Kept (p : Prop) : Prop := p
theorem Kept.out {p : Prop} (h : Kept p) : p := h
/-- An operation that is carried out whatever was told ahead of it. -/
theorem owe {i : Nat} {o : Oper} (hg : o.guard = none)
    (h : ∀ (a : Act) (w : World) (val : Nat → Value), G w → (∀ j, waits ops i j = true → spare ops drop i j = true → V j val w) →
      (∀ j t, waits ops i j = true → dstOf ops j = some t → t < a0.tmps.size → a.tmps[t]? = some (val j)) → (∀ t, early ops i t = true → a.tmps[t]? = a0.tmps[t]?) →
      ∀ K : Act → World → Prop, Kept (∀ v w', V i (upd val i v) w' → Rel i w w' → G w' → K (a.put o.dst v) w') → o.wp P a w K Q) : Owed a0 V G Rel drop P ops Q i o := by
  intro a w val hG hV hN hO
  rw [if_pos (by unfold Region.wanted; rw [hg])]
  exact h a w val hG hV hN hO _ fun v w' h1 h2 h3 => ⟨v, rfl, h1, h2, h3⟩
/-- An operation behind a guard that lets it by. -/
theorem owe_if {i g t : Nat} {b : Bool} {o : Oper} (hg : o.guard = some (g, b)) (hw : waits ops i g = true) (hsp : spare ops drop i g = true) (ht : dstOf ops g = some t) (hs : t < a0.tmps.size) (hv : ∀ val w, V g val w → val g = .bool b)
    (h : ∀ (a : Act) (w : World) (val : Nat → Value), G w → (∀ j, waits ops i j = true → spare ops drop i j = true → V j val w) →
      (∀ j t, waits ops i j = true → dstOf ops j = some t → t < a0.tmps.size → a.tmps[t]? = some (val j)) → (∀ t, early ops i t = true → a.tmps[t]? = a0.tmps[t]?) →
      ∀ K : Act → World → Prop, Kept (∀ v w', V i (upd val i v) w' → Rel i w w' → G w' → K (a.put o.dst v) w') → o.wp P a w K Q) : Owed a0 V G Rel drop P ops Q i o := by
  intro a w val hG hV hN hO
  have e : a.tmps[t]? = some (.bool b) := (hN g t hw ht hs).trans (congrArg some (hv val w (hV g hw hsp)))
  have hy : yielded ops a.tmps g = some b := by
    unfold yielded
    unfold dstOf at ht
    rw [ht]
    show (match a.tmps[t]? with | some (.bool b) => some b | _ => none) = _
    rw [e]
  rw [if_pos (by unfold Region.wanted; rw [hg]; simp [hy])]
  exact h a w val hG hV hN hO _ fun v w' h1 h2 h3 => ⟨v, rfl, h1, h2, h3⟩
/-- And behind one that does not. -/
theorem owe_skip {i g t : Nat} {b c : Bool} {o : Oper} (hg : o.guard = some (g, b)) (hw : waits ops i g = true) (hsp : spare ops drop i g = true) (ht : dstOf ops g = some t) (hs : t < a0.tmps.size) (hv : ∀ val w, V g val w → val g = .bool c) (hc : c ≠ b)
    (h : ∀ val w, V i (upd val i undef) w) : Owed a0 V G Rel drop P ops Q i o := by
  intro a w val hG hV hN hO
  have e : a.tmps[t]? = some (.bool c) := (hN g t hw ht hs).trans (congrArg some (hv val w (hV g hw hsp)))
  have hy : yielded ops a.tmps g = some c := by
    unfold yielded
    unfold dstOf at ht
    rw [ht]
    show (match a.tmps[t]? with | some (.bool b) => some b | _ => none) = _
    rw [e]
  rw [if_neg (by unfold Region.wanted; rw [hg]; simp [hy, hc])]
  exact h val w
end

end Go.Proofs.YtehajmockicilaaDoor

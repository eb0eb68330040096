/-
  A region that draws its order, each operation once; what holds of the world may speak of which operations are over.
-/
import Derived.Test.YtehajmockicilaaDoorOnceMore
namespace Go.Proofs.YtehajmockicilaaDoor
open Go.RowKit

/-- One more is over. -/
def upL (L : Nat → Bool) (i : Nat) : Nat → Bool := fun j => j == i || L j
theorem upL_false {L : Nat → Bool} {i j : Nat} (h : upL L i j = false) : L j = false := by
  unfold upL at h
  rw [Bool.or_eq_false_iff] at h
  exact h.2
theorem upL_self {L : Nat → Bool} {i : Nat} (h : upL L i i = false) : False := by
  unfold upL at h
  simp at h

section
variable {ops : Array Oper} {P : Program} {Q : Exit → Act → World → Prop}
/-- What is owed of an operation. -/
def OwedP (a0 : Act) (V : Nat → (Nat → Value) → World → Prop) (G : (Nat → Bool) → World → Prop) (Rel : Nat → World → World → Prop) (drop : Nat → Nat → Bool) (P : Program) (ops : Array Oper) (Q : Exit → Act → World → Prop) (i : Nat) (o : Oper) : Prop :=
  ∀ (a : Act) (w : World) (val : Nat → Value) (L : Nat → Bool), G L w → L i = false → (∀ j, waits ops j i = true → L j = false) → (∀ j, waits ops i j = true → spare ops drop i j = true → V j val w) →
    (∀ j t, waits ops i j = true → dstOf ops j = some t → t < a0.tmps.size → a.tmps[t]? = some (val j)) →
    (∀ t, early ops i t = true → a.tmps[t]? = a0.tmps[t]?) →
    if Region.wanted o (yielded ops a.tmps) = true then o.wp P a w (fun a' w' => ∃ v, a' = a.put o.dst v ∧ V i (upd val i v) w' ∧ Rel i w w' ∧ G (upL L i) w') Q else V i (upd val i undef) w ∧ G (upL L i) w

variable {a0 : Act} {V : Nat → (Nat → Value) → World → Prop} {G : (Nat → Bool) → World → Prop} {Rel : Nat → World → World → Prop} {drop : Nat → Nat → Bool}
theorem any_phase (htidy : tidy ops = true) (hmono : ∀ i j u w w', i ≠ j → waits ops i j = false → drop j i = false → Rel j w w' → V i u w → V i u w') (hdep : ∀ i u u' w, u i = u' i → (∀ j, waits ops i j = true → u j = u' j) → V i u w → V i u' w)
    (howed : ∀ i o, ops[i]? = some o → OwedP a0 V G Rel drop P ops Q i o)
    (hdone : ∀ val a w L, G L w → (∀ i, i < ops.size → (∀ j, j < ops.size → drop j i = false) → V i val w) → (∀ listed : Array Bool, (∀ i, i < ops.size → listed.getD i false = true) → listed.size = ops.size → Pt ops a0 listed val a) → Q .normal a w) :
    ∀ (fuel : Nat) (listed : Array Bool) (a : Act) (w : World) (val : Nat → Value), listed.size = ops.size → (∀ i j, listed.getD i false = true → waits ops i j = true → listed.getD j false = true) →
      Pt ops a0 listed val a → (∀ i, listed.getD i false = true → (∀ j, listed.getD j false = true → drop j i = false) → V i val w) → G (fun j => listed.getD j false) w → openOnes listed (List.range ops.size) ≤ fuel → wpAny P .any ops Q fuel listed a w := by
  have getT : ∀ (listed : Array Bool) i, i < listed.size → listed.getD i true = listed.getD i false := fun listed i hi => by
    rw [Array.getD_eq_getD_getElem?, Array.getD_eq_getD_getElem?, Array.getElem?_eq_getElem hi]; rfl
  have inr : ∀ (listed : Array Bool), listed.size = ops.size → ∀ j, listed.getD j false = true → j < ops.size := fun listed hs j hj => by
    rcases Nat.lt_or_ge j ops.size with h | h
    · exact h
    · rw [Array.getD_eq_getD_getElem?, Array.getElem?_eq_none (by omega)] at hj; cases hj
  have stop : ∀ (listed : Array Bool) (a : Act) (w : World) (val : Nat → Value), listed.size = ops.size → Pt ops a0 listed val a → (∀ i, listed.getD i false = true → (∀ j, listed.getD j false = true → drop j i = false) → V i val w) → G (fun j => listed.getD j false) w → (∀ i, i < ops.size → listed.getD i false = true) → Q .normal a w := by
    intro listed a w val hs hp hV hG hall
    refine hdone val a w _ hG (fun i hi hdr => hV i (hall i hi) fun j hj => hdr j (inr listed hs j hj)) fun listed' hall' hs' => ?_
    have e : listed = listed' := by
      apply Array.ext (by rw [hs, hs'])
      intro i h1 h2
      have g1 := hall i (by omega)
      have g2 := hall' i (by omega)
      rw [Array.getD_eq_getD_getElem?, Array.getElem?_eq_getElem h1] at g1
      rw [Array.getD_eq_getD_getElem?, Array.getElem?_eq_getElem h2] at g2
      simp at g1 g2
      rw [g1, g2]
    rw [← e]; exact hp
  intro fuel
  induction fuel with
  | zero =>
    intro listed a w val hs hc hp hV hG hf
    have hall : ∀ i, i < ops.size → listed.getD i false = true := fun i hi => open_zero (Nat.le_zero.1 hf) (List.mem_range.2 hi)
    refine ⟨?_, stop listed a w val hs hp hV hG hall⟩
    unfold Region.ready
    rw [List.filter_eq_nil_iff]
    intro i hi
    rw [getT listed i (by rw [hs]; exact List.mem_range.1 hi), hall i (List.mem_range.1 hi)]
    simp
  | succ fuel ih =>
    intro listed a w val hs hc hp hV hG hf
    refine ⟨fun hr => ?_, fun i hi => ?_⟩
    · -- nothing is ready: then all are over, for the first one that isn't would be
      refine stop listed a w val hs hp hV hG fun i hi => ?_
      induction i using Nat.strongRecOn with
      | ind i ihi =>
        cases hu : listed.getD i false
        · exfalso
          have hm : i ∈ Region.ready .any ops listed := by
            unfold Region.ready
            rw [List.mem_filter]
            refine ⟨List.mem_range.2 hi, ?_⟩
            rw [getT listed i (by omega), hu, Array.getElem?_eq_getElem hi]
            simp only [Bool.not_false, Bool.true_and, Option.map_some, Option.getD_some]
            rw [Array.all_eq_true']
            intro e he
            cases hb : Region.binds .any e
            · simp
            · have hlt := tidy_back ops htidy (Array.getElem?_eq_getElem hi) he hb
              rw [ihi e.on hlt (by omega)]; simp
          rw [hr] at hm
          cases hm
        · rfl
    · have hi' := hi
      unfold Region.ready at hi'
      rw [List.mem_filter] at hi'
      obtain ⟨hin, hr⟩ := hi'
      have hin := List.mem_range.1 hin
      rw [Bool.and_eq_true, getT listed i (by omega)] at hr
      obtain ⟨hu, hr⟩ := hr
      have hu : listed.getD i false = false := by simpa using hu
      obtain ⟨o, ho⟩ : ∃ o, ops[i]? = some o := ⟨_, Array.getElem?_eq_getElem hin⟩
      rw [ho] at hr
      simp only [Option.map_some, Option.getD_some] at hr
      have hpre : ∀ j, waits ops i j = true → listed.getD j false = true := fun j hj => by
        obtain ⟨e, he, hb, rfl⟩ := (waits_of ops ho j).1 hj
        have := (Array.all_eq_true'.1 hr) e he
        simpa [hb] using this
      have hnw : ∀ j, waits ops j i = true → listed.getD j false = false := fun j hj => by
        cases hL : listed.getD j false
        · rfl
        · have := hc j i hL hj
          rw [hu] at this; cases this
      have hO := howed i o ho a w val _ hG hu hnw (fun j hj hsp => hV j (hpre j hj) fun k hk => by
        cases hd : drop k j
        · rfl
        · exfalso
          rcases spare_at ops hsp (inr listed hs k hk) hd with e | e
          · rw [e, hu] at hk; cases hk
          · have := hc k i hk e
            rw [hu] at this; cases this) (fun j t hj ht hs' => hp.new j t (hpre j hj) ht hs') (fun t ht => hp.old t fun j hj hd => by
        unfold early at ht
        have hjn : j < ops.size := by
          rcases Nat.lt_or_ge j ops.size with h | h
          · exact h
          · unfold dstOf at hd; rw [Array.getElem?_eq_none h] at hd; cases hd
        have h2 := (List.all_eq_true.1 ht) j (List.mem_range.2 hjn)
        rw [hd] at h2
        simp only [bne_self_eq_false, Bool.false_or, Bool.or_eq_true, beq_iff_eq] at h2
        rcases h2 with rfl | h2
        · rw [hu] at hj; cases hj
        · have := hc j i hj h2
          rw [hu] at this; cases this)
      have hdo : dstOf ops i = o.dst := by unfold dstOf; rw [ho]; rfl
      have next : ∀ (v : Value) (w' : World), V i (upd val i v) w' → (∀ j u, listed.getD j false = true → drop i j = false → V j u w → V j u w') → G (upL (fun j => listed.getD j false) i) w' → wpAny P .any ops Q fuel (listed.setIfInBounds i true) (a.put o.dst v) w' := by
        intro v w' hv hm hG'
        have hl : ∀ j, (listed.setIfInBounds i true).getD j false = true ↔ j = i ∨ listed.getD j false = true := by
          intro j
          rw [Array.getD_eq_getD_getElem?, Array.getD_eq_getD_getElem?, Array.getElem?_setIfInBounds]
          by_cases e : i = j
          · subst e; simp [show i < listed.size by omega]
          · rw [if_neg e]
            constructor
            · exact fun hh => .inr hh
            · rintro (hh | hh)
              · exact absurd hh.symm e
              · exact hh
        have hps := hp.step htidy (by omega : i < listed.size) hu v
        rw [hdo] at hps
        refine ih _ _ _ _ (by rw [Array.size_setIfInBounds, hs]) (fun j k hj hk => ?_) hps (fun j hj hdr => ?_) (by
          have e : (fun j => (listed.setIfInBounds i true).getD j false) = upL (fun j => listed.getD j false) i := by
            funext j
            have h1 := hl j
            unfold upL
            rw [Bool.eq_iff_iff, h1]
            simp
          rw [e]; exact hG') ?_
        · rcases (hl j).1 hj with rfl | hj
          · exact (hl k).2 (.inr (hpre k hk))
          · exact (hl k).2 (.inr (hc j k hj hk))
        · show V j (upd val i v) w'
          by_cases e : j = i
          · rw [e]; exact hv
          · have hj' := ((hl j).1 hj).resolve_left e
            refine hdep j val _ w' (upd_ne val v e).symm (fun k hk => ?_) (hm _ _ hj' (hdr i ((hl i).2 (.inl rfl))) (hV j hj' fun k hk => hdr k ((hl k).2 (.inr hk))))
            have hk' := hc j k hj' hk
            exact (upd_ne val v (fun e' => by rw [e', hu] at hk'; cases hk')).symm
        · have h1 := open_less listed i (by omega) hu (List.range ops.size)
          have h2 := one_there ops.size i hin
          omega
      unfold wpOp
      rw [ho]
      simp only
      split
      · rename_i hw
        rw [if_pos hw] at hO
        refine .inl (Oper.wp_mono (fun a' w' h => ?_) hO)
        obtain ⟨v, rfl, hv, hrel, hG'⟩ := h
        exact next v w' hv (fun j u hj hdr => hmono j i u w w' (fun e => by rw [e, hu] at hj; cases hj) (by
          cases hw' : waits ops j i
          · rfl
          · have := hc j i hj hw'
            rw [hu] at this; cases this) hdr hrel) hG'
      · rename_i hw
        rw [if_neg hw] at hO
        exact next undef w hO.1 (fun _ _ _ _ h => h) hO.2

theorem region_phaseA {id : Nat} {w : World} (hm : P.follows .mixedOrders = true) (htidy : tidy ops = true) (hG : G (fun _ => false) w.drew) (hmono : ∀ i j u w w', i ≠ j → waits ops i j = false → drop j i = false → Rel j w w' → V i u w → V i u w') (hdep : ∀ i u u' w, u i = u' i → (∀ j, waits ops i j = true → u j = u' j) → V i u w → V i u' w)
    (howed : ∀ i o, ops[i]? = some o → OwedP a0 V G Rel drop P ops Q i o)
    (hdone : ∀ val w' L, G L w' → (∀ i, i < ops.size → (∀ j, j < ops.size → drop j i = false) → V i val w') → Q .normal (allPut ops val a0 ops.size) w') : (Code.region id ops true).wp P Q a0 w := by
  refine wp_region_any hm ?_
  have none0 : ∀ i, (Array.replicate ops.size false).getD i false = false := fun i => by
    rw [Array.getD_eq_getD_getElem?, Array.getElem?_replicate]
    split <;> rfl
  refine any_phase (a0 := a0) (V := V) (G := G) (Rel := Rel) htidy hmono hdep howed (fun val a w' L hG' hV hP => ?_) ops.size _ a0 w.drew (fun _ => undef) (by simp) (fun i j hi => by (rw [none0] at hi; cases hi))
    ⟨rfl, rfl, (fun i t hi => by (rw [none0] at hi; cases hi)), fun t _ => rfl⟩ (fun i hi _ => by (rw [none0] at hi; cases hi)) (by
      have e : (fun j => (Array.replicate ops.size false).getD j false) = fun _ => false := by funext j; exact none0 j
      rw [e]; exact hG) ?_
  · have h1 := hP (firstOnes ops.size ops.size) (fun i hi => by rw [firstOnes_get]; simp [hi]) (by unfold firstOnes; simp)
    have h2 := Pt.all htidy a0 val ops.size (Nat.le_refl _)
    rw [h1.same h2]
    exact hdone val w' L hG' hV
  · unfold openOnes
    exact Nat.le_trans (List.length_filter_le _ _) (by simp)


theorem region_phase {id : Nat} {w : World} {l : List Oper} (hm : P.follows .mixedOrders = true) (htidy : tidy l.toArray = true) (hG : G (fun _ => false) w.drew) (hmono : ∀ i j u w w', i ≠ j → waits l.toArray i j = false → drop j i = false → Rel j w w' → V i u w → V i u w') (hdep : ∀ i u u' w, u i = u' i → (∀ j, waits l.toArray i j = true → u j = u' j) → V i u w → V i u' w)
    (howed : Each (OwedP a0 V G Rel drop P l.toArray Q) 0 l)
    (hdone : ∀ val w' L, G L w' → (∀ i, i < l.length → (∀ j, j < l.length → drop j i = false) → V i val w') → Q .normal (putAll val 0 l a0) w') : (Code.region id l.toArray true).wp P Q a0 w :=
  region_phaseA hm htidy hG hmono hdep (fun i o ho => by have := howed.at i o (by simpa using ho); rwa [Nat.zero_add] at this) (fun val w' L h1 h2 => by
    rw [List.size_toArray, allPut_list val a0 l l.length (Nat.le_refl _), List.take_length]
    exact hdone val w' L h1 (by simpa using h2))
theorem oweP {i : Nat} {o : Oper} (hg : o.guard = none)
    (h : ∀ (a : Act) (w : World) (val : Nat → Value) (L : Nat → Bool), G L w → L i = false → (∀ j, waits ops j i = true → L j = false) → (∀ j, waits ops i j = true → spare ops drop i j = true → V j val w) →
      (∀ j t, waits ops i j = true → dstOf ops j = some t → t < a0.tmps.size → a.tmps[t]? = some (val j)) → (∀ t, early ops i t = true → a.tmps[t]? = a0.tmps[t]?) →
      ∀ K : Act → World → Prop, Kept (∀ v w', V i (upd val i v) w' → Rel i w w' → G (upL L i) w' → K (a.put o.dst v) w') → o.wp P a w K Q) : OwedP a0 V G Rel drop P ops Q i o := by
  intro a w val L hG hi hW hV hN hO
  rw [if_pos (by unfold Region.wanted; rw [hg])]
  exact h a w val L hG hi hW hV hN hO _ fun v w' h1 h2 h3 => ⟨v, rfl, h1, h2, h3⟩
end

end Go.Proofs.YtehajmockicilaaDoor

/-
  Where the slots of a raw plan's nodes are: plain mathematics.
-/
import Derived.Test.YtngcfdciehoicaaSchInts
import Derived.Test.YtngcfdciehoicaaSchCount
namespace Go.Proofs.Ytngcfdciehoicaa

/-- The place of a node's slot. -/
def plc (n : Nat) (T : Int) (j : Nat) : Nat := if T ≤ j then ((j : Int) - T).toNat else ((j : Int) - T + n).toNat
theorem plc_lt {n : Nat} {T : Int} {j : Nat} (h0 : 0 ≤ T) (h1 : T < n) (hj : j < n) : plc n T j < n := by
  unfold plc; split <;> omega
theorem node_plc {n : Nat} {T : Int} {j : Nat} (h0 : 0 ≤ T) (h1 : T < n) (hj : j < n) : ((plc n T j : Nat) + T) % (n : Int) = (j : Int) := by
  rw [node_of n T _ (plc_lt h0 h1 hj) h0 h1]
  unfold plc
  split <;> split <;> omega
theorem plc_node {n : Nat} {T : Int} {i j : Nat} (h0 : 0 ≤ T) (h1 : T < n) (hi : i < n) (h : ((i : Int) + T) % (n : Int) = (j : Int)) : plc n T j = i := by
  rw [node_of n T i hi h0 h1] at h
  unfold plc
  split at h <;> split <;> omega
theorem plan_place {n : Nat} {T : Int} (ks : List Int) {j : Nat} (h0 : 0 ≤ T) (h1 : T < n) (hj : j < n) : ∃ p, (planL n T ks n)[plc n T j]? = some p ∧ p.1 = (j : Int) :=
  ⟨_, planL_at n T ks n _ (plc_lt h0 h1 hj), node_plc h0 h1 hj⟩
theorem plan_slot {n : Nat} {T : Int} (ks : List Int) {j : Nat} (h0 : 0 ≤ T) (h1 : T < n) (hj : j < n) : slotK (planL n T ks n) (j : Int) = some (plc n T j) := by
  obtain ⟨p, hp, e⟩ := plan_place ks h0 h1 hj
  refine slotK_some hp e fun i x hi hx ex => ?_
  have hin : i < n := Nat.lt_trans hi (plc_lt h0 h1 hj)
  rw [planL_at n T ks n i hin] at hx
  injection hx with hx
  rw [← hx] at ex
  have := plc_node h0 h1 hin ex
  omega
/-- Vectors of all of the numbers below n. -/
theorem ofI_all {n : Nat} (L : List Int) (_hn : n ≤ 16) (h : ∀ i : Nat, i < 16 → ((∃ x ∈ L, x = (i : Int)) ↔ i < n)) : ofI L = allI (n : Int) := by
  refine vecI_ext _ _ (ofI_range _).1 (ofI_range _).2 (allI_range _).1 (allI_range _).2 fun i hi => ?_
  rw [md_of_list _ i hi, md_all _ i hi, Bool.eq_iff_iff, List.any_eq_true, decide_eq_true_eq]
  have hh := h i hi
  constructor
  · rintro ⟨x, hx, h2⟩
    rw [Bool.and_eq_true, decide_eq_true_eq] at h2
    have h3 := (nodeB_iff x).1 h2.1
    have := hh.1 ⟨x, hx, by omega⟩
    omega
  · intro hin
    obtain ⟨x, hx, rfl⟩ := hh.2 (by omega)
    exact ⟨_, hx, by rw [Bool.and_eq_true, decide_eq_true_eq]; exact ⟨(nodeB_iff _).2 ⟨by omega, by omega⟩, by omega⟩⟩
def metL (n : Nat) (T : Int) (k : Nat) : List Int := (List.range k).map fun j => ((plc n T j : Nat) : Int)
theorem metL_succ (n : Nat) (T : Int) (k : Nat) : ofI (metL n T (k + 1)) = withI (ofI (metL n T k)) ((plc n T k : Nat) : Int) := by
  unfold metL; rw [List.range_succ, List.map_append]; exact ofI_snoc _ _
theorem metL_new {n : Nat} {T : Int} {k : Nat} (h0 : 0 ≤ T) (h1 : T < n) (hk : k < n) : hasB (ofI (metL n T k)) ((plc n T k : Nat) : Int) = false := by
  rw [hasB_of, Bool.and_eq_false_iff]
  right
  rw [List.any_eq_false]
  intro x hx
  obtain ⟨j, hj, rfl⟩ := List.mem_map.1 hx
  have hj := List.mem_range.1 hj
  rw [Bool.and_eq_true, decide_eq_true_eq]
  rintro ⟨-, e⟩
  have a := node_plc h0 h1 (show j < n by omega)
  rw [e, node_plc h0 h1 hk] at a
  omega
theorem metL_all {n : Nat} {T : Int} (h0 : 0 ≤ T) (h1 : T < n) (hn : n ≤ 16) : ofI (metL n T n) = allI (n : Int) := by
  refine ofI_all _ hn fun i hi => ⟨?_, fun h => ?_⟩
  · rintro ⟨x, hx, e⟩
    obtain ⟨j, hj, rfl⟩ := List.mem_map.1 hx
    have := plc_lt h0 h1 (List.mem_range.1 hj)
    omega
  · obtain ⟨j, hj⟩ : ∃ j : Nat, (j : Int) = ((i : Int) + T) % (n : Int) := ⟨(((i : Int) + T) % (n : Int)).toNat, by have := Int.emod_nonneg ((i : Int) + T) (show (n : Int) ≠ 0 by omega); omega⟩
    have hjn : j < n := by have := Int.emod_lt_of_pos ((i : Int) + T) (show (0 : Int) < n by omega); omega
    refine ⟨_, List.mem_map.2 ⟨j, List.mem_range.2 hjn, rfl⟩, ?_⟩
    rw [plc_node h0 h1 h hj.symm]
theorem nodesS_all {n : Nat} {T : Int} (ks : List Int) (h0 : 0 ≤ T) (h1 : T < n) (hn : n ≤ 16) : nodesS (planL n T ks n) = allI (n : Int) := by
  unfold nodesS
  refine ofI_all _ hn fun i hi => ⟨?_, fun h => ?_⟩
  · rintro ⟨x, hx, e⟩
    obtain ⟨s, hs, rfl⟩ := List.mem_map.1 hx
    obtain ⟨j, hj, rfl⟩ := List.mem_map.1 hs
    have := Int.emod_lt_of_pos ((j : Int) + T) (show (0 : Int) < n by omega)
    have e' : ((j : Int) + T) % (n : Int) = (i : Int) := e
    omega
  · obtain ⟨p, hp, e⟩ := plan_place ks h0 h1 h
    exact ⟨p.1, List.mem_map.2 ⟨p, List.mem_of_getElem? hp, rfl⟩, e⟩

/-- A slot of the round that a time is in. -/
theorem round_spot {l : Pl} {C : Int} {s : Spot} (hR : rightS l C = true) (h : InS l C s) (i : Nat) (hi : i < l.length) : InS l C ⟨s.cyc, s.rnd, (i : Int), 0⟩ ∧ valS l C ⟨s.cyc, s.rnd, (i : Int), 0⟩ ≤ valS l C s + 16000 := by
  obtain ⟨p, hp, p1, p2⟩ := first_tick hR i hi
  have ht := rightS_ticked hR
  have hS := rightS_sum hR
  obtain ⟨r0, r1⟩ := valS_rest ht h
  obtain ⟨h1, h2, h4, -⟩ := h
  have hI : InS l C ⟨s.cyc, s.rnd, (i : Int), 0⟩ := ⟨h1, h2, by show (0 : Int) ≤ (i : Int); omega, p, hp, by show (0 : Int) ≤ 0; omega, by show (0 : Int) < p.2; omega⟩
  obtain ⟨q0, q1⟩ := valS_rest ht hI
  refine ⟨hI, ?_⟩
  unfold valS
  simp only at q0 q1 ⊢
  omega
/-- As many slots later as a round has. -/
theorem round_later {l : Pl} {C : Int} {x : Spot} (hR : rightS l C = true) (h : InS l C x) (h0 : x.tck = 0) (hv : valS l C x ≤ 1099511000000) :
    ∃ y : Spot, laterE l C x l.length = 0 ∧ laterV l C x l.length = y ∧ timeE l C y = 0 ∧ timeV l C y = valS l C x + sumS l ∧ y.slt = x.slt ∧ y.tck = 0 := by
  have hl := rightS_len hR
  have hS := rightS_sum hR
  obtain ⟨v, p, hp, q0, q1⟩ := valS_turn hR h
  have la := later_is hR h (m := l.length) (by omega) (by omega) (by omega)
  obtain ⟨i1, i2, i3⟩ := spotQ_in hR (turnQ l C x + l.length)
  rw [valQ_round hR] at i2
  have hval : valS l C (spotQ l C (turnQ l C x + l.length)) = valS l C x + sumS l := by omega
  obtain ⟨t1, t2⟩ := timeE_in hR i1 (by omega)
  refine ⟨_, la.1, la.2, t1, by rw [t2, hval], ?_, rfl⟩
  show (((turnQ l C x + l.length) % l.length : Nat) : Int) = x.slt
  obtain ⟨-, -, h4, p', hp', -⟩ := h
  have hk := (List.getElem?_eq_some_iff.1 hp').1
  rw [Nat.add_mod_right]
  have := (dm (N := l.length) (a := turnQ l C x) (d := (x.cyc * C + x.rnd).toNat) (r := x.slt.toNat) (by unfold turnQ; rw [Nat.mul_comm]) hk).2
  rw [this]; omega

end Go.Proofs.Ytngcfdciehoicaa

/-
  Plans that may not be: plain mathematics. A slice of a plan's first slot.
-/
import Derived.Test.YtmklabdfalkldaaSchInts
import Derived.Test.YtmklabdfalkldaaSchCount
import Derived.BigRegion
import Derived.BigQuiet
namespace Go.Proofs.Ytmklabdfalkldaa
open Go.RowKit

theorem at_wrong {l : Pl} {C : Int} (h : rightS l C = false) (t : Int) : atE l C t = 1 ∧ atV l C t = ⟨0, 0, 0, 0⟩ := by
  have : atB l C t = false := by unfold atB; rw [h]; rfl
  unfold atE atV
  rw [this]
  exact ⟨rfl, rfl⟩
theorem time_wrong {l : Pl} {C : Int} (h : rightS l C = false) (s : Spot) : timeE l C s = 1 ∧ timeV l C s = 0 :=
  timeE_one l C s (by unfold inB; rw [h]; simp)
theorem slot_wrong {l : Pl} {C : Int} (h : rightS l C = false) (n : Int) : slotV l C n = 0 ∧ slotB l C n = false := by
  unfold slotV slotB
  rw [h]
  exact ⟨rfl, rfl⟩
theorem round_wrong {l : Pl} {C : Int} (h : rightS l C = false) : roundS l C = 0 := by unfold roundS; rw [h]; rfl
theorem not_right {l : Pl} {C : Int} (h : ¬ rightS l C = true) : rightS l C = false := by cases h2 : rightS l C <;> simp_all
theorem odd_node {l : Pl} {C : Int} {k : Nat} {p q : Int × Int} (_hp : l[k]? = some p) (hq : l[k + 1]? = some q) : rightS (l.set k (q.1, p.2)) C = false := by
  refine not_right fun h => ?_
  have h5 := ((rightS_each _ C).1 h).2.2.2.2
  have hk := (List.getElem?_eq_some_iff.1 hq).1
  rw [List.pairwise_map] at h5
  have e1 : (l.set k (q.1, p.2))[k]? = some (q.1, p.2) := by rw [List.getElem?_set, if_pos rfl, if_pos (by omega)]
  have e2 : (l.set k (q.1, p.2))[k + 1]? = some q := by rw [List.getElem?_set, if_neg (by omega)]; exact hq
  obtain ⟨g1, f1⟩ := List.getElem?_eq_some_iff.1 e1
  obtain ⟨g2, f2⟩ := List.getElem?_eq_some_iff.1 e2
  have := List.pairwise_iff_getElem.1 h5 k (k + 1) g1 g2 (by omega)
  rw [f1, f2] at this
  exact this rfl
theorem odd_ticks {l : Pl} {C : Int} {k : Nat} {p : Int × Int} (hp : l[k]? = some p) : rightS (l.set k (p.1, 0)) C = false := by
  refine not_right fun h => ?_
  have h3 := ((rightS_each _ C).1 h).2.2.1
  have hk := (List.getElem?_eq_some_iff.1 hp).1
  have e1 : (l.set k (p.1, 0))[k]? = some (p.1, 0) := by rw [List.getElem?_set, if_pos rfl, if_pos hk]
  have := h3 _ (List.mem_of_getElem? e1)
  simp at this
theorem odd_one {l : Pl} {C : Int} : rightS (l.take 1) C = false := by
  refine not_right fun h => ?_
  have h1 := (rightS_len h).1
  rw [List.length_take] at h1
  omega
theorem odd_cycle {l : Pl} : rightS l 0 = false := by
  refine not_right fun h => ?_
  have := (rightS_cyc h).1
  omega
theorem Sls.take {w : World} {B : Nat} {A : Option Addr} {l : Pl} (h : Sls w B A l) (k : Nat) : Sls w B A (l.take k) := fun hn => by
  rw [List.length_take] at hn
  obtain ⟨ad, e, hb, hc⟩ := h (by omega)
  refine ⟨ad, e, hb, fun j s hs => hc j s ?_⟩
  have hj := (List.getElem?_eq_some_iff.1 hs).1
  rw [List.length_take] at hj
  rwa [List.getElem?_take_of_lt (by omega)] at hs

theorem run_one (A : Option Addr) (n c : Nat) (hn : 1 ≤ n) (hc : n ≤ c) (w : World) : (Instr.slice 23 (.slice A n c) none (some (.int .i64 1)) none).run Try.prog w = .ok (.slice A 1 c) w := by
  have hu : Try.prog.underlying 23 = some (.slice (Try.prog.elem 23)) := by kernel_rfl
  have hs : ∀ w, (sizeOf (Try.prog.elem 23)).run Try.prog w = .ok 2 w := fun w => by
    obtain ⟨i0, hi, hz0, hz1, hz2⟩ := info_parts sl_info
    have he : Try.prog.elem 23 = 45 := by kernel_rfl
    rw [he]
    simp [sizeOf, typeInfo, hi, hz1]
  rw [run_slice_h w 23 A n c hu .i64 1 (by omega) (by omega), hs]
  simp [Result.andThen, sliced]
  intro _
  cases A with
  | none => rfl
  | some a => show some (a.add 0) = some a; rw [addr_zero]

/-- Four plans in a block. -/
def FourAt (W : World) (q : Nat) (A1 A2 A3 A4 : Option Addr) (n1 c1 n2 c2 n3 c3 n4 c4 : Nat) (C1 C2 C3 C4 : Int) : Prop :=
  W.heap[q]? = some (.cells #[.slice A1 n1 c1, .int .i64 C1, .slice A2 n2 c2, .int .i64 C2, .slice A3 n3 c3, .int .i64 C3, .slice A4 n4 c4, .int .i64 C4] 25 (0, 0))
/-- A plan that may not be, where it lies: one of four. -/
def Wrong (W : World) (q j : Nat) (A : Option Addr) (c : Nat) (C : Int) (l : Pl) : Prop :=
  W.cell? ⟨q, j * 2, none⟩ = some (.slice A l.length c) ∧ W.cell? ⟨q, j * 2 + 1, none⟩ = some (.int .i64 C) ∧ Sls W W.heap.size A l ∧ rightS l C = false ∧ l.length ≤ maxLen
theorem Wrong.on {W W' : World} {q j : Nat} {A : Option Addr} {c : Nat} {C : Int} {l : Pl} (h : Wrong W q j A c C l) (hb : Below W.heap.size W W') : Wrong W' q j A c C l := by
  obtain ⟨h1, h2, h3, h4, h5⟩ := h
  have hq := World.block_lt_of_cell? W _ h1
  exact ⟨(hb.cell hq).trans h1, (hb.cell (p := ⟨q, j * 2 + 1, none⟩) hq).trans h2, (h3.on hb).more hb.size, h4, h5⟩

theorem four_wrong {W : World} {q : Nat} {A1 A2 A3 A4 : Option Addr} {n1 c1 n2 c2 n3 c3 n4 c4 : Nat} {C1 C2 C3 C4 : Int} {l1 l2 l3 l4 : Pl} (h : FourAt W q A1 A2 A3 A4 n1 c1 n2 c2 n3 c3 n4 c4 C1 C2 C3 C4)
    (e1 : l1.length = n1) (e2 : l2.length = n2) (e3 : l3.length = n3) (e4 : l4.length = n4) (s1 : Sls W W.heap.size A1 l1) (s2 : Sls W W.heap.size A2 l2) (s3 : Sls W W.heap.size A3 l3) (s4 : Sls W W.heap.size A4 l4)
    (r1 : rightS l1 C1 = false) (r2 : rightS l2 C2 = false) (r3 : rightS l3 C3 = false) (r4 : rightS l4 C4 = false) (hm : n4 ≤ 16) (hm1 : n1 ≤ 16 := by omega) (hm2 : n2 ≤ 16 := by omega) (hm3 : n3 ≤ 16 := by omega) :
    ∀ j : Nat, j < 4 → ∃ A' c' C' l', Wrong W q j A' c' C' l' := fun j hj => by
  subst e1 e2 e3 e4
  rcases (show j = 0 ∨ j = 1 ∨ j = 2 ∨ j = 3 by omega) with rfl | rfl | rfl | rfl
  · exact ⟨A1, c1, C1, l1, (cell_of h 0).trans rfl, (cell_of h 1).trans rfl, s1, r1, by unfold maxLen; omega⟩
  · exact ⟨A2, c2, C2, l2, (cell_of h 2).trans rfl, (cell_of h 3).trans rfl, s2, r2, by unfold maxLen; omega⟩
  · exact ⟨A3, c3, C3, l3, (cell_of h 4).trans rfl, (cell_of h 5).trans rfl, s3, r3, by unfold maxLen; omega⟩
  · exact ⟨A4, c4, C4, l4, (cell_of h 6).trans rfl, (cell_of h 7).trans rfl, s4, r4, by unfold maxLen; omega⟩

end Go.Proofs.Ytmklabdfalkldaa

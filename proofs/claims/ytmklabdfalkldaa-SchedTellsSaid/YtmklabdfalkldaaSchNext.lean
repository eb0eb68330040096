/-
  A tick later it is the next spot: plain mathematics. A plan in memory, with its box.
-/
import Derived.Test.YtmklabdfalkldaaSchAwake
namespace Go.Proofs.Ytmklabdfalkldaa
open Go.RowKit

theorem right_at_facts {l : Pl} {C : Int} (h : rightS l C = true) : Ticked l ∧ l ≠ [] ∧ (1 ≤ C ∧ C ≤ 64) := ⟨rightS_ticked h, rightS_ne h, rightS_cyc h⟩
theorem atE_zero {l : Pl} {C t : Int} (h : rightS l C = true) (h0 : 0 ≤ t) (h1 : t ≤ 1099511627776) : atE l C t = 0 ∧ atV l C t = spotS l C t := by
  have := (atB_iff l C t).2 ⟨h, h0, h1⟩
  unfold atE atV
  rw [this]
  exact ⟨rfl, rfl⟩
theorem cyc_le {l : Pl} {C : Int} {s : Spot} (hR : rightS l C = true) (h : InS l C s) : 0 ≤ valS l C s ∧ s.cyc ≤ valS l C s := by
  have hc := rightS_cyc hR
  have hS := rightS_sum hR
  obtain ⟨r0, -⟩ := valS_rest (rightS_ticked hR) h
  obtain ⟨h1, ⟨h2, h3⟩, -⟩ := h
  have a : s.cyc * 1 ≤ s.cyc * C := Int.mul_le_mul_of_nonneg_left (by omega) h1
  have hq : 0 ≤ s.cyc * C + s.rnd := by omega
  have f : (s.cyc * C + s.rnd) * 1 ≤ (s.cyc * C + s.rnd) * sumS l := Int.mul_le_mul_of_nonneg_left (by omega) hq
  unfold valS
  omega
/-- The time of a spot that may be, where it is not beyond MaxTime. -/
theorem timeE_in {l : Pl} {C : Int} {s : Spot} (hR : rightS l C = true) (h : InS l C s) (h1 : valS l C s ≤ 1099511627776) : timeE l C s = 0 ∧ timeV l C s = valS l C s := by
  have hb := (timeE_zero l C s).2 ⟨in_inB hR h (by have := (cyc_le hR h).2; unfold maxT; omega), h1⟩
  exact ⟨hb, timeV_of hb⟩
theorem time_at {l : Pl} {C t : Int} (h : rightS l C = true) (h0 : 0 ≤ t) (h1 : t ≤ 1099511627776) : timeE l C (spotS l C t) = 0 ∧ timeV l C (spotS l C t) = t := by
  obtain ⟨a, b, c⟩ := right_at_facts h
  obtain ⟨e, i⟩ := val_spot (c := C) a b c.1 h0
  have := timeE_in h i (by rw [e]; exact h1)
  rw [e] at this
  exact this
theorem first_tick {l : Pl} {C : Int} (h : rightS l C = true) (k : Nat) (hk : k < l.length) : ∃ p, l[k]? = some p ∧ 1 ≤ p.2 ∧ p.2 ≤ 1000 := by
  have ht := rightS_ticked h
  exact ⟨_, List.getElem?_eq_getElem hk, ht _ (List.getElem_mem hk)⟩
/-- The next spot. -/
theorem next_spot {l : Pl} {C : Int} (hR : rightS l C = true) (c r : Int) (k : Nat) (x t : Int) (p : Int × Int) (h : InS l C ⟨c, r, (k : Int), x⟩) (hv : valS l C ⟨c, r, (k : Int), x⟩ = t) (hp : l[k]? = some p) :
    (x + 1 < p.2 → spotS l C (t + 1) = ⟨c, r, (k : Int), x + 1⟩) ∧
    (x + 1 = p.2 → k + 1 < l.length → spotS l C (t + 1) = ⟨c, r, (k : Int) + 1, 0⟩) ∧
    (x + 1 = p.2 → k + 1 = l.length → r + 1 < C → spotS l C (t + 1) = ⟨c, r + 1, 0, 0⟩) ∧
    (x + 1 = p.2 → k + 1 = l.length → r + 1 = C → spotS l C (t + 1) = ⟨c + 1, 0, 0, 0⟩) := by
  obtain ⟨ht, hne, hc⟩ := right_at_facts hR
  obtain ⟨h1, ⟨h2, h3⟩, h4, p', hp', h5, h6⟩ := h
  simp only [Int.toNat_natCast] at hp' h1 h2 h3 h4 h5 h6
  rw [hp] at hp'
  obtain rfl : p = p' := by injection hp'
  have hk := (List.getElem?_eq_some_iff.1 hp).1
  have es := aheadS_succ l k p hp
  have hv' : (c * C + r) * sumS l + aheadS l k + x = t := by rw [← hv]; unfold valS; simp only [Int.toNat_natCast]
  refine ⟨fun g => ?_, fun g g2 => ?_, fun g g2 g3 => ?_, fun g g2 g3 => ?_⟩
  · have hI : InS l C ⟨c, r, (k : Int), x + 1⟩ := ⟨h1, ⟨h2, h3⟩, h4, p, by simpa using hp, by show 0 ≤ x + 1; omega, g⟩
    rw [← spot_val ht hI]
    congr 1
    unfold valS; simp only [Int.toNat_natCast]; omega
  · obtain ⟨p2, hp2, q1, q2⟩ := first_tick hR (k + 1) g2
    have hI : InS l C ⟨c, r, (k : Int) + 1, 0⟩ := ⟨h1, ⟨h2, h3⟩, by show 0 ≤ (k : Int) + 1; omega, p2, by show l[((k : Int) + 1).toNat]? = _; rw [show ((k : Int) + 1).toNat = k + 1 by omega]; exact hp2, by show (0 : Int) ≤ 0; omega, by show 0 < p2.2; omega⟩
    rw [← spot_val ht hI]
    congr 1
    unfold valS; simp only [show ((k : Int) + 1).toNat = k + 1 by omega]; omega
  · have ea := aheadS_all l
    rw [← g2] at ea
    obtain ⟨p2, hp2, q1, q2⟩ := first_tick hR 0 (by omega)
    have hI : InS l C ⟨c, r + 1, 0, 0⟩ := ⟨h1, ⟨by show 0 ≤ r + 1; omega, g3⟩, by show (0 : Int) ≤ 0; omega, p2, hp2, by show (0 : Int) ≤ 0; omega, by show 0 < p2.2; omega⟩
    rw [← spot_val ht hI]
    congr 1
    unfold valS; simp only [Int.toNat_zero, aheadS_zero]
    rw [show c * C + (r + 1) = (c * C + r) + 1 by omega, Int.add_mul, Int.one_mul]
    omega
  · have ea := aheadS_all l
    rw [← g2] at ea
    obtain ⟨p2, hp2, q1, q2⟩ := first_tick hR 0 (by omega)
    have hI : InS l C ⟨c + 1, 0, 0, 0⟩ := ⟨by show 0 ≤ c + 1; omega, ⟨by show (0 : Int) ≤ 0; omega, by show 0 < C; omega⟩, by show (0 : Int) ≤ 0; omega, p2, hp2, by show (0 : Int) ≤ 0; omega, by show 0 < p2.2; omega⟩
    rw [← spot_val ht hI]
    congr 1
    unfold valS; simp only [Int.toNat_zero, aheadS_zero]
    rw [show (c + 1) * C + 0 = (c * C + r) + 1 by rw [Int.add_mul, Int.one_mul]; omega, Int.add_mul, Int.one_mul]
    omega

/-- A plan in a box. -/
structure Has (W : World) (b : Nat) (A : Option Addr) (c : Nat) (C : Int) (l : Pl) : Prop where
  pl : PlAt W b A l.length c C
  sl : Sls W W.heap.size A l
theorem Has.on {W W' : World} {b : Nat} {A : Option Addr} {c : Nat} {C : Int} {l : Pl} (h : Has W b A c C l) (hb : Below W.heap.size W W') : Has W' b A c C l :=
  ⟨h.pl.on hb, (h.sl.on hb).more hb.size⟩
theorem Has.new {W : World} {A : Option Addr} {c : Nat} {C : Int} {l : Pl} (h : Sls W W.heap.size A l) : Has (W.alloc (.cells #[.slice A l.length c, .int .i64 C] 25)) W.heap.size A c C l := by
  have hb := Joins.below_alloc1 W (.cells #[.slice A l.length c, .int .i64 C] 25)
  exact ⟨PlAt.new W A l.length c C, (h.on hb).more hb.size⟩
theorem Has.slot {W : World} {b : Nat} {A : Option Addr} {c : Nat} {C : Int} {l : Pl} (h : Has W b A c C l) {k : Nat} {p : Int × Int} (hp : l[k]? = some p) : ∃ ad, A = some ad ∧ W.cell? (ad.add (k * 2)) = some (.int .i64 p.1) ∧ W.cell? ⟨(ad.add (k * 2)).block, (ad.add (k * 2)).off + 1, none⟩ = some (.int .i64 p.2) := by
  obtain ⟨ad, rfl, -, hc⟩ := h.sl (by have := (List.getElem?_eq_some_iff.1 hp).1; omega)
  exact ⟨ad, rfl, hc k p hp⟩

end Go.Proofs.Ytmklabdfalkldaa

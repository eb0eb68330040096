/-
  Slots counted through, from the first one of all on: plain mathematics.
-/
import Derived.Test.YtmklabdfalkldaaSchNext
namespace Go.Proofs.Ytmklabdfalkldaa

theorem dm {N a d r : Nat} (h : a = N * d + r) (hr : r < N) : a / N = d ∧ a % N = r := by
  subst h
  constructor
  · rw [Nat.mul_add_div (by omega), Nat.div_eq_of_lt hr]; rfl
  · rw [Nat.mul_add_mod, Nat.mod_eq_of_lt hr]
/-- When the q-th slot begins. -/
def valQ (l : Pl) (q : Nat) : Int := ((q / l.length : Nat) : Int) * sumS l + aheadS l (q % l.length)
theorem valQ_succ {l : Pl} {C : Int} (hR : rightS l C = true) (q : Nat) (p : Int × Int) (hp : l[q % l.length]? = some p) : valQ l (q + 1) = valQ l q + p.2 := by
  have hl := rightS_len hR
  have hN : 0 < l.length := by omega
  have e := Nat.div_add_mod q l.length
  have hr := Nat.mod_lt q hN
  have es := aheadS_succ l _ p hp
  unfold valQ
  generalize hd : q / l.length = d at *
  generalize hrr : q % l.length = r at *
  by_cases h : r + 1 < l.length
  · obtain ⟨h1, h2⟩ := dm (N := l.length) (a := q + 1) (d := d) (r := r + 1) (by omega) h
    rw [h1, h2]; omega
  · have e2 : r + 1 = l.length := by omega
    have e3 : l.length * (d + 1) = l.length * d + l.length := Nat.mul_succ _ _
    obtain ⟨h1, h2⟩ := dm (N := l.length) (a := q + 1) (d := d + 1) (r := 0) (by omega) hN
    rw [h1, h2, aheadS_zero]
    rw [e2, aheadS_all] at es
    rw [show ((d + 1 : Nat) : Int) = (d : Int) + 1 from rfl, Int.add_mul, Int.one_mul]
    omega
theorem slot_there {l : Pl} {C : Int} (hR : rightS l C = true) (q : Nat) : ∃ p, l[q % l.length]? = some p ∧ 1 ≤ p.2 ∧ p.2 ≤ 1000 := first_tick hR _ (Nat.mod_lt _ (by have := rightS_len hR; omega))
theorem valQ_add {l : Pl} {C : Int} (hR : rightS l C = true) (q m : Nat) : valQ l q + m ≤ valQ l (q + m) ∧ valQ l (q + m) ≤ valQ l q + 1000 * m := by
  induction m with
  | zero => simp
  | succ m ih =>
    obtain ⟨p, hp, h1, h2⟩ := slot_there hR (q + m)
    have := valQ_succ hR (q + m) p hp
    rw [show q + (m + 1) = q + m + 1 by omega, this]
    omega
theorem valQ_round {l : Pl} {C : Int} (hR : rightS l C = true) (q : Nat) : valQ l (q + l.length) = valQ l q + sumS l := by
  have hl := rightS_len hR
  have h2 : (q + l.length) % l.length = q % l.length := Nat.add_mod_right _ _
  unfold valQ
  rw [Nat.add_div_right q (by omega), h2]
  rw [show ((q / l.length).succ : Int) = ((q / l.length : Nat) : Int) + 1 from rfl, Int.add_mul, Int.one_mul]
  omega
/-- The q-th slot's first tick. -/
def spotQ (l : Pl) (C : Int) (q : Nat) : Spot := ⟨((q / l.length : Nat) : Int) / C, ((q / l.length : Nat) : Int) % C, ((q % l.length : Nat) : Int), 0⟩
/-- Which slot, of all, a spot is in. -/
def turnQ (l : Pl) (C : Int) (s : Spot) : Nat := (s.cyc * C + s.rnd).toNat * l.length + s.slt.toNat
theorem spotQ_in {l : Pl} {C : Int} (hR : rightS l C = true) (q : Nat) : InS l C (spotQ l C q) ∧ valS l C (spotQ l C q) = valQ l q ∧ turnQ l C (spotQ l C q) = q := by
  have hc := rightS_cyc hR
  obtain ⟨p, hp, h1, h2⟩ := slot_there hR q
  have hq : 0 ≤ ((q / l.length : Nat) : Int) := Int.natCast_nonneg _
  have em := Int.mul_ediv_add_emod ((q / l.length : Nat) : Int) C
  rw [Int.mul_comm] at em
  refine ⟨⟨Int.ediv_nonneg hq (by omega), ⟨Int.emod_nonneg _ (by omega), Int.emod_lt_of_pos _ (by omega)⟩, Int.natCast_nonneg _, p, by show l[((q % l.length : Nat) : Int).toNat]? = some p; rw [Int.toNat_natCast]; exact hp, by show (0 : Int) ≤ 0; omega, by show 0 < p.2; omega⟩, ?_, ?_⟩
  · unfold valS spotQ valQ
    simp only [Int.toNat_natCast]
    rw [em]; omega
  · unfold turnQ spotQ
    simp only [Int.toNat_natCast]
    rw [em, Int.toNat_natCast]
    have := Nat.div_add_mod q l.length
    rw [Nat.mul_comm] at this
    exact this
theorem nextS_eq {l : Pl} {C : Int} {s : Spot} (hR : rightS l C = true) (h : InS l C s) (m : Nat) : nextS l C s m = spotQ l C (turnQ l C s + m) := by
  have hc := rightS_cyc hR
  have hl := rightS_len hR
  obtain ⟨h1, ⟨h2, h3⟩, h4, -⟩ := h
  have a : 0 ≤ s.cyc * C := Int.mul_nonneg h1 (by omega)
  obtain ⟨Q, hQ⟩ : ∃ Q : Nat, (Q : Int) = s.cyc * C + s.rnd := ⟨(s.cyc * C + s.rnd).toNat, by omega⟩
  obtain ⟨K, hK⟩ : ∃ K : Nat, (K : Int) = s.slt := ⟨s.slt.toNat, by omega⟩
  unfold nextS spotQ turnQ
  rw [← hQ, ← hK, Int.toNat_natCast, Int.toNat_natCast]
  have hN : 0 < l.length := by omega
  have e1 : (Q * l.length + K + m) / l.length = Q + (K + m) / l.length := by rw [Nat.add_assoc, Nat.mul_comm, Nat.mul_add_div hN]
  have e2 : (Q * l.length + K + m) % l.length = (K + m) % l.length := by rw [Nat.add_assoc, Nat.mul_comm, Nat.mul_add_mod]
  rw [e1, e2]
  simp only [Int.natCast_add, Int.natCast_ediv, Int.natCast_emod]
theorem valS_turn {l : Pl} {C : Int} {s : Spot} (hR : rightS l C = true) (h : InS l C s) : valS l C s = valQ l (turnQ l C s) + s.tck ∧ ∃ p, l[turnQ l C s % l.length]? = some p ∧ 0 ≤ s.tck ∧ s.tck < p.2 := by
  have hc := rightS_cyc hR
  have hl := rightS_len hR
  obtain ⟨h1, ⟨h2, h3⟩, h4, p, hp, h5, h6⟩ := h
  have hk := (List.getElem?_eq_some_iff.1 hp).1
  have a : 0 ≤ s.cyc * C := Int.mul_nonneg h1 (by omega)
  obtain ⟨Q, hQ⟩ : ∃ Q : Nat, (Q : Int) = s.cyc * C + s.rnd := ⟨(s.cyc * C + s.rnd).toNat, by omega⟩
  obtain ⟨e1, e2⟩ := dm (N := l.length) (a := Q * l.length + s.slt.toNat) (d := Q) (r := s.slt.toNat) (by rw [Nat.mul_comm]) hk
  have et : turnQ l C s = Q * l.length + s.slt.toNat := by unfold turnQ; rw [← hQ, Int.toNat_natCast]
  refine ⟨?_, p, ?_, h5, h6⟩
  · unfold valQ valS
    rw [et, e1, e2, ← hQ]
  · rw [et, e2]; exact hp
/-- So many slots later it is so much later. -/
theorem later_val {l : Pl} {C : Int} {s : Spot} (hR : rightS l C = true) (h : InS l C s) (m : Nat) (hm : 0 < m) : valS l C s < valQ l (turnQ l C s + m) ∧ valQ l (turnQ l C s + m) ≤ valS l C s + 1000 * m := by
  obtain ⟨e, p, hp, h1, h2⟩ := valS_turn hR h
  have a := valQ_succ hR (turnQ l C s) p hp
  have b := (valQ_add hR (turnQ l C s + 1) (m - 1)).1
  have c := (valQ_add hR (turnQ l C s) m).2
  rw [show turnQ l C s + 1 + (m - 1) = turnQ l C s + m by omega] at b
  omega
theorem later_is {l : Pl} {C : Int} {s : Spot} {m : Nat} (hR : rightS l C = true) (h : InS l C s) (hm : 0 < m) (hm2 : m ≤ 1073741824) (hv : valS l C s + 1000 * m ≤ 1099511627776) :
    laterE l C s m = 0 ∧ laterV l C s m = spotQ l C (turnQ l C s + m) := by
  have ht := timeE_in hR h (by omega)
  have hb := (laterB_iff l C s m).2 ⟨ht.1, by omega, by omega⟩
  obtain ⟨i1, i2, i3⟩ := spotQ_in hR (turnQ l C s + m)
  have hn := later_next hb (by omega) (by
    rw [nextS_eq hR h m]
    exact (timeE_in hR i1 (by rw [i2]; have := (later_val hR h m hm).2; omega)).1)
  rwa [nextS_eq hR h m] at hn
theorem later_none {l : Pl} {C : Int} {s : Spot} (hR : rightS l C = true) (h : InS l C s) (hv : valS l C s ≤ 1099511627776) : laterE l C s 0 = 0 ∧ laterV l C s 0 = s :=
  later_zero ((laterB_iff l C s 0).2 ⟨(timeE_in hR h hv).1, by omega, by omega⟩) rfl

end Go.Proofs.Ytmklabdfalkldaa

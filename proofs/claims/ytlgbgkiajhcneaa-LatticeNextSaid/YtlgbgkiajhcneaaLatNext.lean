/-
  The law LatticeNext.
-/
import Derived.Test.YtlgbgkiajhcneaaLatLaw
import Derived.Test.YtlgbgkiajhcneaaLatMath
namespace Go.Proofs.Ytlgbgkiajhcneaa
open Go.RowKit

set_option maxRecDepth 100000 in
set_option maxHeartbeats 2000000 in
theorem latticeNext_walk (a0 a1 a2 : Int) (w0 : (Lit.int .i64 a0).wf = true) (w1 : (Lit.int .i64 a1).wf = true) (w2 : (Lit.int .i64 a2).wf = true) (w : World) :
    Calls Try.prog 7 #[.int .i64 a0, .int .i64 a1, .int .i64 a2] w fun e w' => e = .returned (.bool true) ∧ Below w.heap.size w w' := by
  have cl := fun W => lattice_any a0 a1 w0 w1 W
  have p2 := fun W => pick_any a2 1099511627776 w2 (by omega) W
  have hr : Rt (latA a0) (latA a1) := ⟨latA_range a0, latA_range a1⟩
  obtain ⟨t0, t1⟩ := pickI_range a2 1099511627776 (by omega)
  generalize latA a0 = la at *
  generalize latA a1 = lg at *
  generalize pickI a2 1099511627776 = P at *
  obtain ⟨t, ht⟩ : ∃ t, P - 549755813888 = t := ⟨_, rfl⟩
  have hT : Tm t := ⟨by omega, by omega⟩
  have hb0 : -549755813888 ≤ t ∧ t ≤ 549755813888 := by omega
  have cn := fun W => next_any la lg t W
  have ce := fun W => epoch_any la lg t W
  have ca := fun W => active_any la lg t W
  rw [next_ok hr hT, err_ok hr hT] at cn
  rw [ep_ok hr hT, err_ok hr hT] at ce
  rw [act_ok hr hT] at ca
  obtain ⟨n1, n2⟩ := next_facts (t := t) hr
  have hP : P = t + 549755813888 := by omega
  subst hP
  obtain ⟨⟨l0, l1⟩, g0, g1⟩ := id hr
  have hw1 : IntKind.i64.wrap (t + 549755813888 - 549755813888) = t := by rw [IntWalk.i64_in _ (by omega)]; omega
  clear w0 w1 w2
  by_cases hm : t % (la + lg) < la
  · have hn := n1 hm
    rw [hn] at cn
    rw [decide_eq_true hm] at ca
    have hX : epI la lg t * (la + lg) = t - t % (la + lg) := by
      obtain ⟨q, m, rfl, m0, m1, e1, e2⟩ := at_split t (la + lg) (by omega)
      have e3 : (q * (la + lg) + m) % (la + lg) = m := e2
      rw [e3] at hm ⊢
      rw [ep_at hr (by omega) (by omega)]; omega
    have hm0 := Int.emod_nonneg t (show la + lg ≠ 0 by omega)
    have cb := fun W => begin_any la lg (epI la lg t) W
    rw [(beg_ok hr (.inr ⟨by omega, by omega⟩)).1, (beg_ok hr (.inr ⟨by omega, by omega⟩)).2] at cb
    generalize epI la lg t * (la + lg) = B at *
    generalize epI la lg t = X at *
    clear n1 n2 hX hm hm0 hn hr hT ht hb0
    have CAW := Lib.hid (fun W => awake_any W)
    have CL := Lib.hid cl
    have P2 := Lib.hid p2
    have CN := Lib.hid cn
    have CE := Lib.hid ce
    have CA := Lib.hid ca
    have CB := Lib.hid cb
    clear cl p2 cn ce ca cb
    go_enter Try.func7, Try.ntmps7
    go_wp2_with fail
    (refine (CAW.out _).mono ?_); rintro e v1 ⟨rfl, b⟩
    have HB := Lib.hid b
    clear b
    go_wp2_with fail
    (refine (CL.out _).mono ?_); rintro e v2 ⟨rfl, b⟩
    replace HB := Lib.hid (HB.out.trans (b.mono HB.out.size))
    clear b
    have HL := Lib.hid (LtAt.new v2 la lg)
    replace HB := Lib.hid (HB.out.trans ((Joins.below_alloc1 v2 (.cells #[.int .i64 la, .int .i64 lg] 23)).mono HB.out.size))
    obtain ⟨y0, y1⟩ := HL.out.cells
    go_wp2_with fail
    (with_reducible refine (P2.out _).mono ?_); rintro e v3 ⟨rfl, rfl⟩
    go_wp2_with fail
    (with_reducible refine (CN.out _).mono ?_); rintro e v4 ⟨rfl, b⟩
    replace HB := Lib.hid (HB.out.trans (b.mono HB.out.size))
    replace HL := Lib.hid (HL.out.on b)
    clear y0 y1
    obtain ⟨y0, y1⟩ := HL.out.cells
    clear b
    go_wp2_with fail
    (with_reducible refine (CN.out _).mono ?_); rintro e v5 ⟨rfl, b⟩
    replace HB := Lib.hid (HB.out.trans (b.mono HB.out.size))
    replace HL := Lib.hid (HL.out.on b)
    clear y0 y1
    obtain ⟨y0, y1⟩ := HL.out.cells
    clear b
    go_wp2_with fail
    (with_reducible refine (CE.out _).mono ?_); rintro e v6 ⟨rfl, b⟩
    replace HB := Lib.hid (HB.out.trans (b.mono HB.out.size))
    replace HL := Lib.hid (HL.out.on b)
    clear y0 y1
    obtain ⟨y0, y1⟩ := HL.out.cells
    clear b
    go_wp2_with fail
    (with_reducible refine (CE.out _).mono ?_); rintro e v7 ⟨rfl, b⟩
    replace HB := Lib.hid (HB.out.trans (b.mono HB.out.size))
    replace HL := Lib.hid (HL.out.on b)
    clear y0 y1
    obtain ⟨y0, y1⟩ := HL.out.cells
    clear b
    go_wp2_with fail
    (with_reducible refine (CB.out _).mono ?_); rintro e v8 ⟨rfl, b⟩
    replace HB := Lib.hid (HB.out.trans (b.mono HB.out.size))
    replace HL := Lib.hid (HL.out.on b)
    clear y0 y1
    obtain ⟨y0, y1⟩ := HL.out.cells
    clear b
    go_wp2_with fail
    (with_reducible refine (CA.out _).mono ?_); rintro e v9 ⟨rfl, b⟩
    replace HB := Lib.hid (HB.out.trans (b.mono HB.out.size))
    replace HL := Lib.hid (HL.out.on b)
    clear y0 y1
    obtain ⟨y0, y1⟩ := HL.out.cells
    clear b
    go_wp2_with fail
    go_ret
    exact ⟨rfl, HB.out⟩
  · obtain ⟨q, e1, e2, e3, e4, e5, e6, e7⟩ := n2 hm
    have hT2 : Tm (q * (la + lg)) := ⟨by omega, by omega⟩
    have cn2 := fun W => next_any la lg (q * (la + lg)) W
    have ce2 := fun W => epoch_any la lg (q * (la + lg)) W
    have ca2 := fun W => active_any la lg (q * (la + lg)) W
    have cb := fun W => begin_any la lg q W
    have hT3 : Tm q := by
      have := (beg_ok (k := q) hr (.inr hT2)).2
      unfold errB begB at this
      cases h : mayL la lg q
      · rw [h] at this; simp at this
      · exact ((mayL_iff la lg q).1 h).2
    rw [next_ok hr hT2, err_ok hr hT2, e4] at cn2
    rw [ep_ok hr hT2, err_ok hr hT2, e6] at ce2
    rw [act_ok hr hT2, decide_eq_true e5] at ca2
    rw [(beg_ok hr (.inr hT2)).1, (beg_ok hr (.inr hT2)).2] at cb
    rw [e1] at cn
    rw [decide_eq_false hm] at ca
    generalize q * (la + lg) = N at *
    generalize epI la lg t = X at *
    obtain ⟨q0, q1⟩ := hT3
    clear n1 n2 hm hr hT hT2 ht e1 e4 e5 e6 hb0
    have e8 : ¬ N < t := by omega
    have e9 : ¬ N = t := by omega
    have e10 : q - 1 ≤ X := by omega
    have e11 : X ≤ q := by omega
    have CAW := Lib.hid (fun W => awake_any W)
    have CL := Lib.hid cl
    have P2 := Lib.hid p2
    have CN := Lib.hid cn
    have CE := Lib.hid ce
    have CA := Lib.hid ca
    have CB := Lib.hid cb
    have CN2 := Lib.hid cn2
    have CE2 := Lib.hid ce2
    have CA2 := Lib.hid ca2
    clear cl p2 cn ce ca cb cn2 ce2 ca2
    go_enter Try.func7, Try.ntmps7
    go_wp2_with fail
    (refine (CAW.out _).mono ?_); rintro e v1 ⟨rfl, b⟩
    have HB := Lib.hid b
    clear b
    go_wp2_with fail
    (refine (CL.out _).mono ?_); rintro e v2 ⟨rfl, b⟩
    replace HB := Lib.hid (HB.out.trans (b.mono HB.out.size))
    clear b
    have HL := Lib.hid (LtAt.new v2 la lg)
    replace HB := Lib.hid (HB.out.trans ((Joins.below_alloc1 v2 (.cells #[.int .i64 la, .int .i64 lg] 23)).mono HB.out.size))
    obtain ⟨y0, y1⟩ := HL.out.cells
    go_wp2_with fail
    (with_reducible refine (P2.out _).mono ?_); rintro e v3 ⟨rfl, rfl⟩
    go_wp2_with fail
    (with_reducible refine (CN.out _).mono ?_); rintro e v4 ⟨rfl, b⟩
    replace HB := Lib.hid (HB.out.trans (b.mono HB.out.size))
    replace HL := Lib.hid (HL.out.on b)
    clear y0 y1
    obtain ⟨y0, y1⟩ := HL.out.cells
    clear b
    go_wp2_with fail
    (with_reducible refine (CN2.out _).mono ?_); rintro e v5 ⟨rfl, b⟩
    replace HB := Lib.hid (HB.out.trans (b.mono HB.out.size))
    replace HL := Lib.hid (HL.out.on b)
    clear y0 y1
    obtain ⟨y0, y1⟩ := HL.out.cells
    clear b
    go_wp2_with fail
    (with_reducible refine (CE.out _).mono ?_); rintro e v6 ⟨rfl, b⟩
    replace HB := Lib.hid (HB.out.trans (b.mono HB.out.size))
    replace HL := Lib.hid (HL.out.on b)
    clear y0 y1
    obtain ⟨y0, y1⟩ := HL.out.cells
    clear b
    go_wp2_with fail
    (with_reducible refine (CE2.out _).mono ?_); rintro e v7 ⟨rfl, b⟩
    replace HB := Lib.hid (HB.out.trans (b.mono HB.out.size))
    replace HL := Lib.hid (HL.out.on b)
    clear y0 y1
    obtain ⟨y0, y1⟩ := HL.out.cells
    clear b
    go_wp2_with fail
    (with_reducible refine (CB.out _).mono ?_); rintro e v8 ⟨rfl, b⟩
    replace HB := Lib.hid (HB.out.trans (b.mono HB.out.size))
    replace HL := Lib.hid (HL.out.on b)
    clear y0 y1
    obtain ⟨y0, y1⟩ := HL.out.cells
    clear b
    go_wp2_with fail
    (with_reducible refine (CA2.out _).mono ?_); rintro e v9 ⟨rfl, b⟩
    replace HB := Lib.hid (HB.out.trans (b.mono HB.out.size))
    replace HL := Lib.hid (HL.out.on b)
    clear y0 y1
    obtain ⟨y0, y1⟩ := HL.out.cells
    clear b
    go_wp2_with fail
    (with_reducible refine (CA.out _).mono ?_); rintro e v10 ⟨rfl, b⟩
    replace HB := Lib.hid (HB.out.trans (b.mono HB.out.size))
    replace HL := Lib.hid (HL.out.on b)
    clear y0 y1
    obtain ⟨y0, y1⟩ := HL.out.cells
    clear b
    go_wp2_with fail
    go_ret
    exact ⟨rfl, HB.out⟩

end Go.Proofs.Ytlgbgkiajhcneaa

/-
  Where a time stands, by the document.
-/
import Derived.Test.YtmklabdfalkldaaSchRefR
import Derived.Test.YtmklabdfalkldaaSchLater
namespace Go.Proofs.Ytmklabdfalkldaa
open Go.RowKit

set_option maxRecDepth 100000 in
set_option maxHeartbeats 4000000 in
theorem refAt_any (A : Option Addr) (cp : Nat) (c : Int) (l : Pl) (hlm : l.length ≤ maxLen) (t : Int) (w : World) (hS : Sls w w.heap.size A l) :
    Calls Try.prog 20 #[pv A l.length cp c, .int .i64 t] w fun e w' => e = .returned (.tuple #[sv (atV l c t), .int .i64 (atE l c t)]) ∧ Below w.heap.size w w' := by
  have hB := Joins.below_alloc2 w (.cells #[.slice A l.length cp, .int .i64 c] 25) (.cells #[.int .i64 0, .int .i64 0, .int .i64 0, .int .i64 0] 27)
  have hP := (PlAt.new w A l.length cp c).on (Joins.below_alloc1 _ (.cells #[.int .i64 0, .int .i64 0, .int .i64 0, .int .i64 0] 27))
  have hZ := SpAt.new (w.alloc (.cells #[.slice A l.length cp, .int .i64 c] 25)) zeroSp
  rw [World.size_alloc] at hZ
  have hS0 := (hS.below hB (Nat.le_refl _)).more hB.size
  have cr := refRight_any A cp c l hlm _ hS0
  have HB := Lib.hid hB; clear hB hS
  have HZ := Lib.hid hZ; clear hZ
  obtain ⟨y0, y1⟩ := hP.cells
  cases hA : atB l c t
  · obtain ⟨ev, ee⟩ := atV_no hA
    rw [ev, ee]
    clear ev ee
    cases hR : rightS l c
    · rw [hR] at cr
      clear hA hR
      go_enter Try.func20, Try.ntmps20
      go_wp2_with fail
      refine cr.mono ?_; rintro e w1 ⟨rfl, b1⟩
      have z1 := HZ.out.on b1
      have f0 := z1.frozen 0
      have f1 := z1.frozen 1
      have f2 := z1.frozen 2
      have f3 := z1.frozen 3
      obtain ⟨z2, z3, z4, z5⟩ := z1.cells
      have HB1 := Lib.hid (HB.out.trans (b1.mono HB.out.size))
      clear y0 y1
      go_wp2_with fail
      have p1 := (putS_at z1 zeroSp).cells
      have p2 := putS_below HB1.out (b := w.heap.size + 1) (by omega) zeroSp
      obtain ⟨q0, q1, q2, q3⟩ := p1
      show bodyPost _ _ _ _ _ (putS w1 (w.heap.size + 1) zeroSp)
      generalize putS w1 (w.heap.size + 1) zeroSp = V at *
      exact bodyPost_ret (v := .tuple #[sv zeroSp, .int .i64 1]) (by simp [results, Try.results20, go_sem, q0, q1, q2, q3]) rfl ⟨rfl, p2⟩
    · rw [hR] at cr
      have hw : t < 0 ∨ 1099511627776 < t := by
        rcases Decidable.em (0 ≤ t ∧ t ≤ 1099511627776) with h | h
        · have h2 := (atB_iff l c t).2 ⟨hR, h.1, h.2⟩
          rw [hA] at h2; cases h2
        · omega
      clear hA hR
      go_enter Try.func20, Try.ntmps20
      go_wp2_with fail
      refine cr.mono ?_; rintro e w1 ⟨rfl, b1⟩
      have z1 := HZ.out.on b1
      have f0 := z1.frozen 0
      have f1 := z1.frozen 1
      have f2 := z1.frozen 2
      have f3 := z1.frozen 3
      obtain ⟨z2, z3, z4, z5⟩ := z1.cells
      have HB1 := Lib.hid (HB.out.trans (b1.mono HB.out.size))
      have p1 := (putS_at z1 zeroSp).cells
      have p2 := putS_below HB1.out (b := w.heap.size + 1) (by omega) zeroSp
      have P1 := Lib.hid p1
      clear y0 y1 p1
      rcases hw with hw | hw
      · go_wp2_with fail
        obtain ⟨q0, q1, q2, q3⟩ := P1.out
        show bodyPost _ _ _ _ _ (putS w1 (w.heap.size + 1) zeroSp)
        generalize putS w1 (w.heap.size + 1) zeroSp = V at *
        exact bodyPost_ret (v := .tuple #[sv zeroSp, .int .i64 1]) (by simp [results, Try.results20, go_sem, q0, q1, q2, q3]) rfl ⟨rfl, p2⟩
      · have hw0 : ¬ t < 0 := by omega
        go_wp2_with fail
        obtain ⟨q0, q1, q2, q3⟩ := P1.out
        show bodyPost _ _ _ _ _ (putS w1 (w.heap.size + 1) zeroSp)
        generalize putS w1 (w.heap.size + 1) zeroSp = V at *
        exact bodyPost_ret (v := .tuple #[sv zeroSp, .int .i64 1]) (by simp [results, Try.results20, go_sem, q0, q1, q2, q3]) rfl ⟨rfl, p2⟩
  · obtain ⟨ev, ee⟩ := atV_of hA
    rw [ev, ee]
    clear ev ee
    obtain ⟨hR, t0, t1⟩ := (atB_iff l c t).1 hA
    clear hA
    rw [hR] at cr
    have hs2 := rightS_sum hR
    have hcy := rightS_cyc hR
    have hl2 := rightS_len hR
    have hne := rightS_ne hR
    have ht := rightS_ticked hR
    have er := roundS_of hR
    have CR := Lib.hid (fun W h => refRound_any A cp c l hlm W h)
    rw [er] at CR
    obtain ⟨d0, d1⟩ := div_le t0 hs2.1
    have t1' : t ≤ 1099511627776 := t1
    have hr0 : 0 ≤ t % sumS l := Int.emod_nonneg _ (by omega)
    have hr1 : t % sumS l < sumS l := Int.emod_lt_of_pos _ (by omega)
    have HSP := Lib.hid (val_spot (c := c) ht hne hcy.1 t0)
    rw [show spotS l c t = ⟨t / sumS l / c, t / sumS l % c, (seekS l (t % sumS l)).1, (seekS l (t % sumS l)).2⟩ from rfl]
    have HT := Lib.hid ht; clear ht t1 hR er
    generalize hSS : sumS l = S at *
    have HSS := Lib.hid hSS
    clear hSS
    generalize hr : t % S = r at *
    generalize hq : t / S = q at *
    have eS : ¬ S = 0 := by omega
    have ec : ¬ c = 0 := by omega
    have e13 : IntKind.i64.wrap (t.tdiv S) = q := by rw [Int.tdiv_eq_ediv_of_nonneg t0, hq]; exact IntWalk.i64_in _ (by omega)
    have e17 : t.tmod S = r := by rw [Int.tmod_eq_emod_of_nonneg t0, hr]
    have HS0 := Lib.hid hS0; clear hS0
    have HPP := Lib.hid hP; clear hP
    obtain ⟨hs0, hs1, -⟩ := hs2
    obtain ⟨hc0, hc1⟩ := hcy
    clear hr hq
    go_enter Try.func20, Try.ntmps20
    go_wp2_with fail
    refine cr.mono ?_; rintro e w1 ⟨rfl, b1⟩
    have HS1 := Lib.hid ((HS0.out.below b1 (Nat.le_refl _)).more b1.size)
    have HP1 := Lib.hid (HPP.out.on b1)
    have HZ1 := Lib.hid (HZ.out.on b1)
    have HB1 := Lib.hid (HB.out.trans (b1.mono HB.out.size))
    clear y0 y1 b1 cr HS0 HPP HZ
    obtain ⟨y0, y1⟩ := HP1.out.cells
    go_wp2_with fail
    refine (CR.out _ HS1.out).mono ?_; rintro e w2 ⟨rfl, b2⟩
    have HS2 := Lib.hid ((HS1.out.below b2 (Nat.le_refl _)).more b2.size)
    have HP2 := Lib.hid (HP1.out.on b2)
    have HZ2 := Lib.hid (HZ1.out.on b2)
    have HB2 := Lib.hid (HB1.out.trans (b2.mono HB1.out.size))
    clear y0 y1 b2 HS1 HP1 HZ1 HB1 CR
    obtain ⟨y0, y1⟩ := HP2.out.cells
    obtain ⟨y2, y3⟩ := (HP2.out.on (Joins.below_alloc1 w2 (.cells #[.int .i64 0, .int .i64 0, .int .i64 0, .int .i64 0] 27))).cells
    go_wp2_with fail
    go_region
    go_wp2_with fail
    have hz3 : SpAt (w2.alloc (.cells #[.int .i64 (q / c), .int .i64 (q % c), .int .i64 0, .int .i64 r] 27)).drew w2.heap.size ⟨q / c, q % c, 0, r⟩ := SpAt.new w2 ⟨q / c, q % c, 0, r⟩
    have hb3 : Below w2.heap.size w2 (w2.alloc (.cells #[.int .i64 (q / c), .int .i64 (q % c), .int .i64 0, .int .i64 r] 27)).drew := (Joins.below_alloc1 w2 _).drew
    have HZ3 := Lib.hid hz3
    have HB3 := Lib.hid hb3
    clear hz3 hb3 y0 y1 y2 y3 e13 e17
    generalize (w2.alloc (.cells #[.int .i64 (q / c), .int .i64 (q % c), .int .i64 0, .int .i64 r] 27)).drew = W3 at *
    generalize hQ1 : q / c = Q1 at *
    generalize hQ2 : q % c = Q2 at *
    have HQ1 := Lib.hid hQ1
    have HQ2 := Lib.hid hQ2
    clear hQ1 hQ2
    generalize hg : w2.heap.size = g at *
    go_loopw [] (fun wr => ∃ (k : Nat) (x : Int), k < l.length ∧ 0 ≤ x ∧ aheadS l k + x = r ∧ SpAt wr g ⟨Q1, Q2, k, x⟩ ∧ Below g w2 wr) (fun wr => l.length - (intOf ((wr.cell? ⟨g, 2, none⟩).getD undef)).toNat)
    case atStart => exact ⟨0, r, by omega, hr0, by rw [aheadS_zero]; omega, HZ3.out, HB3.out⟩
    case round =>
      obtain ⟨k, x, hk, hx, he, hz, hbr⟩ := hrel
      have HE := Lib.hid he; clear he
      have HZR := Lib.hid hz
      have HBR := Lib.hid hbr
      have HSR := Lib.hid (HS2.out.below hbr (Nat.le_refl _))
      have HPR := Lib.hid (HP2.out.on (by rw [hg]; exact hbr))
      obtain ⟨z0, z1, z2, z3⟩ := hz.cells
      obtain ⟨y0, y1⟩ := HPR.out.cells
      clear hz hbr
      have hkI : (k : Int) < (l.length : Int) := by omega
      obtain ⟨s, hs⟩ : ∃ s, l[k]? = some s := ⟨_, List.getElem?_eq_getElem hk⟩
      obtain ⟨ad, rfl, hadb, hcc⟩ := HSR.out (by omega)
      obtain ⟨x0, x1⟩ := hcc k s hs
      have hst : 1 ≤ s.2 ∧ s.2 ≤ 1000 := HT.out _ (List.mem_of_getElem? hs)
      have HSK := Lib.hid hs
      have HCC := Lib.hid hcc
      clear hs hcc hadb
      by_cases hle : s.2 ≤ x
      · have HM := Lib.hid (seek_more HSK.out (by rw [HSS.out]; exact hr1) HE.out hle)
        have hk1 : k + 1 < l.length := HM.out.1
        have hxr : x ≤ r := by have := HE.out; have := (aheadS_bounds HT.out k (by omega)).1; omega
        obtain ⟨s1', s2'⟩ := s
        simp only at *
        have er : IntKind.i64.wrap (x - s2') = x - s2' := IntWalk.i64_in _ (by omega)
        go_wp2_with fail
        go_quiet (fail)
        go_wp2_with fail
        have f3 := HZR.out.frozen 3
        have f2 := HZR.out.frozen 2
        go_region
        go_wp2_with fail
        have hkN : (k : Int) + 1 = ((k + 1 : Nat) : Int) := by omega
        rw [hkN]
        have hz1 : SpAt (wr.drewN (nq + 1)) g ⟨Q1, Q2, k, x⟩ := HZR.out
        have hz2 : SpAt (((wr.drewN (nq + 1)).setCell ⟨g, 3, none⟩ (.int .i64 (x - s2'))).setCell ⟨g, 2, none⟩ (.int .i64 ((k + 1 : Nat) : Int))) g ⟨Q1, Q2, ((k + 1 : Nat) : Int), x - s2'⟩ := set_blk (set_blk hz1 3 (.int .i64 (x - s2'))) 2 (.int .i64 ((k + 1 : Nat) : Int))
        refine ⟨⟨k + 1, x - s2', hk1, HM.out.2.1, HM.out.2.2, hz2, ((below_drewN HBR.out _).setCell (p := ⟨g, 3, none⟩) (Nat.le_refl _) _).setCell (p := ⟨g, 2, none⟩) (Nat.le_refl _) _⟩, ?_⟩
        rw [hz2.cells.2.2.1, z2]
        simp only [Option.getD_some, intOf, Int.toNat_natCast]
        omega
      · have HM := Lib.hid (seek_here HT.out HSK.out hx HE.out hle)
        have HZF := Lib.hid ((HZ2.out.on (by rw [hg]; exact HBR.out)))
        have f0 := HZF.out.frozen 0
        have f1 := HZF.out.frozen 1
        have f2 := HZF.out.frozen 2
        have f3 := HZF.out.frozen 3
        have HBF := Lib.hid (HB2.out.trans (HBR.out.mono (by have := HB2.out.size; omega)))
        obtain ⟨q0, q1, q2, q3⟩ := HZF.out.cells
        obtain ⟨s1', s2'⟩ := s
        simp only at *
        go_wp2_with fail
        go_quiet (fail)
        go_wp2_with fail
        have hz1 : SpAt (wr.drewN nq) (w.heap.size + 1) zeroSp := HZF.out
        have p1 := (putS_at hz1 ⟨Q1, Q2, k, x⟩).cells
        have p2 := putS_below (below_drewN HBF.out nq) (b := w.heap.size + 1) (by omega) ⟨Q1, Q2, k, x⟩
        clear q0 q1 q2 q3
        obtain ⟨q0, q1, q2, q3⟩ := p1
        show bodyPost _ _ _ _ _ (putS (wr.drewN nq) (w.heap.size + 1) ⟨Q1, Q2, k, x⟩)
        generalize putS (wr.drewN nq) (w.heap.size + 1) ⟨Q1, Q2, k, x⟩ = V at *
        exact bodyPost_ret (v := .tuple #[sv ⟨Q1, Q2, k, x⟩, .int .i64 0]) (by simp [results, Try.results20, go_sem, q0, q1, q2, q3]) rfl ⟨by rw [HM.out, HQ1.out, HQ2.out], p2⟩
end Go.Proofs.Ytmklabdfalkldaa

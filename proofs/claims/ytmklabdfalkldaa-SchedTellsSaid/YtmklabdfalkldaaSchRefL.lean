/-
  So many slots later, by the document.
-/
import Derived.Test.YtmklabdfalkldaaSchRefT
import Derived.Deep.DeepCutAuto
namespace Go.Proofs.Ytmklabdfalkldaa
open Go.RowKit

theorem next_two {l : Pl} {c : Int} {s : Spot} {m : Int} (hc : 1 ≤ c) : (⟨s.cyc + (s.rnd + (s.slt + m) / (l.length : Int)) / c, (s.rnd + (s.slt + m) / (l.length : Int)) % c, (s.slt + m) % (l.length : Int), 0⟩ : Spot) = nextS l c s m := by
  unfold nextS
  rw [Int.add_assoc (s.cyc * c)]
  have hc0 : c ≠ 0 := by omega
  congr 1
  · rw [Int.add_comm (s.cyc * c), Int.add_mul_ediv_right _ _ hc0, Int.add_comm]
  · rw [Int.add_comm (s.cyc * c), Int.add_mul_emod_self_right]

set_option maxRecDepth 100000 in
set_option maxHeartbeats 4000000 in
theorem refLater_any (A : Option Addr) (cp : Nat) (c : Int) (l : Pl) (hlm : l.length ≤ maxLen) (s : Spot) (m : Int) (w : World) (hS : Sls w w.heap.size A l) :
    Calls Try.prog 25 #[pv A l.length cp c, sv s, .int .i64 m] w fun e w' => e = .returned (.tuple #[sv (laterV l c s m), .int .i64 (laterE l c s m)]) ∧ Below w.heap.size w w' := by
  have hB := (Joins.below_alloc2 w (.cells #[.slice A l.length cp, .int .i64 c] 25) (.cells #[.int .i64 s.cyc, .int .i64 s.rnd, .int .i64 s.slt, .int .i64 s.tck] 27)).alloc (by simp; omega) (.cells #[.int .i64 0, .int .i64 0, .int .i64 0, .int .i64 0] 27)
  have hP := ((PlAt.new w A l.length cp c).on (Joins.below_alloc1 _ (.cells #[.int .i64 s.cyc, .int .i64 s.rnd, .int .i64 s.slt, .int .i64 s.tck] 27))).on (Joins.below_alloc1 _ (.cells #[.int .i64 0, .int .i64 0, .int .i64 0, .int .i64 0] 27))
  have hZ := (SpAt.new (w.alloc (.cells #[.slice A l.length cp, .int .i64 c] 25)) s).on (Joins.below_alloc1 _ (.cells #[.int .i64 0, .int .i64 0, .int .i64 0, .int .i64 0] 27))
  have hO := SpAt.new ((w.alloc (.cells #[.slice A l.length cp, .int .i64 c] 25)).alloc (.cells #[.int .i64 s.cyc, .int .i64 s.rnd, .int .i64 s.slt, .int .i64 s.tck] 27)) zeroSp
  simp only [World.size_alloc] at hZ hO
  have hS0 := (hS.below hB (Nat.le_refl _)).more hB.size
  have ct := refTime_any A cp c l hlm s _ hS0
  have hcond := timeE_two l c s
  have HO : Hid (SpAt (((w.alloc (.cells #[.slice A l.length cp, .int .i64 c] 25)).alloc (.cells #[.int .i64 s.cyc, .int .i64 s.rnd, .int .i64 s.slt, .int .i64 s.tck] 27)).alloc (.cells #[.int .i64 0, .int .i64 0, .int .i64 0, .int .i64 0] 27)) (w.heap.size + 1 + 1) zeroSp) := Lib.hid hO
  clear hO hS
  have HB := Lib.hid hB; clear hB
  have HS0 := Lib.hid hS0; clear hS0
  have HP := Lib.hid hP; clear hP
  have HZ := Lib.hid hZ; clear hZ
  obtain ⟨y0, y1⟩ := HP.out.cells
  obtain ⟨z0, z1, z2, z3⟩ := HZ.out.cells
  cases hL : laterB l c s m
  · obtain ⟨ev, ee⟩ := later_no hL
    rw [ev, ee]
    clear ev ee
    rcases hcond with hT | hT
    · have hw : m < 0 ∨ 1073741824 < m := by
        rcases Decidable.em (0 ≤ m ∧ m ≤ 1073741824) with h | h
        · have h2 := (laterB_iff l c s m).2 ⟨hT, h.1, h.2⟩
          rw [hL] at h2; cases h2
        · omega
      rw [hT] at ct
      clear hT hL
      generalize hW : (((w.alloc (.cells #[.slice A l.length cp, .int .i64 c] 25)).alloc (.cells #[.int .i64 s.cyc, .int .i64 s.rnd, .int .i64 s.slt, .int .i64 s.tck] 27)).alloc (.cells #[.int .i64 0, .int .i64 0, .int .i64 0, .int .i64 0] 27)) = W at *
      obtain ⟨a1, a2, a3, a4⟩ := s
      simp only at *
      go_enter Try.func25, Try.ntmps25
      go_wp2_with fail
      refine ct.mono ?_; rintro e w1 ⟨rfl, b1⟩
      have p0 := HO.out.on b1
      have f0 := p0.frozen 0
      have f1 := p0.frozen 1
      have f2 := p0.frozen 2
      have f3 := p0.frozen 3
      obtain ⟨q0, q1, q2, q3⟩ := p0.cells
      have HB1 := Lib.hid (HB.out.trans (b1.mono HB.out.size))
      have p1 := (putS_at p0 zeroSp).cells
      have p2 := putS_below HB1.out (b := w.heap.size + 1 + 1) (by omega) zeroSp
      have P1 := Lib.hid p1
      clear y0 y1 z0 z1 z2 z3 p1
      rcases hw with hw | hw
      · go_wp2_with fail
        clear q0 q1 q2 q3
        obtain ⟨q0, q1, q2, q3⟩ := P1.out
        show bodyPost _ _ _ _ _ (putS w1 (w.heap.size + 1 + 1) zeroSp)
        generalize putS w1 (w.heap.size + 1 + 1) zeroSp = V at *
        exact bodyPost_ret (v := .tuple #[sv zeroSp, .int .i64 1]) (by simp [results, Try.results25, go_sem, q0, q1, q2, q3]) rfl ⟨rfl, p2⟩
      · have hw0 : ¬ m < 0 := by omega
        go_wp2_with fail
        clear q0 q1 q2 q3
        obtain ⟨q0, q1, q2, q3⟩ := P1.out
        show bodyPost _ _ _ _ _ (putS w1 (w.heap.size + 1 + 1) zeroSp)
        generalize putS w1 (w.heap.size + 1 + 1) zeroSp = V at *
        exact bodyPost_ret (v := .tuple #[sv zeroSp, .int .i64 1]) (by simp [results, Try.results25, go_sem, q0, q1, q2, q3]) rfl ⟨rfl, p2⟩
    · rw [hT] at ct
      clear hT hL
      generalize hW : (((w.alloc (.cells #[.slice A l.length cp, .int .i64 c] 25)).alloc (.cells #[.int .i64 s.cyc, .int .i64 s.rnd, .int .i64 s.slt, .int .i64 s.tck] 27)).alloc (.cells #[.int .i64 0, .int .i64 0, .int .i64 0, .int .i64 0] 27)) = W at *
      obtain ⟨a1, a2, a3, a4⟩ := s
      simp only at *
      go_enter Try.func25, Try.ntmps25
      go_wp2_with fail
      refine ct.mono ?_; rintro e w1 ⟨rfl, b1⟩
      have p0 := HO.out.on b1
      have f0 := p0.frozen 0
      have f1 := p0.frozen 1
      have f2 := p0.frozen 2
      have f3 := p0.frozen 3
      obtain ⟨q0, q1, q2, q3⟩ := p0.cells
      have HB1 := Lib.hid (HB.out.trans (b1.mono HB.out.size))
      clear y0 y1 z0 z1 z2 z3
      go_wp2_with fail
      have p1 := (putS_at p0 zeroSp).cells
      have p2 := putS_below HB1.out (b := w.heap.size + 1 + 1) (by omega) zeroSp
      clear q0 q1 q2 q3
      obtain ⟨q0, q1, q2, q3⟩ := p1
      show bodyPost _ _ _ _ _ (putS w1 (w.heap.size + 1 + 1) zeroSp)
      generalize putS w1 (w.heap.size + 1 + 1) zeroSp = V at *
      exact bodyPost_ret (v := .tuple #[sv zeroSp, .int .i64 1]) (by simp [results, Try.results25, go_sem, q0, q1, q2, q3]) rfl ⟨rfl, p2⟩
  · obtain ⟨hT, m0, m1⟩ := (laterB_iff l c s m).1 hL
    rw [hT] at ct
    clear hcond
    by_cases hm : m = 0
    · obtain ⟨ev, ee⟩ := later_zero hL hm
      rw [ev, ee]
      clear ev ee hL hT
      subst hm
      generalize hW : (((w.alloc (.cells #[.slice A l.length cp, .int .i64 c] 25)).alloc (.cells #[.int .i64 s.cyc, .int .i64 s.rnd, .int .i64 s.slt, .int .i64 s.tck] 27)).alloc (.cells #[.int .i64 0, .int .i64 0, .int .i64 0, .int .i64 0] 27)) = W at *
      obtain ⟨a1, a2, a3, a4⟩ := s
      simp only at *
      go_enter Try.func25, Try.ntmps25
      go_wp2_with fail
      refine ct.mono ?_; rintro e w1 ⟨rfl, b1⟩
      have p0 := HO.out.on b1
      have f0 := p0.frozen 0
      have f1 := p0.frozen 1
      have f2 := p0.frozen 2
      have f3 := p0.frozen 3
      obtain ⟨q0, q1, q2, q3⟩ := p0.cells
      have HB1 := Lib.hid (HB.out.trans (b1.mono HB.out.size))
      clear y0 y1 z0 z1 z2 z3
      obtain ⟨z0, z1, z2, z3⟩ := (HZ.out.on b1).cells
      go_wp2_with fail
      have p1 := (putS_at p0 ⟨a1, a2, a3, a4⟩).cells
      have p2 := putS_below HB1.out (b := w.heap.size + 1 + 1) (by omega) ⟨a1, a2, a3, a4⟩
      clear q0 q1 q2 q3
      obtain ⟨q0, q1, q2, q3⟩ := p1
      show bodyPost _ _ _ _ _ (putS w1 (w.heap.size + 1 + 1) ⟨a1, a2, a3, a4⟩)
      generalize putS w1 (w.heap.size + 1 + 1) ⟨a1, a2, a3, a4⟩ = V at *
      exact bodyPost_ret (v := .tuple #[sv ⟨a1, a2, a3, a4⟩, .int .i64 0]) (by simp [results, Try.results25, go_sem, q0, q1, q2, q3]) rfl ⟨rfl, p2⟩
    · have hin := ((timeE_zero l c s).1 hT).1
      obtain ⟨v1, v2, v3, v4, v5⟩ := valS_bounds hin
      obtain ⟨hR, ⟨i1, i1'⟩, ⟨i2, i2'⟩, ⟨i3, i3'⟩, -⟩ := (inB_iff l c s).1 hin
      have hl2 := rightS_len hR
      have hcy := rightS_cyc hR
      have hcm : 0 ≤ s.cyc * c := Int.mul_nonneg i1 (by omega)
      have hnl : (2 : Int) ≤ l.length := by omega
      have hd0 : 0 ≤ (s.slt + m) / (l.length : Int) := Int.ediv_nonneg (by omega) (by omega)
      have hd1 : (s.slt + m) / (l.length : Int) ≤ s.slt + m := Int.ediv_le_self _ (by omega)
      have he0 : 0 ≤ (s.slt + m) % (l.length : Int) := Int.emod_nonneg _ (by omega)
      have he1 : (s.slt + m) % (l.length : Int) < l.length := Int.emod_lt_of_pos _ (by omega)
      have hnx := next_two (l := l) (c := c) (s := s) (m := m) hcy.1
      have CT := Lib.hid (fun W h => refTime_any A cp c l hlm (nextS l c s m) W h)
      have HN0 := Lib.hid (fun h => later_next hL hm h)
      have HN1 := Lib.hid (fun h => later_beyond hL hm h)
      have hcond := timeE_two l c (nextS l c s m)
      have hcy2 := hcy
      obtain ⟨hcy0, hcy1⟩ := hcy
      clear hL hT hin hR hcm v1 v2 v3 v4 v5
      generalize timeV l c (nextS l c s m) = TV at *
      generalize timeE l c (nextS l c s m) = TE at *
      generalize laterE l c s m = LE at *
      generalize laterV l c s m = LV at *
      have eal : IntKind.i64.wrap (s.slt + m) = s.slt + m := IntWalk.i64_in _ (by omega)
      have ern : IntKind.i64.wrap (s.rnd + (s.slt + m) / (l.length : Int)) = s.rnd + (s.slt + m) / (l.length : Int) := IntWalk.i64_in _ (by omega)
      have hr0 : 0 ≤ s.rnd + (s.slt + m) / (l.length : Int) := by omega
      have hr1 : s.rnd + (s.slt + m) / (l.length : Int) ≤ 2147483648 := by omega
      have hr2 : 0 ≤ (s.rnd + (s.slt + m) / (l.length : Int)) / c := Int.ediv_nonneg hr0 (by omega)
      have hr3 : (s.rnd + (s.slt + m) / (l.length : Int)) / c ≤ s.rnd + (s.slt + m) / (l.length : Int) := Int.ediv_le_self _ hr0
      have i1m : s.cyc ≤ 1099511627776 := i1'
      have ecy : IntKind.i64.wrap (s.cyc + (s.rnd + (s.slt + m) / (l.length : Int)) / c) = s.cyc + (s.rnd + (s.slt + m) / (l.length : Int)) / c := IntWalk.i64_in _ (by omega)
      have hal0 : 0 ≤ s.slt + m := by omega
      obtain ⟨N, hN⟩ : ∃ N, nextS l c s m = N := ⟨_, rfl⟩
      rw [hN] at hnx CT HN0
      clear hN
      have HNX := Lib.hid hnx
      clear hnx hcy2
      generalize hW : (((w.alloc (.cells #[.slice A l.length cp, .int .i64 c] 25)).alloc (.cells #[.int .i64 s.cyc, .int .i64 s.rnd, .int .i64 s.slt, .int .i64 s.tck] 27)).alloc (.cells #[.int .i64 0, .int .i64 0, .int .i64 0, .int .i64 0] 27)) = W at *
      obtain ⟨a1, a2, a3, a4⟩ := s
      obtain ⟨n1, n2, n3, n4⟩ := N
      simp only at *
      have hmI : ¬ m = 0 := hm
      have hm0 : ¬ m < 0 := by omega
      have hm1 : ¬ 1073741824 < m := by omega
      generalize l.length = n at *
      generalize hg : w.heap.size = b at *
      go_enter Try.func25, Try.ntmps25
      go_wp2_with fail
      refine ct.mono ?_; rintro e w1 ⟨rfl, b1⟩
      have HS1 := Lib.hid ((HS0.out.below b1 (Nat.le_refl _)).more b1.size)
      have HP1 := Lib.hid (HP.out.on b1)
      have HZ1 := Lib.hid (HZ.out.on b1)
      have HO1 := Lib.hid (HO.out.on b1)
      have HB1 := Lib.hid (HB.out.trans (b1.mono (by rw [← hg]; exact HB.out.size)))
      clear y0 y1 z0 z1 z2 z3 b1 ct HS0 HP HZ HO hW
      obtain ⟨y0, y1⟩ := HP1.out.cells
      obtain ⟨z0, z1, z2, z3⟩ := HZ1.out.cells
      go_wp2_with fail
      go_quiet (fail)
      have hbd := below_drewN (Below.refl w1.heap.size w1) nq
      generalize w1.drewN nq = w2 at *
      have HS2 := Lib.hid ((HS1.out.below hbd (Nat.le_refl _)).more hbd.size)
      have HP2 := Lib.hid (HP1.out.on hbd)
      have HZ2 := Lib.hid (HZ1.out.on hbd)
      have HO2 := Lib.hid (HO1.out.on hbd)
      have HB2 := Lib.hid (HB1.out.trans (hbd.mono (by rw [← hg]; exact HB1.out.size)))
      clear y0 y1 z0 z1 z2 z3 hbd HS1 HP1 HZ1 HO1 HB1
      obtain ⟨y0, y1⟩ := HP2.out.cells
      obtain ⟨z0, z1, z2, z3⟩ := HZ2.out.cells
      have ha2 := Joins.below_alloc1 w2 (.cells #[.int .i64 0, .int .i64 0, .int .i64 0, .int .i64 0] 27)
      obtain ⟨y2, y3⟩ := (HP2.out.on ha2).cells
      obtain ⟨z4, z5, z6, z7⟩ := (HZ2.out.on ha2).cells
      clear ha2
      go_wp2_with fail
      go_region
      go_upto_region 9 with (fail)
      have hz3 : SpAt (w2.alloc (.cells #[.int .i64 (a1 + (a2 + (a3 + m) / (n : Int)) / c), .int .i64 ((a2 + (a3 + m) / (n : Int)) % c), .int .i64 ((a3 + m) % (n : Int)), .int .i64 0] 27)).drew w2.heap.size ⟨a1 + (a2 + (a3 + m) / (n : Int)) / c, (a2 + (a3 + m) / (n : Int)) % c, (a3 + m) % (n : Int), 0⟩ := heap_alloc_new w2 _
      have hb3 : Below w2.heap.size w2 (w2.alloc (.cells #[.int .i64 (a1 + (a2 + (a3 + m) / (n : Int)) / c), .int .i64 ((a2 + (a3 + m) / (n : Int)) % c), .int .i64 ((a3 + m) % (n : Int)), .int .i64 0] 27)).drew := (Joins.below_alloc1 w2 _).drew
      rw [HNX.out] at hz3
      generalize hW3 : (w2.alloc (.cells #[.int .i64 (a1 + (a2 + (a3 + m) / (n : Int)) / c), .int .i64 ((a2 + (a3 + m) / (n : Int)) % c), .int .i64 ((a3 + m) % (n : Int)), .int .i64 0] 27)).drew = w3 at *
      clear hW3 y0 y1 y2 y3 z0 z1 z2 z3 z4 z5 z6 z7
      have HS3 := Lib.hid ((HS2.out.below hb3 (Nat.le_refl _)).more hb3.size)
      have HP3 := Lib.hid (HP2.out.on hb3)
      have HO3 := Lib.hid (HO2.out.on hb3)
      have HB3 := Lib.hid (HB2.out.trans (hb3.mono (by rw [← hg]; exact HB2.out.size)))
      have HM3 := Lib.hid hz3
      generalize w2.heap.size = q at *
      clear hz3 hb3 HS2 HP2 HZ2 HO2 HB2
      obtain ⟨y0, y1⟩ := HP3.out.cells
      obtain ⟨x0, x1, x2, x3⟩ := HM3.out.cells
      go_wp2_with fail
      refine (CT.out _ HS3.out).mono ?_; rintro e w4 ⟨rfl, b4⟩
      have HB4 := Lib.hid (HB3.out.trans (b4.mono (by rw [← hg]; exact HB3.out.size)))
      have p0 := HO3.out.on b4
      have f0 := p0.frozen 0
      have f1 := p0.frozen 1
      have f2 := p0.frozen 2
      have f3 := p0.frozen 3
      have HM4 := Lib.hid (HM3.out.on b4)
      clear b4 x0 x1 x2 x3 y0 y1
      obtain ⟨x0, x1, x2, x3⟩ := HM4.out.cells
      obtain ⟨q0, q1, q2, q3⟩ := p0.cells
      rcases hcond with hT | hT
      · obtain ⟨rfl, rfl⟩ := HN0.out hT
        subst hT
        go_wp2_with fail
        have p1 := (putS_at p0 ⟨n1, n2, n3, n4⟩).cells
        have p2 := putS_below HB4.out (b := b + 1 + 1) (by omega) ⟨n1, n2, n3, n4⟩
        clear q0 q1 q2 q3
        obtain ⟨q0, q1, q2, q3⟩ := p1
        show bodyPost _ _ _ _ _ (putS w4 (b + 1 + 1) ⟨n1, n2, n3, n4⟩)
        generalize putS w4 (b + 1 + 1) ⟨n1, n2, n3, n4⟩ = V at *
        exact bodyPost_ret (v := .tuple #[sv ⟨n1, n2, n3, n4⟩, .int .i64 0]) (by simp [results, Try.results25, go_sem, q0, q1, q2, q3]) rfl ⟨rfl, p2⟩
      · obtain ⟨rfl, rfl⟩ := HN1.out hT
        subst hT
        go_wp2_with fail
        have p1 := (putS_at p0 zeroSp).cells
        have p2 := putS_below HB4.out (b := b + 1 + 1) (by omega) zeroSp
        clear q0 q1 q2 q3
        obtain ⟨q0, q1, q2, q3⟩ := p1
        show bodyPost _ _ _ _ _ (putS w4 (b + 1 + 1) zeroSp)
        generalize putS w4 (b + 1 + 1) zeroSp = V at *
        exact bodyPost_ret (v := .tuple #[sv zeroSp, .int .i64 1]) (by simp [results, Try.results25, go_sem, q0, q1, q2, q3]) rfl ⟨rfl, p2⟩

end Go.Proofs.Ytmklabdfalkldaa

/-
  So many slots later, by the program.
-/
import Derived.Test.YtmklabdfalkldaaSchTime
import Derived.Test.YtmklabdfalkldaaOncePhase
namespace Go.Proofs.Ytmklabdfalkldaa
open Go.RowKit

theorem later_no {l : Pl} {c : Int} {s : Spot} {m : Int} (h : laterB l c s m = false) : laterE l c s m = 1 ∧ laterV l c s m = zeroSp := by
  have e : laterE l c s m = 1 := by unfold laterE; rw [h]; rfl
  exact ⟨e, by unfold laterV; rw [e]; rfl⟩
theorem later_zero {l : Pl} {c : Int} {s : Spot} {m : Int} (h : laterB l c s m = true) (hm : m = 0) : laterE l c s m = 0 ∧ laterV l c s m = s := by
  have e : laterE l c s m = 0 := by unfold laterE; rw [h, if_pos rfl, if_pos hm]
  exact ⟨e, by unfold laterV; rw [e, if_pos rfl, if_pos hm]⟩
theorem later_next {l : Pl} {c : Int} {s : Spot} {m : Int} (h : laterB l c s m = true) (hm : ¬ m = 0) (h0 : timeE l c (nextS l c s m) = 0) : laterE l c s m = 0 ∧ laterV l c s m = nextS l c s m := by
  have e : laterE l c s m = 0 := by unfold laterE; rw [h, if_pos rfl, if_neg hm, h0]
  exact ⟨e, by unfold laterV; rw [e, if_pos rfl, if_neg hm]⟩
theorem later_beyond {l : Pl} {c : Int} {s : Spot} {m : Int} (h : laterB l c s m = true) (hm : ¬ m = 0) (h0 : timeE l c (nextS l c s m) = 1) : laterE l c s m = 1 ∧ laterV l c s m = zeroSp := by
  have e : laterE l c s m = 1 := by unfold laterE; rw [h, if_pos rfl, if_neg hm, h0]
  exact ⟨e, by unfold laterV; rw [e]; rfl⟩

set_option maxRecDepth 100000 in
set_option maxHeartbeats 4000000 in
theorem later_any (A : Option Addr) (cp : Nat) (c : Int) (l : Pl) (hlm : l.length ≤ maxLen) (s : Spot) (m : Int) (w : World) (hS : Sls w w.heap.size A l) :
    Calls Try.prog 24 #[pv A l.length cp c, sv s, .int .i64 m] w fun e w' => e = .returned (.tuple #[sv (laterV l c s m), .int .i64 (laterE l c s m)]) ∧ Below w.heap.size w w' := by
  have hB := (Joins.below_alloc2 w (.cells #[.slice A l.length cp, .int .i64 c] 25) (.cells #[.int .i64 s.cyc, .int .i64 s.rnd, .int .i64 s.slt, .int .i64 s.tck] 27)).alloc (by simp; omega) (.cells #[.int .i64 0, .int .i64 0, .int .i64 0, .int .i64 0] 27)
  have hP := ((PlAt.new w A l.length cp c).on (Joins.below_alloc1 _ (.cells #[.int .i64 s.cyc, .int .i64 s.rnd, .int .i64 s.slt, .int .i64 s.tck] 27))).on (Joins.below_alloc1 _ (.cells #[.int .i64 0, .int .i64 0, .int .i64 0, .int .i64 0] 27))
  have hZ := (SpAt.new (w.alloc (.cells #[.slice A l.length cp, .int .i64 c] 25)) s).on (Joins.below_alloc1 _ (.cells #[.int .i64 0, .int .i64 0, .int .i64 0, .int .i64 0] 27))
  have hO := SpAt.new ((w.alloc (.cells #[.slice A l.length cp, .int .i64 c] 25)).alloc (.cells #[.int .i64 s.cyc, .int .i64 s.rnd, .int .i64 s.slt, .int .i64 s.tck] 27)) zeroSp
  simp only [World.size_alloc] at hZ hO
  have hS0 := (hS.below hB (Nat.le_refl _)).more hB.size
  have ct := time_any A cp c l hlm s _ hS0
  have hcond := timeE_two l c s
  have HO : Hid (SpAt (((w.alloc (.cells #[.slice A l.length cp, .int .i64 c] 25)).alloc (.cells #[.int .i64 s.cyc, .int .i64 s.rnd, .int .i64 s.slt, .int .i64 s.tck] 27)).alloc (.cells #[.int .i64 0, .int .i64 0, .int .i64 0, .int .i64 0] 27)) (w.heap.size + 1 + 1) zeroSp) := Lib.hid hO
  clear hO hS
  have cw := fun W => within_any 0 1073741824 m W
  have HB := Lib.hid hB; clear hB
  have HS0 := Lib.hid hS0; clear hS0
  have HP := Lib.hid hP; clear hP
  have HZ := Lib.hid hZ; clear hZ
  obtain ⟨y0, y1⟩ := HP.out.cells
  obtain ⟨z0, z1, z2, z3⟩ := HZ.out.cells
  cases hL : laterB l c s m
  · obtain ⟨ev, ee⟩ := later_no hL
    rw [ev, ee]
    clear ev ee
    rcases hcond with hT | hT
    · have hw : withinB 0 1073741824 m = false := by
        have h := hL
        unfold laterB at h
        rw [hT] at h
        simpa [withinB] using h
      rw [hT] at ct
      rw [hw] at cw
      clear hT hL hw
      generalize hW : (((w.alloc (.cells #[.slice A l.length cp, .int .i64 c] 25)).alloc (.cells #[.int .i64 s.cyc, .int .i64 s.rnd, .int .i64 s.slt, .int .i64 s.tck] 27)).alloc (.cells #[.int .i64 0, .int .i64 0, .int .i64 0, .int .i64 0] 27)) = W at *
      obtain ⟨a1, a2, a3, a4⟩ := s
      simp only at *
      go_enter Try.func24, Try.ntmps24
      go_wp2_with fail
      refine ct.mono ?_; rintro e w1 ⟨rfl, b1⟩
      have p0 := HO.out.on b1
      have f0 := p0.frozen 0
      have f1 := p0.frozen 1
      have f2 := p0.frozen 2
      have f3 := p0.frozen 3
      obtain ⟨q0, q1, q2, q3⟩ := p0.cells
      have HB1 := Lib.hid (HB.out.trans (b1.mono HB.out.size))
      clear y0 y1 z0 z1 z2 z3
      go_wp2_with fail
      refine (cw _).mono ?_; rintro e w2 ⟨rfl, rfl⟩
      go_wp2_with fail
      have p1 := (putS_at p0 zeroSp).cells
      have p2 := putS_below HB1.out (b := w.heap.size + 1 + 1) (by omega) zeroSp
      clear q0 q1 q2 q3
      obtain ⟨q0, q1, q2, q3⟩ := p1
      show bodyPost _ _ _ _ _ (putS w1 (w.heap.size + 1 + 1) zeroSp)
      generalize putS w1 (w.heap.size + 1 + 1) zeroSp = V at *
      exact bodyPost_ret (v := .tuple #[sv zeroSp, .int .i64 1]) (by simp [results, Try.results24, go_sem, q0, q1, q2, q3]) rfl ⟨rfl, p2⟩
    · rw [hT] at ct
      clear hT hL
      generalize hW : (((w.alloc (.cells #[.slice A l.length cp, .int .i64 c] 25)).alloc (.cells #[.int .i64 s.cyc, .int .i64 s.rnd, .int .i64 s.slt, .int .i64 s.tck] 27)).alloc (.cells #[.int .i64 0, .int .i64 0, .int .i64 0, .int .i64 0] 27)) = W at *
      obtain ⟨a1, a2, a3, a4⟩ := s
      simp only at *
      go_enter Try.func24, Try.ntmps24
      go_wp2_with fail
      refine ct.mono ?_; rintro e w1 ⟨rfl, b1⟩
      have p0 := HO.out.on b1
      have f0 := p0.frozen 0
      have f1 := p0.frozen 1
      have f2 := p0.frozen 2
      have f3 := p0.frozen 3
      obtain ⟨q0, q1, q2, q3⟩ := p0.cells
      have HB1 := Lib.hid (HB.out.trans (b1.mono HB.out.size))
      clear y0 y1 z0 z1 z2 z3
      go_wp2_with fail
      have p1 := (putS_at p0 zeroSp).cells
      have p2 := putS_below HB1.out (b := w.heap.size + 1 + 1) (by omega) zeroSp
      clear q0 q1 q2 q3
      obtain ⟨q0, q1, q2, q3⟩ := p1
      show bodyPost _ _ _ _ _ (putS w1 (w.heap.size + 1 + 1) zeroSp)
      generalize putS w1 (w.heap.size + 1 + 1) zeroSp = V at *
      exact bodyPost_ret (v := .tuple #[sv zeroSp, .int .i64 1]) (by simp [results, Try.results24, go_sem, q0, q1, q2, q3]) rfl ⟨rfl, p2⟩
  · obtain ⟨hT, m0, m1⟩ := (laterB_iff l c s m).1 hL
    have hw : withinB 0 1073741824 m = true := (withinB_iff _ _ _).2 ⟨m0, m1⟩
    rw [hw] at cw
    rw [hT] at ct
    clear hw hcond
    by_cases hm : m = 0
    · obtain ⟨ev, ee⟩ := later_zero hL hm
      rw [ev, ee]
      clear ev ee hL hT
      subst hm
      generalize hW : (((w.alloc (.cells #[.slice A l.length cp, .int .i64 c] 25)).alloc (.cells #[.int .i64 s.cyc, .int .i64 s.rnd, .int .i64 s.slt, .int .i64 s.tck] 27)).alloc (.cells #[.int .i64 0, .int .i64 0, .int .i64 0, .int .i64 0] 27)) = W at *
      obtain ⟨a1, a2, a3, a4⟩ := s
      simp only at *
      go_enter Try.func24, Try.ntmps24
      go_wp2_with fail
      refine ct.mono ?_; rintro e w1 ⟨rfl, b1⟩
      have p0 := HO.out.on b1
      have f0 := p0.frozen 0
      have f1 := p0.frozen 1
      have f2 := p0.frozen 2
      have f3 := p0.frozen 3
      obtain ⟨q0, q1, q2, q3⟩ := p0.cells
      have HB1 := Lib.hid (HB.out.trans (b1.mono HB.out.size))
      clear y0 y1 z0 z1 z2 z3
      obtain ⟨z0, z1, z2, z3⟩ := (HZ.out.on b1).cells
      go_wp2_with fail
      refine (cw _).mono ?_; rintro e w2 ⟨rfl, rfl⟩
      go_wp2_with fail
      have p1 := (putS_at p0 ⟨a1, a2, a3, a4⟩).cells
      have p2 := putS_below HB1.out (b := w.heap.size + 1 + 1) (by omega) ⟨a1, a2, a3, a4⟩
      clear q0 q1 q2 q3
      obtain ⟨q0, q1, q2, q3⟩ := p1
      show bodyPost _ _ _ _ _ (putS w1 (w.heap.size + 1 + 1) ⟨a1, a2, a3, a4⟩)
      generalize putS w1 (w.heap.size + 1 + 1) ⟨a1, a2, a3, a4⟩ = V at *
      exact bodyPost_ret (v := .tuple #[sv ⟨a1, a2, a3, a4⟩, .int .i64 0]) (by simp [results, Try.results24, go_sem, q0, q1, q2, q3]) rfl ⟨rfl, p2⟩
    · have hin := ((timeE_zero l c s).1 hT).1
      obtain ⟨v1, v2, v3, v4, v5⟩ := valS_bounds hin
      obtain ⟨hR, ⟨i1, i1'⟩, ⟨i2, i2'⟩, ⟨i3, i3'⟩, -⟩ := (inB_iff l c s).1 hin
      have hl2 := rightS_len hR
      have hcy := rightS_cyc hR
      have hcm : 0 ≤ s.cyc * c := Int.mul_nonneg i1 (by omega)
      have hnl : (2 : Int) ≤ l.length := by omega
      have hd0 : 0 ≤ (s.slt + m) / (l.length : Int) := Int.ediv_nonneg (by omega) (by omega)
      have hd1 : (s.slt + m) / (l.length : Int) ≤ s.slt + m := Int.ediv_le_self _ (by omega)
      have he0 : 0 ≤ (s.slt + m) % (l.length : Int) := Int.emod_nonneg _ (by omega)
      have he1 : (s.slt + m) % (l.length : Int) < l.length := Int.emod_lt_of_pos _ (by omega)
      have CO := Lib.hid (fun W => turnOf_any A l.length cp c s hcm v2 i2 W)
      have CB := Lib.hid (fun W => behind_any A l.length cp c (s.cyc * c + s.rnd) s.slt m hl2 ⟨v1, v2⟩ ⟨i3, by omega⟩ ⟨m0, m1⟩ W)
      have CSP := Lib.hid (fun W => spot_any A l.length cp c (s.cyc * c + s.rnd + (s.slt + m) / (l.length : Int)) ((s.slt + m) % (l.length : Int)) 0 hcy ⟨by omega, by omega⟩ (by omega) ⟨he0, by omega⟩ W)
      have hN : (⟨(s.cyc * c + s.rnd + (s.slt + m) / (l.length : Int)) / c, (s.cyc * c + s.rnd + (s.slt + m) / (l.length : Int)) % c, (s.slt + m) % (l.length : Int), 0⟩ : Spot) = nextS l c s m := rfl
      rw [hN] at CSP
      clear hN
      have CT := Lib.hid (fun W h => time_any A cp c l hlm (nextS l c s m) W h)
      have HN0 := Lib.hid (fun h => later_next hL hm h)
      have HN1 := Lib.hid (fun h => later_beyond hL hm h)
      have hcond := timeE_two l c (nextS l c s m)
      clear hL hT hin hR hcm hnl hd0 hd1 he0 he1 v1 v2 v3 v4 v5 i1 i1' i2 i2' i3 i3'
      generalize timeV l c (nextS l c s m) = TV at *
      generalize timeE l c (nextS l c s m) = TE at *
      generalize nextS l c s m = N at *
      generalize laterE l c s m = LE at *
      generalize laterV l c s m = LV at *
      generalize s.cyc * c + s.rnd + (s.slt + m) / (l.length : Int) = Q2 at *
      generalize s.cyc * c + s.rnd = Q at *
      generalize (s.slt + m) % (l.length : Int) = K2 at *
      generalize hW : (((w.alloc (.cells #[.slice A l.length cp, .int .i64 c] 25)).alloc (.cells #[.int .i64 s.cyc, .int .i64 s.rnd, .int .i64 s.slt, .int .i64 s.tck] 27)).alloc (.cells #[.int .i64 0, .int .i64 0, .int .i64 0, .int .i64 0] 27)) = W at *
      obtain ⟨a1, a2, a3, a4⟩ := s
      obtain ⟨n1, n2, n3, n4⟩ := N
      simp only at *
      have hmI : ¬ m = 0 := hm
      generalize l.length = n at *
      generalize hg : w.heap.size = b at *
      go_enter Try.func24, Try.ntmps24
      go_wp2_with fail
      refine ct.mono ?_; rintro e w1 ⟨rfl, b1⟩
      have HS1 := Lib.hid ((HS0.out.below b1 (Nat.le_refl _)).more b1.size)
      have HP1 := Lib.hid (HP.out.on b1)
      have HZ1 := Lib.hid (HZ.out.on b1)
      have HO1 := Lib.hid (HO.out.on b1)
      have HB1 := Lib.hid (HB.out.trans (b1.mono (by rw [← hg]; exact HB.out.size)))
      have hbs : b + 2 ≤ w1.heap.size := by
        have h := (Array.getElem?_eq_some_iff.1 HO1.out).1
        omega
      have HBS := Lib.hid hbs
      clear y0 y1 z0 z1 z2 z3 b1 ct HS0 HP HZ HO hbs
      go_wp2_with fail
      refine (cw _).mono ?_; rintro e w2 ⟨rfl, rfl⟩
      go_wp2_with fail
      clear hW
      have HV : ∃ Vp : Nat → (Nat → Value) → World → Prop, Vp = (fun ix u wv => match ix with
        | 0 => u 0 = .agg #[.slice A n cp, .int .i64 c]
        | 1 => u 1 = .agg #[.slice A n cp, .int .i64 c]
        | 2 => u 2 = .agg #[.slice A n cp, .int .i64 c]
        | 3 => u 3 = .agg #[.int .i64 a1, .int .i64 a2, .int .i64 a3, .int .i64 a4]
        | 4 => u 4 = cx Q a3
        | 5 => u 5 = .int .i64 m
        | 6 => u 6 = cx Q2 K2
        | 7 => u 7 = .agg #[.int .i64 n1, .int .i64 n2, .int .i64 n3, .int .i64 n4]
        | 8 => ∃ g, u 8 = .pointer (some ⟨g, 0, none⟩) ∧ w1.heap.size ≤ g ∧ SpAt wv g zeroSp
        | 9 => ∃ g, u 8 = .pointer (some ⟨g, 0, none⟩) ∧ w1.heap.size ≤ g ∧ SpAt wv g ⟨n1, n2, n3, n4⟩
        | _ => True) := ⟨_, rfl⟩
      obtain ⟨Vp, hVdef⟩ := HV
      have Vp0 : ∀ u wv, Vp 0 u wv = (u 0 = .agg #[.slice A n cp, .int .i64 c]) := fun u wv => by subst hVdef; rfl
      have Vp1 : ∀ u wv, Vp 1 u wv = (u 1 = .agg #[.slice A n cp, .int .i64 c]) := fun u wv => by subst hVdef; rfl
      have Vp2 : ∀ u wv, Vp 2 u wv = (u 2 = .agg #[.slice A n cp, .int .i64 c]) := fun u wv => by subst hVdef; rfl
      have Vp3 : ∀ u wv, Vp 3 u wv = (u 3 = .agg #[.int .i64 a1, .int .i64 a2, .int .i64 a3, .int .i64 a4]) := fun u wv => by subst hVdef; rfl
      have Vp4 : ∀ u wv, Vp 4 u wv = (u 4 = cx Q a3) := fun u wv => by subst hVdef; rfl
      have Vp5 : ∀ u wv, Vp 5 u wv = (u 5 = .int .i64 m) := fun u wv => by subst hVdef; rfl
      have Vp6 : ∀ u wv, Vp 6 u wv = (u 6 = cx Q2 K2) := fun u wv => by subst hVdef; rfl
      have Vp7 : ∀ u wv, Vp 7 u wv = (u 7 = .agg #[.int .i64 n1, .int .i64 n2, .int .i64 n3, .int .i64 n4]) := fun u wv => by subst hVdef; rfl
      have Vp8 : ∀ u wv, Vp 8 u wv = (∃ g, u 8 = .pointer (some ⟨g, 0, none⟩) ∧ w1.heap.size ≤ g ∧ SpAt wv g zeroSp) := fun u wv => by subst hVdef; rfl
      have Vp9 : ∀ u wv, Vp 9 u wv = (∃ g, u 8 = .pointer (some ⟨g, 0, none⟩) ∧ w1.heap.size ≤ g ∧ SpAt wv g ⟨n1, n2, n3, n4⟩) := fun u wv => by subst hVdef; rfl
      have HVD := Lib.hid hVdef
      clear hVdef
      refine region_phase (V := Vp) (drop := fun jx ix => (jx == 9 && ix == 8)) (G := fun L wv => Below w1.heap.size w1 wv) (Rel := fun jx wv wv' => jx = 9 ∨ Below wv.heap.size wv wv') (by kernel_rfl) (by kernel_rfl) (Below.refl _ _).drew ?hmonop1 ?hdepp1 ⟨?s0_p1, ?s1_p1, ?s2_p1, ?s3_p1, ?s4_p1, ?s5_p1, ?s6_p1, ?s7_p1, ?s8_p1, ?s9_p1, trivial⟩ ?behindp1
      case hmonop1 =>
        intro ix jx u wv wv' hij hw hd hr
        rw [HVD.out]
        dsimp only
        split <;> intro h <;> first | exact trivial | exact h | (rcases hr with rfl | hb; (focus first | exact absurd rfl hij | (simp at hd; done) | (exact Bool.noConfusion (hw.symm.trans (show _ = true from by kernel_rfl)))); (first | (obtain ⟨g, e, hg, hm⟩ := h; exact ⟨g, e, hg, hm.on hb⟩)))
      case hdepp1 =>
        intro ix u u' wv h1 h2
        rw [HVD.out]
        dsimp only
        split <;> intro h <;> first | exact trivial | (rw [← h1]; exact h) | (obtain ⟨g, e, h⟩ := h; exact ⟨g, (h2 8 (by kernel_rfl)).symm.trans e, h⟩) | exact h
      case s0_p1 =>
        refine oweP rfl fun a wx val L hG hi hW hV hN hO K hK => ?_
        have e3 : a.tmps[3]? = some (.pointer (some ⟨b, 0, none⟩)) := (hO 3 (by kernel_rfl)).trans (by rfl)
        clear hV hN hO
        obtain ⟨y0, y1⟩ := (HP1.out.on hG).cells
        obtain ⟨z0, z1, z2, z3⟩ := (HZ1.out.on hG).cells
        go_simp
        exact hK.out _ _ (by rw [Vp0, upd_at] <;> (congr 1 <;> omega)) (.inr (Below.refl _ _)) (hG)
      case s1_p1 =>
        refine oweP rfl fun a wx val L hG hi hW hV hN hO K hK => ?_
        have e3 : a.tmps[3]? = some (.pointer (some ⟨b, 0, none⟩)) := (hO 3 (by kernel_rfl)).trans (by rfl)
        clear hV hN hO
        obtain ⟨y0, y1⟩ := (HP1.out.on hG).cells
        obtain ⟨z0, z1, z2, z3⟩ := (HZ1.out.on hG).cells
        go_simp
        exact hK.out _ _ (by rw [Vp1, upd_at] <;> (congr 1 <;> omega)) (.inr (Below.refl _ _)) (hG)
      case s2_p1 =>
        refine oweP rfl fun a wx val L hG hi hW hV hN hO K hK => ?_
        have e3 : a.tmps[3]? = some (.pointer (some ⟨b, 0, none⟩)) := (hO 3 (by kernel_rfl)).trans (by rfl)
        clear hV hN hO
        obtain ⟨y0, y1⟩ := (HP1.out.on hG).cells
        obtain ⟨z0, z1, z2, z3⟩ := (HZ1.out.on hG).cells
        go_simp
        exact hK.out _ _ (by rw [Vp2, upd_at] <;> (congr 1 <;> omega)) (.inr (Below.refl _ _)) (hG)
      case s3_p1 =>
        refine oweP rfl fun a wx val L hG hi hW hV hN hO K hK => ?_
        have e4 : a.tmps[4]? = some (.pointer (some ⟨b + 1, 0, none⟩)) := (hO 4 (by kernel_rfl)).trans (by rfl)
        clear hV hN hO
        obtain ⟨y0, y1⟩ := (HP1.out.on hG).cells
        obtain ⟨z0, z1, z2, z3⟩ := (HZ1.out.on hG).cells
        go_simp
        exact hK.out _ _ (by rw [Vp3, upd_at] <;> (congr 1 <;> omega)) (.inr (Below.refl _ _)) (hG)
      case s4_p1 =>
        refine oweP rfl fun a wx val L hG hi hW hV hN hO K hK => ?_
        have e32 := hN 2 32 (by kernel_rfl) (by kernel_rfl) (by simp)
        have f32 := hV 2 (by kernel_rfl) (by kernel_rfl)
        rw [Vp2] at f32; rw [f32] at e32; clear f32
        have e33 := hN 3 33 (by kernel_rfl) (by kernel_rfl) (by simp)
        have f33 := hV 3 (by kernel_rfl) (by kernel_rfl)
        rw [Vp3] at f33; rw [f33] at e33; clear f33
        clear hV hN hO
        go_simp
        refine (CO.out _).mono ?_
        rintro e w11 ⟨rfl, hb⟩
        exact hK.out _ _ (by rw [Vp4, upd_at]) (.inr (hb)) (hG.trans (hb.mono hG.size))
      case s5_p1 =>
        refine oweP rfl fun a wx val L hG hi hW hV hN hO K hK => ?_
        have e2 : a.tmps[2]? = some (.int .i64 m) := (hO 2 (by kernel_rfl)).trans (by rfl)
        clear hV hN hO
        go_simp
        exact hK.out _ _ (by rw [Vp5, upd_at] <;> (congr 1 <;> omega)) (.inr (Below.refl _ _)) (hG)
      case s6_p1 =>
        refine oweP rfl fun a wx val L hG hi hW hV hN hO K hK => ?_
        have e31 := hN 1 31 (by kernel_rfl) (by kernel_rfl) (by simp)
        have f31 := hV 1 (by kernel_rfl) (by kernel_rfl)
        rw [Vp1] at f31; rw [f31] at e31; clear f31
        have e34 := hN 4 34 (by kernel_rfl) (by kernel_rfl) (by simp)
        have f34 := hV 4 (by kernel_rfl) (by kernel_rfl)
        rw [Vp4] at f34; rw [f34] at e34; clear f34
        have e35 := hN 5 35 (by kernel_rfl) (by kernel_rfl) (by simp)
        have f35 := hV 5 (by kernel_rfl) (by kernel_rfl)
        rw [Vp5] at f35; rw [f35] at e35; clear f35
        clear hV hN hO
        go_simp
        refine (CB.out _).mono ?_
        rintro e w11 ⟨rfl, hb⟩
        exact hK.out _ _ (by rw [Vp6, upd_at]) (.inr (hb)) (hG.trans (hb.mono hG.size))
      case s7_p1 =>
        refine oweP rfl fun a wx val L hG hi hW hV hN hO K hK => ?_
        have e30 := hN 0 30 (by kernel_rfl) (by kernel_rfl) (by simp)
        have f30 := hV 0 (by kernel_rfl) (by kernel_rfl)
        rw [Vp0] at f30; rw [f30] at e30; clear f30
        have e36 := hN 6 36 (by kernel_rfl) (by kernel_rfl) (by simp)
        have f36 := hV 6 (by kernel_rfl) (by kernel_rfl)
        rw [Vp6] at f36; rw [f36] at e36; clear f36
        clear hV hN hO
        go_simp
        refine (CSP.out _).mono ?_
        rintro e w11 ⟨rfl, hb⟩
        exact hK.out _ _ (by rw [Vp7, upd_at]) (.inr (hb)) (hG.trans (hb.mono hG.size))
      case s8_p1 =>
        refine oweP rfl fun a wx val L hG hi hW hV hN hO K hK => ?_
        clear hV hN hO
        go_simp
        have hb := Joins.below_alloc1 wx (.cells #[.int .i64 0, .int .i64 0, .int .i64 0, .int .i64 0] 27)
        exact hK.out _ _ (by rw [Vp8, upd_at]; exact ⟨_, rfl, hG.size, SpAt.new _ zeroSp⟩) (.inr hb) (hG.trans (hb.mono hG.size))
      case s9_p1 =>
        refine oweP rfl fun a wx val L hG hi hW hV hN hO K hK => ?_
        have e10 := hN 8 10 (by kernel_rfl) (by kernel_rfl) (by simp)
        have f10 := hV 8 (by kernel_rfl) (by kernel_rfl)
        rw [Vp8] at f10; obtain ⟨g, hv, hg9, hmm⟩ := f10; rw [hv] at e10
        have e37 := hN 7 37 (by kernel_rfl) (by kernel_rfl) (by simp)
        have f37 := hV 7 (by kernel_rfl) (by kernel_rfl)
        rw [Vp7] at f37; rw [f37] at e37; clear f37
        clear hV hN hO
        obtain ⟨x0, x1, x2, x3⟩ := hmm.cells
        have f0 := hmm.frozen 0
        have f1 := hmm.frozen 1
        have f2 := hmm.frozen 2
        have f3 := hmm.frozen 3
        go_simp
        exact hK.out undef (putS wx g ⟨n1, n2, n3, n4⟩) (by rw [Vp9, upd_ne _ _ (by decide)]; exact ⟨g, hv, hg9, putS_at hmm _⟩) (.inl rfl) (putS_below hG hg9 _)
      intro val wx L hG hV
      have f0 := hV 0 (by simp) (fun _ _ => by simp)
      rw [Vp0] at f0
      have f1 := hV 1 (by simp) (fun _ _ => by simp)
      rw [Vp1] at f1
      have f2 := hV 2 (by simp) (fun _ _ => by simp)
      rw [Vp2] at f2
      have f3 := hV 3 (by simp) (fun _ _ => by simp)
      rw [Vp3] at f3
      have f4 := hV 4 (by simp) (fun _ _ => by simp)
      rw [Vp4] at f4
      have f5 := hV 5 (by simp) (fun _ _ => by simp)
      rw [Vp5] at f5
      have f6 := hV 6 (by simp) (fun _ _ => by simp)
      rw [Vp6] at f6
      have f7 := hV 7 (by simp) (fun _ _ => by simp)
      rw [Vp7] at f7
      have f9 := hV 9 (by simp) (fun _ _ => by simp)
      rw [Vp9] at f9
      clear hV Vp0 Vp1 Vp2 Vp3 Vp4 Vp5 Vp6 Vp7 Vp8 Vp9
      simp only [putAll, Act.put, List.setIfInBounds_toArray, List.set_cons_zero, List.set_cons_succ]
      generalize val 0 = z0 at *; (subst f0)
      generalize val 1 = z1 at *; (subst f1)
      generalize val 2 = z2 at *; (subst f2)
      generalize val 3 = z3 at *; (subst f3)
      generalize val 4 = z4 at *; (subst f4)
      generalize val 5 = z5 at *; (subst f5)
      generalize val 6 = z6 at *; (subst f6)
      generalize val 7 = z7 at *; (subst f7)
      generalize val 8 = z8 at *
      clear HVD
      obtain ⟨g, hz8, hg9, hmm⟩ := f9
      subst hz8
      have HS2 := Lib.hid ((HS1.out.below hG (Nat.le_refl _)).more hG.size)
      have HP2 := Lib.hid (HP1.out.on hG)
      have HO2 := Lib.hid (HO1.out.on hG)
      have HB2 := Lib.hid (HB1.out.trans (hG.mono (by rw [← hg]; exact HB1.out.size)))
      have HM2 := Lib.hid hmm
      obtain ⟨y0, y1⟩ := HP2.out.cells
      obtain ⟨x0, x1, x2, x3⟩ := HM2.out.cells
      clear hG hmm HS1 HP1 HZ1 HO1 HB1
      go_wp2_with fail
      refine (CT.out _ HS2.out).mono ?_; rintro e w3 ⟨rfl, b3⟩
      have HB3 := Lib.hid (HB2.out.trans (b3.mono (by rw [← hg]; exact HB2.out.size)))
      have p0 := HO2.out.on b3
      have f0 := p0.frozen 0
      have f1 := p0.frozen 1
      have f2 := p0.frozen 2
      have f3 := p0.frozen 3
      have HM3 := Lib.hid (HM2.out.on b3)
      clear b3 x0 x1 x2 x3 y0 y1
      obtain ⟨x0, x1, x2, x3⟩ := HM3.out.cells
      obtain ⟨q0, q1, q2, q3⟩ := p0.cells
      rcases hcond with hT | hT
      · obtain ⟨rfl, rfl⟩ := HN0.out hT
        subst hT
        go_wp2_with fail
        have p1 := (putS_at p0 ⟨n1, n2, n3, n4⟩).cells
        have p2 := putS_below HB3.out (b := b + 1 + 1) (by omega) ⟨n1, n2, n3, n4⟩
        clear q0 q1 q2 q3
        obtain ⟨q0, q1, q2, q3⟩ := p1
        show bodyPost _ _ _ _ _ (putS w3 (b + 1 + 1) ⟨n1, n2, n3, n4⟩)
        generalize putS w3 (b + 1 + 1) ⟨n1, n2, n3, n4⟩ = V at *
        exact bodyPost_ret (v := .tuple #[sv ⟨n1, n2, n3, n4⟩, .int .i64 0]) (by simp [results, Try.results24, go_sem, q0, q1, q2, q3]) rfl ⟨rfl, p2⟩
      · obtain ⟨rfl, rfl⟩ := HN1.out hT
        subst hT
        go_wp2_with fail
        have p1 := (putS_at p0 zeroSp).cells
        have p2 := putS_below HB3.out (b := b + 1 + 1) (by omega) zeroSp
        clear q0 q1 q2 q3
        obtain ⟨q0, q1, q2, q3⟩ := p1
        show bodyPost _ _ _ _ _ (putS w3 (b + 1 + 1) zeroSp)
        generalize putS w3 (b + 1 + 1) zeroSp = V at *
        exact bodyPost_ret (v := .tuple #[sv zeroSp, .int .i64 1]) (by simp [results, Try.results24, go_sem, q0, q1, q2, q3]) rfl ⟨rfl, p2⟩

end Go.Proofs.Ytmklabdfalkldaa

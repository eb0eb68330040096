/-
  Which queues may be: the document's Right.
-/
import Derived.Test.YtehajmockicilaaDoorTxqRight
namespace Go.Proofs.YtehajmockicilaaDoor
open Go Go.RowKit

set_option maxRecDepth 100000 in
set_option maxHeartbeats 4000000 in
theorem refRightQ_any (L : Int) (A : Option Addr) (c : Nat) (l : List Msg) (w : World) (hq : QIn w A c l) :
    Calls Tryd.prog 41 #[qv L A l.length c] w fun e w' => e = .returned (.bool (rightQ L l)) ∧ Below w.heap.size w w' := by
  have q1 := QAt.new w L A l.length c
  have b1 := Joins.below_alloc1 w (.cells #[.int .i64 L, .slice A l.length c] 64)
  have hq1 := hq.on b1
  obtain ⟨y0, y1⟩ := q1.cells
  have HB := Lib.hid b1
  have HQA := Lib.hid q1
  clear q1 b1 hq
  obtain ⟨R, hR⟩ : ∃ R, R = rightQ L l := ⟨_, rfl⟩
  rw [← hR]
  by_cases hl : 1 ≤ L ∧ L ≤ 32
  · obtain ⟨hla, hlb⟩ := hl
    have hl1 : ¬ L < 1 := by omega
    have hl2 : ¬ 32 < L := by omega
    by_cases hlen : (l.length : Int) ≤ L
    · have HR : Hid (R = okTo l l.length) := Lib.hid (by rw [hR]; exact rightQ_ok ((limB_iff L).2 ⟨hla, hlb⟩) hlen)
      clear hR
      have hlen2 : ¬ L < (l.length : Int) := by omega
      go_enter Tryd.func41, Tryd.ntmps41
      go_wp2_with fail
      generalize hWW : w.alloc (.cells #[.int .i64 L, .slice A l.length c] 64) = W at *
      clear hWW
      have hfew := hq1.few
      have HQ := Lib.hid hq1
      clear y0 y1 hq1
      go_loopw [3, 4] (fun i _ wr => ∃ k : Nat, k ≤ l.length ∧ i = .int .i64 k ∧ okTo l k = true ∧ Below W.heap.size W wr) (fun i _ _ => l.length - (intOf i).toNat)
      case atStart => exact ⟨0, by omega, rfl, rfl, Below.refl _ _⟩
      case round =>
        obtain ⟨k, hk, rfl, hok, hb⟩ := hrel
        have HOK := Lib.hid hok; clear hok
        by_cases hlt : k < l.length
        · have hltI : (k : Int) < (l.length : Int) := by omega
          obtain ⟨m, hm⟩ : ∃ m, l[k]? = some m := ⟨_, List.getElem?_eq_getElem hlt⟩
          have hqr := HQ.out.on hb
          have hqa := HQA.out.on hb
          obtain ⟨ad, rfl, -⟩ := hqr.at hm
          have HBR := Lib.hid hb
          have HQR := Lib.hid hqr
          have HM : Hid (∀ W2, Below wr.heap.size wr W2 → At7 W2 (ad.add (k * 7)) m) := Lib.hid (fun W2 h => by
            obtain ⟨ad', e, h7⟩ := (hqr.on h).at hm
            cases e; exact h7)
          have HALL : Hid (∀ j x W2, Below wr.heap.size wr W2 → l[j]? = some x → At7 W2 (ad.add (j * 7)) x) := Lib.hid (fun j x W2 h hx => by
            obtain ⟨ad', e, h7⟩ := (hqr.on h).at hx
            cases e; exact h7)
          have CR : Hid (∀ W2, Calls Tryd.prog 55 #[mv m] W2 fun e w' => e = .returned (.bool (rightM m)) ∧ Below W2.heap.size W2 w') := Lib.hid (fun W2 => refRightM_any m (data_at hqr hm) W2)
          have HFA := Lib.hid (fun h => okTo_false (l := l) (k := k) (n := l.length) h hlt)
          have HNX := Lib.hid (okTo_next (l := l) (k := k) HOK.out)
          obtain ⟨pz, hpz⟩ : ∃ pz, decide ((0 : Int) < (k : Int)) = pz := ⟨_, rfl⟩
          have HPK : Hid (pz = true → 0 < k) := Lib.hid (fun h => by rw [h, decide_eq_true_iff] at hpz; omega)
          have HX : Hid (pz = true → ∀ W2, Below wr.heap.size wr W2 → At7 W2 (ad.add ((k - 1) * 7)) (l.getD (k - 1) zeroM)) := Lib.hid (fun hp W2 h => by
            have := HPK.out hp
            exact HALL.out (k - 1) _ W2 h (by rw [List.getD_eq_getElem?_getD, List.getElem?_eq_getElem (by omega)]; rfl))
          have HRT := Lib.hid (okAt_is hm hpz)
          have HPZ := Lib.hid hpz
          have HMK := Lib.hid hm
          clear hpz HQA
          have HQA := Lib.hid hqa
          generalize l.getD (k - 1) zeroM = x at *
          have CL : Hid (∀ W2, Calls Tryd.prog 47 #[mv x, mv m] W2 fun e w' => e = .returned (.bool (lessM x m)) ∧ Below W2.heap.size W2 w') := Lib.hid (fun W2 => refLessM_any x m W2)
          obtain ⟨y0, y1⟩ := hqa.cells
          clear hm hb hqr hqa
          generalize rightM m = rb at *
          generalize lessM x m = sb at *
          have HHN := Lib.hid (has_iff (l.take k) m.number)
          generalize hasN (l.take k) m.number = nb at *
          obtain ⟨e1, n1, s1, i1, q1, k1, d1⟩ := m
          obtain ⟨e2, n2, s2, i2, q2, k2, d2⟩ := x
          simp only [mv] at *
          go_upto_region 6 with (fail)
          clear y0 y1
          have HV : ∃ Vp : Nat → (Nat → Value) → World → Prop, Vp = (fun ix u wv => match ix with
            | 0 => u 0 = .pointer (some ⟨w.heap.size, 1, none⟩)
            | 1 => u 1 = .slice (some ad) l.length c
            | 2 => u 2 = .int .i64 (k : Int)
            | 3 => u 3 = .pointer (some (ad.add (k * 7)))
            | 4 => u 4 = .agg #[.bool e1, .int .i64 n1, .int .i64 s1, .int .i64 i1, .int .i64 q1, .int .i64 k1, .string d1]
            | 5 => u 5 = .bool rb
            | 6 => u 6 = .bool (!rb)
            | 7 => u 7 = .bool (!rb)
            | 8 => u 8 = if (!((!rb))) = true then .int .i64 (k : Int) else undef
            | 9 => u 9 = if (!((!rb))) = true then .bool pz else undef
            | 10 => u 10 = if (!((!rb))) = true then .bool pz else undef
            | 11 => u 11 = if ((!((!rb))) && pz) = true then .pointer (some ⟨w.heap.size, 1, none⟩) else undef
            | 12 => u 12 = if ((!((!rb))) && pz) = true then .slice (some ad) l.length c else undef
            | 13 => u 13 = if ((!((!rb))) && pz) = true then .int .i64 (k : Int) else undef
            | 14 => u 14 = if ((!((!rb))) && pz) = true then .int .i64 ((k : Int) - 1) else undef
            | 15 => u 15 = if ((!((!rb))) && pz) = true then .pointer (some (ad.add ((k - 1) * 7))) else undef
            | 16 => u 16 = if ((!((!rb))) && pz) = true then .agg #[.bool e2, .int .i64 n2, .int .i64 s2, .int .i64 i2, .int .i64 q2, .int .i64 k2, .string d2] else undef
            | 17 => u 17 = if ((!((!rb))) && pz) = true then .pointer (some ⟨w.heap.size, 1, none⟩) else undef
            | 18 => u 18 = if ((!((!rb))) && pz) = true then .slice (some ad) l.length c else undef
            | 19 => u 19 = if ((!((!rb))) && pz) = true then .int .i64 (k : Int) else undef
            | 20 => u 20 = if ((!((!rb))) && pz) = true then .pointer (some (ad.add (k * 7))) else undef
            | 21 => u 21 = if ((!((!rb))) && pz) = true then .agg #[.bool e1, .int .i64 n1, .int .i64 s1, .int .i64 i1, .int .i64 q1, .int .i64 k1, .string d1] else undef
            | 22 => u 22 = if ((!((!rb))) && pz) = true then .bool sb else undef
            | 23 => u 23 = if ((!((!rb))) && pz) = true then .bool (!sb) else undef
            | 24 => u 24 = if (!((!rb))) = true then .bool (pz && (!sb)) else undef
            | 25 => u 25 = .bool ((!rb) || (pz && (!sb)))
            | _ => True) := ⟨_, rfl⟩
          obtain ⟨Vp, hVdef⟩ := HV
          have Vp0 : ∀ u wv, Vp 0 u wv = (u 0 = .pointer (some ⟨w.heap.size, 1, none⟩)) := fun u wv => by subst hVdef; rfl
          have Vp1 : ∀ u wv, Vp 1 u wv = (u 1 = .slice (some ad) l.length c) := fun u wv => by subst hVdef; rfl
          have Vp2 : ∀ u wv, Vp 2 u wv = (u 2 = .int .i64 (k : Int)) := fun u wv => by subst hVdef; rfl
          have Vp3 : ∀ u wv, Vp 3 u wv = (u 3 = .pointer (some (ad.add (k * 7)))) := fun u wv => by subst hVdef; rfl
          have Vp4 : ∀ u wv, Vp 4 u wv = (u 4 = .agg #[.bool e1, .int .i64 n1, .int .i64 s1, .int .i64 i1, .int .i64 q1, .int .i64 k1, .string d1]) := fun u wv => by subst hVdef; rfl
          have Vp5 : ∀ u wv, Vp 5 u wv = (u 5 = .bool rb) := fun u wv => by subst hVdef; rfl
          have Vp6 : ∀ u wv, Vp 6 u wv = (u 6 = .bool (!rb)) := fun u wv => by subst hVdef; rfl
          have Vp7 : ∀ u wv, Vp 7 u wv = (u 7 = .bool (!rb)) := fun u wv => by subst hVdef; rfl
          have Vp8 : ∀ u wv, Vp 8 u wv = (u 8 = if (!((!rb))) = true then .int .i64 (k : Int) else undef) := fun u wv => by subst hVdef; rfl
          have Vp9 : ∀ u wv, Vp 9 u wv = (u 9 = if (!((!rb))) = true then .bool pz else undef) := fun u wv => by subst hVdef; rfl
          have Vp10 : ∀ u wv, Vp 10 u wv = (u 10 = if (!((!rb))) = true then .bool pz else undef) := fun u wv => by subst hVdef; rfl
          have Vp11 : ∀ u wv, Vp 11 u wv = (u 11 = if ((!((!rb))) && pz) = true then .pointer (some ⟨w.heap.size, 1, none⟩) else undef) := fun u wv => by subst hVdef; rfl
          have Vp12 : ∀ u wv, Vp 12 u wv = (u 12 = if ((!((!rb))) && pz) = true then .slice (some ad) l.length c else undef) := fun u wv => by subst hVdef; rfl
          have Vp13 : ∀ u wv, Vp 13 u wv = (u 13 = if ((!((!rb))) && pz) = true then .int .i64 (k : Int) else undef) := fun u wv => by subst hVdef; rfl
          have Vp14 : ∀ u wv, Vp 14 u wv = (u 14 = if ((!((!rb))) && pz) = true then .int .i64 ((k : Int) - 1) else undef) := fun u wv => by subst hVdef; rfl
          have Vp15 : ∀ u wv, Vp 15 u wv = (u 15 = if ((!((!rb))) && pz) = true then .pointer (some (ad.add ((k - 1) * 7))) else undef) := fun u wv => by subst hVdef; rfl
          have Vp16 : ∀ u wv, Vp 16 u wv = (u 16 = if ((!((!rb))) && pz) = true then .agg #[.bool e2, .int .i64 n2, .int .i64 s2, .int .i64 i2, .int .i64 q2, .int .i64 k2, .string d2] else undef) := fun u wv => by subst hVdef; rfl
          have Vp17 : ∀ u wv, Vp 17 u wv = (u 17 = if ((!((!rb))) && pz) = true then .pointer (some ⟨w.heap.size, 1, none⟩) else undef) := fun u wv => by subst hVdef; rfl
          have Vp18 : ∀ u wv, Vp 18 u wv = (u 18 = if ((!((!rb))) && pz) = true then .slice (some ad) l.length c else undef) := fun u wv => by subst hVdef; rfl
          have Vp19 : ∀ u wv, Vp 19 u wv = (u 19 = if ((!((!rb))) && pz) = true then .int .i64 (k : Int) else undef) := fun u wv => by subst hVdef; rfl
          have Vp20 : ∀ u wv, Vp 20 u wv = (u 20 = if ((!((!rb))) && pz) = true then .pointer (some (ad.add (k * 7))) else undef) := fun u wv => by subst hVdef; rfl
          have Vp21 : ∀ u wv, Vp 21 u wv = (u 21 = if ((!((!rb))) && pz) = true then .agg #[.bool e1, .int .i64 n1, .int .i64 s1, .int .i64 i1, .int .i64 q1, .int .i64 k1, .string d1] else undef) := fun u wv => by subst hVdef; rfl
          have Vp22 : ∀ u wv, Vp 22 u wv = (u 22 = if ((!((!rb))) && pz) = true then .bool sb else undef) := fun u wv => by subst hVdef; rfl
          have Vp23 : ∀ u wv, Vp 23 u wv = (u 23 = if ((!((!rb))) && pz) = true then .bool (!sb) else undef) := fun u wv => by subst hVdef; rfl
          have Vp24 : ∀ u wv, Vp 24 u wv = (u 24 = if (!((!rb))) = true then .bool (pz && (!sb)) else undef) := fun u wv => by subst hVdef; rfl
          have Vp25 : ∀ u wv, Vp 25 u wv = (u 25 = .bool ((!rb) || (pz && (!sb)))) := fun u wv => by subst hVdef; rfl
          have HVD := Lib.hid hVdef
          clear hVdef
          refine region_each (V := Vp) (drop := fun _ _ => false) (G := fun wv => Below wr.heap.size wr wv) (Rel := fun jx wv wv' => Below wv.heap.size wv wv') (by kernel_rfl) (by kernel_rfl) (Below.refl _ _).drew ?hmonoc1 ?hdepc1 ⟨?s0_c1, ?s1_c1, ?s2_c1, ?s3_c1, ?s4_c1, ?s5_c1, ?s6_c1, ?s7_c1, ?s8_c1, ?s9_c1, ?s10_c1, ?s11_c1, ?s12_c1, ?s13_c1, ?s14_c1, ?s15_c1, ?s16_c1, ?s17_c1, ?s18_c1, ?s19_c1, ?s20_c1, ?s21_c1, ?s22_c1, ?s23_c1, ?s24_c1, ?s25_c1, trivial⟩ ?behindc1
          case hmonoc1 =>
            intro ix jx u wv wv' hij hw hd hr
            rw [HVD.out]
            dsimp only
            split <;> intro h <;> first | exact trivial | exact h
          case hdepc1 =>
            intro ix u u' wv h1 h2
            rw [HVD.out]
            dsimp only
            split <;> intro h <;> first | exact trivial | (rw [← h1]; exact h)
          case s0_c1 =>
            refine owe rfl fun a wx val hG hV hN hO K hK => ?_
            have e1 : a.tmps[1]? = some (.pointer (some ⟨w.heap.size, 0, none⟩)) := (hO 1 (by kernel_rfl)).trans (by rfl)
            clear hV hN hO
            go_simp
            exact hK.out _ _ (by rw [Vp0, upd_at] <;> (congr 1 <;> omega)) (Below.refl _ _) hG
          case s1_c1 =>
            refine owe rfl fun a wx val hG hV hN hO K hK => ?_
            have e28 := hN 0 28 (by kernel_rfl) (by kernel_rfl) (by simp)
            have f28 := hV 0 (by kernel_rfl) (by kernel_rfl)
            rw [Vp0] at f28; rw [f28] at e28; clear f28
            clear hV hN hO
            obtain ⟨x0, x1, x2, x3, x4, x5, x6⟩ := HM.out _ hG
            obtain ⟨v0, v1⟩ := (HQA.out.on hG).cells
            go_simp
            exact hK.out _ _ (by rw [Vp1, upd_at] <;> (congr 1 <;> omega)) (Below.refl _ _) hG
          case s2_c1 =>
            refine owe rfl fun a wx val hG hV hN hO K hK => ?_
            have e3 : a.tmps[3]? = some (.int .i64 (k : Int)) := (hO 3 (by kernel_rfl)).trans (by rfl)
            clear hV hN hO
            go_simp
            exact hK.out _ _ (by rw [Vp2, upd_at] <;> (congr 1 <;> omega)) (Below.refl _ _) hG
          case s3_c1 =>
            refine owe rfl fun a wx val hG hV hN hO K hK => ?_
            have e29 := hN 1 29 (by kernel_rfl) (by kernel_rfl) (by simp)
            have f29 := hV 1 (by kernel_rfl) (by kernel_rfl)
            rw [Vp1] at f29; rw [f29] at e29; clear f29
            have e30 := hN 2 30 (by kernel_rfl) (by kernel_rfl) (by simp)
            have f30 := hV 2 (by kernel_rfl) (by kernel_rfl)
            rw [Vp2] at f30; rw [f30] at e30; clear f30
            clear hV hN hO
            go_simp
            exact hK.out _ _ (by rw [Vp3, upd_at] <;> (congr 1 <;> omega)) (Below.refl _ _) hG
          case s4_c1 =>
            refine owe rfl fun a wx val hG hV hN hO K hK => ?_
            have e31 := hN 3 31 (by kernel_rfl) (by kernel_rfl) (by simp)
            have f31 := hV 3 (by kernel_rfl) (by kernel_rfl)
            rw [Vp3] at f31; rw [f31] at e31; clear f31
            clear hV hN hO
            obtain ⟨x0, x1, x2, x3, x4, x5, x6⟩ := HM.out _ hG
            obtain ⟨v0, v1⟩ := (HQA.out.on hG).cells
            go_simp
            exact hK.out _ _ (by rw [Vp4, upd_at] <;> (congr 1 <;> omega)) (Below.refl _ _) hG
          case s5_c1 =>
            refine owe rfl fun a wx val hG hV hN hO K hK => ?_
            have e32 := hN 4 32 (by kernel_rfl) (by kernel_rfl) (by simp)
            have f32 := hV 4 (by kernel_rfl) (by kernel_rfl)
            rw [Vp4] at f32; rw [f32] at e32; clear f32
            clear hV hN hO
            go_simp
            refine (CR.out _).mono ?_
            rintro e w11 ⟨rfl, hb⟩
            exact hK.out _ _ (by rw [Vp5, upd_at]) hb (hG.trans (hb.mono hG.size))
          case s6_c1 =>
            refine owe rfl fun a wx val hG hV hN hO K hK => ?_
            have e33 := hN 5 33 (by kernel_rfl) (by kernel_rfl) (by simp)
            have f33 := hV 5 (by kernel_rfl) (by kernel_rfl)
            rw [Vp5] at f33; rw [f33] at e33; clear f33
            clear hV hN hO
            go_simp
            exact hK.out _ _ (by rw [Vp6, upd_at] <;> (congr 1 <;> omega)) (Below.refl _ _) hG
          case s7_c1 =>
            refine owe rfl fun a wx val hG hV hN hO K hK => ?_
            have e34 := hN 6 34 (by kernel_rfl) (by kernel_rfl) (by simp)
            have f34 := hV 6 (by kernel_rfl) (by kernel_rfl)
            rw [Vp6] at f34; rw [f34] at e34; clear f34
            clear hV hN hO
            go_simp
            exact hK.out _ _ (by rw [Vp7, upd_at] <;> (congr 1 <;> omega)) (Below.refl _ _) hG
          case s8_c1 =>
            refine owe_cond (g := 7) (t := 35) (b := false) (c := (!rb)) (d := true) ((!((!rb)))) (by first | rfl | simp) rfl (by kernel_rfl) (by kernel_rfl) (by kernel_rfl) (by simp) (fun val w h => by rw [Vp7] at h; first | exact h | simpa using h) (fun hd a wx val hG hV hN hO K hK => ?_) (fun hd val w => by first | exact absurd hd (by decide) | rw [Vp8, upd_at, if_neg (by rw [hd]; decide)])
            have e3 : a.tmps[3]? = some (.int .i64 (k : Int)) := (hO 3 (by kernel_rfl)).trans (by rfl)
            clear hV hN hO
            go_simp
            exact hK.out _ _ (by rw [Vp8, upd_at, if_pos hd] <;> (congr 1 <;> omega)) (Below.refl _ _) hG
          case s9_c1 =>
            refine owe_cond (g := 7) (t := 35) (b := false) (c := (!rb)) (d := true) ((!((!rb)))) (by first | rfl | simp) rfl (by kernel_rfl) (by kernel_rfl) (by kernel_rfl) (by simp) (fun val w h => by rw [Vp7] at h; first | exact h | simpa using h) (fun hd a wx val hG hV hN hO K hK => ?_) (fun hd val w => by first | exact absurd hd (by decide) | rw [Vp9, upd_at, if_neg (by rw [hd]; decide)])
            have e36 := hN 8 36 (by kernel_rfl) (by kernel_rfl) (by simp)
            have f36 := hV 8 (by kernel_rfl) (by kernel_rfl)
            rw [Vp8] at f36; rw [f36] at e36; clear f36
            rw [if_pos hd] at e36
            clear hV hN hO
            go_simp
            exact hK.out _ _ (by rw [Vp9, upd_at, if_pos hd, ← HPZ.out] <;> simp) (Below.refl _ _) hG
          case s10_c1 =>
            refine owe_cond (g := 7) (t := 35) (b := false) (c := (!rb)) (d := true) ((!((!rb)))) (by first | rfl | simp) rfl (by kernel_rfl) (by kernel_rfl) (by kernel_rfl) (by simp) (fun val w h => by rw [Vp7] at h; first | exact h | simpa using h) (fun hd a wx val hG hV hN hO K hK => ?_) (fun hd val w => by first | exact absurd hd (by decide) | rw [Vp10, upd_at, if_neg (by rw [hd]; decide)])
            have e37 := hN 9 37 (by kernel_rfl) (by kernel_rfl) (by simp)
            have f37 := hV 9 (by kernel_rfl) (by kernel_rfl)
            rw [Vp9] at f37; rw [f37] at e37; clear f37
            rw [if_pos hd] at e37
            clear hV hN hO
            go_simp
            exact hK.out _ _ (by rw [Vp10, upd_at, if_pos hd] <;> (congr 1 <;> omega)) (Below.refl _ _) hG
          case s11_c1 =>
            refine owe_cond (g := 10) (t := 38) (b := true) (c := pz) (d := (!((!rb)))) (((!((!rb))) && pz)) (by first | rfl | simp) rfl (by kernel_rfl) (by kernel_rfl) (by kernel_rfl) (by simp) (fun val w h => by rw [Vp10] at h; first | exact h | simpa using h) (fun hd a wx val hG hV hN hO K hK => ?_) (fun hd val w => by first | exact absurd hd (by decide) | rw [Vp11, upd_at, if_neg (by rw [hd]; decide)])
            have e1 : a.tmps[1]? = some (.pointer (some ⟨w.heap.size, 0, none⟩)) := (hO 1 (by kernel_rfl)).trans (by rfl)
            clear hV hN hO
            go_simp
            exact hK.out _ _ (by rw [Vp11, upd_at, if_pos hd] <;> (congr 1 <;> omega)) (Below.refl _ _) hG
          case s12_c1 =>
            refine owe_cond (g := 10) (t := 38) (b := true) (c := pz) (d := (!((!rb)))) (((!((!rb))) && pz)) (by first | rfl | simp) rfl (by kernel_rfl) (by kernel_rfl) (by kernel_rfl) (by simp) (fun val w h => by rw [Vp10] at h; first | exact h | simpa using h) (fun hd a wx val hG hV hN hO K hK => ?_) (fun hd val w => by first | exact absurd hd (by decide) | rw [Vp12, upd_at, if_neg (by rw [hd]; decide)])
            have e39 := hN 11 39 (by kernel_rfl) (by kernel_rfl) (by simp)
            have f39 := hV 11 (by kernel_rfl) (by kernel_rfl)
            rw [Vp11] at f39; rw [f39] at e39; clear f39
            rw [if_pos hd] at e39
            clear hV hN hO
            obtain ⟨x0, x1, x2, x3, x4, x5, x6⟩ := HM.out _ hG
            obtain ⟨v0, v1⟩ := (HQA.out.on hG).cells
            go_simp
            exact hK.out _ _ (by rw [Vp12, upd_at, if_pos hd] <;> (congr 1 <;> omega)) (Below.refl _ _) hG
          case s13_c1 =>
            refine owe_cond (g := 10) (t := 38) (b := true) (c := pz) (d := (!((!rb)))) (((!((!rb))) && pz)) (by first | rfl | simp) rfl (by kernel_rfl) (by kernel_rfl) (by kernel_rfl) (by simp) (fun val w h => by rw [Vp10] at h; first | exact h | simpa using h) (fun hd a wx val hG hV hN hO K hK => ?_) (fun hd val w => by first | exact absurd hd (by decide) | rw [Vp13, upd_at, if_neg (by rw [hd]; decide)])
            have e3 : a.tmps[3]? = some (.int .i64 (k : Int)) := (hO 3 (by kernel_rfl)).trans (by rfl)
            clear hV hN hO
            go_simp
            exact hK.out _ _ (by rw [Vp13, upd_at, if_pos hd] <;> (congr 1 <;> omega)) (Below.refl _ _) hG
          case s14_c1 =>
            refine owe_cond (g := 10) (t := 38) (b := true) (c := pz) (d := (!((!rb)))) (((!((!rb))) && pz)) (by first | rfl | simp) rfl (by kernel_rfl) (by kernel_rfl) (by kernel_rfl) (by simp) (fun val w h => by rw [Vp10] at h; first | exact h | simpa using h) (fun hd a wx val hG hV hN hO K hK => ?_) (fun hd val w => by first | exact absurd hd (by decide) | rw [Vp14, upd_at, if_neg (by rw [hd]; decide)])
            have e41 := hN 13 41 (by kernel_rfl) (by kernel_rfl) (by simp)
            have f41 := hV 13 (by kernel_rfl) (by kernel_rfl)
            rw [Vp13] at f41; rw [f41] at e41; clear f41
            rw [if_pos hd] at e41
            clear hV hN hO
            have hk0 := HPK.out (by simp only [Bool.and_eq_true] at hd; exact hd.2)
            have hk1 : IntKind.i64.wrap ((k : Int) - 1) = (k : Int) - 1 := IntWalk.i64_in _ (by omega)
            go_simp
            exact hK.out _ _ (by rw [Vp14, upd_at, if_pos hd] <;> (congr 1 <;> omega)) (Below.refl _ _) hG
          case s15_c1 =>
            refine owe_cond (g := 10) (t := 38) (b := true) (c := pz) (d := (!((!rb)))) (((!((!rb))) && pz)) (by first | rfl | simp) rfl (by kernel_rfl) (by kernel_rfl) (by kernel_rfl) (by simp) (fun val w h => by rw [Vp10] at h; first | exact h | simpa using h) (fun hd a wx val hG hV hN hO K hK => ?_) (fun hd val w => by first | exact absurd hd (by decide) | rw [Vp15, upd_at, if_neg (by rw [hd]; decide)])
            have e40 := hN 12 40 (by kernel_rfl) (by kernel_rfl) (by simp)
            have f40 := hV 12 (by kernel_rfl) (by kernel_rfl)
            rw [Vp12] at f40; rw [f40] at e40; clear f40
            rw [if_pos hd] at e40
            have e42 := hN 14 42 (by kernel_rfl) (by kernel_rfl) (by simp)
            have f42 := hV 14 (by kernel_rfl) (by kernel_rfl)
            rw [Vp14] at f42; rw [f42] at e42; clear f42
            rw [if_pos hd] at e42
            clear hV hN hO
            have hk0 := HPK.out (by simp only [Bool.and_eq_true] at hd; exact hd.2)
            have hk2 : ((k : Int) - 1).toNat = k - 1 := by omega
            have hk3 : k - 1 < l.length := by omega
            have hk4 : (k : Int) - 1 < (l.length : Int) := by omega
            have hk5 : (1 : Int) ≤ (k : Int) := by omega
            go_simp
            exact hK.out _ _ (by rw [Vp15, upd_at, if_pos hd] <;> (congr 1 <;> omega)) (Below.refl _ _) hG
          case s16_c1 =>
            refine owe_cond (g := 10) (t := 38) (b := true) (c := pz) (d := (!((!rb)))) (((!((!rb))) && pz)) (by first | rfl | simp) rfl (by kernel_rfl) (by kernel_rfl) (by kernel_rfl) (by simp) (fun val w h => by rw [Vp10] at h; first | exact h | simpa using h) (fun hd a wx val hG hV hN hO K hK => ?_) (fun hd val w => by first | exact absurd hd (by decide) | rw [Vp16, upd_at, if_neg (by rw [hd]; decide)])
            have e43 := hN 15 43 (by kernel_rfl) (by kernel_rfl) (by simp)
            have f43 := hV 15 (by kernel_rfl) (by kernel_rfl)
            rw [Vp15] at f43; rw [f43] at e43; clear f43
            rw [if_pos hd] at e43
            clear hV hN hO
            obtain ⟨y0, y1, y2, y3, y4, y5, y6⟩ := HX.out (by simp only [Bool.and_eq_true] at hd; exact hd.2) _ hG
            obtain ⟨x0, x1, x2, x3, x4, x5, x6⟩ := HM.out _ hG
            obtain ⟨v0, v1⟩ := (HQA.out.on hG).cells
            go_simp
            exact hK.out _ _ (by rw [Vp16, upd_at, if_pos hd] <;> (congr 1 <;> omega)) (Below.refl _ _) hG
          case s17_c1 =>
            refine owe_cond (g := 10) (t := 38) (b := true) (c := pz) (d := (!((!rb)))) (((!((!rb))) && pz)) (by first | rfl | simp) rfl (by kernel_rfl) (by kernel_rfl) (by kernel_rfl) (by simp) (fun val w h => by rw [Vp10] at h; first | exact h | simpa using h) (fun hd a wx val hG hV hN hO K hK => ?_) (fun hd val w => by first | exact absurd hd (by decide) | rw [Vp17, upd_at, if_neg (by rw [hd]; decide)])
            have e1 : a.tmps[1]? = some (.pointer (some ⟨w.heap.size, 0, none⟩)) := (hO 1 (by kernel_rfl)).trans (by rfl)
            clear hV hN hO
            go_simp
            exact hK.out _ _ (by rw [Vp17, upd_at, if_pos hd] <;> (congr 1 <;> omega)) (Below.refl _ _) hG
          case s18_c1 =>
            refine owe_cond (g := 10) (t := 38) (b := true) (c := pz) (d := (!((!rb)))) (((!((!rb))) && pz)) (by first | rfl | simp) rfl (by kernel_rfl) (by kernel_rfl) (by kernel_rfl) (by simp) (fun val w h => by rw [Vp10] at h; first | exact h | simpa using h) (fun hd a wx val hG hV hN hO K hK => ?_) (fun hd val w => by first | exact absurd hd (by decide) | rw [Vp18, upd_at, if_neg (by rw [hd]; decide)])
            have e45 := hN 17 45 (by kernel_rfl) (by kernel_rfl) (by simp)
            have f45 := hV 17 (by kernel_rfl) (by kernel_rfl)
            rw [Vp17] at f45; rw [f45] at e45; clear f45
            rw [if_pos hd] at e45
            clear hV hN hO
            obtain ⟨x0, x1, x2, x3, x4, x5, x6⟩ := HM.out _ hG
            obtain ⟨v0, v1⟩ := (HQA.out.on hG).cells
            go_simp
            exact hK.out _ _ (by rw [Vp18, upd_at, if_pos hd] <;> (congr 1 <;> omega)) (Below.refl _ _) hG
          case s19_c1 =>
            refine owe_cond (g := 10) (t := 38) (b := true) (c := pz) (d := (!((!rb)))) (((!((!rb))) && pz)) (by first | rfl | simp) rfl (by kernel_rfl) (by kernel_rfl) (by kernel_rfl) (by simp) (fun val w h => by rw [Vp10] at h; first | exact h | simpa using h) (fun hd a wx val hG hV hN hO K hK => ?_) (fun hd val w => by first | exact absurd hd (by decide) | rw [Vp19, upd_at, if_neg (by rw [hd]; decide)])
            have e3 : a.tmps[3]? = some (.int .i64 (k : Int)) := (hO 3 (by kernel_rfl)).trans (by rfl)
            clear hV hN hO
            go_simp
            exact hK.out _ _ (by rw [Vp19, upd_at, if_pos hd] <;> (congr 1 <;> omega)) (Below.refl _ _) hG
          case s20_c1 =>
            refine owe_cond (g := 10) (t := 38) (b := true) (c := pz) (d := (!((!rb)))) (((!((!rb))) && pz)) (by first | rfl | simp) rfl (by kernel_rfl) (by kernel_rfl) (by kernel_rfl) (by simp) (fun val w h => by rw [Vp10] at h; first | exact h | simpa using h) (fun hd a wx val hG hV hN hO K hK => ?_) (fun hd val w => by first | exact absurd hd (by decide) | rw [Vp20, upd_at, if_neg (by rw [hd]; decide)])
            have e46 := hN 18 46 (by kernel_rfl) (by kernel_rfl) (by simp)
            have f46 := hV 18 (by kernel_rfl) (by kernel_rfl)
            rw [Vp18] at f46; rw [f46] at e46; clear f46
            rw [if_pos hd] at e46
            have e47 := hN 19 47 (by kernel_rfl) (by kernel_rfl) (by simp)
            have f47 := hV 19 (by kernel_rfl) (by kernel_rfl)
            rw [Vp19] at f47; rw [f47] at e47; clear f47
            rw [if_pos hd] at e47
            clear hV hN hO
            go_simp
            exact hK.out _ _ (by rw [Vp20, upd_at, if_pos hd] <;> (congr 1 <;> omega)) (Below.refl _ _) hG
          case s21_c1 =>
            refine owe_cond (g := 10) (t := 38) (b := true) (c := pz) (d := (!((!rb)))) (((!((!rb))) && pz)) (by first | rfl | simp) rfl (by kernel_rfl) (by kernel_rfl) (by kernel_rfl) (by simp) (fun val w h => by rw [Vp10] at h; first | exact h | simpa using h) (fun hd a wx val hG hV hN hO K hK => ?_) (fun hd val w => by first | exact absurd hd (by decide) | rw [Vp21, upd_at, if_neg (by rw [hd]; decide)])
            have e48 := hN 20 48 (by kernel_rfl) (by kernel_rfl) (by simp)
            have f48 := hV 20 (by kernel_rfl) (by kernel_rfl)
            rw [Vp20] at f48; rw [f48] at e48; clear f48
            rw [if_pos hd] at e48
            clear hV hN hO
            obtain ⟨x0, x1, x2, x3, x4, x5, x6⟩ := HM.out _ hG
            obtain ⟨v0, v1⟩ := (HQA.out.on hG).cells
            go_simp
            exact hK.out _ _ (by rw [Vp21, upd_at, if_pos hd] <;> (congr 1 <;> omega)) (Below.refl _ _) hG
          case s22_c1 =>
            refine owe_cond (g := 10) (t := 38) (b := true) (c := pz) (d := (!((!rb)))) (((!((!rb))) && pz)) (by first | rfl | simp) rfl (by kernel_rfl) (by kernel_rfl) (by kernel_rfl) (by simp) (fun val w h => by rw [Vp10] at h; first | exact h | simpa using h) (fun hd a wx val hG hV hN hO K hK => ?_) (fun hd val w => by first | exact absurd hd (by decide) | rw [Vp22, upd_at, if_neg (by rw [hd]; decide)])
            have e44 := hN 16 44 (by kernel_rfl) (by kernel_rfl) (by simp)
            have f44 := hV 16 (by kernel_rfl) (by kernel_rfl)
            rw [Vp16] at f44; rw [f44] at e44; clear f44
            rw [if_pos hd] at e44
            have e49 := hN 21 49 (by kernel_rfl) (by kernel_rfl) (by simp)
            have f49 := hV 21 (by kernel_rfl) (by kernel_rfl)
            rw [Vp21] at f49; rw [f49] at e49; clear f49
            rw [if_pos hd] at e49
            clear hV hN hO
            go_simp
            refine (CL.out _).mono ?_
            rintro e w11 ⟨rfl, hb⟩
            exact hK.out _ _ (by rw [Vp22, upd_at, if_pos hd]) hb (hG.trans (hb.mono hG.size))
          case s23_c1 =>
            refine owe_cond (g := 10) (t := 38) (b := true) (c := pz) (d := (!((!rb)))) (((!((!rb))) && pz)) (by first | rfl | simp) rfl (by kernel_rfl) (by kernel_rfl) (by kernel_rfl) (by simp) (fun val w h => by rw [Vp10] at h; first | exact h | simpa using h) (fun hd a wx val hG hV hN hO K hK => ?_) (fun hd val w => by first | exact absurd hd (by decide) | rw [Vp23, upd_at, if_neg (by rw [hd]; decide)])
            have e50 := hN 22 50 (by kernel_rfl) (by kernel_rfl) (by simp)
            have f50 := hV 22 (by kernel_rfl) (by kernel_rfl)
            rw [Vp22] at f50; rw [f50] at e50; clear f50
            rw [if_pos hd] at e50
            clear hV hN hO
            go_simp
            exact hK.out _ _ (by rw [Vp23, upd_at, if_pos hd] <;> (congr 1 <;> omega)) (Below.refl _ _) hG
          case s24_c1 =>
            refine owe_cond (g := 7) (t := 35) (b := false) (c := (!rb)) (d := true) ((!((!rb)))) (by first | rfl | simp) rfl (by kernel_rfl) (by kernel_rfl) (by kernel_rfl) (by simp) (fun val w h => by rw [Vp7] at h; first | exact h | simpa using h) (fun hd a wx val hG hV hN hO K hK => ?_) (fun hd val w => by first | exact absurd hd (by decide) | rw [Vp24, upd_at, if_neg (by rw [hd]; decide)])
            have e38 := hN 10 38 (by kernel_rfl) (by kernel_rfl) (by simp)
            have f38 := hV 10 (by kernel_rfl) (by kernel_rfl)
            rw [Vp10] at f38; rw [f38] at e38; clear f38
            have e51 := hN 23 51 (by kernel_rfl) (by kernel_rfl) (by simp)
            have f51 := hV 23 (by kernel_rfl) (by kernel_rfl)
            rw [Vp23] at f51; rw [f51] at e51; clear f51
            clear hV hN hO
            rw [if_pos hd] at e38
            cases hcc : pz
            · rw [hcc] at e38
              rw [if_neg (by first | (rw [hcc]; decide) | simp [hcc])] at e51
              go_simp
              exact hK.out _ _ (by rw [Vp24, upd_at, if_pos hd] <;> simp [hcc]) (Below.refl _ _) hG
            · rw [hcc] at e38
              rw [if_pos (by first | exact hcc | (rw [hcc]; rfl) | simp [hcc, hd])] at e51
              go_simp
              exact hK.out _ _ (by rw [Vp24, upd_at, if_pos hd] <;> simp [hcc]) (Below.refl _ _) hG
          case s25_c1 =>
            refine owe rfl fun a wx val hG hV hN hO K hK => ?_
            have e35 := hN 7 35 (by kernel_rfl) (by kernel_rfl) (by simp)
            have f35 := hV 7 (by kernel_rfl) (by kernel_rfl)
            rw [Vp7] at f35; rw [f35] at e35; clear f35
            have e52 := hN 24 52 (by kernel_rfl) (by kernel_rfl) (by simp)
            have f52 := hV 24 (by kernel_rfl) (by kernel_rfl)
            rw [Vp24] at f52; rw [f52] at e52; clear f52
            clear hV hN hO
            cases hcc : ((!rb))
            · rw [hcc] at e35
              rw [if_pos (by first | exact hcc | (rw [hcc]; rfl) | simp [hcc])] at e52
              go_simp
              exact hK.out _ _ (by rw [Vp25, upd_at] <;> simp [hcc]) (Below.refl _ _) hG
            · rw [hcc] at e35
              rw [if_neg (by first | (rw [hcc]; decide) | simp [hcc])] at e52
              go_simp
              exact hK.out _ _ (by rw [Vp25, upd_at] <;> simp [hcc]) (Below.refl _ _) hG
          intro val wx hG hV
          have f0 := hV 0 (by simp) (fun _ _ => by rfl)
          rw [Vp0] at f0
          have f1 := hV 1 (by simp) (fun _ _ => by rfl)
          rw [Vp1] at f1
          have f2 := hV 2 (by simp) (fun _ _ => by rfl)
          rw [Vp2] at f2
          have f3 := hV 3 (by simp) (fun _ _ => by rfl)
          rw [Vp3] at f3
          have f4 := hV 4 (by simp) (fun _ _ => by rfl)
          rw [Vp4] at f4
          have f5 := hV 5 (by simp) (fun _ _ => by rfl)
          rw [Vp5] at f5
          have f6 := hV 6 (by simp) (fun _ _ => by rfl)
          rw [Vp6] at f6
          have f7 := hV 7 (by simp) (fun _ _ => by rfl)
          rw [Vp7] at f7
          have f8 := hV 8 (by simp) (fun _ _ => by rfl)
          rw [Vp8] at f8
          have f9 := hV 9 (by simp) (fun _ _ => by rfl)
          rw [Vp9] at f9
          have f10 := hV 10 (by simp) (fun _ _ => by rfl)
          rw [Vp10] at f10
          have f11 := hV 11 (by simp) (fun _ _ => by rfl)
          rw [Vp11] at f11
          have f12 := hV 12 (by simp) (fun _ _ => by rfl)
          rw [Vp12] at f12
          have f13 := hV 13 (by simp) (fun _ _ => by rfl)
          rw [Vp13] at f13
          have f14 := hV 14 (by simp) (fun _ _ => by rfl)
          rw [Vp14] at f14
          have f15 := hV 15 (by simp) (fun _ _ => by rfl)
          rw [Vp15] at f15
          have f16 := hV 16 (by simp) (fun _ _ => by rfl)
          rw [Vp16] at f16
          have f17 := hV 17 (by simp) (fun _ _ => by rfl)
          rw [Vp17] at f17
          have f18 := hV 18 (by simp) (fun _ _ => by rfl)
          rw [Vp18] at f18
          have f19 := hV 19 (by simp) (fun _ _ => by rfl)
          rw [Vp19] at f19
          have f20 := hV 20 (by simp) (fun _ _ => by rfl)
          rw [Vp20] at f20
          have f21 := hV 21 (by simp) (fun _ _ => by rfl)
          rw [Vp21] at f21
          have f22 := hV 22 (by simp) (fun _ _ => by rfl)
          rw [Vp22] at f22
          have f23 := hV 23 (by simp) (fun _ _ => by rfl)
          rw [Vp23] at f23
          have f24 := hV 24 (by simp) (fun _ _ => by rfl)
          rw [Vp24] at f24
          have f25 := hV 25 (by simp) (fun _ _ => by rfl)
          rw [Vp25] at f25
          clear hV Vp0 Vp1 Vp2 Vp3 Vp4 Vp5 Vp6 Vp7 Vp8 Vp9 Vp10 Vp11 Vp12 Vp13 Vp14 Vp15 Vp16 Vp17 Vp18 Vp19 Vp20 Vp21 Vp22 Vp23 Vp24 Vp25
          simp only [putAll, Act.put, List.setIfInBounds_toArray, List.set_cons_zero, List.set_cons_succ]
          generalize val 0 = z0 at *; (subst f0)
          generalize val 1 = z1 at *; (subst f1)
          generalize val 2 = z2 at *; (subst f2)
          generalize val 3 = z3 at *; (subst f3)
          generalize val 4 = z4 at *; (subst f4)
          generalize val 5 = z5 at *; (subst f5)
          generalize val 6 = z6 at *; (subst f6)
          generalize val 7 = z7 at *; (subst f7)
          generalize val 8 = z8 at *; clear f8
          generalize val 9 = z9 at *; clear f9
          generalize val 10 = z10 at *; clear f10
          generalize val 11 = z11 at *; clear f11
          generalize val 12 = z12 at *; clear f12
          generalize val 13 = z13 at *; clear f13
          generalize val 14 = z14 at *; clear f14
          generalize val 15 = z15 at *; clear f15
          generalize val 16 = z16 at *; clear f16
          generalize val 17 = z17 at *; clear f17
          generalize val 18 = z18 at *; clear f18
          generalize val 19 = z19 at *; clear f19
          generalize val 20 = z20 at *; clear f20
          generalize val 21 = z21 at *; clear f21
          generalize val 22 = z22 at *; clear f22
          generalize val 23 = z23 at *; clear f23
          generalize val 24 = z24 at *; clear f24
          generalize val 25 = z25 at *; (subst f25)
          clear HVD
          have HBG := Lib.hid hG
          have HBW := Lib.hid (HBR.out.trans (hG.mono HBR.out.size))
          clear hG
          obtain ⟨bad, hbad⟩ : ∃ bad, (!rb || (pz && !sb)) = bad := ⟨_, rfl⟩
          rw [hbad] at HRT
          simp only [hbad]
          clear hbad
          cases bad
          · go_wp2_with fail
            go_loopw [4] (fun i w3 => ∃ j : Nat, j ≤ k ∧ i = .int .i64 j ∧ (∀ x ∈ l.take j, x.number ≠ k1) ∧ Below W.heap.size W w3 ∧ Below wr.heap.size wr w3) (fun i _ => k - (intOf i).toNat)
            case atStart => exact ⟨0, by omega, rfl, by simp, HBW.out, HBG.out⟩
            case round =>
              obtain ⟨j, hj, rfl, hno, hb3, hb4⟩ := hrel
              have HNO := Lib.hid hno; clear hno
              by_cases hjk : j < k
              · have hjkI : (j : Int) < (k : Int) := by omega
                have hjl : j < l.length := by omega
                have hjlI : (j : Int) < (l.length : Int) := by omega
                obtain ⟨v, hv⟩ : ∃ v, l[j]? = some v := ⟨_, List.getElem?_eq_getElem hjl⟩
                obtain ⟨x0, x1, x2, x3, x4, x5, x6⟩ := HALL.out j v _ hb4 hv
                obtain ⟨z0, z1, z2, z3, z4, z5, z6⟩ := HM.out _ hb4
                obtain ⟨y0, y1⟩ := (HQA.out.on hb4).cells
                have HV := Lib.hid hv
                have HB3 := Lib.hid hb3
                have HB4 := Lib.hid hb4
                clear hb3 hb4 hv
                obtain ⟨e3, n3, s3, i3, q3, k3, d3⟩ := v
                simp only at x0 x1 x2 x3 x4 x5 x6 z0 z1 z2 z3 z4 z5 z6
                by_cases hkk : k3 = k1
                · have hkb : ((k3 : Int) == k1) = true := by simpa using hkk
                  have HKK := Lib.hid hkk; clear hkk
                  go_wp2_with fail
                  go_quiet (fail)
                  go_wp2_with fail
                  go_ret
                  refine ⟨ret_b ?_, HB.out.trans ((below_drewN HB3.out nq).mono HB.out.size)⟩
                  rw [HR.out, HFA.out]
                  have : nb = true := HHN.out.2 ⟨_, List.mem_of_getElem? (show (l.take k)[j]? = some _ by rw [List.getElem?_take_of_lt hjk]; exact HV.out), HKK.out⟩
                  rw [HRT.out, this]; rfl
                · have hkb : ((k3 : Int) == k1) = false := by simpa using hkk
                  have HKK := Lib.hid hkk; clear hkk
                  go_wp2_with fail
                  go_quiet (fail)
                  go_wp2_with fail
                  go_roundw
                  case rel => exact ⟨j + 1, by omega, by go_num, (by
                    intro x hx
                    rw [List.take_add_one, HV.out] at hx
                    rcases List.mem_append.1 hx with h1 | h1
                    · exact HNO.out x h1
                    · simp at h1; subst h1; exact HKK.out), below_drewN HB3.out nq, below_drewN HB4.out nq⟩
                  case measure => simp [intOf]; omega
              · have hjkI : ¬ (j : Int) < (k : Int) := by omega
                have hje : j = k := by omega
                have HJE := Lib.hid hje; clear hje
                have HB3 := Lib.hid hb3
                clear hb3 hb4
                go_wp2_with fail
                go_roundw
                case rel => exact ⟨k + 1, by omega, by go_num, HNX.out (by
                  have : nb = false := by
                    rw [← Bool.not_eq_true, HHN.out]
                    rintro ⟨x, hx, e⟩
                    rw [← HJE.out] at hx
                    exact HNO.out x hx e
                  rw [HRT.out, this]; rfl), HB3.out⟩
                case measure => simp [intOf]; omega
          · go_wp2_with fail
            go_ret
            exact ⟨ret_b (by rw [HR.out, HFA.out (by rw [HRT.out]; rfl)]), HB.out.trans (HBW.out.mono HB.out.size)⟩
        · have hltI : ¬ (k : Int) < (l.length : Int) := by omega
          have hkl : k = l.length := by omega
          have HKL := Lib.hid hkl; clear hkl
          obtain ⟨y0, y1⟩ := (HQA.out.on hb).cells
          have HBR := Lib.hid hb
          clear hb
          go_wp2_with fail
          go_ret
          exact ⟨ret_b (by rw [HR.out, ← HKL.out, HOK.out]), HB.out.trans (HBR.out.mono HB.out.size)⟩
    · have HR : Hid (R = false) := Lib.hid (by rw [hR]; exact rightQ_len hlen)
      clear hR
      have hlen2 : L < (l.length : Int) := by omega
      go_enter Tryd.func41, Tryd.ntmps41
      go_wp2_with fail
      go_ret
      exact ⟨ret_b HR.out.symm, HB.out⟩
  · have HR : Hid (R = false) := Lib.hid (by rw [hR]; exact rightQ_lim ((limB_not L).2 (by omega)))
    clear hR
    by_cases hl1 : L < 1
    · clear hl
      go_enter Tryd.func41, Tryd.ntmps41
      go_wp2_with fail
      go_ret
      exact ⟨ret_b HR.out.symm, HB.out⟩
    · have hl2 : 32 < L := by omega
      clear hl
      go_enter Tryd.func41, Tryd.ntmps41
      go_wp2_with fail
      go_ret
      exact ⟨ret_b HR.out.symm, HB.out⟩

end Go.Proofs.YtehajmockicilaaDoor


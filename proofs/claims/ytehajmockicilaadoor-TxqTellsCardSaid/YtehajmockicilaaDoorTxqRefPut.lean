/-
  What the document's Put tells.
-/
import Derived.Test.YtehajmockicilaaDoorTxqRefD
import Derived.Test.YtehajmockicilaaDoorTxqMath
namespace Go.Proofs.YtehajmockicilaaDoor
open Go Go.RowKit

theorem put_told {L : Int} {A A' : Option Addr} {c : Nat} {l : List Msg} {m : Msg} {E : Int} {w w' : World} (h : putE L l m = E) (hE : E ≠ 0) (ht : QTold A w.heap.size w' l A' c) (hb : Below w.heap.size w w') : PutPost L A l m w (.returned (.tuple #[qv L A' l.length c, .int .i64 E])) w' := by
  have hl : putL L l m = l := by unfold putL; rw [h, if_neg hE]
  unfold PutPost
  rw [h, hl]
  exact ⟨_, rfl, ⟨A', c, rfl, ht⟩, hb⟩
theorem atI_nonneg (l : List Msg) (n : Int) : decide (0 ≤ atI l n) = hasN l n := by
  unfold atI hasN
  by_cases h : l.findIdx (isNum n) < l.length
  · rw [if_pos h, decide_eq_true h, decide_eq_true (by omega)]
  · rw [if_neg h, decide_eq_false h]; rfl

set_option maxRecDepth 100000 in
set_option maxHeartbeats 4000000 in
theorem refPutQ_any (LQ : Int) (A : Option Addr) (c : Nat) (l : List Msg) (m : Msg) (w : World) (hq : QIn w A c l) (hd : m.data.size ≤ 140737488351232) :
    Calls Tryd.prog 44 #[qv LQ A l.length c, mv m] w (PutPost LQ A l m w) := by
  have q1 := QAt.new w LQ A l.length c
  have b1 := Joins.below_alloc1 w (.cells #[.int .i64 LQ, .slice A l.length c] 64)
  have q3 := MsgAt.new (w.alloc (.cells #[.int .i64 LQ, .slice A l.length c] 64)) m
  have b2 := Joins.below_alloc1 (w.alloc (.cells #[.int .i64 LQ, .slice A l.length c] 64)) (.cells (mc m) 26)
  have q2 := QAt.new ((w.alloc (.cells #[.int .i64 LQ, .slice A l.length c] 64)).alloc (.cells (mc m) 26)) 0 none 0 0
  have b3 := Joins.below_alloc1 ((w.alloc (.cells #[.int .i64 LQ, .slice A l.length c] 64)).alloc (.cells (mc m) 26)) (.cells #[.int .i64 0, .slice none 0 0] 64)
  rw [World.size_alloc] at q3
  rw [World.size_alloc, World.size_alloc] at q2
  have q1' := (q1.on b2).on b3
  have q3' := q3.on b3
  have hB := (b1.trans (b2.mono b1.size)).trans (b3.mono (Nat.le_trans b1.size b2.size))
  have hq3 := hq.on hB
  have hsz : w.heap.size + 3 = (((w.alloc (.cells #[.int .i64 LQ, .slice A l.length c] 64)).alloc (.cells (mc m) 26)).alloc (.cells #[.int .i64 0, .slice none 0 0] 64)).heap.size := by simp only [World.size_alloc]
  simp only [mc] at q1' q3' q2 hB hq3 hsz
  clear q1 q3 b1 b2 b3
  have HSA : Hid (∀ E w' A' c', putE LQ l m = E → E ≠ 0 → QTold A w.heap.size w' l A' c' → Below w.heap.size w w' → PutPost LQ A l m w (.returned (.tuple #[qv LQ A' l.length c', .int .i64 E])) w') := Lib.hid (fun E w' A' c' h hE ht hb => put_told h hE ht hb)
  have HGO : Hid (∀ ll A' c' w', ll = insAt l (l.findIdx (lessM m)) m → putE LQ l m = 0 → QTold none w.heap.size w' ll A' c' → Below w.heap.size w w' → PutPost LQ A l m w (.returned (.tuple #[qv LQ A' ll.length c', .int .i64 0])) w') := Lib.hid (fun ll A' c' w' e h ht hb => by subst e; exact put_good h ht.of hb)
  have HPS : Hid (rightQ LQ l = true → rightM m = true → hasN l m.number = false → sortL (l ++ [m]) = insAt l (l.findIdx (lessM m)) m) := Lib.hid (fun h1 h2 h3 => put_sort (rightQ_parts h1).2.2 h2 (hasN_no h3))
  have HLM : Hid (rightQ LQ l = true → (l.length : Int) ≤ LQ) := Lib.hid (fun h => (rightQ_parts h).2.1)
  have hfew := hq.few
  have hpe : putE LQ l m = if rightQ LQ l = true then (if rightM m = true then (if hasN l m.number = true then 42 else if (l.length : Int) = LQ then 40 else 0) else 1) else 1 := rfl
  generalize putE LQ l m = PE at *
  obtain ⟨y0, y1⟩ := q1'.cells
  obtain ⟨u0, u1, u2, u3, u4, u5, u6⟩ := q3'.cells
  have HB := Lib.hid hB
  have HQ1 := Lib.hid q1'
  have HQ2 := Lib.hid q2
  have HM3 : Hid (MsgAt _ (w.heap.size + 1) m) := Lib.hid q3'
  have HSZ := Lib.hid hsz
  have CR := fun W (h2 : QIn W A c l) => refRightQ_any LQ A c l W h2
  have CM := fun W => refRightM_any m (by unfold maxLen; omega) W
  have CA := fun W (h : QIn W A c l) => at_any LQ A c l m.number W h
  have HAN := Lib.hid (atI_nonneg l m.number)
  have HOW : Hid (∀ W, QIn W A c l → Calls Tryd.prog 34 #[qv LQ A l.length c] W (OwnPost LQ l W)) := Lib.hid (fun W h => ownQ_any LQ A c l W h)
  have HQ3 := Lib.hid hq3
  clear hq q1' q2 q3' hB hsz hd
  generalize rightQ LQ l = R at *
  cases R
  · have HEE : Hid (PE = 1) := Lib.hid (by rw [hpe]; rfl)
    clear hpe CM CA
    go_enter Tryd.func44, Tryd.ntmps44
    go_wp2_with fail; refine (CR _ hq3).mono ?_; rintro e w1 ⟨rfl, b2⟩
    have HBX := Lib.hid b2
    clear b2 CR hq3 y0 y1 u0 u1 u2 u3 u4 u5 u6
    obtain ⟨v0, v1⟩ := (HQ1.out.on HBX.out).cells
    go_wp2_with fail; refine (HOW.out _ (HQ3.out.on HBX.out)).mono ?_; rintro e w7 ⟨A5, c5, rfl, ht5, b7⟩
    have HBY := Lib.hid (HBX.out.trans (b7.mono HBX.out.size))
    have HBZ := Lib.hid (HB.out.trans (HBY.out.mono HB.out.size))
    have HSX : Hid (w.heap.size + 3 ≤ _) := Lib.hid (by rw [HSZ.out]; exact HBX.out.size)
    have hq2 := HQ2.out.on HBY.out
    have HT7 := Lib.hid ((ht5.keep (W := (w7.setCell ⟨w.heap.size + 2, 0, none⟩ (.int .i64 LQ)).setCell ⟨w.heap.size + 2, 1, none⟩ (.slice A5 l.length c5)) (fun ad e => by cases e) (fun k hk => far2 w7 _ _ (by have := HSX.out; omega)) (by rw [World.size_setCell, World.size_setCell]; exact Nat.le_refl _)).less (S' := w.heap.size) (by have := HSX.out; omega))
    obtain ⟨z0, z1⟩ := hq2.cells
    have zf := hq2.frozen
    have HQ4 := Lib.hid (hq2.set LQ A5 l.length c5)
    have HB4 := Lib.hid (below_set2 HBZ.out (b := w.heap.size + 2) (by omega) (.int .i64 LQ) (.slice A5 l.length c5))
    clear hq2 b7 ht5 v0 v1
    go_wp2_with fail
    exact bodyPost_ret (q_res Tryd.results44 HQ4.out rfl rfl) rfl (HSA.out _ _ _ _ HEE.out (by decide) HT7.out.of HB4.out)
  · generalize rightM m = RM at *
    cases RM
    · have HEE : Hid (PE = 1) := Lib.hid (by rw [hpe]; rfl)
      clear hpe CA
      obtain ⟨e1, n1, s1, i1, q1, k1, d1⟩ := m
      simp only [mv] at *
      go_enter Tryd.func44, Tryd.ntmps44
      go_wp2_with fail; refine (CR _ hq3).mono ?_; rintro e w1 ⟨rfl, b2⟩
      have hm1 := MsgAt.on HM3.out b2
      obtain ⟨x0, x1, x2, x3, x4, x5, x6⟩ := hm1.cells
      have HB2 := Lib.hid b2
      clear b2 CR hq3 y0 y1 u0 u1 u2 u3 u4 u5 u6 hm1
      go_wp2_with fail; refine (CM _).mono ?_; rintro e w2 ⟨rfl, b3⟩
      have HBX := Lib.hid (HB2.out.trans (b3.mono HB2.out.size))
      clear b3 CM x0 x1 x2 x3 x4 x5 x6
      obtain ⟨v0, v1⟩ := (HQ1.out.on HBX.out).cells
      go_wp2_with fail; refine (HOW.out _ (HQ3.out.on HBX.out)).mono ?_; rintro e w7 ⟨A5, c5, rfl, ht5, b7⟩
      have HBY := Lib.hid (HBX.out.trans (b7.mono HBX.out.size))
      have HBZ := Lib.hid (HB.out.trans (HBY.out.mono HB.out.size))
      have HSX : Hid (w.heap.size + 3 ≤ _) := Lib.hid (by rw [HSZ.out]; exact HBX.out.size)
      have hq2 := HQ2.out.on HBY.out
      have HT7 := Lib.hid ((ht5.keep (W := (w7.setCell ⟨w.heap.size + 2, 0, none⟩ (.int .i64 LQ)).setCell ⟨w.heap.size + 2, 1, none⟩ (.slice A5 l.length c5)) (fun ad e => by cases e) (fun k hk => far2 w7 _ _ (by have := HSX.out; omega)) (by rw [World.size_setCell, World.size_setCell]; exact Nat.le_refl _)).less (S' := w.heap.size) (by have := HSX.out; omega))
      obtain ⟨z0, z1⟩ := hq2.cells
      have zf := hq2.frozen
      have HQ4 := Lib.hid (hq2.set LQ A5 l.length c5)
      have HB4 := Lib.hid (below_set2 HBZ.out (b := w.heap.size + 2) (by omega) (.int .i64 LQ) (.slice A5 l.length c5))
      clear hq2 b7 ht5 v0 v1
      go_wp2_with fail
      exact bodyPost_ret (q_res Tryd.results44 HQ4.out rfl rfl) rfl (HSA.out _ _ _ _ HEE.out (by decide) HT7.out.of HB4.out)
    · obtain ⟨NB, hNB⟩ : ∃ NB, hasN l m.number = NB := ⟨_, rfl⟩
      rw [hNB] at HAN hpe HPS
      have hai : ∃ ai, atI l m.number = ai := ⟨_, rfl⟩
      obtain ⟨ai, hai⟩ := hai
      rw [hai] at CA HAN
      clear hNB hai
      obtain ⟨e1, n1, s1, i1, q1, k1, d1⟩ := m
      simp only [mv] at *
      have HCA := Lib.hid CA
      clear CA
      cases NB
      · have hneg : ¬ (0 : Int) ≤ ai := by have := HAN.out; simpa using this
        by_cases hlen : (l.length : Int) = LQ
        · have HEE : Hid (PE = 40) := Lib.hid (by rw [hpe, hlen]; simp)
          have hlb : LQ ≤ (l.length : Int) := by omega
          have HLN := Lib.hid hlen
          clear hpe hlen
          go_enter Tryd.func44, Tryd.ntmps44
          go_wp2_with fail; refine (CR _ hq3).mono ?_; rintro e w1 ⟨rfl, b2⟩
          have hm1 := MsgAt.on HM3.out b2
          obtain ⟨x0, x1, x2, x3, x4, x5, x6⟩ := hm1.cells
          have HB2 := Lib.hid b2
          clear b2 CR y0 y1 u0 u1 u2 u3 u4 u5 u6 hm1
          go_wp2_with fail; refine (CM _).mono ?_; rintro e w2 ⟨rfl, b3⟩
          have HB3 := Lib.hid (HB2.out.trans (b3.mono HB2.out.size))
          clear b3 CM x0 x1 x2 x3 x4 x5 x6
          obtain ⟨x0, x1, x2, x3, x4, x5, x6⟩ := (MsgAt.on HM3.out HB3.out).cells
          obtain ⟨v0, v1⟩ := (HQ1.out.on HB3.out).cells
          have CA := HCA.out
          go_wp2_with fail; refine (CA _ (HQ3.out.on HB3.out)).mono ?_; rintro e w3 ⟨rfl, b4⟩
          have HBX := Lib.hid (HB3.out.trans (b4.mono HB3.out.size))
          clear b4 x0 x1 x2 x3 x4 x5 x6 v0 v1 CA hq3
          obtain ⟨v0, v1⟩ := (HQ1.out.on HBX.out).cells
          go_wp2_with fail; refine (HOW.out _ (HQ3.out.on HBX.out)).mono ?_; rintro e w7 ⟨A5, c5, rfl, ht5, b7⟩
          have HBY := Lib.hid (HBX.out.trans (b7.mono HBX.out.size))
          have HBZ := Lib.hid (HB.out.trans (HBY.out.mono HB.out.size))
          have HSX : Hid (w.heap.size + 3 ≤ _) := Lib.hid (by rw [HSZ.out]; exact HBX.out.size)
          have hq2 := HQ2.out.on HBY.out
          have HT7 := Lib.hid ((ht5.keep (W := (w7.setCell ⟨w.heap.size + 2, 0, none⟩ (.int .i64 LQ)).setCell ⟨w.heap.size + 2, 1, none⟩ (.slice A5 l.length c5)) (fun ad e => by cases e) (fun k hk => far2 w7 _ _ (by have := HSX.out; omega)) (by rw [World.size_setCell, World.size_setCell]; exact Nat.le_refl _)).less (S' := w.heap.size) (by have := HSX.out; omega))
          obtain ⟨z0, z1⟩ := hq2.cells
          have zf := hq2.frozen
          have HQ4 := Lib.hid (hq2.set LQ A5 l.length c5)
          have HB4 := Lib.hid (below_set2 HBZ.out (b := w.heap.size + 2) (by omega) (.int .i64 LQ) (.slice A5 l.length c5))
          clear hq2 b7 ht5 v0 v1
          go_wp2_with fail
          exact bodyPost_ret (q_res Tryd.results44 HQ4.out rfl rfl) rfl (HSA.out _ _ _ _ HEE.out (by decide) HT7.out.of HB4.out)
        · have HEE : Hid (PE = 0) := Lib.hid (by rw [hpe, if_neg hlen]; rfl)
          have hlb : ¬ LQ ≤ (l.length : Int) := by have : (l.length : Int) ≤ LQ := (by first | exact HLM.out rfl | exact HLM.out trivial); omega
          clear hpe hlen
          have hps : sortL (l ++ [⟨e1, n1, s1, i1, q1, k1, d1⟩]) = insAt l (l.findIdx (lessM ⟨e1, n1, s1, i1, q1, k1, d1⟩)) ⟨e1, n1, s1, i1, q1, k1, d1⟩ := by first | exact HPS.out rfl rfl rfl | exact HPS.out trivial trivial rfl | exact HPS.out trivial trivial trivial
          obtain ⟨ll, hll⟩ : ∃ ll, ll = sortL (l ++ [⟨e1, n1, s1, i1, q1, k1, d1⟩]) := ⟨_, rfl⟩
          rw [← hll] at hps
          have HPL := Lib.hid hps
          have HCS : Hid (∀ W A0 c0, Msgs W W.heap.size A0 (l ++ [⟨e1, n1, s1, i1, q1, k1, d1⟩]) → Calls Tryd.prog 73 #[.slice A0 (l.length + 1) c0] W fun e w' => ∃ u, e = .returned u ∧ OwnM w' W.heap.size u ll ∧ Below W.heap.size W w') := Lib.hid (fun W A0 c0 h => by
            have q := refSort_any A0 c0 W.heap.size (l ++ [⟨e1, n1, s1, i1, q1, k1, d1⟩]) W h (Nat.le_refl _) (by simp; omega)
            rw [← hll] at q
            simpa using q)
          clear hps hll
          go_enter Tryd.func44, Tryd.ntmps44
          go_wp2_with fail; refine (CR _ hq3).mono ?_; rintro e w1 ⟨rfl, b2⟩
          have hm1 := MsgAt.on HM3.out b2
          obtain ⟨x0, x1, x2, x3, x4, x5, x6⟩ := hm1.cells
          have HB2 := Lib.hid b2
          clear b2 CR y0 y1 u0 u1 u2 u3 u4 u5 u6 hm1
          go_wp2_with fail; refine (CM _).mono ?_; rintro e w2 ⟨rfl, b3⟩
          have HB3 := Lib.hid (HB2.out.trans (b3.mono HB2.out.size))
          clear b3 CM x0 x1 x2 x3 x4 x5 x6
          obtain ⟨x0, x1, x2, x3, x4, x5, x6⟩ := (MsgAt.on HM3.out HB3.out).cells
          obtain ⟨v0, v1⟩ := (HQ1.out.on HB3.out).cells
          have CA := HCA.out
          go_wp2_with fail; refine (CA _ (HQ3.out.on HB3.out)).mono ?_; rintro e w3 ⟨rfl, b4⟩
          have HBX := Lib.hid (HB3.out.trans (b4.mono HB3.out.size))
          clear b4 x0 x1 x2 x3 x4 x5 x6 v0 v1 CA hq3
          have HQ1b := Lib.hid (HQ1.out.on HBX.out)
          have HM3b := Lib.hid (MsgAt.on HM3.out HBX.out)
          have HQ3b := Lib.hid (HQ3.out.on HBX.out)
          have HQ2b := Lib.hid (HQ2.out.on HBX.out)
          have HB4 := Lib.hid (HB.out.trans (HBX.out.mono HB.out.size))
          have HSZ4 : Hid (w.heap.size + 3 ≤ w3.heap.size) := Lib.hid (by rw [HSZ.out]; exact HBX.out.size)
          obtain ⟨v0, v1⟩ := HQ1b.out.cells
          go_upto_region 7 with (fail)
          clear v0 v1
          have HV : ∃ Vp : Nat → (Nat → Value) → World → Prop, Vp = (fun ix u wv => match ix with
            | 0 => u 0 = .pointer (some ⟨w.heap.size, 0, none⟩)
            | 1 => u 1 = .int .i64 LQ
            | 2 => u 2 = .pointer (some ⟨w.heap.size, 1, none⟩)
            | 3 => u 3 = .slice A l.length c
            | 4 => OwnM wv w3.heap.size (u 4) l
            | 5 => u 5 = .agg #[.bool e1, .int .i64 n1, .int .i64 s1, .int .i64 i1, .int .i64 q1, .int .i64 k1, .string d1]
            | 6 => ∃ g, u 6 = .slice (some ⟨g, 0, none⟩) 1 1 ∧ MsgAt wv g ⟨e1, n1, s1, i1, q1, k1, d1⟩
            | 7 => ∃ A6 c6, u 7 = .slice A6 (l.length + 1) c6 ∧ Msgs wv wv.heap.size A6 (l ++ [⟨e1, n1, s1, i1, q1, k1, d1⟩])
            | 8 => ∃ A5 c5, u 8 = .slice A5 ll.length c5 ∧ QTold none w3.heap.size wv ll A5 c5
            | 9 => ∃ A5 c5, u 9 = .agg #[.int .i64 LQ, .slice A5 ll.length c5] ∧ u 8 = .slice A5 ll.length c5
            | 10 => ∃ A5 c5, QAt wv (w.heap.size + 2) LQ A5 ll.length c5 ∧ QTold none w3.heap.size wv ll A5 c5
            | 11 => u 11 = .int .i64 0
            | _ => True) := ⟨_, rfl⟩
          obtain ⟨Vp, hVdef⟩ := HV
          have Vp0 : ∀ u wv, Vp 0 u wv = (u 0 = .pointer (some ⟨w.heap.size, 0, none⟩)) := fun u wv => by subst hVdef; rfl
          have Vp1 : ∀ u wv, Vp 1 u wv = (u 1 = .int .i64 LQ) := fun u wv => by subst hVdef; rfl
          have Vp2 : ∀ u wv, Vp 2 u wv = (u 2 = .pointer (some ⟨w.heap.size, 1, none⟩)) := fun u wv => by subst hVdef; rfl
          have Vp3 : ∀ u wv, Vp 3 u wv = (u 3 = .slice A l.length c) := fun u wv => by subst hVdef; rfl
          have Vp4 : ∀ u wv, Vp 4 u wv = (OwnM wv w3.heap.size (u 4) l) := fun u wv => by subst hVdef; rfl
          have Vp5 : ∀ u wv, Vp 5 u wv = (u 5 = .agg #[.bool e1, .int .i64 n1, .int .i64 s1, .int .i64 i1, .int .i64 q1, .int .i64 k1, .string d1]) := fun u wv => by subst hVdef; rfl
          have Vp6 : ∀ u wv, Vp 6 u wv = (∃ g, u 6 = .slice (some ⟨g, 0, none⟩) 1 1 ∧ MsgAt wv g ⟨e1, n1, s1, i1, q1, k1, d1⟩) := fun u wv => by subst hVdef; rfl
          have Vp7 : ∀ u wv, Vp 7 u wv = (∃ A6 c6, u 7 = .slice A6 (l.length + 1) c6 ∧ Msgs wv wv.heap.size A6 (l ++ [⟨e1, n1, s1, i1, q1, k1, d1⟩])) := fun u wv => by subst hVdef; rfl
          have Vp8 : ∀ u wv, Vp 8 u wv = (∃ A5 c5, u 8 = .slice A5 ll.length c5 ∧ QTold none w3.heap.size wv ll A5 c5) := fun u wv => by subst hVdef; rfl
          have Vp9 : ∀ u wv, Vp 9 u wv = (∃ A5 c5, u 9 = .agg #[.int .i64 LQ, .slice A5 ll.length c5] ∧ u 8 = .slice A5 ll.length c5) := fun u wv => by subst hVdef; rfl
          have Vp10 : ∀ u wv, Vp 10 u wv = (∃ A5 c5, QAt wv (w.heap.size + 2) LQ A5 ll.length c5 ∧ QTold none w3.heap.size wv ll A5 c5) := fun u wv => by subst hVdef; rfl
          have Vp11 : ∀ u wv, Vp 11 u wv = (u 11 = .int .i64 0) := fun u wv => by subst hVdef; rfl
          have HVD := Lib.hid hVdef
          clear hVdef
          refine region_phase (V := Vp) (drop := fun jx ix => (jx == 7 && ix == 4) || (jx == 7 && ix == 6) || (jx == 10 && ix == 4) || (jx == 10 && ix == 6) || (jx == 10 && ix == 7) || (jx == 10 && ix == 8) || (jx == 10 && ix == 9)) (G := fun L wv => (L 10 = false → Below w3.heap.size w3 wv) ∧ Below w.heap.size w wv) (Rel := fun jx wv wv' => jx = 7 ∨ jx = 10 ∨ Below wv.heap.size wv wv') (by kernel_rfl) (by kernel_rfl) ⟨fun _ => (Below.refl _ _).drew, HB4.out.trans ((Below.refl _ _).drew.mono HB4.out.size)⟩ ?hmonop1 ?hdepp1 ⟨?s0_p1, ?s1_p1, ?s2_p1, ?s3_p1, ?s4_p1, ?s5_p1, ?s6_p1, ?s7_p1, ?s8_p1, ?s9_p1, ?s10_p1, ?s11_p1, trivial⟩ ?behindp1
          case hmonop1 =>
            intro ix jx u wv wv' hij hw hd hr
            rw [HVD.out]
            dsimp only
            split <;> intro h <;> first | exact trivial | exact h | (rcases hr with rfl | rfl | hb; (focus first | exact absurd rfl hij | (simp at hd; done) | (exact Bool.noConfusion (hw.symm.trans (show _ = true from by kernel_rfl)))); (focus first | exact absurd rfl hij | (simp at hd; done) | (exact Bool.noConfusion (hw.symm.trans (show _ = true from by kernel_rfl)))); (first | (exact h.on hb) | (obtain ⟨g, e, hg⟩ := h; exact ⟨g, e, hg.on hb⟩) | (obtain ⟨A6, c6, e, hm6⟩ := h; exact ⟨A6, c6, e, hm6.on hb⟩) | (obtain ⟨A5, c5, e, ht⟩ := h; exact ⟨A5, c5, e, ht.on hb⟩) | (obtain ⟨A5, c5, e, ht⟩ := h; exact ⟨A5, c5, e.on hb, ht.on hb⟩)))
          case hdepp1 =>
            intro ix u u' wv h1 h2
            rw [HVD.out]
            dsimp only
            split <;> intro h <;> first | exact trivial | (rw [← h1]; exact h) | (obtain ⟨A5, c5, e, h⟩ := h; exact ⟨A5, c5, h1.symm.trans e, (h2 8 (by kernel_rfl)).symm.trans h⟩) | exact h
          case s0_p1 =>
            refine oweP rfl fun a wx val L hG hi hW hV hN hO K hK => ?_
            have e2 : a.tmps[2]? = some (.pointer (some ⟨w.heap.size, 0, none⟩)) := (hO 2 (by kernel_rfl)).trans (by rfl)
            clear hV hN hO
            go_simp
            exact hK.out _ _ (by rw [Vp0, upd_at] <;> (congr 1 <;> omega)) (.inr (.inr (Below.refl _ _))) (⟨fun h => hG.1 (upL_false h), hG.2⟩)
          case s1_p1 =>
            refine oweP rfl fun a wx val L hG hi hW hV hN hO K hK => ?_
            have e34 := hN 0 34 (by kernel_rfl) (by kernel_rfl) (by simp)
            have f34 := hV 0 (by kernel_rfl) (by kernel_rfl)
            rw [Vp0] at f34; rw [f34] at e34; clear f34
            clear hV hN hO
            obtain ⟨v0, v1⟩ := (HQ1b.out.on (hG.1 (hW 10 (by kernel_rfl)))).cells
            go_simp
            exact hK.out _ _ (by rw [Vp1, upd_at] <;> (congr 1 <;> omega)) (.inr (.inr (Below.refl _ _))) (⟨fun h => hG.1 (upL_false h), hG.2⟩)
          case s2_p1 =>
            refine oweP rfl fun a wx val L hG hi hW hV hN hO K hK => ?_
            have e2 : a.tmps[2]? = some (.pointer (some ⟨w.heap.size, 0, none⟩)) := (hO 2 (by kernel_rfl)).trans (by rfl)
            clear hV hN hO
            go_simp
            exact hK.out _ _ (by rw [Vp2, upd_at] <;> (congr 1 <;> omega)) (.inr (.inr (Below.refl _ _))) (⟨fun h => hG.1 (upL_false h), hG.2⟩)
          case s3_p1 =>
            refine oweP rfl fun a wx val L hG hi hW hV hN hO K hK => ?_
            have e36 := hN 2 36 (by kernel_rfl) (by kernel_rfl) (by simp)
            have f36 := hV 2 (by kernel_rfl) (by kernel_rfl)
            rw [Vp2] at f36; rw [f36] at e36; clear f36
            clear hV hN hO
            obtain ⟨v0, v1⟩ := (HQ1b.out.on (hG.1 (hW 10 (by kernel_rfl)))).cells
            go_simp
            exact hK.out _ _ (by rw [Vp3, upd_at] <;> (congr 1 <;> omega)) (.inr (.inr (Below.refl _ _))) (⟨fun h => hG.1 (upL_false h), hG.2⟩)
          case s4_p1 =>
            refine oweP rfl fun a wx val L hG hi hW hV hN hO K hK => ?_
            have e37 := hN 3 37 (by kernel_rfl) (by kernel_rfl) (by simp)
            have f37 := hV 3 (by kernel_rfl) (by kernel_rfl)
            rw [Vp3] at f37; rw [f37] at e37; clear f37
            clear hV hN hO
            have h9 := hG.1 (hW 10 (by kernel_rfl))
            have hqx := HQ3b.out.on h9
            refine wp_appM (.const (.slice none 0 0)) (.tmp 37) rfl w3.heap.size wx.heap.size _ [] l A c rfl (by simp [Act.eval, e37]) (OwnM.nil _ _) hqx.msgs h9.size (by simp; omega) ?_
            intro u' w5 hown5 hg5
            have hb := OwnM.below (OwnM.nil wx wx.heap.size) hg5 (Nat.le_refl _)
            exact hK.out _ _ (by rw [Vp4, upd_at]; exact hown5) (.inr (.inr hb)) (⟨fun h => (hG.1 (upL_false h)).trans (hb.mono (hG.1 (upL_false h)).size), hG.2.trans (hb.mono hG.2.size)⟩)
          case s5_p1 =>
            refine oweP rfl fun a wx val L hG hi hW hV hN hO K hK => ?_
            have e3 : a.tmps[3]? = some (.pointer (some ⟨w.heap.size + 1, 0, none⟩)) := (hO 3 (by kernel_rfl)).trans (by rfl)
            clear hV hN hO
            obtain ⟨x0, x1, x2, x3, x4, x5, x6⟩ := (MsgAt.on HM3b.out (hG.1 (hW 10 (by kernel_rfl)))).cells
            go_simp
            exact hK.out _ _ (by rw [Vp5, upd_at] <;> (congr 1 <;> omega)) (.inr (.inr (Below.refl _ _))) (⟨fun h => hG.1 (upL_false h), hG.2⟩)
          case s6_p1 =>
            refine oweP rfl fun a wx val L hG hi hW hV hN hO K hK => ?_
            have e39 := hN 5 39 (by kernel_rfl) (by kernel_rfl) (by simp)
            have f39 := hV 5 (by kernel_rfl) (by kernel_rfl)
            rw [Vp5] at f39; rw [f39] at e39; clear f39
            clear hV hN hO
            go_simp
            have hb := Joins.below_alloc1 wx (.cells #[.bool e1, .int .i64 n1, .int .i64 s1, .int .i64 i1, .int .i64 q1, .int .i64 k1, .string d1] 26)
            exact hK.out _ _ (by rw [Vp6, upd_at]; exact ⟨_, rfl, MsgAt.new wx ⟨e1, n1, s1, i1, q1, k1, d1⟩⟩) (.inr (.inr hb)) (⟨fun h => (hG.1 (upL_false h)).trans (hb.mono (hG.1 (upL_false h)).size), hG.2.trans (hb.mono hG.2.size)⟩)
          case s7_p1 =>
            refine oweP rfl fun a wx val L hG hi hW hV hN hO K hK => ?_
            have e38 := hN 4 38 (by kernel_rfl) (by kernel_rfl) (by simp)
            have f38 := hV 4 (by kernel_rfl) (by kernel_rfl)
            rw [Vp4] at f38; skip
            have e40 := hN 6 40 (by kernel_rfl) (by kernel_rfl) (by simp)
            have f40 := hV 6 (by kernel_rfl) (by kernel_rfl)
            rw [Vp6] at f40; obtain ⟨g, hv, hgg⟩ := f40; rw [hv] at e40
            clear hV hN hO
            have h9 := hG.1 (hW 10 (by kernel_rfl))
            refine wp_appM (.tmp 38) (.tmp 40) rfl w3.heap.size wx.heap.size _ l [⟨e1, n1, s1, i1, q1, k1, d1⟩] (some ⟨g, 0, none⟩) 1 (by simp [Act.eval, e38]) (by simp [Act.eval, e40]) f38 (Msgs.one hgg) h9.size (by simp; omega) ?_
            intro u' w5 hown5 hg5
            have hb5 := OwnM.below f38 hg5 h9.size
            have hsz5 := hg5.size
            obtain ⟨A6, c6, hu6, _, hm6⟩ := hown5.row
            exact hK.out _ _ (by rw [Vp7, upd_at]; exact ⟨A6, c6, by rw [hu6]; simp, hm6⟩) (.inl rfl) ⟨fun h => h9.trans hb5, hG.2.trans (hb5.mono (by have := HSZ4.out; omega))⟩
          case s8_p1 =>
            refine oweP rfl fun a wx val L hG hi hW hV hN hO K hK => ?_
            have e41 := hN 7 41 (by kernel_rfl) (by kernel_rfl) (by simp)
            have f41 := hV 7 (by kernel_rfl) (by kernel_rfl)
            rw [Vp7] at f41; obtain ⟨A6, c6, hv, hm6⟩ := f41; rw [hv] at e41
            clear hV hN hO
            have h9 := hG.1 (hW 10 (by kernel_rfl))
            go_simp
            refine (HCS.out _ A6 c6 hm6).mono ?_
            rintro e w11 ⟨u6, rfl, ho, hb⟩
            obtain ⟨A5, c5, rfl, ht5⟩ := QTold.own (A0 := none) ho
            exact hK.out _ _ (by rw [Vp8, upd_at]; exact ⟨A5, c5, rfl, ht5.less h9.size⟩) (.inr (.inr hb)) (⟨fun h => (hG.1 (upL_false h)).trans (hb.mono (hG.1 (upL_false h)).size), hG.2.trans (hb.mono hG.2.size)⟩)
          case s9_p1 =>
            refine oweP rfl fun a wx val L hG hi hW hV hN hO K hK => ?_
            have e35 := hN 1 35 (by kernel_rfl) (by kernel_rfl) (by simp)
            have f35 := hV 1 (by kernel_rfl) (by kernel_rfl)
            rw [Vp1] at f35; rw [f35] at e35; clear f35
            have e42 := hN 8 42 (by kernel_rfl) (by kernel_rfl) (by simp)
            have f42 := hV 8 (by kernel_rfl) (by kernel_rfl)
            rw [Vp8] at f42; obtain ⟨A5, c5, hv, ht⟩ := f42; rw [hv] at e42
            clear hV hN hO
            go_simp
            exact hK.out _ _ (by rw [Vp9, upd_at, upd_ne _ _ (by decide)]; exact ⟨A5, c5, rfl, hv⟩) (.inr (.inr (Below.refl _ _))) (⟨fun h => hG.1 (upL_false h), hG.2⟩)
          case s10_p1 =>
            refine oweP rfl fun a wx val L hG hi hW hV hN hO K hK => ?_
            have e4 : a.tmps[4]? = some (.pointer (some ⟨w.heap.size + 2, 0, none⟩)) := (hO 4 (by kernel_rfl)).trans (by rfl)
            have e43 := hN 9 43 (by kernel_rfl) (by kernel_rfl) (by simp)
            have f43 := hV 9 (by kernel_rfl) (by kernel_rfl)
            rw [Vp9] at f43; obtain ⟨A5, c5, hv, hu8⟩ := f43; rw [hv] at e43
            have g8 := hV 8 (by kernel_rfl) (by kernel_rfl)
            rw [Vp8] at g8
            clear hV hN hO
            obtain ⟨A8, c8, hv8, ht⟩ := g8
            obtain ⟨rfl, rfl⟩ : A5 = A8 ∧ c5 = c8 := (by rw [hu8] at hv8; injection hv8 with q1 q2 q3; exact ⟨q1, q3⟩)
            have h9 := hG.1 hi
            have hqa := HQ2b.out.on h9
            obtain ⟨v0, v1⟩ := hqa.cells
            have vf := hqa.frozen
            have hs3 := HSZ4.out
            have hbs := below_set2 hG.2 (b := w.heap.size + 2) (by omega) (.int .i64 LQ) (.slice A5 ll.length c5)
            have hts : QTold none w3.heap.size ((wx.setCell ⟨w.heap.size + 2, 0, none⟩ (.int .i64 LQ)).setCell ⟨w.heap.size + 2, 1, none⟩ (.slice A5 ll.length c5)) ll A5 c5 := ht.keep (fun ad e => by cases e) (fun k hk => far2 wx _ _ (by omega)) (by rw [World.size_setCell, World.size_setCell]; exact Nat.le_refl _)
            clear hs3
            go_simp
            exact hK.out undef _ (by rw [Vp10]; exact ⟨_, _, hqa.set LQ _ ll.length _, hts⟩) (.inr (.inl rfl)) ⟨fun h => (upL_self h).elim, hbs⟩
          case s11_p1 =>
            refine oweP rfl fun a wx val L hG hi hW hV hN hO K hK => ?_
            clear hV hN hO
            go_simp
            exact hK.out _ _ (by rw [Vp11, upd_at] <;> (congr 1 <;> omega)) (.inr (.inr (Below.refl _ _))) (⟨fun h => hG.1 (upL_false h), hG.2⟩)
          intro val wx L hG hV
          have f0 := hV 0 (by simp) (fun _ _ => by simp)
          rw [Vp0] at f0
          have f1 := hV 1 (by simp) (fun _ _ => by simp)
          rw [Vp1] at f1
          have f2 := hV 2 (by simp) (fun _ _ => by simp)
          rw [Vp2] at f2
          have f3 := hV 3 (by simp) (fun _ _ => by simp)
          rw [Vp3] at f3
          have f5 := hV 5 (by simp) (fun _ _ => by simp)
          rw [Vp5] at f5
          have f10 := hV 10 (by simp) (fun _ _ => by simp)
          rw [Vp10] at f10
          have f11 := hV 11 (by simp) (fun _ _ => by simp)
          rw [Vp11] at f11
          clear hV Vp0 Vp1 Vp2 Vp3 Vp4 Vp5 Vp6 Vp7 Vp8 Vp9 Vp10 Vp11
          simp only [putAll, Act.put, List.setIfInBounds_toArray, List.set_cons_zero, List.set_cons_succ]
          generalize val 0 = z0 at *; (subst f0)
          generalize val 1 = z1 at *; (subst f1)
          generalize val 2 = z2 at *; (subst f2)
          generalize val 3 = z3 at *; (subst f3)
          generalize val 4 = z4 at *
          generalize val 5 = z5 at *; (subst f5)
          generalize val 6 = z6 at *
          generalize val 7 = z7 at *
          generalize val 8 = z8 at *
          generalize val 9 = z9 at *
          generalize val 11 = z11 at *; (subst f11)
          clear HVD
          obtain ⟨A5, c5, hqa, ht⟩ := f10
          have hpp := HGO.out ll A5 c5 _ HPL.out HEE.out (ht.less (by have := HSZ4.out; omega)) hG.2
          have HPP := Lib.hid hpp
          have HQQ := Lib.hid hqa
          clear hpp hqa ht hG
          go_wp2_with fail
          exact bodyPost_ret (q_res Tryd.results44 HQQ.out rfl rfl) rfl HPP.out
      · have hneg : (0 : Int) ≤ ai := by have := HAN.out; simpa using this
        have HEE : Hid (PE = 42) := Lib.hid (by rw [hpe]; rfl)
        clear hpe
        go_enter Tryd.func44, Tryd.ntmps44
        go_wp2_with fail; refine (CR _ hq3).mono ?_; rintro e w1 ⟨rfl, b2⟩
        have hm1 := MsgAt.on HM3.out b2
        obtain ⟨x0, x1, x2, x3, x4, x5, x6⟩ := hm1.cells
        have HB2 := Lib.hid b2
        clear b2 CR y0 y1 u0 u1 u2 u3 u4 u5 u6 hm1
        go_wp2_with fail; refine (CM _).mono ?_; rintro e w2 ⟨rfl, b3⟩
        have HB3 := Lib.hid (HB2.out.trans (b3.mono HB2.out.size))
        clear b3 CM x0 x1 x2 x3 x4 x5 x6
        obtain ⟨x0, x1, x2, x3, x4, x5, x6⟩ := (MsgAt.on HM3.out HB3.out).cells
        obtain ⟨v0, v1⟩ := (HQ1.out.on HB3.out).cells
        have CA := HCA.out
        go_wp2_with fail; refine (CA _ (HQ3.out.on HB3.out)).mono ?_; rintro e w3 ⟨rfl, b4⟩
        have HBX := Lib.hid (HB3.out.trans (b4.mono HB3.out.size))
        clear b4 x0 x1 x2 x3 x4 x5 x6 v0 v1 CA hq3
        obtain ⟨v0, v1⟩ := (HQ1.out.on HBX.out).cells
        go_wp2_with fail; refine (HOW.out _ (HQ3.out.on HBX.out)).mono ?_; rintro e w7 ⟨A5, c5, rfl, ht5, b7⟩
        have HBY := Lib.hid (HBX.out.trans (b7.mono HBX.out.size))
        have HBZ := Lib.hid (HB.out.trans (HBY.out.mono HB.out.size))
        have HSX : Hid (w.heap.size + 3 ≤ _) := Lib.hid (by rw [HSZ.out]; exact HBX.out.size)
        have hq2 := HQ2.out.on HBY.out
        have HT7 := Lib.hid ((ht5.keep (W := (w7.setCell ⟨w.heap.size + 2, 0, none⟩ (.int .i64 LQ)).setCell ⟨w.heap.size + 2, 1, none⟩ (.slice A5 l.length c5)) (fun ad e => by cases e) (fun k hk => far2 w7 _ _ (by have := HSX.out; omega)) (by rw [World.size_setCell, World.size_setCell]; exact Nat.le_refl _)).less (S' := w.heap.size) (by have := HSX.out; omega))
        obtain ⟨z0, z1⟩ := hq2.cells
        have zf := hq2.frozen
        have HQ4 := Lib.hid (hq2.set LQ A5 l.length c5)
        have HB4 := Lib.hid (below_set2 HBZ.out (b := w.heap.size + 2) (by omega) (.int .i64 LQ) (.slice A5 l.length c5))
        clear hq2 b7 ht5 v0 v1
        go_wp2_with fail
        exact bodyPost_ret (q_res Tryd.results44 HQ4.out rfl rfl) rfl (HSA.out _ _ _ _ HEE.out (by decide) HT7.out.of HB4.out)

end Go.Proofs.YtehajmockicilaaDoor


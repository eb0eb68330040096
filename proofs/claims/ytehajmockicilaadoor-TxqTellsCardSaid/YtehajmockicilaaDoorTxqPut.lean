/-
  What Put tells: the program's side.
-/
import Derived.Test.YtehajmockicilaaDoorTxqCall
namespace Go.Proofs.YtehajmockicilaaDoor
open Go Go.RowKit

def putE (L : Int) (l : List Msg) (m : Msg) : Int := if rightQ L l = true then (if rightM m = true then (if hasN l m.number = true then 42 else if (l.length : Int) = L then 40 else 0) else 1) else 1
def putL (L : Int) (l : List Msg) (m : Msg) : List Msg := if putE L l m = 0 then insAt l (l.findIdx (lessM m)) m else l
def PutPost (L : Int) (A : Option Addr) (l : List Msg) (m : Msg) (w : World) (e : Ending) (w' : World) : Prop :=
  ∃ v, e = .returned (.tuple #[v, .int .i64 (putE L l m)]) ∧ QRes A w.heap.size w' L (putL L l m) v ∧ Below w.heap.size w w'
theorem put_same {L : Int} {A : Option Addr} {c : Nat} {l : List Msg} {m : Msg} {E : Int} {w w' : World} (h : putE L l m = E) (hE : E ≠ 0) (hq : QIn w A c l) (hb : Below w.heap.size w w') : PutPost L A l m w (.returned (.tuple #[qv L A l.length c, .int .i64 E])) w' := by
  have hl : putL L l m = l := by unfold putL; rw [h, if_neg hE]
  unfold PutPost
  rw [h, hl]
  exact ⟨_, rfl, ⟨A, c, rfl, QTold.is (hq.on hb)⟩, hb⟩
theorem put_good {L : Int} {A A' : Option Addr} {c : Nat} {l : List Msg} {m : Msg} {w w' : World} (h : putE L l m = 0) (ht : QTold A w.heap.size w' (insAt l (l.findIdx (lessM m)) m) A' c) (hb : Below w.heap.size w w') : PutPost L A l m w (.returned (.tuple #[qv L A' (insAt l (l.findIdx (lessM m)) m).length c, .int .i64 0])) w' := by
  have hl : putL L l m = insAt l (l.findIdx (lessM m)) m := by unfold putL; rw [h, if_pos rfl]
  unfold PutPost
  rw [h, hl]
  exact ⟨_, rfl, ⟨A', c, rfl, ht⟩, hb⟩

set_option maxRecDepth 100000 in
set_option maxHeartbeats 4000000 in
theorem putQ_any (LQ : Int) (A : Option Addr) (c : Nat) (l : List Msg) (m : Msg) (w : World) (LL : Laid w) (hq : QIn w A c l) (hd : m.data.size ≤ 140737488351232) :
    Calls Tryd.prog 43 #[qv LQ A l.length c, mv m] w (PutPost LQ A l m w) := by
  have q1 := QAt.new w LQ A l.length c
  have b1 := Joins.below_alloc1 w (.cells #[.int .i64 LQ, .slice A l.length c] 64)
  have q3 := MsgAt.new (w.alloc (.cells #[.int .i64 LQ, .slice A l.length c] 64)) m
  have b2 := Joins.below_alloc1 (w.alloc (.cells #[.int .i64 LQ, .slice A l.length c] 64)) (.cells (mc m) 26)
  have q2 := QAt.new ((w.alloc (.cells #[.int .i64 LQ, .slice A l.length c] 64)).alloc (.cells (mc m) 26)) 0 none 0 0
  have b3 := Joins.below_alloc1 ((w.alloc (.cells #[.int .i64 LQ, .slice A l.length c] 64)).alloc (.cells (mc m) 26)) (.cells #[.int .i64 0, .slice none 0 0] 64)
  rw [World.size_alloc] at q3
  rw [World.size_alloc, World.size_alloc] at q2
  have q1' := (q1.on b2).on b3
  have q3' := q3.on b3
  have hB := (b1.trans (b2.mono b1.size)).trans (b3.mono (Nat.le_trans b1.size b2.size))
  have hq3 := hq.on hB
  have hL3 := LL.below hB
  have hsz : w.heap.size + 3 = (((w.alloc (.cells #[.int .i64 LQ, .slice A l.length c] 64)).alloc (.cells (mc m) 26)).alloc (.cells #[.int .i64 0, .slice none 0 0] 64)).heap.size := by simp only [World.size_alloc]
  simp only [mc] at q1' q3' q2 hB hq3 hL3 hsz
  clear q1 q3 b1 b2 b3
  have HSA : Hid (∀ E w', putE LQ l m = E → E ≠ 0 → Below w.heap.size w w' → PutPost LQ A l m w (.returned (.tuple #[qv LQ A l.length c, .int .i64 E])) w') := Lib.hid (fun E w' h hE hb => put_same h hE hq hb)
  have HGO : Hid (∀ A' c' w', putE LQ l m = 0 → QTold A w.heap.size w' (insAt l (l.findIdx (lessM m)) m) A' c' → Below w.heap.size w w' → PutPost LQ A l m w (.returned (.tuple #[qv LQ A' (insAt l (l.findIdx (lessM m)) m).length c', .int .i64 0])) w') := Lib.hid (fun A' c' w' h ht hb => put_good h ht hb)
  have HLO := Lib.hid hq.low
  have hfew := hq.few
  have HD := Lib.hid hd
  have hpe : putE LQ l m = if rightQ LQ l = true then (if rightM m = true then (if hasN l m.number = true then 42 else if (l.length : Int) = LQ then 40 else 0) else 1) else 1 := rfl
  generalize putE LQ l m = PE at *
  obtain ⟨y0, y1⟩ := q1'.cells
  obtain ⟨u0, u1, u2, u3, u4, u5, u6⟩ := q3'.cells
  have HB := Lib.hid hB
  have HQ1 := Lib.hid q1'
  have HQ2 := Lib.hid q2
  have HM3 : Hid (MsgAt _ (w.heap.size + 1) m) := Lib.hid q3'
  have HSZ := Lib.hid hsz
  have CR := fun W (h1 : Laid W) (h2 : QIn W A c l) => rightQ_any LQ A c l W h1 h2
  have CM := fun W (h1 : Laid W) => rightM_any m (by unfold maxLen; omega) W h1
  have HCH : Hid (∀ W b, QIn W A c l → NumAt W b m.number → Calls Tryd.prog 67 #[.slice A l.length c, numF b] W fun e w' => e = .returned (.bool (hasN l m.number)) ∧ Below W.heap.size W w') := Lib.hid (fun W b h1 h2 => has_any b m.number A c l W h1 h2)
  have HCP : Hid (∀ W b, Laid W → QIn W A c l → MsgAt W b m → Calls Tryd.prog 70 #[.slice A l.length c, behF b] W fun e w' => e = .returned (.int .i64 (l.findIdx (lessM m))) ∧ Below W.heap.size W w') := Lib.hid (fun W b h0 h1 h2 => place_beh b m A c l W h1 h0 h2)
  have HCW : Hid (∀ W, QIn W A c l → Calls Tryd.prog 69 #[.slice A l.length c, .int .i64 (l.findIdx (lessM m) : Nat), mv m] W fun e w' => ∃ g, e = .returned (.slice (some ⟨g, 0, none⟩) (l.length + 1) (l.length + 1)) ∧ W.heap.size ≤ g ∧ BlkM w' g (insAt l (l.findIdx (lessM m)) m) ∧ Below W.heap.size W w') := Lib.hid (fun W h => with_any A c l _ m W h (find_le _ l) HD.out)
  have HIL := Lib.hid (insAt_length l (l.findIdx (lessM m)) m)
  have HQ3 := Lib.hid hq3
  have HL3 := Lib.hid hL3
  clear hq LL q1' q2 q3' hB hsz hd
  generalize rightQ LQ l = R at *
  cases R
  · have HEE : Hid (PE = 1) := Lib.hid (by rw [hpe]; rfl)
    clear hpe CM
    go_enter Tryd.func43, Tryd.ntmps43
    go_wp2_with fail; refine (CR _ hL3 hq3).mono ?_; rintro e w1 ⟨rfl, b2⟩
    have HBX := Lib.hid b2
    clear b2 CR hL3 hq3 y0 y1 u0 u1 u2 u3 u4 u5 u6
    obtain ⟨v0, v1⟩ := (HQ1.out.on HBX.out).cells
    have hq2 := HQ2.out.on HBX.out
    obtain ⟨z0, z1⟩ := hq2.cells
    have zf := hq2.frozen
    have HQ4 := Lib.hid (hq2.set LQ A l.length c)
    have HB4 := Lib.hid (below_set2 (HB.out.trans (HBX.out.mono HB.out.size)) (b := w.heap.size + 2) (by omega) (.int .i64 LQ) (.slice A l.length c))
    clear hq2
    go_wp2_with fail
    exact bodyPost_ret (q_res Tryd.results43 HQ4.out rfl rfl) rfl (HSA.out _ _ HEE.out (by decide) HB4.out)
  · generalize rightM m = RM at *
    cases RM
    · have HEE : Hid (PE = 1) := Lib.hid (by rw [hpe]; rfl)
      clear hpe
      obtain ⟨e1, n1, s1, i1, q1, k1, d1⟩ := m
      simp only [mv] at *
      go_enter Tryd.func43, Tryd.ntmps43
      go_wp2_with fail; refine (CR _ hL3 hq3).mono ?_; rintro e w1 ⟨rfl, b2⟩
      have hm1 := MsgAt.on HM3.out b2
      obtain ⟨x0, x1, x2, x3, x4, x5, x6⟩ := hm1.cells
      have hl1 := HL3.out.below b2
      have HB2 := Lib.hid b2
      clear b2 CR hL3 hq3 y0 y1 u0 u1 u2 u3 u4 u5 u6 hm1
      go_wp2_with fail; refine (CM _ hl1).mono ?_; rintro e w2 ⟨rfl, b3⟩
      have HBX := Lib.hid (HB2.out.trans (b3.mono HB2.out.size))
      clear b3 CM x0 x1 x2 x3 x4 x5 x6
      obtain ⟨v0, v1⟩ := (HQ1.out.on HBX.out).cells
      have hq2 := HQ2.out.on HBX.out
      obtain ⟨z0, z1⟩ := hq2.cells
      have zf := hq2.frozen
      have HQ4 := Lib.hid (hq2.set LQ A l.length c)
      have HB4 := Lib.hid (below_set2 (HB.out.trans (HBX.out.mono HB.out.size)) (b := w.heap.size + 2) (by omega) (.int .i64 LQ) (.slice A l.length c))
      clear hq2
      go_wp2_with fail
      exact bodyPost_ret (q_res Tryd.results43 HQ4.out rfl rfl) rfl (HSA.out _ _ HEE.out (by decide) HB4.out)
    · generalize hasN l m.number = NB at *
      obtain ⟨e1, n1, s1, i1, q1, k1, d1⟩ := m
      simp only [mv] at *
      go_enter Tryd.func43, Tryd.ntmps43
      go_wp2_with fail; refine (CR _ hL3 hq3).mono ?_; rintro e w1 ⟨rfl, b2⟩
      have hm1 := MsgAt.on HM3.out b2
      obtain ⟨x0, x1, x2, x3, x4, x5, x6⟩ := hm1.cells
      have hl1 := HL3.out.below b2
      have HB2 := Lib.hid b2
      clear b2 CR hL3 hq3 y0 y1 u0 u1 u2 u3 u4 u5 u6 hm1
      go_wp2_with fail; refine (CM _ hl1).mono ?_; rintro e w2 ⟨rfl, b3⟩
      have HB3 := Lib.hid (HB2.out.trans (b3.mono HB2.out.size))
      clear b3 CM x0 x1 x2 x3 x4 x5 x6
      have HQ1b := Lib.hid (HQ1.out.on HB3.out)
      have HM3b := Lib.hid (MsgAt.on HM3.out HB3.out)
      have HQ3b := Lib.hid (HQ3.out.on HB3.out)
      go_upto_region 3 with (fail)
      have HV : ∃ Vp : Nat → (Nat → Value) → World → Prop, Vp = (fun ix u wv => match ix with
        | 0 => u 0 = .pointer (some ⟨w.heap.size, 1, none⟩)
        | 1 => u 1 = .slice A l.length c
        | 2 => u 2 = .pointer (some ⟨w.heap.size + 1, 5, none⟩)
        | 3 => u 3 = .int .i64 k1
        | 4 => ∃ g, u 4 = numF g ∧ NumAt wv g k1
        | 5 => u 5 = .bool NB
        | _ => True) := ⟨_, rfl⟩
      obtain ⟨Vp, hVdef⟩ := HV
      have Vp0 : ∀ u wv, Vp 0 u wv = (u 0 = .pointer (some ⟨w.heap.size, 1, none⟩)) := fun u wv => by subst hVdef; rfl
      have Vp1 : ∀ u wv, Vp 1 u wv = (u 1 = .slice A l.length c) := fun u wv => by subst hVdef; rfl
      have Vp2 : ∀ u wv, Vp 2 u wv = (u 2 = .pointer (some ⟨w.heap.size + 1, 5, none⟩)) := fun u wv => by subst hVdef; rfl
      have Vp3 : ∀ u wv, Vp 3 u wv = (u 3 = .int .i64 k1) := fun u wv => by subst hVdef; rfl
      have Vp4 : ∀ u wv, Vp 4 u wv = (∃ g, u 4 = numF g ∧ NumAt wv g k1) := fun u wv => by subst hVdef; rfl
      have Vp5 : ∀ u wv, Vp 5 u wv = (u 5 = .bool NB) := fun u wv => by subst hVdef; rfl
      have HVD := Lib.hid hVdef
      clear hVdef
      refine region_phase (V := Vp) (drop := fun _ _ => false) (G := fun L wv => Below w2.heap.size w2 wv) (Rel := fun jx wv wv' => Below wv.heap.size wv wv') (by kernel_rfl) (by kernel_rfl) (Below.refl _ _).drew ?hmonop1 ?hdepp1 ⟨?s0_p1, ?s1_p1, ?s2_p1, ?s3_p1, ?s4_p1, ?s5_p1, trivial⟩ ?behindp1
      case hmonop1 =>
        intro ix jx u wv wv' hij hw hd hr
        rw [HVD.out]
        dsimp only
        split <;> intro h <;> first | exact trivial | exact h | (have hb := hr; first | (obtain ⟨g, e, hg⟩ := h; exact ⟨g, e, hg.on hr⟩))
      case hdepp1 =>
        intro ix u u' wv h1 h2
        rw [HVD.out]
        dsimp only
        split <;> intro h <;> first | exact trivial | (rw [← h1]; exact h) | exact h
      case s0_p1 =>
        refine oweP rfl fun a wx val L hG hi hW hV hN hO K hK => ?_
        have e2 : a.tmps[2]? = some (.pointer (some ⟨w.heap.size, 0, none⟩)) := (hO 2 (by kernel_rfl)).trans (by rfl)
        clear hV hN hO
        go_simp
        exact hK.out _ _ (by rw [Vp0, upd_at] <;> (congr 1 <;> omega)) (Below.refl _ _) (hG)
      case s1_p1 =>
        refine oweP rfl fun a wx val L hG hi hW hV hN hO K hK => ?_
        have e15 := hN 0 15 (by kernel_rfl) (by kernel_rfl) (by simp)
        have f15 := hV 0 (by kernel_rfl) (by kernel_rfl)
        rw [Vp0] at f15; rw [f15] at e15; clear f15
        clear hV hN hO
        obtain ⟨v0, v1⟩ := (HQ1b.out.on hG).cells
        go_simp
        exact hK.out _ _ (by rw [Vp1, upd_at] <;> (congr 1 <;> omega)) (Below.refl _ _) (hG)
      case s2_p1 =>
        refine oweP rfl fun a wx val L hG hi hW hV hN hO K hK => ?_
        have e3 : a.tmps[3]? = some (.pointer (some ⟨w.heap.size + 1, 0, none⟩)) := (hO 3 (by kernel_rfl)).trans (by rfl)
        clear hV hN hO
        go_simp
        exact hK.out _ _ (by rw [Vp2, upd_at] <;> (congr 1 <;> omega)) (Below.refl _ _) (hG)
      case s3_p1 =>
        refine oweP rfl fun a wx val L hG hi hW hV hN hO K hK => ?_
        have e17 := hN 2 17 (by kernel_rfl) (by kernel_rfl) (by simp)
        have f17 := hV 2 (by kernel_rfl) (by kernel_rfl)
        rw [Vp2] at f17; rw [f17] at e17; clear f17
        clear hV hN hO
        obtain ⟨x0, x1, x2, x3, x4, x5, x6⟩ := (MsgAt.on HM3b.out hG).cells
        go_simp
        exact hK.out _ _ (by rw [Vp3, upd_at] <;> (congr 1 <;> omega)) (Below.refl _ _) (hG)
      case s4_p1 =>
        refine oweP rfl fun a wx val L hG hi hW hV hN hO K hK => ?_
        have e18 := hN 3 18 (by kernel_rfl) (by kernel_rfl) (by simp)
        have f18 := hV 3 (by kernel_rfl) (by kernel_rfl)
        rw [Vp3] at f18; rw [f18] at e18; clear f18
        clear hV hN hO
        go_simp
        refine (ofNumber_any k1 _).mono ?_
        rintro e w11 ⟨rfl, hn, hb⟩
        exact hK.out _ _ (by rw [Vp4, upd_at]; exact ⟨_, rfl, hn⟩) hb (hG.trans (hb.mono hG.size))
      case s5_p1 =>
        refine oweP rfl fun a wx val L hG hi hW hV hN hO K hK => ?_
        have e16 := hN 1 16 (by kernel_rfl) (by kernel_rfl) (by simp)
        have f16 := hV 1 (by kernel_rfl) (by kernel_rfl)
        rw [Vp1] at f16; rw [f16] at e16; clear f16
        have e19 := hN 4 19 (by kernel_rfl) (by kernel_rfl) (by simp)
        have f19 := hV 4 (by kernel_rfl) (by kernel_rfl)
        rw [Vp4] at f19; obtain ⟨g, hv, hgg⟩ := f19; rw [hv] at e19
        clear hV hN hO
        go_simp
        refine (HCH.out _ g (HQ3b.out.on hG) hgg).mono ?_
        rintro e w11 ⟨rfl, hb⟩
        exact hK.out _ _ (by rw [Vp5, upd_at]) (hb) (hG.trans (hb.mono hG.size))
      intro val wx L hG hV
      have f0 := hV 0 (by simp) (fun _ _ => by simp)
      rw [Vp0] at f0
      have f1 := hV 1 (by simp) (fun _ _ => by simp)
      rw [Vp1] at f1
      have f2 := hV 2 (by simp) (fun _ _ => by simp)
      rw [Vp2] at f2
      have f3 := hV 3 (by simp) (fun _ _ => by simp)
      rw [Vp3] at f3
      have f4 := hV 4 (by simp) (fun _ _ => by simp)
      rw [Vp4] at f4
      have f5 := hV 5 (by simp) (fun _ _ => by simp)
      rw [Vp5] at f5
      clear hV Vp0 Vp1 Vp2 Vp3 Vp4 Vp5
      simp only [putAll, Act.put, List.setIfInBounds_toArray, List.set_cons_zero, List.set_cons_succ]
      generalize val 0 = z0 at *; (subst f0)
      generalize val 1 = z1 at *; (subst f1)
      generalize val 2 = z2 at *; (subst f2)
      generalize val 3 = z3 at *; (subst f3)
      generalize val 4 = z4 at *
      generalize val 5 = z5 at *; (subst f5)
      clear HVD
      have HBR := Lib.hid (HB3.out.trans (hG.mono HB3.out.size))
      clear hG HB3 HQ1b HM3b HQ3b f4
      cases NB
      · by_cases hlen : (l.length : Int) = LQ
        · have HEE : Hid (PE = 40) := Lib.hid (by rw [hpe, hlen]; simp)
          have hlb : ((l.length : Int) == LQ) = true := by simpa using hlen
          have HLN := Lib.hid hlen
          clear hpe hlen
          have HBX := HBR
          obtain ⟨v0, v1⟩ := (HQ1.out.on HBX.out).cells
          have hq2 := HQ2.out.on HBX.out
          obtain ⟨z0, z1⟩ := hq2.cells
          have zf := hq2.frozen
          have HQ4 := Lib.hid (hq2.set LQ A l.length c)
          have HB4 := Lib.hid (below_set2 (HB.out.trans (HBX.out.mono HB.out.size)) (b := w.heap.size + 2) (by omega) (.int .i64 LQ) (.slice A l.length c))
          clear hq2
          go_wp2_with fail
          exact bodyPost_ret (q_res Tryd.results43 HQ4.out rfl rfl) rfl (HSA.out _ _ HEE.out (by decide) HB4.out)
        · have HEE : Hid (PE = 0) := Lib.hid (by rw [hpe, if_neg hlen]; rfl)
          have hlb : ((l.length : Int) == LQ) = false := by simpa using hlen
          clear hpe hlen
          have HQ1b := Lib.hid (HQ1.out.on HBR.out)
          have HM3b := Lib.hid (MsgAt.on HM3.out HBR.out)
          have HQ3b := Lib.hid (HQ3.out.on HBR.out)
          have HL3b := Lib.hid (HL3.out.below HBR.out)
          have HQ2b := Lib.hid (HQ2.out.on HBR.out)
          have HB4 := Lib.hid (HB.out.trans (HBR.out.mono HB.out.size))
          have HSZ4 : Hid (w.heap.size + 3 ≤ wx.heap.size) := Lib.hid (by rw [HSZ.out]; exact HBR.out.size)
          obtain ⟨v0, v1⟩ := HQ1b.out.cells
          obtain ⟨ll, hll⟩ : ∃ ll, ll = insAt l (l.findIdx (lessM ⟨e1, n1, s1, i1, q1, k1, d1⟩)) ⟨e1, n1, s1, i1, q1, k1, d1⟩ := ⟨_, rfl⟩
          rw [← hll] at HGO HCW HIL
          clear hll
          generalize l.findIdx (lessM ⟨e1, n1, s1, i1, q1, k1, d1⟩) = I at *
          go_upto_region 7 with (fail)
          clear v0 v1
          have HV : ∃ Vp : Nat → (Nat → Value) → World → Prop, Vp = (fun ix u wv => match ix with
            | 0 => u 0 = .pointer (some ⟨w.heap.size, 0, none⟩)
            | 1 => u 1 = .int .i64 LQ
            | 2 => u 2 = .pointer (some ⟨w.heap.size, 1, none⟩)
            | 3 => u 3 = .slice A l.length c
            | 4 => u 4 = .pointer (some ⟨w.heap.size, 1, none⟩)
            | 5 => u 5 = .slice A l.length c
            | 6 => u 6 = .agg #[.bool e1, .int .i64 n1, .int .i64 s1, .int .i64 i1, .int .i64 q1, .int .i64 k1, .string d1]
            | 7 => ∃ g, u 7 = behF g ∧ MsgAt wv g ⟨e1, n1, s1, i1, q1, k1, d1⟩
            | 8 => u 8 = .int .i64 (I : Int)
            | 9 => u 9 = .agg #[.bool e1, .int .i64 n1, .int .i64 s1, .int .i64 i1, .int .i64 q1, .int .i64 k1, .string d1]
            | 10 => ∃ g, u 10 = .slice (some ⟨g, 0, none⟩) (l.length + 1) (l.length + 1) ∧ wx.heap.size ≤ g ∧ BlkM wv g ll
            | 11 => ∃ g, u 11 = .agg #[.int .i64 LQ, .slice (some ⟨g, 0, none⟩) (l.length + 1) (l.length + 1)] ∧ wx.heap.size ≤ g ∧ BlkM wv g ll
            | 12 => ∃ g, QAt wv (w.heap.size + 2) LQ (some ⟨g, 0, none⟩) (l.length + 1) (l.length + 1) ∧ wx.heap.size ≤ g ∧ BlkM wv g ll
            | 13 => u 13 = .int .i64 0
            | _ => True) := ⟨_, rfl⟩
          obtain ⟨Vp, hVdef⟩ := HV
          have Vp0 : ∀ u wv, Vp 0 u wv = (u 0 = .pointer (some ⟨w.heap.size, 0, none⟩)) := fun u wv => by subst hVdef; rfl
          have Vp1 : ∀ u wv, Vp 1 u wv = (u 1 = .int .i64 LQ) := fun u wv => by subst hVdef; rfl
          have Vp2 : ∀ u wv, Vp 2 u wv = (u 2 = .pointer (some ⟨w.heap.size, 1, none⟩)) := fun u wv => by subst hVdef; rfl
          have Vp3 : ∀ u wv, Vp 3 u wv = (u 3 = .slice A l.length c) := fun u wv => by subst hVdef; rfl
          have Vp4 : ∀ u wv, Vp 4 u wv = (u 4 = .pointer (some ⟨w.heap.size, 1, none⟩)) := fun u wv => by subst hVdef; rfl
          have Vp5 : ∀ u wv, Vp 5 u wv = (u 5 = .slice A l.length c) := fun u wv => by subst hVdef; rfl
          have Vp6 : ∀ u wv, Vp 6 u wv = (u 6 = .agg #[.bool e1, .int .i64 n1, .int .i64 s1, .int .i64 i1, .int .i64 q1, .int .i64 k1, .string d1]) := fun u wv => by subst hVdef; rfl
          have Vp7 : ∀ u wv, Vp 7 u wv = (∃ g, u 7 = behF g ∧ MsgAt wv g ⟨e1, n1, s1, i1, q1, k1, d1⟩) := fun u wv => by subst hVdef; rfl
          have Vp8 : ∀ u wv, Vp 8 u wv = (u 8 = .int .i64 (I : Int)) := fun u wv => by subst hVdef; rfl
          have Vp9 : ∀ u wv, Vp 9 u wv = (u 9 = .agg #[.bool e1, .int .i64 n1, .int .i64 s1, .int .i64 i1, .int .i64 q1, .int .i64 k1, .string d1]) := fun u wv => by subst hVdef; rfl
          have Vp10 : ∀ u wv, Vp 10 u wv = (∃ g, u 10 = .slice (some ⟨g, 0, none⟩) (l.length + 1) (l.length + 1) ∧ wx.heap.size ≤ g ∧ BlkM wv g ll) := fun u wv => by subst hVdef; rfl
          have Vp11 : ∀ u wv, Vp 11 u wv = (∃ g, u 11 = .agg #[.int .i64 LQ, .slice (some ⟨g, 0, none⟩) (l.length + 1) (l.length + 1)] ∧ wx.heap.size ≤ g ∧ BlkM wv g ll) := fun u wv => by subst hVdef; rfl
          have Vp12 : ∀ u wv, Vp 12 u wv = (∃ g, QAt wv (w.heap.size + 2) LQ (some ⟨g, 0, none⟩) (l.length + 1) (l.length + 1) ∧ wx.heap.size ≤ g ∧ BlkM wv g ll) := fun u wv => by subst hVdef; rfl
          have Vp13 : ∀ u wv, Vp 13 u wv = (u 13 = .int .i64 0) := fun u wv => by subst hVdef; rfl
          have HVD := Lib.hid hVdef
          clear hVdef
          refine region_phase (V := Vp) (drop := fun jx ix => (jx == 12 && ix == 7) || (jx == 12 && ix == 10) || (jx == 12 && ix == 11)) (G := fun L wv => (L 12 = false → Below wx.heap.size wx wv) ∧ Below w.heap.size w wv) (Rel := fun jx wv wv' => jx = 12 ∨ Below wv.heap.size wv wv') (by kernel_rfl) (by kernel_rfl) ⟨fun _ => (Below.refl _ _).drew, HB4.out.trans ((Below.refl _ _).drew.mono HB4.out.size)⟩ ?hmonop2 ?hdepp2 ⟨?s0_p2, ?s1_p2, ?s2_p2, ?s3_p2, ?s4_p2, ?s5_p2, ?s6_p2, ?s7_p2, ?s8_p2, ?s9_p2, ?s10_p2, ?s11_p2, ?s12_p2, ?s13_p2, trivial⟩ ?behindp2
          case hmonop2 =>
            intro ix jx u wv wv' hij hw hd hr
            rw [HVD.out]
            dsimp only
            split <;> intro h <;> first | exact trivial | exact h | (rcases hr with rfl | hb; (focus first | exact absurd rfl hij | (simp at hd; done) | (exact Bool.noConfusion (hw.symm.trans (show _ = true from by kernel_rfl)))); (first | (obtain ⟨g, e, hg⟩ := h; exact ⟨g, e, hg.on hb⟩) | (obtain ⟨g, e, hg, hm⟩ := h; exact ⟨g, e, hg, hm.on hb⟩) | (obtain ⟨g, e, hg, hm⟩ := h; exact ⟨g, e.on hb, hg, hm.on hb⟩)))
          case hdepp2 =>
            intro ix u u' wv h1 h2
            rw [HVD.out]
            dsimp only
            split <;> intro h <;> first | exact trivial | (rw [← h1]; exact h) | exact h
          case s0_p2 =>
            refine oweP rfl fun a wx val L hG hi hW hV hN hO K hK => ?_
            have e2 : a.tmps[2]? = some (.pointer (some ⟨w.heap.size, 0, none⟩)) := (hO 2 (by kernel_rfl)).trans (by rfl)
            clear hV hN hO
            go_simp
            exact hK.out _ _ (by rw [Vp0, upd_at] <;> (congr 1 <;> omega)) (.inr (Below.refl _ _)) (⟨fun h => hG.1 (upL_false h), hG.2⟩)
          case s1_p2 =>
            refine oweP rfl fun a wx val L hG hi hW hV hN hO K hK => ?_
            have e29 := hN 0 29 (by kernel_rfl) (by kernel_rfl) (by simp)
            have f29 := hV 0 (by kernel_rfl) (by kernel_rfl)
            rw [Vp0] at f29; rw [f29] at e29; clear f29
            clear hV hN hO
            obtain ⟨v0, v1⟩ := (HQ1b.out.on (hG.1 (hW 12 (by kernel_rfl)))).cells
            go_simp
            exact hK.out _ _ (by rw [Vp1, upd_at] <;> (congr 1 <;> omega)) (.inr (Below.refl _ _)) (⟨fun h => hG.1 (upL_false h), hG.2⟩)
          case s2_p2 =>
            refine oweP rfl fun a wx val L hG hi hW hV hN hO K hK => ?_
            have e2 : a.tmps[2]? = some (.pointer (some ⟨w.heap.size, 0, none⟩)) := (hO 2 (by kernel_rfl)).trans (by rfl)
            clear hV hN hO
            go_simp
            exact hK.out _ _ (by rw [Vp2, upd_at] <;> (congr 1 <;> omega)) (.inr (Below.refl _ _)) (⟨fun h => hG.1 (upL_false h), hG.2⟩)
          case s3_p2 =>
            refine oweP rfl fun a wx val L hG hi hW hV hN hO K hK => ?_
            have e31 := hN 2 31 (by kernel_rfl) (by kernel_rfl) (by simp)
            have f31 := hV 2 (by kernel_rfl) (by kernel_rfl)
            rw [Vp2] at f31; rw [f31] at e31; clear f31
            clear hV hN hO
            obtain ⟨v0, v1⟩ := (HQ1b.out.on (hG.1 (hW 12 (by kernel_rfl)))).cells
            go_simp
            exact hK.out _ _ (by rw [Vp3, upd_at] <;> (congr 1 <;> omega)) (.inr (Below.refl _ _)) (⟨fun h => hG.1 (upL_false h), hG.2⟩)
          case s4_p2 =>
            refine oweP rfl fun a wx val L hG hi hW hV hN hO K hK => ?_
            have e2 : a.tmps[2]? = some (.pointer (some ⟨w.heap.size, 0, none⟩)) := (hO 2 (by kernel_rfl)).trans (by rfl)
            clear hV hN hO
            go_simp
            exact hK.out _ _ (by rw [Vp4, upd_at] <;> (congr 1 <;> omega)) (.inr (Below.refl _ _)) (⟨fun h => hG.1 (upL_false h), hG.2⟩)
          case s5_p2 =>
            refine oweP rfl fun a wx val L hG hi hW hV hN hO K hK => ?_
            have e33 := hN 4 33 (by kernel_rfl) (by kernel_rfl) (by simp)
            have f33 := hV 4 (by kernel_rfl) (by kernel_rfl)
            rw [Vp4] at f33; rw [f33] at e33; clear f33
            clear hV hN hO
            obtain ⟨v0, v1⟩ := (HQ1b.out.on (hG.1 (hW 12 (by kernel_rfl)))).cells
            go_simp
            exact hK.out _ _ (by rw [Vp5, upd_at] <;> (congr 1 <;> omega)) (.inr (Below.refl _ _)) (⟨fun h => hG.1 (upL_false h), hG.2⟩)
          case s6_p2 =>
            refine oweP rfl fun a wx val L hG hi hW hV hN hO K hK => ?_
            have e3 : a.tmps[3]? = some (.pointer (some ⟨w.heap.size + 1, 0, none⟩)) := (hO 3 (by kernel_rfl)).trans (by rfl)
            clear hV hN hO
            obtain ⟨x0, x1, x2, x3, x4, x5, x6⟩ := (MsgAt.on HM3b.out (hG.1 (hW 12 (by kernel_rfl)))).cells
            go_simp
            exact hK.out _ _ (by rw [Vp6, upd_at] <;> (congr 1 <;> omega)) (.inr (Below.refl _ _)) (⟨fun h => hG.1 (upL_false h), hG.2⟩)
          case s7_p2 =>
            refine oweP rfl fun a wx val L hG hi hW hV hN hO K hK => ?_
            have e35 := hN 6 35 (by kernel_rfl) (by kernel_rfl) (by simp)
            have f35 := hV 6 (by kernel_rfl) (by kernel_rfl)
            rw [Vp6] at f35; rw [f35] at e35; clear f35
            clear hV hN hO
            go_simp
            refine (behind_any ⟨e1, n1, s1, i1, q1, k1, d1⟩ _).mono ?_
            rintro e w11 ⟨rfl, hn, hb⟩
            exact hK.out _ _ (by rw [Vp7, upd_at]; exact ⟨_, rfl, hn⟩) (.inr hb) (⟨fun h => (hG.1 (upL_false h)).trans (hb.mono (hG.1 (upL_false h)).size), hG.2.trans (hb.mono hG.2.size)⟩)
          case s8_p2 =>
            refine oweP rfl fun a wx val L hG hi hW hV hN hO K hK => ?_
            have e34 := hN 5 34 (by kernel_rfl) (by kernel_rfl) (by simp)
            have f34 := hV 5 (by kernel_rfl) (by kernel_rfl)
            rw [Vp5] at f34; rw [f34] at e34; clear f34
            have e36 := hN 7 36 (by kernel_rfl) (by kernel_rfl) (by simp)
            have f36 := hV 7 (by kernel_rfl) (by kernel_rfl)
            rw [Vp7] at f36; obtain ⟨g, hv, hgg⟩ := f36; rw [hv] at e36
            clear hV hN hO
            have h9 := hG.1 (hW 12 (by kernel_rfl))
            go_simp
            refine (HCP.out _ g (HL3b.out.below h9) (HQ3b.out.on h9) hgg).mono ?_
            rintro e w11 ⟨rfl, hb⟩
            exact hK.out _ _ (by rw [Vp8, upd_at]) (.inr hb) (⟨fun h => (hG.1 (upL_false h)).trans (hb.mono (hG.1 (upL_false h)).size), hG.2.trans (hb.mono hG.2.size)⟩)
          case s9_p2 =>
            refine oweP rfl fun a wx val L hG hi hW hV hN hO K hK => ?_
            have e3 : a.tmps[3]? = some (.pointer (some ⟨w.heap.size + 1, 0, none⟩)) := (hO 3 (by kernel_rfl)).trans (by rfl)
            clear hV hN hO
            obtain ⟨x0, x1, x2, x3, x4, x5, x6⟩ := (MsgAt.on HM3b.out (hG.1 (hW 12 (by kernel_rfl)))).cells
            go_simp
            exact hK.out _ _ (by rw [Vp9, upd_at] <;> (congr 1 <;> omega)) (.inr (Below.refl _ _)) (⟨fun h => hG.1 (upL_false h), hG.2⟩)
          case s10_p2 =>
            refine oweP rfl fun a wx val L hG hi hW hV hN hO K hK => ?_
            have e32 := hN 3 32 (by kernel_rfl) (by kernel_rfl) (by simp)
            have f32 := hV 3 (by kernel_rfl) (by kernel_rfl)
            rw [Vp3] at f32; rw [f32] at e32; clear f32
            have e37 := hN 8 37 (by kernel_rfl) (by kernel_rfl) (by simp)
            have f37 := hV 8 (by kernel_rfl) (by kernel_rfl)
            rw [Vp8] at f37; rw [f37] at e37; clear f37
            have e38 := hN 9 38 (by kernel_rfl) (by kernel_rfl) (by simp)
            have f38 := hV 9 (by kernel_rfl) (by kernel_rfl)
            rw [Vp9] at f38; rw [f38] at e38; clear f38
            clear hV hN hO
            have h9 := hG.1 (hW 12 (by kernel_rfl))
            go_simp
            refine (HCW.out _ (HQ3b.out.on h9)).mono ?_
            rintro e w11 ⟨g, rfl, hg9, hgg, hb⟩
            exact hK.out _ _ (by rw [Vp10, upd_at]; exact ⟨g, rfl, Nat.le_trans h9.size hg9, hgg⟩) (.inr hb) (⟨fun h => (hG.1 (upL_false h)).trans (hb.mono (hG.1 (upL_false h)).size), hG.2.trans (hb.mono hG.2.size)⟩)
          case s11_p2 =>
            refine oweP rfl fun a wx val L hG hi hW hV hN hO K hK => ?_
            have e30 := hN 1 30 (by kernel_rfl) (by kernel_rfl) (by simp)
            have f30 := hV 1 (by kernel_rfl) (by kernel_rfl)
            rw [Vp1] at f30; rw [f30] at e30; clear f30
            have e39 := hN 10 39 (by kernel_rfl) (by kernel_rfl) (by simp)
            have f39 := hV 10 (by kernel_rfl) (by kernel_rfl)
            rw [Vp10] at f39; obtain ⟨g, hv, hg9, hgg⟩ := f39; rw [hv] at e39
            clear hV hN hO
            go_simp
            exact hK.out _ _ (by rw [Vp11, upd_at]; exact ⟨g, rfl, hg9, hgg⟩) (.inr (Below.refl _ _)) (⟨fun h => hG.1 (upL_false h), hG.2⟩)
          case s12_p2 =>
            refine oweP rfl fun a wx val L hG hi hW hV hN hO K hK => ?_
            have e4 : a.tmps[4]? = some (.pointer (some ⟨w.heap.size + 2, 0, none⟩)) := (hO 4 (by kernel_rfl)).trans (by rfl)
            have e40 := hN 11 40 (by kernel_rfl) (by kernel_rfl) (by simp)
            have f40 := hV 11 (by kernel_rfl) (by kernel_rfl)
            rw [Vp11] at f40; obtain ⟨g, hv, hg9, hgg⟩ := f40; rw [hv] at e40
            clear hV hN hO
            have h9 := hG.1 hi
            have hqa := HQ2b.out.on h9
            obtain ⟨v0, v1⟩ := hqa.cells
            have vf := hqa.frozen
            have hs3 := HSZ4.out
            have hgs := blk_far2 hgg (b := w.heap.size + 2) (by omega) (.int .i64 LQ) (.slice (some ⟨g, 0, none⟩) (l.length + 1) (l.length + 1))
            have hbs := below_set2 hG.2 (b := w.heap.size + 2) (by omega) (.int .i64 LQ) (.slice (some ⟨g, 0, none⟩) (l.length + 1) (l.length + 1))
            go_simp
            exact hK.out undef _ (by rw [Vp12]; exact ⟨g, hqa.set LQ (some ⟨g, 0, none⟩) (l.length + 1) (l.length + 1), hg9, hgs⟩) (.inl rfl) ⟨fun h => (upL_self h).elim, hbs⟩
          case s13_p2 =>
            refine oweP rfl fun a wx val L hG hi hW hV hN hO K hK => ?_
            clear hV hN hO
            go_simp
            exact hK.out _ _ (by rw [Vp13, upd_at] <;> (congr 1 <;> omega)) (.inr (Below.refl _ _)) (⟨fun h => hG.1 (upL_false h), hG.2⟩)
          intro val wx L hG hV
          have f0 := hV 0 (by simp) (fun _ _ => by simp)
          rw [Vp0] at f0
          have f1 := hV 1 (by simp) (fun _ _ => by simp)
          rw [Vp1] at f1
          have f2 := hV 2 (by simp) (fun _ _ => by simp)
          rw [Vp2] at f2
          have f3 := hV 3 (by simp) (fun _ _ => by simp)
          rw [Vp3] at f3
          have f4 := hV 4 (by simp) (fun _ _ => by simp)
          rw [Vp4] at f4
          have f5 := hV 5 (by simp) (fun _ _ => by simp)
          rw [Vp5] at f5
          have f6 := hV 6 (by simp) (fun _ _ => by simp)
          rw [Vp6] at f6
          have f8 := hV 8 (by simp) (fun _ _ => by simp)
          rw [Vp8] at f8
          have f9 := hV 9 (by simp) (fun _ _ => by simp)
          rw [Vp9] at f9
          have f12 := hV 12 (by simp) (fun _ _ => by simp)
          rw [Vp12] at f12
          have f13 := hV 13 (by simp) (fun _ _ => by simp)
          rw [Vp13] at f13
          clear hV Vp0 Vp1 Vp2 Vp3 Vp4 Vp5 Vp6 Vp7 Vp8 Vp9 Vp10 Vp11 Vp12 Vp13
          simp only [putAll, Act.put, List.setIfInBounds_toArray, List.set_cons_zero, List.set_cons_succ]
          generalize val 0 = z0 at *; (subst f0)
          generalize val 1 = z1 at *; (subst f1)
          generalize val 2 = z2 at *; (subst f2)
          generalize val 3 = z3 at *; (subst f3)
          generalize val 4 = z4 at *; (subst f4)
          generalize val 5 = z5 at *; (subst f5)
          generalize val 6 = z6 at *; (subst f6)
          generalize val 7 = z7 at *
          generalize val 8 = z8 at *; (subst f8)
          generalize val 9 = z9 at *; (subst f9)
          generalize val 10 = z10 at *
          generalize val 11 = z11 at *
          generalize val 13 = z13 at *; (subst f13)
          clear HVD
          obtain ⟨g, hqa, hg9, hgg⟩ := f12
          have hpp := HGO.out (some ⟨g, 0, none⟩) (l.length + 1) _ HEE.out ⟨by rw [HIL.out]; exact Nat.le_refl _, hgg.msgs, fun ad e => (by cases e; exact hgg.lt), .inr fun ad e => (by cases e; exact Nat.le_trans (by have := HSZ4.out; omega) hg9)⟩ hG.2
          rw [HIL.out] at hpp
          have HPP := Lib.hid hpp
          have HQQ := Lib.hid hqa
          clear hpp hqa hgg hG
          go_wp2_with fail
          exact bodyPost_ret (q_res Tryd.results43 HQQ.out rfl rfl) rfl HPP.out
      · have HEE : Hid (PE = 42) := Lib.hid (by rw [hpe]; rfl)
        clear hpe
        have HBX := HBR
        obtain ⟨v0, v1⟩ := (HQ1.out.on HBX.out).cells
        have hq2 := HQ2.out.on HBX.out
        obtain ⟨z0, z1⟩ := hq2.cells
        have zf := hq2.frozen
        have HQ4 := Lib.hid (hq2.set LQ A l.length c)
        have HB4 := Lib.hid (below_set2 (HB.out.trans (HBX.out.mono HB.out.size)) (b := w.heap.size + 2) (by omega) (.int .i64 LQ) (.slice A l.length c))
        clear hq2
        go_wp2_with fail
        exact bodyPost_ret (q_res Tryd.results43 HQ4.out rfl rfl) rfl (HSA.out _ _ HEE.out (by decide) HB4.out)

end Go.Proofs.YtehajmockicilaaDoor


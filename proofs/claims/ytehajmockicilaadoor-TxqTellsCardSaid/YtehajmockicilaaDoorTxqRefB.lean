/-
  What the document's Own, at, without, First, Take and Abort tell.
-/
import Derived.Test.YtehajmockicilaaDoorTxqPut
namespace Go.Proofs.YtehajmockicilaaDoor
open Go Go.RowKit

theorem qo_res {fn : Func} {i : Nat} (hr : fn.results = #[.cell i 64]) {Y : World} {b : Nat} {L : Int} {A : Option Addr} {n c : Nat} {T : Array Value} (h : QAt Y b L A n c) (ht : T[i]? = some (.pointer (some ⟨b, 0, none⟩))) :
    (results fn T).run Tryd.prog Y = .ok (qv L A n c) Y := by
  obtain ⟨h0, h1⟩ := h.cells
  simp [results, hr, go_sem, h0, h1, ht]
theorem QTold.of {A0 : Option Addr} {S : Nat} {w : World} {l : List Msg} {A : Option Addr} {c : Nat} (h : QTold none S w l A c) : QTold A0 S w l A c :=
  ⟨h.cap, h.msgs, h.low, .inr fun ad e => by
    rcases h.fresh with h1 | h1
    · rw [h1] at e; cases e
    · exact h1 ad e⟩
def OwnPost (L : Int) (l : List Msg) (w : World) (e : Ending) (w' : World) : Prop := ∃ A c, e = .returned (qv L A l.length c) ∧ QTold none w.heap.size w' l A c ∧ Below w.heap.size w w'

set_option maxRecDepth 100000 in
set_option maxHeartbeats 2000000 in
theorem ownQ_any (LQ : Int) (A : Option Addr) (c : Nat) (l : List Msg) (w : World) (hq : QIn w A c l) :
    Calls Tryd.prog 34 #[qv LQ A l.length c] w (OwnPost LQ l w) := by
  have hfew := hq.few
  have q1 := QAt.new w LQ A l.length c
  have b1 := Joins.below_alloc1 w (.cells #[.int .i64 LQ, .slice A l.length c] 64)
  have q2 := QAt.new (w.alloc (.cells #[.int .i64 LQ, .slice A l.length c] 64)) 0 none 0 0
  have b2 := Joins.below_alloc1 (w.alloc (.cells #[.int .i64 LQ, .slice A l.length c] 64)) (.cells #[.int .i64 0, .slice none 0 0] 64)
  rw [World.size_alloc] at q2
  have q1' := q1.on b2
  have hB := b1.trans (b2.mono b1.size)
  have hsz : ((w.alloc (.cells #[.int .i64 LQ, .slice A l.length c] 64)).alloc (.cells #[.int .i64 0, .slice none 0 0] 64)).heap.size = w.heap.size + 2 := by simp only [World.size_alloc]
  have hq2 := hq.on hB
  clear q1 b1 b2
  have HQ2 := Lib.hid q2
  have HQ1 := Lib.hid q1'
  have HB := Lib.hid hB
  have HQ := Lib.hid hq2
  have HSZ := Lib.hid hsz
  clear hq q1' q2 hB hq2 hsz
  go_enter Tryd.func34, Tryd.ntmps34
  go_upto_region 1 with (fail)
  generalize (w.alloc (.cells #[.int .i64 LQ, .slice A l.length c] 64)).alloc (.cells #[.int .i64 0, .slice none 0 0] 64) = X at *
  have HV : ∃ Vp : Nat → (Nat → Value) → World → Prop, Vp = (fun ix u wv => match ix with
    | 0 => u 0 = .pointer (some ⟨w.heap.size, 0, none⟩)
    | 1 => u 1 = .int .i64 LQ
    | 2 => u 2 = .pointer (some ⟨w.heap.size, 1, none⟩)
    | 3 => u 3 = .slice A l.length c
    | 4 => ∃ A5 c5, u 4 = .slice A5 l.length c5 ∧ QTold none X.heap.size wv l A5 c5
    | 5 => ∃ A5 c5, u 5 = .agg #[.int .i64 LQ, .slice A5 l.length c5] ∧ QTold none X.heap.size wv l A5 c5
    | 6 => ∃ A5 c5, QAt wv (w.heap.size + 1) LQ A5 l.length c5 ∧ QTold none X.heap.size wv l A5 c5
    | _ => True) := ⟨_, rfl⟩
  obtain ⟨Vp, hVdef⟩ := HV
  have Vp0 : ∀ u wv, Vp 0 u wv = (u 0 = .pointer (some ⟨w.heap.size, 0, none⟩)) := fun u wv => by subst hVdef; rfl
  have Vp1 : ∀ u wv, Vp 1 u wv = (u 1 = .int .i64 LQ) := fun u wv => by subst hVdef; rfl
  have Vp2 : ∀ u wv, Vp 2 u wv = (u 2 = .pointer (some ⟨w.heap.size, 1, none⟩)) := fun u wv => by subst hVdef; rfl
  have Vp3 : ∀ u wv, Vp 3 u wv = (u 3 = .slice A l.length c) := fun u wv => by subst hVdef; rfl
  have Vp4 : ∀ u wv, Vp 4 u wv = (∃ A5 c5, u 4 = .slice A5 l.length c5 ∧ QTold none X.heap.size wv l A5 c5) := fun u wv => by subst hVdef; rfl
  have Vp5 : ∀ u wv, Vp 5 u wv = (∃ A5 c5, u 5 = .agg #[.int .i64 LQ, .slice A5 l.length c5] ∧ QTold none X.heap.size wv l A5 c5) := fun u wv => by subst hVdef; rfl
  have Vp6 : ∀ u wv, Vp 6 u wv = (∃ A5 c5, QAt wv (w.heap.size + 1) LQ A5 l.length c5 ∧ QTold none X.heap.size wv l A5 c5) := fun u wv => by subst hVdef; rfl
  have HVD := Lib.hid hVdef
  clear hVdef
  refine region_phase (V := Vp) (drop := fun jx ix => (jx == 6 && ix == 4) || (jx == 6 && ix == 5)) (G := fun L wv => (L 6 = false → Below X.heap.size X wv) ∧ Below w.heap.size w wv) (Rel := fun jx wv wv' => jx = 6 ∨ Below wv.heap.size wv wv') (by kernel_rfl) (by kernel_rfl) ⟨fun _ => (Below.refl _ _).drew, HB.out.trans ((Below.refl _ _).drew.mono HB.out.size)⟩ ?hmonop1 ?hdepp1 ⟨?s0_p1, ?s1_p1, ?s2_p1, ?s3_p1, ?s4_p1, ?s5_p1, ?s6_p1, trivial⟩ ?behindp1
  case hmonop1 =>
    intro ix jx u wv wv' hij hw hd hr
    rw [HVD.out]
    dsimp only
    split <;> intro h <;> first | exact trivial | exact h | (rcases hr with rfl | hb; (focus first | exact absurd rfl hij | (simp at hd; done) | (exact Bool.noConfusion (hw.symm.trans (show _ = true from by kernel_rfl)))); (first | (obtain ⟨A5, c5, e, ht⟩ := h; exact ⟨A5, c5, e, ht.on hb⟩) | (obtain ⟨A5, c5, e, ht⟩ := h; exact ⟨A5, c5, e.on hb, ht.on hb⟩)))
  case hdepp1 =>
    intro ix u u' wv h1 h2
    rw [HVD.out]
    dsimp only
    split <;> intro h <;> first | exact trivial | (rw [← h1]; exact h) | exact h
  case s0_p1 =>
    refine oweP rfl fun a wx val L hG hi hW hV hN hO K hK => ?_
    have e1 : a.tmps[1]? = some (.pointer (some ⟨w.heap.size, 0, none⟩)) := (hO 1 (by kernel_rfl)).trans (by rfl)
    clear hV hN hO
    go_simp
    exact hK.out _ _ (by rw [Vp0, upd_at] <;> (congr 1 <;> omega)) (.inr (Below.refl _ _)) (⟨fun h => hG.1 (upL_false h), hG.2⟩)
  case s1_p1 =>
    refine oweP rfl fun a wx val L hG hi hW hV hN hO K hK => ?_
    have e3 := hN 0 3 (by kernel_rfl) (by kernel_rfl) (by simp)
    have f3 := hV 0 (by kernel_rfl) (by kernel_rfl)
    rw [Vp0] at f3; rw [f3] at e3; clear f3
    clear hV hN hO
    obtain ⟨v0, v1⟩ := (HQ1.out.on (hG.1 (hW 6 (by kernel_rfl)))).cells
    go_simp
    exact hK.out _ _ (by rw [Vp1, upd_at] <;> (congr 1 <;> omega)) (.inr (Below.refl _ _)) (⟨fun h => hG.1 (upL_false h), hG.2⟩)
  case s2_p1 =>
    refine oweP rfl fun a wx val L hG hi hW hV hN hO K hK => ?_
    have e1 : a.tmps[1]? = some (.pointer (some ⟨w.heap.size, 0, none⟩)) := (hO 1 (by kernel_rfl)).trans (by rfl)
    clear hV hN hO
    go_simp
    exact hK.out _ _ (by rw [Vp2, upd_at] <;> (congr 1 <;> omega)) (.inr (Below.refl _ _)) (⟨fun h => hG.1 (upL_false h), hG.2⟩)
  case s3_p1 =>
    refine oweP rfl fun a wx val L hG hi hW hV hN hO K hK => ?_
    have e5 := hN 2 5 (by kernel_rfl) (by kernel_rfl) (by simp)
    have f5 := hV 2 (by kernel_rfl) (by kernel_rfl)
    rw [Vp2] at f5; rw [f5] at e5; clear f5
    clear hV hN hO
    obtain ⟨v0, v1⟩ := (HQ1.out.on (hG.1 (hW 6 (by kernel_rfl)))).cells
    go_simp
    exact hK.out _ _ (by rw [Vp3, upd_at] <;> (congr 1 <;> omega)) (.inr (Below.refl _ _)) (⟨fun h => hG.1 (upL_false h), hG.2⟩)
  case s4_p1 =>
    refine oweP rfl fun a wx val L hG hi hW hV hN hO K hK => ?_
    have e6 := hN 3 6 (by kernel_rfl) (by kernel_rfl) (by simp)
    have f6 := hV 3 (by kernel_rfl) (by kernel_rfl)
    rw [Vp3] at f6; rw [f6] at e6; clear f6
    clear hV hN hO
    have h9 := hG.1 (hW 6 (by kernel_rfl))
    refine wp_appM (.const (.slice none 0 0)) (.tmp 6) rfl wx.heap.size wx.heap.size _ [] l A c rfl (by simp [Act.eval, e6]) (OwnM.nil _ _) (HQ.out.on h9).msgs (Nat.le_refl _) (by simp; omega) ?_
    intro u' w5 hown5 hg5
    obtain ⟨A5, c5, rfl, ht5⟩ := QTold.own (A0 := none) (show OwnM w5 wx.heap.size u' l from hown5)
    have hb := OwnM.below (OwnM.nil wx wx.heap.size) hg5 (Nat.le_refl _)
    exact hK.out _ _ (by rw [Vp4, upd_at]; exact ⟨A5, c5, rfl, ht5.less h9.size⟩) (.inr hb) (⟨fun h => (hG.1 (upL_false h)).trans (hb.mono (hG.1 (upL_false h)).size), hG.2.trans (hb.mono hG.2.size)⟩)
  case s5_p1 =>
    refine oweP rfl fun a wx val L hG hi hW hV hN hO K hK => ?_
    have e4 := hN 1 4 (by kernel_rfl) (by kernel_rfl) (by simp)
    have f4 := hV 1 (by kernel_rfl) (by kernel_rfl)
    rw [Vp1] at f4; rw [f4] at e4; clear f4
    have e7 := hN 4 7 (by kernel_rfl) (by kernel_rfl) (by simp)
    have f7 := hV 4 (by kernel_rfl) (by kernel_rfl)
    rw [Vp4] at f7; obtain ⟨A5, c5, hv, ht⟩ := f7; rw [hv] at e7
    clear hV hN hO
    go_simp
    exact hK.out _ _ (by rw [Vp5, upd_at]; exact ⟨A5, c5, rfl, ht⟩) (.inr (Below.refl _ _)) (⟨fun h => hG.1 (upL_false h), hG.2⟩)
  case s6_p1 =>
    refine oweP rfl fun a wx val L hG hi hW hV hN hO K hK => ?_
    have e2 : a.tmps[2]? = some (.pointer (some ⟨w.heap.size + 1, 0, none⟩)) := (hO 2 (by kernel_rfl)).trans (by rfl)
    have e8 := hN 5 8 (by kernel_rfl) (by kernel_rfl) (by simp)
    have f8 := hV 5 (by kernel_rfl) (by kernel_rfl)
    rw [Vp5] at f8; obtain ⟨A5, c5, hv, ht⟩ := f8; rw [hv] at e8
    clear hV hN hO
    have h9 := hG.1 hi
    have hqa := HQ2.out.on h9
    obtain ⟨v0, v1⟩ := hqa.cells
    have vf := hqa.frozen
    have hs3 := HSZ.out
    have hbs := below_set2 hG.2 (b := w.heap.size + 1) (by omega) (.int .i64 LQ) (.slice A5 l.length c5)
    have hts : QTold none X.heap.size ((wx.setCell ⟨w.heap.size + 1, 0, none⟩ (.int .i64 LQ)).setCell ⟨w.heap.size + 1, 1, none⟩ (.slice A5 l.length c5)) l A5 c5 := ht.keep (fun ad e => by cases e) (fun k hk => far2 wx _ _ (by rw [hs3] at hk; omega)) (by rw [World.size_setCell, World.size_setCell]; exact Nat.le_refl _)
    clear hs3
    go_simp
    exact hK.out undef _ (by rw [Vp6]; exact ⟨A5, c5, hqa.set LQ A5 l.length c5, hts⟩) (.inl rfl) ⟨fun h => (upL_self h).elim, hbs⟩
  intro val wx L hG hV
  have f0 := hV 0 (by simp) (fun _ _ => by simp)
  rw [Vp0] at f0
  have f1 := hV 1 (by simp) (fun _ _ => by simp)
  rw [Vp1] at f1
  have f2 := hV 2 (by simp) (fun _ _ => by simp)
  rw [Vp2] at f2
  have f3 := hV 3 (by simp) (fun _ _ => by simp)
  rw [Vp3] at f3
  have f6 := hV 6 (by simp) (fun _ _ => by simp)
  rw [Vp6] at f6
  clear hV Vp0 Vp1 Vp2 Vp3 Vp4 Vp5 Vp6
  simp only [putAll, Act.put, List.setIfInBounds_toArray, List.set_cons_zero, List.set_cons_succ]
  generalize val 0 = z0 at *; (subst f0)
  generalize val 1 = z1 at *; (subst f1)
  generalize val 2 = z2 at *; (subst f2)
  generalize val 3 = z3 at *; (subst f3)
  generalize val 4 = z4 at *
  generalize val 5 = z5 at *
  clear HVD
  obtain ⟨A5, c5, hqa, ht⟩ := f6
  have HPP : Hid (OwnPost LQ l w (.returned (qv LQ A5 l.length c5)) wx) := Lib.hid ⟨_, _, rfl, ht.less (by rw [HSZ.out]; omega), hG.2⟩
  have HQQ := Lib.hid hqa
  clear hqa ht hG
  go_wp2_with fail
  exact bodyPost_ret (qo_res Tryd.results34 HQQ.out rfl) rfl HPP.out

/-! ## Where a number is -/
def atI (l : List Msg) (n : Int) : Int := if l.findIdx (isNum n) < l.length then (l.findIdx (isNum n) : Int) else -1
set_option maxRecDepth 100000 in
set_option maxHeartbeats 2000000 in
theorem at_any (LQ : Int) (A : Option Addr) (c : Nat) (l : List Msg) (n : Int) (w : World) (hq : QIn w A c l) :
    Calls Tryd.prog 72 #[qv LQ A l.length c, .int .i64 n] w fun e w' => e = .returned (.int .i64 (atI l n)) ∧ Below w.heap.size w w' := by
  obtain ⟨R, hR⟩ : ∃ R, R = atI l n := ⟨_, rfl⟩
  have HS : Hid (∀ (k : Nat) m, (∀ (j : Nat) x, j < k → l[j]? = some x → isNum n x = false) → l[k]? = some m → isNum n m = true → R = (k : Int)) := Lib.hid (fun k m h1 h2 h3 => by
    have h := find_stop h1 h2 h3
    have hk := (List.getElem?_eq_some_iff.1 h2).1
    rw [hR]; unfold atI; rw [h, if_pos hk])
  have HE : Hid ((∀ (j : Nat) x, j < l.length → l[j]? = some x → isNum n x = false) → R = -1) := Lib.hid (fun h => by
    have h := find_none h
    rw [hR]; unfold atI; rw [h, if_neg (by omega)])
  rw [← hR]
  clear hR
  have hfew := hq.few
  have q1 := QAt.new w LQ A l.length c
  have b1 := Joins.below_alloc1 w (.cells #[.int .i64 LQ, .slice A l.length c] 64)
  have HQ := Lib.hid (hq.on b1)
  have HB := Lib.hid b1
  have HQA := Lib.hid q1
  obtain ⟨y0, y1⟩ := q1.cells
  clear hq q1 b1
  go_enter Tryd.func72, Tryd.ntmps72
  go_wp2_with fail
  generalize w.alloc (.cells #[.int .i64 LQ, .slice A l.length c] 64) = W at *
  go_loopw [5] (fun i wr => ∃ k : Nat, k ≤ l.length ∧ i = .int .i64 k ∧ (∀ (j : Nat) x, j < k → l[j]? = some x → isNum n x = false) ∧ ∃ d, wr = W.drewN d) (fun i _ => l.length - (intOf i).toNat)
  case atStart => exact ⟨0, by omega, rfl, fun j x hj => by omega, 0, rfl⟩
  case round =>
    obtain ⟨k, hk, rfl, hno, d, rfl⟩ := hrel
    have HNO := Lib.hid hno; clear hno
    by_cases hlt : k < l.length
    · have hltI : (k : Int) < (l.length : Int) := by omega
      obtain ⟨m, hm⟩ : ∃ m, l[k]? = some m := ⟨_, List.getElem?_eq_getElem hlt⟩
      obtain ⟨ad, rfl, hat⟩ := HQ.out.at hm
      have HN := Lib.hid (find_more HNO.out hm)
      have HSS := Lib.hid (HS.out k m HNO.out hm)
      clear hm
      have HPD : Hid (isNum n m = (m.number == n)) := Lib.hid rfl
      obtain ⟨e1, n1, s1, i1, q1, k1, d1⟩ := m
      obtain ⟨x0, x1, x2, x3, x4, x5, x6⟩ := hat
      simp only at x0 x1 x2 x3 x4 x5 x6
      by_cases hkk : k1 = n
      · have hkb : ((k1 : Int) == n) = true := by simpa using hkk
        have HKK := Lib.hid hkb
        clear hkk
        go_wp2_with fail
        go_ret
        exact ⟨ret_i (by rw [HSS.out (by rw [HPD.out]; exact HKK.out)]), below_drewN HB.out d⟩
      · have hkb : ((k1 : Int) == n) = false := by simpa using hkk
        have HKK := Lib.hid hkb
        clear hkk
        go_wp2_with fail
        go_roundw
        case rel => exact ⟨k + 1, by omega, by go_num, HN.out (by rw [HPD.out]; exact HKK.out), d, rfl⟩
        case measure => simp [intOf]; omega
    · have hltI : ¬ (k : Int) < (l.length : Int) := by omega
      have hkl : k = l.length := by omega
      have HKL := Lib.hid hkl; clear hkl
      go_wp2
      go_ret
      exact ⟨ret_i (by rw [HE.out (by have h := HNO.out; rw [HKL.out] at h; exact h)]), below_drewN HB.out d⟩

end Go.Proofs.YtehajmockicilaaDoor

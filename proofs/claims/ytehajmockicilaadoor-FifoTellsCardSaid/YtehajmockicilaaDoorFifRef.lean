/-
  What the document's Own, Take, Lost and Offer tell of fifos.
-/
import Derived.Test.YtehajmockicilaaDoorFifRight
import Derived.Test.YtehajmockicilaaDoorIdentRefAny
import Derived.Test.YtehajmockicilaaDoorOncePhase
namespace Go.Proofs.YtehajmockicilaaDoor
open Go Go.RowKit

theorem fio_res {fn : Func} {i : Nat} (hr : fn.results = #[.cell i 30]) {Y : World} {b : Nat} {L T0 : Int} {A : Option Addr} {n c : Nat} {T : Array Value} (h : FiAt Y b L T0 A n c) (ht : T[i]? = some (.pointer (some ⟨b, 0, none⟩))) :
    (results fn T).run Tryd.prog Y = .ok (fiv L T0 A n c) Y := by
  obtain ⟨h0, h1, h2⟩ := h.cells
  simp [results, hr, go_sem, h0, h1, h2, ht]
theorem fii_res {fn : Func} {i j k : Nat} (hr : fn.results = #[.cell i 30, .tmp j, .tmp k]) {Y : World} {b : Nat} {L T0 H E : Int} {A : Option Addr} {n c : Nat} {T : Array Value} (h : FiAt Y b L T0 A n c) (ht : T[i]? = some (.pointer (some ⟨b, 0, none⟩))) (hj : T[j]? = some (.int .i64 H)) (hk : T[k]? = some (.int .i64 E)) :
    (results fn T).run Tryd.prog Y = .ok (.tuple #[fiv L T0 A n c, .int .i64 H, .int .i64 E]) Y := by
  obtain ⟨h0, h1, h2⟩ := h.cells
  simp [results, hr, go_sem, h0, h1, h2, ht, hj, hk]
theorem fim_res {fn : Func} {i j k : Nat} (hr : fn.results = #[.cell i 30, .cell j 26, .tmp k]) {Y : World} {b d : Nat} {L T0 E : Int} {A : Option Addr} {n c : Nat} {m : Msg} {T : Array Value} (h : FiAt Y b L T0 A n c) (h' : MsgAt Y d m) (ht : T[i]? = some (.pointer (some ⟨b, 0, none⟩))) (hj : T[j]? = some (.pointer (some ⟨d, 0, none⟩))) (hk : T[k]? = some (.int .i64 E)) :
    (results fn T).run Tryd.prog Y = .ok (.tuple #[fiv L T0 A n c, mv m, .int .i64 E]) Y := by
  obtain ⟨h0, h1, h2⟩ := h.cells
  obtain ⟨g0, g1, g2, g3, g4, g5, g6⟩ := h'.cells
  simp [results, hr, go_sem, h0, h1, h2, g0, g1, g2, g3, g4, g5, g6, ht, hj, hk]
theorem QTold.any {A0 : Option Addr} {S : Nat} {w : World} {l : List Msg} {A : Option Addr} {c : Nat} (h : QTold none S w l A c) : QTold A0 S w l A c :=
  ⟨h.cap, h.msgs, h.low, .inr fun ad e => by
    rcases h.fresh with h1 | h1
    · rw [h1] at e; cases e
    · exact h1 ad e⟩
def FiOwnPost (L T : Int) (l : List Msg) (w : World) (e : Ending) (w' : World) : Prop := ∃ A c, e = .returned (fiv L T A l.length c) ∧ OwnM w' w.heap.size (.slice A l.length c) l ∧ Below w.heap.size w w'

set_option maxRecDepth 100000 in
set_option maxHeartbeats 2000000 in
theorem fiOwn_any (LQ T : Int) (A : Option Addr) (c : Nat) (l : List Msg) (w : World) (hq : QIn w A c l) :
    Calls Tryd.prog 15 #[fiv LQ T A l.length c] w (FiOwnPost LQ T l w) := by
  have hfew := hq.few
  have q1 := FiAt.new w LQ T A l.length c
  have b1 := Joins.below_alloc1 w (.cells #[.int .i64 LQ, .int .i64 T, .slice A l.length c] 30)
  have q2 := FiAt.new (w.alloc (.cells #[.int .i64 LQ, .int .i64 T, .slice A l.length c] 30)) 0 0 none 0 0
  have b2 := Joins.below_alloc1 (w.alloc (.cells #[.int .i64 LQ, .int .i64 T, .slice A l.length c] 30)) (.cells #[.int .i64 0, .int .i64 0, .slice none 0 0] 30)
  rw [World.size_alloc] at q2
  have q1' := q1.on b2
  have hB := b1.trans (b2.mono b1.size)
  have hsz : ((w.alloc (.cells #[.int .i64 LQ, .int .i64 T, .slice A l.length c] 30)).alloc (.cells #[.int .i64 0, .int .i64 0, .slice none 0 0] 30)).heap.size = w.heap.size + 2 := by simp only [World.size_alloc]
  have hq2 := hq.on hB
  clear q1 b1 b2
  have HQ2 := Lib.hid q2
  have HQ1 := Lib.hid q1'
  have HB := Lib.hid hB
  have HQ := Lib.hid hq2
  have HSZ := Lib.hid hsz
  clear hq q1' q2 hB hq2 hsz
  go_enter Tryd.func15, Tryd.ntmps15
  go_upto_region 1 with (fail)
  generalize (w.alloc (.cells #[.int .i64 LQ, .int .i64 T, .slice A l.length c] 30)).alloc (.cells #[.int .i64 0, .int .i64 0, .slice none 0 0] 30) = X at *
  have HV : ∃ Vp : Nat → (Nat → Value) → World → Prop, Vp = (fun ix u wv => match ix with
    | 0 => u 0 = .pointer (some ⟨w.heap.size, 0, none⟩)
    | 1 => u 1 = .int .i64 LQ
    | 2 => u 2 = .pointer (some ⟨w.heap.size, 1, none⟩)
    | 3 => u 3 = .int .i64 T
    | 4 => u 4 = .pointer (some ⟨w.heap.size, 2, none⟩)
    | 5 => u 5 = .slice A l.length c
    | 6 => ∃ A5 c5, u 6 = .slice A5 l.length c5 ∧ OwnM wv X.heap.size (.slice A5 l.length c5) l
    | 7 => ∃ A5 c5, u 7 = .agg #[.int .i64 LQ, .int .i64 T, .slice A5 l.length c5] ∧ OwnM wv X.heap.size (.slice A5 l.length c5) l
    | 8 => ∃ A5 c5, FiAt wv (w.heap.size + 1) LQ T A5 l.length c5 ∧ OwnM wv X.heap.size (.slice A5 l.length c5) l
    | _ => True) := ⟨_, rfl⟩
  obtain ⟨Vp, hVdef⟩ := HV
  have Vp0 : ∀ u wv, Vp 0 u wv = (u 0 = .pointer (some ⟨w.heap.size, 0, none⟩)) := fun u wv => by subst hVdef; rfl
  have Vp1 : ∀ u wv, Vp 1 u wv = (u 1 = .int .i64 LQ) := fun u wv => by subst hVdef; rfl
  have Vp2 : ∀ u wv, Vp 2 u wv = (u 2 = .pointer (some ⟨w.heap.size, 1, none⟩)) := fun u wv => by subst hVdef; rfl
  have Vp3 : ∀ u wv, Vp 3 u wv = (u 3 = .int .i64 T) := fun u wv => by subst hVdef; rfl
  have Vp4 : ∀ u wv, Vp 4 u wv = (u 4 = .pointer (some ⟨w.heap.size, 2, none⟩)) := fun u wv => by subst hVdef; rfl
  have Vp5 : ∀ u wv, Vp 5 u wv = (u 5 = .slice A l.length c) := fun u wv => by subst hVdef; rfl
  have Vp6 : ∀ u wv, Vp 6 u wv = (∃ A5 c5, u 6 = .slice A5 l.length c5 ∧ OwnM wv X.heap.size (.slice A5 l.length c5) l) := fun u wv => by subst hVdef; rfl
  have Vp7 : ∀ u wv, Vp 7 u wv = (∃ A5 c5, u 7 = .agg #[.int .i64 LQ, .int .i64 T, .slice A5 l.length c5] ∧ OwnM wv X.heap.size (.slice A5 l.length c5) l) := fun u wv => by subst hVdef; rfl
  have Vp8 : ∀ u wv, Vp 8 u wv = (∃ A5 c5, FiAt wv (w.heap.size + 1) LQ T A5 l.length c5 ∧ OwnM wv X.heap.size (.slice A5 l.length c5) l) := fun u wv => by subst hVdef; rfl
  have HVD := Lib.hid hVdef
  clear hVdef
  refine region_phase (V := Vp) (drop := fun jx ix => (jx == 8 && ix == 6) || (jx == 8 && ix == 7)) (G := fun L wv => (L 8 = false → Below X.heap.size X wv) ∧ Below w.heap.size w wv) (Rel := fun jx wv wv' => jx = 8 ∨ Below wv.heap.size wv wv') (by kernel_rfl) (by kernel_rfl) ⟨fun _ => (Below.refl _ _).drew, HB.out.trans ((Below.refl _ _).drew.mono HB.out.size)⟩ ?hmonop1 ?hdepp1 ⟨?s0_p1, ?s1_p1, ?s2_p1, ?s3_p1, ?s4_p1, ?s5_p1, ?s6_p1, ?s7_p1, ?s8_p1, trivial⟩ ?behindp1
  case hmonop1 =>
    intro ix jx u wv wv' hij hw hd hr
    rw [HVD.out]
    dsimp only
    split <;> intro h <;> first | exact trivial | exact h | (rcases hr with rfl | hb; (focus first | exact absurd rfl hij | (simp at hd; done) | (exact Bool.noConfusion (hw.symm.trans (show _ = true from by kernel_rfl)))); (first | (obtain ⟨A5, c5, e, ht⟩ := h; exact ⟨A5, c5, e, ht.on hb⟩) | (obtain ⟨A5, c5, e, ht⟩ := h; exact ⟨A5, c5, e.on hb, ht.on hb⟩)))
  case hdepp1 =>
    intro ix u u' wv h1 h2
    rw [HVD.out]
    dsimp only
    split <;> intro h <;> first | exact trivial | (rw [← h1]; exact h) | exact h
  case s0_p1 =>
    refine oweP rfl fun a wx val L hG hi hW hV hN hO K hK => ?_
    have e1 : a.tmps[1]? = some (.pointer (some ⟨w.heap.size, 0, none⟩)) := (hO 1 (by kernel_rfl)).trans (by rfl)
    clear hV hN hO
    go_simp
    exact hK.out _ _ (by rw [Vp0, upd_at] <;> (congr 1 <;> omega)) (.inr (Below.refl _ _)) (⟨fun h => hG.1 (upL_false h), hG.2⟩)
  case s1_p1 =>
    refine oweP rfl fun a wx val L hG hi hW hV hN hO K hK => ?_
    have e3 := hN 0 3 (by kernel_rfl) (by kernel_rfl) (by simp)
    have f3 := hV 0 (by kernel_rfl) (by kernel_rfl)
    rw [Vp0] at f3; rw [f3] at e3; clear f3
    clear hV hN hO
    obtain ⟨v0, v1, v2⟩ := (HQ1.out.on (hG.1 (hW 8 (by kernel_rfl)))).cells
    go_simp
    exact hK.out _ _ (by rw [Vp1, upd_at] <;> (congr 1 <;> omega)) (.inr (Below.refl _ _)) (⟨fun h => hG.1 (upL_false h), hG.2⟩)
  case s2_p1 =>
    refine oweP rfl fun a wx val L hG hi hW hV hN hO K hK => ?_
    have e1 : a.tmps[1]? = some (.pointer (some ⟨w.heap.size, 0, none⟩)) := (hO 1 (by kernel_rfl)).trans (by rfl)
    clear hV hN hO
    go_simp
    exact hK.out _ _ (by rw [Vp2, upd_at] <;> (congr 1 <;> omega)) (.inr (Below.refl _ _)) (⟨fun h => hG.1 (upL_false h), hG.2⟩)
  case s3_p1 =>
    refine oweP rfl fun a wx val L hG hi hW hV hN hO K hK => ?_
    have e5 := hN 2 5 (by kernel_rfl) (by kernel_rfl) (by simp)
    have f5 := hV 2 (by kernel_rfl) (by kernel_rfl)
    rw [Vp2] at f5; rw [f5] at e5; clear f5
    clear hV hN hO
    obtain ⟨v0, v1, v2⟩ := (HQ1.out.on (hG.1 (hW 8 (by kernel_rfl)))).cells
    go_simp
    exact hK.out _ _ (by rw [Vp3, upd_at] <;> (congr 1 <;> omega)) (.inr (Below.refl _ _)) (⟨fun h => hG.1 (upL_false h), hG.2⟩)
  case s4_p1 =>
    refine oweP rfl fun a wx val L hG hi hW hV hN hO K hK => ?_
    have e1 : a.tmps[1]? = some (.pointer (some ⟨w.heap.size, 0, none⟩)) := (hO 1 (by kernel_rfl)).trans (by rfl)
    clear hV hN hO
    go_simp
    exact hK.out _ _ (by rw [Vp4, upd_at] <;> (congr 1 <;> omega)) (.inr (Below.refl _ _)) (⟨fun h => hG.1 (upL_false h), hG.2⟩)
  case s5_p1 =>
    refine oweP rfl fun a wx val L hG hi hW hV hN hO K hK => ?_
    have e7 := hN 4 7 (by kernel_rfl) (by kernel_rfl) (by simp)
    have f7 := hV 4 (by kernel_rfl) (by kernel_rfl)
    rw [Vp4] at f7; rw [f7] at e7; clear f7
    clear hV hN hO
    obtain ⟨v0, v1, v2⟩ := (HQ1.out.on (hG.1 (hW 8 (by kernel_rfl)))).cells
    go_simp
    exact hK.out _ _ (by rw [Vp5, upd_at] <;> (congr 1 <;> omega)) (.inr (Below.refl _ _)) (⟨fun h => hG.1 (upL_false h), hG.2⟩)
  case s6_p1 =>
    refine oweP rfl fun a wx val L hG hi hW hV hN hO K hK => ?_
    have e8 := hN 5 8 (by kernel_rfl) (by kernel_rfl) (by simp)
    have f8 := hV 5 (by kernel_rfl) (by kernel_rfl)
    rw [Vp5] at f8; rw [f8] at e8; clear f8
    clear hV hN hO
    have h9 := hG.1 (hW 8 (by kernel_rfl))
    refine wp_appM (.const (.slice none 0 0)) (.tmp 8) rfl wx.heap.size wx.heap.size _ [] l A c rfl (by simp [Act.eval, e8]) (OwnM.nil _ _) (HQ.out.on h9).msgs (Nat.le_refl _) (by simp; omega) ?_
    intro u' w5 hown5 hg5
    obtain ⟨A5, c5, hu5, -, -⟩ := OwnM.row (show OwnM w5 wx.heap.size u' l from hown5)
    subst hu5
    have ht5 : OwnM w5 wx.heap.size (.slice A5 l.length c5) l := hown5
    have hb := OwnM.below (OwnM.nil wx wx.heap.size) hg5 (Nat.le_refl _)
    exact hK.out _ _ (by rw [Vp6, upd_at]; exact ⟨A5, c5, rfl, ht5.base h9.size⟩) (.inr hb) (⟨fun h => (hG.1 (upL_false h)).trans (hb.mono (hG.1 (upL_false h)).size), hG.2.trans (hb.mono hG.2.size)⟩)
  case s7_p1 =>
    refine oweP rfl fun a wx val L hG hi hW hV hN hO K hK => ?_
    have e4 := hN 1 4 (by kernel_rfl) (by kernel_rfl) (by simp)
    have f4 := hV 1 (by kernel_rfl) (by kernel_rfl)
    rw [Vp1] at f4; rw [f4] at e4; clear f4
    have e6 := hN 3 6 (by kernel_rfl) (by kernel_rfl) (by simp)
    have f6 := hV 3 (by kernel_rfl) (by kernel_rfl)
    rw [Vp3] at f6; rw [f6] at e6; clear f6
    have e9 := hN 6 9 (by kernel_rfl) (by kernel_rfl) (by simp)
    have f9 := hV 6 (by kernel_rfl) (by kernel_rfl)
    rw [Vp6] at f9; obtain ⟨A5, c5, hv, ht⟩ := f9; rw [hv] at e9
    clear hV hN hO
    go_simp
    exact hK.out _ _ (by rw [Vp7, upd_at]; exact ⟨A5, c5, rfl, ht⟩) (.inr (Below.refl _ _)) (⟨fun h => hG.1 (upL_false h), hG.2⟩)
  case s8_p1 =>
    refine oweP rfl fun a wx val L hG hi hW hV hN hO K hK => ?_
    have e2 : a.tmps[2]? = some (.pointer (some ⟨w.heap.size + 1, 0, none⟩)) := (hO 2 (by kernel_rfl)).trans (by rfl)
    have e10 := hN 7 10 (by kernel_rfl) (by kernel_rfl) (by simp)
    have f10 := hV 7 (by kernel_rfl) (by kernel_rfl)
    rw [Vp7] at f10; obtain ⟨A5, c5, hv, ht⟩ := f10; rw [hv] at e10
    clear hV hN hO
    have h9 := hG.1 hi
    have hqa := HQ2.out.on h9
    obtain ⟨v0, v1, v2⟩ := hqa.cells
    have vf := hqa.frozen
    have hs3 := HSZ.out
    have hbs := below_set3 hG.2 (b := w.heap.size + 1) (by omega) (.int .i64 LQ) (.int .i64 T) (.slice A5 l.length c5)
    have hts := ht.put3 (b := w.heap.size + 1) (by omega) (.int .i64 LQ) (.int .i64 T) (.slice A5 l.length c5)
    clear hs3
    go_simp
    exact hK.out undef _ (by rw [Vp8]; exact ⟨A5, c5, hqa.set LQ T A5 l.length c5, hts⟩) (.inl rfl) ⟨fun h => (upL_self h).elim, hbs⟩
  intro val wx L hG hV
  have f0 := hV 0 (by simp) (fun _ _ => by simp)
  rw [Vp0] at f0
  have f1 := hV 1 (by simp) (fun _ _ => by simp)
  rw [Vp1] at f1
  have f2 := hV 2 (by simp) (fun _ _ => by simp)
  rw [Vp2] at f2
  have f3 := hV 3 (by simp) (fun _ _ => by simp)
  rw [Vp3] at f3
  have f4 := hV 4 (by simp) (fun _ _ => by simp)
  rw [Vp4] at f4
  have f5 := hV 5 (by simp) (fun _ _ => by simp)
  rw [Vp5] at f5
  have f8 := hV 8 (by simp) (fun _ _ => by simp)
  rw [Vp8] at f8
  clear hV Vp0 Vp1 Vp2 Vp3 Vp4 Vp5 Vp6 Vp7 Vp8
  simp only [putAll, Act.put, List.setIfInBounds_toArray, List.set_cons_zero, List.set_cons_succ]
  generalize val 0 = z0 at *; (subst f0)
  generalize val 1 = z1 at *; (subst f1)
  generalize val 2 = z2 at *; (subst f2)
  generalize val 3 = z3 at *; (subst f3)
  generalize val 4 = z4 at *; (subst f4)
  generalize val 5 = z5 at *; (subst f5)
  generalize val 6 = z6 at *
  generalize val 7 = z7 at *
  clear HVD
  obtain ⟨A5, c5, hqa, ht⟩ := f8
  have HPP : Hid (FiOwnPost LQ T l w (.returned (fiv LQ T A5 l.length c5)) wx) := Lib.hid ⟨_, _, rfl, ht.base (by rw [HSZ.out]; omega), hG.2⟩
  have HQQ := Lib.hid hqa
  clear hqa ht hG
  go_wp2_with fail
  exact bodyPost_ret (fio_res Tryd.results15 HQQ.out rfl) rfl HPP.out

/-! ## What is taken, told and offered -/
def takeFiE (L T : Int) (l : List Msg) : Int := if rightFi L T l = true then (if l = [] then 41 else 0) else 1
def takeFiM (L T : Int) (l : List Msg) : Msg := if takeFiE L T l = 0 then l.headD zeroM else zeroM
def takeFiL (L T : Int) (l : List Msg) : List Msg := if takeFiE L T l = 0 then l.tail else l
def lostFiE (L T : Int) (l : List Msg) : Int := if rightFi L T l = true then 0 else 1
def lostFiT (L T : Int) (l : List Msg) : Int := if rightFi L T l = true then 0 else T
def lostFiN (L T : Int) (l : List Msg) : Int := if rightFi L T l = true then T else 0
def offFiE (L T : Int) (l : List Msg) (m : Msg) : Int := if rightFi L T l = true ∧ rightM m = true then 0 else 1
/-- 0: passed; 1: stored; 2: dropped. -/
def offFiH (L T : Int) (l : List Msg) (m : Msg) (th : Bool) : Int := if offFiE L T l m = 0 ∧ th = true then (if (l.length : Int) = L then 2 else 1) else 0
def offFiT (L T : Int) (l : List Msg) (m : Msg) (th : Bool) : Int := if offFiH L T l m th = 2 then min (T + 1) 65535 else T
def offFiL (L T : Int) (l : List Msg) (m : Msg) (th : Bool) : List Msg := if offFiH L T l m th = 1 then l ++ [m] else l


def FiPost (A : Option Addr) (L T' : Int) (l' : List Msg) (H E : Int) (w : World) (e : Ending) (w' : World) : Prop := ∃ A' c', e = .returned (.tuple #[fiv L T' A' l'.length c', .int .i64 H, .int .i64 E]) ∧ QTold A w.heap.size w' l' A' c' ∧ Below w.heap.size w w'

set_option maxRecDepth 100000 in
set_option maxHeartbeats 2000000 in
theorem refLostFi_any (LQ T : Int) (A : Option Addr) (c : Nat) (l : List Msg) (w : World) (hq : QIn w A c l) :
    Calls Tryd.prog 20 #[fiv LQ T A l.length c] w (FiPost A LQ (lostFiT LQ T l) l (lostFiN LQ T l) (lostFiE LQ T l) w) := by
  have q1 := FiAt.new w LQ T A l.length c
  have b1 := Joins.below_alloc1 w (.cells #[.int .i64 LQ, .int .i64 T, .slice A l.length c] 30)
  have q2 := FiAt.new (w.alloc (.cells #[.int .i64 LQ, .int .i64 T, .slice A l.length c] 30)) 0 0 none 0 0
  have b2 := Joins.below_alloc1 (w.alloc (.cells #[.int .i64 LQ, .int .i64 T, .slice A l.length c] 30)) (.cells #[.int .i64 0, .int .i64 0, .slice none 0 0] 30)
  rw [World.size_alloc] at q2
  have q1' := q1.on b2
  have hB := b1.trans (b2.mono b1.size)
  have hsz : ((w.alloc (.cells #[.int .i64 LQ, .int .i64 T, .slice A l.length c] 30)).alloc (.cells #[.int .i64 0, .int .i64 0, .slice none 0 0] 30)).heap.size = w.heap.size + 2 := by simp only [World.size_alloc]
  have hq2 := hq.on hB
  obtain ⟨y0, y1, y2⟩ := q1'.cells
  clear q1 b1 b2
  have HQ2 := Lib.hid q2
  have HQ1 := Lib.hid q1'
  have HB := Lib.hid hB
  have HQ := Lib.hid hq2
  have HSZ := Lib.hid hsz
  clear hq q1' q2 hB hq2 hsz
  have CO := Lib.hid (fiOwn_any LQ T A c l _ HQ.out)
  have CR : Hid (∀ W, QIn W A c l → Calls Tryd.prog 22 #[fiv LQ T A l.length c] W fun e w' => e = .returned (.bool (rightFi LQ T l)) ∧ Below W.heap.size W w') := Lib.hid (fun W h => refRightFi_any LQ T A c l W h)
  have HET : Hid (lostFiT LQ T l = if rightFi LQ T l = true then 0 else T) := Lib.hid rfl
  have HEN : Hid (lostFiN LQ T l = if rightFi LQ T l = true then T else 0) := Lib.hid rfl
  have HEE : Hid (lostFiE LQ T l = if rightFi LQ T l = true then 0 else 1) := Lib.hid rfl
  obtain ⟨N, hN⟩ : ∃ N, N = lostFiT LQ T l := ⟨_, rfl⟩
  obtain ⟨H, hH⟩ : ∃ H, H = lostFiN LQ T l := ⟨_, rfl⟩
  obtain ⟨E, hE⟩ : ∃ E, E = lostFiE LQ T l := ⟨_, rfl⟩
  rw [← hN] at HET
  rw [← hH] at HEN
  rw [← hE] at HEE
  rw [← hN, ← hH, ← hE]
  clear hN hH hE
  generalize rightFi LQ T l = R at *
  go_enter Tryd.func20, Tryd.ntmps20
  go_wp2_with fail; refine CO.out.mono ?_; rintro e w3 ⟨A5, c5, rfl, ho5, b3⟩
  have ht5 : QTold none _ w3 l A5 c5 := QTold.ofOwn ho5
  have HN5 : Hid (∀ ad, A5 = some ad → ad.block ≠ w3.heap.size) := Lib.hid (fun ad e => by have := ht5.low ad e; omega)
  have hq5 := FiAt.new w3 LQ T A5 l.length c5
  have hb5 := Joins.below_alloc1 w3 (.cells #[.int .i64 LQ, .int .i64 T, .slice A5 l.length c5] 30)
  have HX3 : Hid (w.heap.size + 2 ≤ w3.heap.size) := Lib.hid (by have := b3.size; have := HSZ.out; omega)
  have HQ5 := Lib.hid hq5
  have hB5 := b3.trans (hb5.mono b3.size)
  have HB5 := Lib.hid (HB.out.trans (hB5.mono HB.out.size))
  have HQ1 := Lib.hid (HQ1.out.on hB5)
  have HQ2 := Lib.hid (HQ2.out.on hB5)
  have HT5 := Lib.hid ((ht5.onw hb5).less (S' := w.heap.size + 2) (Nat.le_of_eq HSZ.out.symm))
  have hqx := HQ.out.on hB5
  have cr := CR.out _ hqx
  obtain ⟨y0, y1, y2⟩ := HQ1.out.cells
  clear ht5 ho5 b3 hq5 hb5 hB5 CO HB HQ hqx
  go_wp2_with fail
  have HS5 : Hid ((w3.alloc (.cells #[.int .i64 LQ, .int .i64 T, .slice A5 l.length c5] 30)).heap.size = w3.heap.size + 1) := Lib.hid (World.size_alloc _ _)
  generalize w3.alloc (.cells #[.int .i64 LQ, .int .i64 T, .slice A5 l.length c5] 30) = W5 at *
  generalize w3.heap.size = b5 at *
  refine cr.mono ?_; rintro e w6 ⟨rfl, b6⟩
  have HB6 := Lib.hid (HB5.out.trans (b6.mono HB5.out.size))
  have hq5 := HQ5.out.on b6
  have hq2 := HQ2.out.on b6
  have hq1 := HQ1.out.on b6
  have HT6 := Lib.hid (HT5.out.onw b6)
  clear b6 y0 y1 y2 cr CR HQ5 HQ1 HQ2 HB5 HT5
  cases R
  · obtain ⟨y0, y1, y2⟩ := hq5.cells
    obtain ⟨z0, z1, z2⟩ := hq2.cells
    have zf := hq2.frozen
    have HF := Lib.hid (hq2.set LQ T A5 l.length c5)
    have HBF := Lib.hid (below_set3 HB6.out (b := w.heap.size + 1) (by omega) (.int .i64 LQ) (.int .i64 T) (.slice A5 l.length c5))
    have HTF := Lib.hid ((HT6.out.put3 (b := w.heap.size + 1) (by omega) (.int .i64 LQ) (.int .i64 T) (.slice A5 l.length c5)).less (S' := w.heap.size) (by omega))
    have e1 : T = N := HET.out.symm
    have e2 : H = 0 := HEN.out
    have e3 : E = 1 := HEE.out
    subst e1 e2 e3
    clear hq5 hq2 hq1 HET HEN HEE
    go_wp2_with fail
    exact bodyPost_ret (fii_res Tryd.results20 HF.out rfl rfl rfl) rfl ⟨_, _, rfl, HTF.out.any, HBF.out⟩
  · have e1 : N = 0 := HET.out
    have e2 : T = H := HEN.out.symm
    have e3 : E = 0 := HEE.out
    subst e1 e2 e3
    have hne : w.heap.size + 1 ≠ b5 := by have := HX3.out; omega
    have hne1 : w.heap.size ≠ b5 := by have := HX3.out; omega
    have HQ5 := Lib.hid (hq5.lost 0)
    have HQ2 := Lib.hid (hq2.cell1 hne (i := 1) (.int .i64 0))
    have HQ1 := Lib.hid (hq1.cell1 hne1 (i := 1) (.int .i64 0))
    have HB7 := Lib.hid (HB6.out.setCell (p := ⟨b5, 1, none⟩) (by have := HX3.out; show w.heap.size ≤ b5; omega) (.int .i64 0))
    have ht7 := HT6.out.apart (i := 1) HN5.out (.int .i64 0)
    obtain ⟨y0, y1, y2⟩ := hq5.cells
    have yf := hq5.frozen
    have HT7 := Lib.hid ht7
    clear hq5 hq2 hq1 HET HEN HEE ht7 hne hne1
    go_upto_region 5 with (fail)
    generalize w6.setCell ⟨b5, 1, none⟩ (.int .i64 0) = X at *
    have HV : ∃ Vp : Nat → (Nat → Value) → World → Prop, Vp = (fun ix u wv => match ix with
      | 0 => u 0 = .agg #[.int .i64 LQ, .int .i64 0, .slice A5 l.length c5]
      | 1 => u 1 = .pointer (some ⟨w.heap.size, 1, none⟩)
      | 2 => u 2 = .int .i64 T
      | 3 => FiAt wv (w.heap.size + 1) LQ 0 A5 l.length c5
      | 4 => u 4 = .int .i64 T
      | 5 => u 5 = .int .i64 0
      | _ => True) := ⟨_, rfl⟩
    obtain ⟨Vp, hVdef⟩ := HV
    have Vp0 : ∀ u wv, Vp 0 u wv = (u 0 = .agg #[.int .i64 LQ, .int .i64 0, .slice A5 l.length c5]) := fun u wv => by subst hVdef; rfl
    have Vp1 : ∀ u wv, Vp 1 u wv = (u 1 = .pointer (some ⟨w.heap.size, 1, none⟩)) := fun u wv => by subst hVdef; rfl
    have Vp2 : ∀ u wv, Vp 2 u wv = (u 2 = .int .i64 T) := fun u wv => by subst hVdef; rfl
    have Vp3 : ∀ u wv, Vp 3 u wv = (FiAt wv (w.heap.size + 1) LQ 0 A5 l.length c5) := fun u wv => by subst hVdef; rfl
    have Vp4 : ∀ u wv, Vp 4 u wv = (u 4 = .int .i64 T) := fun u wv => by subst hVdef; rfl
    have Vp5 : ∀ u wv, Vp 5 u wv = (u 5 = .int .i64 0) := fun u wv => by subst hVdef; rfl
    have HVD := Lib.hid hVdef
    clear hVdef
    refine region_phase (V := Vp) (drop := fun _ _ => false) (G := fun L wv => (L 3 = false → FiAt wv (w.heap.size + 1) 0 0 none 0 0) ∧ FiAt wv b5 LQ 0 A5 l.length c5 ∧ FiAt wv w.heap.size LQ T A l.length c ∧ Below w.heap.size w wv ∧ QTold none (w.heap.size + 2) wv l A5 c5) (Rel := fun jx wv wv' => jx = 3 ∨ Below wv.heap.size wv wv') (by kernel_rfl) (by kernel_rfl) ⟨fun _ => HQ2.out.on (Below.refl _ _).drew, HQ5.out.on (Below.refl _ _).drew, HQ1.out.on (Below.refl _ _).drew, HB7.out.trans ((Below.refl _ _).drew.mono HB7.out.size), HT7.out.onw (Below.refl _ _).drew⟩ ?hmonop2 ?hdepp2 ⟨?s0_p2, ?s1_p2, ?s2_p2, ?s3_p2, ?s4_p2, ?s5_p2, trivial⟩ ?behindp2
    case hmonop2 =>
      intro ix jx u wv wv' hij hw hd hr
      rw [HVD.out]
      dsimp only
      split <;> intro h <;> first | exact trivial | exact h | (rcases hr with rfl | hb; (focus first | exact absurd rfl hij | (simp at hd; done) | (exact Bool.noConfusion (hw.symm.trans (show _ = true from by kernel_rfl)))); (first | (exact h.on hb)))
    case hdepp2 =>
      intro ix u u' wv h1 h2
      rw [HVD.out]
      dsimp only
      split <;> intro h <;> first | exact trivial | (rw [← h1]; exact h) | exact h
    case s0_p2 =>
      refine oweP rfl fun a wx val L hG hi hW hV hN hO K hK => ?_
      have e5 : a.tmps[5]? = some (.pointer (some ⟨b5, 0, none⟩)) := (hO 5 (by kernel_rfl)).trans (by rfl)
      clear hV hN hO
      obtain ⟨v0, v1, v2⟩ := hG.2.1.cells
      go_simp
      exact hK.out _ _ (by rw [Vp0, upd_at] <;> (congr 1 <;> omega)) (.inr (Below.refl _ _)) (⟨fun h => hG.1 (upL_false h), hG.2⟩)
    case s1_p2 =>
      refine oweP rfl fun a wx val L hG hi hW hV hN hO K hK => ?_
      have e1 : a.tmps[1]? = some (.pointer (some ⟨w.heap.size, 0, none⟩)) := (hO 1 (by kernel_rfl)).trans (by rfl)
      clear hV hN hO
      go_simp
      exact hK.out _ _ (by rw [Vp1, upd_at] <;> (congr 1 <;> omega)) (.inr (Below.refl _ _)) (⟨fun h => hG.1 (upL_false h), hG.2⟩)
    case s2_p2 =>
      refine oweP rfl fun a wx val L hG hi hW hV hN hO K hK => ?_
      have e14 := hN 1 14 (by kernel_rfl) (by kernel_rfl) (by simp)
      have f14 := hV 1 (by kernel_rfl) (by kernel_rfl)
      rw [Vp1] at f14; rw [f14] at e14; clear f14
      clear hV hN hO
      obtain ⟨v0, v1, v2⟩ := hG.2.2.1.cells
      go_simp
      exact hK.out _ _ (by rw [Vp2, upd_at] <;> (congr 1 <;> omega)) (.inr (Below.refl _ _)) (⟨fun h => hG.1 (upL_false h), hG.2⟩)
    case s3_p2 =>
      refine oweP rfl fun a wx val L hG hi hW hV hN hO K hK => ?_
      have e2 : a.tmps[2]? = some (.pointer (some ⟨w.heap.size + 1, 0, none⟩)) := (hO 2 (by kernel_rfl)).trans (by rfl)
      have e13 := hN 0 13 (by kernel_rfl) (by kernel_rfl) (by simp)
      have f13 := hV 0 (by kernel_rfl) (by kernel_rfl)
      rw [Vp0] at f13; rw [f13] at e13; clear f13
      clear hV hN hO
      have hqa := hG.1 hi
      obtain ⟨v0, v1, v2⟩ := hqa.cells
      have vf := hqa.frozen
      have hx3 := HX3.out
      have hbs := below_set3 hG.2.2.2.1 (b := w.heap.size + 1) (by omega) (.int .i64 LQ) (.int .i64 0) (.slice A5 l.length c5)
      have hts := hG.2.2.2.2.put3 (b := w.heap.size + 1) (by omega) (.int .i64 LQ) (.int .i64 0) (.slice A5 l.length c5)
      have h5s := hG.2.1.put3 (b := w.heap.size + 1) (by omega) (.int .i64 LQ) (.int .i64 0) (.slice A5 l.length c5)
      have h1s := hG.2.2.1.put3 (b := w.heap.size + 1) (by omega) (.int .i64 LQ) (.int .i64 0) (.slice A5 l.length c5)
      clear hx3
      go_simp
      exact hK.out undef _ (by rw [Vp3]; exact hqa.set LQ 0 A5 l.length c5) (.inl rfl) ⟨fun h => (upL_self h).elim, h5s, h1s, hbs, hts⟩
    case s4_p2 =>
      refine oweP rfl fun a wx val L hG hi hW hV hN hO K hK => ?_
      have e15 := hN 2 15 (by kernel_rfl) (by kernel_rfl) (by simp)
      have f15 := hV 2 (by kernel_rfl) (by kernel_rfl)
      rw [Vp2] at f15; rw [f15] at e15; clear f15
      clear hV hN hO
      go_simp
      exact hK.out _ _ (by rw [Vp4, upd_at] <;> (congr 1 <;> omega)) (.inr (Below.refl _ _)) (⟨fun h => hG.1 (upL_false h), hG.2⟩)
    case s5_p2 =>
      refine oweP rfl fun a wx val L hG hi hW hV hN hO K hK => ?_
      clear hV hN hO
      go_simp
      exact hK.out _ _ (by rw [Vp5, upd_at] <;> (congr 1 <;> omega)) (.inr (Below.refl _ _)) (⟨fun h => hG.1 (upL_false h), hG.2⟩)
    intro val wx L hG hV
    have f0 := hV 0 (by simp) (fun _ _ => by simp)
    rw [Vp0] at f0
    have f1 := hV 1 (by simp) (fun _ _ => by simp)
    rw [Vp1] at f1
    have f2 := hV 2 (by simp) (fun _ _ => by simp)
    rw [Vp2] at f2
    have f3 := hV 3 (by simp) (fun _ _ => by simp)
    rw [Vp3] at f3
    have f4 := hV 4 (by simp) (fun _ _ => by simp)
    rw [Vp4] at f4
    have f5 := hV 5 (by simp) (fun _ _ => by simp)
    rw [Vp5] at f5
    clear hV Vp0 Vp1 Vp2 Vp3 Vp4 Vp5
    simp only [putAll, Act.put, List.setIfInBounds_toArray, List.set_cons_zero, List.set_cons_succ]
    generalize val 0 = z0 at *; (subst f0)
    generalize val 1 = z1 at *; (subst f1)
    generalize val 2 = z2 at *; (subst f2)
    generalize val 4 = z4 at *; (subst f4)
    generalize val 5 = z5 at *; (subst f5)
    clear HVD
    have HPP : Hid (FiPost A LQ 0 l T 0 w (.returned (.tuple #[fiv LQ 0 A5 l.length c5, .int .i64 T, .int .i64 0])) wx) := Lib.hid ⟨_, _, rfl, (hG.2.2.2.2.less (by omega)).any, hG.2.2.2.1⟩
    have HQQ := Lib.hid f3
    clear hG f3
    go_wp2_with fail
    exact bodyPost_ret (fii_res Tryd.results20 HQQ.out rfl rfl rfl) rfl HPP.out

end Go.Proofs.YtehajmockicilaaDoor

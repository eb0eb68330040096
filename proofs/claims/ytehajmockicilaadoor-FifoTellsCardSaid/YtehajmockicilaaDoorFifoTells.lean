/-
  The law FifoTells, walked.
-/
import Derived.Test.YtehajmockicilaaDoorFifFilt
import Derived.Deep.CutBlock
namespace Go.Proofs.YtehajmockicilaaDoor
open Go Go.RowKit

theorem addT (g n : Nat) : ((⟨g, 0, none⟩ : Addr).add n) = ⟨g, n, none⟩ := by unfold Addr.add; split <;> simp_all
theorem far1T (w : World) {b i : Nat} (x : Value) {k : Nat} (hk : k ≠ b) : (w.setCell ⟨b, i, none⟩ x).heap[k]? = w.heap[k]? := Below.heap_setCell _ _ _ _ (by show k ≠ b; exact hk)
theorem ref_take_in (L T : Int) (A : Option Addr) (c : Nat) (l : List Msg) (w : World) (hq : QIn w A c l) :
    Calls Tryd.prog 18 #[fiv L T A l.length c] w (FiInM L T (takeFiL L T l) (takeFiM L T l) (takeFiE L T l) w) :=
  (refTakeFi_any L T A c l w hq).mono fun _ _ h => h.inn (Nat.le_trans (takL_length _ _ _) hq.few) fun x hx => hq.data x (takL_mem hx)
theorem ref_lost_in (L T : Int) (A : Option Addr) (c : Nat) (l : List Msg) (w : World) (hq : QIn w A c l) :
    Calls Tryd.prog 20 #[fiv L T A l.length c] w (FiIn L (lostFiT L T l) l (lostFiN L T l) (lostFiE L T l) w) :=
  (refLostFi_any L T A c l w hq).mono fun _ _ h => h.inn hq.few hq.data
theorem ref_offer_in (L T : Int) (A : Option Addr) (c : Nat) (l : List Msg) (m : Msg) (AF : Option Addr) (cf : Nat) (fs : List (Bool × Int × Int)) (w : World) (hq : QIn w A c l) (h199 : l.length ≤ 199) (hd : m.data.size ≤ 140737488351232) (hf : LieIn w AF fs) (hfl : fs.length ≤ 281474976710656) :
    Calls Tryd.prog 26 #[fiv L T A l.length c, mv m, .slice AF fs.length cf] w (FiIn L (offFiT L T l m (anyI m.ext m.n fs)) (offFiL L T l m (anyI m.ext m.n fs)) (offFiH L T l m (anyI m.ext m.n fs)) (offFiE L T l m) w) :=
  (refOffer_any L T A c l m AF cf fs w hq (by unfold maxLen; omega) hf hfl).mono fun _ _ h => h.inn (Nat.le_trans (offL_length _ _ _ _ _) (by omega)) fun x hx => (offL_mem hx).elim (hq.data x) fun e => e ▸ hd
theorem sameFi_self (L T : Int) (l : List Msg) : sameFi L L T T l l = true := by
  unfold sameFi
  rw [beq_self_eq_true, beq_self_eq_true, (sameL_iff l l).2 rfl]; rfl

theorem QIn.farF1 {w : World} {A A0 : Option Addr} {c b n0 c0 i : Nat} {L0 T0 : Int} {l : List Msg} (h : QIn w A c l) (hb : FiAt w b L0 T0 A0 n0 c0) (x : Value) : QIn (w.setCell ⟨b, i, none⟩ x) A c l := by
  refine ⟨fun hn => ?_, h.cap, h.few, h.data, fun ad e => by rw [World.size_setCell]; exact h.low ad e⟩
  obtain ⟨ad, e, hbl, hc⟩ := h.msgs hn
  have h0 := hc 0 l[0] (List.getElem?_eq_getElem hn)
  have hne : ad.block ≠ b := by
    have h00 := h0.2.2.2.1
    rw [Nat.zero_mul, adb] at h00
    exact hb.not_at h00
  refine ⟨ad, e, by rw [World.size_setCell]; exact hbl, fun j m hm => (hc j m hm).keep fun q hq => World.cell?_of_block ?_⟩
  rw [hq, adb]
  exact far1T w x hne
theorem FVar.far1 {w : World} {b b' n0 c0 i : Nat} {L T L0 T0 : Int} {l : List Msg} {A0 : Option Addr} (h : FVar w b L T l) (hb : FiAt w b' L0 T0 A0 n0 c0) (hn : b ≠ b') (x : Value) : FVar (w.setCell ⟨b', i, none⟩ x) b L T l := by
  obtain ⟨A, c, h1, h2⟩ := h
  exact ⟨A, c, (far1T w x hn).trans h1, h2.farF1 hb x⟩
theorem FiAt.limit {w : World} {b : Nat} {L T : Int} {A : Option Addr} {n c : Nat} (h : FiAt w b L T A n c) (L' : Int) : FiAt (w.setCell ⟨b, 0, none⟩ (.int .i64 L')) b L' T A n c := by
  have h1 := set_blk h 0 (.int .i64 L')
  unfold FiAt
  rw [h1]
  simp

/-- Two fifos from an address on. -/
def ElemF (w : World) (b k : Nat) : Prop := ∃ L T A c l, w.cell? ⟨b, k * 3, none⟩ = some (.int .i64 L) ∧ w.cell? ⟨b, k * 3 + 1, none⟩ = some (.int .i64 T) ∧ w.cell? ⟨b, k * 3 + 2, none⟩ = some (.slice A l.length c) ∧ QIn w A c l ∧ l.length ≤ 60 ∧ b < w.heap.size
theorem ElemF.on {w w' : World} {b k : Nat} (h : ElemF w b k) (hb : Below w.heap.size w w') : ElemF w' b k := by
  obtain ⟨L, T, A, c, l, h1, h2, h2', h3, h4, h5⟩ := h
  exact ⟨L, T, A, c, l, (hb.cell (p := ⟨b, k * 3, none⟩) h5).trans h1, (hb.cell (p := ⟨b, k * 3 + 1, none⟩) h5).trans h2, (hb.cell (p := ⟨b, k * 3 + 2, none⟩) h5).trans h2', h3.on hb, h4, Nat.lt_of_lt_of_le h5 hb.size⟩
theorem ElemF.two (w : World) {L0 L1 T0 T1 : Int} {A0 A1 : Option Addr} {c0 c1 : Nat} {l0 l1 : List Msg} (h0 : QIn w A0 c0 l0) (h1 : QIn w A1 c1 l1) (n0 : l0.length ≤ 60) (n1 : l1.length ≤ 60) : ∀ k, k < 2 → ElemF (w.alloc (.cells #[.int .i64 L0, .int .i64 T0, .slice A0 l0.length c0, .int .i64 L1, .int .i64 T1, .slice A1 l1.length c1] 30)) w.heap.size k := by
  intro k hk
  have hb := Joins.below_alloc1 w (.cells #[.int .i64 L0, .int .i64 T0, .slice A0 l0.length c0, .int .i64 L1, .int .i64 T1, .slice A1 l1.length c1] 30)
  have hs : w.heap.size < (w.alloc (.cells #[.int .i64 L0, .int .i64 T0, .slice A0 l0.length c0, .int .i64 L1, .int .i64 T1, .slice A1 l1.length c1] 30)).heap.size := by rw [World.size_alloc]; omega
  have hn := heap_alloc_new w (.cells #[.int .i64 L0, .int .i64 T0, .slice A0 l0.length c0, .int .i64 L1, .int .i64 T1, .slice A1 l1.length c1] 30)
  rcases (show k = 0 ∨ k = 1 by omega) with rfl | rfl
  · exact ⟨L0, T0, A0, c0, l0, cell_of hn 0, cell_of hn 1, cell_of hn 2, h0.on hb, n0, hs⟩
  · exact ⟨L1, T1, A1, c1, l1, cell_of hn 3, cell_of hn 4, cell_of hn 5, h1.on hb, n1, hs⟩

/-- What the law's switch leaves. -/
def ZFt (w0 : World) (b24 b25 : Nat) (LQ TQ : Int) (l : List Msg) (r : Raw) (m : Msg) (wx : World) : Prop :=
  (∃ Lz Tz lz, FVar wx b25 Lz Tz lz ∧ lz.length ≤ 60) ∧ FVar wx b24 LQ TQ l ∧ Below w0.heap.size w0 wx ∧ MsgAt wx w0.heap.size m ∧ SixAt wx (w0.heap.size + 1) r
theorem ZFt.on {w0 w w' : World} {b24 b25 : Nat} {LQ TQ : Int} {l : List Msg} {r : Raw} {m : Msg} (h : ZFt w0 b24 b25 LQ TQ l r m w) (hb : Below w.heap.size w w') : ZFt w0 b24 b25 LQ TQ l r m w' := by
  obtain ⟨⟨Lz, Tz, lz, h1, h2⟩, h3, h4, h5, h6⟩ := h
  exact ⟨⟨Lz, Tz, lz, h1.on hb, h2⟩, h3.on hb, h4.trans (hb.mono h4.size), h5.on hb, h6.on hb⟩
theorem ZFt.set {w0 w : World} {b24 b25 i : Nat} {LQ TQ L T Lz Tz : Int} {l lz : List Msg} {r : Raw} {m : Msg} {A Az : Option Addr} {n c cz : Nat} (v : Value) (hq : FiAt w b25 L T A n c) (hz : FiAt (w.setCell ⟨b25, i, none⟩ v) b25 Lz Tz Az lz.length cz) (hi : QIn w Az cz lz) (hl : lz.length ≤ 60) (h20 : FVar w b24 LQ TQ l) (hb : Below w0.heap.size w0 w) (hm : MsgAt w w0.heap.size m) (hr : SixAt w (w0.heap.size + 1) r) (h1 : b24 < b25) (h2 : w0.heap.size + 1 < b25) :
    ZFt w0 b24 b25 LQ TQ l r m (w.setCell ⟨b25, i, none⟩ v) :=
  ⟨⟨Lz, Tz, lz, ⟨Az, cz, hz, hi.farF1 hq v⟩, hl⟩, h20.far1 hq (by omega) v, hb.setCell (p := ⟨b25, i, none⟩) (by show w0.heap.size ≤ b25; omega) v, (far1T w v (by omega)).trans hm, (far1T w v (by omega)).trans hr⟩

/-- The first of filters. -/
theorem LieIn.take {w : World} {A : Option Addr} {l : List (Bool × Int × Int)} (h : LieIn w A l) (m : Nat) : LieIn w A (l.take m) := by
  rcases h with ⟨h, e⟩ | ⟨a, e, h⟩
  · exact .inl ⟨by rw [h, List.take_nil], e⟩
  · refine .inr ⟨a, e, h.1, fun i f hf => h.2 i f ?_⟩
    rw [List.getElem?_take] at hf
    split at hf
    · exact hf
    · cases hf
/-- A slice of filters as it comes in, an empty one at an address let in. -/
def FltOk (w : World) (A : Option Addr) (c : Nat) (l : List (Bool × Int × Int)) : Prop :=
  LieIn w A l ∧ (A = none → c = 0) ∧ l.length ≤ c ∧ c ≤ maxLen

/-- Two lists of filters from an address on. -/
def ElemL (w : World) (b k : Nat) : Prop := ∃ A c l, w.cell? ⟨b, k, none⟩ = some (.slice A l.length c) ∧ LieIn w A l ∧ l.length ≤ 281474976710656 ∧ b < w.heap.size
theorem ElemL.on {w w' : World} {b k : Nat} (h : ElemL w b k) (hb : Below w.heap.size w w') : ElemL w' b k := by
  obtain ⟨A, c, l, h1, h3, h4, h5⟩ := h
  exact ⟨A, c, l, (hb.cell (p := ⟨b, k, none⟩) h5).trans h1, h3.below hb, h4, Nat.lt_of_lt_of_le h5 hb.size⟩
theorem ElemL.two (w : World) {A0 A1 : Option Addr} {c0 c1 : Nat} {l0 l1 : List (Bool × Int × Int)} (h0 : LieIn w A0 l0) (h1 : LieIn w A1 l1) (n0 : l0.length ≤ 281474976710656) (n1 : l1.length ≤ 281474976710656) : ∀ k, k < 2 → ElemL (w.alloc (.cells #[.slice A0 l0.length c0, .slice A1 l1.length c1] 31)) w.heap.size k := by
  intro k hk
  have hb := Joins.below_alloc1 w (.cells #[.slice A0 l0.length c0, .slice A1 l1.length c1] 31)
  have hs : w.heap.size < (w.alloc (.cells #[.slice A0 l0.length c0, .slice A1 l1.length c1] 31)).heap.size := by rw [World.size_alloc]; omega
  have hn := heap_alloc_new w (.cells #[.slice A0 l0.length c0, .slice A1 l1.length c1] 31)
  rcases (show k = 0 ∨ k = 1 by omega) with rfl | rfl
  · exact ⟨A0, c0, l0, cell_of hn 0, h0.below hb, n0, hs⟩
  · exact ⟨A1, c1, l1, cell_of hn 1, h1.below hb, n1, hs⟩
theorem filL_few (ps : List (Int × Int)) : (filL ps).length ≤ 281474976710656 := by have := filL_length ps; omega

set_option maxRecDepth 100000 in
set_option maxHeartbeats 16000000 in
theorem fifoTells_walk (lim lost : Int) (A : Option Addr) (c : Nat) (rs : List Raw) (m : Msg) (r0 r1 r2 r3 r4 r5 : Int) (OL OT : Int) (Ao : Option Addr) (co : Nat) (odd : List Msg) (how : Int) (AF : Option Addr) (cf : Nat) (fl : List (Bool × Int × Int)) (Ap : Option Addr) (cp : Nat) (ps : List (Int × Int))
    (hlim : (Lit.int .i64 lim).wf = true) (hlost : (Lit.int .i64 lost).wf = true) (k0 : (Lit.int .i64 r0).wf = true) (k1 : (Lit.int .i64 r1).wf = true) (k2 : (Lit.int .i64 r2).wf = true) (k3 : (Lit.int .i64 r3).wf = true) (k4 : (Lit.int .i64 r4).wf = true) (k5 : (Lit.int .i64 r5).wf = true) (hhow : (Lit.int .i64 how).wf = true)
    (w : World) (L : Laid w) (f2 : RowsOk w A c rs) (f5 : MsgsOk w Ao co odd) (f7 : FltOk w AF cf fl) (f8 : PrsOkf w Ap cp ps) :
    Calls Tryd.prog 3 #[.int .i64 lim, .int .i64 lost, .slice A rs.length c, mv m, .agg #[.int .i64 r0, .int .i64 r1, .int .i64 r2, .int .i64 r3, .int .i64 r4, .int .i64 r5], fiv OL OT Ao odd.length co, .int .i64 how, .slice AF fl.length cf, .slice Ap ps.length cp] w fun e w' => e = .returned (.bool true) ∧ Below w.heap.size w w' := by
  have CN : Hid (∀ W, Calls Tryd.prog 23 #[.agg #[.int .i64 r0, .int .i64 r1, .int .i64 r2, .int .i64 r3, .int .i64 r4, .int .i64 r5], .string ⟨#[101]⟩] W fun e w' => e = .returned (mv (rmsg ⟨#[101]⟩ ⟨r0, r1, r2, r3, r4, r5⟩)) ∧ Below W.heap.size W w') := Lib.hid (fun W => rmsg_any ⟨r0, r1, r2, r3, r4, r5⟩ ⟨k0, k1, k2, k3, k4, k5⟩ ⟨#[101]⟩ (by decide) W)
  have HDN := Lib.hid (rmsg_data ⟨#[101]⟩ ⟨r0, r1, r2, r3, r4, r5⟩)
  generalize rmsg ⟨#[101]⟩ ⟨r0, r1, r2, r3, r4, r5⟩ = nm at *
  have HCQ : Hid (∀ W, RowsOk W A c rs → Calls Tryd.prog 14 #[.int .i64 lim, .int .i64 lost, .slice A rs.length c] W fun e w' => ∃ A' c', e = .returned (fiv (1 + pickI lim 32) (pickI lost 65536) A' (fiL (1 + pickI lim 32) rs).length c') ∧ QTold none W.heap.size w' (fiL (1 + pickI lim 32) rs) A' c' ∧ Below W.heap.size W w') := Lib.hid (fun W h => rawFi_any lim lost hlim hlost A c rs W h)
  have hpl := pickI_range lim 32 (by omega)
  have hql : (fiL (1 + pickI lim 32) rs).length ≤ 32 := by have := fiL_length (1 + pickI lim 32) rs; omega
  have HQD : Hid (∀ m ∈ fiL (1 + pickI lim 32) rs, m.data.size ≤ 140737488351232) := Lib.hid (map_data _ _)
  generalize fiL (1 + pickI lim 32) rs = l at *
  generalize 1 + pickI lim 32 = LQ at *
  generalize pickI lost 65536 = TQ at *
  have HPH : Hid (∀ W, Calls Tryd.prog 16 #[.int .i64 how, .int .i64 3] W fun e w' => e = .returned (.int .i64 (pickI how 3)) ∧ W = w') := Lib.hid (fun W => pick14_any how 3 hhow (by omega) W)
  have hph := pickI_range how 3 (by omega)
  generalize pickI how 3 = ph at *
  have HCN : Hid ((∀ W, Calls Tryd.prog 11 #[.int .i64 OL] W fun e w' => e = .returned (.tuple #[fiv (newL OL) 0 none 0 0, .int .i64 (newE OL)]) ∧ Below W.heap.size W w') ∧ (∀ W, Calls Tryd.prog 12 #[.int .i64 OL] W fun e w' => e = .returned (.tuple #[fiv (newL OL) 0 none 0 0, .int .i64 (newE OL)]) ∧ Below W.heap.size W w')) := Lib.hid ⟨fun W => fiNew_any OL W, fun W => refFiNew_any OL W⟩
  generalize newL OL = LN at *
  generalize newE OL = EN at *
  obtain ⟨hmo, ⟨hoc, hocm⟩, hod⟩ := f5
  unfold maxLen at hocm
  have HOD : Hid (∀ x ∈ odd, x.data.size ≤ 140737488351232) := Lib.hid (fun x hx => by
    obtain ⟨j, hj, e⟩ := List.getElem_of_mem hx
    exact hod j x (by rw [List.getElem?_eq_getElem hj, e]))
  have HMO := Lib.hid hmo
  have HF2 := Lib.hid f2
  have HF7 := Lib.hid f7
  have HF8 := Lib.hid f8
  have HLL := Lib.hid L
  have hm1 := MsgAt.new w m
  have hb1 := Joins.below_alloc1 w (.cells (mc m) 26)
  have hr1 : SixAt _ _ ⟨r0, r1, r2, r3, r4, r5⟩ := heap_alloc_new (w.alloc (.cells (mc m) 26)) (.cells #[.int .i64 r0, .int .i64 r1, .int .i64 r2, .int .i64 r3, .int .i64 r4, .int .i64 r5] 27)
  have hb2 := Joins.below_alloc1 (w.alloc (.cells (mc m) 26)) (.cells #[.int .i64 r0, .int .i64 r1, .int .i64 r2, .int .i64 r3, .int .i64 r4, .int .i64 r5] 27)
  have ho1 := FiAt.new ((w.alloc (.cells (mc m) 26)).alloc (.cells #[.int .i64 r0, .int .i64 r1, .int .i64 r2, .int .i64 r3, .int .i64 r4, .int .i64 r5] 27)) OL OT Ao odd.length co
  have hb3 := Joins.below_alloc1 ((w.alloc (.cells (mc m) 26)).alloc (.cells #[.int .i64 r0, .int .i64 r1, .int .i64 r2, .int .i64 r3, .int .i64 r4, .int .i64 r5] 27)) (.cells #[.int .i64 OL, .int .i64 OT, .slice Ao odd.length co] 30)
  have H12 := Lib.hid (MsgAt.on (MsgAt.on hm1 hb2) hb3)
  have H13 := Lib.hid (SixAt.on hr1 hb3)
  have HB := Lib.hid (hb1.trans ((hb2.trans (hb3.mono hb2.size)).mono hb1.size))
  have H14 := Lib.hid ho1
  simp only [World.size_alloc] at H12 H13 HB H14
  clear hm1 hb1 hr1 hb2 ho1 hb3 hod hmo f2 f7 f8 L k0 k1 k2 k3 k4 k5 hhow hlim hlost hpl
  obtain ⟨me, mn, ms, mj, mq, mk, md⟩ := m
  simp only [mc] at H12 HB H13 H14
  by_cases hsm : md.size ≤ 100 ∧ odd.length ≤ 10
  · obtain ⟨hd, ho⟩ := hsm
    have hdI : ¬ (100 : Int) < (md.size : Int) := by omega
    have hoI : ¬ (10 : Int) < (odd.length : Int) := by omega
    go_enter Tryd.func3, Tryd.ntmps3
    go_wp2_with fail; refine (fiAwake_any _ (HLL.out.below HB.out)).mono ?_; rintro e w1 ⟨rfl, hG⟩
    have H121 := Lib.hid (MsgAt.on H12.out hG); clear H12; have H12 := H121; clear H121
    have H131 := Lib.hid (SixAt.on H13.out hG); clear H13; have H13 := H131; clear H131
    have H141 := Lib.hid (FiAt.on H14.out hG); clear H14; have H14 := H141; clear H141
    have HB1 := Lib.hid (HB.out.trans (hG.mono HB.out.size)); clear HB; have HB := HB1; clear HB1
    clear hG
    obtain ⟨x0, x1, x2, x3, x4, x5, x6⟩ := MsgAt.cells H12.out
    simp only at x0 x1 x2 x3 x4 x5 x6
    obtain ⟨o0, o1, o2⟩ := H14.out.cells
    have cn := HCN.out.1
    go_wp2_with fail; refine (cn _).mono ?_; rintro e w2 ⟨rfl, hbc⟩
    clear x0 x1 x2 x3 x4 x5 x6 o0 o1 o2 cn
    have hiq : QIn w2 none 0 [] := ⟨Msgs.nil _ _ _, Nat.le_refl _, by decide, (fun m h => by cases h), fun ad e => by cases e⟩
    have hbq := Joins.below_alloc1 w2 (.cells #[.int .i64 LN, .int .i64 0, .slice none ([] : List Msg).length 0] 30)
    have hG := hbc.trans (hbq.mono hbc.size)
    have H20 := Lib.hid (FVar.new (L := LN) (T := 0) hiq)
    have H121 := Lib.hid (MsgAt.on H12.out hG); clear H12; have H12 := H121; clear H121
    have H131 := Lib.hid (SixAt.on H13.out hG); clear H13; have H13 := H131; clear H131
    have H141 := Lib.hid (FiAt.on H14.out hG); clear H14; have H14 := H141; clear H141
    have HB1 := Lib.hid (HB.out.trans (hG.mono HB.out.size)); clear HB; have HB := HB1; clear HB1
    clear hbq hG hbc hiq
    go_upto_region 5 with (fail)
    generalize hX : w2.alloc (.cells #[.int .i64 LN, .int .i64 0, .slice none ([] : List Msg).length 0] 30) = X5 at *
    clear hX
    generalize w2.heap.size = bH20 at *
    obtain ⟨o0, o1, o2⟩ := H14.out.cells
    have cn := HCN.out.2
    go_wp2_with fail; refine (cn _).mono ?_; rintro e w3 ⟨rfl, hbc⟩
    clear o0 o1 o2 cn
    have hiq : QIn w3 none 0 [] := ⟨Msgs.nil _ _ _, Nat.le_refl _, by decide, (fun m h => by cases h), fun ad e => by cases e⟩
    have hbq := Joins.below_alloc1 w3 (.cells #[.int .i64 LN, .int .i64 0, .slice none ([] : List Msg).length 0] 30)
    have hG := hbc.trans (hbq.mono hbc.size)
    have H22 := Lib.hid (FVar.new (L := LN) (T := 0) hiq)
    have H121 := Lib.hid (MsgAt.on H12.out hG); clear H12; have H12 := H121; clear H121
    have H131 := Lib.hid (SixAt.on H13.out hG); clear H13; have H13 := H131; clear H131
    have H141 := Lib.hid (FiAt.on H14.out hG); clear H14; have H14 := H141; clear H141
    have HB1 := Lib.hid (HB.out.trans (hG.mono HB.out.size)); clear HB; have HB := HB1; clear HB1
    have H201 := Lib.hid (FVar.on H20.out hG); clear H20; have H20 := H201; clear H201
    clear hbq hG hbc hiq
    go_upto_region 6 with (fail)
    generalize hX : w3.alloc (.cells #[.int .i64 LN, .int .i64 0, .slice none ([] : List Msg).length 0] 30) = X6 at *
    clear hX
    generalize w3.heap.size = bH22 at *
    obtain ⟨Aa, ca, hqa, hqi⟩ := H20.out
    obtain ⟨Ab, cb, hra, hri⟩ := H22.out
    obtain ⟨y0, y1, y2⟩ := hqa.cells
    obtain ⟨z0, z1, z2⟩ := hra.cells
    have hss := sameFi_any LN LN 0 0 Aa Ab ca cb ([] : List Msg) ([] : List Msg) X6 hqi hri
    rw [sameFi_self] at hss
    simp only [List.length_nil] at hss y2 z2
    clear hqa hqi hra hri
    go_wp2_with fail; refine hss.mono ?_; rintro e w4 ⟨rfl, hG⟩
    clear hss y0 y1 y2 z0 z1 z2
    have H121 := Lib.hid (MsgAt.on H12.out hG); clear H12; have H12 := H121; clear H121
    have H131 := Lib.hid (SixAt.on H13.out hG); clear H13; have H13 := H131; clear H131
    have H141 := Lib.hid (FiAt.on H14.out hG); clear H14; have H14 := H141; clear H141
    have HB1 := Lib.hid (HB.out.trans (hG.mono HB.out.size)); clear HB; have HB := HB1; clear HB1
    have H201 := Lib.hid (FVar.on H20.out hG); clear H20; have H20 := H201; clear H201
    have H221 := Lib.hid (FVar.on H22.out hG); clear H22; have H22 := H221; clear H221
    clear hG
    clear H20 H22
    have cq := HCQ.out w4 (rowsOk_on HF2.out HB.out)
    go_wp2_with fail; refine cq.mono ?_; rintro e w5 ⟨A8, c8, rfl, ht, hbc⟩
    clear cq
    have hiq := ht.qin (by omega) HQD.out
    clear ht
    have hbq := Joins.below_alloc1 w5 (.cells #[.int .i64 LQ, .int .i64 TQ, .slice A8 l.length c8] 30)
    have hG := hbc.trans (hbq.mono hbc.size)
    have H24 := Lib.hid (FVar.new (L := LQ) (T := TQ) hiq)
    have H121 := Lib.hid (MsgAt.on H12.out hG); clear H12; have H12 := H121; clear H121
    have H131 := Lib.hid (SixAt.on H13.out hG); clear H13; have H13 := H131; clear H131
    have H141 := Lib.hid (FiAt.on H14.out hG); clear H14; have H14 := H141; clear H141
    have HB1 := Lib.hid (HB.out.trans (hG.mono HB.out.size)); clear HB; have HB := HB1; clear HB1
    clear hbq hG hbc hiq
    go_upto_region 9 with (fail)
    generalize hX : w5.alloc (.cells #[.int .i64 LQ, .int .i64 TQ, .slice A8 l.length c8] 30) = X9 at *
    clear hX
    generalize w5.heap.size = bH24 at *
    obtain ⟨A24, c24, p24, i24⟩ := H24.out
    obtain ⟨y0, y1, y2⟩ := p24.cells
    have hoq := fiOwn_any LQ TQ A24 c24 l X9 i24
    clear p24 i24
    go_wp2_with fail; refine hoq.mono ?_; rintro e w6 ⟨A25, c25, rfl, how6, b2⟩
    clear y0 y1 y2 hoq
    have hb := Joins.below_alloc1 w6 (.cells #[.int .i64 LQ, .int .i64 TQ, .slice A25 l.length c25] 30)
    have hG := b2.trans (hb.mono b2.size)
    have HLT : Hid (bH24 < w6.heap.size ∧ w.heap.size + 1 < w6.heap.size ∧ X9.heap.size ≤ w6.heap.size) := Lib.hid ⟨(FVar.on H24.out b2).lt, by have := (FiAt.on H14.out b2).lt; omega, b2.size⟩
    have H25 := Lib.hid (FiAt.new w6 LQ TQ A25 l.length c25)
    have HO25 := Lib.hid (how6.on hb)
    have HNE : Hid (∀ g, (Value.slice A25 l.length c25).ownBlock = some g → g < w6.heap.size) := Lib.hid (fun g e => (World.ownsRow.lt how6 g e).2)
    have HX9 : Hid (X9.heap.size ≤ (w6.alloc (.cells #[.int .i64 LQ, .int .i64 TQ, .slice A25 l.length c25] 30)).heap.size) := Lib.hid hG.size
    have HGX := Lib.hid hG; have H24S := Lib.hid H24.out; have H12S := Lib.hid H12.out; have H13S := Lib.hid H13.out; have HBS := Lib.hid HB.out
    have H121 := Lib.hid (MsgAt.on H12.out hG); clear H12; have H12 := H121; clear H121
    have H131 := Lib.hid (SixAt.on H13.out hG); clear H13; have H13 := H131; clear H131
    have H141 := Lib.hid (FiAt.on H14.out hG); clear H14; have H14 := H141; clear H141
    have HB1 := Lib.hid (HB.out.trans (hG.mono HB.out.size)); clear HB; have HB := HB1; clear HB1
    have H241 := Lib.hid (FVar.on H24.out hG); clear H24; have H24 := H241; clear H241
    clear hG b2 hb how6
    have cp := HPH.out
    go_wp2_with fail; refine (cp _).mono ?_; rintro e w7 ⟨rfl, rfl⟩
    clear cp
    go_upto_block 0 with (fail)
    generalize hX : w6.alloc (.cells #[.int .i64 LQ, .int .i64 TQ, .slice A25 l.length c25] 30) = X11 at *
    clear hX
    generalize w6.heap.size = b25 at *
    go_cut [] (fun wx => ZFt w bH24 b25 LQ TQ l ⟨r0, r1, r2, r3, r4, r5⟩ ⟨me, mn, ms, mj, mq, mk, md⟩ wx)
    case first =>
      obtain ⟨z0, z1, z2⟩ := H25.out.cells
      have zf := H25.out.frozen
      obtain ⟨o0, o1, o2⟩ := H14.out.cells
      have hi9 := Lib.hid ((QTold.ofOwn (A0 := none) HO25.out).qin (by omega) HQD.out)
      rcases (show ph = 0 ∨ ph = 1 ∨ ph = 2 by omega) with hq | hq | hq
      · subst hq
        go_wp2_with fail
        go_meet
        exact ZFt.set (.int .i64 OL) H25.out (H25.out.limit OL) hi9.out (by omega) H24.out HB.out H12.out H13.out HLT.out.1 HLT.out.2.1
      · subst hq
        go_wp2_with fail
        go_meet
        exact ZFt.set (.int .i64 OT) H25.out (H25.out.lost OT) hi9.out (by omega) H24.out HB.out H12.out H13.out HLT.out.1 HLT.out.2.1
      · subst hq
        go_wp2_with (at_builtin; refine list_appM (by rfl) _ _ rfl X9.heap.size w.heap.size (.slice A25 l.length c25) l odd Ao co rfl rfl HO25.out (HMO.out.below HB.out (Nat.le_refl _)) HX9.out (by omega) ?_)
        intro u' w9 hown9 hg9
        have hG := OwnM.below HO25.out hg9 HX9.out
        have h25 : FiAt w9 b25 LQ TQ A25 l.length c25 := (hg9.block b25 H25.out.lt (fun e => Nat.lt_irrefl _ (HNE.out b25 e.symm))).trans H25.out
        obtain ⟨A7, c7, rfl, ht7⟩ := QTold.own (A0 := none) hown9
        have hi7 : Hid (QIn w9 A7 c7 (l ++ odd)) := Lib.hid (ht7.qin (by rw [List.length_append]; omega) (fun m hm => (List.mem_append.1 hm).elim (HQD.out m) (HOD.out m)))
        have H257 := Lib.hid h25
        have hG9 : Hid (Below X9.heap.size X11 w9) := Lib.hid hG
        have H24F : Hid (FVar w9 bH24 LQ TQ l) := Lib.hid (by obtain ⟨Aq, cq, q1, q2⟩ := H24S.out; exact FVar.on ⟨Aq, cq, q1, q2⟩ (HGX.out.trans hG))
        have H12F := Lib.hid (MsgAt.on H12S.out (HGX.out.trans hG)); have H13F := Lib.hid (SixAt.on H13S.out (HGX.out.trans hG)); have HBF := Lib.hid (HBS.out.trans ((HGX.out.trans hG).mono HBS.out.size))
        clear z0 z1 z2 zf o0 o1 o2
        obtain ⟨z0, z1, z2⟩ := h25.cells
        have zf := h25.frozen
        clear hown9 hg9 hG hG9 ht7 h25
        go_wp2_with fail
        go_meet
        rw [← List.length_append]
        exact ZFt.set (.slice A7 (l ++ odd).length c7) H257.out (H257.out.list A7 (l ++ odd).length c7) hi7.out (by rw [List.length_append]; omega) H24F.out HBF.out H12F.out H13F.out HLT.out.1 HLT.out.2.1
    case rest =>
      obtain ⟨⟨Lz, Tz, lz, hqz, hlz⟩, hq24, hB, hm, hr⟩ := hcut
      clear HB H12 H13 H14 H24 H25 HO25 HX9 HGX H24S H12S H13S HBS HNE HLT
      have HB := Lib.hid hB
      have H13 := Lib.hid hr
      have H12 := Lib.hid hm
      clear hB hr hm
      obtain ⟨A24, c24, p24, i24⟩ := hq24
      obtain ⟨A25, c25, p25, i25⟩ := hqz
      obtain ⟨y0, y1, y2⟩ := p24.cells
      obtain ⟨z0, z1, z2⟩ := p25.cells
      go_wp2_with fail
      have hG := Joins.below_alloc1 wc (.cells #[.int .i64 LQ, .int .i64 TQ, .slice A24 l.length c24, .int .i64 Lz, .int .i64 Tz, .slice A25 lz.length c25] 30)
      have HELS := Lib.hid (ElemF.two wc (L0 := LQ) (T0 := TQ) (L1 := Lz) (T1 := Tz) i24 i25 (by omega) hlz)
      have HB1 := Lib.hid (HB.out.trans (hG.mono HB.out.size)); clear HB; have HB := HB1; clear HB1
      have H121 := Lib.hid (MsgAt.on H12.out hG); clear H12; have H12 := H121; clear H121
      have H131 := Lib.hid (SixAt.on H13.out hG); clear H13; have H13 := H131; clear H131
      clear hG y0 y1 y2 z0 z1 z2 p24 p25 i24 i25
      generalize hX : wc.alloc (.cells #[.int .i64 LQ, .int .i64 TQ, .slice A24 l.length c24, .int .i64 Lz, .int .i64 Tz, .slice A25 lz.length c25] 30) = X16 at *
      clear hX
      generalize wc.heap.size = bq at *
      go_loopw [111] (fun i wr => ∃ k : Nat, k ≤ 2 ∧ i = .int .i64 k ∧ Below w.heap.size w wr ∧ MsgAt wr w.heap.size ⟨me, mn, ms, mj, mq, mk, md⟩ ∧ SixAt wr (w.heap.size + 1) ⟨r0, r1, r2, r3, r4, r5⟩ ∧ ∀ k, k < 2 → ElemF wr bq k) (fun i _ => 2 - (intOf i).toNat)
      case atStart => exact ⟨0, by omega, rfl, HB.out, H12.out, H13.out, HELS.out⟩
      case round =>
        clear HB H13 H12 HELS
        obtain ⟨k, hk2, rfl, hB, hM, hR, hE⟩ := hrel
        have HB := Lib.hid hB
        have H13 := Lib.hid hR
        have H12 := Lib.hid hM
        have HEL := Lib.hid hE
        clear hB hR hM hE
        by_cases hlt : k < 2
        · have hkI : (k : Int) < 2 := by omega
          obtain ⟨LZ, TZ, Az, cz, lz, y0, y1, y2, hiq, hl60, -⟩ := HEL.out k hlt
          have HZD : Hid (∀ m ∈ lz, m.data.size ≤ 140737488351232) := Lib.hid hiq.data
          have hbc := Below.refl wr.heap.size wr
          have hgo : True := trivial
          have hbq := Joins.below_alloc1 wr (.cells #[.int .i64 LZ, .int .i64 TZ, .slice Az lz.length cz] 30)
          have hG := hbc.trans (hbq.mono hbc.size)
          have H27 := Lib.hid (FVar.new (L := LZ) (T := TZ) hiq)
          have HB1 := Lib.hid (HB.out.trans (hG.mono HB.out.size)); clear HB; have HB := HB1; clear HB1
          have H121 := Lib.hid (MsgAt.on H12.out hG); clear H12; have H12 := H121; clear H121
          have H131 := Lib.hid (SixAt.on H13.out hG); clear H13; have H13 := H131; clear H131
          have HEL1 := Lib.hid (fun k hk => ElemF.on (HEL.out k hk) hG); clear HEL; have HEL := HEL1; clear HEL1
          clear hbq hG hbc hiq hgo
          go_upto_region 19 with (fail)
          clear y0 y1 y2
          generalize hX : wr.alloc (.cells #[.int .i64 LZ, .int .i64 TZ, .slice Az lz.length cz] 30) = X19 at *
          clear hX
          generalize wr.heap.size = b27 at *
          obtain ⟨fe, hfe⟩ : ∃ x, takeFiE LZ TZ lz = x := ⟨_, rfl⟩
          obtain ⟨fq, hfq⟩ : ∃ x, takeFiL LZ TZ lz = x := ⟨_, rfl⟩
          obtain ⟨fm, hfm⟩ : ∃ x, takeFiM LZ TZ lz = x := ⟨_, rfl⟩
          have HFE := Lib.hid (And.intro hfe (And.intro hfq hfm))
          clear hfe hfq hfm
          obtain ⟨ge, gn, gs, gj, gq, gk, gd⟩ := fm
          obtain ⟨Az, cz, hqa, hqi⟩ := H27.out
          obtain ⟨y0, y1, y2⟩ := hqa.cells
          have hpc := take_in LZ TZ Az cz lz X19 (HLL.out.below HB.out) hqi
          rw [HFE.out.1, HFE.out.2.1, HFE.out.2.2] at hpc
          delta FiInM at hpc
          simp only [mv] at hpc
          clear hqa hqi
          go_wp2_with fail; refine hpc.mono ?_; rintro e w28 ⟨A28, c28, rfl, hiq, hbc⟩
          clear y0 y1 y2 hpc
          have hbq := Joins.below_alloc1 w28 (.cells #[.int .i64 LZ, .int .i64 TZ, .slice A28 fq.length c28] 30)
          have hbm := Joins.below_alloc1 (w28.alloc (.cells #[.int .i64 LZ, .int .i64 TZ, .slice A28 fq.length c28] 30)) (.cells #[.bool ge, .int .i64 gn, .int .i64 gs, .int .i64 gj, .int .i64 gq, .int .i64 gk, .string gd] 26)
          have hG := hbc.trans ((hbq.trans (hbm.mono hbq.size)).mono hbc.size)
          have H28 := Lib.hid (FVar.on (FVar.new (L := LZ) (T := TZ) hiq) hbm)
          have H29 : Hid (MsgAt _ _ ⟨ge, gn, gs, gj, gq, gk, gd⟩) := Lib.hid (MsgAt.new (w28.alloc (.cells #[.int .i64 LZ, .int .i64 TZ, .slice A28 fq.length c28] 30)) ⟨ge, gn, gs, gj, gq, gk, gd⟩)
          have HB1 := Lib.hid (HB.out.trans (hG.mono HB.out.size)); clear HB; have HB := HB1; clear HB1
          have H121 := Lib.hid (MsgAt.on H12.out hG); clear H12; have H12 := H121; clear H121
          have H131 := Lib.hid (SixAt.on H13.out hG); clear H13; have H13 := H131; clear H131
          have HEL1 := Lib.hid (fun k hk => ElemF.on (HEL.out k hk) hG); clear HEL; have HEL := HEL1; clear HEL1
          have H271 := Lib.hid (FVar.on H27.out hG); clear H27; have H27 := H271; clear H271
          simp only [mc, World.size_alloc] at H28 H29
          clear hbq hbm hG hbc hiq
          go_upto_region 20 with (fail)
          generalize hX : (w28.alloc (.cells #[.int .i64 LZ, .int .i64 TZ, .slice A28 fq.length c28] 30)).alloc (.cells #[.bool ge, .int .i64 gn, .int .i64 gs, .int .i64 gj, .int .i64 gq, .int .i64 gk, .string gd] 26) = X20 at *
          clear hX
          generalize w28.heap.size = bH28 at *
          obtain ⟨Az, cz, hqa, hqi⟩ := H27.out
          obtain ⟨y0, y1, y2⟩ := hqa.cells
          have hpc := ref_take_in LZ TZ Az cz lz X20 hqi
          rw [HFE.out.1, HFE.out.2.1, HFE.out.2.2] at hpc
          delta FiInM at hpc
          simp only [mv] at hpc
          clear hqa hqi
          go_wp2_with fail; refine hpc.mono ?_; rintro e w31 ⟨A31, c31, rfl, hiq, hbc⟩
          clear y0 y1 y2 hpc
          have hbq := Joins.below_alloc1 w31 (.cells #[.int .i64 LZ, .int .i64 TZ, .slice A31 fq.length c31] 30)
          have hbm := Joins.below_alloc1 (w31.alloc (.cells #[.int .i64 LZ, .int .i64 TZ, .slice A31 fq.length c31] 30)) (.cells #[.bool ge, .int .i64 gn, .int .i64 gs, .int .i64 gj, .int .i64 gq, .int .i64 gk, .string gd] 26)
          have hG := hbc.trans ((hbq.trans (hbm.mono hbq.size)).mono hbc.size)
          have H31 := Lib.hid (FVar.on (FVar.new (L := LZ) (T := TZ) hiq) hbm)
          have H32 : Hid (MsgAt _ _ ⟨ge, gn, gs, gj, gq, gk, gd⟩) := Lib.hid (MsgAt.new (w31.alloc (.cells #[.int .i64 LZ, .int .i64 TZ, .slice A31 fq.length c31] 30)) ⟨ge, gn, gs, gj, gq, gk, gd⟩)
          have HB1 := Lib.hid (HB.out.trans (hG.mono HB.out.size)); clear HB; have HB := HB1; clear HB1
          have H121 := Lib.hid (MsgAt.on H12.out hG); clear H12; have H12 := H121; clear H121
          have H131 := Lib.hid (SixAt.on H13.out hG); clear H13; have H13 := H131; clear H131
          have HEL1 := Lib.hid (fun k hk => ElemF.on (HEL.out k hk) hG); clear HEL; have HEL := HEL1; clear HEL1
          have H271 := Lib.hid (FVar.on H27.out hG); clear H27; have H27 := H271; clear H271
          have H281 := Lib.hid (FVar.on H28.out hG); clear H28; have H28 := H281; clear H281
          have H291 := Lib.hid (MsgAt.on H29.out hG); clear H29; have H29 := H291; clear H291
          simp only [mc, World.size_alloc] at H31 H32
          clear hbq hbm hG hbc hiq
          go_upto_region 21 with (fail)
          generalize hX : (w31.alloc (.cells #[.int .i64 LZ, .int .i64 TZ, .slice A31 fq.length c31] 30)).alloc (.cells #[.bool ge, .int .i64 gn, .int .i64 gs, .int .i64 gj, .int .i64 gq, .int .i64 gk, .string gd] 26) = X21 at *
          clear hX
          generalize w31.heap.size = bH31 at *
          obtain ⟨le, hle⟩ : ∃ x, lostFiE LZ TZ lz = x := ⟨_, rfl⟩
          obtain ⟨tl, hlt9⟩ : ∃ x, lostFiT LZ TZ lz = x := ⟨_, rfl⟩
          obtain ⟨ln, hln⟩ : ∃ x, lostFiN LZ TZ lz = x := ⟨_, rfl⟩
          have HLE := Lib.hid (And.intro hle (And.intro hlt9 hln))
          clear hle hlt9 hln
          obtain ⟨Az, cz, hqa, hqi⟩ := H27.out
          obtain ⟨y0, y1, y2⟩ := hqa.cells
          have hpc := lost_in LZ TZ Az cz lz X21 (HLL.out.below HB.out) hqi
          rw [HLE.out.1, HLE.out.2.1, HLE.out.2.2] at hpc
          delta FiIn at hpc
          clear hqa hqi
          go_wp2_with fail; refine hpc.mono ?_; rintro e w34 ⟨A34, c34, rfl, hiq, hbc⟩
          clear y0 y1 y2 hpc
          have hbq := Joins.below_alloc1 w34 (.cells #[.int .i64 LZ, .int .i64 tl, .slice A34 lz.length c34] 30)
          have hG := hbc.trans (hbq.mono hbc.size)
          have H34 := Lib.hid (FVar.new (L := LZ) (T := tl) hiq)
          have HB1 := Lib.hid (HB.out.trans (hG.mono HB.out.size)); clear HB; have HB := HB1; clear HB1
          have H121 := Lib.hid (MsgAt.on H12.out hG); clear H12; have H12 := H121; clear H121
          have H131 := Lib.hid (SixAt.on H13.out hG); clear H13; have H13 := H131; clear H131
          have HEL1 := Lib.hid (fun k hk => ElemF.on (HEL.out k hk) hG); clear HEL; have HEL := HEL1; clear HEL1
          have H271 := Lib.hid (FVar.on H27.out hG); clear H27; have H27 := H271; clear H271
          have H281 := Lib.hid (FVar.on H28.out hG); clear H28; have H28 := H281; clear H281
          have H291 := Lib.hid (MsgAt.on H29.out hG); clear H29; have H29 := H291; clear H291
          have H311 := Lib.hid (FVar.on H31.out hG); clear H31; have H31 := H311; clear H311
          have H321 := Lib.hid (MsgAt.on H32.out hG); clear H32; have H32 := H321; clear H321
          clear hbq hG hbc hiq
          go_upto_region 22 with (fail)
          generalize hX : w34.alloc (.cells #[.int .i64 LZ, .int .i64 tl, .slice A34 lz.length c34] 30) = X22 at *
          clear hX
          generalize w34.heap.size = bH34 at *
          obtain ⟨Az, cz, hqa, hqi⟩ := H27.out
          obtain ⟨y0, y1, y2⟩ := hqa.cells
          have hpc := ref_lost_in LZ TZ Az cz lz X22 hqi
          rw [HLE.out.1, HLE.out.2.1, HLE.out.2.2] at hpc
          delta FiIn at hpc
          clear hqa hqi
          go_wp2_with fail; refine hpc.mono ?_; rintro e w37 ⟨A37, c37, rfl, hiq, hbc⟩
          clear y0 y1 y2 hpc
          have hbq := Joins.below_alloc1 w37 (.cells #[.int .i64 LZ, .int .i64 tl, .slice A37 lz.length c37] 30)
          have hG := hbc.trans (hbq.mono hbc.size)
          have H37 := Lib.hid (FVar.new (L := LZ) (T := tl) hiq)
          have HB1 := Lib.hid (HB.out.trans (hG.mono HB.out.size)); clear HB; have HB := HB1; clear HB1
          have H121 := Lib.hid (MsgAt.on H12.out hG); clear H12; have H12 := H121; clear H121
          have H131 := Lib.hid (SixAt.on H13.out hG); clear H13; have H13 := H131; clear H131
          have HEL1 := Lib.hid (fun k hk => ElemF.on (HEL.out k hk) hG); clear HEL; have HEL := HEL1; clear HEL1
          have H271 := Lib.hid (FVar.on H27.out hG); clear H27; have H27 := H271; clear H271
          have H281 := Lib.hid (FVar.on H28.out hG); clear H28; have H28 := H281; clear H281
          have H291 := Lib.hid (MsgAt.on H29.out hG); clear H29; have H29 := H291; clear H291
          have H311 := Lib.hid (FVar.on H31.out hG); clear H31; have H31 := H311; clear H311
          have H321 := Lib.hid (MsgAt.on H32.out hG); clear H32; have H32 := H321; clear H321
          have H341 := Lib.hid (FVar.on H34.out hG); clear H34; have H34 := H341; clear H341
          clear hbq hG hbc hiq
          go_upto_region 23 with (fail)
          generalize hX : w37.alloc (.cells #[.int .i64 LZ, .int .i64 tl, .slice A37 lz.length c37] 30) = X23 at *
          clear hX
          generalize w37.heap.size = bH37 at *
          have hEG := fun x y w => eqM_guard .neq x y ⟨ge, gn, gs, gj, gq, gk, gd⟩ ⟨ge, gn, gs, gj, gq, gk, gd⟩ w
          have hNE := neqM ⟨ge, gn, gs, gj, gq, gk, gd⟩ ⟨ge, gn, gs, gj, gq, gk, gd⟩
          rw [(sameM_iff _ _).2 rfl] at hNE
          simp only [mv] at hEG hNE
          obtain ⟨Az, cz, hqa, hqi⟩ := H27.out
          obtain ⟨A28, c28, p28, i28⟩ := H28.out
          obtain ⟨A31, c31, p31, i31⟩ := H31.out
          obtain ⟨A34, c34, p34, i34⟩ := H34.out
          obtain ⟨A37, c37, p37, i37⟩ := H37.out
          have HQA := Lib.hid hqa; have HP28 := Lib.hid p28; have HP31 := Lib.hid p31; have HP34 := Lib.hid p34; have HP37 := Lib.hid p37
          have HI := Lib.hid (And.intro hqi (And.intro i28 (And.intro i31 (And.intro i34 i37))))
          have CS : Hid (∀ W, Below X23.heap.size X23 W → Calls Tryd.prog 13 #[fiv LZ TZ A28 fq.length c28, fiv LZ TZ A31 fq.length c31] W fun e w' => e = .returned (.bool true) ∧ Below W.heap.size W w') := Lib.hid (fun W h => by
            have q := sameFi_any LZ LZ TZ TZ A28 A31 c28 c31 fq fq W (HI.out.2.1.on h) (HI.out.2.2.1.on h)
            rw [sameFi_self] at q; exact q)
          have CT : Hid (∀ W, Below X23.heap.size X23 W → Calls Tryd.prog 13 #[fiv LZ tl A34 lz.length c34, fiv LZ tl A37 lz.length c37] W fun e w' => e = .returned (.bool true) ∧ Below W.heap.size W w') := Lib.hid (fun W h => by
            have q := sameFi_any LZ LZ tl tl A34 A37 c34 c37 lz lz W (HI.out.2.2.2.1.on h) (HI.out.2.2.2.2.on h)
            rw [sameFi_self] at q; exact q)
          obtain ⟨rq, hrq⟩ : ∃ rq, rightFi LZ TZ lz = rq := ⟨_, rfl⟩
          have C1 : Hid (∀ W, Below X23.heap.size X23 W → Calls Tryd.prog 21 #[fiv LZ TZ Az lz.length cz] W fun e w' => e = .returned (.bool rq) ∧ Below W.heap.size W w') := Lib.hid (fun W h => by rw [← hrq]; exact rightFi_any LZ TZ Az cz lz W (HLL.out.below (HB.out.trans (h.mono HB.out.size))) (HI.out.1.on h))
          have C2 : Hid (∀ W, Below X23.heap.size X23 W → Calls Tryd.prog 22 #[fiv LZ TZ Az lz.length cz] W fun e w' => e = .returned (.bool rq) ∧ Below W.heap.size W w') := Lib.hid (fun W h => by rw [← hrq]; exact refRightFi_any LZ TZ Az cz lz W (HI.out.1.on h))
          clear hqa hqi p28 i28 p31 i31 p34 i34 p37 i37 hrq
          have HV : ∃ Vp : Nat → (Nat → Value) → World → Prop, Vp = (fun ix u wv => match ix with
            | 0 => u 0 = .agg #[.int .i64 LZ, .int .i64 TZ, .slice A28 fq.length c28]
            | 1 => u 1 = .agg #[.int .i64 LZ, .int .i64 TZ, .slice A31 fq.length c31]
            | 2 => u 2 = .bool true
            | 3 => u 3 = .bool false
            | 4 => u 4 = .bool false
            | 5 => u 5 = .agg #[.bool ge, .int .i64 gn, .int .i64 gs, .int .i64 gj, .int .i64 gq, .int .i64 gk, .string gd]
            | 6 => u 6 = .agg #[.bool ge, .int .i64 gn, .int .i64 gs, .int .i64 gj, .int .i64 gq, .int .i64 gk, .string gd]
            | 7 => u 7 = .bool false
            | 8 => u 8 = .bool false
            | 9 => u 9 = .bool false
            | 10 => u 10 = .int .i64 fe
            | 11 => u 11 = .int .i64 fe
            | 12 => u 12 = .bool false
            | 13 => u 13 = .bool false
            | 14 => u 14 = .bool false
            | 15 => u 15 = .agg #[.int .i64 LZ, .int .i64 tl, .slice A34 lz.length c34]
            | 16 => u 16 = .agg #[.int .i64 LZ, .int .i64 tl, .slice A37 lz.length c37]
            | 17 => u 17 = .bool true
            | 18 => u 18 = .bool false
            | 19 => u 19 = .bool false
            | 20 => u 20 = .bool false
            | 21 => u 21 = .int .i64 ln
            | 22 => u 22 = .int .i64 ln
            | 23 => u 23 = .bool false
            | 24 => u 24 = .bool false
            | 25 => u 25 = .bool false
            | 26 => u 26 = .int .i64 le
            | 27 => u 27 = .int .i64 le
            | 28 => u 28 = .bool false
            | 29 => u 29 = .bool false
            | 30 => u 30 = .bool false
            | 31 => u 31 = .agg #[.int .i64 LZ, .int .i64 TZ, .slice Az lz.length cz]
            | 32 => u 32 = .bool rq
            | 33 => u 33 = .agg #[.int .i64 LZ, .int .i64 TZ, .slice Az lz.length cz]
            | 34 => u 34 = .bool rq
            | 35 => u 35 = .bool false
            | 36 => u 36 = .bool false
            | _ => True) := ⟨_, rfl⟩
          obtain ⟨Vp, hVdef⟩ := HV
          have Vp0 : ∀ u wv, Vp 0 u wv = (u 0 = .agg #[.int .i64 LZ, .int .i64 TZ, .slice A28 fq.length c28]) := fun u wv => by subst hVdef; rfl
          have Vp1 : ∀ u wv, Vp 1 u wv = (u 1 = .agg #[.int .i64 LZ, .int .i64 TZ, .slice A31 fq.length c31]) := fun u wv => by subst hVdef; rfl
          have Vp2 : ∀ u wv, Vp 2 u wv = (u 2 = .bool true) := fun u wv => by subst hVdef; rfl
          have Vp3 : ∀ u wv, Vp 3 u wv = (u 3 = .bool false) := fun u wv => by subst hVdef; rfl
          have Vp4 : ∀ u wv, Vp 4 u wv = (u 4 = .bool false) := fun u wv => by subst hVdef; rfl
          have Vp5 : ∀ u wv, Vp 5 u wv = (u 5 = .agg #[.bool ge, .int .i64 gn, .int .i64 gs, .int .i64 gj, .int .i64 gq, .int .i64 gk, .string gd]) := fun u wv => by subst hVdef; rfl
          have Vp6 : ∀ u wv, Vp 6 u wv = (u 6 = .agg #[.bool ge, .int .i64 gn, .int .i64 gs, .int .i64 gj, .int .i64 gq, .int .i64 gk, .string gd]) := fun u wv => by subst hVdef; rfl
          have Vp7 : ∀ u wv, Vp 7 u wv = (u 7 = .bool false) := fun u wv => by subst hVdef; rfl
          have Vp8 : ∀ u wv, Vp 8 u wv = (u 8 = .bool false) := fun u wv => by subst hVdef; rfl
          have Vp9 : ∀ u wv, Vp 9 u wv = (u 9 = .bool false) := fun u wv => by subst hVdef; rfl
          have Vp10 : ∀ u wv, Vp 10 u wv = (u 10 = .int .i64 fe) := fun u wv => by subst hVdef; rfl
          have Vp11 : ∀ u wv, Vp 11 u wv = (u 11 = .int .i64 fe) := fun u wv => by subst hVdef; rfl
          have Vp12 : ∀ u wv, Vp 12 u wv = (u 12 = .bool false) := fun u wv => by subst hVdef; rfl
          have Vp13 : ∀ u wv, Vp 13 u wv = (u 13 = .bool false) := fun u wv => by subst hVdef; rfl
          have Vp14 : ∀ u wv, Vp 14 u wv = (u 14 = .bool false) := fun u wv => by subst hVdef; rfl
          have Vp15 : ∀ u wv, Vp 15 u wv = (u 15 = .agg #[.int .i64 LZ, .int .i64 tl, .slice A34 lz.length c34]) := fun u wv => by subst hVdef; rfl
          have Vp16 : ∀ u wv, Vp 16 u wv = (u 16 = .agg #[.int .i64 LZ, .int .i64 tl, .slice A37 lz.length c37]) := fun u wv => by subst hVdef; rfl
          have Vp17 : ∀ u wv, Vp 17 u wv = (u 17 = .bool true) := fun u wv => by subst hVdef; rfl
          have Vp18 : ∀ u wv, Vp 18 u wv = (u 18 = .bool false) := fun u wv => by subst hVdef; rfl
          have Vp19 : ∀ u wv, Vp 19 u wv = (u 19 = .bool false) := fun u wv => by subst hVdef; rfl
          have Vp20 : ∀ u wv, Vp 20 u wv = (u 20 = .bool false) := fun u wv => by subst hVdef; rfl
          have Vp21 : ∀ u wv, Vp 21 u wv = (u 21 = .int .i64 ln) := fun u wv => by subst hVdef; rfl
          have Vp22 : ∀ u wv, Vp 22 u wv = (u 22 = .int .i64 ln) := fun u wv => by subst hVdef; rfl
          have Vp23 : ∀ u wv, Vp 23 u wv = (u 23 = .bool false) := fun u wv => by subst hVdef; rfl
          have Vp24 : ∀ u wv, Vp 24 u wv = (u 24 = .bool false) := fun u wv => by subst hVdef; rfl
          have Vp25 : ∀ u wv, Vp 25 u wv = (u 25 = .bool false) := fun u wv => by subst hVdef; rfl
          have Vp26 : ∀ u wv, Vp 26 u wv = (u 26 = .int .i64 le) := fun u wv => by subst hVdef; rfl
          have Vp27 : ∀ u wv, Vp 27 u wv = (u 27 = .int .i64 le) := fun u wv => by subst hVdef; rfl
          have Vp28 : ∀ u wv, Vp 28 u wv = (u 28 = .bool false) := fun u wv => by subst hVdef; rfl
          have Vp29 : ∀ u wv, Vp 29 u wv = (u 29 = .bool false) := fun u wv => by subst hVdef; rfl
          have Vp30 : ∀ u wv, Vp 30 u wv = (u 30 = .bool false) := fun u wv => by subst hVdef; rfl
          have Vp31 : ∀ u wv, Vp 31 u wv = (u 31 = .agg #[.int .i64 LZ, .int .i64 TZ, .slice Az lz.length cz]) := fun u wv => by subst hVdef; rfl
          have Vp32 : ∀ u wv, Vp 32 u wv = (u 32 = .bool rq) := fun u wv => by subst hVdef; rfl
          have Vp33 : ∀ u wv, Vp 33 u wv = (u 33 = .agg #[.int .i64 LZ, .int .i64 TZ, .slice Az lz.length cz]) := fun u wv => by subst hVdef; rfl
          have Vp34 : ∀ u wv, Vp 34 u wv = (u 34 = .bool rq) := fun u wv => by subst hVdef; rfl
          have Vp35 : ∀ u wv, Vp 35 u wv = (u 35 = .bool false) := fun u wv => by subst hVdef; rfl
          have Vp36 : ∀ u wv, Vp 36 u wv = (u 36 = .bool false) := fun u wv => by subst hVdef; rfl
          have HVD := Lib.hid hVdef
          clear hVdef
          refine region_each (V := Vp) (drop := fun _ _ => false) (G := fun wv => Below X23.heap.size X23 wv) (Rel := fun jx wv wv' => Below wv.heap.size wv wv') (by kernel_rfl) (by kernel_rfl) (Below.refl _ _).drew ?hmonoc1 ?hdepc1 ⟨?s0_c1, ?s1_c1, ?s2_c1, ?s3_c1, ?s4_c1, ?s5_c1, ?s6_c1, ?s7_c1, ?s8_c1, ?s9_c1, ?s10_c1, ?s11_c1, ?s12_c1, ?s13_c1, ?s14_c1, ?s15_c1, ?s16_c1, ?s17_c1, ?s18_c1, ?s19_c1, ?s20_c1, ?s21_c1, ?s22_c1, ?s23_c1, ?s24_c1, ?s25_c1, ?s26_c1, ?s27_c1, ?s28_c1, ?s29_c1, ?s30_c1, ?s31_c1, ?s32_c1, ?s33_c1, ?s34_c1, ?s35_c1, ?s36_c1, trivial⟩ ?behindc1
          case hmonoc1 =>
            intro ix jx u wv wv' hij hw hd hr
            rw [HVD.out]
            dsimp only
            split <;> intro h <;> first | exact trivial | exact h
          case hdepc1 =>
            intro ix u u' wv h1 h2
            rw [HVD.out]
            dsimp only
            split <;> intro h <;> first | exact trivial | (rw [← h1]; exact h)
          case s0_c1 =>
            refine owe rfl fun a wx val hG hV hN hO K hK => ?_
            have e28 : a.tmps[28]? = some (.pointer (some ⟨bH28, 0, none⟩)) := (hO 28 (by kernel_rfl)).trans (by rfl)
            clear hV hN hO
            obtain ⟨v0, v1, v2⟩ := (HQA.out.on hG).cells
            obtain ⟨s0, s1, s2⟩ := (HP28.out.on hG).cells
            obtain ⟨t0, t1, t2⟩ := (HP31.out.on hG).cells
            obtain ⟨p0, p1, p2⟩ := (HP34.out.on hG).cells
            obtain ⟨q0, q1, q2⟩ := (HP37.out.on hG).cells
            obtain ⟨z0, z1, z2, z3, z4, z5, z6⟩ := MsgAt.cells (MsgAt.on H29.out hG)
            obtain ⟨u0, u1, u2, u3, u4, u5, u6⟩ := MsgAt.cells (MsgAt.on H32.out hG)
            go_simp
            exact hK.out _ _ (by rw [Vp0, upd_at] <;> (congr 1 <;> omega)) (Below.refl _ _) hG
          case s1_c1 =>
            refine owe rfl fun a wx val hG hV hN hO K hK => ?_
            have e31 : a.tmps[31]? = some (.pointer (some ⟨bH31, 0, none⟩)) := (hO 31 (by kernel_rfl)).trans (by rfl)
            clear hV hN hO
            obtain ⟨v0, v1, v2⟩ := (HQA.out.on hG).cells
            obtain ⟨s0, s1, s2⟩ := (HP28.out.on hG).cells
            obtain ⟨t0, t1, t2⟩ := (HP31.out.on hG).cells
            obtain ⟨p0, p1, p2⟩ := (HP34.out.on hG).cells
            obtain ⟨q0, q1, q2⟩ := (HP37.out.on hG).cells
            obtain ⟨z0, z1, z2, z3, z4, z5, z6⟩ := MsgAt.cells (MsgAt.on H29.out hG)
            obtain ⟨u0, u1, u2, u3, u4, u5, u6⟩ := MsgAt.cells (MsgAt.on H32.out hG)
            go_simp
            exact hK.out _ _ (by rw [Vp1, upd_at] <;> (congr 1 <;> omega)) (Below.refl _ _) hG
          case s2_c1 =>
            refine owe rfl fun a wx val hG hV hN hO K hK => ?_
            have e139 := hN 0 139 (by kernel_rfl) (by kernel_rfl) (by simp)
            have f139 := hV 0 (by kernel_rfl) (by kernel_rfl)
            rw [Vp0] at f139; rw [f139] at e139; clear f139
            have e140 := hN 1 140 (by kernel_rfl) (by kernel_rfl) (by simp)
            have f140 := hV 1 (by kernel_rfl) (by kernel_rfl)
            rw [Vp1] at f140; rw [f140] at e140; clear f140
            clear hV hN hO
            go_simp
            refine (CS.out _ hG).mono ?_
            rintro e w11 ⟨rfl, hb⟩
            exact hK.out _ _ (by rw [Vp2, upd_at]) hb (hG.trans (hb.mono hG.size))
          case s3_c1 =>
            refine owe rfl fun a wx val hG hV hN hO K hK => ?_
            have e141 := hN 2 141 (by kernel_rfl) (by kernel_rfl) (by simp)
            have f141 := hV 2 (by kernel_rfl) (by kernel_rfl)
            rw [Vp2] at f141; rw [f141] at e141; clear f141
            clear hV hN hO
            go_simp
            exact hK.out _ _ (by rw [Vp3, upd_at] <;> (congr 1 <;> omega)) (Below.refl _ _) hG
          case s4_c1 =>
            refine owe rfl fun a wx val hG hV hN hO K hK => ?_
            have e142 := hN 3 142 (by kernel_rfl) (by kernel_rfl) (by simp)
            have f142 := hV 3 (by kernel_rfl) (by kernel_rfl)
            rw [Vp3] at f142; rw [f142] at e142; clear f142
            clear hV hN hO
            go_simp
            exact hK.out _ _ (by rw [Vp4, upd_at] <;> (congr 1 <;> omega)) (Below.refl _ _) hG
          case s5_c1 =>
            refine owe_cond (g := 4) (t := 143) (b := false) (c := false) (d := true) true (by first | rfl | simp) rfl (by kernel_rfl) (by kernel_rfl) (by kernel_rfl) (by simp) (fun val w h => by rw [Vp4] at h; first | exact h | simpa using h) (fun hd a wx val hG hV hN hO K hK => ?_) (fun hd val w => by first | exact absurd hd (by decide) | rw [Vp5, upd_at, if_neg (by rw [hd]; decide)])
            have e29 : a.tmps[29]? = some (.pointer (some ⟨bH28 + 1, 0, none⟩)) := (hO 29 (by kernel_rfl)).trans (by rfl)
            clear hV hN hO
            obtain ⟨v0, v1, v2⟩ := (HQA.out.on hG).cells
            obtain ⟨s0, s1, s2⟩ := (HP28.out.on hG).cells
            obtain ⟨t0, t1, t2⟩ := (HP31.out.on hG).cells
            obtain ⟨p0, p1, p2⟩ := (HP34.out.on hG).cells
            obtain ⟨q0, q1, q2⟩ := (HP37.out.on hG).cells
            obtain ⟨z0, z1, z2, z3, z4, z5, z6⟩ := MsgAt.cells (MsgAt.on H29.out hG)
            obtain ⟨u0, u1, u2, u3, u4, u5, u6⟩ := MsgAt.cells (MsgAt.on H32.out hG)
            go_simp
            exact hK.out _ _ (by rw [Vp5, upd_at] <;> (congr 1 <;> omega)) (Below.refl _ _) hG
          case s6_c1 =>
            refine owe_cond (g := 4) (t := 143) (b := false) (c := false) (d := true) true (by first | rfl | simp) rfl (by kernel_rfl) (by kernel_rfl) (by kernel_rfl) (by simp) (fun val w h => by rw [Vp4] at h; first | exact h | simpa using h) (fun hd a wx val hG hV hN hO K hK => ?_) (fun hd val w => by first | exact absurd hd (by decide) | rw [Vp6, upd_at, if_neg (by rw [hd]; decide)])
            have e32 : a.tmps[32]? = some (.pointer (some ⟨bH31 + 1, 0, none⟩)) := (hO 32 (by kernel_rfl)).trans (by rfl)
            clear hV hN hO
            obtain ⟨v0, v1, v2⟩ := (HQA.out.on hG).cells
            obtain ⟨s0, s1, s2⟩ := (HP28.out.on hG).cells
            obtain ⟨t0, t1, t2⟩ := (HP31.out.on hG).cells
            obtain ⟨p0, p1, p2⟩ := (HP34.out.on hG).cells
            obtain ⟨q0, q1, q2⟩ := (HP37.out.on hG).cells
            obtain ⟨z0, z1, z2, z3, z4, z5, z6⟩ := MsgAt.cells (MsgAt.on H29.out hG)
            obtain ⟨u0, u1, u2, u3, u4, u5, u6⟩ := MsgAt.cells (MsgAt.on H32.out hG)
            go_simp
            exact hK.out _ _ (by rw [Vp6, upd_at] <;> (congr 1 <;> omega)) (Below.refl _ _) hG
          case s7_c1 =>
            refine owe_cond (g := 4) (t := 143) (b := false) (c := false) (d := true) true (by first | rfl | simp) rfl (by kernel_rfl) (by kernel_rfl) (by kernel_rfl) (by simp) (fun val w h => by rw [Vp4] at h; first | exact h | simpa using h) (fun hd a wx val hG hV hN hO K hK => ?_) (fun hd val w => by first | exact absurd hd (by decide) | rw [Vp7, upd_at, if_neg (by rw [hd]; decide)])
            have e144 := hN 5 144 (by kernel_rfl) (by kernel_rfl) (by simp)
            have f144 := hV 5 (by kernel_rfl) (by kernel_rfl)
            rw [Vp5] at f144; rw [f144] at e144; clear f144
            have e145 := hN 6 145 (by kernel_rfl) (by kernel_rfl) (by simp)
            have f145 := hV 6 (by kernel_rfl) (by kernel_rfl)
            rw [Vp6] at f145; rw [f145] at e145; clear f145
            clear hV hN hO
            go_simp
            exact hK.out _ _ (by rw [Vp7, upd_at] <;> (congr 1 <;> omega)) (Below.refl _ _) hG
          case s8_c1 =>
            refine owe rfl fun a wx val hG hV hN hO K hK => ?_
            have e143 := hN 4 143 (by kernel_rfl) (by kernel_rfl) (by simp)
            have f143 := hV 4 (by kernel_rfl) (by kernel_rfl)
            rw [Vp4] at f143; rw [f143] at e143; clear f143
            have e146 := hN 7 146 (by kernel_rfl) (by kernel_rfl) (by simp)
            have f146 := hV 7 (by kernel_rfl) (by kernel_rfl)
            rw [Vp7] at f146; rw [f146] at e146; clear f146
            clear hV hN hO
            go_simp
            exact hK.out _ _ (by rw [Vp8, upd_at] <;> simp) (Below.refl _ _) hG
          case s9_c1 =>
            refine owe rfl fun a wx val hG hV hN hO K hK => ?_
            have e147 := hN 8 147 (by kernel_rfl) (by kernel_rfl) (by simp)
            have f147 := hV 8 (by kernel_rfl) (by kernel_rfl)
            rw [Vp8] at f147; rw [f147] at e147; clear f147
            clear hV hN hO
            go_simp
            exact hK.out _ _ (by rw [Vp9, upd_at] <;> (congr 1 <;> omega)) (Below.refl _ _) hG
          case s10_c1 =>
            refine owe_cond (g := 9) (t := 148) (b := false) (c := false) (d := true) true (by first | rfl | simp) rfl (by kernel_rfl) (by kernel_rfl) (by kernel_rfl) (by simp) (fun val w h => by rw [Vp9] at h; first | exact h | simpa using h) (fun hd a wx val hG hV hN hO K hK => ?_) (fun hd val w => by first | exact absurd hd (by decide) | rw [Vp10, upd_at, if_neg (by rw [hd]; decide)])
            have e30 : a.tmps[30]? = some (.int .i64 fe) := (hO 30 (by kernel_rfl)).trans (by rfl)
            clear hV hN hO
            go_simp
            exact hK.out _ _ (by rw [Vp10, upd_at] <;> (congr 1 <;> omega)) (Below.refl _ _) hG
          case s11_c1 =>
            refine owe_cond (g := 9) (t := 148) (b := false) (c := false) (d := true) true (by first | rfl | simp) rfl (by kernel_rfl) (by kernel_rfl) (by kernel_rfl) (by simp) (fun val w h => by rw [Vp9] at h; first | exact h | simpa using h) (fun hd a wx val hG hV hN hO K hK => ?_) (fun hd val w => by first | exact absurd hd (by decide) | rw [Vp11, upd_at, if_neg (by rw [hd]; decide)])
            have e33 : a.tmps[33]? = some (.int .i64 fe) := (hO 33 (by kernel_rfl)).trans (by rfl)
            clear hV hN hO
            go_simp
            exact hK.out _ _ (by rw [Vp11, upd_at] <;> (congr 1 <;> omega)) (Below.refl _ _) hG
          case s12_c1 =>
            refine owe_cond (g := 9) (t := 148) (b := false) (c := false) (d := true) true (by first | rfl | simp) rfl (by kernel_rfl) (by kernel_rfl) (by kernel_rfl) (by simp) (fun val w h => by rw [Vp9] at h; first | exact h | simpa using h) (fun hd a wx val hG hV hN hO K hK => ?_) (fun hd val w => by first | exact absurd hd (by decide) | rw [Vp12, upd_at, if_neg (by rw [hd]; decide)])
            have e149 := hN 10 149 (by kernel_rfl) (by kernel_rfl) (by simp)
            have f149 := hV 10 (by kernel_rfl) (by kernel_rfl)
            rw [Vp10] at f149; rw [f149] at e149; clear f149
            have e150 := hN 11 150 (by kernel_rfl) (by kernel_rfl) (by simp)
            have f150 := hV 11 (by kernel_rfl) (by kernel_rfl)
            rw [Vp11] at f150; rw [f150] at e150; clear f150
            clear hV hN hO
            go_simp
            exact hK.out _ _ (by rw [Vp12, upd_at] <;> (congr 1 <;> omega)) (Below.refl _ _) hG
          case s13_c1 =>
            refine owe rfl fun a wx val hG hV hN hO K hK => ?_
            have e148 := hN 9 148 (by kernel_rfl) (by kernel_rfl) (by simp)
            have f148 := hV 9 (by kernel_rfl) (by kernel_rfl)
            rw [Vp9] at f148; rw [f148] at e148; clear f148
            have e151 := hN 12 151 (by kernel_rfl) (by kernel_rfl) (by simp)
            have f151 := hV 12 (by kernel_rfl) (by kernel_rfl)
            rw [Vp12] at f151; rw [f151] at e151; clear f151
            clear hV hN hO
            go_simp
            exact hK.out _ _ (by rw [Vp13, upd_at] <;> simp) (Below.refl _ _) hG
          case s14_c1 =>
            refine owe rfl fun a wx val hG hV hN hO K hK => ?_
            have e152 := hN 13 152 (by kernel_rfl) (by kernel_rfl) (by simp)
            have f152 := hV 13 (by kernel_rfl) (by kernel_rfl)
            rw [Vp13] at f152; rw [f152] at e152; clear f152
            clear hV hN hO
            go_simp
            exact hK.out _ _ (by rw [Vp14, upd_at] <;> (congr 1 <;> omega)) (Below.refl _ _) hG
          case s15_c1 =>
            refine owe_cond (g := 14) (t := 153) (b := false) (c := false) (d := true) true (by first | rfl | simp) rfl (by kernel_rfl) (by kernel_rfl) (by kernel_rfl) (by simp) (fun val w h => by rw [Vp14] at h; first | exact h | simpa using h) (fun hd a wx val hG hV hN hO K hK => ?_) (fun hd val w => by first | exact absurd hd (by decide) | rw [Vp15, upd_at, if_neg (by rw [hd]; decide)])
            have e34 : a.tmps[34]? = some (.pointer (some ⟨bH34, 0, none⟩)) := (hO 34 (by kernel_rfl)).trans (by rfl)
            clear hV hN hO
            obtain ⟨v0, v1, v2⟩ := (HQA.out.on hG).cells
            obtain ⟨s0, s1, s2⟩ := (HP28.out.on hG).cells
            obtain ⟨t0, t1, t2⟩ := (HP31.out.on hG).cells
            obtain ⟨p0, p1, p2⟩ := (HP34.out.on hG).cells
            obtain ⟨q0, q1, q2⟩ := (HP37.out.on hG).cells
            obtain ⟨z0, z1, z2, z3, z4, z5, z6⟩ := MsgAt.cells (MsgAt.on H29.out hG)
            obtain ⟨u0, u1, u2, u3, u4, u5, u6⟩ := MsgAt.cells (MsgAt.on H32.out hG)
            go_simp
            exact hK.out _ _ (by rw [Vp15, upd_at] <;> (congr 1 <;> omega)) (Below.refl _ _) hG
          case s16_c1 =>
            refine owe_cond (g := 14) (t := 153) (b := false) (c := false) (d := true) true (by first | rfl | simp) rfl (by kernel_rfl) (by kernel_rfl) (by kernel_rfl) (by simp) (fun val w h => by rw [Vp14] at h; first | exact h | simpa using h) (fun hd a wx val hG hV hN hO K hK => ?_) (fun hd val w => by first | exact absurd hd (by decide) | rw [Vp16, upd_at, if_neg (by rw [hd]; decide)])
            have e37 : a.tmps[37]? = some (.pointer (some ⟨bH37, 0, none⟩)) := (hO 37 (by kernel_rfl)).trans (by rfl)
            clear hV hN hO
            obtain ⟨v0, v1, v2⟩ := (HQA.out.on hG).cells
            obtain ⟨s0, s1, s2⟩ := (HP28.out.on hG).cells
            obtain ⟨t0, t1, t2⟩ := (HP31.out.on hG).cells
            obtain ⟨p0, p1, p2⟩ := (HP34.out.on hG).cells
            obtain ⟨q0, q1, q2⟩ := (HP37.out.on hG).cells
            obtain ⟨z0, z1, z2, z3, z4, z5, z6⟩ := MsgAt.cells (MsgAt.on H29.out hG)
            obtain ⟨u0, u1, u2, u3, u4, u5, u6⟩ := MsgAt.cells (MsgAt.on H32.out hG)
            go_simp
            exact hK.out _ _ (by rw [Vp16, upd_at] <;> (congr 1 <;> omega)) (Below.refl _ _) hG
          case s17_c1 =>
            refine owe_cond (g := 14) (t := 153) (b := false) (c := false) (d := true) true (by first | rfl | simp) rfl (by kernel_rfl) (by kernel_rfl) (by kernel_rfl) (by simp) (fun val w h => by rw [Vp14] at h; first | exact h | simpa using h) (fun hd a wx val hG hV hN hO K hK => ?_) (fun hd val w => by first | exact absurd hd (by decide) | rw [Vp17, upd_at, if_neg (by rw [hd]; decide)])
            have e154 := hN 15 154 (by kernel_rfl) (by kernel_rfl) (by simp)
            have f154 := hV 15 (by kernel_rfl) (by kernel_rfl)
            rw [Vp15] at f154; rw [f154] at e154; clear f154
            have e155 := hN 16 155 (by kernel_rfl) (by kernel_rfl) (by simp)
            have f155 := hV 16 (by kernel_rfl) (by kernel_rfl)
            rw [Vp16] at f155; rw [f155] at e155; clear f155
            clear hV hN hO
            go_simp
            refine (CT.out _ hG).mono ?_
            rintro e w11 ⟨rfl, hb⟩
            exact hK.out _ _ (by rw [Vp17, upd_at]) hb (hG.trans (hb.mono hG.size))
          case s18_c1 =>
            refine owe_cond (g := 14) (t := 153) (b := false) (c := false) (d := true) true (by first | rfl | simp) rfl (by kernel_rfl) (by kernel_rfl) (by kernel_rfl) (by simp) (fun val w h => by rw [Vp14] at h; first | exact h | simpa using h) (fun hd a wx val hG hV hN hO K hK => ?_) (fun hd val w => by first | exact absurd hd (by decide) | rw [Vp18, upd_at, if_neg (by rw [hd]; decide)])
            have e156 := hN 17 156 (by kernel_rfl) (by kernel_rfl) (by simp)
            have f156 := hV 17 (by kernel_rfl) (by kernel_rfl)
            rw [Vp17] at f156; rw [f156] at e156; clear f156
            clear hV hN hO
            go_simp
            exact hK.out _ _ (by rw [Vp18, upd_at] <;> (congr 1 <;> omega)) (Below.refl _ _) hG
          case s19_c1 =>
            refine owe rfl fun a wx val hG hV hN hO K hK => ?_
            have e153 := hN 14 153 (by kernel_rfl) (by kernel_rfl) (by simp)
            have f153 := hV 14 (by kernel_rfl) (by kernel_rfl)
            rw [Vp14] at f153; rw [f153] at e153; clear f153
            have e157 := hN 18 157 (by kernel_rfl) (by kernel_rfl) (by simp)
            have f157 := hV 18 (by kernel_rfl) (by kernel_rfl)
            rw [Vp18] at f157; rw [f157] at e157; clear f157
            clear hV hN hO
            go_simp
            exact hK.out _ _ (by rw [Vp19, upd_at] <;> simp) (Below.refl _ _) hG
          case s20_c1 =>
            refine owe rfl fun a wx val hG hV hN hO K hK => ?_
            have e158 := hN 19 158 (by kernel_rfl) (by kernel_rfl) (by simp)
            have f158 := hV 19 (by kernel_rfl) (by kernel_rfl)
            rw [Vp19] at f158; rw [f158] at e158; clear f158
            clear hV hN hO
            go_simp
            exact hK.out _ _ (by rw [Vp20, upd_at] <;> (congr 1 <;> omega)) (Below.refl _ _) hG
          case s21_c1 =>
            refine owe_cond (g := 20) (t := 159) (b := false) (c := false) (d := true) true (by first | rfl | simp) rfl (by kernel_rfl) (by kernel_rfl) (by kernel_rfl) (by simp) (fun val w h => by rw [Vp20] at h; first | exact h | simpa using h) (fun hd a wx val hG hV hN hO K hK => ?_) (fun hd val w => by first | exact absurd hd (by decide) | rw [Vp21, upd_at, if_neg (by rw [hd]; decide)])
            have e35 : a.tmps[35]? = some (.int .i64 ln) := (hO 35 (by kernel_rfl)).trans (by rfl)
            clear hV hN hO
            go_simp
            exact hK.out _ _ (by rw [Vp21, upd_at] <;> (congr 1 <;> omega)) (Below.refl _ _) hG
          case s22_c1 =>
            refine owe_cond (g := 20) (t := 159) (b := false) (c := false) (d := true) true (by first | rfl | simp) rfl (by kernel_rfl) (by kernel_rfl) (by kernel_rfl) (by simp) (fun val w h => by rw [Vp20] at h; first | exact h | simpa using h) (fun hd a wx val hG hV hN hO K hK => ?_) (fun hd val w => by first | exact absurd hd (by decide) | rw [Vp22, upd_at, if_neg (by rw [hd]; decide)])
            have e38 : a.tmps[38]? = some (.int .i64 ln) := (hO 38 (by kernel_rfl)).trans (by rfl)
            clear hV hN hO
            go_simp
            exact hK.out _ _ (by rw [Vp22, upd_at] <;> (congr 1 <;> omega)) (Below.refl _ _) hG
          case s23_c1 =>
            refine owe_cond (g := 20) (t := 159) (b := false) (c := false) (d := true) true (by first | rfl | simp) rfl (by kernel_rfl) (by kernel_rfl) (by kernel_rfl) (by simp) (fun val w h => by rw [Vp20] at h; first | exact h | simpa using h) (fun hd a wx val hG hV hN hO K hK => ?_) (fun hd val w => by first | exact absurd hd (by decide) | rw [Vp23, upd_at, if_neg (by rw [hd]; decide)])
            have e160 := hN 21 160 (by kernel_rfl) (by kernel_rfl) (by simp)
            have f160 := hV 21 (by kernel_rfl) (by kernel_rfl)
            rw [Vp21] at f160; rw [f160] at e160; clear f160
            have e161 := hN 22 161 (by kernel_rfl) (by kernel_rfl) (by simp)
            have f161 := hV 22 (by kernel_rfl) (by kernel_rfl)
            rw [Vp22] at f161; rw [f161] at e161; clear f161
            clear hV hN hO
            go_simp
            exact hK.out _ _ (by rw [Vp23, upd_at] <;> (congr 1 <;> omega)) (Below.refl _ _) hG
          case s24_c1 =>
            refine owe rfl fun a wx val hG hV hN hO K hK => ?_
            have e159 := hN 20 159 (by kernel_rfl) (by kernel_rfl) (by simp)
            have f159 := hV 20 (by kernel_rfl) (by kernel_rfl)
            rw [Vp20] at f159; rw [f159] at e159; clear f159
            have e162 := hN 23 162 (by kernel_rfl) (by kernel_rfl) (by simp)
            have f162 := hV 23 (by kernel_rfl) (by kernel_rfl)
            rw [Vp23] at f162; rw [f162] at e162; clear f162
            clear hV hN hO
            go_simp
            exact hK.out _ _ (by rw [Vp24, upd_at] <;> simp) (Below.refl _ _) hG
          case s25_c1 =>
            refine owe rfl fun a wx val hG hV hN hO K hK => ?_
            have e163 := hN 24 163 (by kernel_rfl) (by kernel_rfl) (by simp)
            have f163 := hV 24 (by kernel_rfl) (by kernel_rfl)
            rw [Vp24] at f163; rw [f163] at e163; clear f163
            clear hV hN hO
            go_simp
            exact hK.out _ _ (by rw [Vp25, upd_at] <;> (congr 1 <;> omega)) (Below.refl _ _) hG
          case s26_c1 =>
            refine owe_cond (g := 25) (t := 164) (b := false) (c := false) (d := true) true (by first | rfl | simp) rfl (by kernel_rfl) (by kernel_rfl) (by kernel_rfl) (by simp) (fun val w h => by rw [Vp25] at h; first | exact h | simpa using h) (fun hd a wx val hG hV hN hO K hK => ?_) (fun hd val w => by first | exact absurd hd (by decide) | rw [Vp26, upd_at, if_neg (by rw [hd]; decide)])
            have e36 : a.tmps[36]? = some (.int .i64 le) := (hO 36 (by kernel_rfl)).trans (by rfl)
            clear hV hN hO
            go_simp
            exact hK.out _ _ (by rw [Vp26, upd_at] <;> (congr 1 <;> omega)) (Below.refl _ _) hG
          case s27_c1 =>
            refine owe_cond (g := 25) (t := 164) (b := false) (c := false) (d := true) true (by first | rfl | simp) rfl (by kernel_rfl) (by kernel_rfl) (by kernel_rfl) (by simp) (fun val w h => by rw [Vp25] at h; first | exact h | simpa using h) (fun hd a wx val hG hV hN hO K hK => ?_) (fun hd val w => by first | exact absurd hd (by decide) | rw [Vp27, upd_at, if_neg (by rw [hd]; decide)])
            have e39 : a.tmps[39]? = some (.int .i64 le) := (hO 39 (by kernel_rfl)).trans (by rfl)
            clear hV hN hO
            go_simp
            exact hK.out _ _ (by rw [Vp27, upd_at] <;> (congr 1 <;> omega)) (Below.refl _ _) hG
          case s28_c1 =>
            refine owe_cond (g := 25) (t := 164) (b := false) (c := false) (d := true) true (by first | rfl | simp) rfl (by kernel_rfl) (by kernel_rfl) (by kernel_rfl) (by simp) (fun val w h => by rw [Vp25] at h; first | exact h | simpa using h) (fun hd a wx val hG hV hN hO K hK => ?_) (fun hd val w => by first | exact absurd hd (by decide) | rw [Vp28, upd_at, if_neg (by rw [hd]; decide)])
            have e165 := hN 26 165 (by kernel_rfl) (by kernel_rfl) (by simp)
            have f165 := hV 26 (by kernel_rfl) (by kernel_rfl)
            rw [Vp26] at f165; rw [f165] at e165; clear f165
            have e166 := hN 27 166 (by kernel_rfl) (by kernel_rfl) (by simp)
            have f166 := hV 27 (by kernel_rfl) (by kernel_rfl)
            rw [Vp27] at f166; rw [f166] at e166; clear f166
            clear hV hN hO
            go_simp
            exact hK.out _ _ (by rw [Vp28, upd_at] <;> (congr 1 <;> omega)) (Below.refl _ _) hG
          case s29_c1 =>
            refine owe rfl fun a wx val hG hV hN hO K hK => ?_
            have e164 := hN 25 164 (by kernel_rfl) (by kernel_rfl) (by simp)
            have f164 := hV 25 (by kernel_rfl) (by kernel_rfl)
            rw [Vp25] at f164; rw [f164] at e164; clear f164
            have e167 := hN 28 167 (by kernel_rfl) (by kernel_rfl) (by simp)
            have f167 := hV 28 (by kernel_rfl) (by kernel_rfl)
            rw [Vp28] at f167; rw [f167] at e167; clear f167
            clear hV hN hO
            go_simp
            exact hK.out _ _ (by rw [Vp29, upd_at] <;> simp) (Below.refl _ _) hG
          case s30_c1 =>
            refine owe rfl fun a wx val hG hV hN hO K hK => ?_
            have e168 := hN 29 168 (by kernel_rfl) (by kernel_rfl) (by simp)
            have f168 := hV 29 (by kernel_rfl) (by kernel_rfl)
            rw [Vp29] at f168; rw [f168] at e168; clear f168
            clear hV hN hO
            go_simp
            exact hK.out _ _ (by rw [Vp30, upd_at] <;> (congr 1 <;> omega)) (Below.refl _ _) hG
          case s31_c1 =>
            refine owe_cond (g := 30) (t := 169) (b := false) (c := false) (d := true) true (by first | rfl | simp) rfl (by kernel_rfl) (by kernel_rfl) (by kernel_rfl) (by simp) (fun val w h => by rw [Vp30] at h; first | exact h | simpa using h) (fun hd a wx val hG hV hN hO K hK => ?_) (fun hd val w => by first | exact absurd hd (by decide) | rw [Vp31, upd_at, if_neg (by rw [hd]; decide)])
            have e27 : a.tmps[27]? = some (.pointer (some ⟨b27, 0, none⟩)) := (hO 27 (by kernel_rfl)).trans (by rfl)
            clear hV hN hO
            obtain ⟨v0, v1, v2⟩ := (HQA.out.on hG).cells
            obtain ⟨s0, s1, s2⟩ := (HP28.out.on hG).cells
            obtain ⟨t0, t1, t2⟩ := (HP31.out.on hG).cells
            obtain ⟨p0, p1, p2⟩ := (HP34.out.on hG).cells
            obtain ⟨q0, q1, q2⟩ := (HP37.out.on hG).cells
            obtain ⟨z0, z1, z2, z3, z4, z5, z6⟩ := MsgAt.cells (MsgAt.on H29.out hG)
            obtain ⟨u0, u1, u2, u3, u4, u5, u6⟩ := MsgAt.cells (MsgAt.on H32.out hG)
            go_simp
            exact hK.out _ _ (by rw [Vp31, upd_at] <;> (congr 1 <;> omega)) (Below.refl _ _) hG
          case s32_c1 =>
            refine owe_cond (g := 30) (t := 169) (b := false) (c := false) (d := true) true (by first | rfl | simp) rfl (by kernel_rfl) (by kernel_rfl) (by kernel_rfl) (by simp) (fun val w h => by rw [Vp30] at h; first | exact h | simpa using h) (fun hd a wx val hG hV hN hO K hK => ?_) (fun hd val w => by first | exact absurd hd (by decide) | rw [Vp32, upd_at, if_neg (by rw [hd]; decide)])
            have e170 := hN 31 170 (by kernel_rfl) (by kernel_rfl) (by simp)
            have f170 := hV 31 (by kernel_rfl) (by kernel_rfl)
            rw [Vp31] at f170; rw [f170] at e170; clear f170
            clear hV hN hO
            go_simp
            refine (C1.out _ hG).mono ?_
            rintro e w11 ⟨rfl, hb⟩
            exact hK.out _ _ (by rw [Vp32, upd_at]) hb (hG.trans (hb.mono hG.size))
          case s33_c1 =>
            refine owe_cond (g := 30) (t := 169) (b := false) (c := false) (d := true) true (by first | rfl | simp) rfl (by kernel_rfl) (by kernel_rfl) (by kernel_rfl) (by simp) (fun val w h => by rw [Vp30] at h; first | exact h | simpa using h) (fun hd a wx val hG hV hN hO K hK => ?_) (fun hd val w => by first | exact absurd hd (by decide) | rw [Vp33, upd_at, if_neg (by rw [hd]; decide)])
            have e27 : a.tmps[27]? = some (.pointer (some ⟨b27, 0, none⟩)) := (hO 27 (by kernel_rfl)).trans (by rfl)
            clear hV hN hO
            obtain ⟨v0, v1, v2⟩ := (HQA.out.on hG).cells
            obtain ⟨s0, s1, s2⟩ := (HP28.out.on hG).cells
            obtain ⟨t0, t1, t2⟩ := (HP31.out.on hG).cells
            obtain ⟨p0, p1, p2⟩ := (HP34.out.on hG).cells
            obtain ⟨q0, q1, q2⟩ := (HP37.out.on hG).cells
            obtain ⟨z0, z1, z2, z3, z4, z5, z6⟩ := MsgAt.cells (MsgAt.on H29.out hG)
            obtain ⟨u0, u1, u2, u3, u4, u5, u6⟩ := MsgAt.cells (MsgAt.on H32.out hG)
            go_simp
            exact hK.out _ _ (by rw [Vp33, upd_at] <;> (congr 1 <;> omega)) (Below.refl _ _) hG
          case s34_c1 =>
            refine owe_cond (g := 30) (t := 169) (b := false) (c := false) (d := true) true (by first | rfl | simp) rfl (by kernel_rfl) (by kernel_rfl) (by kernel_rfl) (by simp) (fun val w h => by rw [Vp30] at h; first | exact h | simpa using h) (fun hd a wx val hG hV hN hO K hK => ?_) (fun hd val w => by first | exact absurd hd (by decide) | rw [Vp34, upd_at, if_neg (by rw [hd]; decide)])
            have e172 := hN 33 172 (by kernel_rfl) (by kernel_rfl) (by simp)
            have f172 := hV 33 (by kernel_rfl) (by kernel_rfl)
            rw [Vp33] at f172; rw [f172] at e172; clear f172
            clear hV hN hO
            go_simp
            refine (C2.out _ hG).mono ?_
            rintro e w11 ⟨rfl, hb⟩
            exact hK.out _ _ (by rw [Vp34, upd_at]) hb (hG.trans (hb.mono hG.size))
          case s35_c1 =>
            refine owe_cond (g := 30) (t := 169) (b := false) (c := false) (d := true) true (by first | rfl | simp) rfl (by kernel_rfl) (by kernel_rfl) (by kernel_rfl) (by simp) (fun val w h => by rw [Vp30] at h; first | exact h | simpa using h) (fun hd a wx val hG hV hN hO K hK => ?_) (fun hd val w => by first | exact absurd hd (by decide) | rw [Vp35, upd_at, if_neg (by rw [hd]; decide)])
            have e171 := hN 32 171 (by kernel_rfl) (by kernel_rfl) (by simp)
            have f171 := hV 32 (by kernel_rfl) (by kernel_rfl)
            rw [Vp32] at f171; rw [f171] at e171; clear f171
            have e173 := hN 34 173 (by kernel_rfl) (by kernel_rfl) (by simp)
            have f173 := hV 34 (by kernel_rfl) (by kernel_rfl)
            rw [Vp34] at f173; rw [f173] at e173; clear f173
            clear hV hN hO
            go_simp
            exact hK.out _ _ (by rw [Vp35, upd_at] <;> (congr 1 <;> omega)) (Below.refl _ _) hG
          case s36_c1 =>
            refine owe rfl fun a wx val hG hV hN hO K hK => ?_
            have e169 := hN 30 169 (by kernel_rfl) (by kernel_rfl) (by simp)
            have f169 := hV 30 (by kernel_rfl) (by kernel_rfl)
            rw [Vp30] at f169; rw [f169] at e169; clear f169
            have e174 := hN 35 174 (by kernel_rfl) (by kernel_rfl) (by simp)
            have f174 := hV 35 (by kernel_rfl) (by kernel_rfl)
            rw [Vp35] at f174; rw [f174] at e174; clear f174
            clear hV hN hO
            go_simp
            exact hK.out _ _ (by rw [Vp36, upd_at] <;> simp) (Below.refl _ _) hG
          intro val wx hG hV
          have f0 := hV 0 (by simp) (fun _ _ => by rfl)
          rw [Vp0] at f0
          have f1 := hV 1 (by simp) (fun _ _ => by rfl)
          rw [Vp1] at f1
          have f2 := hV 2 (by simp) (fun _ _ => by rfl)
          rw [Vp2] at f2
          have f3 := hV 3 (by simp) (fun _ _ => by rfl)
          rw [Vp3] at f3
          have f4 := hV 4 (by simp) (fun _ _ => by rfl)
          rw [Vp4] at f4
          have f5 := hV 5 (by simp) (fun _ _ => by rfl)
          rw [Vp5] at f5
          have f6 := hV 6 (by simp) (fun _ _ => by rfl)
          rw [Vp6] at f6
          have f7 := hV 7 (by simp) (fun _ _ => by rfl)
          rw [Vp7] at f7
          have f8 := hV 8 (by simp) (fun _ _ => by rfl)
          rw [Vp8] at f8
          have f9 := hV 9 (by simp) (fun _ _ => by rfl)
          rw [Vp9] at f9
          have f10 := hV 10 (by simp) (fun _ _ => by rfl)
          rw [Vp10] at f10
          have f11 := hV 11 (by simp) (fun _ _ => by rfl)
          rw [Vp11] at f11
          have f12 := hV 12 (by simp) (fun _ _ => by rfl)
          rw [Vp12] at f12
          have f13 := hV 13 (by simp) (fun _ _ => by rfl)
          rw [Vp13] at f13
          have f14 := hV 14 (by simp) (fun _ _ => by rfl)
          rw [Vp14] at f14
          have f15 := hV 15 (by simp) (fun _ _ => by rfl)
          rw [Vp15] at f15
          have f16 := hV 16 (by simp) (fun _ _ => by rfl)
          rw [Vp16] at f16
          have f17 := hV 17 (by simp) (fun _ _ => by rfl)
          rw [Vp17] at f17
          have f18 := hV 18 (by simp) (fun _ _ => by rfl)
          rw [Vp18] at f18
          have f19 := hV 19 (by simp) (fun _ _ => by rfl)
          rw [Vp19] at f19
          have f20 := hV 20 (by simp) (fun _ _ => by rfl)
          rw [Vp20] at f20
          have f21 := hV 21 (by simp) (fun _ _ => by rfl)
          rw [Vp21] at f21
          have f22 := hV 22 (by simp) (fun _ _ => by rfl)
          rw [Vp22] at f22
          have f23 := hV 23 (by simp) (fun _ _ => by rfl)
          rw [Vp23] at f23
          have f24 := hV 24 (by simp) (fun _ _ => by rfl)
          rw [Vp24] at f24
          have f25 := hV 25 (by simp) (fun _ _ => by rfl)
          rw [Vp25] at f25
          have f26 := hV 26 (by simp) (fun _ _ => by rfl)
          rw [Vp26] at f26
          have f27 := hV 27 (by simp) (fun _ _ => by rfl)
          rw [Vp27] at f27
          have f28 := hV 28 (by simp) (fun _ _ => by rfl)
          rw [Vp28] at f28
          have f29 := hV 29 (by simp) (fun _ _ => by rfl)
          rw [Vp29] at f29
          have f30 := hV 30 (by simp) (fun _ _ => by rfl)
          rw [Vp30] at f30
          have f31 := hV 31 (by simp) (fun _ _ => by rfl)
          rw [Vp31] at f31
          have f32 := hV 32 (by simp) (fun _ _ => by rfl)
          rw [Vp32] at f32
          have f33 := hV 33 (by simp) (fun _ _ => by rfl)
          rw [Vp33] at f33
          have f34 := hV 34 (by simp) (fun _ _ => by rfl)
          rw [Vp34] at f34
          have f35 := hV 35 (by simp) (fun _ _ => by rfl)
          rw [Vp35] at f35
          have f36 := hV 36 (by simp) (fun _ _ => by rfl)
          rw [Vp36] at f36
          clear hV Vp0 Vp1 Vp2 Vp3 Vp4 Vp5 Vp6 Vp7 Vp8 Vp9 Vp10 Vp11 Vp12 Vp13 Vp14 Vp15 Vp16 Vp17 Vp18 Vp19 Vp20 Vp21 Vp22 Vp23 Vp24 Vp25 Vp26 Vp27 Vp28 Vp29 Vp30 Vp31 Vp32 Vp33 Vp34 Vp35 Vp36
          simp only [putAll, Act.put, List.setIfInBounds_toArray, List.set_cons_zero, List.set_cons_succ]
          generalize val 0 = z0 at *; (subst f0)
          generalize val 1 = z1 at *; (subst f1)
          generalize val 2 = z2 at *; (subst f2)
          generalize val 3 = z3 at *; (subst f3)
          generalize val 4 = z4 at *; (subst f4)
          generalize val 5 = z5 at *; (subst f5)
          generalize val 6 = z6 at *; (subst f6)
          generalize val 7 = z7 at *; (subst f7)
          generalize val 8 = z8 at *; (subst f8)
          generalize val 9 = z9 at *; (subst f9)
          generalize val 10 = z10 at *; (subst f10)
          generalize val 11 = z11 at *; (subst f11)
          generalize val 12 = z12 at *; (subst f12)
          generalize val 13 = z13 at *; (subst f13)
          generalize val 14 = z14 at *; (subst f14)
          generalize val 15 = z15 at *; (subst f15)
          generalize val 16 = z16 at *; (subst f16)
          generalize val 17 = z17 at *; (subst f17)
          generalize val 18 = z18 at *; (subst f18)
          generalize val 19 = z19 at *; (subst f19)
          generalize val 20 = z20 at *; (subst f20)
          generalize val 21 = z21 at *; (subst f21)
          generalize val 22 = z22 at *; (subst f22)
          generalize val 23 = z23 at *; (subst f23)
          generalize val 24 = z24 at *; (subst f24)
          generalize val 25 = z25 at *; (subst f25)
          generalize val 26 = z26 at *; (subst f26)
          generalize val 27 = z27 at *; (subst f27)
          generalize val 28 = z28 at *; (subst f28)
          generalize val 29 = z29 at *; (subst f29)
          generalize val 30 = z30 at *; (subst f30)
          generalize val 31 = z31 at *; (subst f31)
          generalize val 32 = z32 at *; (subst f32)
          generalize val 33 = z33 at *; (subst f33)
          generalize val 34 = z34 at *; (subst f34)
          generalize val 35 = z35 at *; (subst f35)
          generalize val 36 = z36 at *; (subst f36)
          clear HVD
          have HB1 := Lib.hid (HB.out.trans (hG.mono HB.out.size)); clear HB; have HB := HB1; clear HB1
          have H121 := Lib.hid (MsgAt.on H12.out hG); clear H12; have H12 := H121; clear H121
          have H131 := Lib.hid (SixAt.on H13.out hG); clear H13; have H13 := H131; clear H131
          have HEL1 := Lib.hid (fun k hk => ElemF.on (HEL.out k hk) hG); clear HEL; have HEL := HEL1; clear HEL1
          have H271 := Lib.hid (FVar.on H27.out hG); clear H27; have H27 := H271; clear H271
          clear hG CS CT C1 C2 HQA HP28 HP31 HP34 HP37 HI hEG hNE H28 H29 H31 H32 H34 H37 HFE HLE
          generalize hX : wx = X25 at *
          clear hX
          go_upto_region 25 with (fail)
          obtain ⟨ve, vn, vs, vj, vq, vk, vd⟩ := nm
          simp only [mv] at CN
          simp only at HDN
          have HV : ∃ Vp : Nat → (Nat → Value) → World → Prop, Vp = (fun ix u wv => match ix with
            | 0 => u 0 = .agg #[.bool me, .int .i64 mn, .int .i64 ms, .int .i64 mj, .int .i64 mq, .int .i64 mk, .string md]
            | 1 => u 1 = .agg #[.int .i64 r0, .int .i64 r1, .int .i64 r2, .int .i64 r3, .int .i64 r4, .int .i64 r5]
            | 2 => u 2 = .agg #[.bool ve, .int .i64 vn, .int .i64 vs, .int .i64 vj, .int .i64 vq, .int .i64 vk, .string vd]
            | 3 => ∃ g, u 3 = .slice (some ⟨g, 0, none⟩) 2 2 ∧ BlkM wv g [⟨me, mn, ms, mj, mq, mk, md⟩, ⟨ve, vn, vs, vj, vq, vk, vd⟩]
            | 4 => u 4 = .int .i64 2
            | 5 => u 5 = .int .i64 0
            | _ => True) := ⟨_, rfl⟩
          obtain ⟨Vp, hVdef⟩ := HV
          have Vp0 : ∀ u wv, Vp 0 u wv = (u 0 = .agg #[.bool me, .int .i64 mn, .int .i64 ms, .int .i64 mj, .int .i64 mq, .int .i64 mk, .string md]) := fun u wv => by subst hVdef; rfl
          have Vp1 : ∀ u wv, Vp 1 u wv = (u 1 = .agg #[.int .i64 r0, .int .i64 r1, .int .i64 r2, .int .i64 r3, .int .i64 r4, .int .i64 r5]) := fun u wv => by subst hVdef; rfl
          have Vp2 : ∀ u wv, Vp 2 u wv = (u 2 = .agg #[.bool ve, .int .i64 vn, .int .i64 vs, .int .i64 vj, .int .i64 vq, .int .i64 vk, .string vd]) := fun u wv => by subst hVdef; rfl
          have Vp3 : ∀ u wv, Vp 3 u wv = (∃ g, u 3 = .slice (some ⟨g, 0, none⟩) 2 2 ∧ BlkM wv g [⟨me, mn, ms, mj, mq, mk, md⟩, ⟨ve, vn, vs, vj, vq, vk, vd⟩]) := fun u wv => by subst hVdef; rfl
          have Vp4 : ∀ u wv, Vp 4 u wv = (u 4 = .int .i64 2) := fun u wv => by subst hVdef; rfl
          have Vp5 : ∀ u wv, Vp 5 u wv = (u 5 = .int .i64 0) := fun u wv => by subst hVdef; rfl
          have HVD := Lib.hid hVdef
          clear hVdef
          refine region_phase (V := Vp) (drop := fun _ _ => false) (G := fun L wv => Below X25.heap.size X25 wv) (Rel := fun jx wv wv' => Below wv.heap.size wv wv') (by kernel_rfl) (by kernel_rfl) (Below.refl _ _).drew ?hmonop1 ?hdepp1 ⟨?s0_p1, ?s1_p1, ?s2_p1, ?s3_p1, ?s4_p1, ?s5_p1, trivial⟩ ?behindp1
          case hmonop1 =>
            intro ix jx u wv wv' hij hw hd hr
            rw [HVD.out]
            dsimp only
            split <;> intro h <;> first | exact trivial | exact h | (have hb := hr; first | (obtain ⟨g, e, hg⟩ := h; exact ⟨g, e, hg.on hr⟩))
          case hdepp1 =>
            intro ix u u' wv h1 h2
            rw [HVD.out]
            dsimp only
            split <;> intro h <;> first | exact trivial | (rw [← h1]; exact h) | exact h
          case s0_p1 =>
            refine oweP rfl fun a wx val L hG hi hW hV hN hO K hK => ?_
            have e12 : a.tmps[12]? = some (.pointer (some ⟨w.heap.size, 0, none⟩)) := (hO 12 (by kernel_rfl)).trans (by rfl)
            clear hV hN hO
            obtain ⟨x0, x1, x2, x3, x4, x5, x6⟩ := MsgAt.cells (MsgAt.on H12.out hG)
            go_simp
            exact hK.out _ _ (by rw [Vp0, upd_at] <;> (congr 1 <;> omega)) (Below.refl _ _) (hG)
          case s1_p1 =>
            refine oweP rfl fun a wx val L hG hi hW hV hN hO K hK => ?_
            have e13 : a.tmps[13]? = some (.pointer (some ⟨w.heap.size + 1, 0, none⟩)) := (hO 13 (by kernel_rfl)).trans (by rfl)
            clear hV hN hO
            obtain ⟨x0, x1, x2, x3, x4, x5⟩ := SixAt.cells (SixAt.on H13.out hG)
            go_simp
            exact hK.out _ _ (by rw [Vp1, upd_at] <;> (congr 1 <;> omega)) (Below.refl _ _) (hG)
          case s2_p1 =>
            refine oweP rfl fun a wx val L hG hi hW hV hN hO K hK => ?_
            have e177 := hN 1 177 (by kernel_rfl) (by kernel_rfl) (by simp)
            have f177 := hV 1 (by kernel_rfl) (by kernel_rfl)
            rw [Vp1] at f177; rw [f177] at e177; clear f177
            clear hV hN hO
            go_simp
            refine (CN.out _).mono ?_
            rintro e w11 ⟨rfl, hb⟩
            exact hK.out _ _ (by rw [Vp2, upd_at]) (hb) (hG.trans (hb.mono hG.size))
          case s3_p1 =>
            refine oweP rfl fun a wx val L hG hi hW hV hN hO K hK => ?_
            have e176 := hN 0 176 (by kernel_rfl) (by kernel_rfl) (by simp)
            have f176 := hV 0 (by kernel_rfl) (by kernel_rfl)
            rw [Vp0] at f176; rw [f176] at e176; clear f176
            have e178 := hN 2 178 (by kernel_rfl) (by kernel_rfl) (by simp)
            have f178 := hV 2 (by kernel_rfl) (by kernel_rfl)
            rw [Vp2] at f178; rw [f178] at e178; clear f178
            clear hV hN hO
            go_simp
            have hb := Joins.below_alloc1 wx (.cells (lcl [⟨me, mn, ms, mj, mq, mk, md⟩, ⟨ve, vn, vs, vj, vq, vk, vd⟩]).toArray 26)
            exact hK.out _ _ (by rw [Vp3, upd_at]; exact ⟨_, rfl, heap_alloc_new wx (.cells (lcl [⟨me, mn, ms, mj, mq, mk, md⟩, ⟨ve, vn, vs, vj, vq, vk, vd⟩]).toArray 26)⟩) hb (hG.trans (hb.mono hG.size))
          case s4_p1 =>
            refine oweP rfl fun a wx val L hG hi hW hV hN hO K hK => ?_
            have e179 := hN 3 179 (by kernel_rfl) (by kernel_rfl) (by simp)
            have f179 := hV 3 (by kernel_rfl) (by kernel_rfl)
            rw [Vp3] at f179; obtain ⟨g, hv, hgg⟩ := f179; rw [hv] at e179
            clear hV hN hO
            go_simp
            exact hK.out _ _ (by rw [Vp4, upd_at] <;> (congr 1 <;> omega)) (Below.refl _ _) (hG)
          case s5_p1 =>
            refine oweP rfl fun a wx val L hG hi hW hV hN hO K hK => ?_
            clear hV hN hO
            go_simp
            exact hK.out _ _ (by rw [Vp5, upd_at] <;> (congr 1 <;> omega)) (Below.refl _ _) (hG)
          intro val wx L hG hV
          have f0 := hV 0 (by simp) (fun _ _ => by simp)
          rw [Vp0] at f0
          have f1 := hV 1 (by simp) (fun _ _ => by simp)
          rw [Vp1] at f1
          have f2 := hV 2 (by simp) (fun _ _ => by simp)
          rw [Vp2] at f2
          have f3 := hV 3 (by simp) (fun _ _ => by simp)
          rw [Vp3] at f3
          have f4 := hV 4 (by simp) (fun _ _ => by simp)
          rw [Vp4] at f4
          have f5 := hV 5 (by simp) (fun _ _ => by simp)
          rw [Vp5] at f5
          clear hV Vp0 Vp1 Vp2 Vp3 Vp4 Vp5
          simp only [putAll, Act.put, List.setIfInBounds_toArray, List.set_cons_zero, List.set_cons_succ]
          generalize val 0 = z0 at *; (subst f0)
          generalize val 1 = z1 at *; (subst f1)
          generalize val 2 = z2 at *; (subst f2)
          generalize val 3 = z3 at *
          generalize val 4 = z4 at *; (subst f4)
          generalize val 5 = z5 at *; (subst f5)
          clear HVD
          obtain ⟨gm, hzm, hgm⟩ := f3
          subst hzm
          have HBM := Lib.hid hgm
          have HB1 := Lib.hid (HB.out.trans (hG.mono HB.out.size)); clear HB; have HB := HB1; clear HB1
          have H121 := Lib.hid (MsgAt.on H12.out hG); clear H12; have H12 := H121; clear H121
          have H131 := Lib.hid (SixAt.on H13.out hG); clear H13; have H13 := H131; clear H131
          have HEL1 := Lib.hid (fun k hk => ElemF.on (HEL.out k hk) hG); clear HEL; have HEL := HEL1; clear HEL1
          have H271 := Lib.hid (FVar.on H27.out hG); clear H27; have H27 := H271; clear H271
          clear hG hgm
          generalize hX : wx = X26 at *
          clear hX
          go_wp2_with fail
          go_loopw [181] (fun i wr => ∃ j : Nat, j ≤ 2 ∧ i = .int .i64 j ∧ Below X26.heap.size X26 wr) (fun i _ => 2 - (intOf i).toNat)
          case atStart => exact ⟨0, by omega, rfl, Below.refl _ _⟩
          case round =>
            obtain ⟨j, hj2, rfl, hG⟩ := hrel
            have HGI : Hid (Below X26.heap.size X26 X26) := Lib.hid (Below.refl _ _)
            have HB1 := Lib.hid (HB.out.trans (hG.mono HB.out.size)); clear HB; have HB := HB1; clear HB1
            have H121 := Lib.hid (MsgAt.on H12.out hG); clear H12; have H12 := H121; clear H121
            have H131 := Lib.hid (SixAt.on H13.out hG); clear H13; have H13 := H131; clear H131
            have HEL1 := Lib.hid (fun k hk => ElemF.on (HEL.out k hk) hG); clear HEL; have HEL := HEL1; clear HEL1
            have H271 := Lib.hid (FVar.on H27.out hG); clear H27; have H27 := H271; clear H271
            have HBM1 := Lib.hid (BlkM.on HBM.out hG); clear HBM; have HBM := HBM1; clear HBM1
            have HGI1 := Lib.hid (HGI.out.trans (hG.mono HGI.out.size)); clear HGI; have HGI := HGI1; clear HGI1
            clear hG
            by_cases hjt : j < 2
            · have hjI : (j : Int) < 2 := by omega
              obtain ⟨p, hp⟩ : ∃ p, ([⟨me, mn, ms, mj, mq, mk, md⟩, ⟨ve, vn, vs, vj, vq, vk, vd⟩] : List Msg)[j]? = some p := ⟨_, List.getElem?_eq_getElem hjt⟩
              have hpd : p.data.size ≤ 140737488351232 := by
                have h9 := List.mem_of_getElem? hp
                simp only [List.mem_cons, List.not_mem_nil, or_false] at h9
                rcases h9 with h9 | h9
                · rw [h9]; show md.size ≤ _; omega
                · rw [h9]; exact Nat.le_trans HDN.out (by decide)
              have HPD := Lib.hid hpd
              obtain ⟨x0, x1, x2, x3, x4, x5, x6⟩ := HBM.out.at7 hp
              have hof : ((⟨gm, 0, none⟩ : Addr).add (j * 7)) = ⟨gm, j * 7, none⟩ := addT gm (j * 7)
              rw [hof] at x0 x1 x2 x3 x4 x5 x6
              clear hof hp hpd
              obtain ⟨pe, pn, ps9, pj, pq, pk, pd⟩ := p
              simp only at x0 x1 x2 x3 x4 x5 x6 HPD
              have hG := Joins.below_alloc1 wr (.cells #[.bool pe, .int .i64 pn, .int .i64 ps9, .int .i64 pj, .int .i64 pq, .int .i64 pk, .string pd] 26)
              have H41 : Hid (MsgAt _ _ ⟨pe, pn, ps9, pj, pq, pk, pd⟩) := Lib.hid (MsgAt.new wr ⟨pe, pn, ps9, pj, pq, pk, pd⟩)
              have HB1 := Lib.hid (HB.out.trans (hG.mono HB.out.size)); clear HB; have HB := HB1; clear HB1
              have H121 := Lib.hid (MsgAt.on H12.out hG); clear H12; have H12 := H121; clear H121
              have H131 := Lib.hid (SixAt.on H13.out hG); clear H13; have H13 := H131; clear H131
              have HEL1 := Lib.hid (fun k hk => ElemF.on (HEL.out k hk) hG); clear HEL; have HEL := HEL1; clear HEL1
              have H271 := Lib.hid (FVar.on H27.out hG); clear H27; have H27 := H271; clear H271
              have HBM1 := Lib.hid (BlkM.on HBM.out hG); clear HBM; have HBM := HBM1; clear HBM1
              have HGI1 := Lib.hid (HGI.out.trans (hG.mono HGI.out.size)); clear HGI; have HGI := HGI1; clear HGI1
              simp only [mc] at H41
              clear hG
              go_upto_region 28 with (fail)
              clear x0 x1 x2 x3 x4 x5 x6
              generalize hX : wr.alloc (.cells #[.bool pe, .int .i64 pn, .int .i64 ps9, .int .i64 pj, .int .i64 pq, .int .i64 pk, .string pd] 26) = X28 at *
              clear hX
              generalize wr.heap.size = b41 at *
              go_cut [192, 193, 194] (fun a b d wx => ∃ g, a = .slice (some ⟨g, 0, none⟩) 2 2 ∧ b = .int .i64 2 ∧ d = .int .i64 0 ∧ (∀ k, k < 2 → ElemL wx g k) ∧ Below X28.heap.size X28 wx)
              case first =>
                obtain ⟨hlie, hnone, hfc, hcm⟩ := HF7.out
                unfold maxLen at hcm
                have hlie' := hlie.below HB.out
                have CF9 : Hid (∀ W, Below X28.heap.size X28 W → Calls Tryd.prog 24 #[.slice Ap ps.length cp] W fun e w' => ∃ A' c', e = .returned (.slice A' (filL ps).length c') ∧ LieIn w' A' (filL ps) ∧ (∀ ad, A' = some ad → W.heap.size ≤ ad.block) ∧ Below W.heap.size W w') := Lib.hid (fun W h => filters_any Ap cp ps W ((HF8.out.on HB.out).on h))
                have hfw := filL_few ps
                generalize filL ps = fs2 at *
                rcases AF with _ | af
                · obtain rfl := hnone rfl
                  obtain rfl : fl = [] := List.length_eq_zero_iff.1 (by omega)
                  have HQ3 : Hid (∀ W A9 c9, Below X28.heap.size X28 W → LieIn W A9 fs2 → ∀ k, k < 2 → ElemL (W.alloc (.cells #[.slice none 0 0, .slice A9 fs2.length c9] 31)) W.heap.size k) := Lib.hid (fun W A9 c9 hb hl => ElemL.two W (l0 := []) (c0 := 0) (lie_nil W) hl (by decide) hfw)
                  clear hlie hlie' hfw
                  simp only [List.length_nil]
                  have HV : ∃ Vp : Nat → (Nat → Value) → World → Prop, Vp = (fun ix u wv => match ix with
                    | 0 => u 0 = .slice none 0 0
                    | 1 => u 1 = .slice none 0 0
                    | 2 => u 2 = .int .i64 0
                    | 3 => u 3 = .int .i64 0
                    | 4 => u 4 = .slice none 0 0
                    | 5 => u 5 = .slice Ap ps.length cp
                    | 6 => ∃ A9 c9, u 6 = .slice A9 fs2.length c9 ∧ LieIn wv A9 fs2
                    | 7 => ∃ g, u 7 = .slice (some ⟨g, 0, none⟩) 2 2 ∧ ∀ k, k < 2 → ElemL wv g k
                    | 8 => u 8 = .int .i64 2
                    | 9 => u 9 = .int .i64 0
                    | _ => True) := ⟨_, rfl⟩
                  obtain ⟨Vp, hVdef⟩ := HV
                  have Vp0 : ∀ u wv, Vp 0 u wv = (u 0 = .slice none 0 0) := fun u wv => by subst hVdef; rfl
                  have Vp1 : ∀ u wv, Vp 1 u wv = (u 1 = .slice none 0 0) := fun u wv => by subst hVdef; rfl
                  have Vp2 : ∀ u wv, Vp 2 u wv = (u 2 = .int .i64 0) := fun u wv => by subst hVdef; rfl
                  have Vp3 : ∀ u wv, Vp 3 u wv = (u 3 = .int .i64 0) := fun u wv => by subst hVdef; rfl
                  have Vp4 : ∀ u wv, Vp 4 u wv = (u 4 = .slice none 0 0) := fun u wv => by subst hVdef; rfl
                  have Vp5 : ∀ u wv, Vp 5 u wv = (u 5 = .slice Ap ps.length cp) := fun u wv => by subst hVdef; rfl
                  have Vp6 : ∀ u wv, Vp 6 u wv = (∃ A9 c9, u 6 = .slice A9 fs2.length c9 ∧ LieIn wv A9 fs2) := fun u wv => by subst hVdef; rfl
                  have Vp7 : ∀ u wv, Vp 7 u wv = (∃ g, u 7 = .slice (some ⟨g, 0, none⟩) 2 2 ∧ ∀ k, k < 2 → ElemL wv g k) := fun u wv => by subst hVdef; rfl
                  have Vp8 : ∀ u wv, Vp 8 u wv = (u 8 = .int .i64 2) := fun u wv => by subst hVdef; rfl
                  have Vp9 : ∀ u wv, Vp 9 u wv = (u 9 = .int .i64 0) := fun u wv => by subst hVdef; rfl
                  have HVD := Lib.hid hVdef
                  clear hVdef
                  refine region_phase (V := Vp) (drop := fun _ _ => false) (G := fun L wv => Below X28.heap.size X28 wv) (Rel := fun jx wv wv' => Below wv.heap.size wv wv') (by kernel_rfl) (by kernel_rfl) (Below.refl _ _).drew ?hmonop2 ?hdepp2 ⟨?s0_p2, ?s1_p2, ?s2_p2, ?s3_p2, ?s4_p2, ?s5_p2, ?s6_p2, ?s7_p2, ?s8_p2, ?s9_p2, trivial⟩ ?behindp2
                  case hmonop2 =>
                    intro ix jx u wv wv' hij hw hd hr
                    rw [HVD.out]
                    dsimp only
                    split <;> intro h <;> first | exact trivial | exact h | (have hb := hr; first | (obtain ⟨A9, c9, e, h9⟩ := h; first | exact ⟨A9, c9, e, h9.below hr⟩ | exact ⟨A9, c9, e, h9.below hb⟩) | (obtain ⟨g, e, hg⟩ := h; first | exact ⟨g, e, fun k hk => (hg k hk).on hr⟩ | exact ⟨g, e, fun k hk => (hg k hk).on hb⟩))
                  case hdepp2 =>
                    intro ix u u' wv h1 h2
                    rw [HVD.out]
                    dsimp only
                    split <;> intro h <;> first | exact trivial | (rw [← h1]; exact h) | exact h
                  case s0_p2 =>
                    refine oweP rfl fun a wx val L hG hi hW hV hN hO K hK => ?_
                    have e7 : a.tmps[7]? = some (.slice none 0 0) := (hO 7 (by kernel_rfl)).trans (by rfl)
                    clear hV hN hO
                    go_simp
                    exact hK.out _ _ (by rw [Vp0, upd_at] <;> (congr 1 <;> omega)) (Below.refl _ _) (hG)
                  case s1_p2 =>
                    refine oweP rfl fun a wx val L hG hi hW hV hN hO K hK => ?_
                    have e7 : a.tmps[7]? = some (.slice none 0 0) := (hO 7 (by kernel_rfl)).trans (by rfl)
                    clear hV hN hO
                    go_simp
                    exact hK.out _ _ (by rw [Vp1, upd_at] <;> (congr 1 <;> omega)) (Below.refl _ _) (hG)
                  case s2_p2 =>
                    refine oweP rfl fun a wx val L hG hi hW hV hN hO K hK => ?_
                    have e186 := hN 1 186 (by kernel_rfl) (by kernel_rfl) (by simp)
                    have f186 := hV 1 (by kernel_rfl) (by kernel_rfl)
                    rw [Vp1] at f186; rw [f186] at e186; clear f186
                    clear hV hN hO
                    go_simp
                    exact hK.out _ _ (by rw [Vp2, upd_at] <;> (congr 1 <;> omega)) (Below.refl _ _) (hG)
                  case s3_p2 =>
                    refine oweP rfl fun a wx val L hG hi hW hV hN hO K hK => ?_
                    have e187 := hN 2 187 (by kernel_rfl) (by kernel_rfl) (by simp)
                    have f187 := hV 2 (by kernel_rfl) (by kernel_rfl)
                    rw [Vp2] at f187; rw [f187] at e187; clear f187
                    clear hV hN hO
                    go_simp
                    exact hK.out _ _ (by rw [Vp3, upd_at] <;> (congr 1 <;> omega)) (Below.refl _ _) (hG)
                  case s4_p2 =>
                    refine oweP rfl fun a wx val L hG hi hW hV hN hO K hK => ?_
                    have e185 := hN 0 185 (by kernel_rfl) (by kernel_rfl) (by simp)
                    have f185 := hV 0 (by kernel_rfl) (by kernel_rfl)
                    rw [Vp0] at f185; rw [f185] at e185; clear f185
                    have e188 := hN 3 188 (by kernel_rfl) (by kernel_rfl) (by simp)
                    have f188 := hV 3 (by kernel_rfl) (by kernel_rfl)
                    rw [Vp3] at f188; rw [f188] at e188; clear f188
                    clear hV hN hO
                    go_simp
                    exact hK.out _ _ (by rw [Vp4, upd_at] <;> (congr 1 <;> omega)) (Below.refl _ _) (hG)
                  case s5_p2 =>
                    refine oweP rfl fun a wx val L hG hi hW hV hN hO K hK => ?_
                    have e8 : a.tmps[8]? = some (.slice Ap ps.length cp) := (hO 8 (by kernel_rfl)).trans (by rfl)
                    clear hV hN hO
                    go_simp
                    exact hK.out _ _ (by rw [Vp5, upd_at] <;> (congr 1 <;> omega)) (Below.refl _ _) (hG)
                  case s6_p2 =>
                    refine oweP rfl fun a wx val L hG hi hW hV hN hO K hK => ?_
                    have e190 := hN 5 190 (by kernel_rfl) (by kernel_rfl) (by simp)
                    have f190 := hV 5 (by kernel_rfl) (by kernel_rfl)
                    rw [Vp5] at f190; rw [f190] at e190; clear f190
                    clear hV hN hO
                    go_simp
                    refine (CF9.out _ hG).mono ?_
                    rintro en w11 ⟨A9, c9, rfl, hl9, -, hb⟩
                    exact hK.out _ _ (by rw [Vp6, upd_at]; exact ⟨A9, c9, rfl, hl9⟩) hb (hG.trans (hb.mono hG.size))
                  case s7_p2 =>
                    refine oweP rfl fun a wx val L hG hi hW hV hN hO K hK => ?_
                    have e189 := hN 4 189 (by kernel_rfl) (by kernel_rfl) (by simp)
                    have f189 := hV 4 (by kernel_rfl) (by kernel_rfl)
                    rw [Vp4] at f189; rw [f189] at e189; clear f189
                    have e191 := hN 6 191 (by kernel_rfl) (by kernel_rfl) (by simp)
                    have f191 := hV 6 (by kernel_rfl) (by kernel_rfl)
                    rw [Vp6] at f191; obtain ⟨A9, c9, hv9, hl9⟩ := f191; rw [hv9] at e191
                    clear hV hN hO
                    go_simp
                    have hb := Joins.below_alloc1 wx (.cells #[.slice none 0 0, .slice A9 fs2.length c9] 31)
                    exact hK.out _ _ (by rw [Vp7, upd_at]; exact ⟨_, rfl, HQ3.out wx A9 c9 hG hl9⟩) hb (hG.trans (hb.mono hG.size))
                  case s8_p2 =>
                    refine oweP rfl fun a wx val L hG hi hW hV hN hO K hK => ?_
                    have e192 := hN 7 192 (by kernel_rfl) (by kernel_rfl) (by simp)
                    have f192 := hV 7 (by kernel_rfl) (by kernel_rfl)
                    rw [Vp7] at f192; obtain ⟨g, hv, hgg⟩ := f192; rw [hv] at e192
                    clear hV hN hO
                    go_simp
                    exact hK.out _ _ (by rw [Vp8, upd_at] <;> (congr 1 <;> omega)) (Below.refl _ _) (hG)
                  case s9_p2 =>
                    refine oweP rfl fun a wx val L hG hi hW hV hN hO K hK => ?_
                    clear hV hN hO
                    go_simp
                    exact hK.out _ _ (by rw [Vp9, upd_at] <;> (congr 1 <;> omega)) (Below.refl _ _) (hG)
                  intro val wx L hG hV
                  have f0 := hV 0 (by simp) (fun _ _ => by simp)
                  rw [Vp0] at f0
                  have f1 := hV 1 (by simp) (fun _ _ => by simp)
                  rw [Vp1] at f1
                  have f2 := hV 2 (by simp) (fun _ _ => by simp)
                  rw [Vp2] at f2
                  have f3 := hV 3 (by simp) (fun _ _ => by simp)
                  rw [Vp3] at f3
                  have f4 := hV 4 (by simp) (fun _ _ => by simp)
                  rw [Vp4] at f4
                  have f5 := hV 5 (by simp) (fun _ _ => by simp)
                  rw [Vp5] at f5
                  have f6 := hV 6 (by simp) (fun _ _ => by simp)
                  rw [Vp6] at f6
                  have f7 := hV 7 (by simp) (fun _ _ => by simp)
                  rw [Vp7] at f7
                  have f8 := hV 8 (by simp) (fun _ _ => by simp)
                  rw [Vp8] at f8
                  have f9 := hV 9 (by simp) (fun _ _ => by simp)
                  rw [Vp9] at f9
                  clear hV Vp0 Vp1 Vp2 Vp3 Vp4 Vp5 Vp6 Vp7 Vp8 Vp9
                  simp only [putAll, Act.put, List.setIfInBounds_toArray, List.set_cons_zero, List.set_cons_succ]
                  generalize val 0 = z0 at *; (subst f0)
                  generalize val 1 = z1 at *; (subst f1)
                  generalize val 2 = z2 at *; (subst f2)
                  generalize val 3 = z3 at *; (subst f3)
                  generalize val 4 = z4 at *; (subst f4)
                  generalize val 5 = z5 at *; (subst f5)
                  generalize val 6 = z6 at *
                  generalize val 7 = z7 at *
                  generalize val 8 = z8 at *; (subst f8)
                  generalize val 9 = z9 at *; (subst f9)
                  clear HVD
                  obtain ⟨g9, hz9, hg9⟩ := f7
                  have HG9 := Lib.hid (And.intro hg9 hG)
                  clear hg9 hG
                  go_wp2_with fail
                  go_meet
                  exact ⟨g9, by first | rfl | assumption, rfl, rfl, HG9.out.1, HG9.out.2⟩
                · have hc0 : (fl.length : Int) ≤ (cf : Int) := by omega
                  by_cases h10 : fl.length ≤ 10
                  · have h11 : (fl.length : Int) ≤ 10 := by omega
                    have h12 : min (fl.length : Int) 10 = (fl.length : Int) := by omega
                    have HQ3 : Hid (∀ W A9 c9, Below X28.heap.size X28 W → LieIn W A9 fs2 → ∀ k, k < 2 → ElemL (W.alloc (.cells #[.slice (some af) fl.length cf, .slice A9 fs2.length c9] 31)) W.heap.size k) := Lib.hid (fun W A9 c9 hb hl => ElemL.two W (hlie'.below hb) hl (by omega) hfw)
                    clear hlie hlie' hfw
                    have HV : ∃ Vp : Nat → (Nat → Value) → World → Prop, Vp = (fun ix u wv => match ix with
                      | 0 => u 0 = .slice (some af) fl.length cf
                      | 1 => u 1 = .slice (some af) fl.length cf
                      | 2 => u 2 = .int .i64 fl.length
                      | 3 => u 3 = .int .i64 fl.length
                      | 4 => u 4 = .slice (some af) fl.length cf
                      | 5 => u 5 = .slice Ap ps.length cp
                      | 6 => ∃ A9 c9, u 6 = .slice A9 fs2.length c9 ∧ LieIn wv A9 fs2
                      | 7 => ∃ g, u 7 = .slice (some ⟨g, 0, none⟩) 2 2 ∧ ∀ k, k < 2 → ElemL wv g k
                      | 8 => u 8 = .int .i64 2
                      | 9 => u 9 = .int .i64 0
                      | _ => True) := ⟨_, rfl⟩
                    obtain ⟨Vp, hVdef⟩ := HV
                    have Vp0 : ∀ u wv, Vp 0 u wv = (u 0 = .slice (some af) fl.length cf) := fun u wv => by subst hVdef; rfl
                    have Vp1 : ∀ u wv, Vp 1 u wv = (u 1 = .slice (some af) fl.length cf) := fun u wv => by subst hVdef; rfl
                    have Vp2 : ∀ u wv, Vp 2 u wv = (u 2 = .int .i64 fl.length) := fun u wv => by subst hVdef; rfl
                    have Vp3 : ∀ u wv, Vp 3 u wv = (u 3 = .int .i64 fl.length) := fun u wv => by subst hVdef; rfl
                    have Vp4 : ∀ u wv, Vp 4 u wv = (u 4 = .slice (some af) fl.length cf) := fun u wv => by subst hVdef; rfl
                    have Vp5 : ∀ u wv, Vp 5 u wv = (u 5 = .slice Ap ps.length cp) := fun u wv => by subst hVdef; rfl
                    have Vp6 : ∀ u wv, Vp 6 u wv = (∃ A9 c9, u 6 = .slice A9 fs2.length c9 ∧ LieIn wv A9 fs2) := fun u wv => by subst hVdef; rfl
                    have Vp7 : ∀ u wv, Vp 7 u wv = (∃ g, u 7 = .slice (some ⟨g, 0, none⟩) 2 2 ∧ ∀ k, k < 2 → ElemL wv g k) := fun u wv => by subst hVdef; rfl
                    have Vp8 : ∀ u wv, Vp 8 u wv = (u 8 = .int .i64 2) := fun u wv => by subst hVdef; rfl
                    have Vp9 : ∀ u wv, Vp 9 u wv = (u 9 = .int .i64 0) := fun u wv => by subst hVdef; rfl
                    have HVD := Lib.hid hVdef
                    clear hVdef
                    refine region_phase (V := Vp) (drop := fun _ _ => false) (G := fun L wv => Below X28.heap.size X28 wv) (Rel := fun jx wv wv' => Below wv.heap.size wv wv') (by kernel_rfl) (by kernel_rfl) (Below.refl _ _).drew ?hmonop3 ?hdepp3 ⟨?s0_p3, ?s1_p3, ?s2_p3, ?s3_p3, ?s4_p3, ?s5_p3, ?s6_p3, ?s7_p3, ?s8_p3, ?s9_p3, trivial⟩ ?behindp3
                    case hmonop3 =>
                      intro ix jx u wv wv' hij hw hd hr
                      rw [HVD.out]
                      dsimp only
                      split <;> intro h <;> first | exact trivial | exact h | (have hb := hr; first | (obtain ⟨A9, c9, e, h9⟩ := h; first | exact ⟨A9, c9, e, h9.below hr⟩ | exact ⟨A9, c9, e, h9.below hb⟩) | (obtain ⟨g, e, hg⟩ := h; first | exact ⟨g, e, fun k hk => (hg k hk).on hr⟩ | exact ⟨g, e, fun k hk => (hg k hk).on hb⟩))
                    case hdepp3 =>
                      intro ix u u' wv h1 h2
                      rw [HVD.out]
                      dsimp only
                      split <;> intro h <;> first | exact trivial | (rw [← h1]; exact h) | exact h
                    case s0_p3 =>
                      refine oweP rfl fun a wx val L hG hi hW hV hN hO K hK => ?_
                      have e7 : a.tmps[7]? = some (.slice (some af) fl.length cf) := (hO 7 (by kernel_rfl)).trans (by rfl)
                      clear hV hN hO
                      go_simp
                      exact hK.out _ _ (by rw [Vp0, upd_at] <;> (congr 1 <;> omega)) (Below.refl _ _) (hG)
                    case s1_p3 =>
                      refine oweP rfl fun a wx val L hG hi hW hV hN hO K hK => ?_
                      have e7 : a.tmps[7]? = some (.slice (some af) fl.length cf) := (hO 7 (by kernel_rfl)).trans (by rfl)
                      clear hV hN hO
                      go_simp
                      exact hK.out _ _ (by rw [Vp1, upd_at] <;> (congr 1 <;> omega)) (Below.refl _ _) (hG)
                    case s2_p3 =>
                      refine oweP rfl fun a wx val L hG hi hW hV hN hO K hK => ?_
                      have e186 := hN 1 186 (by kernel_rfl) (by kernel_rfl) (by simp)
                      have f186 := hV 1 (by kernel_rfl) (by kernel_rfl)
                      rw [Vp1] at f186; rw [f186] at e186; clear f186
                      clear hV hN hO
                      go_simp
                      exact hK.out _ _ (by rw [Vp2, upd_at] <;> (congr 1 <;> omega)) (Below.refl _ _) (hG)
                    case s3_p3 =>
                      refine oweP rfl fun a wx val L hG hi hW hV hN hO K hK => ?_
                      have e187 := hN 2 187 (by kernel_rfl) (by kernel_rfl) (by simp)
                      have f187 := hV 2 (by kernel_rfl) (by kernel_rfl)
                      rw [Vp2] at f187; rw [f187] at e187; clear f187
                      clear hV hN hO
                      go_simp
                      exact hK.out _ _ (by rw [Vp3, upd_at] <;> (congr 1 <;> omega)) (Below.refl _ _) (hG)
                    case s4_p3 =>
                      refine oweP rfl fun a wx val L hG hi hW hV hN hO K hK => ?_
                      have e185 := hN 0 185 (by kernel_rfl) (by kernel_rfl) (by simp)
                      have f185 := hV 0 (by kernel_rfl) (by kernel_rfl)
                      rw [Vp0] at f185; rw [f185] at e185; clear f185
                      have e188 := hN 3 188 (by kernel_rfl) (by kernel_rfl) (by simp)
                      have f188 := hV 3 (by kernel_rfl) (by kernel_rfl)
                      rw [Vp3] at f188; rw [f188] at e188; clear f188
                      clear hV hN hO
                      go_simp
                      exact hK.out _ _ (by rw [Vp4, upd_at] <;> (congr 1 <;> omega)) (Below.refl _ _) (hG)
                    case s5_p3 =>
                      refine oweP rfl fun a wx val L hG hi hW hV hN hO K hK => ?_
                      have e8 : a.tmps[8]? = some (.slice Ap ps.length cp) := (hO 8 (by kernel_rfl)).trans (by rfl)
                      clear hV hN hO
                      go_simp
                      exact hK.out _ _ (by rw [Vp5, upd_at] <;> (congr 1 <;> omega)) (Below.refl _ _) (hG)
                    case s6_p3 =>
                      refine oweP rfl fun a wx val L hG hi hW hV hN hO K hK => ?_
                      have e190 := hN 5 190 (by kernel_rfl) (by kernel_rfl) (by simp)
                      have f190 := hV 5 (by kernel_rfl) (by kernel_rfl)
                      rw [Vp5] at f190; rw [f190] at e190; clear f190
                      clear hV hN hO
                      go_simp
                      refine (CF9.out _ hG).mono ?_
                      rintro en w11 ⟨A9, c9, rfl, hl9, -, hb⟩
                      exact hK.out _ _ (by rw [Vp6, upd_at]; exact ⟨A9, c9, rfl, hl9⟩) hb (hG.trans (hb.mono hG.size))
                    case s7_p3 =>
                      refine oweP rfl fun a wx val L hG hi hW hV hN hO K hK => ?_
                      have e189 := hN 4 189 (by kernel_rfl) (by kernel_rfl) (by simp)
                      have f189 := hV 4 (by kernel_rfl) (by kernel_rfl)
                      rw [Vp4] at f189; rw [f189] at e189; clear f189
                      have e191 := hN 6 191 (by kernel_rfl) (by kernel_rfl) (by simp)
                      have f191 := hV 6 (by kernel_rfl) (by kernel_rfl)
                      rw [Vp6] at f191; obtain ⟨A9, c9, hv9, hl9⟩ := f191; rw [hv9] at e191
                      clear hV hN hO
                      go_simp
                      have hb := Joins.below_alloc1 wx (.cells #[.slice (some af) fl.length cf, .slice A9 fs2.length c9] 31)
                      exact hK.out _ _ (by rw [Vp7, upd_at]; exact ⟨_, rfl, HQ3.out wx A9 c9 hG hl9⟩) hb (hG.trans (hb.mono hG.size))
                    case s8_p3 =>
                      refine oweP rfl fun a wx val L hG hi hW hV hN hO K hK => ?_
                      have e192 := hN 7 192 (by kernel_rfl) (by kernel_rfl) (by simp)
                      have f192 := hV 7 (by kernel_rfl) (by kernel_rfl)
                      rw [Vp7] at f192; obtain ⟨g, hv, hgg⟩ := f192; rw [hv] at e192
                      clear hV hN hO
                      go_simp
                      exact hK.out _ _ (by rw [Vp8, upd_at] <;> (congr 1 <;> omega)) (Below.refl _ _) (hG)
                    case s9_p3 =>
                      refine oweP rfl fun a wx val L hG hi hW hV hN hO K hK => ?_
                      clear hV hN hO
                      go_simp
                      exact hK.out _ _ (by rw [Vp9, upd_at] <;> (congr 1 <;> omega)) (Below.refl _ _) (hG)
                    intro val wx L hG hV
                    have f0 := hV 0 (by simp) (fun _ _ => by simp)
                    rw [Vp0] at f0
                    have f1 := hV 1 (by simp) (fun _ _ => by simp)
                    rw [Vp1] at f1
                    have f2 := hV 2 (by simp) (fun _ _ => by simp)
                    rw [Vp2] at f2
                    have f3 := hV 3 (by simp) (fun _ _ => by simp)
                    rw [Vp3] at f3
                    have f4 := hV 4 (by simp) (fun _ _ => by simp)
                    rw [Vp4] at f4
                    have f5 := hV 5 (by simp) (fun _ _ => by simp)
                    rw [Vp5] at f5
                    have f6 := hV 6 (by simp) (fun _ _ => by simp)
                    rw [Vp6] at f6
                    have f7 := hV 7 (by simp) (fun _ _ => by simp)
                    rw [Vp7] at f7
                    have f8 := hV 8 (by simp) (fun _ _ => by simp)
                    rw [Vp8] at f8
                    have f9 := hV 9 (by simp) (fun _ _ => by simp)
                    rw [Vp9] at f9
                    clear hV Vp0 Vp1 Vp2 Vp3 Vp4 Vp5 Vp6 Vp7 Vp8 Vp9
                    simp only [putAll, Act.put, List.setIfInBounds_toArray, List.set_cons_zero, List.set_cons_succ]
                    generalize val 0 = z0 at *; (subst f0)
                    generalize val 1 = z1 at *; (subst f1)
                    generalize val 2 = z2 at *; (subst f2)
                    generalize val 3 = z3 at *; (subst f3)
                    generalize val 4 = z4 at *; (subst f4)
                    generalize val 5 = z5 at *; (subst f5)
                    generalize val 6 = z6 at *
                    generalize val 7 = z7 at *
                    generalize val 8 = z8 at *; (subst f8)
                    generalize val 9 = z9 at *; (subst f9)
                    clear HVD
                    obtain ⟨g9, hz9, hg9⟩ := f7
                    have HG9 := Lib.hid (And.intro hg9 hG)
                    clear hg9 hG
                    go_wp2_with fail
                    go_meet
                    exact ⟨g9, by first | rfl | assumption, rfl, rfl, HG9.out.1, HG9.out.2⟩
                  · have h11 : (10 : Int) < (fl.length : Int) := by omega
                    have h12 : (10 : Int) ≤ (cf : Int) := by omega
                    have h13 : min (fl.length : Int) 10 = 10 := by omega
                    have h10l : (fl.take 10).length = 10 := by rw [List.length_take]; omega
                    have HQ3 : Hid (∀ W A9 c9, Below X28.heap.size X28 W → LieIn W A9 fs2 → ∀ k, k < 2 → ElemL (W.alloc (.cells #[.slice (some af) 10 cf, .slice A9 fs2.length c9] 31)) W.heap.size k) := Lib.hid (fun W A9 c9 hb hl => by have hq := ElemL.two W (c0 := cf) (c1 := c9) ((hlie'.take 10).below hb) hl (by omega) hfw; rw [h10l] at hq; exact hq)
                    clear hlie hlie' hfw h10l
                    have HV : ∃ Vp : Nat → (Nat → Value) → World → Prop, Vp = (fun ix u wv => match ix with
                      | 0 => u 0 = .slice (some af) fl.length cf
                      | 1 => u 1 = .slice (some af) fl.length cf
                      | 2 => u 2 = .int .i64 fl.length
                      | 3 => u 3 = .int .i64 10
                      | 4 => u 4 = .slice (some af) 10 cf
                      | 5 => u 5 = .slice Ap ps.length cp
                      | 6 => ∃ A9 c9, u 6 = .slice A9 fs2.length c9 ∧ LieIn wv A9 fs2
                      | 7 => ∃ g, u 7 = .slice (some ⟨g, 0, none⟩) 2 2 ∧ ∀ k, k < 2 → ElemL wv g k
                      | 8 => u 8 = .int .i64 2
                      | 9 => u 9 = .int .i64 0
                      | _ => True) := ⟨_, rfl⟩
                    obtain ⟨Vp, hVdef⟩ := HV
                    have Vp0 : ∀ u wv, Vp 0 u wv = (u 0 = .slice (some af) fl.length cf) := fun u wv => by subst hVdef; rfl
                    have Vp1 : ∀ u wv, Vp 1 u wv = (u 1 = .slice (some af) fl.length cf) := fun u wv => by subst hVdef; rfl
                    have Vp2 : ∀ u wv, Vp 2 u wv = (u 2 = .int .i64 fl.length) := fun u wv => by subst hVdef; rfl
                    have Vp3 : ∀ u wv, Vp 3 u wv = (u 3 = .int .i64 10) := fun u wv => by subst hVdef; rfl
                    have Vp4 : ∀ u wv, Vp 4 u wv = (u 4 = .slice (some af) 10 cf) := fun u wv => by subst hVdef; rfl
                    have Vp5 : ∀ u wv, Vp 5 u wv = (u 5 = .slice Ap ps.length cp) := fun u wv => by subst hVdef; rfl
                    have Vp6 : ∀ u wv, Vp 6 u wv = (∃ A9 c9, u 6 = .slice A9 fs2.length c9 ∧ LieIn wv A9 fs2) := fun u wv => by subst hVdef; rfl
                    have Vp7 : ∀ u wv, Vp 7 u wv = (∃ g, u 7 = .slice (some ⟨g, 0, none⟩) 2 2 ∧ ∀ k, k < 2 → ElemL wv g k) := fun u wv => by subst hVdef; rfl
                    have Vp8 : ∀ u wv, Vp 8 u wv = (u 8 = .int .i64 2) := fun u wv => by subst hVdef; rfl
                    have Vp9 : ∀ u wv, Vp 9 u wv = (u 9 = .int .i64 0) := fun u wv => by subst hVdef; rfl
                    have HVD := Lib.hid hVdef
                    clear hVdef
                    refine region_phase (V := Vp) (drop := fun _ _ => false) (G := fun L wv => Below X28.heap.size X28 wv) (Rel := fun jx wv wv' => Below wv.heap.size wv wv') (by kernel_rfl) (by kernel_rfl) (Below.refl _ _).drew ?hmonop4 ?hdepp4 ⟨?s0_p4, ?s1_p4, ?s2_p4, ?s3_p4, ?s4_p4, ?s5_p4, ?s6_p4, ?s7_p4, ?s8_p4, ?s9_p4, trivial⟩ ?behindp4
                    case hmonop4 =>
                      intro ix jx u wv wv' hij hw hd hr
                      rw [HVD.out]
                      dsimp only
                      split <;> intro h <;> first | exact trivial | exact h | (have hb := hr; first | (obtain ⟨A9, c9, e, h9⟩ := h; first | exact ⟨A9, c9, e, h9.below hr⟩ | exact ⟨A9, c9, e, h9.below hb⟩) | (obtain ⟨g, e, hg⟩ := h; first | exact ⟨g, e, fun k hk => (hg k hk).on hr⟩ | exact ⟨g, e, fun k hk => (hg k hk).on hb⟩))
                    case hdepp4 =>
                      intro ix u u' wv h1 h2
                      rw [HVD.out]
                      dsimp only
                      split <;> intro h <;> first | exact trivial | (rw [← h1]; exact h) | exact h
                    case s0_p4 =>
                      refine oweP rfl fun a wx val L hG hi hW hV hN hO K hK => ?_
                      have e7 : a.tmps[7]? = some (.slice (some af) fl.length cf) := (hO 7 (by kernel_rfl)).trans (by rfl)
                      clear hV hN hO
                      go_simp
                      exact hK.out _ _ (by rw [Vp0, upd_at] <;> (congr 1 <;> omega)) (Below.refl _ _) (hG)
                    case s1_p4 =>
                      refine oweP rfl fun a wx val L hG hi hW hV hN hO K hK => ?_
                      have e7 : a.tmps[7]? = some (.slice (some af) fl.length cf) := (hO 7 (by kernel_rfl)).trans (by rfl)
                      clear hV hN hO
                      go_simp
                      exact hK.out _ _ (by rw [Vp1, upd_at] <;> (congr 1 <;> omega)) (Below.refl _ _) (hG)
                    case s2_p4 =>
                      refine oweP rfl fun a wx val L hG hi hW hV hN hO K hK => ?_
                      have e186 := hN 1 186 (by kernel_rfl) (by kernel_rfl) (by simp)
                      have f186 := hV 1 (by kernel_rfl) (by kernel_rfl)
                      rw [Vp1] at f186; rw [f186] at e186; clear f186
                      clear hV hN hO
                      go_simp
                      exact hK.out _ _ (by rw [Vp2, upd_at] <;> (congr 1 <;> omega)) (Below.refl _ _) (hG)
                    case s3_p4 =>
                      refine oweP rfl fun a wx val L hG hi hW hV hN hO K hK => ?_
                      have e187 := hN 2 187 (by kernel_rfl) (by kernel_rfl) (by simp)
                      have f187 := hV 2 (by kernel_rfl) (by kernel_rfl)
                      rw [Vp2] at f187; rw [f187] at e187; clear f187
                      clear hV hN hO
                      go_simp
                      exact hK.out _ _ (by rw [Vp3, upd_at] <;> (congr 1 <;> omega)) (Below.refl _ _) (hG)
                    case s4_p4 =>
                      refine oweP rfl fun a wx val L hG hi hW hV hN hO K hK => ?_
                      have e185 := hN 0 185 (by kernel_rfl) (by kernel_rfl) (by simp)
                      have f185 := hV 0 (by kernel_rfl) (by kernel_rfl)
                      rw [Vp0] at f185; rw [f185] at e185; clear f185
                      have e188 := hN 3 188 (by kernel_rfl) (by kernel_rfl) (by simp)
                      have f188 := hV 3 (by kernel_rfl) (by kernel_rfl)
                      rw [Vp3] at f188; rw [f188] at e188; clear f188
                      clear hV hN hO
                      go_simp
                      exact hK.out _ _ (by rw [Vp4, upd_at] <;> (congr 1 <;> omega)) (Below.refl _ _) (hG)
                    case s5_p4 =>
                      refine oweP rfl fun a wx val L hG hi hW hV hN hO K hK => ?_
                      have e8 : a.tmps[8]? = some (.slice Ap ps.length cp) := (hO 8 (by kernel_rfl)).trans (by rfl)
                      clear hV hN hO
                      go_simp
                      exact hK.out _ _ (by rw [Vp5, upd_at] <;> (congr 1 <;> omega)) (Below.refl _ _) (hG)
                    case s6_p4 =>
                      refine oweP rfl fun a wx val L hG hi hW hV hN hO K hK => ?_
                      have e190 := hN 5 190 (by kernel_rfl) (by kernel_rfl) (by simp)
                      have f190 := hV 5 (by kernel_rfl) (by kernel_rfl)
                      rw [Vp5] at f190; rw [f190] at e190; clear f190
                      clear hV hN hO
                      go_simp
                      refine (CF9.out _ hG).mono ?_
                      rintro en w11 ⟨A9, c9, rfl, hl9, -, hb⟩
                      exact hK.out _ _ (by rw [Vp6, upd_at]; exact ⟨A9, c9, rfl, hl9⟩) hb (hG.trans (hb.mono hG.size))
                    case s7_p4 =>
                      refine oweP rfl fun a wx val L hG hi hW hV hN hO K hK => ?_
                      have e189 := hN 4 189 (by kernel_rfl) (by kernel_rfl) (by simp)
                      have f189 := hV 4 (by kernel_rfl) (by kernel_rfl)
                      rw [Vp4] at f189; rw [f189] at e189; clear f189
                      have e191 := hN 6 191 (by kernel_rfl) (by kernel_rfl) (by simp)
                      have f191 := hV 6 (by kernel_rfl) (by kernel_rfl)
                      rw [Vp6] at f191; obtain ⟨A9, c9, hv9, hl9⟩ := f191; rw [hv9] at e191
                      clear hV hN hO
                      go_simp
                      have hb := Joins.below_alloc1 wx (.cells #[.slice (some af) 10 cf, .slice A9 fs2.length c9] 31)
                      exact hK.out _ _ (by rw [Vp7, upd_at]; exact ⟨_, rfl, HQ3.out wx A9 c9 hG hl9⟩) hb (hG.trans (hb.mono hG.size))
                    case s8_p4 =>
                      refine oweP rfl fun a wx val L hG hi hW hV hN hO K hK => ?_
                      have e192 := hN 7 192 (by kernel_rfl) (by kernel_rfl) (by simp)
                      have f192 := hV 7 (by kernel_rfl) (by kernel_rfl)
                      rw [Vp7] at f192; obtain ⟨g, hv, hgg⟩ := f192; rw [hv] at e192
                      clear hV hN hO
                      go_simp
                      exact hK.out _ _ (by rw [Vp8, upd_at] <;> (congr 1 <;> omega)) (Below.refl _ _) (hG)
                    case s9_p4 =>
                      refine oweP rfl fun a wx val L hG hi hW hV hN hO K hK => ?_
                      clear hV hN hO
                      go_simp
                      exact hK.out _ _ (by rw [Vp9, upd_at] <;> (congr 1 <;> omega)) (Below.refl _ _) (hG)
                    intro val wx L hG hV
                    have f0 := hV 0 (by simp) (fun _ _ => by simp)
                    rw [Vp0] at f0
                    have f1 := hV 1 (by simp) (fun _ _ => by simp)
                    rw [Vp1] at f1
                    have f2 := hV 2 (by simp) (fun _ _ => by simp)
                    rw [Vp2] at f2
                    have f3 := hV 3 (by simp) (fun _ _ => by simp)
                    rw [Vp3] at f3
                    have f4 := hV 4 (by simp) (fun _ _ => by simp)
                    rw [Vp4] at f4
                    have f5 := hV 5 (by simp) (fun _ _ => by simp)
                    rw [Vp5] at f5
                    have f6 := hV 6 (by simp) (fun _ _ => by simp)
                    rw [Vp6] at f6
                    have f7 := hV 7 (by simp) (fun _ _ => by simp)
                    rw [Vp7] at f7
                    have f8 := hV 8 (by simp) (fun _ _ => by simp)
                    rw [Vp8] at f8
                    have f9 := hV 9 (by simp) (fun _ _ => by simp)
                    rw [Vp9] at f9
                    clear hV Vp0 Vp1 Vp2 Vp3 Vp4 Vp5 Vp6 Vp7 Vp8 Vp9
                    simp only [putAll, Act.put, List.setIfInBounds_toArray, List.set_cons_zero, List.set_cons_succ]
                    generalize val 0 = z0 at *; (subst f0)
                    generalize val 1 = z1 at *; (subst f1)
                    generalize val 2 = z2 at *; (subst f2)
                    generalize val 3 = z3 at *; (subst f3)
                    generalize val 4 = z4 at *; (subst f4)
                    generalize val 5 = z5 at *; (subst f5)
                    generalize val 6 = z6 at *
                    generalize val 7 = z7 at *
                    generalize val 8 = z8 at *; (subst f8)
                    generalize val 9 = z9 at *; (subst f9)
                    clear HVD
                    obtain ⟨g9, hz9, hg9⟩ := f7
                    have HG9 := Lib.hid (And.intro hg9 hG)
                    clear hg9 hG
                    go_wp2_with fail
                    go_meet
                    exact ⟨g9, by first | rfl | assumption, rfl, rfl, HG9.out.1, HG9.out.2⟩
              case rest =>
                obtain ⟨g, rfl, rfl, rfl, hE2, hG⟩ := hcut
                have HES := Lib.hid hE2
                have HB1 := Lib.hid (HB.out.trans (hG.mono HB.out.size)); clear HB; have HB := HB1; clear HB1
                have H121 := Lib.hid (MsgAt.on H12.out hG); clear H12; have H12 := H121; clear H121
                have H131 := Lib.hid (SixAt.on H13.out hG); clear H13; have H13 := H131; clear H131
                have HEL1 := Lib.hid (fun k hk => ElemF.on (HEL.out k hk) hG); clear HEL; have HEL := HEL1; clear HEL1
                have H271 := Lib.hid (FVar.on H27.out hG); clear H27; have H27 := H271; clear H271
                have HBM1 := Lib.hid (BlkM.on HBM.out hG); clear HBM; have HBM := HBM1; clear HBM1
                have HGI1 := Lib.hid (HGI.out.trans (hG.mono HGI.out.size)); clear HGI; have HGI := HGI1; clear HGI1
                have H411 := Lib.hid (MsgAt.on H41.out hG); clear H41; have H41 := H411; clear H411
                clear hG hE2
                go_wp2_with fail
                go_loopw [194] (fun i wr => ∃ q : Nat, q ≤ 2 ∧ i = .int .i64 q ∧ Below wc.heap.size wc wr) (fun i _ => 2 - (intOf i).toNat)
                case atStart => exact ⟨0, by omega, rfl, Below.refl _ _⟩
                case round =>
                  obtain ⟨q, hq2, rfl, hG⟩ := hrel
                  have HGJ : Hid (Below wc.heap.size wc wc) := Lib.hid (Below.refl _ _)
                  have HB1 := Lib.hid (HB.out.trans (hG.mono HB.out.size)); clear HB; have HB := HB1; clear HB1
                  have H121 := Lib.hid (MsgAt.on H12.out hG); clear H12; have H12 := H121; clear H121
                  have H131 := Lib.hid (SixAt.on H13.out hG); clear H13; have H13 := H131; clear H131
                  have HEL1 := Lib.hid (fun k hk => ElemF.on (HEL.out k hk) hG); clear HEL; have HEL := HEL1; clear HEL1
                  have H271 := Lib.hid (FVar.on H27.out hG); clear H27; have H27 := H271; clear H271
                  have HBM1 := Lib.hid (BlkM.on HBM.out hG); clear HBM; have HBM := HBM1; clear HBM1
                  have HGI1 := Lib.hid (HGI.out.trans (hG.mono HGI.out.size)); clear HGI; have HGI := HGI1; clear HGI1
                  have H411 := Lib.hid (MsgAt.on H41.out hG); clear H41; have H41 := H411; clear H411
                  have HES1 := Lib.hid (fun k hk => ElemL.on (HES.out k hk) hG); clear HES; have HES := HES1; clear HES1
                  have HGJ1 := Lib.hid (HGJ.out.trans (hG.mono HGJ.out.size)); clear HGJ; have HGJ := HGJ1; clear HGJ1
                  clear hG
                  by_cases hqt : q < 2
                  · have hqI : (q : Int) < 2 := by omega
                    obtain ⟨AL, cl, ll, v0, hli, hlf, -⟩ := HES.out q hqt
                    have HLI := Lib.hid hli
                    clear hli
                    go_upto_region 31 with (fail)
                    clear v0
                    obtain ⟨th, hth⟩ : ∃ x, anyI pe pn ll = x := ⟨_, rfl⟩
                    obtain ⟨oT, hoT⟩ : ∃ x, offFiT LZ TZ lz ⟨pe, pn, ps9, pj, pq, pk, pd⟩ th = x := ⟨_, rfl⟩
                    obtain ⟨oL, hoL⟩ : ∃ x, offFiL LZ TZ lz ⟨pe, pn, ps9, pj, pq, pk, pd⟩ th = x := ⟨_, rfl⟩
                    obtain ⟨oH, hoH⟩ : ∃ x, offFiH LZ TZ lz ⟨pe, pn, ps9, pj, pq, pk, pd⟩ th = x := ⟨_, rfl⟩
                    obtain ⟨oE, hoE⟩ : ∃ x, offFiE LZ TZ lz ⟨pe, pn, ps9, pj, pq, pk, pd⟩ = x := ⟨_, rfl⟩
                    have HOF := Lib.hid (And.intro hth (And.intro hoT (And.intro hoL (And.intro hoH hoE))))
                    clear hth hoT hoL hoH hoE
                    obtain ⟨Az, cz, hqa, hqi⟩ := H27.out
                    obtain ⟨y0, y1, y2⟩ := hqa.cells
                    obtain ⟨x0, x1, x2, x3, x4, x5, x6⟩ := MsgAt.cells H41.out
                    simp only at x0 x1 x2 x3 x4 x5 x6
                    have hpc := offer_in LZ TZ Az cz lz ⟨pe, pn, ps9, pj, pq, pk, pd⟩ AL cl ll wr (HLL.out.below HB.out) hqi (by omega) HPD.out HLI.out hlf
                    simp only [mv] at hpc
                    rw [HOF.out.1, HOF.out.2.1, HOF.out.2.2.1, HOF.out.2.2.2.1, HOF.out.2.2.2.2] at hpc
                    delta FiIn at hpc
                    clear hqa hqi
                    go_wp2_with fail; refine hpc.mono ?_; rintro e w44 ⟨A44, c44, rfl, hiq, hbc⟩
                    clear y0 y1 y2 x0 x1 x2 x3 x4 x5 x6 hpc
                    have hbq := Joins.below_alloc1 w44 (.cells #[.int .i64 LZ, .int .i64 oT, .slice A44 oL.length c44] 30)
                    have hG := hbc.trans (hbq.mono hbc.size)
                    have H44 := Lib.hid (FVar.new (L := LZ) (T := oT) hiq)
                    have HB1 := Lib.hid (HB.out.trans (hG.mono HB.out.size)); clear HB; have HB := HB1; clear HB1
                    have H121 := Lib.hid (MsgAt.on H12.out hG); clear H12; have H12 := H121; clear H121
                    have H131 := Lib.hid (SixAt.on H13.out hG); clear H13; have H13 := H131; clear H131
                    have HEL1 := Lib.hid (fun k hk => ElemF.on (HEL.out k hk) hG); clear HEL; have HEL := HEL1; clear HEL1
                    have H271 := Lib.hid (FVar.on H27.out hG); clear H27; have H27 := H271; clear H271
                    have HBM1 := Lib.hid (BlkM.on HBM.out hG); clear HBM; have HBM := HBM1; clear HBM1
                    have HGI1 := Lib.hid (HGI.out.trans (hG.mono HGI.out.size)); clear HGI; have HGI := HGI1; clear HGI1
                    have H411 := Lib.hid (MsgAt.on H41.out hG); clear H41; have H41 := H411; clear H411
                    have HES1 := Lib.hid (fun k hk => ElemL.on (HES.out k hk) hG); clear HES; have HES := HES1; clear HES1
                    have HGJ1 := Lib.hid (HGJ.out.trans (hG.mono HGJ.out.size)); clear HGJ; have HGJ := HGJ1; clear HGJ1
                    have HLI1 := Lib.hid (LieIn.below HLI.out hG); clear HLI; have HLI := HLI1; clear HLI1
                    clear hbq hG hbc hiq
                    go_upto_region 32 with (fail)
                    generalize hX : w44.alloc (.cells #[.int .i64 LZ, .int .i64 oT, .slice A44 oL.length c44] 30) = X32 at *
                    clear hX
                    generalize w44.heap.size = bH44 at *
                    obtain ⟨Az, cz, hqa, hqi⟩ := H27.out
                    obtain ⟨y0, y1, y2⟩ := hqa.cells
                    obtain ⟨x0, x1, x2, x3, x4, x5, x6⟩ := MsgAt.cells H41.out
                    simp only at x0 x1 x2 x3 x4 x5 x6
                    have hpc := ref_offer_in LZ TZ Az cz lz ⟨pe, pn, ps9, pj, pq, pk, pd⟩ AL cl ll X32 hqi (by omega) HPD.out HLI.out hlf
                    simp only [mv] at hpc
                    rw [HOF.out.1, HOF.out.2.1, HOF.out.2.2.1, HOF.out.2.2.2.1, HOF.out.2.2.2.2] at hpc
                    delta FiIn at hpc
                    clear hqa hqi
                    go_wp2_with fail; refine hpc.mono ?_; rintro e w47 ⟨A47, c47, rfl, hiq, hbc⟩
                    clear y0 y1 y2 x0 x1 x2 x3 x4 x5 x6 hpc
                    have hbq := Joins.below_alloc1 w47 (.cells #[.int .i64 LZ, .int .i64 oT, .slice A47 oL.length c47] 30)
                    have hG := hbc.trans (hbq.mono hbc.size)
                    have H47 := Lib.hid (FVar.new (L := LZ) (T := oT) hiq)
                    have HB1 := Lib.hid (HB.out.trans (hG.mono HB.out.size)); clear HB; have HB := HB1; clear HB1
                    have H121 := Lib.hid (MsgAt.on H12.out hG); clear H12; have H12 := H121; clear H121
                    have H131 := Lib.hid (SixAt.on H13.out hG); clear H13; have H13 := H131; clear H131
                    have HEL1 := Lib.hid (fun k hk => ElemF.on (HEL.out k hk) hG); clear HEL; have HEL := HEL1; clear HEL1
                    have H271 := Lib.hid (FVar.on H27.out hG); clear H27; have H27 := H271; clear H271
                    have HBM1 := Lib.hid (BlkM.on HBM.out hG); clear HBM; have HBM := HBM1; clear HBM1
                    have HGI1 := Lib.hid (HGI.out.trans (hG.mono HGI.out.size)); clear HGI; have HGI := HGI1; clear HGI1
                    have H411 := Lib.hid (MsgAt.on H41.out hG); clear H41; have H41 := H411; clear H411
                    have HES1 := Lib.hid (fun k hk => ElemL.on (HES.out k hk) hG); clear HES; have HES := HES1; clear HES1
                    have HGJ1 := Lib.hid (HGJ.out.trans (hG.mono HGJ.out.size)); clear HGJ; have HGJ := HGJ1; clear HGJ1
                    have HLI1 := Lib.hid (LieIn.below HLI.out hG); clear HLI; have HLI := HLI1; clear HLI1
                    have H441 := Lib.hid (FVar.on H44.out hG); clear H44; have H44 := H441; clear H441
                    clear hbq hG hbc hiq
                    go_upto_region 33 with (fail)
                    generalize hX : w47.alloc (.cells #[.int .i64 LZ, .int .i64 oT, .slice A47 oL.length c47] 30) = X33 at *
                    clear hX
                    generalize w47.heap.size = bH47 at *
                    obtain ⟨Aa, ca, hqa, hqi⟩ := H44.out
                    obtain ⟨Ab, cb, hra, hri⟩ := H47.out
                    obtain ⟨y0, y1, y2⟩ := hqa.cells
                    obtain ⟨z0, z1, z2⟩ := hra.cells
                    have hss := sameFi_any LZ LZ oT oT Aa Ab ca cb oL oL X33 hqi hri
                    rw [sameFi_self] at hss
                    clear hqa hqi hra hri
                    go_wp2_with fail; refine hss.mono ?_; rintro e w216 ⟨rfl, hG⟩
                    clear hss y0 y1 y2 z0 z1 z2
                    have HB1 := Lib.hid (HB.out.trans (hG.mono HB.out.size)); clear HB; have HB := HB1; clear HB1
                    have H121 := Lib.hid (MsgAt.on H12.out hG); clear H12; have H12 := H121; clear H121
                    have H131 := Lib.hid (SixAt.on H13.out hG); clear H13; have H13 := H131; clear H131
                    have HEL1 := Lib.hid (fun k hk => ElemF.on (HEL.out k hk) hG); clear HEL; have HEL := HEL1; clear HEL1
                    have H271 := Lib.hid (FVar.on H27.out hG); clear H27; have H27 := H271; clear H271
                    have HBM1 := Lib.hid (BlkM.on HBM.out hG); clear HBM; have HBM := HBM1; clear HBM1
                    have HGI1 := Lib.hid (HGI.out.trans (hG.mono HGI.out.size)); clear HGI; have HGI := HGI1; clear HGI1
                    have H411 := Lib.hid (MsgAt.on H41.out hG); clear H41; have H41 := H411; clear H411
                    have HES1 := Lib.hid (fun k hk => ElemL.on (HES.out k hk) hG); clear HES; have HES := HES1; clear HES1
                    have HGJ1 := Lib.hid (HGJ.out.trans (hG.mono HGJ.out.size)); clear HGJ; have HGJ := HGJ1; clear HGJ1
                    have HLI1 := Lib.hid (LieIn.below HLI.out hG); clear HLI; have HLI := HLI1; clear HLI1
                    have H441 := Lib.hid (FVar.on H44.out hG); clear H44; have H44 := H441; clear H441
                    have H471 := Lib.hid (FVar.on H47.out hG); clear H47; have H47 := H471; clear H471
                    clear hG
                    go_wp2_with fail
                    go_roundw
                    case rel => exact ⟨q + 1, by omega, by go_num, HGJ.out⟩
                    case measure => simp [intOf]; omega
                  · have hqI : ¬ (q : Int) < 2 := by omega
                    go_wp2_with fail
                    go_roundw
                    case rel => exact ⟨j + 1, by omega, by go_num, HGI.out⟩
                    case measure => simp [intOf]; omega
            · have hjI : ¬ (j : Int) < 2 := by omega
              go_wp2_with fail
              go_roundw
              case rel => exact ⟨k + 1, by omega, by go_num, HB.out, H12.out, H13.out, HEL.out⟩
              case measure => simp [intOf]; omega
        · have hkI : ¬ (k : Int) < 2 := by omega
          go_wp2_with fail
          go_ret
          exact ⟨rfl, HB.out⟩
  · have hor : (100 : Int) < (md.size : Int) ∨ (¬ (100 : Int) < (md.size : Int) ∧ (10 : Int) < (odd.length : Int)) := by omega
    clear hsm
    go_enter Tryd.func3, Tryd.ntmps3
    go_wp2_with fail; refine (fiAwake_any _ (HLL.out.below HB.out)).mono ?_; rintro e w1 ⟨rfl, hG⟩
    have HB1 := Lib.hid (HB.out.trans (hG.mono HB.out.size)); clear HB; have HB := HB1; clear HB1
    have H121 := Lib.hid (MsgAt.on H12.out hG); clear H12; have H12 := H121; clear H121
    have H141 := Lib.hid (FiAt.on H14.out hG); clear H14; have H14 := H141; clear H141
    clear hG
    obtain ⟨x0, x1, x2, x3, x4, x5, x6⟩ := MsgAt.cells H12.out
    simp only at x0 x1 x2 x3 x4 x5 x6
    obtain ⟨o0, o1, o2⟩ := H14.out.cells
    rcases hor with hdI | ⟨hdI, hoI⟩
    · go_wp2_with fail
      go_ret
      exact ⟨rfl, HB.out⟩
    · go_wp2_with fail
      go_ret
      exact ⟨rfl, HB.out⟩

end Go.Proofs.YtehajmockicilaaDoor

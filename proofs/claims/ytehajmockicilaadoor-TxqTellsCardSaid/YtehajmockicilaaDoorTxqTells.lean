/-
  The law TxqTells, walked.
-/
import Derived.Test.YtehajmockicilaaDoorTxqFull
import Derived.Deep.CutBlock
namespace Go.Proofs.YtehajmockicilaaDoor
open Go Go.RowKit


theorem RowsOk.on {w w' : World} {A : Option Addr} {c : Nat} {l : List Raw} (h : RowsOk w A c l) (hb : Below w.heap.size w w') : RowsOk w' A c l := by
  refine ⟨fun hn => ?_, h.2⟩
  obtain ⟨ad, e, h1, h2⟩ := (h.1.below hb (Nat.le_refl _)) hn
  exact ⟨ad, e, Nat.lt_of_lt_of_le h1 hb.size, h2⟩
/-- Block b is a queue, whose list is known. -/
def QPair (w : World) (b : Nat) (L : Int) (l : List Msg) : Prop := ∃ A c, QAt w b L A l.length c ∧ QIn w A c l
theorem QPair.on {w w' : World} {b : Nat} {L : Int} {l : List Msg} (h : QPair w b L l) (hb : Below w.heap.size w w') : QPair w' b L l := by
  obtain ⟨A, c, h1, h2⟩ := h
  exact ⟨A, c, h1.on hb, h2.on hb⟩
theorem QPair.new {w : World} {L : Int} {l : List Msg} {A : Option Addr} {c : Nat} (h : QIn w A c l) : QPair (w.alloc (.cells #[.int .i64 L, .slice A l.length c] 64)) w.heap.size L l :=
  ⟨A, c, QAt.new w L A l.length c, h.on (Joins.below_alloc1 w _)⟩
/-- Two queues from an address on. -/
def Elem (w : World) (b k : Nat) : Prop := ∃ L A c l, w.cell? ⟨b, k * 2, none⟩ = some (.int .i64 L) ∧ w.cell? ⟨b, k * 2 + 1, none⟩ = some (.slice A l.length c) ∧ QIn w A c l ∧ l.length ≤ 40 ∧ b < w.heap.size
theorem Elem.on {w w' : World} {b k : Nat} (h : Elem w b k) (hb : Below w.heap.size w w') : Elem w' b k := by
  obtain ⟨L, A, c, l, h1, h2, h3, h4, h5⟩ := h
  exact ⟨L, A, c, l, (hb.cell (p := ⟨b, k * 2, none⟩) h5).trans h1, (hb.cell (p := ⟨b, k * 2 + 1, none⟩) h5).trans h2, h3.on hb, h4, Nat.lt_of_lt_of_le h5 hb.size⟩
theorem add00 (g n : Nat) : ((⟨g, 0, none⟩ : Addr).add n) = ⟨g, n, none⟩ := by unfold Addr.add; split <;> simp_all
theorem Elem.two (w : World) {L0 L1 : Int} {A0 A1 : Option Addr} {c0 c1 : Nat} {l0 l1 : List Msg} (h0 : QIn w A0 c0 l0) (h1 : QIn w A1 c1 l1) (n0 : l0.length ≤ 40) (n1 : l1.length ≤ 40) : ∀ k, k < 2 → Elem (w.alloc (.cells #[.int .i64 L0, .slice A0 l0.length c0, .int .i64 L1, .slice A1 l1.length c1] 64)) w.heap.size k := by
  intro k hk
  have hb := Joins.below_alloc1 w (.cells #[.int .i64 L0, .slice A0 l0.length c0, .int .i64 L1, .slice A1 l1.length c1] 64)
  have hs : w.heap.size < (w.alloc (.cells #[.int .i64 L0, .slice A0 l0.length c0, .int .i64 L1, .slice A1 l1.length c1] 64)).heap.size := by rw [World.size_alloc]; omega
  have hn := heap_alloc_new w (.cells #[.int .i64 L0, .slice A0 l0.length c0, .int .i64 L1, .slice A1 l1.length c1] 64)
  rcases (show k = 0 ∨ k = 1 by omega) with rfl | rfl
  · exact ⟨L0, A0, c0, l0, cell_of hn 0, cell_of hn 1, h0.on hb, n0, hs⟩
  · exact ⟨L1, A1, c1, l1, cell_of hn 2, cell_of hn 3, h1.on hb, n1, hs⟩
theorem take_told (L : Int) (A : Option Addr) (l : List Msg) (i : Nat) (W : World) (hl : l.length ≤ 200) (hd : ∀ m ∈ l, m.data.size ≤ 140737488351232) {E : Int} {m : Msg} {l' : List Msg} (hE : cutE L l i = E) (hm : cutM L l i = m) (hl' : cutL L l i = l') {f : FuncId} {args : Array Value} (hc : Calls Tryd.prog f args W (TakePost L A l i W)) :
    Calls Tryd.prog f args W fun e w' => ∃ A' c', e = .returned (.tuple #[qv L A' l'.length c', mv m, .int .i64 E]) ∧ QIn w' A' c' l' ∧ Below W.heap.size W w' :=
  hc.mono fun e w' ⟨v, he, ⟨A', c', hv, ht⟩, hb⟩ => by
    subst hE hm hl'
    exact ⟨A', c', by rw [he, hv], ht.qin (Nat.le_trans (cutL_length _ _ _) hl) (fun x hx => hd x (cutL_mem hx)), hb⟩
theorem put_told2 (L : Int) (A : Option Addr) (l : List Msg) (m : Msg) (W : World) (hl : l.length ≤ 199) (hd : ∀ m ∈ l, m.data.size ≤ 140737488351232) (hm : m.data.size ≤ 140737488351232) {E : Int} {l' : List Msg} (hE : putE L l m = E) (hl' : putL L l m = l') {f : FuncId} {args : Array Value} (hc : Calls Tryd.prog f args W (PutPost L A l m W)) :
    Calls Tryd.prog f args W fun e w' => ∃ A' c', e = .returned (.tuple #[qv L A' l'.length c', .int .i64 E]) ∧ QIn w' A' c' l' ∧ Below W.heap.size W w' :=
  hc.mono fun e w' ⟨v, he, ⟨A', c', hv, ht⟩, hb⟩ => by
    subst hE hl'
    exact ⟨A', c', by rw [he, hv], ht.qin (Nat.le_trans putL_length (by omega)) (data_put hd hm), hb⟩
theorem far1 (w : World) {b i : Nat} (x : Value) {k : Nat} (hk : k ≠ b) : (w.setCell ⟨b, i, none⟩ x).heap[k]? = w.heap[k]? := Below.heap_setCell _ _ _ _ (by show k ≠ b; exact hk)
theorem QIn.farQ1 {w : World} {A A0 : Option Addr} {c b n0 c0 i : Nat} {L0 : Int} {l : List Msg} (h : QIn w A c l) (hb : QAt w b L0 A0 n0 c0) (x : Value) : QIn (w.setCell ⟨b, i, none⟩ x) A c l := by
  refine ⟨fun hn => ?_, h.cap, h.few, h.data, fun ad e => by rw [World.size_setCell]; exact h.low ad e⟩
  obtain ⟨ad, e, hbl, hc⟩ := h.msgs hn
  have h0 := hc 0 l[0] (List.getElem?_eq_getElem hn)
  have hne : ad.block ≠ b := by
    have h00 := h0.2.2.1
    rw [Nat.zero_mul, adb] at h00
    exact hb.not_at h00
  refine ⟨ad, e, by rw [World.size_setCell]; exact hbl, fun j m hm => (hc j m hm).keep fun q hq => World.cell?_of_block ?_⟩
  rw [hq, adb]
  exact far1 w x hne
theorem QPair.far1 {w : World} {b b' n0 c0 i : Nat} {L L0 : Int} {l : List Msg} {A0 : Option Addr} (h : QPair w b L l) (hb : QAt w b' L0 A0 n0 c0) (hn : b ≠ b') (x : Value) : QPair (w.setCell ⟨b', i, none⟩ x) b L l := by
  obtain ⟨A, c, h1, h2⟩ := h
  exact ⟨A, c, (Go.Proofs.YtehajmockicilaaDoor.far1 w x hn).trans h1, h2.farQ1 hb x⟩
/-- What the law's switch leaves. -/
def ZAt (w0 : World) (b20 b21 : Nat) (LQ : Int) (l : List Msg) (r : Raw) (m : Msg) (wx : World) : Prop :=
  (∃ Lz lz, QPair wx b21 Lz lz ∧ lz.length ≤ 40) ∧ QPair wx b20 LQ l ∧ Below w0.heap.size w0 wx ∧ RawAt wx w0.heap.size r ∧ MsgAt wx (w0.heap.size + 1) m
theorem ZAt.on {w0 w w' : World} {b20 b21 : Nat} {LQ : Int} {l : List Msg} {r : Raw} {m : Msg} (h : ZAt w0 b20 b21 LQ l r m w) (hb : Below w.heap.size w w') : ZAt w0 b20 b21 LQ l r m w' := by
  obtain ⟨⟨Lz, lz, h1, h2⟩, h3, h4, h5, h6⟩ := h
  exact ⟨⟨Lz, lz, h1.on hb, h2⟩, h3.on hb, h4.trans (hb.mono h4.size), h5.on hb, h6.on hb⟩
theorem ZAt.set {w0 w : World} {b20 b21 i : Nat} {LQ L Lz : Int} {l lz : List Msg} {r : Raw} {m : Msg} {A Az : Option Addr} {n c cz : Nat} (v : Value) (hq : QAt w b21 L A n c) (hz : QAt (w.setCell ⟨b21, i, none⟩ v) b21 Lz Az lz.length cz) (hi : QIn w Az cz lz) (hl : lz.length ≤ 40) (h20 : QPair w b20 LQ l) (hb : Below w0.heap.size w0 w) (hr : RawAt w w0.heap.size r) (hm : MsgAt w (w0.heap.size + 1) m) (h1 : b20 < b21) (h2 : w0.heap.size + 1 < b21) :
    ZAt w0 b20 b21 LQ l r m (w.setCell ⟨b21, i, none⟩ v) :=
  ⟨⟨Lz, lz, ⟨Az, cz, hz, hi.farQ1 hq v⟩, hl⟩, h20.far1 hq (by omega) v, hb.setCell (p := ⟨b21, i, none⟩) (by show w0.heap.size ≤ b21; omega) v, (Go.Proofs.YtehajmockicilaaDoor.far1 w v (by omega)).trans hr, (Go.Proofs.YtehajmockicilaaDoor.far1 w v (by omega)).trans hm⟩
theorem QAt.set0 {w : World} {b : Nat} {L : Int} {A : Option Addr} {n c : Nat} (h : QAt w b L A n c) (L' : Int) : QAt (w.setCell ⟨b, 0, none⟩ (.int .i64 L')) b L' A n c := set_blk h 0 (.int .i64 L')
theorem QAt.set1 {w : World} {b : Nat} {L : Int} {A : Option Addr} {n c : Nat} (h : QAt w b L A n c) (A' : Option Addr) (n' c' : Nat) : QAt (w.setCell ⟨b, 1, none⟩ (.slice A' n' c')) b L A' n' c' := set_blk h 1 (.slice A' n' c')
theorem OwnM.far2 {w : World} {B b : Nat} {u : Value} {l : List Msg} (h : OwnM w B u l) (hb : b < B) (x y : Value) : OwnM ((w.setCell ⟨b, 0, none⟩ x).setCell ⟨b, 1, none⟩ y) B u l := by
  refine ⟨h.1, h.2.imp id ?_⟩
  rintro ⟨g, cap, cur, e1, e2, e3, e4⟩
  exact ⟨g, cap, cur, e1, e2, (Go.Proofs.YtehajmockicilaaDoor.far2 w x y (by omega)).trans e3, e4⟩
def OwnPost2 (L : Int) (l : List Msg) (w : World) (e : Ending) (w' : World) : Prop := ∃ A c, e = .returned (qv L A l.length c) ∧ OwnM w' w.heap.size (.slice A l.length c) l ∧ Below w.heap.size w w'

set_option maxRecDepth 100000 in
set_option maxHeartbeats 2000000 in
theorem ownQ2_any (LQ : Int) (A : Option Addr) (c : Nat) (l : List Msg) (w : World) (hq : QIn w A c l) :
    Calls Tryd.prog 34 #[qv LQ A l.length c] w (OwnPost2 LQ l w) := by
  have hfew := hq.few
  have q1 := QAt.new w LQ A l.length c
  have b1 := Joins.below_alloc1 w (.cells #[.int .i64 LQ, .slice A l.length c] 64)
  have q2 := QAt.new (w.alloc (.cells #[.int .i64 LQ, .slice A l.length c] 64)) 0 none 0 0
  have b2 := Joins.below_alloc1 (w.alloc (.cells #[.int .i64 LQ, .slice A l.length c] 64)) (.cells #[.int .i64 0, .slice none 0 0] 64)
  rw [World.size_alloc] at q2
  have q1' := q1.on b2
  have hB := b1.trans (b2.mono b1.size)
  have hsz : ((w.alloc (.cells #[.int .i64 LQ, .slice A l.length c] 64)).alloc (.cells #[.int .i64 0, .slice none 0 0] 64)).heap.size = w.heap.size + 2 := by simp only [World.size_alloc]
  have hq2 := hq.on hB
  clear q1 b1 b2
  have HQ2 := Lib.hid q2
  have HQ1 := Lib.hid q1'
  have HB := Lib.hid hB
  have HQ := Lib.hid hq2
  have HSZ := Lib.hid hsz
  clear hq q1' q2 hB hq2 hsz
  go_enter Tryd.func34, Tryd.ntmps34
  go_upto_region 1 with (fail)
  generalize (w.alloc (.cells #[.int .i64 LQ, .slice A l.length c] 64)).alloc (.cells #[.int .i64 0, .slice none 0 0] 64) = X at *
  have HV : ∃ Vp : Nat → (Nat → Value) → World → Prop, Vp = (fun ix u wv => match ix with
    | 0 => u 0 = .pointer (some ⟨w.heap.size, 0, none⟩)
    | 1 => u 1 = .int .i64 LQ
    | 2 => u 2 = .pointer (some ⟨w.heap.size, 1, none⟩)
    | 3 => u 3 = .slice A l.length c
    | 4 => ∃ A5 c5, u 4 = .slice A5 l.length c5 ∧ OwnM wv X.heap.size (.slice A5 l.length c5) l
    | 5 => ∃ A5 c5, u 5 = .agg #[.int .i64 LQ, .slice A5 l.length c5] ∧ OwnM wv X.heap.size (.slice A5 l.length c5) l
    | 6 => ∃ A5 c5, QAt wv (w.heap.size + 1) LQ A5 l.length c5 ∧ OwnM wv X.heap.size (.slice A5 l.length c5) l
    | _ => True) := ⟨_, rfl⟩
  obtain ⟨Vp, hVdef⟩ := HV
  have Vp0 : ∀ u wv, Vp 0 u wv = (u 0 = .pointer (some ⟨w.heap.size, 0, none⟩)) := fun u wv => by subst hVdef; rfl
  have Vp1 : ∀ u wv, Vp 1 u wv = (u 1 = .int .i64 LQ) := fun u wv => by subst hVdef; rfl
  have Vp2 : ∀ u wv, Vp 2 u wv = (u 2 = .pointer (some ⟨w.heap.size, 1, none⟩)) := fun u wv => by subst hVdef; rfl
  have Vp3 : ∀ u wv, Vp 3 u wv = (u 3 = .slice A l.length c) := fun u wv => by subst hVdef; rfl
  have Vp4 : ∀ u wv, Vp 4 u wv = (∃ A5 c5, u 4 = .slice A5 l.length c5 ∧ OwnM wv X.heap.size (.slice A5 l.length c5) l) := fun u wv => by subst hVdef; rfl
  have Vp5 : ∀ u wv, Vp 5 u wv = (∃ A5 c5, u 5 = .agg #[.int .i64 LQ, .slice A5 l.length c5] ∧ OwnM wv X.heap.size (.slice A5 l.length c5) l) := fun u wv => by subst hVdef; rfl
  have Vp6 : ∀ u wv, Vp 6 u wv = (∃ A5 c5, QAt wv (w.heap.size + 1) LQ A5 l.length c5 ∧ OwnM wv X.heap.size (.slice A5 l.length c5) l) := fun u wv => by subst hVdef; rfl
  have HVD := Lib.hid hVdef
  clear hVdef
  refine region_phase (V := Vp) (drop := fun jx ix => (jx == 6 && ix == 4) || (jx == 6 && ix == 5)) (G := fun L wv => (L 6 = false → Below X.heap.size X wv) ∧ Below w.heap.size w wv) (Rel := fun jx wv wv' => jx = 6 ∨ Below wv.heap.size wv wv') (by kernel_rfl) (by kernel_rfl) ⟨fun _ => (Below.refl _ _).drew, HB.out.trans ((Below.refl _ _).drew.mono HB.out.size)⟩ ?hmonop1 ?hdepp1 ⟨?s0_p1, ?s1_p1, ?s2_p1, ?s3_p1, ?s4_p1, ?s5_p1, ?s6_p1, trivial⟩ ?behindp1
  case hmonop1 =>
    intro ix jx u wv wv' hij hw hd hr
    rw [HVD.out]
    dsimp only
    split <;> intro h <;> first | exact trivial | exact h | (rcases hr with rfl | hb; (focus first | exact absurd rfl hij | (simp at hd; done) | (exact Bool.noConfusion (hw.symm.trans (show _ = true from by kernel_rfl)))); (first | (obtain ⟨A5, c5, e, ht⟩ := h; exact ⟨A5, c5, e, ht.on hb⟩) | (obtain ⟨A5, c5, e, ht⟩ := h; exact ⟨A5, c5, e.on hb, ht.on hb⟩)))
  case hdepp1 =>
    intro ix u u' wv h1 h2
    rw [HVD.out]
    dsimp only
    split <;> intro h <;> first | exact trivial | (rw [← h1]; exact h) | exact h
  case s0_p1 =>
    refine oweP rfl fun a wx val L hG hi hW hV hN hO K hK => ?_
    have e1 : a.tmps[1]? = some (.pointer (some ⟨w.heap.size, 0, none⟩)) := (hO 1 (by kernel_rfl)).trans (by rfl)
    clear hV hN hO
    go_simp
    exact hK.out _ _ (by rw [Vp0, upd_at] <;> (congr 1 <;> omega)) (.inr (Below.refl _ _)) (⟨fun h => hG.1 (upL_false h), hG.2⟩)
  case s1_p1 =>
    refine oweP rfl fun a wx val L hG hi hW hV hN hO K hK => ?_
    have e3 := hN 0 3 (by kernel_rfl) (by kernel_rfl) (by simp)
    have f3 := hV 0 (by kernel_rfl) (by kernel_rfl)
    rw [Vp0] at f3; rw [f3] at e3; clear f3
    clear hV hN hO
    obtain ⟨v0, v1⟩ := (HQ1.out.on (hG.1 (hW 6 (by kernel_rfl)))).cells
    go_simp
    exact hK.out _ _ (by rw [Vp1, upd_at] <;> (congr 1 <;> omega)) (.inr (Below.refl _ _)) (⟨fun h => hG.1 (upL_false h), hG.2⟩)
  case s2_p1 =>
    refine oweP rfl fun a wx val L hG hi hW hV hN hO K hK => ?_
    have e1 : a.tmps[1]? = some (.pointer (some ⟨w.heap.size, 0, none⟩)) := (hO 1 (by kernel_rfl)).trans (by rfl)
    clear hV hN hO
    go_simp
    exact hK.out _ _ (by rw [Vp2, upd_at] <;> (congr 1 <;> omega)) (.inr (Below.refl _ _)) (⟨fun h => hG.1 (upL_false h), hG.2⟩)
  case s3_p1 =>
    refine oweP rfl fun a wx val L hG hi hW hV hN hO K hK => ?_
    have e5 := hN 2 5 (by kernel_rfl) (by kernel_rfl) (by simp)
    have f5 := hV 2 (by kernel_rfl) (by kernel_rfl)
    rw [Vp2] at f5; rw [f5] at e5; clear f5
    clear hV hN hO
    obtain ⟨v0, v1⟩ := (HQ1.out.on (hG.1 (hW 6 (by kernel_rfl)))).cells
    go_simp
    exact hK.out _ _ (by rw [Vp3, upd_at] <;> (congr 1 <;> omega)) (.inr (Below.refl _ _)) (⟨fun h => hG.1 (upL_false h), hG.2⟩)
  case s4_p1 =>
    refine oweP rfl fun a wx val L hG hi hW hV hN hO K hK => ?_
    have e6 := hN 3 6 (by kernel_rfl) (by kernel_rfl) (by simp)
    have f6 := hV 3 (by kernel_rfl) (by kernel_rfl)
    rw [Vp3] at f6; rw [f6] at e6; clear f6
    clear hV hN hO
    have h9 := hG.1 (hW 6 (by kernel_rfl))
    refine wp_appM (.const (.slice none 0 0)) (.tmp 6) rfl wx.heap.size wx.heap.size _ [] l A c rfl (by simp [Act.eval, e6]) (OwnM.nil _ _) (HQ.out.on h9).msgs (Nat.le_refl _) (by simp; omega) ?_
    intro u' w5 hown5 hg5
    obtain ⟨A5, c5, rfl, -⟩ := QTold.own (A0 := none) (show OwnM w5 wx.heap.size u' l from hown5)
    have ht5 : OwnM w5 wx.heap.size (.slice A5 l.length c5) l := hown5
    have hb := OwnM.below (OwnM.nil wx wx.heap.size) hg5 (Nat.le_refl _)
    exact hK.out _ _ (by rw [Vp4, upd_at]; exact ⟨A5, c5, rfl, ht5.base h9.size⟩) (.inr hb) (⟨fun h => (hG.1 (upL_false h)).trans (hb.mono (hG.1 (upL_false h)).size), hG.2.trans (hb.mono hG.2.size)⟩)
  case s5_p1 =>
    refine oweP rfl fun a wx val L hG hi hW hV hN hO K hK => ?_
    have e4 := hN 1 4 (by kernel_rfl) (by kernel_rfl) (by simp)
    have f4 := hV 1 (by kernel_rfl) (by kernel_rfl)
    rw [Vp1] at f4; rw [f4] at e4; clear f4
    have e7 := hN 4 7 (by kernel_rfl) (by kernel_rfl) (by simp)
    have f7 := hV 4 (by kernel_rfl) (by kernel_rfl)
    rw [Vp4] at f7; obtain ⟨A5, c5, hv, ht⟩ := f7; rw [hv] at e7
    clear hV hN hO
    go_simp
    exact hK.out _ _ (by rw [Vp5, upd_at]; exact ⟨A5, c5, rfl, ht⟩) (.inr (Below.refl _ _)) (⟨fun h => hG.1 (upL_false h), hG.2⟩)
  case s6_p1 =>
    refine oweP rfl fun a wx val L hG hi hW hV hN hO K hK => ?_
    have e2 : a.tmps[2]? = some (.pointer (some ⟨w.heap.size + 1, 0, none⟩)) := (hO 2 (by kernel_rfl)).trans (by rfl)
    have e8 := hN 5 8 (by kernel_rfl) (by kernel_rfl) (by simp)
    have f8 := hV 5 (by kernel_rfl) (by kernel_rfl)
    rw [Vp5] at f8; obtain ⟨A5, c5, hv, ht⟩ := f8; rw [hv] at e8
    clear hV hN hO
    have h9 := hG.1 hi
    have hqa := HQ2.out.on h9
    obtain ⟨v0, v1⟩ := hqa.cells
    have vf := hqa.frozen
    have hs3 := HSZ.out
    have hbs := below_set2 hG.2 (b := w.heap.size + 1) (by omega) (.int .i64 LQ) (.slice A5 l.length c5)
    have hts : OwnM ((wx.setCell ⟨w.heap.size + 1, 0, none⟩ (.int .i64 LQ)).setCell ⟨w.heap.size + 1, 1, none⟩ (.slice A5 l.length c5)) X.heap.size (.slice A5 l.length c5) l := ht.far2 (b := w.heap.size + 1) (by omega) _ _
    clear hs3
    go_simp
    exact hK.out undef _ (by rw [Vp6]; exact ⟨A5, c5, hqa.set LQ A5 l.length c5, hts⟩) (.inl rfl) ⟨fun h => (upL_self h).elim, hbs⟩
  intro val wx L hG hV
  have f0 := hV 0 (by simp) (fun _ _ => by simp)
  rw [Vp0] at f0
  have f1 := hV 1 (by simp) (fun _ _ => by simp)
  rw [Vp1] at f1
  have f2 := hV 2 (by simp) (fun _ _ => by simp)
  rw [Vp2] at f2
  have f3 := hV 3 (by simp) (fun _ _ => by simp)
  rw [Vp3] at f3
  have f6 := hV 6 (by simp) (fun _ _ => by simp)
  rw [Vp6] at f6
  clear hV Vp0 Vp1 Vp2 Vp3 Vp4 Vp5 Vp6
  simp only [putAll, Act.put, List.setIfInBounds_toArray, List.set_cons_zero, List.set_cons_succ]
  generalize val 0 = z0 at *; (subst f0)
  generalize val 1 = z1 at *; (subst f1)
  generalize val 2 = z2 at *; (subst f2)
  generalize val 3 = z3 at *; (subst f3)
  generalize val 4 = z4 at *
  generalize val 5 = z5 at *
  clear HVD
  obtain ⟨A5, c5, hqa, ht⟩ := f6
  have HPP : Hid (OwnPost2 LQ l w (.returned (qv LQ A5 l.length c5)) wx) := Lib.hid ⟨_, _, rfl, ht.base (by rw [HSZ.out]; omega), hG.2⟩
  have HQQ := Lib.hid hqa
  clear hqa ht hG
  go_wp2_with fail
  exact bodyPost_ret (qo_res Tryd.results34 HQQ.out rfl) rfl HPP.out



set_option maxRecDepth 100000 in
set_option maxHeartbeats 8000000 in
theorem txqTells_walk (lim : Int) (A : Option Addr) (c : Nat) (rs : List Raw) (r0 r1 r2 r3 r4 r5 : Int) (m : Msg) (Ao : Option Addr) (co : Nat) (odd : List Msg) (how num : Int)
    (hlim : (Lit.int .i64 lim).wf = true) (k0 : (Lit.int .i64 r0).wf = true) (k1 : (Lit.int .i64 r1).wf = true) (k2 : (Lit.int .i64 r2).wf = true) (k3 : (Lit.int .i64 r3).wf = true) (k4 : (Lit.int .i64 r4).wf = true) (k5 : (Lit.int .i64 r5).wf = true) (hhow : (Lit.int .i64 how).wf = true) (hnum : (Lit.int .i64 num).wf = true)
    (w : World) (L : Laid w) (f1 : RowsOk w A c rs) (f4 : MsgsOk w Ao co odd) :
    Calls Tryd.prog 8 #[.int .i64 lim, .slice A rs.length c, .agg #[.int .i64 r0, .int .i64 r1, .int .i64 r2, .int .i64 r3, .int .i64 r4, .int .i64 r5], mv m, .slice Ao odd.length co, .int .i64 how, .int .i64 num] w fun e w' => e = .returned (.bool true) ∧ Below w.heap.size w w' := by
  have HWF : Hid (WfR ⟨r0, r1, r2, r3, r4, r5⟩) := Lib.hid ⟨k0, k1, k2, k3, k4, k5⟩
  have HCQ : Hid (∀ W, RowsOk W A c rs → Calls Tryd.prog 33 #[.int .i64 lim, .slice A rs.length c] W fun e w' => ∃ A' c', e = .returned (qv (1 + pickI lim 32) A' (quL (1 + pickI lim 32) rs (min rs.length 12)).length c') ∧ QTold none W.heap.size w' (quL (1 + pickI lim 32) rs (min rs.length 12)) A' c' ∧ Below W.heap.size W w') := Lib.hid (fun W h => queue_any lim hlim A c rs W h)
  have hql := quL_length (1 + pickI lim 32) rs (min rs.length 12)
  have HQD := Lib.hid (quL_data (1 + pickI lim 32) rs (min rs.length 12))
  generalize quL (1 + pickI lim 32) rs (min rs.length 12) = l at *
  generalize 1 + pickI lim 32 = LQ at *
  have HPH : Hid (∀ W, Calls Tryd.prog 35 #[.int .i64 how, .int .i64 3] W fun e w' => e = .returned (.int .i64 (pickI how 3)) ∧ W = w') := Lib.hid (fun W => pick13_any how 3 hhow (by omega) W)
  have hph := pickI_range how 3 (by omega)
  generalize pickI how 3 = ph at *
  have HPN : Hid (∀ W, Calls Tryd.prog 35 #[.int .i64 num, .int .i64 20] W fun e w' => e = .returned (.int .i64 (pickI num 20)) ∧ W = w') := Lib.hid (fun W => pick13_any num 20 hnum (by omega) W)
  have hpn := pickI_range num 20 (by omega)
  generalize pickI num 20 = pn at *
  have HCN : Hid ((∀ W, Calls Tryd.prog 30 #[.int .i64 num] W fun e w' => e = .returned (.tuple #[qv (newL num) none 0 0, .int .i64 (newE num)]) ∧ Below W.heap.size W w') ∧ (∀ W, Calls Tryd.prog 31 #[.int .i64 num] W fun e w' => e = .returned (.tuple #[qv (newL num) none 0 0, .int .i64 (newE num)]) ∧ Below W.heap.size W w')) := Lib.hid ⟨fun W => new_any num W, fun W => refNew_any num W⟩
  generalize newL num = LN at *
  generalize newE num = EN at *
  obtain ⟨hmo, ⟨hoc, hocm⟩, hod⟩ := f4
  unfold maxLen at hocm
  have HOD : Hid (∀ x ∈ odd, x.data.size ≤ 140737488351232) := Lib.hid (fun x hx => by
    obtain ⟨j, hj, e⟩ := List.getElem_of_mem hx
    exact hod j x (by rw [List.getElem?_eq_getElem hj, e]))
  have HMO := Lib.hid hmo
  have HF1 := Lib.hid f1
  have HLL := Lib.hid L
  have hraw := RawAt.new w ⟨r0, r1, r2, r3, r4, r5⟩
  have hb1 := Joins.below_alloc1 w (.cells #[.int .i64 r0, .int .i64 r1, .int .i64 r2, .int .i64 r3, .int .i64 r4, .int .i64 r5] 27)
  have hm1 := MsgAt.new (w.alloc (.cells #[.int .i64 r0, .int .i64 r1, .int .i64 r2, .int .i64 r3, .int .i64 r4, .int .i64 r5] 27)) m
  have hb2 := Joins.below_alloc1 (w.alloc (.cells #[.int .i64 r0, .int .i64 r1, .int .i64 r2, .int .i64 r3, .int .i64 r4, .int .i64 r5] 27)) (.cells (mc m) 26)
  have HRB := Lib.hid (hraw.on hb2)
  have HB := Lib.hid (hb1.trans (hb2.mono hb1.size))
  rw [World.size_alloc] at hm1
  have H10 := Lib.hid hm1
  clear hraw hb1 hb2 hm1 hod hmo f1 L k0 k1 k2 k3 k4 k5 hhow hnum hlim
  obtain ⟨me, mn, ms, mj, mq, mk, md⟩ := m
  simp only [mc] at H10 HB HRB
  by_cases hsm : md.size ≤ 100 ∧ odd.length ≤ 10
  · obtain ⟨hd, ho⟩ := hsm
    have hdI : ¬ (100 : Int) < (md.size : Int) := by omega
    have hoI : ¬ (10 : Int) < (odd.length : Int) := by omega
    go_enter Tryd.func8, Tryd.ntmps8
    go_wp2_with fail; refine (awake_any _ (HLL.out.below HB.out)).mono ?_; rintro e w1 ⟨rfl, hG⟩
    have HRB1 := Lib.hid (RawAt.on HRB.out hG); clear HRB; have HRB := HRB1; clear HRB1
    have H101 := Lib.hid (MsgAt.on H10.out hG); clear H10; have H10 := H101; clear H101
    have HB1 := Lib.hid (HB.out.trans (hG.mono HB.out.size)); clear HB; have HB := HB1; clear HB1
    clear hG
    obtain ⟨x0, x1, x2, x3, x4, x5, x6⟩ := MsgAt.cells H10.out
    simp only at x0 x1 x2 x3 x4 x5 x6
    have cn := HCN.out.1
    go_wp2_with fail; refine (cn _).mono ?_; rintro e w2 ⟨rfl, b2⟩
    clear x0 x1 x2 x3 x4 x5 x6 cn
    have hb := Joins.below_alloc1 w2 (.cells #[.int .i64 LN, .slice none 0 0] 64)
    have hq16 : QPair _ w2.heap.size LN [] := ⟨none, 0, QAt.new w2 LN none 0 0, ⟨Msgs.nil _ _ _, Nat.le_refl _, by decide, (fun m h => by cases h), fun ad e => by cases e⟩⟩
    have hG := b2.trans (hb.mono b2.size)
    have H16 := Lib.hid hq16
    have HRB1 := Lib.hid (RawAt.on HRB.out hG); clear HRB; have HRB := HRB1; clear HRB1
    have H101 := Lib.hid (MsgAt.on H10.out hG); clear H10; have H10 := H101; clear H101
    have HB1 := Lib.hid (HB.out.trans (hG.mono HB.out.size)); clear HB; have HB := HB1; clear HB1
    clear hG b2 hb hq16
    have cn := HCN.out.2
    go_wp2_with fail; refine (cn _).mono ?_; rintro e w3 ⟨rfl, b2⟩
    clear cn
    have hb := Joins.below_alloc1 w3 (.cells #[.int .i64 LN, .slice none 0 0] 64)
    have hG := b2.trans (hb.mono b2.size)
    have hq18 : QAt _ w3.heap.size LN none 0 0 := QAt.new w3 LN none 0 0
    have H18 := Lib.hid hq18
    have HRB1 := Lib.hid (RawAt.on HRB.out hG); clear HRB; have HRB := HRB1; clear HRB1
    have H161 := Lib.hid (QPair.on H16.out hG); clear H16; have H16 := H161; clear H161
    have H101 := Lib.hid (MsgAt.on H10.out hG); clear H10; have H10 := H101; clear H101
    have HB1 := Lib.hid (HB.out.trans (hG.mono HB.out.size)); clear HB; have HB := HB1; clear HB1
    clear hG b2 hb hq18
    obtain ⟨A16, c16, p16, i16⟩ := H16.out
    simp only [List.length_nil] at p16
    obtain ⟨y0, y1⟩ := p16.cells
    obtain ⟨z0, z1⟩ := H18.out.cells
    have hss := sameQ_any LN LN A16 none c16 0 [] [] (w3.alloc (.cells #[.int .i64 LN, .slice none 0 0] 64)) i16 ⟨Msgs.nil _ _ _, Nat.le_refl _, by decide, (fun m h => by cases h), fun ad e => by cases e⟩
    rw [sameQ_self] at hss
    simp only [List.length_nil] at hss
    clear p16 i16
    go_wp2_with fail; refine hss.mono ?_; rintro e w4 ⟨rfl, hG⟩
    clear hss y0 y1 z0 z1
    have HRB1 := Lib.hid (RawAt.on HRB.out hG); clear HRB; have HRB := HRB1; clear HRB1
    have H101 := Lib.hid (MsgAt.on H10.out hG); clear H10; have H10 := H101; clear H101
    have HB1 := Lib.hid (HB.out.trans (hG.mono HB.out.size)); clear HB; have HB := HB1; clear HB1
    clear hG H16 H18
    have cq := HCQ.out w4 (HF1.out.on HB.out)
    go_wp2_with fail; refine cq.mono ?_; rintro e w5 ⟨A8, c8, rfl, ht, b2⟩
    clear cq
    have hi := ht.qin (by omega) HQD.out
    have hb := Joins.below_alloc1 w5 (.cells #[.int .i64 LQ, .slice A8 l.length c8] 64)
    have hG := b2.trans (hb.mono b2.size)
    have H20 := Lib.hid (QPair.new (L := LQ) hi)
    have HRB1 := Lib.hid (RawAt.on HRB.out hG); clear HRB; have HRB := HRB1; clear HRB1
    have H101 := Lib.hid (MsgAt.on H10.out hG); clear H10; have H10 := H101; clear H101
    have HB1 := Lib.hid (HB.out.trans (hG.mono HB.out.size)); clear HB; have HB := HB1; clear HB1
    clear hG b2 hb hi ht
    go_upto_region 9 with (fail)
    generalize hX : w5.alloc (.cells #[.int .i64 LQ, .slice A8 l.length c8] 64) = X9 at *
    clear hX
    generalize w5.heap.size = b20 at *
    obtain ⟨A20, c20, p20, i20⟩ := H20.out
    obtain ⟨y0, y1⟩ := p20.cells
    have hoq := ownQ2_any LQ A20 c20 l X9 i20
    have HRBX := Lib.hid HRB.out; have H10X := Lib.hid H10.out; have H20X := Lib.hid H20.out; have HBX := Lib.hid HB.out
    clear p20 i20
    go_wp2_with fail; refine hoq.mono ?_; rintro e w6 ⟨A21, c21, rfl, how6, b2⟩
    clear y0 y1 hoq
    have hb := Joins.below_alloc1 w6 (.cells #[.int .i64 LQ, .slice A21 l.length c21] 64)
    have hG := b2.trans (hb.mono b2.size)
    have HLT : Hid (b20 < w6.heap.size ∧ w.heap.size + 1 < w6.heap.size) := Lib.hid ⟨by obtain ⟨_, _, q1, _⟩ := QPair.on H20.out b2; exact q1.lt, (MsgAt.on H10.out b2).lt⟩
    have H21 := Lib.hid (QAt.new w6 LQ A21 l.length c21)
    have HO21 := Lib.hid (how6.on hb)
    have HGX := Lib.hid hG
    have HNE : Hid (∀ g, (Value.slice A21 l.length c21).ownBlock = some g → g < w6.heap.size) := Lib.hid (fun g e => (World.ownsRow.lt how6 g e).2)
    have HX9 : Hid (X9.heap.size ≤ (w6.alloc (.cells #[.int .i64 LQ, .slice A21 l.length c21] 64)).heap.size) := Lib.hid hG.size
    have HRB1 := Lib.hid (RawAt.on HRB.out hG); clear HRB; have HRB := HRB1; clear HRB1
    have H201 := Lib.hid (QPair.on H20.out hG); clear H20; have H20 := H201; clear H201
    have H101 := Lib.hid (MsgAt.on H10.out hG); clear H10; have H10 := H101; clear H101
    have HB1 := Lib.hid (HB.out.trans (hG.mono HB.out.size)); clear HB; have HB := HB1; clear HB1
    clear hG b2 hb how6
    have cp := HPH.out
    go_wp2_with fail; refine (cp _).mono ?_; rintro e w7 ⟨rfl, rfl⟩
    clear cp
    go_upto_block 0 with (fail)
    generalize hX : w6.alloc (.cells #[.int .i64 LQ, .slice A21 l.length c21] 64) = X11 at *
    clear hX
    generalize w6.heap.size = b21 at *
    go_cut [] (fun wx => ZAt w b20 b21 LQ l ⟨r0, r1, r2, r3, r4, r5⟩ ⟨me, mn, ms, mj, mq, mk, md⟩ wx)
    case first =>
      obtain ⟨z0, z1⟩ := H21.out.cells
      have zf := H21.out.frozen
      obtain ⟨A9, c9, e9, ht9⟩ := QTold.own (A0 := none) HO21.out
      obtain ⟨rfl, rfl⟩ : A21 = A9 ∧ c21 = c9 := by injection e9 with q1 q2 q3; exact ⟨q1, q3⟩
      have hi9 := Lib.hid (ht9.qin (by omega) HQD.out)
      clear ht9 e9
      rcases (show ph = 0 ∨ ph = 1 ∨ ph = 2 by omega) with hq | hq | hq
      · subst hq
        go_wp2_with fail
        go_meet
        exact ZAt.set (.int .i64 num) H21.out (H21.out.set0 num) hi9.out (by omega) H20.out HB.out HRB.out H10.out HLT.out.1 HLT.out.2
      · subst hq
        go_wp2_with (at_builtin; refine list_appM (by rfl) _ _ rfl X9.heap.size w.heap.size (.slice A21 l.length c21) l odd Ao co rfl rfl HO21.out (HMO.out.below HB.out (Nat.le_refl _)) HX9.out (by omega) ?_)
        intro u' w9 hown9 hg9
        have hlt5 := OwnM.below HO21.out hg9 HX9.out
        have hG9 := HGX.out.trans hlt5
        have h21 : QAt w9 b21 LQ A21 l.length c21 := (hg9.block b21 H21.out.lt (fun e => Nat.lt_irrefl _ (HNE.out b21 e.symm))).trans H21.out
        obtain ⟨A7, c7, rfl, ht7⟩ := QTold.own (A0 := none) hown9
        have hi7 : Hid (QIn w9 A7 c7 (l ++ odd)) := Lib.hid (ht7.qin (by rw [List.length_append]; omega) (fun m hm => (List.mem_append.1 hm).elim (HQD.out m) (HOD.out m)))
        have H217 := Lib.hid h21
        have H20F := Lib.hid (QPair.on H20X.out hG9); have H10F := Lib.hid (MsgAt.on H10X.out hG9); have HRBF := Lib.hid (RawAt.on HRBX.out hG9); have HBF := Lib.hid (HBX.out.trans (hG9.mono HBX.out.size))
        clear z0 z1 zf
        obtain ⟨z0, z1⟩ := h21.cells
        have zf := h21.frozen
        clear hown9 hg9 hlt5 hG9 ht7 h21
        go_wp2_with fail
        go_meet
        rw [← List.length_append]
        exact ZAt.set (.slice A7 (l ++ odd).length c7) H217.out (H217.out.set1 A7 (l ++ odd).length c7) hi7.out (by rw [List.length_append]; omega) H20F.out HBF.out HRBF.out H10F.out HLT.out.1 HLT.out.2
      · subst hq
        go_upto_region 11 with (fail)
        clear z0 z1 zf
        have HV : ∃ Vp : Nat → (Nat → Value) → World → Prop, Vp = (fun ix u wv => match ix with
          | 0 => u 0 = .slice Ao odd.length co
          | 1 => ∃ A5 c5, u 1 = .slice A5 odd.length c5 ∧ OwnM wv X11.heap.size (.slice A5 odd.length c5) odd
          | 2 => u 2 = .pointer (some ⟨b21, 1, none⟩)
          | 3 => u 3 = .slice A21 l.length c21
          | 4 => ∃ A6 c6, u 4 = .slice A6 (odd ++ l).length c6 ∧ OwnM wv X11.heap.size (.slice A6 (odd ++ l).length c6) (odd ++ l)
          | 5 => u 5 = .pointer (some ⟨b21, 1, none⟩)
          | 6 => ZAt w b20 b21 LQ l ⟨r0, r1, r2, r3, r4, r5⟩ ⟨me, mn, ms, mj, mq, mk, md⟩ wv
          | _ => True) := ⟨_, rfl⟩
        obtain ⟨Vp, hVdef⟩ := HV
        have Vp0 : ∀ u wv, Vp 0 u wv = (u 0 = .slice Ao odd.length co) := fun u wv => by subst hVdef; rfl
        have Vp1 : ∀ u wv, Vp 1 u wv = (∃ A5 c5, u 1 = .slice A5 odd.length c5 ∧ OwnM wv X11.heap.size (.slice A5 odd.length c5) odd) := fun u wv => by subst hVdef; rfl
        have Vp2 : ∀ u wv, Vp 2 u wv = (u 2 = .pointer (some ⟨b21, 1, none⟩)) := fun u wv => by subst hVdef; rfl
        have Vp3 : ∀ u wv, Vp 3 u wv = (u 3 = .slice A21 l.length c21) := fun u wv => by subst hVdef; rfl
        have Vp4 : ∀ u wv, Vp 4 u wv = (∃ A6 c6, u 4 = .slice A6 (odd ++ l).length c6 ∧ OwnM wv X11.heap.size (.slice A6 (odd ++ l).length c6) (odd ++ l)) := fun u wv => by subst hVdef; rfl
        have Vp5 : ∀ u wv, Vp 5 u wv = (u 5 = .pointer (some ⟨b21, 1, none⟩)) := fun u wv => by subst hVdef; rfl
        have Vp6 : ∀ u wv, Vp 6 u wv = (ZAt w b20 b21 LQ l ⟨r0, r1, r2, r3, r4, r5⟩ ⟨me, mn, ms, mj, mq, mk, md⟩ wv) := fun u wv => by subst hVdef; rfl
        have HVD := Lib.hid hVdef
        clear hVdef
        refine region_phase (V := Vp) (drop := fun jx ix => (jx == 4 && ix == 1) || (jx == 6 && ix == 4) || (jx == 6 && ix == 5) || (jx == 6 && ix == 1)) (G := fun L wv => (L 6 = false → Below X11.heap.size X11 wv)) (Rel := fun jx wv wv' => jx = 4 ∨ jx = 6 ∨ Below wv.heap.size wv wv') (by kernel_rfl) (by kernel_rfl) (fun _ => (Below.refl _ _).drew) ?hmonop1 ?hdepp1 ⟨?s0_p1, ?s1_p1, ?s2_p1, ?s3_p1, ?s4_p1, ?s5_p1, ?s6_p1, trivial⟩ ?behindp1
        case hmonop1 =>
          intro ix jx u wv wv' hij hw hd hr
          rw [HVD.out]
          dsimp only
          split <;> intro h <;> first | exact trivial | exact h | (rcases hr with rfl | rfl | hb; (focus first | exact absurd rfl hij | (simp at hd; done) | (exact Bool.noConfusion (hw.symm.trans (show _ = true from by kernel_rfl)))); (focus first | exact absurd rfl hij | (simp at hd; done) | (exact Bool.noConfusion (hw.symm.trans (show _ = true from by kernel_rfl)))); (first | (obtain ⟨A5, c5, e, ht⟩ := h; exact ⟨A5, c5, e, ht.on hb⟩) | (obtain ⟨A6, c6, e, ht⟩ := h; exact ⟨A6, c6, e, ht.on hb⟩) | (exact h.on hb)))
        case hdepp1 =>
          intro ix u u' wv h1 h2
          rw [HVD.out]
          dsimp only
          split <;> intro h <;> first | exact trivial | (rw [← h1]; exact h) | exact h
        case s0_p1 =>
          refine oweP rfl fun a wx val L hG hi hW hV hN hO K hK => ?_
          have e4 : a.tmps[4]? = some (.slice Ao odd.length co) := (hO 4 (by kernel_rfl)).trans (by rfl)
          clear hV hN hO
          go_simp
          exact hK.out _ _ (by rw [Vp0, upd_at] <;> (congr 1 <;> omega)) (.inr (.inr (Below.refl _ _))) ((fun h => hG (upL_false h)))
        case s1_p1 =>
          refine oweP rfl fun a wx val L hG hi hW hV hN hO K hK => ?_
          have e83 := hN 0 83 (by kernel_rfl) (by kernel_rfl) (by simp)
          have f83 := hV 0 (by kernel_rfl) (by kernel_rfl)
          rw [Vp0] at f83; rw [f83] at e83; clear f83
          clear hV hN hO
          have h9 := hG (hW 6 (by kernel_rfl))
          refine wp_appM (.const (.slice none 0 0)) (.tmp 83) rfl wx.heap.size w.heap.size _ [] odd Ao co rfl (by simp [Act.eval, e83]) (OwnM.nil _ _) (HMO.out.below (HB.out.trans (h9.mono HB.out.size)) (Nat.le_refl _)) (Nat.le_refl _) (by simp; omega) ?_
          intro u' w5 hown5 hg5
          obtain ⟨A5, c5, rfl, -⟩ := QTold.own (A0 := none) (show OwnM w5 wx.heap.size u' odd from hown5)
          have ht5 : OwnM w5 wx.heap.size (.slice A5 odd.length c5) odd := hown5
          have hb := OwnM.below (OwnM.nil wx wx.heap.size) hg5 (Nat.le_refl _)
          exact hK.out _ _ (by rw [Vp1, upd_at]; exact ⟨A5, c5, rfl, ht5.base h9.size⟩) (.inr (.inr hb)) ((fun h => (hG (upL_false h)).trans (hb.mono (hG (upL_false h)).size)))
        case s2_p1 =>
          refine oweP rfl fun a wx val L hG hi hW hV hN hO K hK => ?_
          have e21 : a.tmps[21]? = some (.pointer (some ⟨b21, 0, none⟩)) := (hO 21 (by kernel_rfl)).trans (by rfl)
          clear hV hN hO
          go_simp
          exact hK.out _ _ (by rw [Vp2, upd_at] <;> (congr 1 <;> omega)) (.inr (.inr (Below.refl _ _))) ((fun h => hG (upL_false h)))
        case s3_p1 =>
          refine oweP rfl fun a wx val L hG hi hW hV hN hO K hK => ?_
          have e85 := hN 2 85 (by kernel_rfl) (by kernel_rfl) (by simp)
          have f85 := hV 2 (by kernel_rfl) (by kernel_rfl)
          rw [Vp2] at f85; rw [f85] at e85; clear f85
          clear hV hN hO
          obtain ⟨v0, v1⟩ := (H21.out.on (hG (hW 6 (by kernel_rfl)))).cells
          go_simp
          exact hK.out _ _ (by rw [Vp3, upd_at] <;> (congr 1 <;> omega)) (.inr (.inr (Below.refl _ _))) ((fun h => hG (upL_false h)))
        case s4_p1 =>
          refine oweP rfl fun a wx val L hG hi hW hV hN hO K hK => ?_
          have e84 := hN 1 84 (by kernel_rfl) (by kernel_rfl) (by simp)
          have f84 := hV 1 (by kernel_rfl) (by kernel_rfl)
          rw [Vp1] at f84; obtain ⟨A5, c5, hv, ht⟩ := f84; rw [hv] at e84
          have e86 := hN 3 86 (by kernel_rfl) (by kernel_rfl) (by simp)
          have f86 := hV 3 (by kernel_rfl) (by kernel_rfl)
          rw [Vp3] at f86; rw [f86] at e86; clear f86
          clear hV hN hO
          have h9 := hG (hW 6 (by kernel_rfl))
          refine wp_appM (.tmp 84) (.tmp 86) rfl X11.heap.size wx.heap.size _ odd l A21 c21 (by simp [Act.eval, e84]) (by simp [Act.eval, e86]) ht (hi9.out.on h9).msgs h9.size (by omega) ?_
          intro u' w5 hown5 hg5
          obtain ⟨A6, c6, rfl, -⟩ := QTold.own (A0 := none) hown5
          have hb := OwnM.below ht hg5 h9.size
          exact hK.out _ _ (by rw [Vp4, upd_at]; exact ⟨A6, c6, rfl, hown5⟩) (.inl rfl) (fun _ => h9.trans hb)
        case s5_p1 =>
          refine oweP rfl fun a wx val L hG hi hW hV hN hO K hK => ?_
          have e21 : a.tmps[21]? = some (.pointer (some ⟨b21, 0, none⟩)) := (hO 21 (by kernel_rfl)).trans (by rfl)
          clear hV hN hO
          go_simp
          exact hK.out _ _ (by rw [Vp5, upd_at] <;> (congr 1 <;> omega)) (.inr (.inr (Below.refl _ _))) ((fun h => hG (upL_false h)))
        case s6_p1 =>
          refine oweP rfl fun a wx val L hG hi hW hV hN hO K hK => ?_
          have e88 := hN 5 88 (by kernel_rfl) (by kernel_rfl) (by simp)
          have f88 := hV 5 (by kernel_rfl) (by kernel_rfl)
          rw [Vp5] at f88; rw [f88] at e88; clear f88
          have e87 := hN 4 87 (by kernel_rfl) (by kernel_rfl) (by simp)
          have f87 := hV 4 (by kernel_rfl) (by kernel_rfl)
          rw [Vp4] at f87; obtain ⟨A6, c6, hv7, ht7⟩ := f87; rw [hv7] at e87
          clear hV hN hO
          have h9 := hG hi
          have hqa := H21.out.on h9
          obtain ⟨v0, v1⟩ := hqa.cells
          have vf := hqa.frozen
          obtain ⟨A8', c8', q8, ht8⟩ := QTold.own (A0 := none) ht7
          obtain ⟨rfl, rfl⟩ : A6 = A8' ∧ c6 = c8' := by injection q8 with q1 q2 q3; exact ⟨q1, q3⟩
          have hi8 := ht8.qin (by rw [List.length_append]; omega) (fun m hm => (List.mem_append.1 hm).elim (HOD.out m) (HQD.out m))
          have hzz := ZAt.set (w0 := w) (.slice A6 (odd ++ l).length c6) hqa (hqa.set1 A6 (odd ++ l).length c6) hi8 (by rw [List.length_append]; omega) (QPair.on H20.out h9) (HB.out.trans (h9.mono HB.out.size)) (RawAt.on HRB.out h9) (MsgAt.on H10.out h9) HLT.out.1 HLT.out.2
          go_simp
          exact hK.out undef _ (by rw [Vp6, ← List.length_append]; exact hzz) (.inr (.inl rfl)) (fun h => (upL_self h).elim)
        intro val wx L hG hV
        have f0 := hV 0 (by simp) (fun _ _ => by simp)
        rw [Vp0] at f0
        have f2 := hV 2 (by simp) (fun _ _ => by simp)
        rw [Vp2] at f2
        have f3 := hV 3 (by simp) (fun _ _ => by simp)
        rw [Vp3] at f3
        have f6 := hV 6 (by simp) (fun _ _ => by simp)
        rw [Vp6] at f6
        clear hV Vp0 Vp1 Vp2 Vp3 Vp4 Vp5 Vp6
        simp only [putAll, Act.put, List.setIfInBounds_toArray, List.set_cons_zero, List.set_cons_succ]
        generalize val 0 = z0 at *; (subst f0)
        generalize val 1 = z1 at *
        generalize val 2 = z2 at *; (subst f2)
        generalize val 3 = z3 at *; (subst f3)
        generalize val 4 = z4 at *
        generalize val 5 = z5 at *
        clear HVD
        have HZF := Lib.hid f6
        go_wp2_with fail
        go_meet
        exact HZF.out
    case rest =>
      obtain ⟨⟨Lz, lz, hqz, hlz⟩, hq20, hB, hr, hm⟩ := hcut
      clear HB HRB H10 H20 H21 HO21 HX9
      have HB := Lib.hid hB
      have HRB := Lib.hid hr
      have H10 := Lib.hid hm
      have HQ2 := Lib.hid (And.intro hq20 hqz)
      obtain ⟨A20, c20, p20, i20⟩ := hq20
      obtain ⟨A21, c21, p21, i21⟩ := hqz
      clear hB hr hm
      obtain ⟨y0, y1⟩ := p20.cells
      obtain ⟨z0, z1⟩ := p21.cells
      go_wp2_with fail
      have hbq := Joins.below_alloc1 wc (.cells #[.int .i64 LQ, .slice A20 l.length c20, .int .i64 Lz, .slice A21 lz.length c21] 64)
      have HELS := Lib.hid (Elem.two wc (L0 := LQ) (L1 := Lz) i20 i21 (by omega) hlz)
      have HB1 := Lib.hid (HB.out.trans (hbq.mono HB.out.size)); clear HB; have HB := HB1; clear HB1
      have HRB1 := Lib.hid (RawAt.on HRB.out hbq); clear HRB; have HRB := HRB1; clear HRB1
      have H101 := Lib.hid (MsgAt.on H10.out hbq); clear H10; have H10 := H101; clear H101
      clear hbq y0 y1 z0 z1 p20 p21 i20 i21 HQ2
      generalize hX : wc.alloc (.cells #[.int .i64 LQ, .slice A20 l.length c20, .int .i64 Lz, .slice A21 lz.length c21] 64) = X16 at *
      clear hX
      generalize wc.heap.size = bq at *
      go_loopw [104] (fun i wr => ∃ k : Nat, k ≤ 2 ∧ i = .int .i64 k ∧ Below w.heap.size w wr ∧ RawAt wr w.heap.size ⟨r0, r1, r2, r3, r4, r5⟩ ∧ MsgAt wr (w.heap.size + 1) ⟨me, mn, ms, mj, mq, mk, md⟩ ∧ ∀ k, k < 2 → Elem wr bq k) (fun i _ => 2 - (intOf i).toNat)
      case atStart => exact ⟨0, by omega, rfl, HB.out, HRB.out, H10.out, HELS.out⟩
      case round =>
        clear HB HRB H10 HELS
        obtain ⟨k, hk2, rfl, hB, hR, hM, hE⟩ := hrel
        have HB := Lib.hid hB
        have HRB := Lib.hid hR
        have H10 := Lib.hid hM
        have HEL := Lib.hid hE
        clear hB hR hM hE
        by_cases hlt : k < 2
        · have hkI : (k : Int) < 2 := by omega
          obtain ⟨LZ, Az, cz, lz, y0, y1, hqi, hl40, -⟩ := HEL.out k hlt
          have hb23 := Joins.below_alloc1 wr (.cells #[.int .i64 LZ, .slice Az lz.length cz] 64)
          have H23 := Lib.hid (QPair.new (L := LZ) hqi)
          have HZD : Hid (∀ m ∈ lz, m.data.size ≤ 140737488351232) := Lib.hid hqi.data
          have hG := hb23
          have H101 := Lib.hid (MsgAt.on H10.out hG); clear H10; have H10 := H101; clear H101
          have HB1 := Lib.hid (HB.out.trans (hG.mono HB.out.size)); clear HB; have HB := HB1; clear HB1
          have HEL1 := Lib.hid (fun k hk => Elem.on (HEL.out k hk) hG); clear HEL; have HEL := HEL1; clear HEL1
          have HRB1 := Lib.hid (RawAt.on HRB.out hG); clear HRB; have HRB := HRB1; clear HRB1
          clear hb23 hG hqi
          go_upto_region 19 with (fail)
          clear y0 y1
          generalize hX : wr.alloc (.cells #[.int .i64 LZ, .slice Az lz.length cz] 64) = X19 at *
          clear hX
          generalize wr.heap.size = b23 at *
          obtain ⟨fe, hfe⟩ : ∃ fe, cutE LZ lz 0 = fe := ⟨_, rfl⟩
          obtain ⟨fm, hfm⟩ : ∃ fm, cutM LZ lz 0 = fm := ⟨_, rfl⟩
          obtain ⟨fl, hfl⟩ : ∃ fl, cutL LZ lz 0 = fl := ⟨_, rfl⟩
          obtain ⟨fb, hfb⟩ : ∃ fb, (fe == 0) = fb := ⟨_, rfl⟩
          have HFE := Lib.hid (And.intro hfe (And.intro hfm (And.intro hfl hfb)))
          have hfl40 : fl.length ≤ 40 := by rw [← hfl]; exact Nat.le_trans (cutL_length _ _ _) hl40
          clear hfe hfm hfl hfb
          have HFM : Hid (fm = fm) := Lib.hid rfl
          obtain ⟨fmm, hfmm⟩ : ∃ x, x = fm := ⟨_, rfl⟩
          have HFMM := Lib.hid hfmm
          rw [← hfmm] at HFE
          clear hfmm HFM
          obtain ⟨ge, gn, gs, gj, gq, gk, gd⟩ := fmm
          obtain ⟨Az, cz, hqa, hqi⟩ := H23.out
          obtain ⟨y0, y1⟩ := hqa.cells
          have hpc := firstQ_any LZ Az cz lz X19 (HLL.out.below HB.out) hqi
          rw [HFE.out.1, HFE.out.2.1, HFE.out.2.2.2] at hpc
          simp only [mv] at hpc
          clear hqa hqi
          go_wp2_with fail; refine hpc.mono ?_; rintro e w24 ⟨rfl, hbc⟩
          clear y0 y1 hpc
          have hbm := Joins.below_alloc1 w24 (.cells #[.bool ge, .int .i64 gn, .int .i64 gs, .int .i64 gj, .int .i64 gq, .int .i64 gk, .string gd] 26)
          have hG := hbc.trans (hbm.mono hbc.size)
          have H24 : Hid (MsgAt _ _ ⟨ge, gn, gs, gj, gq, gk, gd⟩) := Lib.hid (MsgAt.new w24 ⟨ge, gn, gs, gj, gq, gk, gd⟩)
          have H231 := Lib.hid (QPair.on H23.out hG); clear H23; have H23 := H231; clear H231
          have H101 := Lib.hid (MsgAt.on H10.out hG); clear H10; have H10 := H101; clear H101
          have HB1 := Lib.hid (HB.out.trans (hG.mono HB.out.size)); clear HB; have HB := HB1; clear HB1
          have HEL1 := Lib.hid (fun k hk => Elem.on (HEL.out k hk) hG); clear HEL; have HEL := HEL1; clear HEL1
          have HRB1 := Lib.hid (RawAt.on HRB.out hG); clear HRB; have HRB := HRB1; clear HRB1
          simp only [mc] at H24
          clear hbm hG hbc
          go_upto_region 20 with (fail)
          generalize hX : w24.alloc (.cells #[.bool ge, .int .i64 gn, .int .i64 gs, .int .i64 gj, .int .i64 gq, .int .i64 gk, .string gd] 26) = X20 at *
          clear hX
          generalize w24.heap.size = bH24 at *
          obtain ⟨Az, cz, hqa, hqi⟩ := H23.out
          obtain ⟨y0, y1⟩ := hqa.cells
          have hpc := refFirstQ_any LZ Az cz lz X20 hqi
          rw [HFE.out.1, HFE.out.2.1, HFE.out.2.2.2] at hpc
          simp only [mv] at hpc
          clear hqa hqi
          go_wp2_with fail; refine hpc.mono ?_; rintro e w26 ⟨rfl, hbc⟩
          clear y0 y1 hpc
          have hbm := Joins.below_alloc1 w26 (.cells #[.bool ge, .int .i64 gn, .int .i64 gs, .int .i64 gj, .int .i64 gq, .int .i64 gk, .string gd] 26)
          have hG := hbc.trans (hbm.mono hbc.size)
          have H26 : Hid (MsgAt _ _ ⟨ge, gn, gs, gj, gq, gk, gd⟩) := Lib.hid (MsgAt.new w26 ⟨ge, gn, gs, gj, gq, gk, gd⟩)
          have H231 := Lib.hid (QPair.on H23.out hG); clear H23; have H23 := H231; clear H231
          have H101 := Lib.hid (MsgAt.on H10.out hG); clear H10; have H10 := H101; clear H101
          have H241 := Lib.hid (MsgAt.on H24.out hG); clear H24; have H24 := H241; clear H241
          have HB1 := Lib.hid (HB.out.trans (hG.mono HB.out.size)); clear HB; have HB := HB1; clear HB1
          have HEL1 := Lib.hid (fun k hk => Elem.on (HEL.out k hk) hG); clear HEL; have HEL := HEL1; clear HEL1
          have HRB1 := Lib.hid (RawAt.on HRB.out hG); clear HRB; have HRB := HRB1; clear HRB1
          simp only [mc] at H26
          clear hbm hG hbc
          go_upto_region 21 with (fail)
          generalize hX : w26.alloc (.cells #[.bool ge, .int .i64 gn, .int .i64 gs, .int .i64 gj, .int .i64 gq, .int .i64 gk, .string gd] 26) = X21 at *
          clear hX
          generalize w26.heap.size = bH26 at *
          obtain ⟨Az, cz, hqa, hqi⟩ := H23.out
          obtain ⟨y0, y1⟩ := hqa.cells
          have hpc := take_told LZ Az lz 0 X21 (by omega) HZD.out HFE.out.1 HFE.out.2.1 HFE.out.2.2.1 (takeQ_any LZ Az cz lz X21 (HLL.out.below HB.out) hqi)
          simp only [mv] at hpc
          clear hqa hqi
          go_wp2_with fail; refine hpc.mono ?_; rintro e w28 ⟨A28, c28, rfl, hiq, hbc⟩
          clear y0 y1 hpc
          have hbq := Joins.below_alloc1 w28 (.cells #[.int .i64 LZ, .slice A28 fl.length c28] 64)
          have hbm := Joins.below_alloc1 (w28.alloc (.cells #[.int .i64 LZ, .slice A28 fl.length c28] 64)) (.cells #[.bool ge, .int .i64 gn, .int .i64 gs, .int .i64 gj, .int .i64 gq, .int .i64 gk, .string gd] 26)
          have hG := hbc.trans ((hbq.trans (hbm.mono hbq.size)).mono hbc.size)
          have H28 := Lib.hid ((QPair.new (L := LZ) hiq).on hbm)
          have H29 : Hid (MsgAt _ _ ⟨ge, gn, gs, gj, gq, gk, gd⟩) := Lib.hid (MsgAt.new (w28.alloc (.cells #[.int .i64 LZ, .slice A28 fl.length c28] 64)) ⟨ge, gn, gs, gj, gq, gk, gd⟩)
          have H231 := Lib.hid (QPair.on H23.out hG); clear H23; have H23 := H231; clear H231
          have H101 := Lib.hid (MsgAt.on H10.out hG); clear H10; have H10 := H101; clear H101
          have H241 := Lib.hid (MsgAt.on H24.out hG); clear H24; have H24 := H241; clear H241
          have H261 := Lib.hid (MsgAt.on H26.out hG); clear H26; have H26 := H261; clear H261
          have HB1 := Lib.hid (HB.out.trans (hG.mono HB.out.size)); clear HB; have HB := HB1; clear HB1
          have HEL1 := Lib.hid (fun k hk => Elem.on (HEL.out k hk) hG); clear HEL; have HEL := HEL1; clear HEL1
          have HRB1 := Lib.hid (RawAt.on HRB.out hG); clear HRB; have HRB := HRB1; clear HRB1
          simp only [mc, World.size_alloc] at H28 H29 HB H23 H10 H24 H26
          clear hbq hbm hG hbc hiq
          go_upto_region 22 with (fail)
          generalize hX : (w28.alloc (.cells #[.int .i64 LZ, .slice A28 fl.length c28] 64)).alloc (.cells #[.bool ge, .int .i64 gn, .int .i64 gs, .int .i64 gj, .int .i64 gq, .int .i64 gk, .string gd] 26) = X22 at *
          clear hX
          generalize w28.heap.size = bH28 at *
          obtain ⟨Az, cz, hqa, hqi⟩ := H23.out
          obtain ⟨y0, y1⟩ := hqa.cells
          have hpc := take_told LZ Az lz 0 X22 (by omega) HZD.out HFE.out.1 HFE.out.2.1 HFE.out.2.2.1 (refTakeQ_any LZ Az cz lz X22 hqi)
          simp only [mv] at hpc
          clear hqa hqi
          go_wp2_with fail; refine hpc.mono ?_; rintro e w31 ⟨A31, c31, rfl, hiq, hbc⟩
          clear y0 y1 hpc
          have hbq := Joins.below_alloc1 w31 (.cells #[.int .i64 LZ, .slice A31 fl.length c31] 64)
          have hbm := Joins.below_alloc1 (w31.alloc (.cells #[.int .i64 LZ, .slice A31 fl.length c31] 64)) (.cells #[.bool ge, .int .i64 gn, .int .i64 gs, .int .i64 gj, .int .i64 gq, .int .i64 gk, .string gd] 26)
          have hG := hbc.trans ((hbq.trans (hbm.mono hbq.size)).mono hbc.size)
          have H31 := Lib.hid ((QPair.new (L := LZ) hiq).on hbm)
          have H32 : Hid (MsgAt _ _ ⟨ge, gn, gs, gj, gq, gk, gd⟩) := Lib.hid (MsgAt.new (w31.alloc (.cells #[.int .i64 LZ, .slice A31 fl.length c31] 64)) ⟨ge, gn, gs, gj, gq, gk, gd⟩)
          have H231 := Lib.hid (QPair.on H23.out hG); clear H23; have H23 := H231; clear H231
          have H281 := Lib.hid (QPair.on H28.out hG); clear H28; have H28 := H281; clear H281
          have H101 := Lib.hid (MsgAt.on H10.out hG); clear H10; have H10 := H101; clear H101
          have H241 := Lib.hid (MsgAt.on H24.out hG); clear H24; have H24 := H241; clear H241
          have H261 := Lib.hid (MsgAt.on H26.out hG); clear H26; have H26 := H261; clear H261
          have H291 := Lib.hid (MsgAt.on H29.out hG); clear H29; have H29 := H291; clear H291
          have HB1 := Lib.hid (HB.out.trans (hG.mono HB.out.size)); clear HB; have HB := HB1; clear HB1
          have HEL1 := Lib.hid (fun k hk => Elem.on (HEL.out k hk) hG); clear HEL; have HEL := HEL1; clear HEL1
          have HRB1 := Lib.hid (RawAt.on HRB.out hG); clear HRB; have HRB := HRB1; clear HRB1
          simp only [mc, World.size_alloc] at H31 H32 HB H23 H28 H10 H24 H26 H29
          clear hbq hbm hG hbc hiq
          go_upto_region 23 with (fail)
          generalize hX : (w31.alloc (.cells #[.int .i64 LZ, .slice A31 fl.length c31] 64)).alloc (.cells #[.bool ge, .int .i64 gn, .int .i64 gs, .int .i64 gj, .int .i64 gq, .int .i64 gk, .string gd] 26) = X23 at *
          clear hX
          generalize w31.heap.size = bH31 at *
          have hEG := fun x y w => eqM_guard .neq x y ⟨ge, gn, gs, gj, gq, gk, gd⟩ ⟨ge, gn, gs, gj, gq, gk, gd⟩ w
          have hNE := neqM ⟨ge, gn, gs, gj, gq, gk, gd⟩ ⟨ge, gn, gs, gj, gq, gk, gd⟩
          rw [(sameM_iff _ _).2 rfl] at hNE
          simp only [mv] at hEG hNE
          have HSAM := Lib.hid (sameQ_self LZ fl)
          obtain ⟨Az, cz, hqa, hqi⟩ := H23.out
          obtain ⟨A28, c28, p28, i28⟩ := H28.out
          obtain ⟨A31, c31, p31, i31⟩ := H31.out
          have HQA := Lib.hid hqa; have HP28 := Lib.hid p28; have HP31 := Lib.hid p31
          have CS : Hid (∀ W, Below X23.heap.size X23 W → Calls Tryd.prog 32 #[qv LZ A28 fl.length c28, qv LZ A31 fl.length c31] W fun e w' => e = .returned (.bool true) ∧ Below W.heap.size W w') := Lib.hid (fun W h => by
            have q := sameQ_any LZ LZ A28 A31 c28 c31 fl fl W (i28.on h) (i31.on h)
            rw [HSAM.out] at q; exact q)
          obtain ⟨rq, hrq⟩ : ∃ rq, rightQ LZ lz = rq := ⟨_, rfl⟩
          have C1 : Hid (∀ W, Below X23.heap.size X23 W → Calls Tryd.prog 40 #[qv LZ Az lz.length cz] W fun e w' => e = .returned (.bool rq) ∧ Below W.heap.size W w') := Lib.hid (fun W h => by rw [← hrq]; exact rightQ_any LZ Az cz lz W (HLL.out.below (HB.out.trans (h.mono HB.out.size))) (hqi.on h))
          have C2 : Hid (∀ W, Below X23.heap.size X23 W → Calls Tryd.prog 41 #[qv LZ Az lz.length cz] W fun e w' => e = .returned (.bool rq) ∧ Below W.heap.size W w') := Lib.hid (fun W h => by rw [← hrq]; exact refRightQ_any LZ Az cz lz W (hqi.on h))
          clear hqa hqi p28 i28 p31 i31 hrq
          have HV : ∃ Vp : Nat → (Nat → Value) → World → Prop, Vp = (fun ix u wv => match ix with
            | 0 => u 0 = .agg #[.bool ge, .int .i64 gn, .int .i64 gs, .int .i64 gj, .int .i64 gq, .int .i64 gk, .string gd]
            | 1 => u 1 = .agg #[.bool ge, .int .i64 gn, .int .i64 gs, .int .i64 gj, .int .i64 gq, .int .i64 gk, .string gd]
            | 2 => u 2 = .bool false
            | 3 => u 3 = .bool false
            | 4 => u 4 = .bool fb
            | 5 => u 5 = .bool fb
            | 6 => u 6 = .bool false
            | 7 => u 7 = .bool false
            | 8 => u 8 = .bool false
            | 9 => u 9 = .agg #[.int .i64 LZ, .slice A28 fl.length c28]
            | 10 => u 10 = .agg #[.int .i64 LZ, .slice A31 fl.length c31]
            | 11 => u 11 = .bool true
            | 12 => u 12 = .bool false
            | 13 => u 13 = .bool false
            | 14 => u 14 = .bool false
            | 15 => u 15 = .agg #[.bool ge, .int .i64 gn, .int .i64 gs, .int .i64 gj, .int .i64 gq, .int .i64 gk, .string gd]
            | 16 => u 16 = .agg #[.bool ge, .int .i64 gn, .int .i64 gs, .int .i64 gj, .int .i64 gq, .int .i64 gk, .string gd]
            | 17 => u 17 = .bool false
            | 18 => u 18 = .bool false
            | 19 => u 19 = .bool false
            | 20 => u 20 = .int .i64 fe
            | 21 => u 21 = .int .i64 fe
            | 22 => u 22 = .bool false
            | 23 => u 23 = .bool false
            | 24 => u 24 = .bool false
            | 25 => u 25 = .agg #[.int .i64 LZ, .slice Az lz.length cz]
            | 26 => u 26 = .bool rq
            | 27 => u 27 = .agg #[.int .i64 LZ, .slice Az lz.length cz]
            | 28 => u 28 = .bool rq
            | 29 => u 29 = .bool false
            | 30 => u 30 = .bool false
            | _ => True) := ⟨_, rfl⟩
          obtain ⟨Vp, hVdef⟩ := HV
          have Vp0 : ∀ u wv, Vp 0 u wv = (u 0 = .agg #[.bool ge, .int .i64 gn, .int .i64 gs, .int .i64 gj, .int .i64 gq, .int .i64 gk, .string gd]) := fun u wv => by subst hVdef; rfl
          have Vp1 : ∀ u wv, Vp 1 u wv = (u 1 = .agg #[.bool ge, .int .i64 gn, .int .i64 gs, .int .i64 gj, .int .i64 gq, .int .i64 gk, .string gd]) := fun u wv => by subst hVdef; rfl
          have Vp2 : ∀ u wv, Vp 2 u wv = (u 2 = .bool false) := fun u wv => by subst hVdef; rfl
          have Vp3 : ∀ u wv, Vp 3 u wv = (u 3 = .bool false) := fun u wv => by subst hVdef; rfl
          have Vp4 : ∀ u wv, Vp 4 u wv = (u 4 = .bool fb) := fun u wv => by subst hVdef; rfl
          have Vp5 : ∀ u wv, Vp 5 u wv = (u 5 = .bool fb) := fun u wv => by subst hVdef; rfl
          have Vp6 : ∀ u wv, Vp 6 u wv = (u 6 = .bool false) := fun u wv => by subst hVdef; rfl
          have Vp7 : ∀ u wv, Vp 7 u wv = (u 7 = .bool false) := fun u wv => by subst hVdef; rfl
          have Vp8 : ∀ u wv, Vp 8 u wv = (u 8 = .bool false) := fun u wv => by subst hVdef; rfl
          have Vp9 : ∀ u wv, Vp 9 u wv = (u 9 = .agg #[.int .i64 LZ, .slice A28 fl.length c28]) := fun u wv => by subst hVdef; rfl
          have Vp10 : ∀ u wv, Vp 10 u wv = (u 10 = .agg #[.int .i64 LZ, .slice A31 fl.length c31]) := fun u wv => by subst hVdef; rfl
          have Vp11 : ∀ u wv, Vp 11 u wv = (u 11 = .bool true) := fun u wv => by subst hVdef; rfl
          have Vp12 : ∀ u wv, Vp 12 u wv = (u 12 = .bool false) := fun u wv => by subst hVdef; rfl
          have Vp13 : ∀ u wv, Vp 13 u wv = (u 13 = .bool false) := fun u wv => by subst hVdef; rfl
          have Vp14 : ∀ u wv, Vp 14 u wv = (u 14 = .bool false) := fun u wv => by subst hVdef; rfl
          have Vp15 : ∀ u wv, Vp 15 u wv = (u 15 = .agg #[.bool ge, .int .i64 gn, .int .i64 gs, .int .i64 gj, .int .i64 gq, .int .i64 gk, .string gd]) := fun u wv => by subst hVdef; rfl
          have Vp16 : ∀ u wv, Vp 16 u wv = (u 16 = .agg #[.bool ge, .int .i64 gn, .int .i64 gs, .int .i64 gj, .int .i64 gq, .int .i64 gk, .string gd]) := fun u wv => by subst hVdef; rfl
          have Vp17 : ∀ u wv, Vp 17 u wv = (u 17 = .bool false) := fun u wv => by subst hVdef; rfl
          have Vp18 : ∀ u wv, Vp 18 u wv = (u 18 = .bool false) := fun u wv => by subst hVdef; rfl
          have Vp19 : ∀ u wv, Vp 19 u wv = (u 19 = .bool false) := fun u wv => by subst hVdef; rfl
          have Vp20 : ∀ u wv, Vp 20 u wv = (u 20 = .int .i64 fe) := fun u wv => by subst hVdef; rfl
          have Vp21 : ∀ u wv, Vp 21 u wv = (u 21 = .int .i64 fe) := fun u wv => by subst hVdef; rfl
          have Vp22 : ∀ u wv, Vp 22 u wv = (u 22 = .bool false) := fun u wv => by subst hVdef; rfl
          have Vp23 : ∀ u wv, Vp 23 u wv = (u 23 = .bool false) := fun u wv => by subst hVdef; rfl
          have Vp24 : ∀ u wv, Vp 24 u wv = (u 24 = .bool false) := fun u wv => by subst hVdef; rfl
          have Vp25 : ∀ u wv, Vp 25 u wv = (u 25 = .agg #[.int .i64 LZ, .slice Az lz.length cz]) := fun u wv => by subst hVdef; rfl
          have Vp26 : ∀ u wv, Vp 26 u wv = (u 26 = .bool rq) := fun u wv => by subst hVdef; rfl
          have Vp27 : ∀ u wv, Vp 27 u wv = (u 27 = .agg #[.int .i64 LZ, .slice Az lz.length cz]) := fun u wv => by subst hVdef; rfl
          have Vp28 : ∀ u wv, Vp 28 u wv = (u 28 = .bool rq) := fun u wv => by subst hVdef; rfl
          have Vp29 : ∀ u wv, Vp 29 u wv = (u 29 = .bool false) := fun u wv => by subst hVdef; rfl
          have Vp30 : ∀ u wv, Vp 30 u wv = (u 30 = .bool false) := fun u wv => by subst hVdef; rfl
          have HVD := Lib.hid hVdef
          clear hVdef
          refine region_each (V := Vp) (drop := fun _ _ => false) (G := fun wv => Below X23.heap.size X23 wv) (Rel := fun jx wv wv' => Below wv.heap.size wv wv') (by kernel_rfl) (by kernel_rfl) (Below.refl _ _).drew ?hmonoc1 ?hdepc1 ⟨?s0_c1, ?s1_c1, ?s2_c1, ?s3_c1, ?s4_c1, ?s5_c1, ?s6_c1, ?s7_c1, ?s8_c1, ?s9_c1, ?s10_c1, ?s11_c1, ?s12_c1, ?s13_c1, ?s14_c1, ?s15_c1, ?s16_c1, ?s17_c1, ?s18_c1, ?s19_c1, ?s20_c1, ?s21_c1, ?s22_c1, ?s23_c1, ?s24_c1, ?s25_c1, ?s26_c1, ?s27_c1, ?s28_c1, ?s29_c1, ?s30_c1, trivial⟩ ?behindc1
          case hmonoc1 =>
            intro ix jx u wv wv' hij hw hd hr
            rw [HVD.out]
            dsimp only
            split <;> intro h <;> first | exact trivial | exact h
          case hdepc1 =>
            intro ix u u' wv h1 h2
            rw [HVD.out]
            dsimp only
            split <;> intro h <;> first | exact trivial | (rw [← h1]; exact h)
          case s0_c1 =>
            refine owe rfl fun a wx val hG hV hN hO K hK => ?_
            have e24 : a.tmps[24]? = some (.pointer (some ⟨bH24, 0, none⟩)) := (hO 24 (by kernel_rfl)).trans (by rfl)
            clear hV hN hO
            obtain ⟨v0, v1⟩ := (HQA.out.on hG).cells
            obtain ⟨s0, s1⟩ := (HP28.out.on hG).cells
            obtain ⟨t0, t1⟩ := (HP31.out.on hG).cells
            obtain ⟨x0, x1, x2, x3, x4, x5, x6⟩ := MsgAt.cells (MsgAt.on H24.out hG)
            obtain ⟨y0, y1, y2, y3, y4, y5, y6⟩ := MsgAt.cells (MsgAt.on H26.out hG)
            obtain ⟨z0, z1, z2, z3, z4, z5, z6⟩ := MsgAt.cells (MsgAt.on H29.out hG)
            obtain ⟨u0, u1, u2, u3, u4, u5, u6⟩ := MsgAt.cells (MsgAt.on H32.out hG)
            go_simp
            exact hK.out _ _ (by rw [Vp0, upd_at] <;> (congr 1 <;> omega)) (Below.refl _ _) hG
          case s1_c1 =>
            refine owe rfl fun a wx val hG hV hN hO K hK => ?_
            have e26 : a.tmps[26]? = some (.pointer (some ⟨bH26, 0, none⟩)) := (hO 26 (by kernel_rfl)).trans (by rfl)
            clear hV hN hO
            obtain ⟨v0, v1⟩ := (HQA.out.on hG).cells
            obtain ⟨s0, s1⟩ := (HP28.out.on hG).cells
            obtain ⟨t0, t1⟩ := (HP31.out.on hG).cells
            obtain ⟨x0, x1, x2, x3, x4, x5, x6⟩ := MsgAt.cells (MsgAt.on H24.out hG)
            obtain ⟨y0, y1, y2, y3, y4, y5, y6⟩ := MsgAt.cells (MsgAt.on H26.out hG)
            obtain ⟨z0, z1, z2, z3, z4, z5, z6⟩ := MsgAt.cells (MsgAt.on H29.out hG)
            obtain ⟨u0, u1, u2, u3, u4, u5, u6⟩ := MsgAt.cells (MsgAt.on H32.out hG)
            go_simp
            exact hK.out _ _ (by rw [Vp1, upd_at] <;> (congr 1 <;> omega)) (Below.refl _ _) hG
          case s2_c1 =>
            refine owe rfl fun a wx val hG hV hN hO K hK => ?_
            have e130 := hN 0 130 (by kernel_rfl) (by kernel_rfl) (by simp)
            have f130 := hV 0 (by kernel_rfl) (by kernel_rfl)
            rw [Vp0] at f130; rw [f130] at e130; clear f130
            have e131 := hN 1 131 (by kernel_rfl) (by kernel_rfl) (by simp)
            have f131 := hV 1 (by kernel_rfl) (by kernel_rfl)
            rw [Vp1] at f131; rw [f131] at e131; clear f131
            clear hV hN hO
            go_simp
            exact hK.out _ _ (by rw [Vp2, upd_at] <;> (congr 1 <;> omega)) (Below.refl _ _) hG
          case s3_c1 =>
            refine owe rfl fun a wx val hG hV hN hO K hK => ?_
            have e132 := hN 2 132 (by kernel_rfl) (by kernel_rfl) (by simp)
            have f132 := hV 2 (by kernel_rfl) (by kernel_rfl)
            rw [Vp2] at f132; rw [f132] at e132; clear f132
            clear hV hN hO
            go_simp
            exact hK.out _ _ (by rw [Vp3, upd_at] <;> (congr 1 <;> omega)) (Below.refl _ _) hG
          case s4_c1 =>
            refine owe_cond (g := 3) (t := 133) (b := false) (c := false) (d := true) true (by first | rfl | simp) rfl (by kernel_rfl) (by kernel_rfl) (by kernel_rfl) (by simp) (fun val w h => by rw [Vp3] at h; first | exact h | simpa using h) (fun hd a wx val hG hV hN hO K hK => ?_) (fun hd val w => by first | exact absurd hd (by decide) | rw [Vp4, upd_at, if_neg (by rw [hd]; decide)])
            have e25 : a.tmps[25]? = some (.bool fb) := (hO 25 (by kernel_rfl)).trans (by rfl)
            clear hV hN hO
            go_simp
            exact hK.out _ _ (by rw [Vp4, upd_at] <;> (congr 1 <;> omega)) (Below.refl _ _) hG
          case s5_c1 =>
            refine owe_cond (g := 3) (t := 133) (b := false) (c := false) (d := true) true (by first | rfl | simp) rfl (by kernel_rfl) (by kernel_rfl) (by kernel_rfl) (by simp) (fun val w h => by rw [Vp3] at h; first | exact h | simpa using h) (fun hd a wx val hG hV hN hO K hK => ?_) (fun hd val w => by first | exact absurd hd (by decide) | rw [Vp5, upd_at, if_neg (by rw [hd]; decide)])
            have e27 : a.tmps[27]? = some (.bool fb) := (hO 27 (by kernel_rfl)).trans (by rfl)
            clear hV hN hO
            go_simp
            exact hK.out _ _ (by rw [Vp5, upd_at] <;> (congr 1 <;> omega)) (Below.refl _ _) hG
          case s6_c1 =>
            refine owe_cond (g := 3) (t := 133) (b := false) (c := false) (d := true) true (by first | rfl | simp) rfl (by kernel_rfl) (by kernel_rfl) (by kernel_rfl) (by simp) (fun val w h => by rw [Vp3] at h; first | exact h | simpa using h) (fun hd a wx val hG hV hN hO K hK => ?_) (fun hd val w => by first | exact absurd hd (by decide) | rw [Vp6, upd_at, if_neg (by rw [hd]; decide)])
            have e134 := hN 4 134 (by kernel_rfl) (by kernel_rfl) (by simp)
            have f134 := hV 4 (by kernel_rfl) (by kernel_rfl)
            rw [Vp4] at f134; rw [f134] at e134; clear f134
            have e135 := hN 5 135 (by kernel_rfl) (by kernel_rfl) (by simp)
            have f135 := hV 5 (by kernel_rfl) (by kernel_rfl)
            rw [Vp5] at f135; rw [f135] at e135; clear f135
            clear hV hN hO
            go_simp
            exact hK.out _ _ (by rw [Vp6, upd_at] <;> (congr 1 <;> omega)) (Below.refl _ _) hG
          case s7_c1 =>
            refine owe rfl fun a wx val hG hV hN hO K hK => ?_
            have e133 := hN 3 133 (by kernel_rfl) (by kernel_rfl) (by simp)
            have f133 := hV 3 (by kernel_rfl) (by kernel_rfl)
            rw [Vp3] at f133; rw [f133] at e133; clear f133
            have e136 := hN 6 136 (by kernel_rfl) (by kernel_rfl) (by simp)
            have f136 := hV 6 (by kernel_rfl) (by kernel_rfl)
            rw [Vp6] at f136; rw [f136] at e136; clear f136
            clear hV hN hO
            go_simp
            exact hK.out _ _ (by rw [Vp7, upd_at] <;> simp) (Below.refl _ _) hG
          case s8_c1 =>
            refine owe rfl fun a wx val hG hV hN hO K hK => ?_
            have e137 := hN 7 137 (by kernel_rfl) (by kernel_rfl) (by simp)
            have f137 := hV 7 (by kernel_rfl) (by kernel_rfl)
            rw [Vp7] at f137; rw [f137] at e137; clear f137
            clear hV hN hO
            go_simp
            exact hK.out _ _ (by rw [Vp8, upd_at] <;> (congr 1 <;> omega)) (Below.refl _ _) hG
          case s9_c1 =>
            refine owe_cond (g := 8) (t := 138) (b := false) (c := false) (d := true) true (by first | rfl | simp) rfl (by kernel_rfl) (by kernel_rfl) (by kernel_rfl) (by simp) (fun val w h => by rw [Vp8] at h; first | exact h | simpa using h) (fun hd a wx val hG hV hN hO K hK => ?_) (fun hd val w => by first | exact absurd hd (by decide) | rw [Vp9, upd_at, if_neg (by rw [hd]; decide)])
            have e28 : a.tmps[28]? = some (.pointer (some ⟨bH28, 0, none⟩)) := (hO 28 (by kernel_rfl)).trans (by rfl)
            clear hV hN hO
            obtain ⟨v0, v1⟩ := (HQA.out.on hG).cells
            obtain ⟨s0, s1⟩ := (HP28.out.on hG).cells
            obtain ⟨t0, t1⟩ := (HP31.out.on hG).cells
            obtain ⟨x0, x1, x2, x3, x4, x5, x6⟩ := MsgAt.cells (MsgAt.on H24.out hG)
            obtain ⟨y0, y1, y2, y3, y4, y5, y6⟩ := MsgAt.cells (MsgAt.on H26.out hG)
            obtain ⟨z0, z1, z2, z3, z4, z5, z6⟩ := MsgAt.cells (MsgAt.on H29.out hG)
            obtain ⟨u0, u1, u2, u3, u4, u5, u6⟩ := MsgAt.cells (MsgAt.on H32.out hG)
            go_simp
            exact hK.out _ _ (by rw [Vp9, upd_at] <;> (congr 1 <;> omega)) (Below.refl _ _) hG
          case s10_c1 =>
            refine owe_cond (g := 8) (t := 138) (b := false) (c := false) (d := true) true (by first | rfl | simp) rfl (by kernel_rfl) (by kernel_rfl) (by kernel_rfl) (by simp) (fun val w h => by rw [Vp8] at h; first | exact h | simpa using h) (fun hd a wx val hG hV hN hO K hK => ?_) (fun hd val w => by first | exact absurd hd (by decide) | rw [Vp10, upd_at, if_neg (by rw [hd]; decide)])
            have e31 : a.tmps[31]? = some (.pointer (some ⟨bH31, 0, none⟩)) := (hO 31 (by kernel_rfl)).trans (by rfl)
            clear hV hN hO
            obtain ⟨v0, v1⟩ := (HQA.out.on hG).cells
            obtain ⟨s0, s1⟩ := (HP28.out.on hG).cells
            obtain ⟨t0, t1⟩ := (HP31.out.on hG).cells
            obtain ⟨x0, x1, x2, x3, x4, x5, x6⟩ := MsgAt.cells (MsgAt.on H24.out hG)
            obtain ⟨y0, y1, y2, y3, y4, y5, y6⟩ := MsgAt.cells (MsgAt.on H26.out hG)
            obtain ⟨z0, z1, z2, z3, z4, z5, z6⟩ := MsgAt.cells (MsgAt.on H29.out hG)
            obtain ⟨u0, u1, u2, u3, u4, u5, u6⟩ := MsgAt.cells (MsgAt.on H32.out hG)
            go_simp
            exact hK.out _ _ (by rw [Vp10, upd_at] <;> (congr 1 <;> omega)) (Below.refl _ _) hG
          case s11_c1 =>
            refine owe_cond (g := 8) (t := 138) (b := false) (c := false) (d := true) true (by first | rfl | simp) rfl (by kernel_rfl) (by kernel_rfl) (by kernel_rfl) (by simp) (fun val w h => by rw [Vp8] at h; first | exact h | simpa using h) (fun hd a wx val hG hV hN hO K hK => ?_) (fun hd val w => by first | exact absurd hd (by decide) | rw [Vp11, upd_at, if_neg (by rw [hd]; decide)])
            have e139 := hN 9 139 (by kernel_rfl) (by kernel_rfl) (by simp)
            have f139 := hV 9 (by kernel_rfl) (by kernel_rfl)
            rw [Vp9] at f139; rw [f139] at e139; clear f139
            have e140 := hN 10 140 (by kernel_rfl) (by kernel_rfl) (by simp)
            have f140 := hV 10 (by kernel_rfl) (by kernel_rfl)
            rw [Vp10] at f140; rw [f140] at e140; clear f140
            clear hV hN hO
            go_simp
            refine (CS.out _ hG).mono ?_
            rintro e w11 ⟨rfl, hb⟩
            exact hK.out _ _ (by rw [Vp11, upd_at]) hb (hG.trans (hb.mono hG.size))
          case s12_c1 =>
            refine owe_cond (g := 8) (t := 138) (b := false) (c := false) (d := true) true (by first | rfl | simp) rfl (by kernel_rfl) (by kernel_rfl) (by kernel_rfl) (by simp) (fun val w h => by rw [Vp8] at h; first | exact h | simpa using h) (fun hd a wx val hG hV hN hO K hK => ?_) (fun hd val w => by first | exact absurd hd (by decide) | rw [Vp12, upd_at, if_neg (by rw [hd]; decide)])
            have e141 := hN 11 141 (by kernel_rfl) (by kernel_rfl) (by simp)
            have f141 := hV 11 (by kernel_rfl) (by kernel_rfl)
            rw [Vp11] at f141; rw [f141] at e141; clear f141
            clear hV hN hO
            go_simp
            exact hK.out _ _ (by rw [Vp12, upd_at] <;> (congr 1 <;> omega)) (Below.refl _ _) hG
          case s13_c1 =>
            refine owe rfl fun a wx val hG hV hN hO K hK => ?_
            have e138 := hN 8 138 (by kernel_rfl) (by kernel_rfl) (by simp)
            have f138 := hV 8 (by kernel_rfl) (by kernel_rfl)
            rw [Vp8] at f138; rw [f138] at e138; clear f138
            have e142 := hN 12 142 (by kernel_rfl) (by kernel_rfl) (by simp)
            have f142 := hV 12 (by kernel_rfl) (by kernel_rfl)
            rw [Vp12] at f142; rw [f142] at e142; clear f142
            clear hV hN hO
            go_simp
            exact hK.out _ _ (by rw [Vp13, upd_at] <;> simp) (Below.refl _ _) hG
          case s14_c1 =>
            refine owe rfl fun a wx val hG hV hN hO K hK => ?_
            have e143 := hN 13 143 (by kernel_rfl) (by kernel_rfl) (by simp)
            have f143 := hV 13 (by kernel_rfl) (by kernel_rfl)
            rw [Vp13] at f143; rw [f143] at e143; clear f143
            clear hV hN hO
            go_simp
            exact hK.out _ _ (by rw [Vp14, upd_at] <;> (congr 1 <;> omega)) (Below.refl _ _) hG
          case s15_c1 =>
            refine owe_cond (g := 14) (t := 144) (b := false) (c := false) (d := true) true (by first | rfl | simp) rfl (by kernel_rfl) (by kernel_rfl) (by kernel_rfl) (by simp) (fun val w h => by rw [Vp14] at h; first | exact h | simpa using h) (fun hd a wx val hG hV hN hO K hK => ?_) (fun hd val w => by first | exact absurd hd (by decide) | rw [Vp15, upd_at, if_neg (by rw [hd]; decide)])
            have e29 : a.tmps[29]? = some (.pointer (some ⟨bH28 + 1, 0, none⟩)) := (hO 29 (by kernel_rfl)).trans (by rfl)
            clear hV hN hO
            obtain ⟨v0, v1⟩ := (HQA.out.on hG).cells
            obtain ⟨s0, s1⟩ := (HP28.out.on hG).cells
            obtain ⟨t0, t1⟩ := (HP31.out.on hG).cells
            obtain ⟨x0, x1, x2, x3, x4, x5, x6⟩ := MsgAt.cells (MsgAt.on H24.out hG)
            obtain ⟨y0, y1, y2, y3, y4, y5, y6⟩ := MsgAt.cells (MsgAt.on H26.out hG)
            obtain ⟨z0, z1, z2, z3, z4, z5, z6⟩ := MsgAt.cells (MsgAt.on H29.out hG)
            obtain ⟨u0, u1, u2, u3, u4, u5, u6⟩ := MsgAt.cells (MsgAt.on H32.out hG)
            go_simp
            exact hK.out _ _ (by rw [Vp15, upd_at] <;> (congr 1 <;> omega)) (Below.refl _ _) hG
          case s16_c1 =>
            refine owe_cond (g := 14) (t := 144) (b := false) (c := false) (d := true) true (by first | rfl | simp) rfl (by kernel_rfl) (by kernel_rfl) (by kernel_rfl) (by simp) (fun val w h => by rw [Vp14] at h; first | exact h | simpa using h) (fun hd a wx val hG hV hN hO K hK => ?_) (fun hd val w => by first | exact absurd hd (by decide) | rw [Vp16, upd_at, if_neg (by rw [hd]; decide)])
            have e32 : a.tmps[32]? = some (.pointer (some ⟨bH31 + 1, 0, none⟩)) := (hO 32 (by kernel_rfl)).trans (by rfl)
            clear hV hN hO
            obtain ⟨v0, v1⟩ := (HQA.out.on hG).cells
            obtain ⟨s0, s1⟩ := (HP28.out.on hG).cells
            obtain ⟨t0, t1⟩ := (HP31.out.on hG).cells
            obtain ⟨x0, x1, x2, x3, x4, x5, x6⟩ := MsgAt.cells (MsgAt.on H24.out hG)
            obtain ⟨y0, y1, y2, y3, y4, y5, y6⟩ := MsgAt.cells (MsgAt.on H26.out hG)
            obtain ⟨z0, z1, z2, z3, z4, z5, z6⟩ := MsgAt.cells (MsgAt.on H29.out hG)
            obtain ⟨u0, u1, u2, u3, u4, u5, u6⟩ := MsgAt.cells (MsgAt.on H32.out hG)
            go_simp
            exact hK.out _ _ (by rw [Vp16, upd_at] <;> (congr 1 <;> omega)) (Below.refl _ _) hG
          case s17_c1 =>
            refine owe_cond (g := 14) (t := 144) (b := false) (c := false) (d := true) true (by first | rfl | simp) rfl (by kernel_rfl) (by kernel_rfl) (by kernel_rfl) (by simp) (fun val w h => by rw [Vp14] at h; first | exact h | simpa using h) (fun hd a wx val hG hV hN hO K hK => ?_) (fun hd val w => by first | exact absurd hd (by decide) | rw [Vp17, upd_at, if_neg (by rw [hd]; decide)])
            have e145 := hN 15 145 (by kernel_rfl) (by kernel_rfl) (by simp)
            have f145 := hV 15 (by kernel_rfl) (by kernel_rfl)
            rw [Vp15] at f145; rw [f145] at e145; clear f145
            have e146 := hN 16 146 (by kernel_rfl) (by kernel_rfl) (by simp)
            have f146 := hV 16 (by kernel_rfl) (by kernel_rfl)
            rw [Vp16] at f146; rw [f146] at e146; clear f146
            clear hV hN hO
            go_simp
            exact hK.out _ _ (by rw [Vp17, upd_at] <;> (congr 1 <;> omega)) (Below.refl _ _) hG
          case s18_c1 =>
            refine owe rfl fun a wx val hG hV hN hO K hK => ?_
            have e144 := hN 14 144 (by kernel_rfl) (by kernel_rfl) (by simp)
            have f144 := hV 14 (by kernel_rfl) (by kernel_rfl)
            rw [Vp14] at f144; rw [f144] at e144; clear f144
            have e147 := hN 17 147 (by kernel_rfl) (by kernel_rfl) (by simp)
            have f147 := hV 17 (by kernel_rfl) (by kernel_rfl)
            rw [Vp17] at f147; rw [f147] at e147; clear f147
            clear hV hN hO
            go_simp
            exact hK.out _ _ (by rw [Vp18, upd_at] <;> simp) (Below.refl _ _) hG
          case s19_c1 =>
            refine owe rfl fun a wx val hG hV hN hO K hK => ?_
            have e148 := hN 18 148 (by kernel_rfl) (by kernel_rfl) (by simp)
            have f148 := hV 18 (by kernel_rfl) (by kernel_rfl)
            rw [Vp18] at f148; rw [f148] at e148; clear f148
            clear hV hN hO
            go_simp
            exact hK.out _ _ (by rw [Vp19, upd_at] <;> (congr 1 <;> omega)) (Below.refl _ _) hG
          case s20_c1 =>
            refine owe_cond (g := 19) (t := 149) (b := false) (c := false) (d := true) true (by first | rfl | simp) rfl (by kernel_rfl) (by kernel_rfl) (by kernel_rfl) (by simp) (fun val w h => by rw [Vp19] at h; first | exact h | simpa using h) (fun hd a wx val hG hV hN hO K hK => ?_) (fun hd val w => by first | exact absurd hd (by decide) | rw [Vp20, upd_at, if_neg (by rw [hd]; decide)])
            have e30 : a.tmps[30]? = some (.int .i64 fe) := (hO 30 (by kernel_rfl)).trans (by rfl)
            clear hV hN hO
            go_simp
            exact hK.out _ _ (by rw [Vp20, upd_at] <;> (congr 1 <;> omega)) (Below.refl _ _) hG
          case s21_c1 =>
            refine owe_cond (g := 19) (t := 149) (b := false) (c := false) (d := true) true (by first | rfl | simp) rfl (by kernel_rfl) (by kernel_rfl) (by kernel_rfl) (by simp) (fun val w h => by rw [Vp19] at h; first | exact h | simpa using h) (fun hd a wx val hG hV hN hO K hK => ?_) (fun hd val w => by first | exact absurd hd (by decide) | rw [Vp21, upd_at, if_neg (by rw [hd]; decide)])
            have e33 : a.tmps[33]? = some (.int .i64 fe) := (hO 33 (by kernel_rfl)).trans (by rfl)
            clear hV hN hO
            go_simp
            exact hK.out _ _ (by rw [Vp21, upd_at] <;> (congr 1 <;> omega)) (Below.refl _ _) hG
          case s22_c1 =>
            refine owe_cond (g := 19) (t := 149) (b := false) (c := false) (d := true) true (by first | rfl | simp) rfl (by kernel_rfl) (by kernel_rfl) (by kernel_rfl) (by simp) (fun val w h => by rw [Vp19] at h; first | exact h | simpa using h) (fun hd a wx val hG hV hN hO K hK => ?_) (fun hd val w => by first | exact absurd hd (by decide) | rw [Vp22, upd_at, if_neg (by rw [hd]; decide)])
            have e150 := hN 20 150 (by kernel_rfl) (by kernel_rfl) (by simp)
            have f150 := hV 20 (by kernel_rfl) (by kernel_rfl)
            rw [Vp20] at f150; rw [f150] at e150; clear f150
            have e151 := hN 21 151 (by kernel_rfl) (by kernel_rfl) (by simp)
            have f151 := hV 21 (by kernel_rfl) (by kernel_rfl)
            rw [Vp21] at f151; rw [f151] at e151; clear f151
            clear hV hN hO
            go_simp
            exact hK.out _ _ (by rw [Vp22, upd_at] <;> (congr 1 <;> omega)) (Below.refl _ _) hG
          case s23_c1 =>
            refine owe rfl fun a wx val hG hV hN hO K hK => ?_
            have e149 := hN 19 149 (by kernel_rfl) (by kernel_rfl) (by simp)
            have f149 := hV 19 (by kernel_rfl) (by kernel_rfl)
            rw [Vp19] at f149; rw [f149] at e149; clear f149
            have e152 := hN 22 152 (by kernel_rfl) (by kernel_rfl) (by simp)
            have f152 := hV 22 (by kernel_rfl) (by kernel_rfl)
            rw [Vp22] at f152; rw [f152] at e152; clear f152
            clear hV hN hO
            go_simp
            exact hK.out _ _ (by rw [Vp23, upd_at] <;> simp) (Below.refl _ _) hG
          case s24_c1 =>
            refine owe rfl fun a wx val hG hV hN hO K hK => ?_
            have e153 := hN 23 153 (by kernel_rfl) (by kernel_rfl) (by simp)
            have f153 := hV 23 (by kernel_rfl) (by kernel_rfl)
            rw [Vp23] at f153; rw [f153] at e153; clear f153
            clear hV hN hO
            go_simp
            exact hK.out _ _ (by rw [Vp24, upd_at] <;> (congr 1 <;> omega)) (Below.refl _ _) hG
          case s25_c1 =>
            refine owe_cond (g := 24) (t := 154) (b := false) (c := false) (d := true) true (by first | rfl | simp) rfl (by kernel_rfl) (by kernel_rfl) (by kernel_rfl) (by simp) (fun val w h => by rw [Vp24] at h; first | exact h | simpa using h) (fun hd a wx val hG hV hN hO K hK => ?_) (fun hd val w => by first | exact absurd hd (by decide) | rw [Vp25, upd_at, if_neg (by rw [hd]; decide)])
            have e23 : a.tmps[23]? = some (.pointer (some ⟨b23, 0, none⟩)) := (hO 23 (by kernel_rfl)).trans (by rfl)
            clear hV hN hO
            obtain ⟨v0, v1⟩ := (HQA.out.on hG).cells
            obtain ⟨s0, s1⟩ := (HP28.out.on hG).cells
            obtain ⟨t0, t1⟩ := (HP31.out.on hG).cells
            obtain ⟨x0, x1, x2, x3, x4, x5, x6⟩ := MsgAt.cells (MsgAt.on H24.out hG)
            obtain ⟨y0, y1, y2, y3, y4, y5, y6⟩ := MsgAt.cells (MsgAt.on H26.out hG)
            obtain ⟨z0, z1, z2, z3, z4, z5, z6⟩ := MsgAt.cells (MsgAt.on H29.out hG)
            obtain ⟨u0, u1, u2, u3, u4, u5, u6⟩ := MsgAt.cells (MsgAt.on H32.out hG)
            go_simp
            exact hK.out _ _ (by rw [Vp25, upd_at] <;> (congr 1 <;> omega)) (Below.refl _ _) hG
          case s26_c1 =>
            refine owe_cond (g := 24) (t := 154) (b := false) (c := false) (d := true) true (by first | rfl | simp) rfl (by kernel_rfl) (by kernel_rfl) (by kernel_rfl) (by simp) (fun val w h => by rw [Vp24] at h; first | exact h | simpa using h) (fun hd a wx val hG hV hN hO K hK => ?_) (fun hd val w => by first | exact absurd hd (by decide) | rw [Vp26, upd_at, if_neg (by rw [hd]; decide)])
            have e155 := hN 25 155 (by kernel_rfl) (by kernel_rfl) (by simp)
            have f155 := hV 25 (by kernel_rfl) (by kernel_rfl)
            rw [Vp25] at f155; rw [f155] at e155; clear f155
            clear hV hN hO
            go_simp
            refine (C1.out _ hG).mono ?_
            rintro e w11 ⟨rfl, hb⟩
            exact hK.out _ _ (by rw [Vp26, upd_at]) hb (hG.trans (hb.mono hG.size))
          case s27_c1 =>
            refine owe_cond (g := 24) (t := 154) (b := false) (c := false) (d := true) true (by first | rfl | simp) rfl (by kernel_rfl) (by kernel_rfl) (by kernel_rfl) (by simp) (fun val w h => by rw [Vp24] at h; first | exact h | simpa using h) (fun hd a wx val hG hV hN hO K hK => ?_) (fun hd val w => by first | exact absurd hd (by decide) | rw [Vp27, upd_at, if_neg (by rw [hd]; decide)])
            have e23 : a.tmps[23]? = some (.pointer (some ⟨b23, 0, none⟩)) := (hO 23 (by kernel_rfl)).trans (by rfl)
            clear hV hN hO
            obtain ⟨v0, v1⟩ := (HQA.out.on hG).cells
            obtain ⟨s0, s1⟩ := (HP28.out.on hG).cells
            obtain ⟨t0, t1⟩ := (HP31.out.on hG).cells
            obtain ⟨x0, x1, x2, x3, x4, x5, x6⟩ := MsgAt.cells (MsgAt.on H24.out hG)
            obtain ⟨y0, y1, y2, y3, y4, y5, y6⟩ := MsgAt.cells (MsgAt.on H26.out hG)
            obtain ⟨z0, z1, z2, z3, z4, z5, z6⟩ := MsgAt.cells (MsgAt.on H29.out hG)
            obtain ⟨u0, u1, u2, u3, u4, u5, u6⟩ := MsgAt.cells (MsgAt.on H32.out hG)
            go_simp
            exact hK.out _ _ (by rw [Vp27, upd_at] <;> (congr 1 <;> omega)) (Below.refl _ _) hG
          case s28_c1 =>
            refine owe_cond (g := 24) (t := 154) (b := false) (c := false) (d := true) true (by first | rfl | simp) rfl (by kernel_rfl) (by kernel_rfl) (by kernel_rfl) (by simp) (fun val w h => by rw [Vp24] at h; first | exact h | simpa using h) (fun hd a wx val hG hV hN hO K hK => ?_) (fun hd val w => by first | exact absurd hd (by decide) | rw [Vp28, upd_at, if_neg (by rw [hd]; decide)])
            have e157 := hN 27 157 (by kernel_rfl) (by kernel_rfl) (by simp)
            have f157 := hV 27 (by kernel_rfl) (by kernel_rfl)
            rw [Vp27] at f157; rw [f157] at e157; clear f157
            clear hV hN hO
            go_simp
            refine (C2.out _ hG).mono ?_
            rintro e w11 ⟨rfl, hb⟩
            exact hK.out _ _ (by rw [Vp28, upd_at]) hb (hG.trans (hb.mono hG.size))
          case s29_c1 =>
            refine owe_cond (g := 24) (t := 154) (b := false) (c := false) (d := true) true (by first | rfl | simp) rfl (by kernel_rfl) (by kernel_rfl) (by kernel_rfl) (by simp) (fun val w h => by rw [Vp24] at h; first | exact h | simpa using h) (fun hd a wx val hG hV hN hO K hK => ?_) (fun hd val w => by first | exact absurd hd (by decide) | rw [Vp29, upd_at, if_neg (by rw [hd]; decide)])
            have e156 := hN 26 156 (by kernel_rfl) (by kernel_rfl) (by simp)
            have f156 := hV 26 (by kernel_rfl) (by kernel_rfl)
            rw [Vp26] at f156; rw [f156] at e156; clear f156
            have e158 := hN 28 158 (by kernel_rfl) (by kernel_rfl) (by simp)
            have f158 := hV 28 (by kernel_rfl) (by kernel_rfl)
            rw [Vp28] at f158; rw [f158] at e158; clear f158
            clear hV hN hO
            go_simp
            exact hK.out _ _ (by rw [Vp29, upd_at] <;> (congr 1 <;> omega)) (Below.refl _ _) hG
          case s30_c1 =>
            refine owe rfl fun a wx val hG hV hN hO K hK => ?_
            have e154 := hN 24 154 (by kernel_rfl) (by kernel_rfl) (by simp)
            have f154 := hV 24 (by kernel_rfl) (by kernel_rfl)
            rw [Vp24] at f154; rw [f154] at e154; clear f154
            have e159 := hN 29 159 (by kernel_rfl) (by kernel_rfl) (by simp)
            have f159 := hV 29 (by kernel_rfl) (by kernel_rfl)
            rw [Vp29] at f159; rw [f159] at e159; clear f159
            clear hV hN hO
            go_simp
            exact hK.out _ _ (by rw [Vp30, upd_at] <;> simp) (Below.refl _ _) hG
          intro val wx hG hV
          have f0 := hV 0 (by simp) (fun _ _ => by rfl)
          rw [Vp0] at f0
          have f1 := hV 1 (by simp) (fun _ _ => by rfl)
          rw [Vp1] at f1
          have f2 := hV 2 (by simp) (fun _ _ => by rfl)
          rw [Vp2] at f2
          have f3 := hV 3 (by simp) (fun _ _ => by rfl)
          rw [Vp3] at f3
          have f4 := hV 4 (by simp) (fun _ _ => by rfl)
          rw [Vp4] at f4
          have f5 := hV 5 (by simp) (fun _ _ => by rfl)
          rw [Vp5] at f5
          have f6 := hV 6 (by simp) (fun _ _ => by rfl)
          rw [Vp6] at f6
          have f7 := hV 7 (by simp) (fun _ _ => by rfl)
          rw [Vp7] at f7
          have f8 := hV 8 (by simp) (fun _ _ => by rfl)
          rw [Vp8] at f8
          have f9 := hV 9 (by simp) (fun _ _ => by rfl)
          rw [Vp9] at f9
          have f10 := hV 10 (by simp) (fun _ _ => by rfl)
          rw [Vp10] at f10
          have f11 := hV 11 (by simp) (fun _ _ => by rfl)
          rw [Vp11] at f11
          have f12 := hV 12 (by simp) (fun _ _ => by rfl)
          rw [Vp12] at f12
          have f13 := hV 13 (by simp) (fun _ _ => by rfl)
          rw [Vp13] at f13
          have f14 := hV 14 (by simp) (fun _ _ => by rfl)
          rw [Vp14] at f14
          have f15 := hV 15 (by simp) (fun _ _ => by rfl)
          rw [Vp15] at f15
          have f16 := hV 16 (by simp) (fun _ _ => by rfl)
          rw [Vp16] at f16
          have f17 := hV 17 (by simp) (fun _ _ => by rfl)
          rw [Vp17] at f17
          have f18 := hV 18 (by simp) (fun _ _ => by rfl)
          rw [Vp18] at f18
          have f19 := hV 19 (by simp) (fun _ _ => by rfl)
          rw [Vp19] at f19
          have f20 := hV 20 (by simp) (fun _ _ => by rfl)
          rw [Vp20] at f20
          have f21 := hV 21 (by simp) (fun _ _ => by rfl)
          rw [Vp21] at f21
          have f22 := hV 22 (by simp) (fun _ _ => by rfl)
          rw [Vp22] at f22
          have f23 := hV 23 (by simp) (fun _ _ => by rfl)
          rw [Vp23] at f23
          have f24 := hV 24 (by simp) (fun _ _ => by rfl)
          rw [Vp24] at f24
          have f25 := hV 25 (by simp) (fun _ _ => by rfl)
          rw [Vp25] at f25
          have f26 := hV 26 (by simp) (fun _ _ => by rfl)
          rw [Vp26] at f26
          have f27 := hV 27 (by simp) (fun _ _ => by rfl)
          rw [Vp27] at f27
          have f28 := hV 28 (by simp) (fun _ _ => by rfl)
          rw [Vp28] at f28
          have f29 := hV 29 (by simp) (fun _ _ => by rfl)
          rw [Vp29] at f29
          have f30 := hV 30 (by simp) (fun _ _ => by rfl)
          rw [Vp30] at f30
          clear hV Vp0 Vp1 Vp2 Vp3 Vp4 Vp5 Vp6 Vp7 Vp8 Vp9 Vp10 Vp11 Vp12 Vp13 Vp14 Vp15 Vp16 Vp17 Vp18 Vp19 Vp20 Vp21 Vp22 Vp23 Vp24 Vp25 Vp26 Vp27 Vp28 Vp29 Vp30
          simp only [putAll, Act.put, List.setIfInBounds_toArray, List.set_cons_zero, List.set_cons_succ]
          generalize val 0 = z0 at *; (subst f0)
          generalize val 1 = z1 at *; (subst f1)
          generalize val 2 = z2 at *; (subst f2)
          generalize val 3 = z3 at *; (subst f3)
          generalize val 4 = z4 at *; (subst f4)
          generalize val 5 = z5 at *; (subst f5)
          generalize val 6 = z6 at *; (subst f6)
          generalize val 7 = z7 at *; (subst f7)
          generalize val 8 = z8 at *; (subst f8)
          generalize val 9 = z9 at *; (subst f9)
          generalize val 10 = z10 at *; (subst f10)
          generalize val 11 = z11 at *; (subst f11)
          generalize val 12 = z12 at *; (subst f12)
          generalize val 13 = z13 at *; (subst f13)
          generalize val 14 = z14 at *; (subst f14)
          generalize val 15 = z15 at *; (subst f15)
          generalize val 16 = z16 at *; (subst f16)
          generalize val 17 = z17 at *; (subst f17)
          generalize val 18 = z18 at *; (subst f18)
          generalize val 19 = z19 at *; (subst f19)
          generalize val 20 = z20 at *; (subst f20)
          generalize val 21 = z21 at *; (subst f21)
          generalize val 22 = z22 at *; (subst f22)
          generalize val 23 = z23 at *; (subst f23)
          generalize val 24 = z24 at *; (subst f24)
          generalize val 25 = z25 at *; (subst f25)
          generalize val 26 = z26 at *; (subst f26)
          generalize val 27 = z27 at *; (subst f27)
          generalize val 28 = z28 at *; (subst f28)
          generalize val 29 = z29 at *; (subst f29)
          generalize val 30 = z30 at *; (subst f30)
          clear HVD
          have H231 := Lib.hid (QPair.on H23.out hG); clear H23; have H23 := H231; clear H231
          have H281 := Lib.hid (QPair.on H28.out hG); clear H28; have H28 := H281; clear H281
          have H311 := Lib.hid (QPair.on H31.out hG); clear H31; have H31 := H311; clear H311
          have H101 := Lib.hid (MsgAt.on H10.out hG); clear H10; have H10 := H101; clear H101
          have H241 := Lib.hid (MsgAt.on H24.out hG); clear H24; have H24 := H241; clear H241
          have H261 := Lib.hid (MsgAt.on H26.out hG); clear H26; have H26 := H261; clear H261
          have H291 := Lib.hid (MsgAt.on H29.out hG); clear H29; have H29 := H291; clear H291
          have H321 := Lib.hid (MsgAt.on H32.out hG); clear H32; have H32 := H321; clear H321
          have HB1 := Lib.hid (HB.out.trans (hG.mono HB.out.size)); clear HB; have HB := HB1; clear HB1
          have HEL1 := Lib.hid (fun k hk => Elem.on (HEL.out k hk) hG); clear HEL; have HEL := HEL1; clear HEL1
          have HRB1 := Lib.hid (RawAt.on HRB.out hG); clear HRB; have HRB := HRB1; clear HRB1
          clear hG CS C1 C2 HQA HP28 HP31 hEG hNE HSAM
          generalize hX : wx = X25 at *
          clear hX
          go_upto_region 25 with (fail)
          clear H24 H26 H28 H29 H31 H32 HFE
          have CN1 : Hid (∀ W, Calls Tryd.prog 42 #[rv ⟨r0, r1, r2, r3, r4, r5⟩, .int .i64 (1 + pn)] W fun e w' => e = .returned (mv (numM ⟨r0, r1, r2, r3, r4, r5⟩ (1 + pn))) ∧ Below W.heap.size W w') := Lib.hid (fun W => numM_any _ HWF.out _ W)
          have CN2 : Hid (∀ W, Calls Tryd.prog 42 #[rv ⟨r0, r1, r2, r3, r4, r5⟩, .int .i64 100] W fun e w' => e = .returned (mv (numM ⟨r0, r1, r2, r3, r4, r5⟩ 100)) ∧ Below W.heap.size W w') := Lib.hid (fun W => numM_any _ HWF.out _ W)
          have HDA : Hid ((numM ⟨r0, r1, r2, r3, r4, r5⟩ (1 + pn)).data.size ≤ 140737488351232 ∧ (numM ⟨r0, r1, r2, r3, r4, r5⟩ 100).data.size ≤ 140737488351232) := Lib.hid ⟨numM_data _ _, numM_data _ _⟩
          generalize numM ⟨r0, r1, r2, r3, r4, r5⟩ (1 + pn) = ma at *
          generalize numM ⟨r0, r1, r2, r3, r4, r5⟩ 100 = mb at *
          obtain ⟨ve, vn, vs, vj, vq, vk, vd⟩ := ma
          obtain ⟨ne, nn, ns, nj, nq, nk, nd⟩ := mb
          simp only [mv, rv] at CN1 CN2
          simp only at HDA
          have HV : ∃ Vp : Nat → (Nat → Value) → World → Prop, Vp = (fun ix u wv => match ix with
            | 0 => u 0 = .agg #[.bool me, .int .i64 mn, .int .i64 ms, .int .i64 mj, .int .i64 mq, .int .i64 mk, .string md]
            | 1 => u 1 = .agg #[.int .i64 r0, .int .i64 r1, .int .i64 r2, .int .i64 r3, .int .i64 r4, .int .i64 r5]
            | 2 => u 2 = .int .i64 num
            | 3 => u 3 = .int .i64 pn
            | 4 => u 4 = .int .i64 (1 + pn)
            | 5 => u 5 = .agg #[.bool ve, .int .i64 vn, .int .i64 vs, .int .i64 vj, .int .i64 vq, .int .i64 vk, .string vd]
            | 6 => u 6 = .agg #[.int .i64 r0, .int .i64 r1, .int .i64 r2, .int .i64 r3, .int .i64 r4, .int .i64 r5]
            | 7 => u 7 = .agg #[.bool ne, .int .i64 nn, .int .i64 ns, .int .i64 nj, .int .i64 nq, .int .i64 nk, .string nd]
            | 8 => ∃ g, u 8 = .slice (some ⟨g, 0, none⟩) 3 3 ∧ BlkM wv g [⟨me, mn, ms, mj, mq, mk, md⟩, ⟨ve, vn, vs, vj, vq, vk, vd⟩, ⟨ne, nn, ns, nj, nq, nk, nd⟩]
            | 9 => u 9 = .int .i64 3
            | 10 => u 10 = .int .i64 0
            | _ => True) := ⟨_, rfl⟩
          obtain ⟨Vp, hVdef⟩ := HV
          have Vp0 : ∀ u wv, Vp 0 u wv = (u 0 = .agg #[.bool me, .int .i64 mn, .int .i64 ms, .int .i64 mj, .int .i64 mq, .int .i64 mk, .string md]) := fun u wv => by subst hVdef; rfl
          have Vp1 : ∀ u wv, Vp 1 u wv = (u 1 = .agg #[.int .i64 r0, .int .i64 r1, .int .i64 r2, .int .i64 r3, .int .i64 r4, .int .i64 r5]) := fun u wv => by subst hVdef; rfl
          have Vp2 : ∀ u wv, Vp 2 u wv = (u 2 = .int .i64 num) := fun u wv => by subst hVdef; rfl
          have Vp3 : ∀ u wv, Vp 3 u wv = (u 3 = .int .i64 pn) := fun u wv => by subst hVdef; rfl
          have Vp4 : ∀ u wv, Vp 4 u wv = (u 4 = .int .i64 (1 + pn)) := fun u wv => by subst hVdef; rfl
          have Vp5 : ∀ u wv, Vp 5 u wv = (u 5 = .agg #[.bool ve, .int .i64 vn, .int .i64 vs, .int .i64 vj, .int .i64 vq, .int .i64 vk, .string vd]) := fun u wv => by subst hVdef; rfl
          have Vp6 : ∀ u wv, Vp 6 u wv = (u 6 = .agg #[.int .i64 r0, .int .i64 r1, .int .i64 r2, .int .i64 r3, .int .i64 r4, .int .i64 r5]) := fun u wv => by subst hVdef; rfl
          have Vp7 : ∀ u wv, Vp 7 u wv = (u 7 = .agg #[.bool ne, .int .i64 nn, .int .i64 ns, .int .i64 nj, .int .i64 nq, .int .i64 nk, .string nd]) := fun u wv => by subst hVdef; rfl
          have Vp8 : ∀ u wv, Vp 8 u wv = (∃ g, u 8 = .slice (some ⟨g, 0, none⟩) 3 3 ∧ BlkM wv g [⟨me, mn, ms, mj, mq, mk, md⟩, ⟨ve, vn, vs, vj, vq, vk, vd⟩, ⟨ne, nn, ns, nj, nq, nk, nd⟩]) := fun u wv => by subst hVdef; rfl
          have Vp9 : ∀ u wv, Vp 9 u wv = (u 9 = .int .i64 3) := fun u wv => by subst hVdef; rfl
          have Vp10 : ∀ u wv, Vp 10 u wv = (u 10 = .int .i64 0) := fun u wv => by subst hVdef; rfl
          have HVD := Lib.hid hVdef
          clear hVdef
          refine region_phase (V := Vp) (drop := fun _ _ => false) (G := fun L wv => Below X25.heap.size X25 wv) (Rel := fun jx wv wv' => Below wv.heap.size wv wv') (by kernel_rfl) (by kernel_rfl) (Below.refl _ _).drew ?hmonop2 ?hdepp2 ⟨?s0_p2, ?s1_p2, ?s2_p2, ?s3_p2, ?s4_p2, ?s5_p2, ?s6_p2, ?s7_p2, ?s8_p2, ?s9_p2, ?s10_p2, trivial⟩ ?behindp2
          case hmonop2 =>
            intro ix jx u wv wv' hij hw hd hr
            rw [HVD.out]
            dsimp only
            split <;> intro h <;> first | exact trivial | exact h | (have hb := hr; first | (obtain ⟨g, e, hg⟩ := h; exact ⟨g, e, hg.on hr⟩))
          case hdepp2 =>
            intro ix u u' wv h1 h2
            rw [HVD.out]
            dsimp only
            split <;> intro h <;> first | exact trivial | (rw [← h1]; exact h) | exact h
          case s0_p2 =>
            refine oweP rfl fun a wx val L hG hi hW hV hN hO K hK => ?_
            have e10 : a.tmps[10]? = some (.pointer (some ⟨w.heap.size + 1, 0, none⟩)) := (hO 10 (by kernel_rfl)).trans (by rfl)
            clear hV hN hO
            obtain ⟨x0, x1, x2, x3, x4, x5, x6⟩ := MsgAt.cells (MsgAt.on H10.out hG)
            go_simp
            exact hK.out _ _ (by rw [Vp0, upd_at] <;> (congr 1 <;> omega)) (Below.refl _ _) (hG)
          case s1_p2 =>
            refine oweP rfl fun a wx val L hG hi hW hV hN hO K hK => ?_
            have e9 : a.tmps[9]? = some (.pointer (some ⟨w.heap.size, 0, none⟩)) := (hO 9 (by kernel_rfl)).trans (by rfl)
            clear hV hN hO
            obtain ⟨x0, x1, x2, x3, x4, x5⟩ := RawAt.cells (RawAt.on HRB.out hG)
            go_simp
            exact hK.out _ _ (by rw [Vp1, upd_at] <;> (congr 1 <;> omega)) (Below.refl _ _) (hG)
          case s2_p2 =>
            refine oweP rfl fun a wx val L hG hi hW hV hN hO K hK => ?_
            have e6 : a.tmps[6]? = some (.int .i64 num) := (hO 6 (by kernel_rfl)).trans (by rfl)
            clear hV hN hO
            go_simp
            exact hK.out _ _ (by rw [Vp2, upd_at] <;> (congr 1 <;> omega)) (Below.refl _ _) (hG)
          case s3_p2 =>
            refine oweP rfl fun a wx val L hG hi hW hV hN hO K hK => ?_
            have e163 := hN 2 163 (by kernel_rfl) (by kernel_rfl) (by simp)
            have f163 := hV 2 (by kernel_rfl) (by kernel_rfl)
            rw [Vp2] at f163; rw [f163] at e163; clear f163
            clear hV hN hO
            go_simp
            refine (HPN.out _).mono ?_
            rintro e w11 ⟨rfl, rfl⟩
            exact hK.out _ _ (by rw [Vp3, upd_at]) (Below.refl _ _) (hG)
          case s4_p2 =>
            refine oweP rfl fun a wx val L hG hi hW hV hN hO K hK => ?_
            have e164 := hN 3 164 (by kernel_rfl) (by kernel_rfl) (by simp)
            have f164 := hV 3 (by kernel_rfl) (by kernel_rfl)
            rw [Vp3] at f164; rw [f164] at e164; clear f164
            clear hV hN hO
            have hw9 : IntKind.i64.wrap (1 + pn) = 1 + pn := IntWalk.i64_in _ (by omega)
            go_simp
            exact hK.out _ _ (by rw [Vp4, upd_at] <;> (congr 1 <;> omega)) (Below.refl _ _) (hG)
          case s5_p2 =>
            refine oweP rfl fun a wx val L hG hi hW hV hN hO K hK => ?_
            have e162 := hN 1 162 (by kernel_rfl) (by kernel_rfl) (by simp)
            have f162 := hV 1 (by kernel_rfl) (by kernel_rfl)
            rw [Vp1] at f162; rw [f162] at e162; clear f162
            have e165 := hN 4 165 (by kernel_rfl) (by kernel_rfl) (by simp)
            have f165 := hV 4 (by kernel_rfl) (by kernel_rfl)
            rw [Vp4] at f165; rw [f165] at e165; clear f165
            clear hV hN hO
            go_simp
            refine (CN1.out _).mono ?_
            rintro e w11 ⟨rfl, hb⟩
            exact hK.out _ _ (by rw [Vp5, upd_at]) (hb) (hG.trans (hb.mono hG.size))
          case s6_p2 =>
            refine oweP rfl fun a wx val L hG hi hW hV hN hO K hK => ?_
            have e9 : a.tmps[9]? = some (.pointer (some ⟨w.heap.size, 0, none⟩)) := (hO 9 (by kernel_rfl)).trans (by rfl)
            clear hV hN hO
            obtain ⟨x0, x1, x2, x3, x4, x5⟩ := RawAt.cells (RawAt.on HRB.out hG)
            go_simp
            exact hK.out _ _ (by rw [Vp6, upd_at] <;> (congr 1 <;> omega)) (Below.refl _ _) (hG)
          case s7_p2 =>
            refine oweP rfl fun a wx val L hG hi hW hV hN hO K hK => ?_
            have e167 := hN 6 167 (by kernel_rfl) (by kernel_rfl) (by simp)
            have f167 := hV 6 (by kernel_rfl) (by kernel_rfl)
            rw [Vp6] at f167; rw [f167] at e167; clear f167
            clear hV hN hO
            go_simp
            refine (CN2.out _).mono ?_
            rintro e w11 ⟨rfl, hb⟩
            exact hK.out _ _ (by rw [Vp7, upd_at]) (hb) (hG.trans (hb.mono hG.size))
          case s8_p2 =>
            refine oweP rfl fun a wx val L hG hi hW hV hN hO K hK => ?_
            have e161 := hN 0 161 (by kernel_rfl) (by kernel_rfl) (by simp)
            have f161 := hV 0 (by kernel_rfl) (by kernel_rfl)
            rw [Vp0] at f161; rw [f161] at e161; clear f161
            have e166 := hN 5 166 (by kernel_rfl) (by kernel_rfl) (by simp)
            have f166 := hV 5 (by kernel_rfl) (by kernel_rfl)
            rw [Vp5] at f166; rw [f166] at e166; clear f166
            have e168 := hN 7 168 (by kernel_rfl) (by kernel_rfl) (by simp)
            have f168 := hV 7 (by kernel_rfl) (by kernel_rfl)
            rw [Vp7] at f168; rw [f168] at e168; clear f168
            clear hV hN hO
            go_simp
            have hb := Joins.below_alloc1 wx (.cells (lcl [⟨me, mn, ms, mj, mq, mk, md⟩, ⟨ve, vn, vs, vj, vq, vk, vd⟩, ⟨ne, nn, ns, nj, nq, nk, nd⟩]).toArray 26)
            exact hK.out _ _ (by rw [Vp8, upd_at]; exact ⟨_, rfl, heap_alloc_new wx (.cells (lcl [⟨me, mn, ms, mj, mq, mk, md⟩, ⟨ve, vn, vs, vj, vq, vk, vd⟩, ⟨ne, nn, ns, nj, nq, nk, nd⟩]).toArray 26)⟩) hb (hG.trans (hb.mono hG.size))
          case s9_p2 =>
            refine oweP rfl fun a wx val L hG hi hW hV hN hO K hK => ?_
            have e169 := hN 8 169 (by kernel_rfl) (by kernel_rfl) (by simp)
            have f169 := hV 8 (by kernel_rfl) (by kernel_rfl)
            rw [Vp8] at f169; obtain ⟨g, hv, hgg⟩ := f169; rw [hv] at e169
            clear hV hN hO
            go_simp
            exact hK.out _ _ (by rw [Vp9, upd_at] <;> (congr 1 <;> omega)) (Below.refl _ _) (hG)
          case s10_p2 =>
            refine oweP rfl fun a wx val L hG hi hW hV hN hO K hK => ?_
            clear hV hN hO
            go_simp
            exact hK.out _ _ (by rw [Vp10, upd_at] <;> (congr 1 <;> omega)) (Below.refl _ _) (hG)
          intro val wx L hG hV
          have f0 := hV 0 (by simp) (fun _ _ => by simp)
          rw [Vp0] at f0
          have f1 := hV 1 (by simp) (fun _ _ => by simp)
          rw [Vp1] at f1
          have f2 := hV 2 (by simp) (fun _ _ => by simp)
          rw [Vp2] at f2
          have f3 := hV 3 (by simp) (fun _ _ => by simp)
          rw [Vp3] at f3
          have f4 := hV 4 (by simp) (fun _ _ => by simp)
          rw [Vp4] at f4
          have f5 := hV 5 (by simp) (fun _ _ => by simp)
          rw [Vp5] at f5
          have f6 := hV 6 (by simp) (fun _ _ => by simp)
          rw [Vp6] at f6
          have f7 := hV 7 (by simp) (fun _ _ => by simp)
          rw [Vp7] at f7
          have f8 := hV 8 (by simp) (fun _ _ => by simp)
          rw [Vp8] at f8
          have f9 := hV 9 (by simp) (fun _ _ => by simp)
          rw [Vp9] at f9
          have f10 := hV 10 (by simp) (fun _ _ => by simp)
          rw [Vp10] at f10
          clear hV Vp0 Vp1 Vp2 Vp3 Vp4 Vp5 Vp6 Vp7 Vp8 Vp9 Vp10
          simp only [putAll, Act.put, List.setIfInBounds_toArray, List.set_cons_zero, List.set_cons_succ]
          generalize val 0 = z0 at *; (subst f0)
          generalize val 1 = z1 at *; (subst f1)
          generalize val 2 = z2 at *; (subst f2)
          generalize val 3 = z3 at *; (subst f3)
          generalize val 4 = z4 at *; (subst f4)
          generalize val 5 = z5 at *; (subst f5)
          generalize val 6 = z6 at *; (subst f6)
          generalize val 7 = z7 at *; (subst f7)
          generalize val 8 = z8 at *
          generalize val 9 = z9 at *; (subst f9)
          generalize val 10 = z10 at *; (subst f10)
          clear HVD
          obtain ⟨gm, hzm, hgm⟩ := f8
          subst hzm
          have HBM := Lib.hid hgm
          have H231 := Lib.hid (QPair.on H23.out hG); clear H23; have H23 := H231; clear H231
          have H101 := Lib.hid (MsgAt.on H10.out hG); clear H10; have H10 := H101; clear H101
          have HB1 := Lib.hid (HB.out.trans (hG.mono HB.out.size)); clear HB; have HB := HB1; clear HB1
          have HEL1 := Lib.hid (fun k hk => Elem.on (HEL.out k hk) hG); clear HEL; have HEL := HEL1; clear HEL1
          have HRB1 := Lib.hid (RawAt.on HRB.out hG); clear HRB; have HRB := HRB1; clear HRB1
          clear hG hgm CN1 CN2
          generalize hX : wx = X26 at *
          clear hX
          go_wp2_with fail
          go_loopw [171] (fun i wr => ∃ j : Nat, j ≤ 3 ∧ i = .int .i64 j ∧ Below X26.heap.size X26 wr) (fun i _ => 3 - (intOf i).toNat)
          case atStart => exact ⟨0, by omega, rfl, Below.refl _ _⟩
          case round =>
            obtain ⟨j, hj3, rfl, hG⟩ := hrel
            have HGI : Hid (Below X26.heap.size X26 X26) := Lib.hid (Below.refl _ _)
            have H231 := Lib.hid (QPair.on H23.out hG); clear H23; have H23 := H231; clear H231
            have H101 := Lib.hid (MsgAt.on H10.out hG); clear H10; have H10 := H101; clear H101
            have HB1 := Lib.hid (HB.out.trans (hG.mono HB.out.size)); clear HB; have HB := HB1; clear HB1
            have HGI1 := Lib.hid (HGI.out.trans (hG.mono HGI.out.size)); clear HGI; have HGI := HGI1; clear HGI1
            have HEL1 := Lib.hid (fun k hk => Elem.on (HEL.out k hk) hG); clear HEL; have HEL := HEL1; clear HEL1
            have HRB1 := Lib.hid (RawAt.on HRB.out hG); clear HRB; have HRB := HRB1; clear HRB1
            have HBM1 := Lib.hid (BlkM.on HBM.out hG); clear HBM; have HBM := HBM1; clear HBM1
            clear hG
            by_cases hjt : j < 3
            · have hjI : (j : Int) < 3 := by omega
              obtain ⟨p, hp⟩ : ∃ p, ([⟨me, mn, ms, mj, mq, mk, md⟩, ⟨ve, vn, vs, vj, vq, vk, vd⟩, ⟨ne, nn, ns, nj, nq, nk, nd⟩] : List Msg)[j]? = some p := ⟨_, List.getElem?_eq_getElem hjt⟩
              have hpd : p.data.size ≤ 140737488351232 := by
                have h9 := List.mem_of_getElem? hp
                simp only [List.mem_cons, List.not_mem_nil, or_false] at h9
                rcases h9 with h9 | h9 | h9
                · rw [h9]; show md.size ≤ _; omega
                · rw [h9]; exact HDA.out.1
                · rw [h9]; exact HDA.out.2
              have HPD := Lib.hid hpd
              obtain ⟨x0, x1, x2, x3, x4, x5, x6⟩ := HBM.out.at7 hp
              have hof : ((⟨gm, 0, none⟩ : Addr).add (j * 7)) = ⟨gm, j * 7, none⟩ := add00 gm (j * 7)
              rw [hof] at x0 x1 x2 x3 x4 x5 x6
              clear hof hp hpd
              obtain ⟨pe, pm, ps, pj, pq, pk, pd⟩ := p
              simp only at x0 x1 x2 x3 x4 x5 x6
              have hbm := Joins.below_alloc1 wr (.cells #[.bool pe, .int .i64 pm, .int .i64 ps, .int .i64 pj, .int .i64 pq, .int .i64 pk, .string pd] 26)
              have H35 : Hid (MsgAt _ _ ⟨pe, pm, ps, pj, pq, pk, pd⟩) := Lib.hid (MsgAt.new wr ⟨pe, pm, ps, pj, pq, pk, pd⟩)
              have hG := hbm
              have H231 := Lib.hid (QPair.on H23.out hG); clear H23; have H23 := H231; clear H231
              have H101 := Lib.hid (MsgAt.on H10.out hG); clear H10; have H10 := H101; clear H101
              have HB1 := Lib.hid (HB.out.trans (hG.mono HB.out.size)); clear HB; have HB := HB1; clear HB1
              have HGI1 := Lib.hid (HGI.out.trans (hG.mono HGI.out.size)); clear HGI; have HGI := HGI1; clear HGI1
              have HEL1 := Lib.hid (fun k hk => Elem.on (HEL.out k hk) hG); clear HEL; have HEL := HEL1; clear HEL1
              have HRB1 := Lib.hid (RawAt.on HRB.out hG); clear HRB; have HRB := HRB1; clear HRB1
              have HBM1 := Lib.hid (BlkM.on HBM.out hG); clear HBM; have HBM := HBM1; clear HBM1
              simp only [mc] at H35
              clear hG hbm
              go_upto_region 28 with (fail)
              clear x0 x1 x2 x3 x4 x5 x6
              generalize hX : wr.alloc (.cells #[.bool pe, .int .i64 pm, .int .i64 ps, .int .i64 pj, .int .i64 pq, .int .i64 pk, .string pd] 26) = X28 at *
              clear hX
              generalize wr.heap.size = b35 at *
              obtain ⟨pf, hpf⟩ : ∃ pf, putE LZ lz ⟨pe, pm, ps, pj, pq, pk, pd⟩ = pf := ⟨_, rfl⟩
              obtain ⟨pl, hpl⟩ : ∃ pl, putL LZ lz ⟨pe, pm, ps, pj, pq, pk, pd⟩ = pl := ⟨_, rfl⟩
              have HPF := Lib.hid (And.intro hpf hpl)
              clear hpf hpl
              obtain ⟨Az, cz, hqa, hqi⟩ := H23.out
              obtain ⟨y0, y1⟩ := hqa.cells
              obtain ⟨x0, x1, x2, x3, x4, x5, x6⟩ := MsgAt.cells H35.out
              simp only at x0 x1 x2 x3 x4 x5 x6
              have hpc := put_told2 LZ Az lz ⟨pe, pm, ps, pj, pq, pk, pd⟩ X28 (by omega) HZD.out HPD.out HPF.out.1 HPF.out.2 (putQ_any LZ Az cz lz ⟨pe, pm, ps, pj, pq, pk, pd⟩ X28 (HLL.out.below HB.out) hqi HPD.out)
              simp only [mv] at hpc
              clear hqa hqi
              go_wp2_with fail; refine hpc.mono ?_; rintro e w36 ⟨A36, c36, rfl, hiq, hbc⟩
              clear y0 y1 x0 x1 x2 x3 x4 x5 x6 hpc
              have hbq := Joins.below_alloc1 w36 (.cells #[.int .i64 LZ, .slice A36 pl.length c36] 64)
              have hG := hbc.trans (hbq.mono hbc.size)
              have H36 := Lib.hid (QPair.new (L := LZ) hiq)
              have H231 := Lib.hid (QPair.on H23.out hG); clear H23; have H23 := H231; clear H231
              have H101 := Lib.hid (MsgAt.on H10.out hG); clear H10; have H10 := H101; clear H101
              have H351 := Lib.hid (MsgAt.on H35.out hG); clear H35; have H35 := H351; clear H351
              have HB1 := Lib.hid (HB.out.trans (hG.mono HB.out.size)); clear HB; have HB := HB1; clear HB1
              have HGI1 := Lib.hid (HGI.out.trans (hG.mono HGI.out.size)); clear HGI; have HGI := HGI1; clear HGI1
              have HEL1 := Lib.hid (fun k hk => Elem.on (HEL.out k hk) hG); clear HEL; have HEL := HEL1; clear HEL1
              have HRB1 := Lib.hid (RawAt.on HRB.out hG); clear HRB; have HRB := HRB1; clear HRB1
              have HBM1 := Lib.hid (BlkM.on HBM.out hG); clear HBM; have HBM := HBM1; clear HBM1
              clear hbq hG hbc hiq
              go_upto_region 29 with (fail)
              generalize hX : w36.alloc (.cells #[.int .i64 LZ, .slice A36 pl.length c36] 64) = X29 at *
              clear hX
              generalize w36.heap.size = bH36 at *
              obtain ⟨Az, cz, hqa, hqi⟩ := H23.out
              obtain ⟨y0, y1⟩ := hqa.cells
              obtain ⟨x0, x1, x2, x3, x4, x5, x6⟩ := MsgAt.cells H35.out
              simp only at x0 x1 x2 x3 x4 x5 x6
              have hpc := put_told2 LZ Az lz ⟨pe, pm, ps, pj, pq, pk, pd⟩ X29 (by omega) HZD.out HPD.out HPF.out.1 HPF.out.2 (refPutQ_any LZ Az cz lz ⟨pe, pm, ps, pj, pq, pk, pd⟩ X29 hqi HPD.out)
              simp only [mv] at hpc
              clear hqa hqi
              go_wp2_with fail; refine hpc.mono ?_; rintro e w38 ⟨A38, c38, rfl, hiq, hbc⟩
              clear y0 y1 x0 x1 x2 x3 x4 x5 x6 hpc
              have hbq := Joins.below_alloc1 w38 (.cells #[.int .i64 LZ, .slice A38 pl.length c38] 64)
              have hG := hbc.trans (hbq.mono hbc.size)
              have H38 := Lib.hid (QPair.new (L := LZ) hiq)
              have H231 := Lib.hid (QPair.on H23.out hG); clear H23; have H23 := H231; clear H231
              have H361 := Lib.hid (QPair.on H36.out hG); clear H36; have H36 := H361; clear H361
              have H101 := Lib.hid (MsgAt.on H10.out hG); clear H10; have H10 := H101; clear H101
              have H351 := Lib.hid (MsgAt.on H35.out hG); clear H35; have H35 := H351; clear H351
              have HB1 := Lib.hid (HB.out.trans (hG.mono HB.out.size)); clear HB; have HB := HB1; clear HB1
              have HGI1 := Lib.hid (HGI.out.trans (hG.mono HGI.out.size)); clear HGI; have HGI := HGI1; clear HGI1
              have HEL1 := Lib.hid (fun k hk => Elem.on (HEL.out k hk) hG); clear HEL; have HEL := HEL1; clear HEL1
              have HRB1 := Lib.hid (RawAt.on HRB.out hG); clear HRB; have HRB := HRB1; clear HRB1
              have HBM1 := Lib.hid (BlkM.on HBM.out hG); clear HBM; have HBM := HBM1; clear HBM1
              clear hbq hG hbc hiq
              go_upto_region 30 with (fail)
              generalize hX : w38.alloc (.cells #[.int .i64 LZ, .slice A38 pl.length c38] 64) = X30 at *
              clear hX
              generalize w38.heap.size = bH38 at *
              obtain ⟨Aa, ca, hqa, hqi⟩ := H36.out
              obtain ⟨Ab, cb, hra, hri⟩ := H38.out
              obtain ⟨y0, y1⟩ := hqa.cells
              obtain ⟨z0, z1⟩ := hra.cells
              have hss := sameQ_any LZ LZ Aa Ab ca cb pl pl X30 hqi hri
              rw [sameQ_self] at hss
              clear hqa hqi hra hri
              go_wp2_with fail; refine hss.mono ?_; rintro e w39 ⟨rfl, hG⟩
              clear hss y0 y1 z0 z1
              have H231 := Lib.hid (QPair.on H23.out hG); clear H23; have H23 := H231; clear H231
              have H361 := Lib.hid (QPair.on H36.out hG); clear H36; have H36 := H361; clear H361
              have H381 := Lib.hid (QPair.on H38.out hG); clear H38; have H38 := H381; clear H381
              have H101 := Lib.hid (MsgAt.on H10.out hG); clear H10; have H10 := H101; clear H101
              have H351 := Lib.hid (MsgAt.on H35.out hG); clear H35; have H35 := H351; clear H351
              have HB1 := Lib.hid (HB.out.trans (hG.mono HB.out.size)); clear HB; have HB := HB1; clear HB1
              have HGI1 := Lib.hid (HGI.out.trans (hG.mono HGI.out.size)); clear HGI; have HGI := HGI1; clear HGI1
              have HEL1 := Lib.hid (fun k hk => Elem.on (HEL.out k hk) hG); clear HEL; have HEL := HEL1; clear HEL1
              have HRB1 := Lib.hid (RawAt.on HRB.out hG); clear HRB; have HRB := HRB1; clear HRB1
              have HBM1 := Lib.hid (BlkM.on HBM.out hG); clear HBM; have HBM := HBM1; clear HBM1
              clear hG
              clear H36 H38
              obtain ⟨af, haf⟩ : ∃ x, cutE LZ lz (lz.findIdx (isNum pk)) = x := ⟨_, rfl⟩
              obtain ⟨am, ham⟩ : ∃ x, cutM LZ lz (lz.findIdx (isNum pk)) = x := ⟨_, rfl⟩
              obtain ⟨al, hal⟩ : ∃ x, cutL LZ lz (lz.findIdx (isNum pk)) = x := ⟨_, rfl⟩
              obtain ⟨te, tn, ts, tj, tq, tk, td⟩ := am
              have HAF := Lib.hid (And.intro haf (And.intro ham hal))
              clear haf ham hal
              obtain ⟨Az, cz, hqa, hqi⟩ := H23.out
              obtain ⟨y0, y1⟩ := hqa.cells
              obtain ⟨x0, x1, x2, x3, x4, x5, x6⟩ := MsgAt.cells H35.out
              simp only at x0 x1 x2 x3 x4 x5 x6
              have hpc := take_told LZ Az lz (lz.findIdx (isNum pk)) w39 (by omega) HZD.out HAF.out.1 HAF.out.2.1 HAF.out.2.2 (abortQ_any LZ Az cz lz pk w39 (HLL.out.below HB.out) hqi)
              simp only [mv] at hpc
              clear hqa hqi
              go_wp2_with fail; refine hpc.mono ?_; rintro e w40 ⟨A40, c40, rfl, hiq, hbc⟩
              clear y0 y1 x0 x1 x2 x3 x4 x5 x6 hpc
              have hbq := Joins.below_alloc1 w40 (.cells #[.int .i64 LZ, .slice A40 al.length c40] 64)
              have hbm := Joins.below_alloc1 (w40.alloc (.cells #[.int .i64 LZ, .slice A40 al.length c40] 64)) (.cells #[.bool te, .int .i64 tn, .int .i64 ts, .int .i64 tj, .int .i64 tq, .int .i64 tk, .string td] 26)
              have hG := hbc.trans ((hbq.trans (hbm.mono hbq.size)).mono hbc.size)
              have H40 := Lib.hid ((QPair.new (L := LZ) hiq).on hbm)
              have H41 : Hid (MsgAt _ _ ⟨te, tn, ts, tj, tq, tk, td⟩) := Lib.hid (MsgAt.new (w40.alloc (.cells #[.int .i64 LZ, .slice A40 al.length c40] 64)) ⟨te, tn, ts, tj, tq, tk, td⟩)
              have H231 := Lib.hid (QPair.on H23.out hG); clear H23; have H23 := H231; clear H231
              have H101 := Lib.hid (MsgAt.on H10.out hG); clear H10; have H10 := H101; clear H101
              have H351 := Lib.hid (MsgAt.on H35.out hG); clear H35; have H35 := H351; clear H351
              have HB1 := Lib.hid (HB.out.trans (hG.mono HB.out.size)); clear HB; have HB := HB1; clear HB1
              have HGI1 := Lib.hid (HGI.out.trans (hG.mono HGI.out.size)); clear HGI; have HGI := HGI1; clear HGI1
              have HEL1 := Lib.hid (fun k hk => Elem.on (HEL.out k hk) hG); clear HEL; have HEL := HEL1; clear HEL1
              have HRB1 := Lib.hid (RawAt.on HRB.out hG); clear HRB; have HRB := HRB1; clear HRB1
              have HBM1 := Lib.hid (BlkM.on HBM.out hG); clear HBM; have HBM := HBM1; clear HBM1
              simp only [mc, World.size_alloc] at H40 H41 HB H23 H10 H35
              clear hbq hbm hG hbc hiq
              go_upto_region 33 with (fail)
              generalize hX : (w40.alloc (.cells #[.int .i64 LZ, .slice A40 al.length c40] 64)).alloc (.cells #[.bool te, .int .i64 tn, .int .i64 ts, .int .i64 tj, .int .i64 tq, .int .i64 tk, .string td] 26) = X33 at *
              clear hX
              generalize w40.heap.size = bH40 at *
              obtain ⟨Az, cz, hqa, hqi⟩ := H23.out
              obtain ⟨y0, y1⟩ := hqa.cells
              obtain ⟨x0, x1, x2, x3, x4, x5, x6⟩ := MsgAt.cells H35.out
              simp only at x0 x1 x2 x3 x4 x5 x6
              have hpc := take_told LZ Az lz (lz.findIdx (isNum pk)) X33 (by omega) HZD.out HAF.out.1 HAF.out.2.1 HAF.out.2.2 (refAbortQ_any LZ Az cz lz pk X33 hqi)
              simp only [mv] at hpc
              clear hqa hqi
              go_wp2_with fail; refine hpc.mono ?_; rintro e w43 ⟨A43, c43, rfl, hiq, hbc⟩
              clear y0 y1 x0 x1 x2 x3 x4 x5 x6 hpc
              have hbq := Joins.below_alloc1 w43 (.cells #[.int .i64 LZ, .slice A43 al.length c43] 64)
              have hbm := Joins.below_alloc1 (w43.alloc (.cells #[.int .i64 LZ, .slice A43 al.length c43] 64)) (.cells #[.bool te, .int .i64 tn, .int .i64 ts, .int .i64 tj, .int .i64 tq, .int .i64 tk, .string td] 26)
              have hG := hbc.trans ((hbq.trans (hbm.mono hbq.size)).mono hbc.size)
              have H43 := Lib.hid ((QPair.new (L := LZ) hiq).on hbm)
              have H44 : Hid (MsgAt _ _ ⟨te, tn, ts, tj, tq, tk, td⟩) := Lib.hid (MsgAt.new (w43.alloc (.cells #[.int .i64 LZ, .slice A43 al.length c43] 64)) ⟨te, tn, ts, tj, tq, tk, td⟩)
              have H231 := Lib.hid (QPair.on H23.out hG); clear H23; have H23 := H231; clear H231
              have H401 := Lib.hid (QPair.on H40.out hG); clear H40; have H40 := H401; clear H401
              have H101 := Lib.hid (MsgAt.on H10.out hG); clear H10; have H10 := H101; clear H101
              have H351 := Lib.hid (MsgAt.on H35.out hG); clear H35; have H35 := H351; clear H351
              have H411 := Lib.hid (MsgAt.on H41.out hG); clear H41; have H41 := H411; clear H411
              have HB1 := Lib.hid (HB.out.trans (hG.mono HB.out.size)); clear HB; have HB := HB1; clear HB1
              have HGI1 := Lib.hid (HGI.out.trans (hG.mono HGI.out.size)); clear HGI; have HGI := HGI1; clear HGI1
              have HEL1 := Lib.hid (fun k hk => Elem.on (HEL.out k hk) hG); clear HEL; have HEL := HEL1; clear HEL1
              have HRB1 := Lib.hid (RawAt.on HRB.out hG); clear HRB; have HRB := HRB1; clear HRB1
              have HBM1 := Lib.hid (BlkM.on HBM.out hG); clear HBM; have HBM := HBM1; clear HBM1
              simp only [mc, World.size_alloc] at H43 H44 HB H23 H40 H10 H35 H41
              clear hbq hbm hG hbc hiq
              go_upto_region 34 with (fail)
              generalize hX : (w43.alloc (.cells #[.int .i64 LZ, .slice A43 al.length c43] 64)).alloc (.cells #[.bool te, .int .i64 tn, .int .i64 ts, .int .i64 tj, .int .i64 tq, .int .i64 tk, .string td] 26) = X34 at *
              clear hX
              generalize w43.heap.size = bH43 at *
              have hEG := fun x y w => eqM_guard .neq x y ⟨te, tn, ts, tj, tq, tk, td⟩ ⟨te, tn, ts, tj, tq, tk, td⟩ w
              have hNE := neqM ⟨te, tn, ts, tj, tq, tk, td⟩ ⟨te, tn, ts, tj, tq, tk, td⟩
              rw [(sameM_iff _ _).2 rfl] at hNE
              simp only [mv] at hEG hNE
              have HEN := Lib.hid (And.intro hEG hNE)
              clear hEG hNE
              obtain ⟨Aa, ca, hqa, hqi⟩ := H40.out
              obtain ⟨Ab, cb, hra, hri⟩ := H43.out
              obtain ⟨y0, y1⟩ := hqa.cells
              obtain ⟨z0, z1⟩ := hra.cells
              have hss := sameQ_any LZ LZ Aa Ab ca cb al al X34 hqi hri
              rw [sameQ_self] at hss
              clear hqa hqi hra hri
              go_wp2_with fail; refine hss.mono ?_; rintro e w45 ⟨rfl, hG⟩
              clear hss y0 y1 z0 z1
              have H231 := Lib.hid (QPair.on H23.out hG); clear H23; have H23 := H231; clear H231
              have H401 := Lib.hid (QPair.on H40.out hG); clear H40; have H40 := H401; clear H401
              have H431 := Lib.hid (QPair.on H43.out hG); clear H43; have H43 := H431; clear H431
              have H101 := Lib.hid (MsgAt.on H10.out hG); clear H10; have H10 := H101; clear H101
              have H351 := Lib.hid (MsgAt.on H35.out hG); clear H35; have H35 := H351; clear H351
              have H411 := Lib.hid (MsgAt.on H41.out hG); clear H41; have H41 := H411; clear H411
              have H441 := Lib.hid (MsgAt.on H44.out hG); clear H44; have H44 := H441; clear H441
              have HB1 := Lib.hid (HB.out.trans (hG.mono HB.out.size)); clear HB; have HB := HB1; clear HB1
              have HGI1 := Lib.hid (HGI.out.trans (hG.mono HGI.out.size)); clear HGI; have HGI := HGI1; clear HGI1
              have HEL1 := Lib.hid (fun k hk => Elem.on (HEL.out k hk) hG); clear HEL; have HEL := HEL1; clear HEL1
              have HRB1 := Lib.hid (RawAt.on HRB.out hG); clear HRB; have HRB := HRB1; clear HRB1
              have HBM1 := Lib.hid (BlkM.on HBM.out hG); clear HBM; have HBM := HBM1; clear HBM1
              clear hG
              obtain ⟨x0, x1, x2, x3, x4, x5, x6⟩ := MsgAt.cells H41.out
              obtain ⟨y0, y1, y2, y3, y4, y5, y6⟩ := MsgAt.cells H44.out
              obtain ⟨hEG, hNE⟩ := HEN.out
              simp only at x0 x1 x2 x3 x4 x5 x6 y0 y1 y2 y3 y4 y5 y6
              go_wp2_with fail
              go_roundw
              case rel => exact ⟨j + 1, by omega, by go_num, HGI.out⟩
              case measure => simp [intOf]; omega
            · have hjI : ¬ (j : Int) < 3 := by omega
              go_wp2_with fail
              go_roundw
              case rel => exact ⟨k + 1, by omega, by go_num, HB.out, HRB.out, H10.out, HEL.out⟩
              case measure => simp [intOf]; omega
        · have hkI : ¬ (k : Int) < 2 := by omega
          go_wp2_with fail
          go_ret
          exact ⟨rfl, HB.out⟩
  · have hor : (100 : Int) < (md.size : Int) ∨ (¬ (100 : Int) < (md.size : Int) ∧ (10 : Int) < (odd.length : Int)) := by omega
    clear hsm
    go_enter Tryd.func8, Tryd.ntmps8
    go_wp2_with fail; refine (awake_any _ (HLL.out.below HB.out)).mono ?_; rintro e w1 ⟨rfl, hG⟩
    have H101 := Lib.hid (MsgAt.on H10.out hG); clear H10; have H10 := H101; clear H101
    have HB1 := Lib.hid (HB.out.trans (hG.mono HB.out.size)); clear HB; have HB := HB1; clear HB1
    clear hG
    obtain ⟨x0, x1, x2, x3, x4, x5, x6⟩ := MsgAt.cells H10.out
    simp only at x0 x1 x2 x3 x4 x5 x6
    rcases hor with hdI | ⟨hdI, hoI⟩
    · go_wp2_with fail
      go_ret
      exact ⟨rfl, HB.out⟩
    · go_wp2_with fail
      go_ret
      exact ⟨rfl, HB.out⟩

end Go.Proofs.YtehajmockicilaaDoor


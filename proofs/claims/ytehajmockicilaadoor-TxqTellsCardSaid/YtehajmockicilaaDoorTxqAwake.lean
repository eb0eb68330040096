/-
  Variables that are queues; the law's first calls: awake.
-/
import Derived.Test.YtehajmockicilaaDoorTxqRaw
import Derived.Deep.DeepCutAuto
namespace Go.Proofs.YtehajmockicilaaDoor
open Go Go.RowKit

def OffB (Bs : List Nat) (A : Option Addr) : Prop := ∀ x ∈ Bs, ∀ ad, A = some ad → ad.block ≠ x
/-- Box b holds a queue, whose list lies in none of those boxes. -/
def QVar (Bs : List Nat) (w : World) (b : Nat) (L : Int) (l : List Msg) : Prop := ∃ A c, QAt w b L A l.length c ∧ QIn w A c l ∧ OffB Bs A
theorem QVar.on {Bs : List Nat} {w w' : World} {b : Nat} {L : Int} {l : List Msg} (h : QVar Bs w b L l) (hb : Below w.heap.size w w') : QVar Bs w' b L l := by
  obtain ⟨A, c, h1, h2, h3⟩ := h
  exact ⟨A, c, h1.on hb, h2.on hb, h3⟩
theorem QVar.lt {Bs : List Nat} {w : World} {b : Nat} {L : Int} {l : List Msg} (h : QVar Bs w b L l) : b < w.heap.size := by
  obtain ⟨A, c, h1, _⟩ := h; exact h1.lt
theorem off_none (Bs : List Nat) : OffB Bs none := fun _ _ _ e => by cases e
/-- What a call told, as a list for the next one. -/
theorem told_in {Bs : List Nat} {A A' : Option Addr} {c' S : Nat} {w' : World} {l' : List Msg} (ht : QTold A S w' l' A' c') (ho : OffB Bs A) (hS : ∀ x ∈ Bs, x < S) (hl : l'.length ≤ 200) (hd : ∀ m ∈ l', m.data.size ≤ 140737488351232) : QIn w' A' c' l' ∧ OffB Bs A' :=
  ⟨ht.qin hl hd, fun x hx ad e => by
    rcases ht.fresh with e2 | e2
    · exact ho x hx ad (by rw [← e2]; exact e)
    · have := e2 ad e; have := hS x hx; omega⟩
theorem QVar.new {Bs : List Nat} {w : World} {L : Int} {l : List Msg} {A : Option Addr} {c : Nat} (h : QIn w A c l) (ho : OffB Bs A) : QVar (w.heap.size :: Bs) (w.alloc (.cells #[.int .i64 L, .slice A l.length c] 64)) w.heap.size L l :=
  ⟨A, c, QAt.new w L A l.length c, h.on (Joins.below_alloc1 w _), fun x hx ad e => by
    rcases List.mem_cons.1 hx with rfl | h2
    · have := h.low ad e; omega
    · exact ho x h2 ad e⟩
theorem QVar.more {Bs : List Nat} {w w' : World} {b : Nat} {L : Int} {l : List Msg} (h : QVar Bs w b L l) (hb : Below w.heap.size w w') : QVar (w.heap.size :: Bs) w' b L l := by
  obtain ⟨A, c, h1, h2, h3⟩ := h
  exact ⟨A, c, h1.on hb, h2.on hb, fun x hx ad e => by
    rcases List.mem_cons.1 hx with rfl | h4
    · have := h2.low ad e; omega
    · exact h3 x h4 ad e⟩
theorem QIn.far2 {w : World} {A : Option Addr} {c b : Nat} {l : List Msg} (h : QIn w A c l) (hA : ∀ ad, A = some ad → ad.block ≠ b) (x y : Value) : QIn ((w.setCell ⟨b, 0, none⟩ x).setCell ⟨b, 1, none⟩ y) A c l := by
  refine ⟨fun hn => ?_, h.cap, h.few, h.data, fun ad e => by rw [World.size_setCell, World.size_setCell]; exact h.low ad e⟩
  obtain ⟨ad, e, hb, hc⟩ := h.msgs hn
  refine ⟨ad, e, by rw [World.size_setCell, World.size_setCell]; exact hb, fun j m hm => (hc j m hm).keep fun q hq => World.cell?_of_block ?_⟩
  rw [hq, adb]
  exact Go.Proofs.YtehajmockicilaaDoor.far2 w x y (hA ad e)
/-- A queue's variable set anew. -/
theorem QVar.store {Bs : List Nat} {w : World} {b : Nat} {L L' : Int} {l l' : List Msg} {A' : Option Addr} {c' : Nat} (h : QVar Bs w b L l) (ht : QIn w A' c' l') (ho : OffB Bs A') (hb : b ∈ Bs) : QVar Bs ((w.setCell ⟨b, 0, none⟩ (.int .i64 L')).setCell ⟨b, 1, none⟩ (.slice A' l'.length c')) b L' l' := by
  obtain ⟨A, c, h1, h2, h3⟩ := h
  exact ⟨A', c', h1.set L' A' l'.length c', ht.far2 (ho b hb) _ _, ho⟩
/-- Another one's. -/
theorem QVar.far {Bs : List Nat} {w : World} {b b' : Nat} {L : Int} {l : List Msg} (h : QVar Bs w b L l) (hb : b' ∈ Bs) (hn : b ≠ b') (x y : Value) : QVar Bs ((w.setCell ⟨b', 0, none⟩ x).setCell ⟨b', 1, none⟩ y) b L l := by
  obtain ⟨A, c, h1, h2, h3⟩ := h
  exact ⟨A, c, que_far2 h1 hn x y, h2.far2 (h3 b' hb) x y, h3⟩
theorem msg_far7 {w : World} {g b : Nat} {m : Msg} (h : MsgAt w g m) (hg : g ≠ b) (m' : Msg) : MsgAt (set7 w b m') g m := by
  unfold MsgAt
  rw [set7_far w hg]
  exact h
theorem QIn.far7 {w : World} {A : Option Addr} {c b : Nat} {l : List Msg} (h : QIn w A c l) (hA : ∀ ad, A = some ad → ad.block ≠ b) (m : Msg) : QIn (set7 w b m) A c l := by
  refine ⟨fun hn => ?_, h.cap, h.few, h.data, fun ad e => by rw [set7_size]; exact h.low ad e⟩
  obtain ⟨ad, e, hb, hc⟩ := h.msgs hn
  refine ⟨ad, e, by rw [set7_size]; exact hb, fun j m hm => (hc j m hm).keep fun q hq => World.cell?_of_block ?_⟩
  rw [hq, adb]
  exact set7_far w (hA ad e) _
theorem QVar.far7 {Bs : List Nat} {w : World} {b b' : Nat} {L : Int} {l : List Msg} (h : QVar Bs w b L l) (hb : b' ∈ Bs) (hn : b ≠ b') (m : Msg) : QVar Bs (set7 w b' m) b L l := by
  obtain ⟨A, c, h1, h2, h3⟩ := h
  exact ⟨A, c, que_far7 h1 hn m, h2.far7 (h3 b' hb) m, h3⟩
theorem QVar.store7 {Bs : List Nat} {w : World} {b b' : Nat} {L L' : Int} {l l' : List Msg} {A' : Option Addr} {c' : Nat} (h : QVar Bs w b L l) (ht : QIn w A' c' l') (ho : OffB Bs A') (hb : b ∈ Bs) (hA : ∀ ad, A' = some ad → ad.block ≠ b') (hn : b ≠ b') (m : Msg) : QVar Bs (set7 ((w.setCell ⟨b, 0, none⟩ (.int .i64 L')).setCell ⟨b, 1, none⟩ (.slice A' l'.length c')) b' m) b L' l' := by
  obtain ⟨A, c, h1, h2, h3⟩ := h
  exact ⟨A', c', que_far7 (h1.set L' A' l'.length c') hn m, (ht.far2 (ho b hb) _ _).far7 hA m, ho⟩

/-! ## The calls, of a queue in a variable -/
def NewC (n : Int) (W : World) (e : Ending) (w' : World) : Prop := e = .returned (.tuple #[qv (newL n) none 0 0, .int .i64 (newE n)]) ∧ Below W.heap.size W w'
theorem data_put {L : Int} {l : List Msg} {m : Msg} (h : ∀ x ∈ l, x.data.size ≤ 140737488351232) (hm : m.data.size ≤ 140737488351232) : ∀ x ∈ putL L l m, x.data.size ≤ 140737488351232 := fun x hx => by
  rcases putL_mem hx with h1 | h1
  · exact h x h1
  · rw [h1]; exact hm
theorem cutL_mem {L : Int} {l : List Msg} {i : Nat} {x : Msg} (h : x ∈ cutL L l i) : x ∈ l := by
  unfold cutL at h
  split at h
  · exact List.mem_of_mem_eraseIdx h
  · exact h
theorem cutL_length (L : Int) (l : List Msg) (i : Nat) : (cutL L l i).length ≤ l.length := by
  unfold cutL
  split
  · exact List.length_eraseIdx_le l i
  · exact Nat.le_refl _
theorem put_var (L : Int) (A : Option Addr) (c : Nat) (l : List Msg) (m : Msg) (Bs : List Nat) (W : World) (LL : Laid W) (hq : QIn W A c l) (ho : OffB Bs A) (hB : ∀ x ∈ Bs, x < W.heap.size) (hd : m.data.size ≤ 140737488351232) (hl : l.length ≤ 199) (E : Int) (l' : List Msg) (hE : putE L l m = E) (hl' : putL L l m = l') :
    Calls Tryd.prog 43 #[qv L A l.length c, mv m] W fun e w' => ∃ A' c', e = .returned (.tuple #[qv L A' l'.length c', .int .i64 E]) ∧ QIn w' A' c' l' ∧ OffB Bs A' ∧ Below W.heap.size W w' :=
  (putQ_any L A c l m W LL hq hd).mono fun e w' ⟨v, he, ⟨A', c', hv, ht⟩, hb⟩ => by
    subst hE hl'
    obtain ⟨h1, h2⟩ := told_in ht ho hB (Nat.le_trans putL_length (by omega)) (data_put hq.data hd)
    exact ⟨A', c', by rw [he, hv], h1, h2, hb⟩
theorem cut_var {L : Int} {A : Option Addr} {c : Nat} {l : List Msg} {i : Nat} {Bs : List Nat} {W : World} (hq : QIn W A c l) (ho : OffB Bs A) (hB : ∀ x ∈ Bs, x < W.heap.size) {E : Int} {l' : List Msg} {m : Msg} (hE : cutE L l i = E) (hl' : cutL L l i = l') (hm : cutM L l i = m) {f : FuncId} {args : Array Value} (hc : Calls Tryd.prog f args W (TakePost L A l i W)) :
    Calls Tryd.prog f args W fun e w' => ∃ A' c', e = .returned (.tuple #[qv L A' l'.length c', mv m, .int .i64 E]) ∧ QIn w' A' c' l' ∧ OffB Bs A' ∧ Below W.heap.size W w' :=
  hc.mono fun e w' ⟨v, he, ⟨A', c', hv, ht⟩, hb⟩ => by
    subst hE hl' hm
    obtain ⟨h1, h2⟩ := told_in ht ho hB (Nat.le_trans (cutL_length _ _ _) hq.few) (fun x hx => hq.data x (cutL_mem hx))
    exact ⟨A', c', by rw [he, hv], h1, h2, hb⟩

def mA : Msg := ⟨false, 5, 0, 1, 1, 1, ⟨#[]⟩⟩
def mB : Msg := ⟨false, 3, 0, 1, 1, 2, ⟨#[]⟩⟩
theorem aw_put1 : putE 2 [] mA = 0 ∧ putL 2 [] mA = [mA] := ⟨by kernel_rfl, by kernel_rfl⟩
theorem aw_put2 : putE 2 [mA] mB = 0 ∧ putL 2 [mA] mB = [mB, mA] := ⟨by kernel_rfl, by kernel_rfl⟩
theorem aw_put3 : putE 2 [mB, mA] mA = 42 ∧ putL 2 [mB, mA] mA = [mB, mA] := ⟨by kernel_rfl, by kernel_rfl⟩
theorem aw_take1 : cutE 2 [mB, mA] 0 = 0 ∧ cutL 2 [mB, mA] 0 = [mA] ∧ cutM 2 [mB, mA] 0 = mB := ⟨by kernel_rfl, by kernel_rfl, by kernel_rfl⟩
theorem aw_take2 : cutE 2 [mA] 0 = 0 ∧ cutL 2 [mA] 0 = [] ∧ cutM 2 [mA] 0 = mA := ⟨by kernel_rfl, by kernel_rfl, by kernel_rfl⟩
theorem aw_take3 : cutE 2 [] 0 = 41 ∧ cutL 2 [] 0 = [] ∧ cutM 2 [] 0 = zeroM := ⟨by kernel_rfl, by kernel_rfl, by kernel_rfl⟩
theorem aw_abort : cutE 2 [mB, mA] 1 = 0 ∧ cutL 2 [mB, mA] 1 = [mB] ∧ cutM 2 [mB, mA] 1 = mA := ⟨by kernel_rfl, by kernel_rfl, by kernel_rfl⟩
theorem aw_right : rightQ 2 [mB, mA] = true := by kernel_rfl
theorem aw_find : [mB, mA].findIdx (isNum 1) = 1 := by kernel_rfl

set_option linter.unusedSimpArgs false
theorem set_sz2 (w : World) (p q : Addr) (x y : Value) : ((w.setCell p x).setCell q y).heap.size = w.heap.size := by rw [World.size_setCell, World.size_setCell]
set_option maxRecDepth 100000 in
set_option maxHeartbeats 8000000 in
theorem awake_any (w : World) (LL : Laid w) : Calls Tryd.prog 29 #[] w fun e w' => e = .returned (.bool true) ∧ Below w.heap.size w w' := by
  have hm1 := MsgAt.new w mA
  have hb1 := Joins.below_alloc1 w (.cells (mc mA) 26)
  have hm2 := MsgAt.new (w.alloc (.cells (mc mA) 26)) mB
  have hb2 := Joins.below_alloc1 (w.alloc (.cells (mc mA) 26)) (.cells (mc mB) 26)
  rw [World.size_alloc] at hm2
  have hsz : ((w.alloc (.cells (mc mA) 26)).alloc (.cells (mc mB) 26)).heap.size = w.heap.size + 2 := by simp only [World.size_alloc]
  have FA := Lib.hid (hm1.on hb2)
  have FB : Hid (MsgAt _ (w.heap.size + 1) mB) := Lib.hid hm2
  have FW := Lib.hid (hb1.trans (hb2.mono hb1.size))
  have FS := Lib.hid (Nat.le_of_eq hsz.symm)
  have HLL := Lib.hid LL
  clear hm1 hb1 hm2 hb2 hsz LL
  have cn2 := fun W => new_any 2 W
  have n2 : newL 2 = 2 ∧ newE 2 = 0 := ⟨by kernel_rfl, by kernel_rfl⟩
  rw [n2.1, n2.2] at cn2
  have cn0 := fun W => new_any 0 W
  have n0 : newL 0 = 0 ∧ newE 0 = 1 := ⟨by kernel_rfl, by kernel_rfl⟩
  rw [n0.1, n0.2] at cn0
  have HC2 := Lib.hid cn2
  have HC0 := Lib.hid cn0
  clear n2 n0 cn2 cn0
  simp only [mA, mB, mc] at FA FB FW FS
  have eb := fun x y W => eqM_guard .eql x y mB mB W
  have ea := fun x y W => eqM_guard .eql x y mA mA W
  have fb := eqlM mB mB
  have fa := eqlM mA mA
  rw [show sameM mB mB = true by kernel_rfl] at fb
  rw [show sameM mA mA = true by kernel_rfl] at fa
  have HE := Lib.hid (And.intro (And.intro eb ea) (And.intro fb fa))
  clear eb ea fb fa
  go_enter Tryd.func29, Tryd.ntmps29
  have cn := HC2.out
  go_wp2_with fail; refine (cn _).mono ?_; rintro e w1 ⟨rfl, b1⟩
  have FA1 : Hid (MsgAt _ _ _) := Lib.hid (MsgAt.on FA.out b1); clear FA; have FA := FA1; clear FA1
  have FB1 : Hid (MsgAt _ _ _) := Lib.hid (MsgAt.on FB.out b1); clear FB; have FB := FB1; clear FB1
  have FW1 := Lib.hid (FW.out.trans (Below.mono b1 FW.out.size)); clear FW; have FW := FW1; clear FW1
  have FS1 : Hid (w.heap.size + 2 ≤ _) := Lib.hid (Nat.le_trans FS.out (Below.size b1)); clear FS; have FS := FS1; clear FS1
  have hb := Joins.below_alloc1 w1 (.cells #[.int .i64 2, .slice none 0 0] 64)
  have hq := QVar.new (Bs := []) (w := w1) (L := 2) (l := []) (A := none) (c := 0) ⟨Msgs.nil _ _ _, Nat.le_refl _, by decide, (fun m h => by cases h), fun ad e => by cases e⟩ (off_none _)
  have HQ := Lib.hid hq
  have HB3 : Hid (w.heap.size + 2 ≤ w1.heap.size) := Lib.hid FS.out
  have FA1 : Hid (MsgAt _ _ _) := Lib.hid (MsgAt.on FA.out hb); clear FA; have FA := FA1; clear FA1
  have FB1 : Hid (MsgAt _ _ _) := Lib.hid (MsgAt.on FB.out hb); clear FB; have FB := FB1; clear FB1
  have FW1 := Lib.hid (FW.out.trans (Below.mono hb FW.out.size)); clear FW; have FW := FW1; clear FW1
  have FS1 : Hid (w.heap.size + 2 ≤ _) := Lib.hid (Nat.le_trans FS.out (Below.size hb)); clear FS; have FS := FS1; clear FS1
  clear hb hq b1 cn
  obtain ⟨W1, hW1⟩ : ∃ W, W = w1.alloc (.cells #[.int .i64 2, .slice none 0 0] 64) := ⟨_, rfl⟩
  simp only [List.length_nil] at HQ
  rw [← hW1] at FA FB FW FS HQ
  go_upto_region 4 with (fail)
  rw [← hW1]
  clear hW1
  generalize hb3 : w1.heap.size = b3 at *
  clear hb3
  obtain ⟨x0, x1, x2, x3, x4, x5, x6⟩ := MsgAt.cells FA.out
  obtain ⟨Aq, cq, hqa, hqi, hqo⟩ := HQ.out
  obtain ⟨y0, y1⟩ := hqa.cells
  have hpc := put_var 2 Aq cq [] mA [b3] W1 (HLL.out.below FW.out) hqi hqo (by intro x hx; simp only [List.mem_singleton] at hx; subst hx; exact hqa.lt) (by decide) (by decide) 0 [mA] aw_put1.1 aw_put1.2
  simp only [mA, mB, mv, List.length_cons, List.length_nil, Nat.zero_add, Nat.reduceAdd] at x0 x1 x2 x3 x4 x5 x6 y0 y1 hpc
  clear hqa hqi hqo
  go_wp2_with fail; refine hpc.mono ?_; rintro e w2 ⟨A5, c5, rfl, hi5, ho5, b5⟩
  clear x0 x1 x2 x3 x4 x5 x6 y0 y1 hpc
  have FA1 : Hid (MsgAt _ _ _) := Lib.hid (MsgAt.on FA.out b5); clear FA; have FA := FA1; clear FA1
  have FB1 : Hid (MsgAt _ _ _) := Lib.hid (MsgAt.on FB.out b5); clear FB; have FB := FB1; clear FB1
  have HQ1 := Lib.hid (QVar.on HQ.out b5); clear HQ; have HQ := HQ1; clear HQ1
  have FW1 := Lib.hid (FW.out.trans (Below.mono b5 FW.out.size)); clear FW; have FW := FW1; clear FW1
  have FS1 : Hid (w.heap.size + 2 ≤ _) := Lib.hid (Nat.le_trans FS.out (Below.size b5)); clear FS; have FS := FS1; clear FS1
  have HI5 := Lib.hid hi5; have HO5 := Lib.hid ho5; clear b5 hi5 ho5
  obtain ⟨Aq, cq, hqa, hqi, hqo⟩ := HQ.out
  obtain ⟨y0, y1⟩ := hqa.cells
  have yf := hqa.frozen
  simp only [mA, mB, mv, List.length_cons, List.length_nil, Nat.zero_add, Nat.reduceAdd] at y0 y1
  have HQ1 := Lib.hid (QVar.store HQ.out (L' := 2) HI5.out HO5.out (by simp)); clear HQ; have HQ := HQ1; clear HQ1
  have FA1 := Lib.hid (msg_far2 FA.out (b := b3) (by have := HB3.out; omega) (.int .i64 2) (.slice A5 1 c5)); clear FA; have FA := FA1; clear FA1
  have FB1 := Lib.hid (msg_far2 FB.out (b := b3) (by have := HB3.out; omega) (.int .i64 2) (.slice A5 1 c5)); clear FB; have FB := FB1; clear FB1
  have FW1 := Lib.hid (below_set2 FW.out (b := b3) (by have := HB3.out; omega) (.int .i64 2) (.slice A5 1 c5)); clear FW; have FW := FW1; clear FW1
  have FS1 : Hid (w.heap.size + 2 ≤ ((w2.setCell ⟨b3, 0, none⟩ (.int .i64 2)).setCell ⟨b3, 1, none⟩ (.slice A5 1 c5)).heap.size) := Lib.hid (by rw [set_sz2]; exact FS.out); clear FS; have FS := FS1; clear FS1
  go_upto_region 5 with (fail)
  clear y0 y1 yf hqa hqi hqo
  simp only [mA, mB, mv, List.length_cons, List.length_nil, Nat.zero_add, Nat.reduceAdd] at HQ FA FB FW FS
  obtain ⟨W1n, hW⟩ : ∃ W, W = (w2.setCell ⟨b3, 0, none⟩ (.int .i64 2)).setCell ⟨b3, 1, none⟩ (.slice A5 1 c5) := ⟨_, rfl⟩
  rw [← hW] at FA FB FW FS HQ ⊢
  clear hW
  obtain ⟨x0, x1, x2, x3, x4, x5, x6⟩ := MsgAt.cells FB.out
  obtain ⟨Aq, cq, hqa, hqi, hqo⟩ := HQ.out
  obtain ⟨y0, y1⟩ := hqa.cells
  have hpc := put_var 2 Aq cq [mA] mB [b3] W1n (HLL.out.below FW.out) hqi hqo (by intro x hx; simp only [List.mem_singleton] at hx; subst hx; exact hqa.lt) (by decide) (by decide) 0 [mB, mA] aw_put2.1 aw_put2.2
  simp only [mA, mB, mv, List.length_cons, List.length_nil, Nat.zero_add, Nat.reduceAdd] at x0 x1 x2 x3 x4 x5 x6 y0 y1 hpc
  clear hqa hqi hqo
  go_wp2_with fail; refine hpc.mono ?_; rintro e w2 ⟨A5, c5, rfl, hi5, ho5, b5⟩
  clear x0 x1 x2 x3 x4 x5 x6 y0 y1 hpc
  have FA1 : Hid (MsgAt _ _ _) := Lib.hid (MsgAt.on FA.out b5); clear FA; have FA := FA1; clear FA1
  have FB1 : Hid (MsgAt _ _ _) := Lib.hid (MsgAt.on FB.out b5); clear FB; have FB := FB1; clear FB1
  have HQ1 := Lib.hid (QVar.on HQ.out b5); clear HQ; have HQ := HQ1; clear HQ1
  have FW1 := Lib.hid (FW.out.trans (Below.mono b5 FW.out.size)); clear FW; have FW := FW1; clear FW1
  have FS1 : Hid (w.heap.size + 2 ≤ _) := Lib.hid (Nat.le_trans FS.out (Below.size b5)); clear FS; have FS := FS1; clear FS1
  have HI5 := Lib.hid hi5; have HO5 := Lib.hid ho5; clear b5 hi5 ho5
  obtain ⟨Aq, cq, hqa, hqi, hqo⟩ := HQ.out
  obtain ⟨y0, y1⟩ := hqa.cells
  have yf := hqa.frozen
  simp only [mA, mB, mv, List.length_cons, List.length_nil, Nat.zero_add, Nat.reduceAdd] at y0 y1
  have HQ1 := Lib.hid (QVar.store HQ.out (L' := 2) HI5.out HO5.out (by simp)); clear HQ; have HQ := HQ1; clear HQ1
  have FA1 := Lib.hid (msg_far2 FA.out (b := b3) (by have := HB3.out; omega) (.int .i64 2) (.slice A5 2 c5)); clear FA; have FA := FA1; clear FA1
  have FB1 := Lib.hid (msg_far2 FB.out (b := b3) (by have := HB3.out; omega) (.int .i64 2) (.slice A5 2 c5)); clear FB; have FB := FB1; clear FB1
  have FW1 := Lib.hid (below_set2 FW.out (b := b3) (by have := HB3.out; omega) (.int .i64 2) (.slice A5 2 c5)); clear FW; have FW := FW1; clear FW1
  have FS1 : Hid (w.heap.size + 2 ≤ ((w2.setCell ⟨b3, 0, none⟩ (.int .i64 2)).setCell ⟨b3, 1, none⟩ (.slice A5 2 c5)).heap.size) := Lib.hid (by rw [set_sz2]; exact FS.out); clear FS; have FS := FS1; clear FS1
  go_upto_region 6 with (fail)
  clear y0 y1 yf hqa hqi hqo
  simp only [mA, mB, mv, List.length_cons, List.length_nil, Nat.zero_add, Nat.reduceAdd] at HQ FA FB FW FS
  obtain ⟨W1nn, hW⟩ : ∃ W, W = (w2.setCell ⟨b3, 0, none⟩ (.int .i64 2)).setCell ⟨b3, 1, none⟩ (.slice A5 2 c5) := ⟨_, rfl⟩
  rw [← hW] at FA FB FW FS HQ ⊢
  clear hW
  obtain ⟨x0, x1, x2, x3, x4, x5, x6⟩ := MsgAt.cells FA.out
  obtain ⟨Aq, cq, hqa, hqi, hqo⟩ := HQ.out
  obtain ⟨y0, y1⟩ := hqa.cells
  have hpc := put_var 2 Aq cq [mB, mA] mA [b3] W1nn (HLL.out.below FW.out) hqi hqo (by intro x hx; simp only [List.mem_singleton] at hx; subst hx; exact hqa.lt) (by decide) (by decide) 42 [mB, mA] aw_put3.1 aw_put3.2
  simp only [mA, mB, mv, List.length_cons, List.length_nil, Nat.zero_add, Nat.reduceAdd] at x0 x1 x2 x3 x4 x5 x6 y0 y1 hpc
  clear hqa hqi hqo
  go_wp2_with fail; refine hpc.mono ?_; rintro e w2 ⟨A5, c5, rfl, hi5, ho5, b5⟩
  clear x0 x1 x2 x3 x4 x5 x6 y0 y1 hpc
  have FA1 : Hid (MsgAt _ _ _) := Lib.hid (MsgAt.on FA.out b5); clear FA; have FA := FA1; clear FA1
  have FB1 : Hid (MsgAt _ _ _) := Lib.hid (MsgAt.on FB.out b5); clear FB; have FB := FB1; clear FB1
  have HQ1 := Lib.hid (QVar.on HQ.out b5); clear HQ; have HQ := HQ1; clear HQ1
  have FW1 := Lib.hid (FW.out.trans (Below.mono b5 FW.out.size)); clear FW; have FW := FW1; clear FW1
  have FS1 : Hid (w.heap.size + 2 ≤ _) := Lib.hid (Nat.le_trans FS.out (Below.size b5)); clear FS; have FS := FS1; clear FS1
  have HI5 := Lib.hid hi5; have HO5 := Lib.hid ho5; clear b5 hi5 ho5
  have hb := Joins.below_alloc1 w2 (.cells #[.int .i64 2, .slice A5 2 c5] 64)
  have FA1 : Hid (MsgAt _ _ _) := Lib.hid (MsgAt.on FA.out hb); clear FA; have FA := FA1; clear FA1
  have FB1 : Hid (MsgAt _ _ _) := Lib.hid (MsgAt.on FB.out hb); clear FB; have FB := FB1; clear FB1
  have HQ1 := Lib.hid (QVar.on HQ.out hb); clear HQ; have HQ := HQ1; clear HQ1
  have FW1 := Lib.hid (FW.out.trans (Below.mono hb FW.out.size)); clear FW; have FW := FW1; clear FW1
  have FS1 : Hid (w.heap.size + 2 ≤ _) := Lib.hid (Nat.le_trans FS.out (Below.size hb)); clear FS; have FS := FS1; clear FS1
  clear hb
  go_upto_region 7 with (fail)
  obtain ⟨W4, hW⟩ : ∃ W, W = w2.alloc (.cells #[.int .i64 2, .slice A5 2 c5] 64) := ⟨_, rfl⟩
  rw [← hW] at FA FB FW FS HQ ⊢
  clear hW
  clear HI5 HO5
  obtain ⟨Aq, cq, hqa, hqi, hqo⟩ := HQ.out
  obtain ⟨y0, y1⟩ := hqa.cells
  have hpc := firstQ_any 2 Aq cq [mB, mA] W4 (HLL.out.below FW.out) hqi
  rw [aw_take1.1, aw_take1.2.2] at hpc
  simp only [mA, mB, mv, List.length_cons, List.length_nil, Nat.zero_add, Nat.reduceAdd] at y0 y1 hpc
  clear hqa hqi hqo
  go_wp2_with fail; refine hpc.mono ?_; rintro e w3 ⟨rfl, b5⟩
  clear y0 y1 hpc
  have FA1 : Hid (MsgAt _ _ _) := Lib.hid (MsgAt.on FA.out b5); clear FA; have FA := FA1; clear FA1
  have FB1 : Hid (MsgAt _ _ _) := Lib.hid (MsgAt.on FB.out b5); clear FB; have FB := FB1; clear FB1
  have HQ1 := Lib.hid (QVar.on HQ.out b5); clear HQ; have HQ := HQ1; clear HQ1
  have FW1 := Lib.hid (FW.out.trans (Below.mono b5 FW.out.size)); clear FW; have FW := FW1; clear FW1
  have FS1 : Hid (w.heap.size + 2 ≤ _) := Lib.hid (Nat.le_trans FS.out (Below.size b5)); clear FS; have FS := FS1; clear FS1
  clear b5
  have hf9 := MsgAt.new w3 mB
  have hb := Joins.below_alloc1 w3 (.cells #[.bool false, .int .i64 3, .int .i64 0, .int .i64 1, .int .i64 1, .int .i64 2, .string ⟨#[]⟩] 26)
  have FA1 : Hid (MsgAt _ _ _) := Lib.hid (MsgAt.on FA.out hb); clear FA; have FA := FA1; clear FA1
  have FB1 : Hid (MsgAt _ _ _) := Lib.hid (MsgAt.on FB.out hb); clear FB; have FB := FB1; clear FB1
  have HQ1 := Lib.hid (QVar.on HQ.out hb); clear HQ; have HQ := HQ1; clear HQ1
  have FW1 := Lib.hid (FW.out.trans (Below.mono hb FW.out.size)); clear FW; have FW := FW1; clear FW1
  have FS1 : Hid (w.heap.size + 2 ≤ _) := Lib.hid (Nat.le_trans FS.out (Below.size hb)); clear FS; have FS := FS1; clear FS1
  have F9 := Lib.hid hf9
  clear hf9 hb
  simp only [mA, mB, mc] at F9
  go_upto_region 8 with (fail)
  obtain ⟨W5, hW⟩ : ∃ W, W = w3.alloc (.cells #[.bool false, .int .i64 3, .int .i64 0, .int .i64 1, .int .i64 1, .int .i64 2, .string ⟨#[]⟩] 26) := ⟨_, rfl⟩
  rw [← hW] at FA FB FW FS HQ F9 ⊢
  clear hW
  generalize w3.heap.size = b9 at *
  obtain ⟨Aq, cq, hqa, hqi, hqo⟩ := HQ.out
  obtain ⟨y0, y1⟩ := hqa.cells
  have hpc := cut_var (Bs := [b3]) hqi hqo (by intro x hx; simp only [List.mem_singleton] at hx; subst hx; exact hqa.lt) aw_take1.1 aw_take1.2.1 aw_take1.2.2 (takeQ_any 2 Aq cq [mB, mA] W5 (HLL.out.below FW.out) hqi)
  simp only [mA, mB, mv, List.length_cons, List.length_nil, Nat.zero_add, Nat.reduceAdd] at y0 y1 hpc
  clear hqa hqi hqo
  go_wp2_with fail; refine hpc.mono ?_; rintro e w4 ⟨A5, c5, rfl, hi5, ho5, b5⟩
  clear y0 y1 hpc
  have FA1 : Hid (MsgAt _ _ _) := Lib.hid (MsgAt.on FA.out b5); clear FA; have FA := FA1; clear FA1
  have FB1 : Hid (MsgAt _ _ _) := Lib.hid (MsgAt.on FB.out b5); clear FB; have FB := FB1; clear FB1
  have F91 : Hid (MsgAt _ _ _) := Lib.hid (MsgAt.on F9.out b5); clear F9; have F9 := F91; clear F91
  have HQ1 := Lib.hid (QVar.on HQ.out b5); clear HQ; have HQ := HQ1; clear HQ1
  have FW1 := Lib.hid (FW.out.trans (Below.mono b5 FW.out.size)); clear FW; have FW := FW1; clear FW1
  have FS1 : Hid (w.heap.size + 2 ≤ _) := Lib.hid (Nat.le_trans FS.out (Below.size b5)); clear FS; have FS := FS1; clear FS1
  clear b5
  have HS11 : Hid (b3 < w4.heap.size ∧ b9 < w4.heap.size) := Lib.hid ⟨HQ.out.lt, F9.out.lt⟩
  have hr := QVar.new (L := 2) hi5 ho5
  have hb1 := Joins.below_alloc1 w4 (.cells #[.int .i64 2, .slice A5 1 c5] 64)
  have hm := MsgAt.new (w4.alloc (.cells #[.int .i64 2, .slice A5 1 c5] 64)) mB
  have hb2 := Joins.below_alloc1 (w4.alloc (.cells #[.int .i64 2, .slice A5 1 c5] 64)) (.cells #[.bool false, .int .i64 3, .int .i64 0, .int .i64 1, .int .i64 1, .int .i64 2, .string ⟨#[]⟩] 26)
  simp only [mA, mB, mv, List.length_cons, List.length_nil, Nat.zero_add, Nat.reduceAdd, mc, World.size_alloc] at hr hm
  have HR := Lib.hid (QVar.on hr hb2)
  have F12 := Lib.hid hm
  have hb := Below.trans hb1 (Below.mono hb2 hb1.size)
  have HQ1 := Lib.hid (QVar.more HQ.out hb); clear HQ; have HQ := HQ1; clear HQ1
  have FA1 : Hid (MsgAt _ _ _) := Lib.hid (MsgAt.on FA.out hb); clear FA; have FA := FA1; clear FA1
  have FB1 : Hid (MsgAt _ _ _) := Lib.hid (MsgAt.on FB.out hb); clear FB; have FB := FB1; clear FB1
  have F91 : Hid (MsgAt _ _ _) := Lib.hid (MsgAt.on F9.out hb); clear F9; have F9 := F91; clear F91
  have FW1 := Lib.hid (FW.out.trans (Below.mono hb FW.out.size)); clear FW; have FW := FW1; clear FW1
  have FS1 : Hid (w.heap.size + 2 ≤ _) := Lib.hid (Nat.le_trans FS.out (Below.size hb)); clear FS; have FS := FS1; clear FS1
  clear hr hb1 hm hb2 hb hi5 ho5
  go_upto_region 9 with (fail)
  obtain ⟨W6, hW⟩ : ∃ W, W = (w4.alloc (.cells #[.int .i64 2, .slice A5 1 c5] 64)).alloc (.cells #[.bool false, .int .i64 3, .int .i64 0, .int .i64 1, .int .i64 1, .int .i64 2, .string ⟨#[]⟩] 26) := ⟨_, rfl⟩
  rw [← hW] at FA FB FW FS HQ F9 HR F12 ⊢
  clear hW
  generalize w4.heap.size = b11 at *
  obtain ⟨Aq, cq, hqa, hqi, hqo⟩ := HR.out
  obtain ⟨y0, y1⟩ := hqa.cells
  have hpc := cut_var (Bs := [b11, b3]) hqi hqo (by intro x hx; simp only [List.mem_cons, List.mem_singleton, List.not_mem_nil, or_false] at hx; rcases hx with rfl | rfl; exact hqa.lt; exact HQ.out.lt) aw_take2.1 aw_take2.2.1 aw_take2.2.2 (takeQ_any 2 Aq cq [mA] W6 (HLL.out.below FW.out) hqi)
  simp only [mA, mB, mv, List.length_cons, List.length_nil, Nat.zero_add, Nat.reduceAdd] at y0 y1 hpc
  clear hqa hqi hqo
  go_wp2_with fail; refine hpc.mono ?_; rintro e w5 ⟨A5, c5, rfl, hi5, ho5, b5⟩
  clear y0 y1 hpc
  have FA1 : Hid (MsgAt _ _ _) := Lib.hid (MsgAt.on FA.out b5); clear FA; have FA := FA1; clear FA1
  have FB1 : Hid (MsgAt _ _ _) := Lib.hid (MsgAt.on FB.out b5); clear FB; have FB := FB1; clear FB1
  have F91 : Hid (MsgAt _ _ _) := Lib.hid (MsgAt.on F9.out b5); clear F9; have F9 := F91; clear F91
  have F121 : Hid (MsgAt _ _ _) := Lib.hid (MsgAt.on F12.out b5); clear F12; have F12 := F121; clear F121
  have HQ1 := Lib.hid (QVar.on HQ.out b5); clear HQ; have HQ := HQ1; clear HQ1
  have HR1 := Lib.hid (QVar.on HR.out b5); clear HR; have HR := HR1; clear HR1
  have FW1 := Lib.hid (FW.out.trans (Below.mono b5 FW.out.size)); clear FW; have FW := FW1; clear FW1
  have FS1 : Hid (w.heap.size + 2 ≤ _) := Lib.hid (Nat.le_trans FS.out (Below.size b5)); clear FS; have FS := FS1; clear FS1
  clear b5
  have hb := Joins.below_alloc1 w5 (.cells (mc zeroM) 26)
  have hm := MsgAt.new w5 zeroM
  have HI5 := Lib.hid (hi5.on hb); have HO5 := Lib.hid ho5
  have HNB : Hid (∀ ad, A5 = some ad → ad.block ≠ w5.heap.size) := Lib.hid (fun ad e => Nat.ne_of_lt (hi5.low ad e))
  have HQ1 := Lib.hid (QVar.more HQ.out hb); clear HQ; have HQ := HQ1; clear HQ1
  have HS14 : Hid (b3 < w5.heap.size ∧ b9 < w5.heap.size ∧ b11 < w5.heap.size ∧ b11 + 1 < w5.heap.size) := Lib.hid ⟨by have := HS11.out; have := HR.out.lt; omega, F9.out.lt, HR.out.lt, F12.out.lt⟩
  have FA1 : Hid (MsgAt _ _ _) := Lib.hid (MsgAt.on FA.out hb); clear FA; have FA := FA1; clear FA1
  have FB1 : Hid (MsgAt _ _ _) := Lib.hid (MsgAt.on FB.out hb); clear FB; have FB := FB1; clear FB1
  have F91 : Hid (MsgAt _ _ _) := Lib.hid (MsgAt.on F9.out hb); clear F9; have F9 := F91; clear F91
  have F121 : Hid (MsgAt _ _ _) := Lib.hid (MsgAt.on F12.out hb); clear F12; have F12 := F121; clear F121
  have HR1 := Lib.hid (QVar.on HR.out hb); clear HR; have HR := HR1; clear HR1
  have FW1 := Lib.hid (FW.out.trans (Below.mono hb FW.out.size)); clear FW; have FW := FW1; clear FW1
  have FS1 : Hid (w.heap.size + 2 ≤ _) := Lib.hid (Nat.le_trans FS.out (Below.size hb)); clear FS; have FS := FS1; clear FS1
  have F14 := Lib.hid hm
  simp only [mc, zeroM] at FA FB FW FS HQ F9 HR F12 F14 HI5
  obtain ⟨Aq, cq, hqa, hqi, hqo⟩ := HR.out
  obtain ⟨y0, y1⟩ := hqa.cells
  have yf := hqa.frozen
  simp only [mA, mB, mv, List.length_cons, List.length_nil, Nat.zero_add, Nat.reduceAdd] at y0 y1
  obtain ⟨z0, z1, z2, z3, z4, z5, z6⟩ := MsgAt.cells F14.out
  have zf := MsgAt.frozen F14.out
  have hne : b11 ≠ w5.heap.size := by have := HS14.out; omega
  have hne2 : ¬ w5.heap.size = b11 := by have := HS14.out; omega
  clear hqa hqi hqo hb hm hi5 ho5
  go_upto_region 10 with (fail)
  clear y0 y1 yf z0 z1 z2 z3 z4 z5 z6 zf hne hne2
  have FA1 := Lib.hid (msg_far7 (msg_far2 FA.out (b := b11) (by have := HB3.out; have := HS11.out; omega) (.int .i64 2) (.slice A5 0 c5)) (b := w5.heap.size) (by have := HB3.out; have := HS11.out; have := HS14.out; omega) mA); clear FA; have FA := FA1; clear FA1
  have FB1 := Lib.hid (msg_far7 (msg_far2 FB.out (b := b11) (by have := HB3.out; have := HS11.out; omega) (.int .i64 2) (.slice A5 0 c5)) (b := w5.heap.size) (by have := HB3.out; have := HS11.out; have := HS14.out; omega) mA); clear FB; have FB := FB1; clear FB1
  have F91 := Lib.hid (msg_far7 (msg_far2 F9.out (b := b11) (by have := HB3.out; have := HS11.out; omega) (.int .i64 2) (.slice A5 0 c5)) (b := w5.heap.size) (by have := HB3.out; have := HS11.out; have := HS14.out; omega) mA); clear F9; have F9 := F91; clear F91
  have F121 := Lib.hid (msg_far7 (msg_far2 F12.out (b := b11) (by have := HB3.out; have := HS11.out; omega) (.int .i64 2) (.slice A5 0 c5)) (b := w5.heap.size) (by have := HB3.out; have := HS11.out; have := HS14.out; omega) mA); clear F12; have F12 := F121; clear F121
  have F141 := Lib.hid (MsgAt.set7 (msg_far2 F14.out (b := b11) (by have := HS14.out; omega) (.int .i64 2) (.slice A5 0 c5)) mA); clear F14; have F14 := F141; clear F141
  have HQ1 := Lib.hid ((QVar.far HQ.out (b' := b11) (by simp) (by have := HS11.out; omega) (.int .i64 2) (.slice A5 0 c5)).far7 (b' := w5.heap.size) (by simp) (by have := HS14.out; omega) mA); clear HQ; have HQ := HQ1; clear HQ1
  have HR1 := Lib.hid (QVar.store7 HR.out (L' := 2) HI5.out HO5.out (by simp) HNB.out (by have := HS14.out; omega) mA); clear HR; have HR := HR1; clear HR1
  have FW1 := Lib.hid (below_set7 (below_set2 FW.out (b := b11) (by have := HB3.out; have := HS11.out; omega) (.int .i64 2) (.slice A5 0 c5)) (b := w5.heap.size) (by have := HB3.out; have := HS11.out; have := HS14.out; omega) mA); clear FW; have FW := FW1; clear FW1
  have FS1 : Hid (w.heap.size + 2 ≤ (set7 (((w5.alloc (.cells #[.bool false, .int .i64 0, .int .i64 0, .int .i64 0, .int .i64 0, .int .i64 0, .string ⟨#[]⟩] 26)).setCell ⟨b11, 0, none⟩ (.int .i64 2)).setCell ⟨b11, 1, none⟩ (.slice A5 0 c5)) w5.heap.size mA).heap.size) := Lib.hid (by rw [set7_size, set_sz2]; exact FS.out); clear FS; have FS := FS1; clear FS1
  simp only [set7, mA, mB, List.length_nil] at HQ HR FA FB F9 F12 F14 FW FS
  clear HI5
  obtain ⟨W7, hW⟩ : ∃ W, W = ((((((((((w5.alloc (.cells #[.bool false, .int .i64 0, .int .i64 0, .int .i64 0, .int .i64 0, .int .i64 0, .string ⟨#[]⟩] 26)).setCell ⟨b11, 0, none⟩ (.int .i64 2)).setCell ⟨b11, 1, none⟩ (.slice A5 0 c5)).setCell ⟨w5.heap.size, 0, none⟩ (.bool false)).setCell ⟨w5.heap.size, 1, none⟩ (.int .i64 5)).setCell ⟨w5.heap.size, 2, none⟩ (.int .i64 0)).setCell ⟨w5.heap.size, 3, none⟩ (.int .i64 1)).setCell ⟨w5.heap.size, 4, none⟩ (.int .i64 1)).setCell ⟨w5.heap.size, 5, none⟩ (.int .i64 1)).setCell ⟨w5.heap.size, 6, none⟩ (.string ⟨#[]⟩)) := ⟨_, rfl⟩
  rw [← hW] at FA FB FW FS HQ F9 HR F12 F14 ⊢
  clear hW
  generalize w5.heap.size = b14 at *
  clear HNB HO5
  obtain ⟨Aq, cq, hqa, hqi, hqo⟩ := HR.out
  obtain ⟨y0, y1⟩ := hqa.cells
  have hpc := cut_var (Bs := []) hqi (fun x hx => by cases hx) (fun x hx => by cases hx) aw_take3.1 aw_take3.2.1 aw_take3.2.2 (takeQ_any 2 Aq cq [] W7 (HLL.out.below FW.out) hqi)
  simp only [mA, mB, mv, List.length_cons, List.length_nil, Nat.zero_add, Nat.reduceAdd, zeroM] at y0 y1 hpc
  clear hqa hqi hqo HR
  go_wp2_with fail; refine hpc.mono ?_; rintro e w6 ⟨A5, c5, rfl, hi5, ho5, b5⟩
  clear y0 y1 hpc hi5 ho5
  have FA1 : Hid (MsgAt _ _ _) := Lib.hid (MsgAt.on FA.out b5); clear FA; have FA := FA1; clear FA1
  have FB1 : Hid (MsgAt _ _ _) := Lib.hid (MsgAt.on FB.out b5); clear FB; have FB := FB1; clear FB1
  have F91 : Hid (MsgAt _ _ _) := Lib.hid (MsgAt.on F9.out b5); clear F9; have F9 := F91; clear F91
  have F121 : Hid (MsgAt _ _ _) := Lib.hid (MsgAt.on F12.out b5); clear F12; have F12 := F121; clear F121
  have F141 : Hid (MsgAt _ _ _) := Lib.hid (MsgAt.on F14.out b5); clear F14; have F14 := F141; clear F141
  have HQ1 := Lib.hid (QVar.on HQ.out b5); clear HQ; have HQ := HQ1; clear HQ1
  have FW1 := Lib.hid (FW.out.trans (Below.mono b5 FW.out.size)); clear FW; have FW := FW1; clear FW1
  have FS1 : Hid (w.heap.size + 2 ≤ _) := Lib.hid (Nat.le_trans FS.out (Below.size b5)); clear FS; have FS := FS1; clear FS1
  clear b5
  have hb := (Joins.below_alloc1 w6 (.cells #[.int .i64 2, .slice A5 0 c5] 64)).trans ((Joins.below_alloc1 (w6.alloc (.cells #[.int .i64 2, .slice A5 0 c5] 64)) (.cells #[.bool false, .int .i64 0, .int .i64 0, .int .i64 0, .int .i64 0, .int .i64 0, .string ⟨#[]⟩] 26)).mono (Joins.below_alloc1 w6 (.cells #[.int .i64 2, .slice A5 0 c5] 64)).size)
  have FA1 : Hid (MsgAt _ _ _) := Lib.hid (MsgAt.on FA.out hb); clear FA; have FA := FA1; clear FA1
  have FB1 : Hid (MsgAt _ _ _) := Lib.hid (MsgAt.on FB.out hb); clear FB; have FB := FB1; clear FB1
  have F91 : Hid (MsgAt _ _ _) := Lib.hid (MsgAt.on F9.out hb); clear F9; have F9 := F91; clear F91
  have F121 : Hid (MsgAt _ _ _) := Lib.hid (MsgAt.on F12.out hb); clear F12; have F12 := F121; clear F121
  have F141 : Hid (MsgAt _ _ _) := Lib.hid (MsgAt.on F14.out hb); clear F14; have F14 := F141; clear F141
  have HQ1 := Lib.hid (QVar.on HQ.out hb); clear HQ; have HQ := HQ1; clear HQ1
  have FW1 := Lib.hid (FW.out.trans (Below.mono hb FW.out.size)); clear FW; have FW := FW1; clear FW1
  have FS1 : Hid (w.heap.size + 2 ≤ _) := Lib.hid (Nat.le_trans FS.out (Below.size hb)); clear FS; have FS := FS1; clear FS1
  clear hb
  go_upto_region 11 with (fail)
  obtain ⟨W8, hW⟩ : ∃ W, W = (w6.alloc (.cells #[.int .i64 2, .slice A5 0 c5] 64)).alloc (.cells #[.bool false, .int .i64 0, .int .i64 0, .int .i64 0, .int .i64 0, .int .i64 0, .string ⟨#[]⟩] 26) := ⟨_, rfl⟩
  rw [← hW] at FA FB FW FS HQ F9 F12 F14 ⊢
  clear hW
  obtain ⟨Aq, cq, hqa, hqi, hqo⟩ := HQ.out
  obtain ⟨y0, y1⟩ := hqa.cells
  have hpc := abortQ_any 2 Aq cq [mB, mA] 1 W8 (HLL.out.below FW.out) hqi
  rw [aw_find] at hpc
  have hpc := cut_var (Bs := []) hqi (fun x hx => by cases hx) (fun x hx => by cases hx) aw_abort.1 aw_abort.2.1 aw_abort.2.2 hpc
  simp only [mA, mB, mv, List.length_cons, List.length_nil, Nat.zero_add, Nat.reduceAdd, zeroM] at y0 y1 hpc
  clear hqa hqi hqo
  go_wp2_with fail; refine hpc.mono ?_; rintro e w7 ⟨A5, c5, rfl, hi5, ho5, b5⟩
  clear y0 y1 hpc hi5 ho5
  have FA1 : Hid (MsgAt _ _ _) := Lib.hid (MsgAt.on FA.out b5); clear FA; have FA := FA1; clear FA1
  have FB1 : Hid (MsgAt _ _ _) := Lib.hid (MsgAt.on FB.out b5); clear FB; have FB := FB1; clear FB1
  have F91 : Hid (MsgAt _ _ _) := Lib.hid (MsgAt.on F9.out b5); clear F9; have F9 := F91; clear F91
  have F121 : Hid (MsgAt _ _ _) := Lib.hid (MsgAt.on F12.out b5); clear F12; have F12 := F121; clear F121
  have F141 : Hid (MsgAt _ _ _) := Lib.hid (MsgAt.on F14.out b5); clear F14; have F14 := F141; clear F141
  have HQ1 := Lib.hid (QVar.on HQ.out b5); clear HQ; have HQ := HQ1; clear HQ1
  have FW1 := Lib.hid (FW.out.trans (Below.mono b5 FW.out.size)); clear FW; have FW := FW1; clear FW1
  have FS1 : Hid (w.heap.size + 2 ≤ _) := Lib.hid (Nat.le_trans FS.out (Below.size b5)); clear FS; have FS := FS1; clear FS1
  clear b5
  have hb := (Joins.below_alloc1 w7 (.cells #[.int .i64 2, .slice A5 1 c5] 64)).trans ((Joins.below_alloc1 (w7.alloc (.cells #[.int .i64 2, .slice A5 1 c5] 64)) (.cells #[.bool false, .int .i64 5, .int .i64 0, .int .i64 1, .int .i64 1, .int .i64 1, .string ⟨#[]⟩] 26)).mono (Joins.below_alloc1 w7 (.cells #[.int .i64 2, .slice A5 1 c5] 64)).size)
  have FA1 : Hid (MsgAt _ _ _) := Lib.hid (MsgAt.on FA.out hb); clear FA; have FA := FA1; clear FA1
  have FB1 : Hid (MsgAt _ _ _) := Lib.hid (MsgAt.on FB.out hb); clear FB; have FB := FB1; clear FB1
  have F91 : Hid (MsgAt _ _ _) := Lib.hid (MsgAt.on F9.out hb); clear F9; have F9 := F91; clear F91
  have F121 : Hid (MsgAt _ _ _) := Lib.hid (MsgAt.on F12.out hb); clear F12; have F12 := F121; clear F121
  have F141 : Hid (MsgAt _ _ _) := Lib.hid (MsgAt.on F14.out hb); clear F14; have F14 := F141; clear F141
  have HQ1 := Lib.hid (QVar.on HQ.out hb); clear HQ; have HQ := HQ1; clear HQ1
  have FW1 := Lib.hid (FW.out.trans (Below.mono hb FW.out.size)); clear FW; have FW := FW1; clear FW1
  have FS1 : Hid (w.heap.size + 2 ≤ _) := Lib.hid (Nat.le_trans FS.out (Below.size hb)); clear FS; have FS := FS1; clear FS1
  clear hb
  have F20 : Hid (MsgAt _ _ mA) := Lib.hid (MsgAt.new (w7.alloc (.cells #[.int .i64 2, .slice A5 1 c5] 64)) mA)
  simp only [mA, mB, mc, World.size_alloc] at FA FB F9 F12 F14 F20
  go_upto_region 12 with (fail)
  obtain ⟨W9, hW⟩ : ∃ W, W = (w7.alloc (.cells #[.int .i64 2, .slice A5 1 c5] 64)).alloc (.cells #[.bool false, .int .i64 5, .int .i64 0, .int .i64 1, .int .i64 1, .int .i64 1, .string ⟨#[]⟩] 26) := ⟨_, rfl⟩
  rw [← hW] at FA FB FW FS HQ F9 F12 F14 F20 ⊢
  clear hW
  have cn := HC0.out
  go_wp2_with fail; refine (cn _).mono ?_; rintro e w8 ⟨rfl, b5⟩
  have FA1 : Hid (MsgAt _ _ _) := Lib.hid (MsgAt.on FA.out b5); clear FA; have FA := FA1; clear FA1
  have FB1 : Hid (MsgAt _ _ _) := Lib.hid (MsgAt.on FB.out b5); clear FB; have FB := FB1; clear FB1
  have F91 : Hid (MsgAt _ _ _) := Lib.hid (MsgAt.on F9.out b5); clear F9; have F9 := F91; clear F91
  have F121 : Hid (MsgAt _ _ _) := Lib.hid (MsgAt.on F12.out b5); clear F12; have F12 := F121; clear F121
  have F141 : Hid (MsgAt _ _ _) := Lib.hid (MsgAt.on F14.out b5); clear F14; have F14 := F141; clear F141
  have F201 : Hid (MsgAt _ _ _) := Lib.hid (MsgAt.on F20.out b5); clear F20; have F20 := F201; clear F201
  have HQ1 := Lib.hid (QVar.on HQ.out b5); clear HQ; have HQ := HQ1; clear HQ1
  have FW1 := Lib.hid (FW.out.trans (Below.mono b5 FW.out.size)); clear FW; have FW := FW1; clear FW1
  have FS1 : Hid (w.heap.size + 2 ≤ _) := Lib.hid (Nat.le_trans FS.out (Below.size b5)); clear FS; have FS := FS1; clear FS1
  clear b5 cn
  have hb := Joins.below_alloc1 w8 (.cells #[.int .i64 0, .slice none 0 0] 64)
  have FA1 : Hid (MsgAt _ _ _) := Lib.hid (MsgAt.on FA.out hb); clear FA; have FA := FA1; clear FA1
  have FB1 : Hid (MsgAt _ _ _) := Lib.hid (MsgAt.on FB.out hb); clear FB; have FB := FB1; clear FB1
  have F91 : Hid (MsgAt _ _ _) := Lib.hid (MsgAt.on F9.out hb); clear F9; have F9 := F91; clear F91
  have F121 : Hid (MsgAt _ _ _) := Lib.hid (MsgAt.on F12.out hb); clear F12; have F12 := F121; clear F121
  have F141 : Hid (MsgAt _ _ _) := Lib.hid (MsgAt.on F14.out hb); clear F14; have F14 := F141; clear F141
  have F201 : Hid (MsgAt _ _ _) := Lib.hid (MsgAt.on F20.out hb); clear F20; have F20 := F201; clear F201
  have HQ1 := Lib.hid (QVar.on HQ.out hb); clear HQ; have HQ := HQ1; clear HQ1
  have FW1 := Lib.hid (FW.out.trans (Below.mono hb FW.out.size)); clear FW; have FW := FW1; clear FW1
  have FS1 : Hid (w.heap.size + 2 ≤ _) := Lib.hid (Nat.le_trans FS.out (Below.size hb)); clear FS; have FS := FS1; clear FS1
  clear hb
  go_upto_region 13 with (fail)
  obtain ⟨W10, hW⟩ : ∃ W, W = w8.alloc (.cells #[.int .i64 0, .slice none 0 0] 64) := ⟨_, rfl⟩
  rw [← hW] at FA FB FW FS HQ F9 F12 F14 F20 ⊢
  clear hW
  obtain ⟨a0, a1, a2, a3, a4, a5, a6⟩ := MsgAt.cells FA.out
  obtain ⟨b0, b1, b2, b3, b4, b5, b6⟩ := MsgAt.cells FB.out
  obtain ⟨c0, c1, c2, c3, c4, c5, c6⟩ := MsgAt.cells F9.out
  obtain ⟨d0, d1, d2, d3, d4, d5, d6⟩ := MsgAt.cells F12.out
  obtain ⟨f0, f1, f2, f3, f4, f5, f6⟩ := MsgAt.cells F14.out
  obtain ⟨g0, g1, g2, g3, g4, g5, g6⟩ := MsgAt.cells F20.out
  obtain ⟨Aq, cq, hqa, hqi, hqo⟩ := HQ.out
  obtain ⟨y0, y1⟩ := hqa.cells
  have hpc := rightQ_any 2 Aq cq [mB, mA] W10 (HLL.out.below FW.out) hqi
  rw [aw_right] at hpc
  obtain ⟨⟨eb, ea⟩, fb, fa⟩ := HE.out
  simp only [mA, mB, mv, List.length_cons, List.length_nil, Nat.zero_add, Nat.reduceAdd] at *
  clear hqa hqi hqo
  go_wp2_with fail; refine hpc.mono ?_; rintro e w9 ⟨rfl, b5⟩
  have HZ := Lib.hid (FW.out.trans (b5.mono FW.out.size)); clear b5 hpc
  go_wp2_with fail
  go_ret
  exact ⟨rfl, HZ.out⟩

end Go.Proofs.YtehajmockicilaaDoor

/-
  Variables that are fifos; the calls, of a fifo in a variable; the law's first calls: awake.
-/
import Derived.Test.YtehajmockicilaaDoorFifTakeP
import Derived.Test.YtehajmockicilaaDoorMsgEq
import Derived.Deep.DeepCutAuto
namespace Go.Proofs.YtehajmockicilaaDoor
open Go Go.RowKit

theorem FiAt.not_at {w : World} {g : Nat} {L T : Int} {A : Option Addr} {n c : Nat} (h : FiAt w g L T A n c) {b k : Nat} {v : Value} (hc : w.cell? ⟨b, k + 3, none⟩ = some v) : b ≠ g := by
  intro e
  subst e
  rw [cell_of h (k + 3)] at hc
  simp [fic] at hc
/-- A fifo's box is no list's block. -/
theorem QIn.farF {w : World} {A A0 : Option Addr} {c b n0 c0 : Nat} {L0 T0 : Int} {l : List Msg} (h : QIn w A c l) (hb : FiAt w b L0 T0 A0 n0 c0) (x y z : Value) : QIn (set3 w b x y z) A c l := by
  refine ⟨fun hn => ?_, h.cap, h.few, h.data, fun ad e => by rw [size3]; exact h.low ad e⟩
  obtain ⟨ad, e, hbl, hc⟩ := h.msgs hn
  have h0 := hc 0 l[0] (List.getElem?_eq_getElem hn)
  have hne : ad.block ≠ b := by
    have h00 := h0.2.2.2.1
    rw [Nat.zero_mul, adb] at h00
    exact hb.not_at h00
  refine ⟨ad, e, by rw [size3]; exact hbl, fun j m hm => (hc j m hm).keep fun q hq => World.cell?_of_block ?_⟩
  rw [hq, adb]
  exact far3 w x y z hne
/-- Box b holds a fifo, whose list is known. -/
def FVar (w : World) (b : Nat) (L T : Int) (l : List Msg) : Prop := ∃ A c, FiAt w b L T A l.length c ∧ QIn w A c l
theorem FVar.on {w w' : World} {b : Nat} {L T : Int} {l : List Msg} (h : FVar w b L T l) (hb : Below w.heap.size w w') : FVar w' b L T l := by
  obtain ⟨A, c, h1, h2⟩ := h
  exact ⟨A, c, h1.on hb, h2.on hb⟩
theorem FVar.lt {w : World} {b : Nat} {L T : Int} {l : List Msg} (h : FVar w b L T l) : b < w.heap.size := by
  obtain ⟨A, c, h1, _⟩ := h; exact h1.lt
theorem FVar.new {w : World} {L T : Int} {l : List Msg} {A : Option Addr} {c : Nat} (h : QIn w A c l) : FVar (w.alloc (.cells #[.int .i64 L, .int .i64 T, .slice A l.length c] 30)) w.heap.size L T l :=
  ⟨A, c, FiAt.new w L T A l.length c, h.on (Joins.below_alloc1 w _)⟩
/-- A fifo's variable set anew. -/
theorem FVar.store {w : World} {b : Nat} {L T L' T' : Int} {l l' : List Msg} {A' : Option Addr} {c' : Nat} (h : FVar w b L T l) (ht : QIn w A' c' l') : FVar (set3 w b (.int .i64 L') (.int .i64 T') (.slice A' l'.length c')) b L' T' l' := by
  obtain ⟨A, c, h1, h2⟩ := h
  exact ⟨A', c', h1.set L' T' A' l'.length c', ht.farF h1 _ _ _⟩
/-- Another one's. -/
theorem FVar.far {w : World} {b b' : Nat} {L T L2 T2 : Int} {l l2 : List Msg} (h : FVar w b L T l) (h' : FVar w b' L2 T2 l2) (hn : b ≠ b') (x y z : Value) : FVar (set3 w b' x y z) b L T l := by
  obtain ⟨A, c, h1, h2⟩ := h
  obtain ⟨A2, c2, h3, _⟩ := h'
  exact ⟨A, c, h1.put3 hn x y z, h2.farF h3 x y z⟩

/-! ## The calls, of a fifo in a variable -/
theorem offL_length (L T : Int) (l : List Msg) (m : Msg) (th : Bool) : (offFiL L T l m th).length ≤ l.length + 1 := by
  unfold offFiL
  split
  · rw [List.length_append]; simp
  · omega
theorem offL_mem {L T : Int} {l : List Msg} {m : Msg} {th : Bool} {x : Msg} (h : x ∈ offFiL L T l m th) : x ∈ l ∨ x = m := by
  unfold offFiL at h
  split at h
  · rcases List.mem_append.1 h with h | h
    · exact .inl h
    · exact .inr (List.mem_singleton.1 h)
  · exact .inl h
theorem takL_length (L T : Int) (l : List Msg) : (takeFiL L T l).length ≤ l.length := by
  unfold takeFiL
  split
  · rw [List.length_tail]; omega
  · omega
theorem takL_mem {L T : Int} {l : List Msg} {x : Msg} (h : x ∈ takeFiL L T l) : x ∈ l := by
  unfold takeFiL at h
  split at h
  · exact List.mem_of_mem_tail h
  · exact h
def FiIn (L T' : Int) (l' : List Msg) (H E : Int) (w : World) (e : Ending) (w' : World) : Prop := ∃ A' c', e = .returned (.tuple #[fiv L T' A' l'.length c', .int .i64 H, .int .i64 E]) ∧ QIn w' A' c' l' ∧ Below w.heap.size w w'
def FiInM (L T' : Int) (l' : List Msg) (m : Msg) (E : Int) (w : World) (e : Ending) (w' : World) : Prop := ∃ A' c', e = .returned (.tuple #[fiv L T' A' l'.length c', mv m, .int .i64 E]) ∧ QIn w' A' c' l' ∧ Below w.heap.size w w'
theorem FiPost.inn {A : Option Addr} {L T' : Int} {l' : List Msg} {H E : Int} {w w' : World} {e : Ending} (h : FiPost A L T' l' H E w e w') (hl : l'.length ≤ 200) (hd : ∀ m ∈ l', m.data.size ≤ 140737488351232) : FiIn L T' l' H E w e w' := by
  obtain ⟨A', c', h1, h2, h3⟩ := h
  exact ⟨A', c', h1, h2.qin hl hd, h3⟩
theorem FiPostM.inn {A : Option Addr} {L T' : Int} {l' : List Msg} {m : Msg} {E : Int} {w w' : World} {e : Ending} (h : FiPostM A L T' l' m E w e w') (hl : l'.length ≤ 200) (hd : ∀ m ∈ l', m.data.size ≤ 140737488351232) : FiInM L T' l' m E w e w' := by
  obtain ⟨A', c', h1, h2, h3⟩ := h
  exact ⟨A', c', h1, h2.qin hl hd, h3⟩
theorem offer_in (L T : Int) (A : Option Addr) (c : Nat) (l : List Msg) (m : Msg) (AF : Option Addr) (cf : Nat) (fs : List (Bool × Int × Int)) (w : World) (LL : Laid w) (hq : QIn w A c l) (h199 : l.length ≤ 199) (hd : m.data.size ≤ 140737488351232) (hf : LieIn w AF fs) (hfl : fs.length ≤ 281474976710656) :
    Calls Tryd.prog 25 #[fiv L T A l.length c, mv m, .slice AF fs.length cf] w (FiIn L (offFiT L T l m (anyI m.ext m.n fs)) (offFiL L T l m (anyI m.ext m.n fs)) (offFiH L T l m (anyI m.ext m.n fs)) (offFiE L T l m) w) :=
  (offer_any L T A c l m AF cf fs w LL hq hd hf hfl).mono fun _ _ h => h.inn (Nat.le_trans (offL_length _ _ _ _ _) (by omega)) fun x hx => (offL_mem hx).elim (hq.data x) fun e => e ▸ hd
theorem take_in (L T : Int) (A : Option Addr) (c : Nat) (l : List Msg) (w : World) (LL : Laid w) (hq : QIn w A c l) :
    Calls Tryd.prog 17 #[fiv L T A l.length c] w (FiInM L T (takeFiL L T l) (takeFiM L T l) (takeFiE L T l) w) :=
  (takeFi_any L T A c l w LL hq).mono fun _ _ h => h.inn (Nat.le_trans (takL_length _ _ _) hq.few) fun x hx => hq.data x (takL_mem hx)
theorem lost_in (L T : Int) (A : Option Addr) (c : Nat) (l : List Msg) (w : World) (LL : Laid w) (hq : QIn w A c l) :
    Calls Tryd.prog 19 #[fiv L T A l.length c] w (FiIn L (lostFiT L T l) l (lostFiN L T l) (lostFiE L T l) w) :=
  (lostFi_any L T A c l w LL hq).mono fun _ _ h => h.inn hq.few hq.data
/-- A slice of one filter. -/
theorem LieIn.one {w : World} {g : Nat} {a : Bool} {x y : Int} (h : w.heap[g]? = some (.cells #[.bool a, .int .i64 x, .int .i64 y] 58 (0, 0))) : LieIn w (some ⟨g, 0, none⟩) [(a, x, y)] :=
  .inr ⟨_, rfl, (Array.getElem?_eq_some_iff.1 h).1, fun i f hf => by
    cases i with
    | zero => cases hf; exact ⟨cell_of h 0, cell_of h 1, cell_of h 2⟩
    | succ i => cases hf⟩
theorem lie_nil (w : World) : LieIn w none [] := .inl ⟨rfl, rfl⟩

def mA4 : Msg := ⟨false, 5, 0, 1, 1, 1, ⟨#[]⟩⟩
def mB4 : Msg := ⟨false, 3, 0, 1, 1, 2, ⟨#[]⟩⟩
theorem fw_1 : offFiT 1 0 [] mA4 (anyI false 5 [(false, 0, 0)]) = 0 ∧ offFiL 1 0 [] mA4 (anyI false 5 [(false, 0, 0)]) = [mA4] ∧ offFiH 1 0 [] mA4 (anyI false 5 [(false, 0, 0)]) = 1 ∧ offFiE 1 0 [] mA4 = 0 := ⟨by kernel_rfl, by kernel_rfl, by kernel_rfl, by kernel_rfl⟩
theorem fw_2 : offFiT 1 0 [mA4] mB4 (anyI false 3 [(false, 0, 0)]) = 1 ∧ offFiL 1 0 [mA4] mB4 (anyI false 3 [(false, 0, 0)]) = [mA4] ∧ offFiH 1 0 [mA4] mB4 (anyI false 3 [(false, 0, 0)]) = 2 ∧ offFiE 1 0 [mA4] mB4 = 0 := ⟨by kernel_rfl, by kernel_rfl, by kernel_rfl, by kernel_rfl⟩
theorem fw_3 : offFiT 1 1 [mA4] mB4 (anyI false 3 []) = 1 ∧ offFiL 1 1 [mA4] mB4 (anyI false 3 []) = [mA4] ∧ offFiH 1 1 [mA4] mB4 (anyI false 3 []) = 0 ∧ offFiE 1 1 [mA4] mB4 = 0 := ⟨by kernel_rfl, by kernel_rfl, by kernel_rfl, by kernel_rfl⟩
theorem fw_4 : takeFiL 1 1 [mA4] = [] ∧ takeFiM 1 1 [mA4] = mA4 ∧ takeFiE 1 1 [mA4] = 0 := ⟨by kernel_rfl, by kernel_rfl, by kernel_rfl⟩
theorem fw_5 : takeFiL 1 1 [] = [] ∧ takeFiM 1 1 [] = zeroM ∧ takeFiE 1 1 [] = 41 := ⟨by kernel_rfl, by kernel_rfl, by kernel_rfl⟩
theorem fw_6 : lostFiT 1 1 [] = 0 ∧ lostFiN 1 1 [] = 1 ∧ lostFiE 1 1 [] = 0 := ⟨by kernel_rfl, by kernel_rfl, by kernel_rfl⟩
theorem fw_7 : lostFiT 1 0 [] = 0 ∧ lostFiN 1 0 [] = 0 ∧ lostFiE 1 0 [] = 0 := ⟨by kernel_rfl, by kernel_rfl, by kernel_rfl⟩
theorem fw_8 : newL 1 = 1 ∧ newE 1 = 0 ∧ newL 0 = 0 ∧ newE 0 = 1 ∧ rightFi 1 1 [] = true := ⟨by kernel_rfl, by kernel_rfl, by kernel_rfl, by kernel_rfl, by kernel_rfl⟩

set_option maxRecDepth 100000 in
set_option maxHeartbeats 8000000 in
set_option linter.unusedSimpArgs false in
theorem fiAwake_any (w : World) (LL : Laid w) : Calls Tryd.prog 10 #[] w fun e w' => e = .returned (.bool true) ∧ Below w.heap.size w w' := by
  have hm1 := MsgAt.new w mA4
  have hb1 := Joins.below_alloc1 w (.cells (mc mA4) 26)
  have hm2 := MsgAt.new (w.alloc (.cells (mc mA4) 26)) mB4
  have hb2 := Joins.below_alloc1 (w.alloc (.cells (mc mA4) 26)) (.cells (mc mB4) 26)
  rw [World.size_alloc] at hm2
  have hsz : ((w.alloc (.cells (mc mA4) 26)).alloc (.cells (mc mB4) 26)).heap.size = w.heap.size + 2 := by simp only [World.size_alloc]
  have FA := Lib.hid (hm1.on hb2)
  have FB : Hid (MsgAt _ (w.heap.size + 1) mB4) := Lib.hid hm2
  have FW := Lib.hid (hb1.trans (hb2.mono hb1.size))
  have FS := Lib.hid (Nat.le_of_eq hsz.symm)
  have HLL := Lib.hid LL
  clear hm1 hb1 hm2 hb2 hsz LL
  have cn1 := fun W => fiNew_any 1 W
  rw [fw_8.1, fw_8.2.1] at cn1
  have cn0 := fun W => fiNew_any 0 W
  rw [fw_8.2.2.1, fw_8.2.2.2.1] at cn0
  have HC1 := Lib.hid cn1
  have HC0 := Lib.hid cn0
  clear cn1 cn0
  simp only [mA4, mB4, mc] at FA FB FW FS
  have ea := fun x y W => eqM_guard .eql x y mA4 mA4 W
  have fa := eqlM mA4 mA4
  rw [show sameM mA4 mA4 = true by kernel_rfl] at fa
  have HE := Lib.hid (And.intro ea fa)
  clear ea fa
  go_enter Tryd.func10, Tryd.ntmps10
  have cn := HC1.out
  go_wp2_with fail; refine (cn _).mono ?_; rintro e w1 ⟨rfl, b1⟩
  have FA1 : Hid (MsgAt _ _ _) := Lib.hid (MsgAt.on FA.out b1); clear FA; have FA := FA1; clear FA1
  have FB1 : Hid (MsgAt _ _ _) := Lib.hid (MsgAt.on FB.out b1); clear FB; have FB := FB1; clear FB1
  have FW1 := Lib.hid (FW.out.trans (Below.mono b1 FW.out.size)); clear FW; have FW := FW1; clear FW1
  have FS1 : Hid (w.heap.size + 2 ≤ _) := Lib.hid (Nat.le_trans FS.out (Below.size b1)); clear FS; have FS := FS1; clear FS1
  have hb := Joins.below_alloc1 w1 (.cells #[.int .i64 1, .int .i64 0, .slice none 0 0] 30)
  have hq := FVar.new (w := w1) (L := 1) (T := 0) (l := []) (A := none) (c := 0) ⟨Msgs.nil _ _ _, Nat.le_refl _, by decide, (fun m h => by cases h), fun ad e => by cases e⟩
  have HQ := Lib.hid hq
  have HB3 : Hid (w.heap.size + 2 ≤ w1.heap.size) := Lib.hid FS.out
  have FA1 : Hid (MsgAt _ _ _) := Lib.hid (MsgAt.on FA.out hb); clear FA; have FA := FA1; clear FA1
  have FB1 : Hid (MsgAt _ _ _) := Lib.hid (MsgAt.on FB.out hb); clear FB; have FB := FB1; clear FB1
  have FW1 := Lib.hid (FW.out.trans (Below.mono hb FW.out.size)); clear FW; have FW := FW1; clear FW1
  have FS1 : Hid (w.heap.size + 2 ≤ _) := Lib.hid (Nat.le_trans FS.out (Below.size hb)); clear FS; have FS := FS1; clear FS1
  clear hb hq b1 cn
  obtain ⟨W1, hW1⟩ : ∃ W, W = w1.alloc (.cells #[.int .i64 1, .int .i64 0, .slice none 0 0] 30) := ⟨_, rfl⟩
  simp only [List.length_nil] at HQ
  rw [← hW1] at FA FB FW FS HQ
  go_upto_region 4 with (fail)
  rw [← hW1]
  clear hW1
  generalize hb3 : w1.heap.size = b3 at *
  clear hb3
  have hb := Joins.below_alloc1 W1 (.cells #[.bool false, .int .i64 0, .int .i64 0] 58)
  have hlie : LieIn (W1.alloc (.cells #[.bool false, .int .i64 0, .int .i64 0] 58)) (some ⟨W1.heap.size, 0, none⟩) [(false, 0, 0)] := LieIn.one (heap_alloc_new W1 _)
  obtain ⟨Aq, cq, hqa, hqi⟩ := HQ.out
  obtain ⟨y0, y1, y2⟩ := hqa.cells
  obtain ⟨x0, x1, x2, x3, x4, x5, x6⟩ := MsgAt.cells FA.out
  have hpc := offer_in 1 0 Aq cq [] mA4 (some ⟨W1.heap.size, 0, none⟩) 1 [(false, 0, 0)] (W1.alloc (.cells #[.bool false, .int .i64 0, .int .i64 0] 58)) (HLL.out.below (FW.out.trans (hb.mono FW.out.size))) (hqi.on hb) (by decide) (by decide) hlie (by decide)
  rw [show anyI (mA4).ext (mA4).n [(false, 0, 0)] = anyI false 5 [(false, 0, 0)] from rfl, fw_1.1, fw_1.2.1, fw_1.2.2.1, fw_1.2.2.2] at hpc
  simp only [mA4, mB4, mv, List.length_cons, List.length_nil, Nat.zero_add, Nat.reduceAdd] at x0 x1 x2 x3 x4 x5 x6 y0 y1 y2 hpc
  clear hqa hqi hlie
  have FA1 : Hid (MsgAt _ _ _) := Lib.hid (MsgAt.on FA.out hb); clear FA; have FA := FA1; clear FA1
  have FB1 : Hid (MsgAt _ _ _) := Lib.hid (MsgAt.on FB.out hb); clear FB; have FB := FB1; clear FB1
  have HQ1 := Lib.hid (FVar.on HQ.out hb); clear HQ; have HQ := HQ1; clear HQ1
  have FW1 := Lib.hid (FW.out.trans (Below.mono hb FW.out.size)); clear FW; have FW := FW1; clear FW1
  have FS1 : Hid (w.heap.size + 2 ≤ _) := Lib.hid (Nat.le_trans FS.out (Below.size hb)); clear FS; have FS := FS1; clear FS1
  clear hb
  go_wp2_with fail
  refine hpc.mono ?_; rintro e w2 ⟨A5, c5, rfl, hi5, b5⟩
  clear x0 x1 x2 x3 x4 x5 x6 y0 y1 y2 hpc
  have FA1 : Hid (MsgAt _ _ _) := Lib.hid (MsgAt.on FA.out b5); clear FA; have FA := FA1; clear FA1
  have FB1 : Hid (MsgAt _ _ _) := Lib.hid (MsgAt.on FB.out b5); clear FB; have FB := FB1; clear FB1
  have HQ1 := Lib.hid (FVar.on HQ.out b5); clear HQ; have HQ := HQ1; clear HQ1
  have FW1 := Lib.hid (FW.out.trans (Below.mono b5 FW.out.size)); clear FW; have FW := FW1; clear FW1
  have FS1 : Hid (w.heap.size + 2 ≤ _) := Lib.hid (Nat.le_trans FS.out (Below.size b5)); clear FS; have FS := FS1; clear FS1
  have HI5 := Lib.hid hi5; clear b5 hi5
  obtain ⟨Aq, cq, hqa, hqi⟩ := HQ.out
  obtain ⟨y0, y1, y2⟩ := hqa.cells
  have yf := hqa.frozen
  simp only [mA4, mB4, mv, List.length_cons, List.length_nil, Nat.zero_add, Nat.reduceAdd] at y0 y1 y2
  have HQ1 := Lib.hid (FVar.store HQ.out (L' := 1) (T' := 0) HI5.out); clear HQ; have HQ := HQ1; clear HQ1
  have FA1 := Lib.hid (MsgAt.put3 FA.out (b := b3) (by have := HB3.out; omega) (.int .i64 1) (.int .i64 0) (.slice A5 1 c5)); clear FA; have FA := FA1; clear FA1
  have FB1 := Lib.hid (MsgAt.put3 FB.out (b := b3) (by have := HB3.out; omega) (.int .i64 1) (.int .i64 0) (.slice A5 1 c5)); clear FB; have FB := FB1; clear FB1
  have FW1 := Lib.hid (below_set3 FW.out (b := b3) (by have := HB3.out; omega) (.int .i64 1) (.int .i64 0) (.slice A5 1 c5)); clear FW; have FW := FW1; clear FW1
  have FS1 : Hid (w.heap.size + 2 ≤ (set3 w2 b3 (.int .i64 1) (.int .i64 0) (.slice A5 1 c5)).heap.size) := Lib.hid (by rw [size3]; exact FS.out); clear FS; have FS := FS1; clear FS1
  go_upto_region 5 with (fail)
  clear y0 y1 y2 yf hqa hqi HI5
  simp only [mA4, mB4, mv, List.length_cons, List.length_nil, Nat.zero_add, Nat.reduceAdd] at HQ
  simp only [set3] at FA FB FW FS HQ
  obtain ⟨W1n, hW⟩ : ∃ W, W = ((w2.setCell ⟨b3, 0, none⟩ (.int .i64 1)).setCell ⟨b3, 1, none⟩ (.int .i64 0)).setCell ⟨b3, 2, none⟩ (.slice A5 1 c5) := ⟨_, rfl⟩
  rw [← hW] at FA FB FW FS HQ ⊢
  clear hW
  have hb := Joins.below_alloc1 W1n (.cells #[.bool false, .int .i64 0, .int .i64 0] 58)
  have hlie : LieIn (W1n.alloc (.cells #[.bool false, .int .i64 0, .int .i64 0] 58)) (some ⟨W1n.heap.size, 0, none⟩) [(false, 0, 0)] := LieIn.one (heap_alloc_new W1n _)
  obtain ⟨Aq, cq, hqa, hqi⟩ := HQ.out
  obtain ⟨y0, y1, y2⟩ := hqa.cells
  obtain ⟨x0, x1, x2, x3, x4, x5, x6⟩ := MsgAt.cells FB.out
  have hpc := offer_in 1 0 Aq cq [mA4] mB4 (some ⟨W1n.heap.size, 0, none⟩) 1 [(false, 0, 0)] (W1n.alloc (.cells #[.bool false, .int .i64 0, .int .i64 0] 58)) (HLL.out.below (FW.out.trans (hb.mono FW.out.size))) (hqi.on hb) (by decide) (by decide) hlie (by decide)
  rw [show anyI (mB4).ext (mB4).n [(false, 0, 0)] = anyI false 3 [(false, 0, 0)] from rfl, fw_2.1, fw_2.2.1, fw_2.2.2.1, fw_2.2.2.2] at hpc
  simp only [mA4, mB4, mv, List.length_cons, List.length_nil, Nat.zero_add, Nat.reduceAdd] at x0 x1 x2 x3 x4 x5 x6 y0 y1 y2 hpc
  clear hqa hqi hlie
  have FA1 : Hid (MsgAt _ _ _) := Lib.hid (MsgAt.on FA.out hb); clear FA; have FA := FA1; clear FA1
  have FB1 : Hid (MsgAt _ _ _) := Lib.hid (MsgAt.on FB.out hb); clear FB; have FB := FB1; clear FB1
  have HQ1 := Lib.hid (FVar.on HQ.out hb); clear HQ; have HQ := HQ1; clear HQ1
  have FW1 := Lib.hid (FW.out.trans (Below.mono hb FW.out.size)); clear FW; have FW := FW1; clear FW1
  have FS1 : Hid (w.heap.size + 2 ≤ _) := Lib.hid (Nat.le_trans FS.out (Below.size hb)); clear FS; have FS := FS1; clear FS1
  clear hb
  go_wp2_with fail
  refine hpc.mono ?_; rintro e w2 ⟨A5, c5, rfl, hi5, b5⟩
  clear x0 x1 x2 x3 x4 x5 x6 y0 y1 y2 hpc
  have FA1 : Hid (MsgAt _ _ _) := Lib.hid (MsgAt.on FA.out b5); clear FA; have FA := FA1; clear FA1
  have FB1 : Hid (MsgAt _ _ _) := Lib.hid (MsgAt.on FB.out b5); clear FB; have FB := FB1; clear FB1
  have HQ1 := Lib.hid (FVar.on HQ.out b5); clear HQ; have HQ := HQ1; clear HQ1
  have FW1 := Lib.hid (FW.out.trans (Below.mono b5 FW.out.size)); clear FW; have FW := FW1; clear FW1
  have FS1 : Hid (w.heap.size + 2 ≤ _) := Lib.hid (Nat.le_trans FS.out (Below.size b5)); clear FS; have FS := FS1; clear FS1
  have HI5 := Lib.hid hi5; clear b5 hi5
  obtain ⟨Aq, cq, hqa, hqi⟩ := HQ.out
  obtain ⟨y0, y1, y2⟩ := hqa.cells
  have yf := hqa.frozen
  simp only [mA4, mB4, mv, List.length_cons, List.length_nil, Nat.zero_add, Nat.reduceAdd] at y0 y1 y2
  have HQ1 := Lib.hid (FVar.store HQ.out (L' := 1) (T' := 1) HI5.out); clear HQ; have HQ := HQ1; clear HQ1
  have FA1 := Lib.hid (MsgAt.put3 FA.out (b := b3) (by have := HB3.out; omega) (.int .i64 1) (.int .i64 1) (.slice A5 1 c5)); clear FA; have FA := FA1; clear FA1
  have FB1 := Lib.hid (MsgAt.put3 FB.out (b := b3) (by have := HB3.out; omega) (.int .i64 1) (.int .i64 1) (.slice A5 1 c5)); clear FB; have FB := FB1; clear FB1
  have FW1 := Lib.hid (below_set3 FW.out (b := b3) (by have := HB3.out; omega) (.int .i64 1) (.int .i64 1) (.slice A5 1 c5)); clear FW; have FW := FW1; clear FW1
  have FS1 : Hid (w.heap.size + 2 ≤ (set3 w2 b3 (.int .i64 1) (.int .i64 1) (.slice A5 1 c5)).heap.size) := Lib.hid (by rw [size3]; exact FS.out); clear FS; have FS := FS1; clear FS1
  go_upto_region 6 with (fail)
  clear y0 y1 y2 yf hqa hqi HI5
  simp only [mA4, mB4, mv, List.length_cons, List.length_nil, Nat.zero_add, Nat.reduceAdd] at HQ
  simp only [set3] at FA FB FW FS HQ
  obtain ⟨W1nn, hW⟩ : ∃ W, W = ((w2.setCell ⟨b3, 0, none⟩ (.int .i64 1)).setCell ⟨b3, 1, none⟩ (.int .i64 1)).setCell ⟨b3, 2, none⟩ (.slice A5 1 c5) := ⟨_, rfl⟩
  rw [← hW] at FA FB FW FS HQ ⊢
  clear hW
  obtain ⟨Aq, cq, hqa, hqi⟩ := HQ.out
  obtain ⟨y0, y1, y2⟩ := hqa.cells
  obtain ⟨x0, x1, x2, x3, x4, x5, x6⟩ := MsgAt.cells FB.out
  have hpc := offer_in 1 1 Aq cq [mA4] mB4 none 0 [] W1nn (HLL.out.below FW.out) hqi (by decide) (by decide) (lie_nil _) (by decide)
  rw [show anyI mB4.ext mB4.n [] = anyI false 3 [] from rfl, fw_3.1, fw_3.2.1, fw_3.2.2.1, fw_3.2.2.2] at hpc
  simp only [mA4, mB4, mv, List.length_cons, List.length_nil, Nat.zero_add, Nat.reduceAdd] at x0 x1 x2 x3 x4 x5 x6 y0 y1 y2 hpc
  clear hqa hqi
  go_wp2_with fail; refine hpc.mono ?_; rintro e w2 ⟨A5, c5, rfl, hi5, b5⟩
  clear x0 x1 x2 x3 x4 x5 x6 y0 y1 y2 hpc hi5
  have FA1 : Hid (MsgAt _ _ _) := Lib.hid (MsgAt.on FA.out b5); clear FA; have FA := FA1; clear FA1
  have FB1 : Hid (MsgAt _ _ _) := Lib.hid (MsgAt.on FB.out b5); clear FB; have FB := FB1; clear FB1
  have HQ1 := Lib.hid (FVar.on HQ.out b5); clear HQ; have HQ := HQ1; clear HQ1
  have FW1 := Lib.hid (FW.out.trans (Below.mono b5 FW.out.size)); clear FW; have FW := FW1; clear FW1
  have FS1 : Hid (w.heap.size + 2 ≤ _) := Lib.hid (Nat.le_trans FS.out (Below.size b5)); clear FS; have FS := FS1; clear FS1
  clear b5
  have hb := Joins.below_alloc1 w2 (.cells #[.int .i64 1, .int .i64 1, .slice A5 1 c5] 30)
  have FA1 : Hid (MsgAt _ _ _) := Lib.hid (MsgAt.on FA.out hb); clear FA; have FA := FA1; clear FA1
  have FB1 : Hid (MsgAt _ _ _) := Lib.hid (MsgAt.on FB.out hb); clear FB; have FB := FB1; clear FB1
  have HQ1 := Lib.hid (FVar.on HQ.out hb); clear HQ; have HQ := HQ1; clear HQ1
  have FW1 := Lib.hid (FW.out.trans (Below.mono hb FW.out.size)); clear FW; have FW := FW1; clear FW1
  have FS1 : Hid (w.heap.size + 2 ≤ _) := Lib.hid (Nat.le_trans FS.out (Below.size hb)); clear FS; have FS := FS1; clear FS1
  clear hb
  go_upto_region 7 with (fail)
  obtain ⟨W4, hW⟩ : ∃ W, W = w2.alloc (.cells #[.int .i64 1, .int .i64 1, .slice A5 1 c5] 30) := ⟨_, rfl⟩
  rw [← hW] at FA FB FW FS HQ ⊢
  clear hW
  obtain ⟨Aq, cq, hqa, hqi⟩ := HQ.out
  obtain ⟨y0, y1, y2⟩ := hqa.cells
  have hpc := take_in 1 1 Aq cq [mA4] W4 (HLL.out.below FW.out) hqi
  rw [fw_4.1, fw_4.2.1, fw_4.2.2] at hpc
  simp only [mA4, mB4, mv, List.length_cons, List.length_nil, Nat.zero_add, Nat.reduceAdd] at y0 y1 y2 hpc
  clear hqa hqi
  go_wp2_with fail; refine hpc.mono ?_; rintro e w3 ⟨A5, c5, rfl, hi5, b5⟩
  clear y0 y1 y2 hpc
  have FA1 : Hid (MsgAt _ _ _) := Lib.hid (MsgAt.on FA.out b5); clear FA; have FA := FA1; clear FA1
  have FB1 : Hid (MsgAt _ _ _) := Lib.hid (MsgAt.on FB.out b5); clear FB; have FB := FB1; clear FB1
  have HQ1 := Lib.hid (FVar.on HQ.out b5); clear HQ; have HQ := HQ1; clear HQ1
  have FW1 := Lib.hid (FW.out.trans (Below.mono b5 FW.out.size)); clear FW; have FW := FW1; clear FW1
  have FS1 : Hid (w.heap.size + 2 ≤ _) := Lib.hid (Nat.le_trans FS.out (Below.size b5)); clear FS; have FS := FS1; clear FS1
  clear b5
  have hk := FVar.new (L := 1) (T := 1) hi5
  have hb1 := Joins.below_alloc1 w3 (.cells #[.int .i64 1, .int .i64 1, .slice A5 0 c5] 30)
  have hm := MsgAt.new (w3.alloc (.cells #[.int .i64 1, .int .i64 1, .slice A5 0 c5] 30)) mA4
  have hb2 := Joins.below_alloc1 (w3.alloc (.cells #[.int .i64 1, .int .i64 1, .slice A5 0 c5] 30)) (.cells #[.bool false, .int .i64 5, .int .i64 0, .int .i64 1, .int .i64 1, .int .i64 1, .string ⟨#[]⟩] 26)
  simp only [mA4, mB4, mv, List.length_cons, List.length_nil, Nat.zero_add, Nat.reduceAdd, mc, World.size_alloc] at hk hm
  have HK := Lib.hid (FVar.on hk hb2)
  have F13 := Lib.hid hm
  have hb := Below.trans hb1 (Below.mono hb2 hb1.size)
  have FA1 : Hid (MsgAt _ _ _) := Lib.hid (MsgAt.on FA.out hb); clear FA; have FA := FA1; clear FA1
  have FB1 : Hid (MsgAt _ _ _) := Lib.hid (MsgAt.on FB.out hb); clear FB; have FB := FB1; clear FB1
  have HQ1 := Lib.hid (FVar.on HQ.out hb); clear HQ; have HQ := HQ1; clear HQ1
  have FW1 := Lib.hid (FW.out.trans (Below.mono hb FW.out.size)); clear FW; have FW := FW1; clear FW1
  have FS1 : Hid (w.heap.size + 2 ≤ _) := Lib.hid (Nat.le_trans FS.out (Below.size hb)); clear FS; have FS := FS1; clear FS1
  clear hk hb1 hm hb2 hb hi5
  go_upto_region 8 with (fail)
  obtain ⟨W5, hW⟩ : ∃ W, W = (w3.alloc (.cells #[.int .i64 1, .int .i64 1, .slice A5 0 c5] 30)).alloc (.cells #[.bool false, .int .i64 5, .int .i64 0, .int .i64 1, .int .i64 1, .int .i64 1, .string ⟨#[]⟩] 26) := ⟨_, rfl⟩
  rw [← hW] at FA FB FW FS HQ HK F13 ⊢
  clear hW
  generalize w3.heap.size = b12 at *
  clear HQ
  obtain ⟨Aq, cq, hqa, hqi⟩ := HK.out
  obtain ⟨y0, y1, y2⟩ := hqa.cells
  have hpc := take_in 1 1 Aq cq [] W5 (HLL.out.below FW.out) hqi
  rw [fw_5.1, fw_5.2.1, fw_5.2.2] at hpc
  simp only [mA4, mB4, mv, List.length_cons, List.length_nil, Nat.zero_add, Nat.reduceAdd, zeroM] at y0 y1 y2 hpc
  clear hqa hqi
  go_wp2_with fail; refine hpc.mono ?_; rintro e w4 ⟨A5, c5, rfl, hi5, b5⟩
  clear y0 y1 y2 hpc hi5
  have FA1 : Hid (MsgAt _ _ _) := Lib.hid (MsgAt.on FA.out b5); clear FA; have FA := FA1; clear FA1
  have FB1 : Hid (MsgAt _ _ _) := Lib.hid (MsgAt.on FB.out b5); clear FB; have FB := FB1; clear FB1
  have F131 : Hid (MsgAt _ _ _) := Lib.hid (MsgAt.on F13.out b5); clear F13; have F13 := F131; clear F131
  have HK1 := Lib.hid (FVar.on HK.out b5); clear HK; have HK := HK1; clear HK1
  have FW1 := Lib.hid (FW.out.trans (Below.mono b5 FW.out.size)); clear FW; have FW := FW1; clear FW1
  have FS1 : Hid (w.heap.size + 2 ≤ _) := Lib.hid (Nat.le_trans FS.out (Below.size b5)); clear FS; have FS := FS1; clear FS1
  clear b5
  have hb := (Joins.below_alloc1 w4 (.cells #[.int .i64 1, .int .i64 1, .slice A5 0 c5] 30)).trans ((Joins.below_alloc1 (w4.alloc (.cells #[.int .i64 1, .int .i64 1, .slice A5 0 c5] 30)) (.cells #[.bool false, .int .i64 0, .int .i64 0, .int .i64 0, .int .i64 0, .int .i64 0, .string ⟨#[]⟩] 26)).mono (Joins.below_alloc1 w4 (.cells #[.int .i64 1, .int .i64 1, .slice A5 0 c5] 30)).size)
  have FA1 : Hid (MsgAt _ _ _) := Lib.hid (MsgAt.on FA.out hb); clear FA; have FA := FA1; clear FA1
  have FB1 : Hid (MsgAt _ _ _) := Lib.hid (MsgAt.on FB.out hb); clear FB; have FB := FB1; clear FB1
  have F131 : Hid (MsgAt _ _ _) := Lib.hid (MsgAt.on F13.out hb); clear F13; have F13 := F131; clear F131
  have HK1 := Lib.hid (FVar.on HK.out hb); clear HK; have HK := HK1; clear HK1
  have FW1 := Lib.hid (FW.out.trans (Below.mono hb FW.out.size)); clear FW; have FW := FW1; clear FW1
  have FS1 : Hid (w.heap.size + 2 ≤ _) := Lib.hid (Nat.le_trans FS.out (Below.size hb)); clear FS; have FS := FS1; clear FS1
  clear hb
  go_upto_region 9 with (fail)
  obtain ⟨W6, hW⟩ : ∃ W, W = (w4.alloc (.cells #[.int .i64 1, .int .i64 1, .slice A5 0 c5] 30)).alloc (.cells #[.bool false, .int .i64 0, .int .i64 0, .int .i64 0, .int .i64 0, .int .i64 0, .string ⟨#[]⟩] 26) := ⟨_, rfl⟩
  rw [← hW] at FA FB FW FS HK F13 ⊢
  clear hW
  obtain ⟨Aq, cq, hqa, hqi⟩ := HK.out
  obtain ⟨y0, y1, y2⟩ := hqa.cells
  have hpc := lost_in 1 1 Aq cq [] W6 (HLL.out.below FW.out) hqi
  rw [fw_6.1, fw_6.2.1, fw_6.2.2] at hpc
  simp only [mA4, mB4, mv, List.length_cons, List.length_nil, Nat.zero_add, Nat.reduceAdd] at y0 y1 y2 hpc
  clear hqa hqi
  go_wp2_with fail; refine hpc.mono ?_; rintro e w5 ⟨A5, c5, rfl, hi5, b5⟩
  clear y0 y1 y2 hpc
  have FA1 : Hid (MsgAt _ _ _) := Lib.hid (MsgAt.on FA.out b5); clear FA; have FA := FA1; clear FA1
  have FB1 : Hid (MsgAt _ _ _) := Lib.hid (MsgAt.on FB.out b5); clear FB; have FB := FB1; clear FB1
  have F131 : Hid (MsgAt _ _ _) := Lib.hid (MsgAt.on F13.out b5); clear F13; have F13 := F131; clear F131
  have HK1 := Lib.hid (FVar.on HK.out b5); clear HK; have HK := HK1; clear HK1
  have FW1 := Lib.hid (FW.out.trans (Below.mono b5 FW.out.size)); clear FW; have FW := FW1; clear FW1
  have FS1 : Hid (w.heap.size + 2 ≤ _) := Lib.hid (Nat.le_trans FS.out (Below.size b5)); clear FS; have FS := FS1; clear FS1
  clear b5
  have hk := FVar.new (L := 1) (T := 0) hi5
  have hb := Joins.below_alloc1 w5 (.cells #[.int .i64 1, .int .i64 0, .slice A5 0 c5] 30)
  simp only [mA4, mB4, mv, List.length_cons, List.length_nil, Nat.zero_add, Nat.reduceAdd] at hk
  have HN := Lib.hid hk
  have FA1 : Hid (MsgAt _ _ _) := Lib.hid (MsgAt.on FA.out hb); clear FA; have FA := FA1; clear FA1
  have FB1 : Hid (MsgAt _ _ _) := Lib.hid (MsgAt.on FB.out hb); clear FB; have FB := FB1; clear FB1
  have F131 : Hid (MsgAt _ _ _) := Lib.hid (MsgAt.on F13.out hb); clear F13; have F13 := F131; clear F131
  have HK1 := Lib.hid (FVar.on HK.out hb); clear HK; have HK := HK1; clear HK1
  have FW1 := Lib.hid (FW.out.trans (Below.mono hb FW.out.size)); clear FW; have FW := FW1; clear FW1
  have FS1 : Hid (w.heap.size + 2 ≤ _) := Lib.hid (Nat.le_trans FS.out (Below.size hb)); clear FS; have FS := FS1; clear FS1
  clear hb hk hi5
  go_upto_region 10 with (fail)
  obtain ⟨W7, hW⟩ : ∃ W, W = w5.alloc (.cells #[.int .i64 1, .int .i64 0, .slice A5 0 c5] 30) := ⟨_, rfl⟩
  rw [← hW] at FA FB FW FS HK F13 HN ⊢
  clear hW
  generalize w5.heap.size = b18 at *
  obtain ⟨Aq, cq, hqa, hqi⟩ := HN.out
  obtain ⟨y0, y1, y2⟩ := hqa.cells
  have hpc := lost_in 1 0 Aq cq [] W7 (HLL.out.below FW.out) hqi
  rw [fw_7.1, fw_7.2.1, fw_7.2.2] at hpc
  simp only [mA4, mB4, mv, List.length_cons, List.length_nil, Nat.zero_add, Nat.reduceAdd] at y0 y1 y2 hpc
  clear hqa hqi
  go_wp2_with fail; refine hpc.mono ?_; rintro e w6 ⟨A5, c5, rfl, hi5, b5⟩
  clear y0 y1 y2 hpc hi5 HN
  have FA1 : Hid (MsgAt _ _ _) := Lib.hid (MsgAt.on FA.out b5); clear FA; have FA := FA1; clear FA1
  have FB1 : Hid (MsgAt _ _ _) := Lib.hid (MsgAt.on FB.out b5); clear FB; have FB := FB1; clear FB1
  have F131 : Hid (MsgAt _ _ _) := Lib.hid (MsgAt.on F13.out b5); clear F13; have F13 := F131; clear F131
  have HK1 := Lib.hid (FVar.on HK.out b5); clear HK; have HK := HK1; clear HK1
  have FW1 := Lib.hid (FW.out.trans (Below.mono b5 FW.out.size)); clear FW; have FW := FW1; clear FW1
  have FS1 : Hid (w.heap.size + 2 ≤ _) := Lib.hid (Nat.le_trans FS.out (Below.size b5)); clear FS; have FS := FS1; clear FS1
  clear b5
  have hb := Joins.below_alloc1 w6 (.cells #[.int .i64 1, .int .i64 0, .slice A5 0 c5] 30)
  have FA1 : Hid (MsgAt _ _ _) := Lib.hid (MsgAt.on FA.out hb); clear FA; have FA := FA1; clear FA1
  have FB1 : Hid (MsgAt _ _ _) := Lib.hid (MsgAt.on FB.out hb); clear FB; have FB := FB1; clear FB1
  have F131 : Hid (MsgAt _ _ _) := Lib.hid (MsgAt.on F13.out hb); clear F13; have F13 := F131; clear F131
  have HK1 := Lib.hid (FVar.on HK.out hb); clear HK; have HK := HK1; clear HK1
  have FW1 := Lib.hid (FW.out.trans (Below.mono hb FW.out.size)); clear FW; have FW := FW1; clear FW1
  have FS1 : Hid (w.heap.size + 2 ≤ _) := Lib.hid (Nat.le_trans FS.out (Below.size hb)); clear FS; have FS := FS1; clear FS1
  clear hb
  go_upto_region 11 with (fail)
  obtain ⟨W8, hW⟩ : ∃ W, W = w6.alloc (.cells #[.int .i64 1, .int .i64 0, .slice A5 0 c5] 30) := ⟨_, rfl⟩
  rw [← hW] at FA FB FW FS HK F13 ⊢
  clear hW
  have cn := HC0.out
  go_wp2_with fail; refine (cn _).mono ?_; rintro e w7 ⟨rfl, b5⟩
  have FA1 : Hid (MsgAt _ _ _) := Lib.hid (MsgAt.on FA.out b5); clear FA; have FA := FA1; clear FA1
  have FB1 : Hid (MsgAt _ _ _) := Lib.hid (MsgAt.on FB.out b5); clear FB; have FB := FB1; clear FB1
  have F131 : Hid (MsgAt _ _ _) := Lib.hid (MsgAt.on F13.out b5); clear F13; have F13 := F131; clear F131
  have HK1 := Lib.hid (FVar.on HK.out b5); clear HK; have HK := HK1; clear HK1
  have FW1 := Lib.hid (FW.out.trans (Below.mono b5 FW.out.size)); clear FW; have FW := FW1; clear FW1
  have FS1 : Hid (w.heap.size + 2 ≤ _) := Lib.hid (Nat.le_trans FS.out (Below.size b5)); clear FS; have FS := FS1; clear FS1
  clear b5 cn
  have hb := Joins.below_alloc1 w7 (.cells #[.int .i64 0, .int .i64 0, .slice none 0 0] 30)
  have FA1 : Hid (MsgAt _ _ _) := Lib.hid (MsgAt.on FA.out hb); clear FA; have FA := FA1; clear FA1
  have FB1 : Hid (MsgAt _ _ _) := Lib.hid (MsgAt.on FB.out hb); clear FB; have FB := FB1; clear FB1
  have F131 : Hid (MsgAt _ _ _) := Lib.hid (MsgAt.on F13.out hb); clear F13; have F13 := F131; clear F131
  have HK1 := Lib.hid (FVar.on HK.out hb); clear HK; have HK := HK1; clear HK1
  have FW1 := Lib.hid (FW.out.trans (Below.mono hb FW.out.size)); clear FW; have FW := FW1; clear FW1
  have FS1 : Hid (w.heap.size + 2 ≤ _) := Lib.hid (Nat.le_trans FS.out (Below.size hb)); clear FS; have FS := FS1; clear FS1
  clear hb
  go_upto_region 12 with (fail)
  obtain ⟨W9, hW⟩ : ∃ W, W = w7.alloc (.cells #[.int .i64 0, .int .i64 0, .slice none 0 0] 30) := ⟨_, rfl⟩
  rw [← hW] at FA FB FW FS HK F13 ⊢
  clear hW
  obtain ⟨a0, a1, a2, a3, a4, a5, a6⟩ := MsgAt.cells FA.out
  obtain ⟨b0, b1, b2, b3, b4, b5, b6⟩ := MsgAt.cells F13.out
  obtain ⟨Aq, cq, hqa, hqi⟩ := HK.out
  obtain ⟨y0, y1, y2⟩ := hqa.cells
  have hpc := rightFi_any 1 1 Aq cq [] W9 (HLL.out.below FW.out) hqi
  rw [fw_8.2.2.2.2] at hpc
  obtain ⟨ea, fa⟩ := HE.out
  simp only [mA4, mB4, mv, List.length_cons, List.length_nil, Nat.zero_add, Nat.reduceAdd] at *
  clear hqa hqi
  go_wp2_with fail; refine hpc.mono ?_; rintro e w9 ⟨rfl, b5⟩
  have HZ := Lib.hid (FW.out.trans (b5.mono FW.out.size)); clear b5 hpc
  go_wp2_with fail
  go_ret
  exact ⟨rfl, HZ.out⟩

end Go.Proofs.YtehajmockicilaaDoor

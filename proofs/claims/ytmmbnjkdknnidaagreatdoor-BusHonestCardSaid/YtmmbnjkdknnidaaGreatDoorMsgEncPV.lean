/-
  What the program's Encode does: a loop over what msg.parts hands back, into a builder.
-/
import Derived.RangeFuncNested
import Derived.Test.YtmmbnjkdknnidaaGreatDoorMsgPartsV
set_option maxHeartbeats 2000000
set_option maxRecDepth 100000
namespace Go.Proofs.YtmmbnjkdknnidaaGreatDoor
open Go.RowKit Go.Shelf
attribute [local go_sem] Oper.semAt_some
theorem builderAt_kept {T e : TypeId} {B b : Nat} {p : Value} {bs : List Value} {X Y : World} {row : Option Nat} (h : Lib.BuilderAt T e B b p bs X) (hg : X.grownBy Y row) (hrow : ∀ r, row = some r → ∃ o : Obj, X.heap[r]? = some o ∧ o.isCells = false) : Lib.BuilderAt T e B b p bs Y := by
 obtain ⟨hB, v, hb, hown, hne⟩ := h
 refine ⟨hB, v, (hg.block b (Array.getElem?_eq_some_iff.1 hb).1 fun e' => ?_).trans hb, hown.kept hg ?_, hne⟩
 ·obtain ⟨o, ho, hc⟩ := hrow b e'.symm
  rw [hb] at ho; cases ho; cases hc
 ·rcases hown.2 with ⟨rfl, _⟩ | ⟨g, cap, cur, rfl, _, hgb, _⟩
  ·exact .inl rfl
  ·refine .inr fun e' => ?_
   obtain ⟨o, ho, hc⟩ := hrow g (by rw [← e']; rfl)
   rw [hgb] at ho; cases ho; cases hc
theorem builder_own {β : Type} (T e : TypeId) (B b : Nat) (f : β → List Value) : Own (fun s W => Lib.IsBuilder T e B b (f s) W) := fun _ _ _ _ h hg hrow =>
 h.elim (fun h => .inl (builderAt_kept h hg hrow)) (fun h => .inr (builderAt_kept h hg hrow))
theorem msgAt_own {β : Type} (g : Nat) (M : Msg) : Own (fun (_ : β) W => MsgAt W g M) := fun _ X Y row h hg hrow =>
 (hg.block g (Array.getElem?_eq_some_iff.1 h).1 fun e' => by
  obtain ⟨o, ho, hc⟩ := hrow g e'.symm
  rw [show X.heap[g]? = _ from h] at ho; cases ho; cases hc).trans h
theorem builder_block {T e : TypeId} {B b : Nat} {bs : List Value} {W : World} (h : Lib.IsBuilder T e B b bs W) : ∃ c, W.heap[b]? = some (.cells c T (0, 0)) := by
 rcases h with ⟨_, v, hb, _⟩ | ⟨_, v, hb, _⟩
 ·exact ⟨_, hb⟩
 ·exact ⟨_, hb⟩
theorem others_keeps {b : Nat} {T e : TypeId} {W W' : World} (hk : Lib.OthersKept e (some b) W W') (hs : W.heap.size ≤ W'.heap.size) (hb : ∃ c, W.heap[b]? = some (.cells c T (0, 0))) : KeepsOthers W W' :=
 ⟨hs, fun k o ho hc => hk k o ho (fun e' => by
  obtain ⟨c, hb⟩ := hb
  cases e'
  rw [hb] at ho; cases ho; cases hc) (fun c fz e' => by subst e'; cases hc)⟩
def flat (pre : List Part) : List Value := pre.flatMap fun x => Lib.strCells x.1
theorem flat_snoc (pre : List Part) (x : Part) : flat (pre ++ [x]) = flat pre ++ Lib.strCells x.1 := by
 unfold flat; rw [List.flatMap_append]; simp
theorem flat_length (pre : List Part) : (flat pre).length ≤ 8 * pre.length := by
 induction pre with
 | nil => simp [flat]
 | cons x pre ih =>
  have h : flat (x :: pre) = Lib.strCells x.1 ++ flat pre := rfl
  rw [h, List.length_append, Lib.strCells_length, List.length_cons]
  have := x.2
  omega
theorem strCells_txt (l : List UInt8) : Lib.strCells (txt l) = Lib.byteCells l := rfl
theorem byteCells_append (a b : List UInt8) : Lib.byteCells (a ++ b) = Lib.byteCells a ++ Lib.byteCells b := by
 unfold Lib.byteCells; exact List.map_append
theorem flat_parts (M : Msg) (hd : M.data.size ≤ 8) : flat (partsM M hd) = Lib.byteCells (encL M) := by
 unfold encL
 simp only [byteCells_append]
 show Lib.byteCells _ ++ (Lib.byteCells _ ++ (Lib.byteCells _ ++ (Lib.byteCells _ ++ (Lib.byteCells _ ++ (Lib.byteCells _ ++ (Lib.strCells M.data ++ [])))))) = _
 simp only [List.append_assoc, List.append_nil]
 rfl
theorem encR_in (m : Nat) (hm : 4 ≤ m) (M : Msg) (hr : rightM M = true) (w : World) (L : Laid w) : CallsIn Fence.wide m Tryz.prog 89 #[mv M] w fun e w' => e = .returned (.tuple #[.string (txt (encL M)), .int .i64 0]) ∧ Below w.heap.size w w' := by
 have h1 : 1 ≤ m := by omega
 have hd : M.data.size ≤ 8 := ((rightM_iff M).1 hr).2.2.2.2.2
 have cr := fun w L => (callsIn_wide (n := m - 1)).2 (rightM_any M (by unfold maxLen; omega) w L)
 rw [hr] at cr
 have hM0 : MsgAt (w.alloc (.cells (mc M) 109)) w.heap.size M := heap_alloc_new w _
 have hL0 := L.alloc (.cells (mc M) 109)
 have hB0 := Joins.below_alloc1 w (.cells (mc M) 109)
 refine callsIn_of_wp_marks Tryz.func89 rfl trivial ?_ rfl
 simp only [Tryz.ntmps89, List.size_toArray, List.length_cons, List.length_nil, Nat.reduceAdd, Nat.reduceSub, Array.replicate_succ, Array.replicate_zero, List.push_toArray, List.append_toArray, List.nil_append, List.cons_append]
 gi_wp2_with fail
 refine ⟨trivial, (cr _ hL0).mono ?_⟩
 rintro e w1 ⟨rfl, b1⟩
 have hM1 := hM0.on b1
 have hL1 := hL0.below b1
 have hB1 := hB0.trans (b1.mono (by simp))
 have hM2 := hM1.on (Joins.below_alloc1 w1 (.cells #[.pointer none, .slice none 0 0] 130))
 obtain ⟨_, y0, y1, y2, y3, y4, y5, y6⟩ := Holds.of_blk hM2
 clear hM0 hL0 hB0 b1
 gi_wp2_with fail
 refine ⟨trivial, (parts_in (m - 1) M _).mono ?_⟩
 rintro e w2 ⟨rfl, rfl⟩
 clear y0 y1 y2 y3 y4 y5 y6 hM2
 gi_wp2_with fail
 have hbk : ((w1.alloc (.cells #[.pointer none, .slice none 0 0] 130)).alloc (.cells (mc M) 109)).heap[w1.heap.size]? = some (.cells #[.pointer none, .slice none 0 0] 130 (0, 0)) := (Below.heap_alloc _ _ _ (by simp)).trans (World.alloc_heap_new w1 _)
 have hMB : MsgAt ((w1.alloc (.cells #[.pointer none, .slice none 0 0] 130)).alloc (.cells (mc M) 109)) (w1.heap.size + 1) M := by
  have h := World.alloc_heap_new (w1.alloc (.cells #[.pointer none, .slice none 0 0] 130)) (.cells (mc M) 109)
  rwa [World.size_alloc] at h
 have hLB := (hL1.alloc (.cells #[.pointer none, .slice none 0 0] 130)).alloc (.cells (mc M) 109)
 have hBB : Below w.heap.size w ((w1.alloc (.cells #[.pointer none, .slice none 0 0] 130)).alloc (.cells (mc M) 109)) := hB1.trans ((Joins.below_alloc2 w1 _ _).mono hB1.size)
 have hs1 := hB1.size
 refine wpIn_rangeFunc_ownG rfl h1 (gf := 154) (lb := #[.pointer (some ⟨w1.heap.size + 1, 0, none⟩)]) rfl trivial (enters_of Tryz.func154 (by kernel_rfl) rfl)
  (parts_stop (m - 1) (by omega) (w1.heap.size + 1) M hr hd _ hMB hLB) Keeps.trans (Keeps.past (by simp)) (Below.refl _ _) (fun _ => rfl)
  (fun pre W => (Lib.IsBuilder 130 5 w1.heap.size w1.heap.size (flat pre) W ∧ MsgAt W (w1.heap.size + 1) M) ∧ Below w.heap.size w W)
  (fun _ _ _ => False)
  (OwnFrom.and (OwnFrom.and (Own.from (builder_own _ _ _ _ flat) _) (Own.from (msgAt_own _ _) _)) (ownFrom_below (Nat.le_refl _) (by simp; omega)))
  (fun _ _ _ _ _ hs _ _ => hs)
  ⟨⟨.inl ⟨Nat.le_refl _, _, hbk, World.ownsRow_nil _ _ _ _, by simp [Value.ownBlock]⟩, hMB⟩, hBB⟩
  (fun x => { tmps := #[mv M, .pointer (some ⟨w.heap.size, 0, none⟩), .string ⟨#[]⟩, .int .i64 0, .pointer (some ⟨w1.heap.size, 0, none⟩), .string x.1, mv M, .bool true, .bool false, mv M, .func (.func 154) #[] #[.pointer (some ⟨w1.heap.size + 1, 0, none⟩)], .string x.1, undef, undef, undef], defers := [] }) ?assign ?body ?done ?stop
 case assign =>
  intro l x W K hK
  gi_wp2
  first | exact hK | simpa using hK
 case body =>
  rintro l pre x W ⟨⟨hbld, hM⟩, hB⟩ hlt
  have hf := flat_length pre
  have hx := x.2
  obtain ⟨c, hbk2⟩ := builder_block hbld
  have hlb := (Array.getElem?_eq_some_iff.1 hbk2).1
  gi_wp2_with fail
  refine ⟨trivial, fun _ => by omega, (CallsIn.inRound l (callsIn_wide.2 (writeString_any w1.heap.size w1.heap.size (flat pre) x.1 _ hbld (by omega) (by omega)))).mono ?_⟩
  rintro e W2 ⟨rfl, h2, b2, k2⟩
  have hM2 : MsgAt W2 (w1.heap.size + 1) M := k2 (w1.heap.size + 1) _ hM (by simp) (fun c fz h => by cases h)
  have hk2 : Keeps (w1.heap.size + 1) W W2 := Eq.trans hM2 (Eq.symm hM)
  gi_wp2
  refine ⟨(others_keeps k2 b2.size ⟨c, hbk2⟩).from _, hk2, ⟨?_, hM2⟩, hB.trans (b2.mono hs1)⟩
  rw [flat_snoc]
  exact .inr h2
 case done =>
  rintro D ys W hD rfl ⟨⟨hbld, hM⟩, hB⟩ hK
  rw [flat_parts] at hbld
  obtain ⟨c, hbk2⟩ := builder_block hbld
  have hlb := (Array.getElem?_eq_some_iff.1 hbk2).1
  gi_wp2_with fail
  refine ⟨trivial, (callsIn_wide.2 (Builder_String_any_k w1.heap.size w1.heap.size (encL M) _ (Lib.IsBuilderF.of hbld) (by omega))).mono ?_⟩
  rintro e W2 ⟨rfl, _, b2, k2⟩
  have hK2 := k2 D _ hK (fun e' => by cases e'; rw [hbk2] at hK; cases hK) (fun c fz h => by cases h)
  gi_wp2
  refine ⟨by simp, .inl ⟨_, _, rfl, run_takeDeferred hK2, ?_⟩⟩
  refine ⟨_, results_tmp2 rfl _ _ _, rfl, (hB.trans (b2.mono hs1)).trans (belowK_b (w := w) (Nat.le_refl _) W2 D _ _ (by simp at hD; omega) hK2 rfl rfl)⟩
 case stop =>
  rintro D c pre W _ _ h _
  exact h.elim
theorem encP_any (m : Msg) (w : World) (L : Laid w) (hd : m.data.size ≤ maxLen) :
  Calls Tryz.prog 89 #[mv m] w fun e w' => e = .returned (.tuple #[.string (txt (encT m)), .int .i64 (encE m)]) ∧ Below w.heap.size w w' := by
 cases hr : rightM m
 ·have cr := fun w L => rightM_any m hd w L
  rw [hr] at cr
  rw [show encT m = [] by unfold encT; rw [hr]; rfl, show encE m = 1 by unfold encE; rw [hr]; rfl]
  have hnew := Holds.new w m
  have hW := Lib.hid (Joins.below_alloc1 w (.cells (mc m) 109))
  have hL := L.alloc (.cells (mc m) 109)
  obtain ⟨b, n, se, ic, sq, nu, d⟩ := m
  simp only [mv, mc] at *
  obtain ⟨hlt, x0, x1, x2, x3, x4, x5, x6⟩ := hnew
  clear hr
  go_enter Tryz.func89, Tryz.ntmps89
  go_wp2_with fail; refine (cr _ hL).mono ?_; rintro e w1 ⟨rfl, b1⟩
  go_wp2_with fail
  go_ret2
  exact ⟨rfl, hW.out.trans (b1.mono (by simp))⟩
 ·rw [show encT m = encL m by unfold encT; rw [hr]; rfl, show encE m = 0 by unfold encE; rw [hr]; rfl]
  exact callsIn_wide.1 (encR_in 4 (Nat.le_refl _) m hr w L)
end Go.Proofs.YtmmbnjkdknnidaaGreatDoor

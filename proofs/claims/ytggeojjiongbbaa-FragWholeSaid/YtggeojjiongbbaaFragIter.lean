/-
  A text's pieces, told one by one: what frag.pieces hands back.
-/
import Derived.Test.YtggeojjiongbbaaFragSplit
import Derived.Test.YtggeojjiongbbaaFragTake
import Derived.RangeFuncBox
import Derived.RangeFuncLeaves
import Derived.Shelf.Abstract
import Derived.OwnWalkIn
import Derived.TacticsInMore
import Derived.LoopNIn
import Derived.LoopIn
import Derived.Maps.AppendAt
namespace Go.Proofs.Ytggeojjiongbbaa
open Go.RowKit Go.Shelf
attribute [local go_sem] Oper.semAt_some

theorem abides_below {β : Type} {B : Nat} {J : β → World → Prop} (h : AbidesFrom B J) {s : β} {W W' : World} (hs : J s W) (hb : Below W.heap.size W W') : J s W' :=
  h s W W' none hs ⟨hb.os, hb.tape, hb.output, hb.size, fun k hk _ => hb.block k hk⟩ (fun _ e => by cases e)
theorem cut_ext (s : ByteArray) (k n : Nat) : s.extract (k * n) (min (((k * n : Nat) : Int) + (n : Int)) (s.size : Int)).toNat = cutT s k n := by
  have hl := Lib.size_eq s
  have e : (min (((k * n : Nat) : Int) + (n : Int)) (s.size : Int)).toNat = min (k * n + n) s.size := by omega
  rw [e, Lib.extract_eq]
  unfold cutT
  congr 2
  rcases Nat.lt_or_ge s.size (k * n + n) with h | h
  · rw [Nat.min_eq_right (by omega), List.take_of_length_le (by rw [List.length_drop]; omega), List.take_of_length_le (by rw [List.length_drop]; omega)]
  · rw [Nat.min_eq_left h, Nat.add_sub_cancel_left]
theorem clone_in (m : Nat) (s : ByteArray) (hs : s.size ≤ 281474976710656) (w : World) : CallsIn Fence.wide m Try.prog 37 #[.string s] w fun e w' => e = .returned (.string s) ∧ Below w.heap.size w w' := callsIn_wide.2 (clone_any s hs w)

/-- The three boxes from b on. -/
def Boxes (W : World) (b : Nat) (q : Int) (s : ByteArray) (n : Int) : Prop :=
  W.heap[b]? = some (.cells #[.int .i64 q] 3 (0, 0)) ∧ W.heap[b + 1]? = some (.cells #[.string s] 9 (0, 0)) ∧ W.heap[b + 2]? = some (.cells #[.int .i64 n] 3 (0, 0))
theorem Boxes.cells {W : World} {b : Nat} {q : Int} {s : ByteArray} {n : Int} (h : Boxes W b q s n) : W.cell? ⟨b, 0, none⟩ = some (.int .i64 q) ∧ W.cell? ⟨b + 1, 0, none⟩ = some (.string s) ∧ W.cell? ⟨b + 2, 0, none⟩ = some (.int .i64 n) :=
  ⟨(cell_of h.1 0).trans rfl, (cell_of h.2.1 0).trans rfl, (cell_of h.2.2 0).trans rfl⟩
theorem Boxes.lt {W : World} {b : Nat} {q : Int} {s : ByteArray} {n : Int} (h : Boxes W b q s n) : b + 2 < W.heap.size := (Array.getElem?_eq_some_iff.1 h.2.2).1
theorem Boxes.on {W W' : World} {b : Nat} {q : Int} {s : ByteArray} {n : Int} (h : Boxes W b q s n) (hb : Below W.heap.size W W') : Boxes W' b q s n := by
  have hl := h.lt
  exact ⟨(hb.block b (by omega)).trans h.1, (hb.block _ (by omega)).trans h.2.1, (hb.block _ hl).trans h.2.2⟩
/-- They lie as they lay. -/
def Keeps (b : Nat) (A B : World) : Prop := B.heap[b]? = A.heap[b]? ∧ B.heap[b + 1]? = A.heap[b + 1]? ∧ B.heap[b + 2]? = A.heap[b + 2]?
theorem Keeps.refl (b : Nat) (A : World) : Keeps b A A := ⟨rfl, rfl, rfl⟩
theorem Keeps.trans {b : Nat} {A B C : World} (h : Keeps b A B) (k : Keeps b B C) : Keeps b A C := ⟨k.1.trans h.1, k.2.1.trans h.2.1, k.2.2.trans h.2.2⟩
theorem Keeps.boxes {b : Nat} {A B : World} {q : Int} {s : ByteArray} {n : Int} (h : Keeps b A B) (k : Boxes A b q s n) : Boxes B b q s n := ⟨h.1.trans k.1, h.2.1.trans k.2.1, h.2.2.trans k.2.2⟩
theorem Keeps.past {b n : Nat} (hb : b + 2 < n) (W : World) (l : Nat) (o o' : Obj) (hl : n ≤ l) (h : W.heap[l]? = some o) (_ : o.isCells = false) (_ : o.isWalk = false) : Keeps b W (W.putObj l o') := by
  have hl2 := (Array.getElem?_eq_some_iff.1 h).1
  have g := grownBy_putObj' W l o'
  exact ⟨g.block b (by omega) (fun e => by injection e with e; omega), g.block _ (by omega) (fun e => by injection e with e; omega), g.block _ (by omega) (fun e => by injection e with e; omega)⟩

theorem pieces_in (m : Nat) (q : Int) (s : ByteArray) (n : Int) (w : World) : CallsIn Fence.wide m Try.prog 32 #[.int .i64 q, .string s, .int .i64 n] w fun e w' =>
    e = .returned (.func (.func 45) #[] #[.pointer (some ⟨w.heap.size + 1, 0, none⟩), .pointer (some ⟨w.heap.size + 2, 0, none⟩), .pointer (some ⟨w.heap.size, 0, none⟩)]) ∧ w' = ((w.alloc (.cells #[.int .i64 q] 3)).alloc (.cells #[.string s] 9)).alloc (.cells #[.int .i64 n] 3) := by
  refine callsIn_wide.2 ?_
  go_enter Try.func32, Try.ntmps32
  go_wp2
  go_ret
  exact ⟨rfl, rfl⟩

set_option maxRecDepth 100000 in
set_option maxHeartbeats 2000000 in
theorem pieces_each (m : Nat) (hm : 1 ≤ m) (l b : Nat) (q : Int) (s : ByteArray) (n : Nat) (hz : 1 ≤ s.size ∧ s.size ≤ 20) (hn : 1 ≤ n ∧ n ≤ 16) (J Jx : List Pc → World → Prop) (W : World) (hJ : AbidesFrom W.heap.size J)
    (hY : ∀ pre x W, J pre W → pre.length < countP s.size n → YieldAt Fence.wide (m - 1) Try.prog l #[pv x] W fun e W' =>
      (e = .returned (.bool true) ∧ J (pre ++ [x]) W' ∧ Keeps b W W') ∨ (e = .returned (.bool false) ∧ Jx (pre ++ [x]) W'))
    (hB : Boxes W b q s n) (h0 : J [] W) :
    CallsIn Fence.wide m Try.prog 45 #[.func (.yield l) #[] #[], .pointer (some ⟨b + 1, 0, none⟩), .pointer (some ⟨b + 2, 0, none⟩), .pointer (some ⟨b, 0, none⟩)] W fun e W' => (∃ u, e = .returned u) ∧
      ((∃ ys, ys = splitL q s n ∧ J ys W') ∨ (∃ pre, True ∧ Jx pre W')) := by
  obtain ⟨z1, z2⟩ := hz
  obtain ⟨n1, n2⟩ := hn
  have cle := countP_le s.size n z1 n1
  have CAT := Lib.hid (fun k => countP_at (z := s.size) (n := n) (k := k) n1)
  have HL := Lib.hid (splitL_length q s n)
  have STK := Lib.hid (fun k h => splitL_take q s n k h)
  have e1 : (s.size : Int) + n - 1 = ((s.size + n - 1 : Nat) : Int) := by omega
  have hq : (((s.size : Int) + n - 1) / (n : Int)) = ((countP s.size n : Nat) : Int) := by rw [e1]; rfl
  have z1' : (1 : Int) ≤ s.size := by omega
  have z2' : (s.size : Int) ≤ 20 := by omega
  have n1' : (1 : Int) ≤ n := by omega
  have n2' : (n : Int) ≤ 16 := by omega
  clear e1
  obtain ⟨N, hN⟩ : ∃ N, N = countP s.size n := ⟨_, rfl⟩
  rw [← hN] at hq cle HL CAT STK hY
  have HNN := Lib.hid hN; clear hN
  have HY := Lib.hid hY; clear hY
  refine callsIn_of_wp Try.func45 rfl trivial ?_ rfl
  simp only [Try.ntmps45, List.size_toArray, List.length_cons, List.length_nil, Nat.reduceAdd, Nat.reduceSub, Array.replicate_succ, Array.replicate_zero, List.push_toArray, List.append_toArray, List.nil_append, List.cons_append]
  obtain ⟨y0, y1, y2⟩ := hB.cells
  gi_wp2
  rw [hq]
  clear hq y0 y1 y2
  gi_loopw [17] (fun ix wr => ∃ k : Nat, k ≤ N ∧ ix = .int .i64 k ∧ J ((splitL q s n).take k) wr ∧ Boxes wr b q s n) (fun ix _ => N - (intOf ix).toNat)
  case atStart => exact ⟨0, by omega, rfl, h0, hB⟩
  case round =>
    obtain ⟨k, hk, rfl, hj, hbx⟩ := hrel
    have HJR := Lib.hid hj; clear hj
    have HBX := Lib.hid hbx
    by_cases hlt : k < N
    · obtain ⟨y0, y1, y2⟩ := hbx.cells
      clear hbx
      have hkm := CAT.out k hlt
      have cut := cut_ext s k n
      have STK1 := Lib.hid (STK.out k hlt)
      have hpe : pieceP q s n k = ⟨q, (k : Int), (N : Int), cutT s k n⟩ := by unfold pieceP; rw [← HNN.out]
      rw [hpe] at STK1
      clear hpe
      have hcs := cutT_size s k n
      obtain ⟨M, hM⟩ : ∃ M, M = k * n := ⟨_, rfl⟩
      rw [← hM] at cut hkm
      have em : (k : Int) * (n : Int) = (M : Int) := by rw [hM]; exact (Int.natCast_mul k n).symm
      clear hM
      have HC := Lib.hid hcs; clear hcs
      generalize hT : cutT s k n = T at *
      clear hT
      have cc := fun W => clone_in (m - 1) T (by have := HC.out; omega) W
      gi_wp2_with fail
      refine ⟨trivial, (cc _).mono ?_⟩
      rintro e w1 ⟨rfl, b1⟩
      have HB1 := Lib.hid (HBX.out.on b1)
      have HJ1 := Lib.hid (abides_below hJ HJR.out b1)
      clear b1 y0 y1 y2 cc cut
      obtain ⟨y0, y1, y2⟩ := HB1.out.cells
      obtain ⟨fn, tmps, assign, body, hy, hR⟩ := HY.out _ ⟨q, (k : Int), (N : Int), T⟩ w1 HJ1.out (by rw [List.length_take, HL.out]; omega)
      dsimp only [pv] at hy
      gi_wp2_with fail
      refine hR.mono ?_
      clear hy hR y0 y1 y2
      rintro e W3 (⟨rfl, hJ3, hk3⟩ | ⟨rfl, hJx3⟩)
      · have HB3 := Lib.hid (hk3.boxes HB1.out)
        have HJ3 := Lib.hid hJ3
        clear hJ3 hk3
        gi_wp2
        go_roundw
        case rel => exact ⟨k + 1, by omega, by go_num, by rw [STK1.out]; exact HJ3.out, HB3.out⟩
        case measure => simp [intOf]; omega
      · have HJX := Lib.hid hJx3
        clear hJx3
        gi_wp2
        refine bodyPost_ret (results_none rfl _ _ _) rfl ?_
        exact ⟨⟨_, rfl⟩, .inr ⟨_, trivial, HJX.out⟩⟩
    · have ek : k = N := by omega
      subst ek
      have hJ' := HJR.out
      rw [List.take_of_length_le (by rw [HL.out]; exact Nat.le_refl _)] at hJ'
      gi_wp2
      go_end0
      exact ⟨⟨_, rfl⟩, .inl ⟨_, rfl, hJ'⟩⟩

end Go.Proofs.Ytggeojjiongbbaa

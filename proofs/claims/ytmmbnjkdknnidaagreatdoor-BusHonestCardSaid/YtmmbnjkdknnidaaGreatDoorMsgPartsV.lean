/-
  A message's bytes, told part by part: what msg.parts hands back.
-/
import Derived.RangeFuncBox
import Derived.RangeFuncLeaves
import Derived.Shelf.Abstract
import Derived.OwnWalkIn
import Derived.TacticsInMore
import Derived.LoopNIn
import Derived.LoopIn
import Derived.Maps.AppendAt
import Derived.Test.YtmmbnjkdknnidaaGreatDoorMsgNumV
import Derived.Test.YtmmbnjkdknnidaaGreatDoorMsgRowsV
import Derived.Test.YtmmbnjkdknnidaaGreatDoorMsgOwnV
set_option maxHeartbeats 2000000
set_option maxRecDepth 100000
namespace Go.Proofs.YtmmbnjkdknnidaaGreatDoor
open Go.RowKit Go.Shelf
attribute [local go_sem] Oper.semAt_some
abbrev Part := { s : ByteArray // s.size ≤ 8 }
theorem abides_below {β : Type} {B : Nat} {J : β → World → Prop} (h : AbidesFrom B J) {s : β} {W W' : World} (hs : J s W) (hb : Below W.heap.size W W') : J s W' :=
 h s W W' none hs ⟨hb.os, hb.tape, hb.output, hb.size, fun k hk _ => hb.block k hk⟩ (fun _ e => by cases e)
theorem write8_in (m : Nat) (n : Int) (h0 : 0 ≤ n) (h1 : n ≤ 255) (w : World) : CallsIn Fence.wide m Tryz.prog 156 #[.int .u8 n] w fun e w' => e = .returned (.string (txt [octet n])) ∧ Below w.heap.size w w' := callsIn_wide.2 (write8_any n h0 h1 w)
theorem write16_in (m : Nat) (n : Int) (h0 : 0 ≤ n) (h1 : n ≤ 65535) (w : World) : CallsIn Fence.wide m Tryz.prog 157 #[.int .u16 n] w fun e w' => e = .returned (.string (txt (twoL n))) ∧ Below w.heap.size w w' := callsIn_wide.2 (write16_any n h0 h1 w)
theorem print_in (m : Nat) (b : Bool) (n : Int) (w : World) (L : Laid w) : CallsIn Fence.wide m Tryz.prog 155 #[.agg #[.bool b, .int .i64 n]] w fun e w' => e = .returned (.tuple #[.string (txt (printI b n)), .int .i64 (keyE b n)]) ∧ Below w.heap.size w w' := callsIn_wide.2 (print_any b n w L)
theorem print_len (b : Bool) (n : Int) : (txt (printI b n)).size ≤ 8 := by
 rw [txt_size]; unfold printI; split <;> simp [four]
def partsM (m : Msg) (hd : m.data.size ≤ 8) : List Part :=
 [⟨txt (printI m.ext m.n), print_len _ _⟩, ⟨txt [octet m.sender], by rw [txt_size]; simp⟩, ⟨txt (twoL m.inc), by rw [txt_size]; simp [twoL]⟩, ⟨txt (twoL m.seq), by rw [txt_size]; simp [twoL]⟩, ⟨txt (twoL m.number), by rw [txt_size]; simp [twoL]⟩, ⟨txt [octet m.data.size], by rw [txt_size]; simp⟩, ⟨m.data, hd⟩]
def Keeps (b : Nat) (A B : World) : Prop := B.heap[b]? = A.heap[b]?
theorem Keeps.refl (b : Nat) (A : World) : Keeps b A A := rfl
theorem Keeps.trans {b : Nat} {A B C : World} (h : Keeps b A B) (k : Keeps b B C) : Keeps b A C := Eq.trans k h
theorem Keeps.past {b n : Nat} (hb : b < n) (W : World) (l : Nat) (o o' : Obj) (hl : n ≤ l) (h : W.heap[l]? = some o) (_ : o.isCells = false) (_ : o.isWalk = false) : Keeps b W (W.putObj l o') := by
 have hl2 := (Array.getElem?_eq_some_iff.1 h).1
 refine (grownBy_putObj' W l o').block b (by omega) fun e => ?_
 injection e with e
 omega
theorem each_in (m : Nat) (hm : 1 ≤ m) (l Bn : Nat) (M : Msg) (hr : rightM M = true) (hd : M.data.size ≤ 8) (J Jx : List Part → World → Prop) (W : World) (hJ : AbidesFrom W.heap.size J)
  (hY : ∀ pre x W, J pre W → pre.length < 7 → YieldAt Fence.wide (m - 1) Tryz.prog l #[.string x.1] W fun e W' =>
   (e = .returned (.bool true) ∧ J (pre ++ [x]) W' ∧ Keeps Bn W W') ∨ (e = .returned (.bool false) ∧ Jx (pre ++ [x]) W'))
  (hBn : MsgAt W Bn M) (L : Laid W) (h0 : J [] W) :
  CallsIn Fence.wide m Tryz.prog 154 #[.func (.yield l) #[] #[], .pointer (some ⟨Bn, 0, none⟩)] W fun e W' => (∃ u, e = .returned u) ∧
   ((∃ ys, ys = partsM M hd ∧ J ys W') ∨ (∃ pre, True ∧ Jx pre W')) := by
 obtain ⟨r1, ⟨r2, r3⟩, ⟨r4, r5⟩, ⟨r6, r7⟩, ⟨r8, r9⟩, r10⟩ := (rightM_iff M).1 hr
 have HP : Hid (partsM M hd = _) := Lib.hid rfl
 have e1 := wrap_u8_in M.sender (by omega) (by omega)
 have e2 := wrap_u16_in M.inc (by omega) (by omega)
 have e3 := wrap_u16_in M.seq (by omega) (by omega)
 have e4 := wrap_u16_in M.number (by omega) (by omega)
 have e5 := wrap_u8_in (M.data.size : Int) (by omega) (by omega)
 have c0 := fun w L => print_in (m - 1) M.ext M.n w L
 have c1 := fun w => write8_in (m - 1) M.sender (by omega) (by omega) w
 have c2 := fun w => write16_in (m - 1) M.inc (by omega) (by omega) w
 have c3 := fun w => write16_in (m - 1) M.seq (by omega) (by omega) w
 have c4 := fun w => write16_in (m - 1) M.number (by omega) (by omega) w
 have c5 := fun w => write8_in (m - 1) (M.data.size : Int) (by omega) (by omega) w
 refine callsIn_of_wp Tryz.func154 rfl trivial ?_ rfl
 simp only [Tryz.ntmps154, List.size_toArray, List.length_cons, List.length_nil, Nat.reduceAdd, Nat.reduceSub, Array.replicate_succ, Array.replicate_zero, List.push_toArray, List.append_toArray, List.nil_append, List.cons_append]
 have hM0 := hBn
 have h0 : J [] W := h0
 obtain ⟨_, x0, x1, x2, x3, x4, x5, x6⟩ := Holds.of_blk hM0
 gi_wp2_with fail
 refine ⟨trivial, (c0 _ L).mono ?_⟩
 rintro e w0 ⟨rfl, b0⟩
 have hM0a := hM0.on b0
 have hJ0a := abides_below hJ h0 b0
 clear x0 x1 x2 x3 x4 x5 x6
 obtain ⟨_, x0, x1, x2, x3, x4, x5, x6⟩ := Holds.of_blk hM0a
 obtain ⟨fn0, tmps0, assign0, body0, hy0, hR0⟩ := hY ([]) ⟨txt (printI M.ext M.n), print_len _ _⟩ w0 hJ0a (by simp)
 dsimp only at hy0
 gi_wp2_with fail
 refine hR0.mono ?_
 clear hy0 hR0
 clear x0 x1 x2 x3 x4 x5 x6
 rintro e V0 (⟨rfl, hJ0, hk0⟩ | ⟨rfl, hJx0⟩)
 rotate_left
 ·gi_wp2
  (repeat first | (refine ⟨trivial, ?_⟩; gi_wp2) | (refine ⟨fun _ h => (by cases h), ?_⟩; gi_wp2))
  go_end0
  exact ⟨⟨_, rfl⟩, .inr ⟨_, trivial, hJx0⟩⟩
 have hM0 : MsgAt V0 Bn M := Eq.trans hk0 hM0a
 clear hk0
 obtain ⟨_, x0, x1, x2, x3, x4, x5, x6⟩ := Holds.of_blk hM0
 gi_wp2_with fail
 refine ⟨trivial, (c1 _).mono ?_⟩
 rintro e w1 ⟨rfl, b1⟩
 have hM1a := hM0.on b1
 have hJ1a := abides_below hJ hJ0 b1
 clear x0 x1 x2 x3 x4 x5 x6
 obtain ⟨_, x0, x1, x2, x3, x4, x5, x6⟩ := Holds.of_blk hM1a
 obtain ⟨fn1, tmps1, assign1, body1, hy1, hR1⟩ := hY ([] ++ [⟨txt (printI M.ext M.n), print_len _ _⟩]) ⟨txt [octet M.sender], by rw [txt_size]; simp⟩ w1 hJ1a (by simp)
 dsimp only at hy1
 gi_wp2_with fail
 refine hR1.mono ?_
 clear hy1 hR1
 clear x0 x1 x2 x3 x4 x5 x6
 rintro e V1 (⟨rfl, hJ1, hk1⟩ | ⟨rfl, hJx1⟩)
 rotate_left
 ·gi_wp2
  (repeat first | (refine ⟨trivial, ?_⟩; gi_wp2) | (refine ⟨fun _ h => (by cases h), ?_⟩; gi_wp2))
  go_end0
  exact ⟨⟨_, rfl⟩, .inr ⟨_, trivial, hJx1⟩⟩
 have hM1 : MsgAt V1 Bn M := Eq.trans hk1 hM1a
 clear hk1
 obtain ⟨_, x0, x1, x2, x3, x4, x5, x6⟩ := Holds.of_blk hM1
 gi_wp2_with fail
 refine ⟨trivial, (c2 _).mono ?_⟩
 rintro e w2 ⟨rfl, b2⟩
 have hM2a := hM1.on b2
 have hJ2a := abides_below hJ hJ1 b2
 clear x0 x1 x2 x3 x4 x5 x6
 obtain ⟨_, x0, x1, x2, x3, x4, x5, x6⟩ := Holds.of_blk hM2a
 obtain ⟨fn2, tmps2, assign2, body2, hy2, hR2⟩ := hY ([] ++ [⟨txt (printI M.ext M.n), print_len _ _⟩] ++ [⟨txt [octet M.sender], by rw [txt_size]; simp⟩]) ⟨txt (twoL M.inc), by rw [txt_size]; simp [twoL]⟩ w2 hJ2a (by simp)
 dsimp only at hy2
 gi_wp2_with fail
 refine hR2.mono ?_
 clear hy2 hR2
 clear x0 x1 x2 x3 x4 x5 x6
 rintro e V2 (⟨rfl, hJ2, hk2⟩ | ⟨rfl, hJx2⟩)
 rotate_left
 ·gi_wp2
  (repeat first | (refine ⟨trivial, ?_⟩; gi_wp2) | (refine ⟨fun _ h => (by cases h), ?_⟩; gi_wp2))
  go_end0
  exact ⟨⟨_, rfl⟩, .inr ⟨_, trivial, hJx2⟩⟩
 have hM2 : MsgAt V2 Bn M := Eq.trans hk2 hM2a
 clear hk2
 obtain ⟨_, x0, x1, x2, x3, x4, x5, x6⟩ := Holds.of_blk hM2
 gi_wp2_with fail
 refine ⟨trivial, (c3 _).mono ?_⟩
 rintro e w3 ⟨rfl, b3⟩
 have hM3a := hM2.on b3
 have hJ3a := abides_below hJ hJ2 b3
 clear x0 x1 x2 x3 x4 x5 x6
 obtain ⟨_, x0, x1, x2, x3, x4, x5, x6⟩ := Holds.of_blk hM3a
 obtain ⟨fn3, tmps3, assign3, body3, hy3, hR3⟩ := hY ([] ++ [⟨txt (printI M.ext M.n), print_len _ _⟩] ++ [⟨txt [octet M.sender], by rw [txt_size]; simp⟩] ++ [⟨txt (twoL M.inc), by rw [txt_size]; simp [twoL]⟩]) ⟨txt (twoL M.seq), by rw [txt_size]; simp [twoL]⟩ w3 hJ3a (by simp)
 dsimp only at hy3
 gi_wp2_with fail
 refine hR3.mono ?_
 clear hy3 hR3
 clear x0 x1 x2 x3 x4 x5 x6
 rintro e V3 (⟨rfl, hJ3, hk3⟩ | ⟨rfl, hJx3⟩)
 rotate_left
 ·gi_wp2
  (repeat first | (refine ⟨trivial, ?_⟩; gi_wp2) | (refine ⟨fun _ h => (by cases h), ?_⟩; gi_wp2))
  go_end0
  exact ⟨⟨_, rfl⟩, .inr ⟨_, trivial, hJx3⟩⟩
 have hM3 : MsgAt V3 Bn M := Eq.trans hk3 hM3a
 clear hk3
 obtain ⟨_, x0, x1, x2, x3, x4, x5, x6⟩ := Holds.of_blk hM3
 gi_wp2_with fail
 refine ⟨trivial, (c4 _).mono ?_⟩
 rintro e w4 ⟨rfl, b4⟩
 have hM4a := hM3.on b4
 have hJ4a := abides_below hJ hJ3 b4
 clear x0 x1 x2 x3 x4 x5 x6
 obtain ⟨_, x0, x1, x2, x3, x4, x5, x6⟩ := Holds.of_blk hM4a
 obtain ⟨fn4, tmps4, assign4, body4, hy4, hR4⟩ := hY ([] ++ [⟨txt (printI M.ext M.n), print_len _ _⟩] ++ [⟨txt [octet M.sender], by rw [txt_size]; simp⟩] ++ [⟨txt (twoL M.inc), by rw [txt_size]; simp [twoL]⟩] ++ [⟨txt (twoL M.seq), by rw [txt_size]; simp [twoL]⟩]) ⟨txt (twoL M.number), by rw [txt_size]; simp [twoL]⟩ w4 hJ4a (by simp)
 dsimp only at hy4
 gi_wp2_with fail
 refine hR4.mono ?_
 clear hy4 hR4
 clear x0 x1 x2 x3 x4 x5 x6
 rintro e V4 (⟨rfl, hJ4, hk4⟩ | ⟨rfl, hJx4⟩)
 rotate_left
 ·gi_wp2
  (repeat first | (refine ⟨trivial, ?_⟩; gi_wp2) | (refine ⟨fun _ h => (by cases h), ?_⟩; gi_wp2))
  go_end0
  exact ⟨⟨_, rfl⟩, .inr ⟨_, trivial, hJx4⟩⟩
 have hM4 : MsgAt V4 Bn M := Eq.trans hk4 hM4a
 clear hk4
 obtain ⟨_, x0, x1, x2, x3, x4, x5, x6⟩ := Holds.of_blk hM4
 gi_wp2_with fail
 refine ⟨trivial, (c5 _).mono ?_⟩
 rintro e w5 ⟨rfl, b5⟩
 have hM5a := hM4.on b5
 have hJ5a := abides_below hJ hJ4 b5
 clear x0 x1 x2 x3 x4 x5 x6
 obtain ⟨_, x0, x1, x2, x3, x4, x5, x6⟩ := Holds.of_blk hM5a
 obtain ⟨fn5, tmps5, assign5, body5, hy5, hR5⟩ := hY ([] ++ [⟨txt (printI M.ext M.n), print_len _ _⟩] ++ [⟨txt [octet M.sender], by rw [txt_size]; simp⟩] ++ [⟨txt (twoL M.inc), by rw [txt_size]; simp [twoL]⟩] ++ [⟨txt (twoL M.seq), by rw [txt_size]; simp [twoL]⟩] ++ [⟨txt (twoL M.number), by rw [txt_size]; simp [twoL]⟩]) ⟨txt [octet (M.data.size : Int)], by rw [txt_size]; simp⟩ w5 hJ5a (by simp)
 dsimp only at hy5
 gi_wp2_with fail
 refine hR5.mono ?_
 clear hy5 hR5
 clear x0 x1 x2 x3 x4 x5 x6
 rintro e V5 (⟨rfl, hJ5, hk5⟩ | ⟨rfl, hJx5⟩)
 rotate_left
 ·gi_wp2
  (repeat first | (refine ⟨trivial, ?_⟩; gi_wp2) | (refine ⟨fun _ h => (by cases h), ?_⟩; gi_wp2))
  go_end0
  exact ⟨⟨_, rfl⟩, .inr ⟨_, trivial, hJx5⟩⟩
 have hM5 : MsgAt V5 Bn M := Eq.trans hk5 hM5a
 clear hk5
 obtain ⟨_, x0, x1, x2, x3, x4, x5, x6⟩ := Holds.of_blk hM5
 obtain ⟨fn6, tmps6, assign6, body6, hy6, hR6⟩ := hY ([] ++ [⟨txt (printI M.ext M.n), print_len _ _⟩] ++ [⟨txt [octet M.sender], by rw [txt_size]; simp⟩] ++ [⟨txt (twoL M.inc), by rw [txt_size]; simp [twoL]⟩] ++ [⟨txt (twoL M.seq), by rw [txt_size]; simp [twoL]⟩] ++ [⟨txt (twoL M.number), by rw [txt_size]; simp [twoL]⟩] ++ [⟨txt [octet (M.data.size : Int)], by rw [txt_size]; simp⟩]) ⟨M.data, hd⟩ V5 hJ5 (by simp)
 dsimp only at hy6
 gi_wp2_with fail
 refine hR6.mono ?_
 clear hy6 hR6
 clear x0 x1 x2 x3 x4 x5 x6
 rintro e V6 (⟨rfl, hJ6, hk6⟩ | ⟨rfl, hJx6⟩)
 rotate_left
 ·gi_wp2
  (repeat first | (refine ⟨trivial, ?_⟩; gi_wp2) | (refine ⟨fun _ h => (by cases h), ?_⟩; gi_wp2))
  go_end0
  exact ⟨⟨_, rfl⟩, .inr ⟨_, trivial, hJx6⟩⟩
 have hM6 : MsgAt V6 Bn M := Eq.trans hk6 hM5
 clear hk6
 gi_wp2
 go_end0
 exact ⟨⟨_, rfl⟩, .inl ⟨_, rfl, hJ6⟩⟩
theorem parts_stop (m : Nat) (hm : 1 ≤ m) (Bn : Nat) (M : Msg) (hr : rightM M = true) (hd : M.data.size ≤ 8) (w : World) (hBn : MsgAt w Bn M) (L : Laid w) :
  SeqStopsK Fence.wide m Tryz.prog 154 #[.pointer (some ⟨Bn, 0, none⟩)] (fun x : Part => #[Value.string x.1]) (Keeps Bn) (fun ys => ys = partsM M hd) (fun _ => True) 7 w := fun l J Jx W hW hJ _ hY h0 =>
 each_in m hm l Bn M hr hd J Jx W hJ hY (hBn.on hW) (L.below hW) h0
theorem parts_in (m : Nat) (M : Msg) (w : World) : CallsIn Fence.wide m Tryz.prog 129 #[mv M] w fun e w' => e = .returned (.func (.func 154) #[] #[.pointer (some ⟨w.heap.size, 0, none⟩)]) ∧ w' = w.alloc (.cells (mc M) 109) := by
 refine callsIn_wide.2 ?_
 obtain ⟨b, n, se, ic, sq, nu, d⟩ := M
 simp only [mv, mc]
 go_enter Tryz.func129, Tryz.ntmps129
 go_wp2
 go_ret
 exact ⟨rfl, rfl⟩
end Go.Proofs.YtmmbnjkdknnidaaGreatDoor

/-
  The program's generic functions on numbers of one byte or two: size, write, read.
-/
import Derived.Shelf.Strings.BuilderK
import Derived.Shelf.Small.Bits
import Derived.Lib.OthersKept
import Derived.Test.YtmmbnjkdknnidaaGreatDoorProg
import Derived.KernelRfl
import Derived.Test.YtmmbnjkdknnidaaGreatDoorMsgTripV
set_option maxHeartbeats 2000000
set_option maxRecDepth 100000
namespace Go.Proofs.YtmmbnjkdknnidaaGreatDoor
open Go.Shelf
open Go.RowKit
def lays169_ren : Go.Shelf.Ren := ⟨fun | 169 => 86 | n => n, fun | 70 => 128 | 9 => 9 | 0 => 0 | 72 => 130 | 37 => 42 | 127 => 160 | 3 => 3 | 5 => 5 | n => n, fun | n => n⟩
theorem lays169 : Go.Proofs.Lays.n169 Tryz.prog lays169_ren := {
 mixed := by kernel_rfl
 f169 := Tryz.func86.trans (congrArg some (by kernel_rfl))
 t0 := Tryz.underlying0
 a0 := Tryz.isAgg0
 z0 := Tryz.sizeOf0
 v0 := Tryz.zeroValue0
 t3 := Tryz.underlying3
 a3 := Tryz.isAgg3
 z3 := Tryz.sizeOf3
 v3 := Tryz.zeroValue3
 t9 := Tryz.underlying9
 a9 := Tryz.isAgg9
 z9 := Tryz.sizeOf9
 v9 := Tryz.zeroValue9
 t37 := Tryz.underlying42
 a37 := Tryz.isAgg42
 z37 := Tryz.sizeOf42
 v37 := Tryz.zeroValue42
 t70 := Tryz.underlying128
 a70 := Tryz.isAgg128
 z70 := Tryz.sizeOf128
 v70 := Tryz.zeroValue128
 t72 := Tryz.underlying130
 a72 := Tryz.isAgg130
 z72 := Tryz.sizeOf130
 v72 := Tryz.zeroValue130
 t127 := Tryz.underlying160
 a127 := Tryz.isAgg160
 z127 := Tryz.sizeOf160
 v127 := Tryz.zeroValue160 }
theorem Builder_Extra_169 : Builder.Extra Tryz.prog lays169_ren := {
 sizeBuilder := by kernel_rfl
 liesBuilder := by kernel_rfl
 t5 := Tryz.underlying5
 a5 := Tryz.isAgg5
 z5 := Tryz.sizeOf5
 v5 := Tryz.zeroValue5
 infoByte := by kernel_rfl
 cellsByte := by kernel_rfl
 sizeByte := by kernel_rfl
 neB5 := by decide }
def lays127_ren : Go.Shelf.Ren := ⟨fun | 127 => 175 | n => n, fun | 49 => 183 | 3 => 3 | 4 => 4 | 46 => 103 | 5 => 5 | 9 => 9 | n => n, fun | n => n⟩
theorem lays127 : Go.Proofs.Lays.n127 Tryz.prog lays127_ren := {
 mixed := by kernel_rfl
 f127 := Tryz.func175.trans (congrArg some (by kernel_rfl))
 t3 := Tryz.underlying3
 a3 := Tryz.isAgg3
 z3 := Tryz.sizeOf3
 v3 := Tryz.zeroValue3
 t4 := Tryz.underlying4
 a4 := Tryz.isAgg4
 z4 := Tryz.sizeOf4
 v4 := Tryz.zeroValue4
 t5 := Tryz.underlying5
 a5 := Tryz.isAgg5
 z5 := Tryz.sizeOf5
 v5 := Tryz.zeroValue5
 t9 := Tryz.underlying9
 a9 := Tryz.isAgg9
 z9 := Tryz.sizeOf9
 v9 := Tryz.zeroValue9
 t46 := Tryz.underlying103
 a46 := Tryz.isAgg103
 z46 := Tryz.sizeOf103
 v46 := Tryz.zeroValue103
 t49 := Tryz.underlying183
 a49 := Tryz.isAgg183
 z49 := Tryz.sizeOf183
 v49 := Tryz.zeroValue183 }
theorem bits_Len16 (x : Int) (w : World) (h0 : 0 ≤ x) (h1 : x ≤ 65535) :
  Calls Tryz.prog 175 #[.int .u16 x] w fun e w' => e = .returned (.int .i64 (Lib.bitLen x.toNat)) ∧ w' = w := Any.bits_Len16 lays127 x w h0 h1
open Go.RowKit in
theorem Builder_String_any_k (B b : Nat) (l : List UInt8) (w : World) (h : Lib.IsBuilderF 130 5 B b (Lib.byteCells l) w) (hBw : B ≤ w.heap.size) :
  Calls Tryz.prog 86 #[.pointer (some ⟨b, 0, none⟩)] w fun e w' => e = .returned (.string ⟨l.toArray⟩) ∧ (Lib.IsBuilderF 130 5 B b (Lib.byteCells l) w' ∧ Below B w w' ∧ Lib.OthersKept 5 (some b) w w') := Any.Builder_String_any_k lays169 Builder_Extra_169 B b l w h hBw
theorem copyCheck_used (b : Nat) (w : World) (h0 : w.cell? ⟨b, 0, none⟩ = some (.pointer (some ⟨b, 0, none⟩))) :
  Calls Tryz.prog 127 #[.pointer (some ⟨b, 0, none⟩)] w fun e w' => e = .returned (.tuple #[]) ∧ w' = w := by
 obtain ⟨j, hj, _⟩ := Option.map_eq_some_iff.1 (show (Tryz.prog.info? 130).map (·.size) = some 2 by kernel_rfl)
 go_enter Tryz.func127, Tryz.ntmps127
 go_wp2
 rw [Lib.run_neq_ptr_same w _ Tryz.underlying128 hj]
 go_wp2
 go_end0
 exact ⟨rfl, rfl⟩
theorem copyCheck_fresh (b : Nat) (w : World) (h0 : w.cell? ⟨b, 0, none⟩ = some (.pointer none)) (hsh : w.shape? b = some (130, 2)) (hfz : w.frozen? ⟨b, 0, none⟩ = false) :
  Calls Tryz.prog 127 #[.pointer (some ⟨b, 0, none⟩)] w fun e w' => e = .returned (.tuple #[]) ∧ w' = w.setCell ⟨b, 0, none⟩ (.pointer (some ⟨b, 0, none⟩)) := by
 obtain ⟨j, hj, hjs⟩ := Option.map_eq_some_iff.1 (show (Tryz.prog.info? 130).map (·.size) = some 2 by kernel_rfl)
 have hlies : liesAt Tryz.prog Tryz.prog.depth 130 (2 / Tryz.prog.cellsOf 130) 0 130 1 = true := by kernel_rfl
 go_enter Tryz.func127, Tryz.ntmps127
 go_wp2
 rw [Lib.run_to_unsafe w ⟨b, 0, none⟩ Tryz.underlying128 Tryz.underlying178 hj (by rw [hjs]; decide) hsh (Nat.zero_lt_succ 1)]
 simp only [Result.andThen]
 rw [Oper.upon_value]
 go_wp2
 rw [run_callFunc_extern Tryz.func151 (by kernel_rfl) (by kernel_rfl) (by kernel_rfl) (e := Extern.AbiNoEscape.same) (by kernel_rfl)]
 rw [Lib.run_noEscape]
 simp only [Result.andThen]
 rw [Oper.upon_value]
 go_wp2
 rw [Lib.run_from_unsafe w ⟨b, 0, none⟩ Tryz.underlying178 Tryz.underlying128 hj hsh hlies]
 simp only [Result.andThen]
 rw [Oper.upon_value]
 go_wp2
 go_end0
 exact ⟨rfl, rfl⟩
theorem ownsRow_kind {w : World} {B : Nat} {e : TypeId} {v : Value} {n : Nat} {xs : List Value} (h : w.ownsRow B e 1 v n xs) : ∀ g, v.ownBlock = some g → ∃ c fz, w.heap[g]? = some (.cells c e fz) := by
 intro g hg
 rcases h.2 with ⟨rfl, _⟩ | ⟨g', cap, cur, rfl, _, hh, _⟩
 ·simp [Value.ownBlock] at hg
 ·simp only [Value.ownBlock, Option.some.injEq] at hg
  subst hg
  exact ⟨_, _, hh⟩
theorem copyCheck_any (B b : Nat) (bs : List Value) (w : World) (h : Lib.IsBuilder 130 5 B b bs w) :
  Calls Tryz.prog 127 #[.pointer (some ⟨b, 0, none⟩)] w fun e w' => e = .returned (.tuple #[]) ∧ (Lib.BuilderAt 130 5 B b (.pointer (some ⟨b, 0, none⟩)) bs w' ∧ Below B w w' ∧ Lib.OthersKept 5 (some b) w w') := by
 rcases h with h | h
 ·refine (copyCheck_fresh b w h.cell0 h.shape h.frozen0).mono ?_
  rintro e w' ⟨rfl, rfl⟩
  exact ⟨rfl, h.used _, (Below.refl B w).setCell (p := ⟨b, 0, none⟩) h.1 _, (Lib.OthersKept.refl _ _ w).setCell ⟨b, 0, none⟩ rfl _⟩
 ·refine (copyCheck_used b w h.cell0).mono ?_
  rintro e w' ⟨rfl, rfl⟩
  exact ⟨rfl, h, Below.refl B _, Lib.OthersKept.refl _ _ _⟩
theorem writeString_any (B b : Nat) (bs : List Value) (s : ByteArray) (w : World) (h : Lib.IsBuilder 130 5 B b bs w) (hlen : bs.length + s.size ≤ 1000) (hBw : B ≤ w.heap.size) :
  Calls Tryz.prog 85 #[.pointer (some ⟨b, 0, none⟩), .string s] w fun e w' => e = .returned (.tuple #[.int .i64 s.size, .nilIface]) ∧ (Lib.BuilderAt 130 5 B b (.pointer (some ⟨b, 0, none⟩)) (bs ++ Lib.strCells s) w' ∧ Below B w w' ∧ Lib.OthersKept 5 (some b) w w') := by
 obtain ⟨i0, hi, hz0, hz1, hz2⟩ := info_parts (show (Tryz.prog.info? 5).map (fun i => (i.zero, i.size, i.bytes)) = some (some (.int .u8 0), 1, 1) by kernel_rfl)
 go_enter Tryz.func85, Tryz.ntmps85
 go_wp2_with (go_at_call 127; refine (copyCheck_any B b bs _ h).mono ?_)
 rintro e w1 ⟨rfl, h1, hb1, hk1⟩
 obtain ⟨hB, v, hbk, hown, hne⟩ := h1
 have c0 : w1.cell? ⟨b, 0, none⟩ = some (.pointer (some ⟨b, 0, none⟩)) := by rw [Lib.cell_of_heap hbk]; rfl
 have c1 : w1.cell? ⟨b, 1, none⟩ = some v := by rw [Lib.cell_of_heap hbk]; rfl
 go_wp2_with (at_builtin; refine Lib.wpList_append_own_string _ rfl _ _ 42 9 rfl B 5 i0 Tryz.underlying42 Tryz.underlying9 hi hz0 hz1 hz2 _ _ _ rfl hown s rfl ?c3 ?c4 ?c5 ?_)
 case c3 => unfold maxLen; omega
 case c4 => omega
 case c5 => have := hb1.size; omega
 intro v' w2 hown' hgrow _
 have hlt : b < w1.heap.size := by
  rcases Nat.lt_or_ge b w1.heap.size with h' | h'
  ·exact h'
  ·simp [Array.getElem?_eq_none h'] at hbk
 have hb2 : w2.heap[b]? = some (.cells #[.pointer (some ⟨b, 0, none⟩), v] 130 (0, 0)) := by
  rw [hgrow.block b hlt (fun e => hne e.symm)]
  exact hbk
 have d0 : w2.cell? ⟨b, 0, none⟩ = some (.pointer (some ⟨b, 0, none⟩)) := by rw [Lib.cell_of_heap hb2]; rfl
 have d1 : w2.cell? ⟨b, 1, none⟩ = some v := by rw [Lib.cell_of_heap hb2]; rfl
 have f1 : w2.frozen? ⟨b, 1, none⟩ = false := Lib.frozen_of_heap hb2 1
 obtain ⟨ao, n', cap, rfl⟩ : ∃ ao n' cap, v' = .slice ao n' cap := by
  rcases hown'.2 with ⟨hv, _⟩ | ⟨g, cap, cur, hv, _⟩
  ·exact ⟨_, _, _, hv⟩
  ·exact ⟨_, _, _, hv⟩
 go_wp2
 go_ret2
 refine ⟨rfl, ?_, ?_, (hk1.grown hgrow (ownsRow_kind hown)).setCell ⟨b, 1, none⟩ rfl _⟩
 ·exact Lib.BuilderAt.put (T := 130) (e := 5) hB hb2 (bs' := bs ++ Lib.strCells s) (by simpa [Lib.strCells_length] using hown') (by decide)
 ·exact (hb1.grown hgrow (by have := hb1.size; omega) (fun k hk => (hown.lt k hk).1)).setCell (p := ⟨b, 1, none⟩) hB _
end Go.Proofs.YtmmbnjkdknnidaaGreatDoor
namespace Go.Proofs.YtmmbnjkdknnidaaGreatDoor
open Go.RowKit
theorem wrap_u8_in (n : Int) (h0 : 0 ≤ n) (h1 : n ≤ 255) : IntKind.u8.wrap n = n := by
 simp only [IntKind.wrap, IntKind.bits, IntKind.signed]
 simp; omega
theorem wrap_u16_in (n : Int) (h0 : 0 ≤ n) (h1 : n ≤ 65535) : IntKind.u16.wrap n = n := by
 simp only [IntKind.wrap, IntKind.bits, IntKind.signed]
 simp; omega
theorem len255 : Lib.bitLen (Int.toNat 255) = 8 := by decide
theorem len65535 : Lib.bitLen (Int.toNat 65535) = 16 := by decide
theorem len8_any (w : World) : Calls Tryz.prog 175 #[.int .u16 255] w fun e w' => e = .returned (.int .i64 8) ∧ w = w' :=
 (bits_Len16 255 w (by omega) (by omega)).mono fun e w' h => ⟨by rw [h.1, len255]; rfl, h.2.symm⟩
theorem len16_any (w : World) : Calls Tryz.prog 175 #[.int .u16 65535] w fun e w' => e = .returned (.int .i64 16) ∧ w = w' :=
 (bits_Len16 65535 w (by omega) (by omega)).mono fun e w' h => ⟨by rw [h.1, len65535]; rfl, h.2.symm⟩
theorem size8_any (w : World) : Calls Tryz.prog 168 #[] w fun e w' => e = .returned (.int .i64 1) ∧ w = w' := by
 have c := len8_any w
 have e0 : IntKind.u8.signed = false := rfl
 have e1 : IntKind.u16.wrap (bits BinOp.xor IntKind.u8 IntKind.u8.max 0) = 255 := by decide
 have e2 : IntKind.i64.wrap (Int.tdiv 8 8) = 1 := by decide
 go_enter Tryz.func168, Tryz.ntmps168
 go_wp2_with fail
 refine c.mono ?_; rintro e w1 ⟨rfl, rfl⟩
 go_wp2_with fail
 go_ret
 exact ⟨rfl, rfl⟩
theorem size16_any (w : World) : Calls Tryz.prog 169 #[] w fun e w' => e = .returned (.int .i64 2) ∧ w = w' := by
 have c := len16_any w
 have e0 : IntKind.u16.signed = false := rfl
 have e1 : bits BinOp.xor IntKind.u16 IntKind.u16.max 0 = 65535 := by decide
 go_enter Tryz.func169, Tryz.ntmps169
 go_wp2_with fail
 refine c.mono ?_; rintro e w1 ⟨rfl, rfl⟩
 go_wp2_with fail
 go_ret
 exact ⟨rfl, rfl⟩
theorem byte_info : (Tryz.prog.info? 5).map (fun i => (i.zero, i.size, i.bytes)) = some (some (.int .u8 0), 1, 1) := by kernel_rfl
theorem make_one (W : World) : (Instr.makeSlice 42 (.int .i64 1) (.int .i64 1)).run Tryz.prog W = .ok (.slice (some ⟨W.heap.size, 0, none⟩) 1 1) (W.alloc (.cells #[.int .u8 0] 5)) := by
 obtain ⟨i0, hi, hz0, hz1, hz2⟩ := info_parts byte_info
 have h := run_make (P := Tryz.prog) W 42 5 i0 (.int .u8 0) Tryz.underlying42 hi hz0 .i64 .i64 1 1 (by omega) (by omega) (by rw [hz2]; omega) (by omega)
 rw [hz1, show madeCells (Value.int .u8 0).cells (Int.toNat 1 * 1) = #[.int .u8 0] by kernel_rfl] at h
 exact h
theorem make_two (W : World) : (Instr.makeSlice 42 (.int .i64 2) (.int .i64 2)).run Tryz.prog W = .ok (.slice (some ⟨W.heap.size, 0, none⟩) 2 2) (W.alloc (.cells #[.int .u8 0, .int .u8 0] 5)) := by
 obtain ⟨i0, hi, hz0, hz1, hz2⟩ := info_parts byte_info
 have h := run_make (P := Tryz.prog) W 42 5 i0 (.int .u8 0) Tryz.underlying42 hi hz0 .i64 .i64 2 2 (by omega) (by omega) (by rw [hz2]; omega) (by omega)
 rw [hz1, show madeCells (Value.int .u8 0).cells (Int.toNat 2 * 1) = #[.int .u8 0, .int .u8 0] by kernel_rfl] at h
 exact h
theorem u16_or_nat (a b : Nat) (ha : a < 65536) (hb : b < 65536) : bits .or .u16 (a : Int) (b : Int) = ((a ||| b : Nat) : Int) := by
 have hx : a ||| b < 2 ^ 16 := Nat.or_lt_two_pow (by simpa using ha) (by simpa using hb)
 have e : ∀ n : Nat, BitVec.ofInt IntKind.u16.bits (n : Int) = BitVec.ofNat 16 n := fun n => by
  show BitVec.ofInt 16 (n : Int) = _
  exact BitVec.ofInt_natCast ..
 unfold bits
 simp only [e]
 show IntKind.u16.wrap (((BitVec.ofNat 16 a ||| BitVec.ofNat 16 b).toNat : Nat) : Int) = _
 rw [BitVec.toNat_or, BitVec.toNat_ofNat, BitVec.toNat_ofNat, Nat.mod_eq_of_lt (by omega), Nat.mod_eq_of_lt (by omega)]
 exact wrap_u16_in _ (by omega) (by omega)
theorem u16_or_zero (n : Nat) (h : n < 65536) : bits .or .u16 0 (n : Int) = (n : Int) := by
 have := u16_or_nat 0 n (by omega) h
 rw [Nat.zero_or] at this
 exact this
theorem u16_or_byte (a b : Nat) (ha : a < 256) (hb : b < 256) : bits .or .u16 (256 * (a : Int)) (b : Int) = 256 * (a : Int) + (b : Int) := by
 have h := u16_or_nat (256 * a) b (by omega) (by omega)
 have e := Nat.two_pow_add_eq_or_of_lt (i := 8) (b := b) hb a
 rw [show 256 * (a : Int) = ((256 * a : Nat) : Int) by omega, h, ← e]
 omega
theorem write8_any (n : Int) (h0 : 0 ≤ n) (h1 : n ≤ 255) (w : World) :
  Calls Tryz.prog 156 #[.int .u8 n] w fun e w' => e = .returned (.string (txt [octet n])) ∧ Below w.heap.size w w' := by
 have cs := fun w => size8_any w
 have hm := make_one
 have hb := Lib.hid (Joins.below_alloc1 w (.cells #[.int .u8 n] 5))
 have h1 := one_at (w.alloc (.cells #[.int .u8 n] 5)) w.heap.size n (by simp [go_sem])
 rw [octet_small n h0] at h1
 go_enter Tryz.func156, Tryz.ntmps156
 go_wp2_with fail
 refine (cs _).mono ?_; rintro e w1 ⟨rfl, rfl⟩
 go_wp2_with fail
 refine wp_loop_rounds 2 ?_
 rw [rounds_succ]
 go_wp2_with fail
 rw [rounds_succ]
 go_wp2_with fail
 go_ret
 exact ⟨rfl, hb.out⟩
theorem write16_any (n : Int) (h0 : 0 ≤ n) (h1 : n ≤ 65535) (w : World) :
  Calls Tryz.prog 157 #[.int .u16 n] w fun e w' => e = .returned (.string (txt (twoL n))) ∧ Below w.heap.size w w' := by
 have cs := fun w => size16_any w
 have hm := make_two
 have hb := Lib.hid (Joins.below_alloc1 w (.cells #[.int .u8 (n / 256), .int .u8 (n % 256)] 5))
 have h2 := two_bytes w (n / 256) (n % 256)
 rw [octet_of _ (n / 256) (by omega) (by omega), octet_of (n % 256) n (by omega) (by omega)] at h2
 go_enter Tryz.func157, Tryz.ntmps157
 go_wp2_with fail
 refine (cs _).mono ?_; rintro e w1 ⟨rfl, rfl⟩
 go_wp2_with fail
 refine wp_loop_rounds 3 ?_
 rw [rounds_succ]
 go_wp2_with fail
 rw [rounds_succ]
 go_wp2_with fail
 rw [rounds_succ]
 go_wp2_with fail
 go_ret
 exact ⟨rfl, hb.out⟩
theorem read8_any (s : ByteArray) (hs : 1 ≤ s.size) (w : World) :
  Calls Tryz.prog 178 #[.string s] w fun e w' => e = .returned (.tuple #[.int .u8 ((s.data.toList.getD 0 0).toNat : Int), .string (txt (s.data.toList.drop 1))]) ∧ Below w.heap.size w w' := by
 have cs := fun w => size8_any w
 have k0 := run_at s 0 0 rfl hs
 have k1 := run_from s 1 1 rfl hs
 have b0 := (s.data.toList.getD 0 0).toNat_lt
 generalize (s.data.toList.getD 0 0).toNat = x0 at *
 generalize txt (s.data.toList.drop 1) = R at *
 have e0 := wrap_u16_in x0 (by omega) (by omega)
 have e1 := u16_or_zero x0 (by omega)
 have e2 := wrap_u8_in x0 (by omega) (by omega)
 go_enter Tryz.func178, Tryz.ntmps178
 go_wp2_with fail
 refine (cs _).mono ?_; rintro e w1 ⟨rfl, rfl⟩
 go_wp2_with fail
 refine wp_loop_rounds 2 ?_
 rw [rounds_succ]
 go_wp2_with fail
 rw [rounds_succ]
 go_wp2_with fail
 go_region_held3 (fun w' => Below w.heap.size w w') (first | assumption | exact (Below.refl _ _).drew | exact Below.drew (by assumption) | exact Below.refl _ _) (first | (go_at_call 168; refine (cs _).mono ?_; rintro e w' ⟨rfl, rfl⟩))
 go_wp2_with fail
 go_ret2
 exact ⟨rfl, (Below.refl _ _).drew⟩
theorem read16_any (s : ByteArray) (hs : 2 ≤ s.size) (w : World) :
  Calls Tryz.prog 179 #[.string s] w fun e w' => e = .returned (.tuple #[.int .u16 (pairL s.data.toList 0), .string (txt (s.data.toList.drop 2))]) ∧ Below w.heap.size w w' := by
 have cs := fun w => size16_any w
 have k0 := run_at s 0 0 rfl (by omega)
 have k1 := run_at s 1 1 rfl (by omega)
 have k2 := run_from s 2 2 rfl hs
 have hv : pairL s.data.toList 0 = 256 * ((s.data.toList.getD 0 0).toNat : Int) + ((s.data.toList.getD 1 0).toNat : Int) := rfl
 have b0 := (s.data.toList.getD 0 0).toNat_lt
 have b1 := (s.data.toList.getD 1 0).toNat_lt
 generalize (s.data.toList.getD 0 0).toNat = x0 at *
 generalize (s.data.toList.getD 1 0).toNat = x1 at *
 generalize txt (s.data.toList.drop 2) = R at *
 rw [hv]
 clear hv
 have e0 := wrap_u16_in x0 (by omega) (by omega)
 have e1 := u16_or_zero x0 (by omega)
 have f0 := wrap_u16_in x1 (by omega) (by omega)
 have f1 := u16_or_byte x0 x1 (by omega) (by omega)
 rw [Int.mul_comm 256 (x0 : Int)] at f1
 go_enter Tryz.func179, Tryz.ntmps179
 go_wp2_with fail
 refine (cs _).mono ?_; rintro e w1 ⟨rfl, rfl⟩
 go_wp2_with fail
 refine wp_loop_rounds 3 ?_
 rw [rounds_succ]
 go_wp2_with fail
 rw [rounds_succ]
 go_wp2_with fail
 rw [rounds_succ]
 go_wp2_with fail
 go_region_held3 (fun w' => Below w.heap.size w w') (first | assumption | exact (Below.refl _ _).drew | exact Below.drew (by assumption) | exact Below.refl _ _) (first | (go_at_call 169; refine (cs _).mono ?_; rintro e w' ⟨rfl, rfl⟩))
 go_wp2_with fail
 go_ret2
 exact ⟨by rw [Int.mul_comm 256 (x0 : Int)]; rfl, (Below.refl _ _).drew⟩
end Go.Proofs.YtmmbnjkdknnidaaGreatDoor

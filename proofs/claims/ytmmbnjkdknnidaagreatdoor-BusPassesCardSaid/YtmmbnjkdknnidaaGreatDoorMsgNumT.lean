/-
  The program's generic functions on numbers of one byte or two: size, write, read.
-/
import Derived.Test.YtmmbnjkdknnidaaGreatDoorMsgTripT
import Derived.Test.YtmmbnjkdknnidaaGreatDoorMsgShelfT
namespace Go.Proofs.YtmmbnjkdknnidaaGreatDoor
open Go.RowKit
theorem wrap_u8_in (n : Int) (h0 : 0 ≤ n) (h1 : n ≤ 255) : IntKind.u8.wrap n = n := by
 simp only [IntKind.wrap, IntKind.bits, IntKind.signed]
 simp; omega
theorem wrap_u16_in (n : Int) (h0 : 0 ≤ n) (h1 : n ≤ 65535) : IntKind.u16.wrap n = n := by
 simp only [IntKind.wrap, IntKind.bits, IntKind.signed]
 simp; omega
theorem len255 : Lib.bitLen (Int.toNat 255) = 8 := by decide
theorem len65535 : Lib.bitLen (Int.toNat 65535) = 16 := by decide
theorem len8_any (w : World) : Calls Tryz.prog 175 #[.int .u16 255] w fun e w' => e = .returned (.int .i64 8) ∧ w = w' :=
 (bits_Len16 255 w (by omega) (by omega)).mono fun e w' h => ⟨by rw [h.1, len255]; rfl, h.2.symm⟩
theorem len16_any (w : World) : Calls Tryz.prog 175 #[.int .u16 65535] w fun e w' => e = .returned (.int .i64 16) ∧ w = w' :=
 (bits_Len16 65535 w (by omega) (by omega)).mono fun e w' h => ⟨by rw [h.1, len65535]; rfl, h.2.symm⟩
theorem size8_any (w : World) : Calls Tryz.prog 168 #[] w fun e w' => e = .returned (.int .i64 1) ∧ w = w' := by
 have c := len8_any w
 have e0 : IntKind.u8.signed = false := rfl
 have e1 : IntKind.u16.wrap (bits BinOp.xor IntKind.u8 IntKind.u8.max 0) = 255 := by decide
 have e2 : IntKind.i64.wrap (Int.tdiv 8 8) = 1 := by decide
 go_enter Tryz.func168, Tryz.ntmps168
 go_wp2_with fail
 refine c.mono ?_; rintro e w1 ⟨rfl, rfl⟩
 go_wp2_with fail
 go_ret
 exact ⟨rfl, rfl⟩
theorem size16_any (w : World) : Calls Tryz.prog 169 #[] w fun e w' => e = .returned (.int .i64 2) ∧ w = w' := by
 have c := len16_any w
 have e0 : IntKind.u16.signed = false := rfl
 have e1 : bits BinOp.xor IntKind.u16 IntKind.u16.max 0 = 65535 := by decide
 go_enter Tryz.func169, Tryz.ntmps169
 go_wp2_with fail
 refine c.mono ?_; rintro e w1 ⟨rfl, rfl⟩
 go_wp2_with fail
 go_ret
 exact ⟨rfl, rfl⟩
theorem byte_info : (Tryz.prog.info? 5).map (fun i => (i.zero, i.size, i.bytes)) = some (some (.int .u8 0), 1, 1) := by kernel_rfl
theorem make_one (W : World) : (Instr.makeSlice 42 (.int .i64 1) (.int .i64 1)).run Tryz.prog W = .ok (.slice (some ⟨W.heap.size, 0, none⟩) 1 1) (W.alloc (.cells #[.int .u8 0] 5)) := by
 obtain ⟨i0, hi, hz0, hz1, hz2⟩ := info_parts byte_info
 have h := run_make (P := Tryz.prog) W 42 5 i0 (.int .u8 0) Tryz.underlying42 hi hz0 .i64 .i64 1 1 (by omega) (by omega) (by rw [hz2]; omega) (by omega)
 rw [hz1, show madeCells (Value.int .u8 0).cells (Int.toNat 1 * 1) = #[.int .u8 0] by kernel_rfl] at h
 exact h
theorem make_two (W : World) : (Instr.makeSlice 42 (.int .i64 2) (.int .i64 2)).run Tryz.prog W = .ok (.slice (some ⟨W.heap.size, 0, none⟩) 2 2) (W.alloc (.cells #[.int .u8 0, .int .u8 0] 5)) := by
 obtain ⟨i0, hi, hz0, hz1, hz2⟩ := info_parts byte_info
 have h := run_make (P := Tryz.prog) W 42 5 i0 (.int .u8 0) Tryz.underlying42 hi hz0 .i64 .i64 2 2 (by omega) (by omega) (by rw [hz2]; omega) (by omega)
 rw [hz1, show madeCells (Value.int .u8 0).cells (Int.toNat 2 * 1) = #[.int .u8 0, .int .u8 0] by kernel_rfl] at h
 exact h
theorem u16_or_nat (a b : Nat) (ha : a < 65536) (hb : b < 65536) : bits .or .u16 (a : Int) (b : Int) = ((a ||| b : Nat) : Int) := by
 have hx : a ||| b < 2 ^ 16 := Nat.or_lt_two_pow (by simpa using ha) (by simpa using hb)
 have e : ∀ n : Nat, BitVec.ofInt IntKind.u16.bits (n : Int) = BitVec.ofNat 16 n := fun n => by
  show BitVec.ofInt 16 (n : Int) = _
  exact BitVec.ofInt_natCast ..
 unfold bits
 simp only [e]
 show IntKind.u16.wrap (((BitVec.ofNat 16 a ||| BitVec.ofNat 16 b).toNat : Nat) : Int) = _
 rw [BitVec.toNat_or, BitVec.toNat_ofNat, BitVec.toNat_ofNat, Nat.mod_eq_of_lt (by omega), Nat.mod_eq_of_lt (by omega)]
 exact wrap_u16_in _ (by omega) (by omega)
theorem u16_or_zero (n : Nat) (h : n < 65536) : bits .or .u16 0 (n : Int) = (n : Int) := by
 have := u16_or_nat 0 n (by omega) h
 rw [Nat.zero_or] at this
 exact this
theorem u16_or_byte (a b : Nat) (ha : a < 256) (hb : b < 256) : bits .or .u16 (256 * (a : Int)) (b : Int) = 256 * (a : Int) + (b : Int) := by
 have h := u16_or_nat (256 * a) b (by omega) (by omega)
 have e := Nat.two_pow_add_eq_or_of_lt (i := 8) (b := b) hb a
 rw [show 256 * (a : Int) = ((256 * a : Nat) : Int) by omega, h, ← e]
 omega
set_option maxRecDepth 100000 in
theorem write8_any (n : Int) (h0 : 0 ≤ n) (h1 : n ≤ 255) (w : World) :
  Calls Tryz.prog 156 #[.int .u8 n] w fun e w' => e = .returned (.string (txt [octet n])) ∧ Below w.heap.size w w' := by
 have cs := fun w => size8_any w
 have hm := make_one
 have hb := Lib.hid (Joins.below_alloc1 w (.cells #[.int .u8 n] 5))
 have h1 := one_at (w.alloc (.cells #[.int .u8 n] 5)) w.heap.size n (by simp [go_sem])
 rw [octet_small n h0] at h1
 go_enter Tryz.func156, Tryz.ntmps156
 go_wp2_with fail
 refine (cs _).mono ?_; rintro e w1 ⟨rfl, rfl⟩
 go_wp2_with fail
 refine wp_loop_rounds 2 ?_
 rw [rounds_succ]
 go_wp2_with fail
 rw [rounds_succ]
 go_wp2_with fail
 go_ret
 exact ⟨rfl, hb.out⟩
set_option maxRecDepth 100000 in
theorem write16_any (n : Int) (h0 : 0 ≤ n) (h1 : n ≤ 65535) (w : World) :
  Calls Tryz.prog 157 #[.int .u16 n] w fun e w' => e = .returned (.string (txt (twoL n))) ∧ Below w.heap.size w w' := by
 have cs := fun w => size16_any w
 have hm := make_two
 have hb := Lib.hid (Joins.below_alloc1 w (.cells #[.int .u8 (n / 256), .int .u8 (n % 256)] 5))
 have h2 := two_bytes w (n / 256) (n % 256)
 rw [octet_of _ (n / 256) (by omega) (by omega), octet_of (n % 256) n (by omega) (by omega)] at h2
 go_enter Tryz.func157, Tryz.ntmps157
 go_wp2_with fail
 refine (cs _).mono ?_; rintro e w1 ⟨rfl, rfl⟩
 go_wp2_with fail
 refine wp_loop_rounds 3 ?_
 rw [rounds_succ]
 go_wp2_with fail
 rw [rounds_succ]
 go_wp2_with fail
 rw [rounds_succ]
 go_wp2_with fail
 go_ret
 exact ⟨rfl, hb.out⟩
set_option maxRecDepth 100000 in
theorem read8_any (s : ByteArray) (hs : 1 ≤ s.size) (w : World) :
  Calls Tryz.prog 178 #[.string s] w fun e w' => e = .returned (.tuple #[.int .u8 ((s.data.toList.getD 0 0).toNat : Int), .string (txt (s.data.toList.drop 1))]) ∧ Below w.heap.size w w' := by
 have cs := fun w => size8_any w
 have k0 := run_at s 0 0 rfl hs
 have k1 := run_from s 1 1 rfl hs
 have b0 := (s.data.toList.getD 0 0).toNat_lt
 generalize (s.data.toList.getD 0 0).toNat = x0 at *
 generalize txt (s.data.toList.drop 1) = R at *
 have e0 := wrap_u16_in x0 (by omega) (by omega)
 have e1 := u16_or_zero x0 (by omega)
 have e2 := wrap_u8_in x0 (by omega) (by omega)
 go_enter Tryz.func178, Tryz.ntmps178
 go_wp2_with fail
 refine (cs _).mono ?_; rintro e w1 ⟨rfl, rfl⟩
 go_wp2_with fail
 refine wp_loop_rounds 2 ?_
 rw [rounds_succ]
 go_wp2_with fail
 rw [rounds_succ]
 go_wp2_with fail
 go_region_held3 (fun w' => Below w.heap.size w w') (first | assumption | exact (Below.refl _ _).drew | exact Below.drew (by assumption) | exact Below.refl _ _) (first | (go_at_call 168; refine (cs _).mono ?_; rintro e w' ⟨rfl, rfl⟩))
 go_wp2_with fail
 go_ret2
 exact ⟨rfl, (Below.refl _ _).drew⟩
set_option maxRecDepth 100000 in
theorem read16_any (s : ByteArray) (hs : 2 ≤ s.size) (w : World) :
  Calls Tryz.prog 179 #[.string s] w fun e w' => e = .returned (.tuple #[.int .u16 (pairL s.data.toList 0), .string (txt (s.data.toList.drop 2))]) ∧ Below w.heap.size w w' := by
 have cs := fun w => size16_any w
 have k0 := run_at s 0 0 rfl (by omega)
 have k1 := run_at s 1 1 rfl (by omega)
 have k2 := run_from s 2 2 rfl hs
 have hv : pairL s.data.toList 0 = 256 * ((s.data.toList.getD 0 0).toNat : Int) + ((s.data.toList.getD 1 0).toNat : Int) := rfl
 have b0 := (s.data.toList.getD 0 0).toNat_lt
 have b1 := (s.data.toList.getD 1 0).toNat_lt
 generalize (s.data.toList.getD 0 0).toNat = x0 at *
 generalize (s.data.toList.getD 1 0).toNat = x1 at *
 generalize txt (s.data.toList.drop 2) = R at *
 rw [hv]
 clear hv
 have e0 := wrap_u16_in x0 (by omega) (by omega)
 have e1 := u16_or_zero x0 (by omega)
 have f0 := wrap_u16_in x1 (by omega) (by omega)
 have f1 := u16_or_byte x0 x1 (by omega) (by omega)
 rw [Int.mul_comm 256 (x0 : Int)] at f1
 go_enter Tryz.func179, Tryz.ntmps179
 go_wp2_with fail
 refine (cs _).mono ?_; rintro e w1 ⟨rfl, rfl⟩
 go_wp2_with fail
 refine wp_loop_rounds 3 ?_
 rw [rounds_succ]
 go_wp2_with fail
 rw [rounds_succ]
 go_wp2_with fail
 rw [rounds_succ]
 go_wp2_with fail
 go_region_held3 (fun w' => Below w.heap.size w w') (first | assumption | exact (Below.refl _ _).drew | exact Below.drew (by assumption) | exact Below.refl _ _) (first | (go_at_call 169; refine (cs _).mono ?_; rintro e w' ⟨rfl, rfl⟩))
 go_wp2_with fail
 go_ret2
 exact ⟨by rw [Int.mul_comm 256 (x0 : Int)]; rfl, (Below.refl _ _).drew⟩
end Go.Proofs.YtmmbnjkdknnidaaGreatDoor

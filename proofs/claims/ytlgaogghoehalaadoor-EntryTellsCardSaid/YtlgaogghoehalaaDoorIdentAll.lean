/-
  The table of layer 2, as the rows lay it; and what becomes of it behind calls that only make memory. Identifiers compared: '==' and '!=' of two of them, whatever they hold. Which identifiers may be: what ident.most, within and Right do, and the document's limit and Right. Plain facts on whole numbers' bits that layer 2 asks for, in the walk's own spelling. Keys: what ident.Key, At and Less do, and the document's. Which identifiers go ahead of others: what ident.Less does, and the document's. Bytes of identifiers: what ident.Print does, and the document's. Identifiers out of bytes: what ident.Parse does, and the document's. Identifiers out of bytes: what the document's Parse does.
-/
import Derived.Test.YtlgaogghoehalaaDoorRows
import Derived.Test.YtlgaogghoehalaaDoorBitLawsG
import Derived.Lib.LaidTab
import Derived.Lib.SmallJoins
import Derived.WalkKit
import Derived.WalkSpells
import Derived.WalkLawsBesides
import Derived.Below
import Derived.Lib.Hide
import Derived.Lib.Strings
import Derived.Lib.Bytes
import Derived.Deep.RegionWith
import Derived.Deep.QuietTactic
import Derived.BigQuiet
import Derived.Deep.RegionHeld3
import Derived.Deep.DrawnRows
import Derived.ChangeKeysEq
import Derived.IntWalk

namespace Go.Proofs.YtlgaogghoehalaaDoor
open Go.RowKit

/-- The table of the greatest numbers stands as the program's text lays it. -/
def Laid (w : World) : Prop := Lib.TabIs Tryd.prog w "omnibus/ident.greatest" .i64 [2047, 536870911]

theorem greatest_at : Tryd.prog.globalNamed "omnibus/ident.greatest" = some 0 := by kernel_rfl

theorem Laid.below {w w' : World} (h : Laid w) (hb : Below w.heap.size w w') : Laid w' :=
  Joins.tab_stays greatest_at h hb (Nat.le_refl _)
theorem Laid.alloc {w : World} (h : Laid w) (o : Obj) : Laid (w.alloc o) := h.below (Joins.below_alloc1 w o)
theorem Laid.drewN {w : World} (h : Laid w) (n : Nat) : Laid (w.drewN n) := h.below (Joins.below_draws _ w n)
theorem Laid.zero {w : World} (h : Laid w) : w.cell? ⟨0, 0, none⟩ = some (.int .i64 2047) :=
  Lib.TabIs.cell (i := 0) h greatest_at (by decide)
theorem Laid.one {w : World} (h : Laid w) : w.cell? ⟨0, 1, none⟩ = some (.int .i64 536870911) :=
  Lib.TabIs.cell (i := 1) h greatest_at (by decide)

theorem turned {P : Program} {f : FuncId} {args : Array Value} {W : World} {v : Value} (h : Calls P f args W fun e w' => e = .returned v ∧ W = w') : Calls P f args W fun e w' => e = .returned v ∧ w' = W :=
  h.mono fun _ _ ⟨a, b⟩ => ⟨a, b.symm⟩
theorem below_drewN {B : Nat} {a w : World} (h : Below B a w) (n : Nat) : Below B a (w.drewN n) := ⟨h.os, h.tape, h.output, h.size, h.block⟩
theorem below_trans {a b c : World} (h : Below a.heap.size a b) (k : Below b.heap.size b c) : Below a.heap.size a c := h.trans (k.mono h.size)
/-- A call behind one that only made memory. -/
theorem below_on {a b c : World} {B : Nat} (h : Below B a b) (hB : B ≤ b.heap.size) (k : Below b.heap.size b c) : Below B a c := h.trans (k.mono hB)

/-- What stood ahead of a call that only makes memory reads on as it did. -/
theorem bcell {W w1 : World} (hb : Below W.heap.size W w1) : (∀ b o, b < W.heap.size → w1.cell? ⟨b, o, none⟩ = W.cell? ⟨b, o, none⟩) ∧ (∀ b o, b < W.heap.size → w1.frozen? ⟨b, o, none⟩ = W.frozen? ⟨b, o, none⟩) :=
  ⟨fun b o h => hb.cell (p := ⟨b, o, none⟩) h, fun b o h => hb.frozen (p := ⟨b, o, none⟩) h⟩

/-- A text of bytes as the model has it. -/
def txt (l : List UInt8) : ByteArray := ⟨l.toArray⟩
theorem txt_data (l : List UInt8) : (txt l).data.toList = l := rfl
theorem txt_size (l : List UInt8) : (txt l).size = l.length := by simp [txt, ByteArray.size]
theorem txt_toList (l : List UInt8) : (txt l).toList = l := ByteArray.toList_mk l
theorem txt_of (s : ByteArray) : s = txt s.data.toList := rfl

end Go.Proofs.YtlgaogghoehalaaDoor

namespace Go.Proofs.YtlgaogghoehalaaDoor
open Go.RowKit

theorem eq_bool (d : Nat) (b c : Bool) (w : World) : (Op.equalIn (d + 1) 4 (.bool b) (.bool c)).run Tryd.prog w = .ok (b == c) w := by
  simp [Op.equalIn, run_underlying Tryd.underlying4]
theorem eq_int (d : Nat) (n m : Int) (w : World) : (Op.equalIn (d + 1) 3 (.int .i64 n) (.int .i64 m)).run Tryd.prog w = .ok (n == m) w := by
  simp [Op.equalIn, run_underlying Tryd.underlying3]
theorem eq_struct (d : Nat) (b c : Bool) (n m : Int) (w : World) : (Op.equalIn (d + 2) 34 (.agg #[.bool b, .int .i64 n]) (.agg #[.bool c, .int .i64 m])).run Tryd.prog w = .ok (b == c && n == m) w := by
  have hs : Tryd.prog.stoodInHeld 34 = false := by kernel_rfl
  rw [Op.equalIn]
  simp only [Sem.run_bind, run_underlying Tryd.underlying34, Result.andThen_ok]
  have e1 := fun w => eq_bool d b c w
  have e2 := fun w => eq_int d n m w
  simp [hs, go_sem, e1, e2]
  by_cases h1 : b = c
  · by_cases h2 : n = m
    · simp [h1, h2]
    · simp [h1, h2]
  · simp [h1]

theorem eq_guard (op : BinOp) (x y : Operand) (b c : Bool) (n m : Int) (w : World) : (eqGuard op 34 x y (.agg #[.bool b, .int .i64 n]) (.agg #[.bool c, .int .i64 m])).run Tryd.prog w = .ok () w := by
  have h : Tryd.prog.eqGuardType Tryd.prog.depth 34 = false := by kernel_rfl
  cases op <;> simp [eqGuard, h, go_sem]
theorem eql_agg (b c : Bool) (n m : Int) (w : World) : (binOp .eql 34 (.agg #[.bool b, .int .i64 n]) (.agg #[.bool c, .int .i64 m])).run Tryd.prog w = .ok (.bool (b == c && n == m)) w := by
  show (do pure (Value.bool (← Op.equal 34 (.agg #[.bool b, .int .i64 n]) (.agg #[.bool c, .int .i64 m]))) : Sem Value).run Tryd.prog w = _
  rw [Sem.run_bind]
  show ((Op.equalIn (9998 + 2) 34 (.agg #[.bool b, .int .i64 n]) (.agg #[.bool c, .int .i64 m])).run Tryd.prog w).andThen _ = _
  rw [eq_struct, Result.andThen_ok, Sem.run_pure]
theorem neq_agg (b c : Bool) (n m : Int) (w : World) : (binOp .neq 34 (.agg #[.bool b, .int .i64 n]) (.agg #[.bool c, .int .i64 m])).run Tryd.prog w = .ok (.bool (!(b == c && n == m))) w := by
  show (do pure (Value.bool (!(← Op.equal 34 (.agg #[.bool b, .int .i64 n]) (.agg #[.bool c, .int .i64 m])))) : Sem Value).run Tryd.prog w = _
  rw [Sem.run_bind]
  show ((Op.equalIn (9998 + 2) 34 (.agg #[.bool b, .int .i64 n]) (.agg #[.bool c, .int .i64 m])).run Tryd.prog w).andThen _ = _
  rw [eq_struct, Result.andThen_ok, Sem.run_pure]

end Go.Proofs.YtlgaogghoehalaaDoor

namespace Go.Proofs.YtlgaogghoehalaaDoor
open Go.RowKit

/-- The greatest number of a kind. -/
def lim (b : Bool) : Int := if b = true then 536870911 else 2047
def rightI (b : Bool) (n : Int) : Bool := decide (0 ≤ n) && decide (n ≤ lim b)
theorem lim_true : lim true = 536870911 := rfl
theorem lim_false : lim false = 2047 := rfl
theorem lim_range (b : Bool) : 2047 ≤ lim b ∧ lim b ≤ 536870911 := by cases b <;> simp [lim]

theorem most_any (b : Bool) (w : World) (L : Laid w) :
    Calls Tryd.prog 93 #[.bool b] w fun e w' => e = .returned (.int .i64 (lim b)) ∧ w = w' := by
  have h0 := L.zero
  have h1 := L.one
  cases b
  · go_enter Tryd.func93, Tryd.ntmps93
    go_wp2
    go_ret
    exact ⟨rfl, rfl⟩
  · go_enter Tryd.func93, Tryd.ntmps93
    go_wp2
    go_ret
    exact ⟨rfl, rfl⟩

theorem rightI_of (b : Bool) (n : Int) (h : 0 ≤ n) : decide (n ≤ lim b) = rightI b n := by
  unfold rightI
  rw [decide_eq_true h, Bool.true_and]
theorem rightI_neg (b : Bool) (n : Int) (h : ¬ 0 ≤ n) : false = rightI b n := by
  unfold rightI
  rw [decide_eq_false h, Bool.false_and]

theorem within_any (b : Bool) (n : Int) (w : World) (L : Laid w) :
    Calls Tryd.prog 88 #[.bool b, .int .i64 n] w fun e w' => e = .returned (.bool (rightI b n)) ∧ w = w' := by
  by_cases h : 0 ≤ n
  · have hd : decide (0 ≤ n) = true := by simpa using h
    have hr := Lib.hid (rightI_of b n h)
    go_enter Tryd.func88, Tryd.ntmps88
    go_wp2_with fail
    refine (most_any b _ L).mono ?_
    rintro e w' ⟨rfl, rfl⟩
    go_wp2_with fail
    go_ret
    exact ⟨congrArg (fun b => Ending.returned (.bool b)) hr.out, rfl⟩
  · have hd : decide (0 ≤ n) = false := by simpa using h
    have hr := Lib.hid (rightI_neg b n h)
    go_enter Tryd.func88, Tryd.ntmps88
    go_wp2_with fail
    go_ret
    exact ⟨congrArg (fun b => Ending.returned (.bool b)) hr.out, rfl⟩

theorem right_any (b : Bool) (n : Int) (w : World) (L : Laid w) :
    Calls Tryd.prog 75 #[.agg #[.bool b, .int .i64 n]] w fun e w' => e = .returned (.bool (rightI b n)) ∧ Below w.heap.size w w' := by
  go_enter Tryd.func75, Tryd.ntmps75
  go_wp2_with fail
  refine (within_any b n _ (L.alloc _)).mono ?_
  rintro e w' ⟨rfl, rfl⟩
  go_wp2_with fail
  go_ret
  exact ⟨rfl, Joins.below_alloc1 _ _⟩

theorem refLimit_any (b : Bool) (w : World) :
    Calls Tryd.prog 73 #[.bool b] w fun e w' => e = .returned (.int .i64 (lim b)) ∧ w = w' := by
  cases b
  · go_enter Tryd.func73, Tryd.ntmps73
    go_wp2
    go_ret
    exact ⟨rfl, rfl⟩
  · go_enter Tryd.func73, Tryd.ntmps73
    go_wp2
    go_ret
    exact ⟨rfl, rfl⟩

theorem refRight_any (b : Bool) (n : Int) (w : World) :
    Calls Tryd.prog 53 #[.agg #[.bool b, .int .i64 n]] w fun e w' => e = .returned (.bool (rightI b n)) ∧ Below w.heap.size w w' := by
  by_cases h : 0 ≤ n
  · have hd : decide (0 ≤ n) = true := by simpa using h
    have hr := Lib.hid (rightI_of b n h)
    have c1 := Lib.hid (fun w => refLimit_any b w)
    go_enter Tryd.func53, Tryd.ntmps53
    go_wp2_with fail
    go_quiet ((go_at_call 73; exact Calls.quiet_of_same (turned (c1.out _))))
    go_wp2_with fail
    go_ret
    exact ⟨congrArg (fun b => Ending.returned (.bool b)) hr.out, below_drewN (Joins.below_alloc1 _ _) _⟩
  · have hd : decide (0 ≤ n) = false := by simpa using h
    have hr := Lib.hid (rightI_neg b n h)
    go_enter Tryd.func53, Tryd.ntmps53
    go_wp2_with fail
    go_quiet (fail)
    go_wp2_with fail
    go_ret
    exact ⟨congrArg (fun b => Ending.returned (.bool b)) hr.out, below_drewN (Joins.below_alloc1 _ _) _⟩

end Go.Proofs.YtlgaogghoehalaaDoor

namespace Go.Proofs.YtlgaogghoehalaaDoor

theorem wrap_i64_in (n : Int) (h1 : -9223372036854775808 ≤ n) (h2 : n ≤ 9223372036854775807) : IntKind.i64.wrap n = n := by
  simp only [IntKind.wrap, IntKind.bits, IntKind.signed]
  simp
  omega

theorem i64_or_nat (a b : Nat) (ha : a < 9223372036854775808) (hb : b < 9223372036854775808) : bits .or .i64 (a : Int) (b : Int) = ((a ||| b : Nat) : Int) := by
  have hx : a ||| b < 2 ^ 63 := Nat.or_lt_two_pow (by simpa using ha) (by simpa using hb)
  unfold bits
  simp only [ofInt_i64_nat]
  show IntKind.i64.wrap (((BitVec.ofNat 64 a ||| BitVec.ofNat 64 b).toNat : Nat) : Int) = _
  rw [BitVec.toNat_or, BitVec.toNat_ofNat, BitVec.toNat_ofNat, Nat.mod_eq_of_lt (by omega), Nat.mod_eq_of_lt (by omega)]
  exact wrap_i64_small _ (by omega)

theorem ofInt_toNat (a : Int) : (BitVec.ofInt 64 a).toNat = (a % 18446744073709551616).toNat := BitVec.toNat_ofInt ..

theorem dvd_pow (k : Nat) (hk : k ≤ 63) : ∃ m : Nat, 18446744073709551616 = 2 ^ k * m := ⟨2 ^ (64 - k), by rw [← Nat.pow_add, show k + (64 - k) = 64 from by omega]⟩

/-- Parts that share no bit: one is added to the other. -/
theorem i64_or_parts (k : Nat) (hk : k ≤ 62) (a r : Int) (ha : a % ((2 ^ k : Nat) : Int) = 0) (h0 : 0 ≤ r) (hr : r < ((2 ^ k : Nat) : Int)) (h1 : -9223372036854775808 ≤ a) (h2 : a ≤ 4611686018427387904) :
    bits .or .i64 a r = a + r := by
  have hp : (2 : Nat) ^ k ≤ 4611686018427387904 := Nat.pow_le_pow_right (by omega) hk
  unfold bits
  show IntKind.i64.wrap (((BitVec.ofInt 64 a ||| BitVec.ofInt 64 r).toNat : Nat) : Int) = _
  rw [BitVec.toNat_or, ofInt_toNat, ofInt_toNat]
  have hd : (a % 18446744073709551616).toNat % 2 ^ k = 0 := by
    obtain ⟨m, hm⟩ := dvd_pow k (by omega)
    have e : (((a % 18446744073709551616).toNat % 2 ^ k : Nat) : Int) = 0 := by
      rw [Int.natCast_emod, Int.toNat_of_nonneg (by omega), show (18446744073709551616 : Int) = ((2 ^ k : Nat) : Int) * (m : Int) from by rw [← Int.natCast_mul, ← hm]; rfl,
        Int.emod_emod_of_dvd _ (Int.dvd_mul_right _ _), ha]
    omega
  have hr2 : (r % 18446744073709551616).toNat < 2 ^ k := by omega
  rw [nat_join k _ _ hd hr2]
  simp only [IntKind.wrap, IntKind.bits, IntKind.signed]
  simp
  omega

theorem i64_and_bit (a : Int) (j : Nat) (hj : j ≤ 62) : bits .and .i64 a ((2 ^ j : Nat) : Int) = a / ((2 ^ j : Nat) : Int) % 2 * ((2 ^ j : Nat) : Int) := by
  have hp : (2 : Nat) ^ j ≤ 4611686018427387904 := Nat.pow_le_pow_right (by omega) hj
  have hpos : 0 < 2 ^ j := Nat.pow_pos (by omega)
  rw [i64_and_any a (2 ^ j) (by omega), nat_bit]
  obtain ⟨m, hm⟩ := dvd_pow (j + 1) (by omega)
  rw [Int.natCast_mul]
  congr 1
  rw [Int.natCast_emod, Int.natCast_ediv, Int.toNat_of_nonneg (by omega)]
  have e : (18446744073709551616 : Int) = ((2 ^ j : Nat) : Int) * (2 * (m : Int)) := by
    have : (18446744073709551616 : Nat) = 2 ^ j * (2 * m) := by rw [hm, Nat.pow_succ]; rw [Nat.mul_assoc]
    have h2 := congrArg (fun n : Nat => (n : Int)) this
    simp only [Int.natCast_mul] at h2
    exact h2
  rw [e]
  have hc : ((2 ^ j : Nat) : Int) ≠ 0 := by omega
  rw [Int.emod_def a, Int.mul_assoc, Int.sub_mul_ediv_left _ _ hc, Int.mul_assoc]
  generalize (m : Int) * _ = Y
  omega

theorem i64_low (a : Int) (k : Nat) (hk : k ≤ 62) : bits .and .i64 a ((2 ^ k - 1 : Nat) : Int) = a % ((2 ^ k : Nat) : Int) := by
  have hp : (2 : Nat) ^ k ≤ 4611686018427387904 := Nat.pow_le_pow_right (by omega) hk
  rw [i64_and_any a (2 ^ k - 1) (by omega), Nat.and_two_pow_sub_one_eq_mod]
  obtain ⟨m, hm⟩ := dvd_pow k (by omega)
  rw [Int.natCast_emod, Int.toNat_of_nonneg (by omega), show (18446744073709551616 : Int) = ((2 ^ k : Nat) : Int) * (m : Int) from by rw [← Int.natCast_mul, ← hm]; rfl,
        Int.emod_emod_of_dvd _ (Int.dvd_mul_right _ _)]

theorem i64_low18 (a : Int) : bits .and .i64 a 262143 = a % 262144 := i64_low a 18 (by omega)
theorem i64_bit18 (a : Int) : bits .and .i64 a 262144 = a / 262144 % 2 * 262144 := i64_and_bit a 18 (by omega)
theorem i64_bit31 (a : Int) : bits .and .i64 a 2147483648 = a / 2147483648 % 2 * 2147483648 := i64_and_bit a 31 (by omega)

/-- What lacks a bit takes it on. -/
theorem i64_or_bit31 (a : Int) (h0 : 0 ≤ a) (h1 : a < 2147483648) : bits .or .i64 a 2147483648 = a + 2147483648 := by
  have h := i64_or_nat a.toNat 2147483648 (by omega) (by omega)
  rw [Int.toNat_of_nonneg h0] at h
  have e : ((2147483648 : Nat) : Int) = 2147483648 := rfl
  rw [e] at h
  rw [h, Nat.or_comm, nat_join 31 _ _ (by omega) (by omega)]
  omega

theorem i64_drop31 (a : Int) (h0 : 0 ≤ a) (h1 : a < 4294967296) : bits .andNot .i64 a 2147483648 = a % 2147483648 := by
  unfold bits
  show IntKind.i64.wrap (((BitVec.ofInt 64 a &&& ~~~(BitVec.ofInt 64 2147483648)).toNat : Nat) : Int) = _
  have e : a.toNat &&& 18446744071562067967 = a.toNat % 2147483648 := by
    apply Nat.eq_of_testBit_eq
    intro i
    rw [Nat.testBit_and, show (2147483648 : Nat) = 2 ^ 31 from rfl, Nat.testBit_mod_two_pow]
    by_cases h : i < 31
    · have : Nat.testBit 18446744071562067967 i = true := by
        have h2 : ∀ j : Fin 31, Nat.testBit 18446744071562067967 j.val = true := by decide
        exact h2 ⟨i, h⟩
      rw [this, Bool.and_true, decide_eq_true h, Bool.true_and]
    · rw [decide_eq_false h, Bool.false_and]
      by_cases h3 : i = 31
      · subst h3
        have : Nat.testBit 18446744071562067967 31 = false := by decide
        rw [this, Bool.and_false]
      · have h4 : a.toNat < 2 ^ i := Nat.lt_of_lt_of_le (show a.toNat < 2 ^ 32 by omega) (Nat.pow_le_pow_right (by omega) (by omega))
        rw [Nat.testBit_lt_two_pow h4, Bool.false_and]
  rw [BitVec.toNat_and, ofInt_toNat, show (~~~(BitVec.ofInt 64 2147483648)).toNat = 18446744071562067967 from by decide]
  rw [show (a % 18446744073709551616).toNat = a.toNat from by omega, e]
  rw [wrap_i64_small _ (by omega)]
  omega

/-- A byte behind a number. -/
theorem i64_byte (a : Int) (c : UInt8) (h0 : 0 ≤ a) (h1 : a < 16777216) : bits .or .i64 (a * 256) (c.toNat : Int) = a * 256 + (c.toNat : Int) := by
  have hc := c.toNat_lt
  exact i64_or_parts 8 (by omega) (a * 256) (c.toNat : Int) (by omega) (by omega) (by omega) (by omega) (by omega)

end Go.Proofs.YtlgaogghoehalaaDoor

namespace Go.Proofs.YtlgaogghoehalaaDoor
open Go.RowKit

/-- An identifier's place among all; of one that may not be 0. -/
def keyI (b : Bool) (n : Int) : Int := if b = true then 524288 * (n / 262144) + 262144 + n % 262144 else 524288 * n
def keyV (b : Bool) (n : Int) : Int := if rightI b n = true then keyI b n else 0
def keyE (b : Bool) (n : Int) : Int := if rightI b n = true then 0 else 1

theorem right_range {b : Bool} {n : Int} (h : rightI b n = true) : 0 ≤ n ∧ n ≤ lim b := by
  unfold rightI at h
  simpa using h

theorem key_short (n : Int) : n * 524288 = keyI false n := by
  show _ = 524288 * n
  omega
theorem key_wide (n : Int) (h0 : 0 ≤ n) (h1 : n ≤ 536870911) :
    bits BinOp.or IntKind.i64 (bits BinOp.or IntKind.i64 (n / 262144 * 524288) 262144) (bits BinOp.and IntKind.i64 n 262143) = keyI true n := by
  have e1 : bits BinOp.or IntKind.i64 (n / 262144 * 524288) 262144 = n / 262144 * 524288 + 262144 := i64_or_parts 19 (by omega) _ _ (by omega) (by omega) (by omega) (by omega) (by omega)
  rw [e1, i64_low18, i64_or_parts 18 (by omega) _ _ (by omega) (by omega) (by omega) (by omega) (by omega)]
  show _ = 524288 * (n / 262144) + 262144 + n % 262144
  omega

theorem key_any (b : Bool) (n : Int) (w : World) (L : Laid w) :
    Calls Tryd.prog 91 #[.agg #[.bool b, .int .i64 n]] w fun e w' => e = .returned (.tuple #[.int .i64 (keyV b n), .int .i64 (keyE b n)]) ∧ Below w.heap.size w w' := by
  cases h : rightI b n
  · have hc := fun w L => right_any b n w L
    rw [h] at hc
    have ev : keyV b n = 0 := by unfold keyV; rw [h]; rfl
    have ee : keyE b n = 1 := by unfold keyE; rw [h]; rfl
    rw [ev, ee]
    clear ev ee
    have HC := Lib.hid hc; clear hc
    have H := Lib.hid h; clear h
    go_enter Tryd.func91, Tryd.ntmps91
    go_wp2_with fail
    refine (HC.out _ (L.alloc _)).mono ?_
    rintro e w1 ⟨rfl, hb⟩
    go_wp2_with fail
    go_ret2
    exact ⟨rfl, (Joins.below_alloc1 _ _).trans (hb.mono (by simp))⟩
  · have hc := fun w L => right_any b n w L
    rw [h] at hc
    have ev : keyV b n = keyI b n := by unfold keyV; rw [h]; rfl
    have ee : keyE b n = 0 := by unfold keyE; rw [h]; rfl
    rw [ev, ee]
    clear ev ee
    have HC := Lib.hid hc; clear hc
    have hr := right_range h
    have H := Lib.hid h; clear h
    obtain ⟨h0, h1⟩ := hr
    cases b
    · rw [lim_false] at h1
      go_enter Tryd.func91, Tryd.ntmps91
      go_wp2_with fail
      refine (HC.out _ (L.alloc _)).mono ?_
      rintro e w1 ⟨rfl, hb⟩
      obtain ⟨hc, hf⟩ := bcell hb
      go_wp2_with fail
      go_ret2
      exact ⟨congrArg (fun n => Ending.returned (.tuple #[.int .i64 n, .int .i64 0])) (key_short n), (Joins.below_alloc1 _ _).trans (hb.mono (by simp))⟩
    · rw [lim_true] at h1
      go_enter Tryd.func91, Tryd.ntmps91
      go_wp2_with fail
      refine (HC.out _ (L.alloc _)).mono ?_
      rintro e w1 ⟨rfl, hb⟩
      obtain ⟨hc, hf⟩ := bcell hb
      go_wp2_with fail
      go_ret2
      exact ⟨congrArg (fun n => Ending.returned (.tuple #[.int .i64 n, .int .i64 0])) (key_wide n h0 h1), (Joins.below_alloc1 _ _).trans (hb.mono (by simp))⟩

theorem refKey_any (b : Bool) (n : Int) (w : World) :
    Calls Tryd.prog 83 #[.agg #[.bool b, .int .i64 n]] w fun e w' => e = .returned (.tuple #[.int .i64 (keyV b n), .int .i64 (keyE b n)]) ∧ Below w.heap.size w w' := by
  cases h : rightI b n
  · have hc := fun w => refRight_any b n w
    rw [h] at hc
    have ev : keyV b n = 0 := by unfold keyV; rw [h]; rfl
    have ee : keyE b n = 1 := by unfold keyE; rw [h]; rfl
    rw [ev, ee]
    clear ev ee
    have HC := Lib.hid hc; clear hc
    have H := Lib.hid h; clear h
    go_enter Tryd.func83, Tryd.ntmps83
    go_wp2_with fail
    refine (HC.out _).mono ?_
    rintro e w1 ⟨rfl, hb⟩
    go_wp2_with fail
    go_ret2
    exact ⟨rfl, (Joins.below_alloc1 _ _).trans (hb.mono (by simp))⟩
  · have hc := fun w => refRight_any b n w
    rw [h] at hc
    have ev : keyV b n = keyI b n := by unfold keyV; rw [h]; rfl
    have ee : keyE b n = 0 := by unfold keyE; rw [h]; rfl
    rw [ev, ee]
    clear ev ee
    have HC := Lib.hid hc; clear hc
    have hr := right_range h
    have H := Lib.hid h; clear h
    obtain ⟨h0, h1⟩ := hr
    cases b
    · rw [lim_false] at h1
      go_enter Tryd.func83, Tryd.ntmps83
      go_wp2_with fail
      refine (HC.out _).mono ?_
      rintro e w1 ⟨rfl, hb⟩
      obtain ⟨hc, hf⟩ := bcell hb
      go_wp2_with fail
      go_ret2
      exact ⟨rfl, (Joins.below_alloc1 _ _).trans (hb.mono (by simp))⟩
    · rw [lim_true] at h1
      go_enter Tryd.func83, Tryd.ntmps83
      go_wp2_with fail
      refine (HC.out _).mono ?_
      rintro e w1 ⟨rfl, hb⟩
      obtain ⟨hc, hf⟩ := bcell hb
      go_wp2_with fail
      go_ret2
      exact ⟨rfl, (Joins.below_alloc1 _ _).trans (hb.mono (by simp))⟩

end Go.Proofs.YtlgaogghoehalaaDoor

namespace Go.Proofs.YtlgaogghoehalaaDoor
open Go.RowKit

/-- Which goes ahead. -/
def lessI (b : Bool) (n : Int) (c : Bool) (m : Int) : Bool := rightI b n && (rightI c m && decide (keyI b n < keyI c m))

theorem keyV_right {b : Bool} {n : Int} (h : rightI b n = true) : keyV b n = keyI b n := by unfold keyV; rw [h]; rfl
theorem keyE_right {b : Bool} {n : Int} (h : rightI b n = true) : keyE b n = 0 := by unfold keyE; rw [h]; rfl
theorem keyV_wrong {b : Bool} {n : Int} (h : rightI b n = false) : keyV b n = 0 := by unfold keyV; rw [h]; rfl
theorem keyE_wrong {b : Bool} {n : Int} (h : rightI b n = false) : keyE b n = 1 := by unfold keyE; rw [h]; rfl
theorem keyI_range {b : Bool} {n : Int} (h : rightI b n = true) : 0 ≤ keyI b n ∧ keyI b n < 1073741824 := by
  have hr := right_range h
  cases b
  · rw [lim_false] at hr
    show 0 ≤ 524288 * n ∧ 524288 * n < 1073741824
    omega
  · rw [lim_true] at hr
    show 0 ≤ 524288 * (n / 262144) + 262144 + n % 262144 ∧ 524288 * (n / 262144) + 262144 + n % 262144 < 1073741824
    omega
theorem keyV_range (b : Bool) (n : Int) : 0 ≤ keyV b n ∧ keyV b n < 1073741824 := by
  cases h : rightI b n
  · rw [keyV_wrong h]; omega
  · rw [keyV_right h]; exact keyI_range h

theorem less_any (b : Bool) (n : Int) (c : Bool) (m : Int) (w : World) (L : Laid w) :
    Calls Tryd.prog 82 #[.agg #[.bool b, .int .i64 n], .agg #[.bool c, .int .i64 m]] w fun e w' => e = .returned (.bool (lessI b n c m)) ∧ Below w.heap.size w w' := by
  have c1 := fun w L => key_any b n w L
  have c2 := fun w L => key_any c m w L
  obtain ⟨r, hr⟩ : ∃ r, r = lessI b n c m := ⟨_, rfl⟩
  rw [← hr]
  unfold lessI at hr
  cases h1 : rightI b n
  · rw [keyV_wrong h1, keyE_wrong h1] at c1
    rw [h1, Bool.false_and] at hr
    generalize keyV c m = K2 at c2
    generalize keyE c m = E2 at c2
    have C1 := Lib.hid c1; clear c1
    have C2 := Lib.hid c2; clear c2
    have H1 := Lib.hid h1; clear h1
    subst hr
    go_enter Tryd.func82, Tryd.ntmps82
    go_wp2_with fail
    refine (C1.out _ ((L.alloc _).alloc _)).mono ?_
    rintro e w1 ⟨rfl, hb1⟩
    obtain ⟨hc, hf⟩ := bcell hb1
    go_wp2_with fail
    refine (C2.out _ (((L.alloc _).alloc _).below hb1)).mono ?_
    rintro e w2 ⟨rfl, hb2⟩
    go_wp2_with fail
    go_ret
    exact ⟨rfl, (Joins.below_alloc2 _ _ _).trans ((hb1.mono (by simp; omega)).trans (hb2.mono (by have := hb1.size; simp at this; omega)))⟩
  · rw [keyV_right h1, keyE_right h1] at c1
    rw [h1, Bool.true_and] at hr
    cases h2 : rightI c m
    · rw [keyV_wrong h2, keyE_wrong h2] at c2
      rw [h2, Bool.false_and] at hr
      generalize keyI b n = K1 at c1
      have C1 := Lib.hid c1; clear c1
      have C2 := Lib.hid c2; clear c2
      have H1 := Lib.hid h1; clear h1
      have H2 := Lib.hid h2; clear h2
      subst hr
      go_enter Tryd.func82, Tryd.ntmps82
      go_wp2_with fail
      refine (C1.out _ ((L.alloc _).alloc _)).mono ?_
      rintro e w1 ⟨rfl, hb1⟩
      obtain ⟨hc, hf⟩ := bcell hb1
      go_wp2_with fail
      refine (C2.out _ (((L.alloc _).alloc _).below hb1)).mono ?_
      rintro e w2 ⟨rfl, hb2⟩
      go_wp2_with fail
      go_ret
      exact ⟨rfl, (Joins.below_alloc2 _ _ _).trans ((hb1.mono (by simp; omega)).trans (hb2.mono (by have := hb1.size; simp at this; omega)))⟩
    · rw [keyV_right h2, keyE_right h2] at c2
      rw [h2, Bool.true_and] at hr
      generalize keyI b n = K1 at c1 hr
      generalize keyI c m = K2 at c2 hr
      have C1 := Lib.hid c1; clear c1
      have C2 := Lib.hid c2; clear c2
      have H1 := Lib.hid h1; clear h1
      have H2 := Lib.hid h2; clear h2
      have HR := Lib.hid hr; clear hr
      go_enter Tryd.func82, Tryd.ntmps82
      go_wp2_with fail
      refine (C1.out _ ((L.alloc _).alloc _)).mono ?_
      rintro e w1 ⟨rfl, hb1⟩
      obtain ⟨hc, hf⟩ := bcell hb1
      go_wp2_with fail
      refine (C2.out _ (((L.alloc _).alloc _).below hb1)).mono ?_
      rintro e w2 ⟨rfl, hb2⟩
      go_wp2_with fail
      go_ret
      exact ⟨congrArg (fun b => Ending.returned (.bool b)) HR.out.symm, (Joins.below_alloc2 _ _ _).trans ((hb1.mono (by simp; omega)).trans (hb2.mono (by have := hb1.size; simp at this; omega)))⟩

theorem refLess_any (b : Bool) (n : Int) (c : Bool) (m : Int) (w : World) :
    Calls Tryd.prog 65 #[.agg #[.bool b, .int .i64 n], .agg #[.bool c, .int .i64 m]] w fun e w' => e = .returned (.bool (lessI b n c m)) ∧ Below w.heap.size w w' := by
  have c1 := fun w => refKey_any b n w
  have c2 := fun w => refKey_any c m w
  obtain ⟨r, hr⟩ : ∃ r, r = lessI b n c m := ⟨_, rfl⟩
  rw [← hr]
  unfold lessI at hr
  cases h1 : rightI b n
  · rw [keyV_wrong h1, keyE_wrong h1] at c1
    rw [h1, Bool.false_and] at hr
    generalize keyV c m = K2 at c2
    generalize keyE c m = E2 at c2
    have C1 := Lib.hid c1; clear c1
    have C2 := Lib.hid c2; clear c2
    have H1 := Lib.hid h1; clear h1
    subst hr
    go_enter Tryd.func65, Tryd.ntmps65
    go_wp2_with fail
    refine (C1.out _).mono ?_
    rintro e w1 ⟨rfl, hb1⟩
    obtain ⟨hc, hf⟩ := bcell hb1
    go_wp2_with fail
    refine (C2.out _).mono ?_
    rintro e w2 ⟨rfl, hb2⟩
    go_wp2_with fail
    go_ret
    exact ⟨rfl, (Joins.below_alloc2 _ _ _).trans ((hb1.mono (by simp; omega)).trans (hb2.mono (by have := hb1.size; simp at this; omega)))⟩
  · rw [keyV_right h1, keyE_right h1] at c1
    rw [h1, Bool.true_and] at hr
    cases h2 : rightI c m
    · rw [keyV_wrong h2, keyE_wrong h2] at c2
      rw [h2, Bool.false_and] at hr
      generalize keyI b n = K1 at c1
      have C1 := Lib.hid c1; clear c1
      have C2 := Lib.hid c2; clear c2
      have H1 := Lib.hid h1; clear h1
      have H2 := Lib.hid h2; clear h2
      subst hr
      go_enter Tryd.func65, Tryd.ntmps65
      go_wp2_with fail
      refine (C1.out _).mono ?_
      rintro e w1 ⟨rfl, hb1⟩
      obtain ⟨hc, hf⟩ := bcell hb1
      go_wp2_with fail
      refine (C2.out _).mono ?_
      rintro e w2 ⟨rfl, hb2⟩
      go_wp2_with fail
      go_ret
      exact ⟨rfl, (Joins.below_alloc2 _ _ _).trans ((hb1.mono (by simp; omega)).trans (hb2.mono (by have := hb1.size; simp at this; omega)))⟩
    · rw [keyV_right h2, keyE_right h2] at c2
      rw [h2, Bool.true_and] at hr
      generalize keyI b n = K1 at c1 hr
      generalize keyI c m = K2 at c2 hr
      have C1 := Lib.hid c1; clear c1
      have C2 := Lib.hid c2; clear c2
      have H1 := Lib.hid h1; clear h1
      have H2 := Lib.hid h2; clear h2
      have HR := Lib.hid hr; clear hr
      go_enter Tryd.func65, Tryd.ntmps65
      go_wp2_with fail
      refine (C1.out _).mono ?_
      rintro e w1 ⟨rfl, hb1⟩
      obtain ⟨hc, hf⟩ := bcell hb1
      go_wp2_with fail
      refine (C2.out _).mono ?_
      rintro e w2 ⟨rfl, hb2⟩
      go_wp2_with fail
      go_ret
      exact ⟨congrArg (fun b => Ending.returned (.bool b)) HR.out.symm, (Joins.below_alloc2 _ _ _).trans ((hb1.mono (by simp; omega)).trans (hb2.mono (by have := hb1.size; simp at this; omega)))⟩

end Go.Proofs.YtlgaogghoehalaaDoor

namespace Go.Proofs.YtlgaogghoehalaaDoor
open Go.RowKit

/-- The number that stands in the bytes. -/
def numI (b : Bool) (n : Int) : Int := if b = true then n + 2147483648 else n
def octet (n : Int) : UInt8 := UInt8.ofNat (n % 256).toNat
def four (n : Int) : List UInt8 := [octet (n / 16777216), octet (n / 65536), octet (n / 256), octet n]
def printI (b : Bool) (n : Int) : List UInt8 := if rightI b n = true then four (numI b n) else []

theorem octet_small (n : Int) (h : 0 ≤ n) : UInt8.ofNat n.toNat = octet n := by
  unfold octet
  apply UInt8.toNat_inj.1
  simp
  omega
theorem octet_of (x y : Int) (h0 : 0 ≤ x) (h : x % 256 = y % 256) : UInt8.ofNat x.toNat = octet y := by
  rw [octet_small x h0]
  unfold octet
  rw [h]
theorem list4 {a b c d a' b' c' d' : UInt8} (h1 : a = a') (h2 : b = b') (h3 : c = c') (h4 : d = d') : [a, b, c, d] = [a', b', c', d'] := by rw [h1, h2, h3, h4]

theorem four_bytes (w : World) (a b c d : Int) : (convert 43 9 (.slice (some ⟨w.heap.size, 0, none⟩) 4 4)).run Tryd.prog (w.alloc (.cells #[.int .u8 a, .int .u8 b, .int .u8 c, .int .u8 d] 5)) = .ok (.string (txt [UInt8.ofNat a.toNat, UInt8.ofNat b.toNat, UInt8.ofNat c.toNat, UInt8.ofNat d.toNat])) (w.alloc (.cells #[.int .u8 a, .int .u8 b, .int .u8 c, .int .u8 d] 5)) := by
  refine run_convert_bytes_arg (P := Tryd.prog) _ 43 5 Tryd.underlying43 Tryd.underlying5 w.heap.size 0 4 4 [a, b, c, d] rfl ?_ 9 Tryd.underlying9
  intro i hi
  have : i = 0 ∨ i = 1 ∨ i = 2 ∨ i = 3 := by omega
  rcases this with rfl | rfl | rfl | rfl <;> simp [go_sem]

theorem print_any (b : Bool) (n : Int) (w : World) (L : Laid w) :
    Calls Tryd.prog 78 #[.agg #[.bool b, .int .i64 n]] w fun e w' => e = .returned (.tuple #[.string (txt (printI b n)), .int .i64 (keyE b n)]) ∧ Below w.heap.size w w' := by
  cases h : rightI b n
  · have hc := fun w L => right_any b n w L
    rw [h] at hc
    have ev : printI b n = [] := by unfold printI; rw [h]; rfl
    rw [ev, keyE_wrong h]
    clear ev
    have HC := Lib.hid hc; clear hc
    have H := Lib.hid h; clear h
    go_enter Tryd.func78, Tryd.ntmps78
    go_wp2_with fail
    refine (HC.out _ (L.alloc _)).mono ?_
    rintro e w1 ⟨rfl, hb⟩
    go_wp2_with fail
    go_ret2
    exact ⟨rfl, (Joins.below_alloc1 _ _).trans (hb.mono (by simp))⟩
  · have hc := fun w L => right_any b n w L
    rw [h] at hc
    have ev : printI b n = four (numI b n) := by unfold printI; rw [h]; rfl
    rw [ev, keyE_right h]
    clear ev
    have HC := Lib.hid hc; clear hc
    have hr := right_range h
    have H := Lib.hid h; clear h
    obtain ⟨h0, h1⟩ := hr
    cases b
    · rw [lim_false] at h1
      go_enter Tryd.func78, Tryd.ntmps78
      go_wp2_with fail
      refine (HC.out _ (L.alloc _)).mono ?_
      rintro e w1 ⟨rfl, hb⟩
      obtain ⟨hc, hf⟩ := bcell hb
      have h4 := four_bytes
      go_wp2_with fail
      go_ret2
      refine ⟨congrArg (fun l => Ending.returned (.tuple #[.string (txt l), .int .i64 0])) ?_, ((Joins.below_alloc1 _ _).trans (hb.mono (by simp))).alloc (by have := hb.size; simp at this; omega) _⟩
      unfold four
      show _ = [octet (n / 16777216), octet (n / 65536), octet (n / 256), octet (n)]
      exact list4 (octet_of _ _ (by omega) (by omega)) (octet_of _ _ (by omega) (by omega)) (octet_of _ _ (by omega) (by omega)) (octet_of _ _ (by omega) (by omega))
    · rw [lim_true] at h1
      have hor := i64_or_bit31 n h0 (by omega)
      go_enter Tryd.func78, Tryd.ntmps78
      go_wp2_with fail
      refine (HC.out _ (L.alloc _)).mono ?_
      rintro e w1 ⟨rfl, hb⟩
      obtain ⟨hc, hf⟩ := bcell hb
      have h4 := four_bytes
      go_wp2_with fail
      go_ret2
      refine ⟨congrArg (fun l => Ending.returned (.tuple #[.string (txt l), .int .i64 0])) ?_, ((Joins.below_alloc1 _ _).trans (hb.mono (by simp))).alloc (by have := hb.size; simp at this; omega) _⟩
      unfold four
      show _ = [octet ((n + 2147483648) / 16777216), octet ((n + 2147483648) / 65536), octet ((n + 2147483648) / 256), octet ((n + 2147483648))]
      exact list4 (octet_of _ _ (by omega) (by omega)) (octet_of _ _ (by omega) (by omega)) (octet_of _ _ (by omega) (by omega)) (octet_of _ _ (by omega) (by omega))

theorem refPrint_any (b : Bool) (n : Int) (w : World) :
    Calls Tryd.prog 57 #[.agg #[.bool b, .int .i64 n]] w fun e w' => e = .returned (.tuple #[.string (txt (printI b n)), .int .i64 (keyE b n)]) ∧ Below w.heap.size w w' := by
  cases h : rightI b n
  · have hc := fun w => refRight_any b n w
    rw [h] at hc
    have ev : printI b n = [] := by unfold printI; rw [h]; rfl
    rw [ev, keyE_wrong h]
    clear ev
    have HC := Lib.hid hc; clear hc
    have H := Lib.hid h; clear h
    go_enter Tryd.func57, Tryd.ntmps57
    go_wp2_with fail
    refine (HC.out _).mono ?_
    rintro e w1 ⟨rfl, hb⟩
    go_wp2_with fail
    go_ret2
    exact ⟨rfl, (Joins.below_alloc1 _ _).trans (hb.mono (by simp))⟩
  · have hc := fun w => refRight_any b n w
    rw [h] at hc
    have ev : printI b n = four (numI b n) := by unfold printI; rw [h]; rfl
    rw [ev, keyE_right h]
    clear ev
    have HC := Lib.hid hc; clear hc
    have hr := right_range h
    have H := Lib.hid h; clear h
    obtain ⟨h0, h1⟩ := hr
    cases b
    · rw [lim_false] at h1
      go_enter Tryd.func57, Tryd.ntmps57
      go_wp2_with fail
      refine (HC.out _).mono ?_
      rintro e w1 ⟨rfl, hb⟩
      obtain ⟨hc, hf⟩ := bcell hb
      have h4 := four_bytes
      go_wp2_with fail
      go_ret2
      refine ⟨congrArg (fun l => Ending.returned (.tuple #[.string (txt l), .int .i64 0])) ?_, ((Joins.below_alloc1 _ _).trans (hb.mono (by simp))).alloc (by have := hb.size; simp at this; omega) _⟩
      unfold four
      show _ = [octet (n / 16777216), octet (n / 65536), octet (n / 256), octet (n)]
      exact list4 (octet_of _ _ (by omega) (by omega)) (octet_of _ _ (by omega) (by omega)) (octet_of _ _ (by omega) (by omega)) (octet_of _ _ (by omega) (by omega))
    · rw [lim_true] at h1
      go_enter Tryd.func57, Tryd.ntmps57
      go_wp2_with fail
      refine (HC.out _).mono ?_
      rintro e w1 ⟨rfl, hb⟩
      obtain ⟨hc, hf⟩ := bcell hb
      have h4 := four_bytes
      go_wp2_with fail
      go_ret2
      refine ⟨congrArg (fun l => Ending.returned (.tuple #[.string (txt l), .int .i64 0])) ?_, ((Joins.below_alloc1 _ _).trans (hb.mono (by simp))).alloc (by have := hb.size; simp at this; omega) _⟩
      unfold four
      show _ = [octet ((n + 2147483648) / 16777216), octet ((n + 2147483648) / 65536), octet ((n + 2147483648) / 256), octet ((n + 2147483648))]
      exact list4 (octet_of _ _ (by omega) (by omega)) (octet_of _ _ (by omega) (by omega)) (octet_of _ _ (by omega) (by omega)) (octet_of _ _ (by omega) (by omega))

end Go.Proofs.YtlgaogghoehalaaDoor

namespace Go.Proofs.YtlgaogghoehalaaDoor
open Go.RowKit

/-- The number that stands in bytes. -/
def numL (l : List UInt8) : Int := l.foldl (fun n c => n * 256 + (c.toNat : Int)) 0
def psB (l : List UInt8) : Bool := decide (2147483648 ≤ numL l)
def psN (l : List UInt8) : Int := numL l % 2147483648
def psOk (l : List UInt8) : Bool := decide (l.length = 4) && rightI (psB l) (psN l)
def psRB (l : List UInt8) : Bool := psOk l && psB l
def psRN (l : List UInt8) : Int := if psOk l = true then psN l else 0
def psE (l : List UInt8) : Int := if l.length < 4 then 3 else if 4 < l.length then 4 else if psOk l = true then 0 else 2

def ParsePost (l : List UInt8) (w : World) (e : Ending) (w' : World) : Prop := e = .returned (.tuple #[.agg #[.bool (psRB l), .int .i64 (psRN l)], .int .i64 (psE l)]) ∧ Below w.heap.size w w'

theorem numL_snoc (l : List UInt8) (c : UInt8) : numL (l ++ [c]) = numL l * 256 + (c.toNat : Int) := by
  unfold numL
  rw [List.foldl_append]; rfl
theorem numL_take (l : List UInt8) (k : Nat) (h : k < l.length) : numL (l.take (k + 1)) = numL (l.take k) * 256 + (l[k].toNat : Int) := by
  rw [List.take_succ_eq_append_getElem h, numL_snoc]
theorem numL_range : ∀ (l : List UInt8), 0 ≤ numL l ∧ numL l < ((256 ^ l.length : Nat) : Int) := by
  intro l
  suffices h : ∀ (k : Nat), k ≤ l.length → 0 ≤ numL (l.take k) ∧ numL (l.take k) < ((256 ^ k : Nat) : Int) by
    have := h l.length (Nat.le_refl _)
    rwa [List.take_length] at this
  intro k
  induction k with
  | zero => intro _; rw [List.take_zero]; exact ⟨Int.le_refl 0, by decide⟩
  | succ k ih =>
    intro hk
    obtain ⟨h1, h2⟩ := ih (by omega)
    rw [numL_take l k (by omega)]
    have hc := l[k].toNat_lt
    rw [Nat.pow_succ]
    omega
theorem numL_part (l : List UInt8) (k : Nat) (hk : k ≤ 3) : 0 ≤ numL (l.take k) ∧ numL (l.take k) < 16777216 := by
  have h := numL_range (l.take k)
  have h2 : (l.take k).length ≤ 3 := by rw [List.length_take]; omega
  have h3 : (256 : Nat) ^ (l.take k).length ≤ 256 ^ 3 := Nat.pow_le_pow_right (by omega) h2
  omega

theorem ps_none (l : List UInt8) (E : Int) (hok : psOk l = false) (hE : psE l = E) : ∀ w w', Below w.heap.size w w' → ParsePost l w (.returned (.tuple #[.agg #[.bool false, .int .i64 0], .int .i64 E])) w' := by
  intro w w' hb
  refine ⟨?_, hb⟩
  have e1 : psRB l = false := by unfold psRB; rw [hok]; rfl
  have e2 : psRN l = 0 := by unfold psRN; rw [hok]; rfl
  rw [e1, e2, hE]
theorem ps_one (l : List UInt8) (hl : l.length = 4) (hok : psOk l = true) : ∀ w w', Below w.heap.size w w' → ParsePost l w (.returned (.tuple #[.agg #[.bool (psB l), .int .i64 (psN l)], .int .i64 0])) w' := by
  intro w w' hb
  refine ⟨?_, hb⟩
  have e1 : psRB l = psB l := by unfold psRB; rw [hok]; rfl
  have e2 : psRN l = psN l := by unfold psRN; rw [hok]; rfl
  have e3 : psE l = 0 := by unfold psE; rw [if_neg (by omega), if_neg (by omega), hok]; rfl
  rw [e1, e2, e3]

theorem parse_bit (n : Int) (h0 : 0 ≤ n) (h1 : n < 4294967296) : (bits BinOp.and IntKind.i64 n 2147483648 != 0) = decide (2147483648 ≤ n) := by
  rw [i64_bit31]
  by_cases h : 2147483648 ≤ n
  · rw [decide_eq_true h]
    have : n / 2147483648 % 2 * 2147483648 = 2147483648 := by omega
    rw [this]; rfl
  · rw [decide_eq_false h]
    have : n / 2147483648 % 2 * 2147483648 = 0 := by omega
    rw [this]; rfl

theorem parse_short (s : ByteArray) (w : World) (hs : s.size < 4) :
    Calls Tryd.prog 95 #[.string s] w (ParsePost s.data.toList w) := by
  have hl : s.data.toList.length = s.size := (Lib.size_eq s).symm
  have HQ := Lib.hid (ps_none s.data.toList 3 (by unfold psOk; rw [decide_eq_false (by omega)]; rfl) (by unfold psE; rw [if_pos (by omega)]))
  clear hl
  go_enter Tryd.func95, Tryd.ntmps95
  go_wp2_with fail
  exact bodyPost_ret (v := .tuple #[.agg #[.bool false, .int .i64 0], .int .i64 3]) (by simp [results, Tryd.results95, go_sem]) rfl (HQ.out _ _ (Joins.below_alloc1 _ _))

theorem parse_long (s : ByteArray) (w : World) (hs : 4 < s.size) (hm : s.size ≤ maxLen) :
    Calls Tryd.prog 95 #[.string s] w (ParsePost s.data.toList w) := by
  unfold maxLen at hm
  have hl : s.data.toList.length = s.size := (Lib.size_eq s).symm
  have HQ := Lib.hid (ps_none s.data.toList 4 (by unfold psOk; rw [decide_eq_false (by omega)]; rfl) (by unfold psE; rw [if_neg (by omega), if_pos (by omega)]))
  clear hl
  go_enter Tryd.func95, Tryd.ntmps95
  go_wp2_with fail
  exact bodyPost_ret (v := .tuple #[.agg #[.bool false, .int .i64 0], .int .i64 4]) (by simp [results, Tryd.results95, go_sem]) rfl (HQ.out _ _ (Joins.below_alloc1 _ _))

theorem wrap_byte (c : UInt8) : wrap64 (c.toNat : Int) = (c.toNat : Int) := by
  have hc := c.toNat_lt
  unfold wrap64
  omega

/-- The way through the loop, and behind it. -/
theorem parse_four (s : ByteArray) (w : World) (L : Laid w) (hs : s.size = 4) :
    Calls Tryd.prog 95 #[.string s] w (ParsePost s.data.toList w) := by
  have hl : s.data.toList.length = 4 := by rw [← Lib.size_eq, hs]
  have h3 : 4 ≤ s.size := by omega
  have h4 : s.size ≤ 4 := by omega
  obtain ⟨hn0, hn1⟩ := numL_range s.data.toList
  rw [hl] at hn1
  have hn2 : numL s.data.toList < 4294967296 := hn1
  have hB := parse_bit (numL s.data.toList) hn0 hn2
  have hN := i64_drop31 (numL s.data.toList) hn0 hn2
  have hB2 : psB s.data.toList = decide (2147483648 ≤ numL s.data.toList) := rfl
  have hN2 : psN s.data.toList = numL s.data.toList % 2147483648 := rfl
  rw [← hB2] at hB
  rw [← hN2] at hN
  have hq : psOk s.data.toList = rightI (psB s.data.toList) (psN s.data.toList) := by unfold psOk; rw [decide_eq_true hl, Bool.true_and]
  have HQ1 := fun h => Lib.hid (ps_one s.data.toList hl h)
  have HQ0 := fun h => Lib.hid (ps_none s.data.toList 2 h (by unfold psE; rw [if_neg (by omega), if_neg (by omega), h]; rfl))
  rw [hq] at HQ1 HQ0
  clear hq hB2 hN2
  generalize psB s.data.toList = B at HQ1 HQ0 hB
  generalize psN s.data.toList = N at HQ1 HQ0 hN
  have HB := Lib.hid hB; clear hB
  have HN := Lib.hid hN; clear hN
  have HS := Lib.hid hs; clear hs
  have HL := Lib.hid hl; clear hl
  clear hn0 hn1 hn2
  have c1 := fun w L => right_any B N w L
  cases h : rightI B N
  · rw [h] at c1
    have HQ := HQ0 h
    clear HQ0 HQ1
    have C1 := Lib.hid c1; clear c1
    have H := Lib.hid h; clear h
    go_enter Tryd.func95, Tryd.ntmps95
    go_wp2_with fail
    go_loop [4, 15] (fun n i => ∃ k : Nat, k ≤ 4 ∧ i = .int .i64 k ∧ n = .int .i64 (numL (s.data.toList.take k))) (fun _ i => 4 - (intOf i).toNat)
    case atStart => exact ⟨0, Nat.zero_le _, rfl, rfl⟩
    case round =>
      obtain ⟨k, hk, rfl, rfl⟩ := hrel
      by_cases hlt : k < 4
      · have hks : k < s.size := by omega
        obtain ⟨hp0, hp1⟩ := numL_part s.data.toList k (by omega)
        have HN := Lib.hid (numL_take s.data.toList k (by rw [HL.out]; exact hlt))
        go_wp2_with fail
        go_round
        case rel =>
          refine ⟨k + 1, by omega, by go_num, ?_⟩
          rw [wrap_byte, HN.out, i64_byte _ _ hp0 hp1]; rfl
        case measure => simp [intOf]; omega
      · have hk4 : s.data.toList.take k = s.data.toList := List.take_of_length_le (by rw [HL.out]; omega)
        rw [hk4]
        have HK := Lib.hid hk4; clear hk4
        have hB := HB.out
        have hN := HN.out
        generalize numL s.data.toList = M at hB hN
        go_wp2_with fail
        refine (C1.out _ ((L.alloc _).alloc _)).mono ?_
        rintro e w1 ⟨rfl, hb1⟩
        obtain ⟨hc, hf⟩ := bcell hb1
        have hz : w.heap.size + 1 < w1.heap.size := by have := hb1.size; simp at this; omega
        have q0 : w1.cell? ⟨w.heap.size, 0, none⟩ = some (.bool false) := (hc _ _ (by simp; omega)).trans (by simp [go_sem])
        have q1 : w1.cell? ⟨w.heap.size, 1, none⟩ = some (.int .i64 0) := (hc _ _ (by simp; omega)).trans (by simp [go_sem])
        go_wp2_with fail
        exact bodyPost_ret (v := .tuple #[.agg #[.bool false, .int .i64 0], .int .i64 2]) (by simp [results, Tryd.results95, go_sem, q0, q1]) rfl (HQ.out _ _ ((((Joins.below_alloc2 _ _ _).trans (hb1.mono (by simp; omega))).setCell (by simp) _).setCell (by simp) _))
  · rw [h] at c1
    have HQ := HQ1 h
    clear HQ0 HQ1
    have C1 := Lib.hid c1; clear c1
    have H := Lib.hid h; clear h
    go_enter Tryd.func95, Tryd.ntmps95
    go_wp2_with fail
    go_loop [4, 15] (fun n i => ∃ k : Nat, k ≤ 4 ∧ i = .int .i64 k ∧ n = .int .i64 (numL (s.data.toList.take k))) (fun _ i => 4 - (intOf i).toNat)
    case atStart => exact ⟨0, Nat.zero_le _, rfl, rfl⟩
    case round =>
      obtain ⟨k, hk, rfl, rfl⟩ := hrel
      by_cases hlt : k < 4
      · have hks : k < s.size := by omega
        obtain ⟨hp0, hp1⟩ := numL_part s.data.toList k (by omega)
        have HN := Lib.hid (numL_take s.data.toList k (by rw [HL.out]; exact hlt))
        go_wp2_with fail
        go_round
        case rel =>
          refine ⟨k + 1, by omega, by go_num, ?_⟩
          rw [wrap_byte, HN.out, i64_byte _ _ hp0 hp1]; rfl
        case measure => simp [intOf]; omega
      · have hk4 : s.data.toList.take k = s.data.toList := List.take_of_length_le (by rw [HL.out]; omega)
        rw [hk4]
        have HK := Lib.hid hk4; clear hk4
        have hB := HB.out
        have hN := HN.out
        generalize numL s.data.toList = M at hB hN
        go_wp2_with fail
        refine (C1.out _ ((L.alloc _).alloc _)).mono ?_
        rintro e w1 ⟨rfl, hb1⟩
        obtain ⟨hc, hf⟩ := bcell hb1
        have hz : w.heap.size + 1 < w1.heap.size := by have := hb1.size; simp at this; omega
        have q0 : w1.cell? ⟨w.heap.size, 0, none⟩ = some (.bool false) := (hc _ _ (by simp; omega)).trans (by simp [go_sem])
        have q1 : w1.cell? ⟨w.heap.size, 1, none⟩ = some (.int .i64 0) := (hc _ _ (by simp; omega)).trans (by simp [go_sem])
        go_wp2_with fail
        exact bodyPost_ret (v := .tuple #[.agg #[.bool B, .int .i64 N], .int .i64 0]) (by simp [results, Tryd.results95, go_sem, q0, q1]) rfl (HQ.out _ _ ((((Joins.below_alloc2 _ _ _).trans (hb1.mono (by simp; omega))).setCell (by simp) _).setCell (by simp) _))

theorem parse_any (s : ByteArray) (w : World) (L : Laid w) (hm : s.size ≤ maxLen) :
    Calls Tryd.prog 95 #[.string s] w (ParsePost s.data.toList w) := by
  by_cases h1 : s.size < 4
  · exact parse_short s w h1
  by_cases h2 : 4 < s.size
  · exact parse_long s w h2 hm
  exact parse_four s w L (by omega)

end Go.Proofs.YtlgaogghoehalaaDoor

namespace Go.Proofs.YtlgaogghoehalaaDoor
open Go.RowKit

theorem byte_at (s : ByteArray) (n : Nat) (hn : n < s.size) : s[n] = s.data.toList.getD n 0 := by
  rw [List.getD_eq_getElem?_getD, List.getElem?_eq_getElem (by rw [← Lib.size_eq]; exact hn)]
  rfl

theorem run_at (s : ByteArray) (e : Int) (n : Nat) (he : e = (n : Int)) (hn : n < s.size) (w : World) :
    (Instr.index 9 (.string s) (.int .i64 e)).run Tryd.prog w = .ok (.int .u8 (((s.data.toList.getD n 0).toNat : Nat) : Int)) w := by
  subst he
  rw [← byte_at s n hn]
  rw [run_index_string w 9 s .i64 (n : Int) Tryd.underlying9]
  rw [dif_pos ⟨by omega, by omega⟩]
  rfl

theorem numL_four (l : List UInt8) (h : l.length = 4) : numL l = 16777216 * ((l.getD 0 0).toNat : Int) + 65536 * ((l.getD 1 0).toNat : Int) + 256 * ((l.getD 2 0).toNat : Int) + ((l.getD 3 0).toNat : Int) := by
  match l, h with
  | [a, b, c, d], _ =>
    show ((((0 : Int) * 256 + (a.toNat : Int)) * 256 + (b.toNat : Int)) * 256 + (c.toNat : Int)) * 256 + (d.toNat : Int) = 16777216 * (a.toNat : Int) + 65536 * (b.toNat : Int) + 256 * (c.toNat : Int) + (d.toNat : Int)
    omega

theorem refParse_short (s : ByteArray) (w : World) (hs : s.size < 4) :
    Calls Tryd.prog 70 #[.string s] w (ParsePost s.data.toList w) := by
  have hl : s.data.toList.length = s.size := (Lib.size_eq s).symm
  have HQ := Lib.hid (ps_none s.data.toList 3 (by unfold psOk; rw [decide_eq_false (by omega)]; rfl) (by unfold psE; rw [if_pos (by omega)]))
  clear hl
  go_enter Tryd.func70, Tryd.ntmps70
  go_wp2_with fail
  exact bodyPost_ret (v := .tuple #[.agg #[.bool false, .int .i64 0], .int .i64 3]) (by simp [results, Tryd.results70, go_sem]) rfl (HQ.out _ _ (Joins.below_alloc1 _ _))

theorem refParse_long (s : ByteArray) (w : World) (hs : 4 < s.size) (hm : s.size ≤ maxLen) :
    Calls Tryd.prog 70 #[.string s] w (ParsePost s.data.toList w) := by
  unfold maxLen at hm
  have hl : s.data.toList.length = s.size := (Lib.size_eq s).symm
  have HQ := Lib.hid (ps_none s.data.toList 4 (by unfold psOk; rw [decide_eq_false (by omega)]; rfl) (by unfold psE; rw [if_neg (by omega), if_pos (by omega)]))
  clear hl
  go_enter Tryd.func70, Tryd.ntmps70
  go_wp2_with fail
  exact bodyPost_ret (v := .tuple #[.agg #[.bool false, .int .i64 0], .int .i64 4]) (by simp [results, Tryd.results70, go_sem]) rfl (HQ.out _ _ (Joins.below_alloc1 _ _))

theorem refParse_four (s : ByteArray) (w : World) (hs : s.size = 4) :
    Calls Tryd.prog 70 #[.string s] w (ParsePost s.data.toList w) := by
  have hl : s.data.toList.length = 4 := by rw [← Lib.size_eq, hs]
  have h3 : 4 ≤ s.size := by omega
  have h4 : s.size ≤ 4 := by omega
  obtain ⟨hn0, hn1⟩ := numL_range s.data.toList
  rw [hl] at hn1
  have hn2 : numL s.data.toList < 4294967296 := hn1
  have hB2 : psB s.data.toList = decide (2147483648 ≤ numL s.data.toList) := rfl
  have hN2 : psN s.data.toList = numL s.data.toList % 2147483648 := rfl
  have hq : psOk s.data.toList = rightI (psB s.data.toList) (psN s.data.toList) := by unfold psOk; rw [decide_eq_true hl, Bool.true_and]
  have HQ1 := fun h => Lib.hid (ps_one s.data.toList hl h)
  have HQ0 := fun h => Lib.hid (ps_none s.data.toList 2 h (by unfold psE; rw [if_neg (by omega), if_neg (by omega), h]; rfl))
  rw [hq] at HQ1 HQ0
  have hB := hB2.symm
  have hN := hN2.symm
  clear hq hB2 hN2
  generalize psB s.data.toList = B at HQ1 HQ0 hB
  generalize psN s.data.toList = N at HQ1 HQ0 hN
  have HB := Lib.hid hB; clear hB
  have HN := Lib.hid hN; clear hN
  have HS := Lib.hid hs; clear hs
  have HL := Lib.hid hl; clear hl
  clear hn0 hn1 hn2
  have c1 := fun w => refRight_any B N w
  have k0 := run_at s 0 0 rfl (by omega)
  have k1 := run_at s 1 1 rfl (by omega)
  have k2 := run_at s 2 2 rfl (by omega)
  have k3 := run_at s 3 3 rfl (by omega)
  have hnl := numL_four s.data.toList HL.out
  have b0 := (s.data.toList.getD 0 0).toNat_lt
  have b1 := (s.data.toList.getD 1 0).toNat_lt
  have b2 := (s.data.toList.getD 2 0).toNat_lt
  have b3 := (s.data.toList.getD 3 0).toNat_lt
  generalize (s.data.toList.getD 0 0).toNat = x0 at k0 hnl b0
  generalize (s.data.toList.getD 1 0).toNat = x1 at k1 hnl b1
  generalize (s.data.toList.getD 2 0).toNat = x2 at k2 hnl b2
  generalize (s.data.toList.getD 3 0).toNat = x3 at k3 hnl b3
  have e0 : IntKind.i64.wrap (x0 : Int) = x0 := IntWalk.i64_in _ (by omega)
  have e1 : IntKind.i64.wrap (x1 : Int) = x1 := IntWalk.i64_in _ (by omega)
  have e2 : IntKind.i64.wrap (x2 : Int) = x2 := IntWalk.i64_in _ (by omega)
  have e3 : IntKind.i64.wrap (x3 : Int) = x3 := IntWalk.i64_in _ (by omega)
  have f0 : IntKind.i64.wrap (16777216 * (x0 : Int)) = 16777216 * (x0 : Int) := IntWalk.i64_in _ (by omega)
  have f1 : IntKind.i64.wrap (65536 * (x1 : Int)) = 65536 * (x1 : Int) := IntWalk.i64_in _ (by omega)
  have f2 : IntKind.i64.wrap (256 * (x2 : Int)) = 256 * (x2 : Int) := IntWalk.i64_in _ (by omega)
  have g1 : IntKind.i64.wrap (16777216 * (x0 : Int) + 65536 * (x1 : Int)) = 16777216 * (x0 : Int) + 65536 * (x1 : Int) := IntWalk.i64_in _ (by omega)
  have g2 : IntKind.i64.wrap (16777216 * (x0 : Int) + 65536 * (x1 : Int) + 256 * (x2 : Int)) = 16777216 * (x0 : Int) + 65536 * (x1 : Int) + 256 * (x2 : Int) := IntWalk.i64_in _ (by omega)
  have g3 : IntKind.i64.wrap (16777216 * (x0 : Int) + 65536 * (x1 : Int) + 256 * (x2 : Int) + (x3 : Int)) = numL s.data.toList := (IntWalk.i64_in _ (by omega)).trans hnl.symm
  clear hnl
  have hM0 := (numL_range s.data.toList).1
  have hM1 := (numL_range s.data.toList).2
  rw [HL.out] at hM1
  have hM2 : numL s.data.toList < 4294967296 := hM1
  have hB := HB.out
  have hN := HN.out
  clear hM1
  generalize numL s.data.toList = M at g3 hM0 hM2 hB hN
  cases h : rightI B N
  · rw [h] at c1
    have HQ := HQ0 h
    clear HQ0 HQ1
    have C1 := Lib.hid c1; clear c1
    have H := Lib.hid h; clear h
    go_enter Tryd.func70, Tryd.ntmps70
    go_wp2_with fail
    go_quiet (fail)
    go_wp2_with fail
    refine (C1.out _).mono ?_
    rintro e w1 ⟨rfl, hb1⟩
    obtain ⟨hc, hf⟩ := bcell hb1
    have hz : w.heap.size + 1 < w1.heap.size := by have := hb1.size; simp at this; omega
    have q0 : w1.cell? ⟨w.heap.size, 0, none⟩ = some (.bool false) := (hc _ _ (by simp; omega)).trans (by simp [go_sem])
    have q1 : w1.cell? ⟨w.heap.size, 1, none⟩ = some (.int .i64 0) := (hc _ _ (by simp; omega)).trans (by simp [go_sem])
    go_wp2_with fail
    exact bodyPost_ret (v := .tuple #[.agg #[.bool false, .int .i64 0], .int .i64 2]) (by simp [results, Tryd.results70, go_sem, q0, q1]) rfl (HQ.out _ _ ((((below_drewN (Joins.below_alloc1 _ _) _).alloc (by simp) _).trans (hb1.mono (by simp; omega))).setCell (by simp) _ |>.setCell (by simp) _))
  · rw [h] at c1
    have HQ := HQ1 h
    clear HQ0 HQ1
    have C1 := Lib.hid c1; clear c1
    have H := Lib.hid h; clear h
    go_enter Tryd.func70, Tryd.ntmps70
    go_wp2_with fail
    go_quiet (fail)
    go_wp2_with fail
    refine (C1.out _).mono ?_
    rintro e w1 ⟨rfl, hb1⟩
    obtain ⟨hc, hf⟩ := bcell hb1
    have hz : w.heap.size + 1 < w1.heap.size := by have := hb1.size; simp at this; omega
    have q0 : w1.cell? ⟨w.heap.size, 0, none⟩ = some (.bool false) := (hc _ _ (by simp; omega)).trans (by simp [go_sem])
    have q1 : w1.cell? ⟨w.heap.size, 1, none⟩ = some (.int .i64 0) := (hc _ _ (by simp; omega)).trans (by simp [go_sem])
    go_wp2_with fail
    exact bodyPost_ret (v := .tuple #[.agg #[.bool B, .int .i64 N], .int .i64 0]) (by simp [results, Tryd.results70, go_sem, q0, q1]) rfl (HQ.out _ _ ((((below_drewN (Joins.below_alloc1 _ _) _).alloc (by simp) _).trans (hb1.mono (by simp; omega))).setCell (by simp) _ |>.setCell (by simp) _))

theorem refParse_any (s : ByteArray) (w : World) (hm : s.size ≤ maxLen) :
    Calls Tryd.prog 70 #[.string s] w (ParsePost s.data.toList w) := by
  by_cases h1 : s.size < 4
  · exact refParse_short s w h1
  by_cases h2 : 4 < s.size
  · exact refParse_long s w h2 hm
  exact refParse_four s w (by omega)

end Go.Proofs.YtlgaogghoehalaaDoor

/-
  The walk of the law CrcRest: registers and masks count modulo 65536; a sum hangs on each bit.
-/
import Derived.Test.YtnalfgijjbofeaaCrcBursts
namespace Go.Proofs.Ytnalfgijjbofeaa
open Go.RowKit

/-- A text of one to three hundred bytes. -/
theorem cut_more (s : ByteArray) : ∃ X : ByteArray, 1 ≤ X.size ∧ X.size ≤ 300 ∧
    ∀ w, (Instr.slice 9 (.string (s ++ ⟨#[120]⟩)) none (some (.int .i64 (min ((s.size : Int) + 1) 300))) none).run Try.prog w = .ok (.string X) w := by
  have hs : (s ++ ⟨#[120]⟩ : ByteArray).size = s.size + 1 := by rw [ByteArray.size_append]; rfl
  refine ⟨txt ((s ++ ⟨#[120]⟩ : ByteArray).data.toList.take (min (s.size + 1) 300)), ?_, ?_, fun w => run_front (s ++ ⟨#[120]⟩) _ (min (s.size + 1) 300) (by omega) (by omega) w⟩
  · rw [txt_size, List.length_take, ← Lib.size_eq]; omega
  · rw [txt_size, List.length_take]; omega

theorem reg_more (a d : Int) : reg (a + 65536 * d) = reg a := by
  apply BitVec.eq_of_toNat_eq
  have h1 := reg_toNat (a + 65536 * d)
  have h2 := reg_toNat a
  omega

theorem reg_inj (a b : Int) (h : reg a = reg b) : a % 65536 = b % 65536 := by
  rw [← reg_toNat, ← reg_toNat, h]

theorem turn_ne (l : List UInt8) (K : Nat) (hK : K < 8 * l.length) : Crc16.burst l K 32768 ≠ l := by
  intro h
  have h1 := Crc16.bitsOf_burstTo l K 32768 16 K
  have h2 : Crc16.burstTo l K 32768 16 = l := h
  rw [h2] at h1
  have hp : Crc16.pat K 32768 16 K = true := by
    unfold Crc16.pat
    rw [Nat.sub_self]
    have : (32768 : Nat).testBit (15 - 0) = true := by decide
    rw [this]
    simp
  have hg : K < (Crc16.bitsOf l).length := by rw [Crc16.bitsOf_length]; exact hK
  rw [hp, List.getElem?_eq_getElem hg] at h1
  simp at h1

theorem add_inj (l : List UInt8) : ∀ x y, Crc16.add x l = Crc16.add y l → x = y := by
  intro x y h
  have h1 := Crc16.add_xor l (List.replicate l.length 0) (by simp) (x ^^^ y) y
  have e1 : x ^^^ y ^^^ y = x := by rw [BitVec.xor_assoc, BitVec.xor_self, BitVec.xor_zero]
  have h2 := Crc16.feed_xor (Crc16.bitsOf l) (Crc16.bitsOf l) rfl x y
  rw [← Crc16.add_feed, ← Crc16.add_feed, h, BitVec.xor_self] at h2
  have hz : List.zipWith (· ^^ ·) (Crc16.bitsOf l) (Crc16.bitsOf l) = List.replicate (Crc16.bitsOf l).length false := by
    apply List.ext_getElem?
    intro i
    rw [List.getElem?_zipWith, List.getElem?_replicate]
    by_cases hi : i < (Crc16.bitsOf l).length
    · rw [List.getElem?_eq_getElem hi, if_pos hi]; simp
    · rw [List.getElem?_eq_none (by omega), if_neg hi]
  rw [hz] at h2
  have h3 := Crc16.feed_zeros_inj _ _ h2
  have h4 : x ^^^ y ^^^ y = 0#16 ^^^ y := by rw [h3]
  rw [e1, BitVec.zero_xor] at h4
  exact h4

set_option maxHeartbeats 1000000 in
theorem crcRest_walk (a0 a1 a2 : Int) (a3 : ByteArray) (a4 : Int) (w0 : (Lit.int .i64 a0).wf = true) (w1 : (Lit.int .i64 a1).wf = true) (w2 : (Lit.int .i64 a2).wf = true) (w3 : a3.size ≤ 140737488351232) (w4 : (Lit.int .i64 a4).wf = true) (w : World) :
    Calls Try.prog 9 #[.int .i64 a0, .int .i64 a1, .int .i64 a2, .string a3, .int .i64 a4] w fun e w' => e = .returned (.bool true) ∧ Below w.heap.size w w' := by
  obtain ⟨X, hX1, hX, kx⟩ := cut_more a3
  have hXm : X.size ≤ maxLen := by unfold maxLen; omega
  have pa := pickI_range a0 65536 (by omega)
  obtain ⟨A, hA⟩ : ∃ A : Nat, pickI a0 65536 = (A : Int) := ⟨(pickI a0 65536).toNat, by omega⟩
  have c1 := fun w => pick_any a0 65536 w0 (by omega) w
  rw [hA] at c1 pa
  have pm := pickI_range a1 65536 (by omega)
  obtain ⟨M, hM⟩ : ∃ M : Nat, pickI a1 65536 = (M : Int) := ⟨(pickI a1 65536).toNat, by omega⟩
  have c2 := fun w => pick_any a1 65536 w1 (by omega) w
  rw [hM] at c2 pm
  have pd := pickI_range a2 2001 (by omega)
  obtain ⟨D, hD⟩ : ∃ D : Nat, pickI a2 2001 = (D : Int) := ⟨(pickI a2 2001).toNat, by omega⟩
  have c3 := fun w => pick_any a2 2001 w2 (by omega) w
  rw [hD] at c3 pd
  have pk := pickI_range a4 (8 * (X.size : Int)) (by omega)
  obtain ⟨K, hK⟩ : ∃ K : Nat, pickI a4 (8 * (X.size : Int)) = (K : Int) := ⟨(pickI a4 (8 * (X.size : Int))).toNat, by omega⟩
  have c4 := fun w => pick_any a4 (8 * (X.size : Int)) w4 (by omega) w
  rw [hK] at c4 pk
  clear hA hM hD hK w0 w1 w2 w4
  -- the register, and so much more
  have c5 := fun w => add_any (A : Int) X w hXm
  have c6 := fun w => add_any ((A : Int) + 65536 * ((D : Int) - 1000)) X w hXm
  rw [reg_more] at c6
  -- the mask, and so much more
  have c7 := fun w => burst_any X (K : Int) (M : Int) w (by omega)
  have c8 := fun w => burst_any X (K : Int) ((M : Int) + 65536 * ((D : Int) - 1000)) w (by omega)
  have e8 : burstI X.data.toList (K : Int) ((M : Int) + 65536 * ((D : Int) - 1000)) = burstI X.data.toList (K : Int) (M : Int) := by
    rw [burstI_nat, burstI_nat, show ((M : Int) + 65536 * ((D : Int) - 1000)) % 65536 = (M : Int) % 65536 from by omega]
  rw [e8] at c8
  -- one bit
  have c9 := fun w => burst_any X (K : Int) 32768 w (by omega)
  obtain ⟨Z, hZ⟩ : ∃ Z, Z = txt (burstI X.data.toList (K : Int) 32768) := ⟨_, rfl⟩
  rw [← hZ] at c9
  have hZl : Z.data.toList = Crc16.burst X.data.toList K 32768 := by rw [hZ, txt_data, burstI_nat]; rfl
  have hZs : Z.size = X.size := by rw [Lib.size_eq, hZl, Lib.size_eq]; exact Crc16.burstTo_length ..
  have c10 := fun w => sum_any Z w (by rw [hZs]; exact hXm)
  have c11 := fun w => sum_any X w hXm
  have hne : Crc16.sum Z.data.toList ≠ Crc16.sum X.data.toList := by
    rw [hZl]
    intro h
    exact turn_ne X.data.toList K (by rw [← Lib.size_eq]; omega) (Crc16.burst_told _ _ _ _ h)
  have k1 : (((Crc16.sum Z.data.toList).toNat : Int) != ((Crc16.sum X.data.toList).toNat : Int)) = true := by
    rw [bne_iff_ne]
    intro h
    exact hne (BitVec.eq_of_toNat_eq (by omega))
  generalize (Crc16.sum Z.data.toList).toNat = S1 at c10 k1
  generalize (Crc16.sum X.data.toList).toNat = S2 at c11 k1
  -- the next register
  have c12 := fun w => add_any (((A : Int) + 1) % 65536) X w hXm
  have k2 : (((Crc16.add (reg (A : Int)) X.data.toList).toNat : Int) != ((Crc16.add (reg (((A : Int) + 1) % 65536)) X.data.toList).toNat : Int)) = true := by
    rw [bne_iff_ne]
    intro h
    have h1 := add_inj _ _ _ (BitVec.eq_of_toNat_eq (by omega : (Crc16.add (reg (A : Int)) X.data.toList).toNat = (Crc16.add (reg (((A : Int) + 1) % 65536)) X.data.toList).toNat))
    have h2 := reg_inj _ _ h1
    omega
  generalize (Crc16.add (reg (A : Int)) X.data.toList).toNat = N1 at c5 c6 k2
  generalize (Crc16.add (reg (((A : Int) + 1) % 65536)) X.data.toList).toNat = N2 at c12 k2
  generalize txt (burstI X.data.toList (K : Int) (M : Int)) = T at c7 c8
  have hsx : ¬ 9223372036854775807 < a3.size + 1 := by omega
  have pa2 := pa.2
  have pm2 := pm.2
  have pd2 := pd.2
  have pk2 := pk.2
  clear hZ hZl hZs hne e8 pa pm pd pk
  have C1 := Lib.hid c1; clear c1
  have C2 := Lib.hid c2; clear c2
  have C3 := Lib.hid c3; clear c3
  have C4 := Lib.hid c4; clear c4
  have C5 := Lib.hid c5; clear c5
  have C6 := Lib.hid c6; clear c6
  have C7 := Lib.hid c7; clear c7
  have C8 := Lib.hid c8; clear c8
  have C9 := Lib.hid c9; clear c9
  have C10 := Lib.hid c10; clear c10
  have C11 := Lib.hid c11; clear c11
  have C12 := Lib.hid c12; clear c12
  go_enter Try.func9, Try.ntmps9
  go_wp2_with fail
  refine (awake_any _).mono ?_
  rintro e w1 ⟨rfl, hb1⟩
  go_wp2_with fail
  refine (C1.out _).mono ?_
  rintro e w2 ⟨rfl, rfl⟩
  go_wp2_with fail
  refine (C2.out _).mono ?_
  rintro e w2 ⟨rfl, rfl⟩
  go_wp2_with fail
  refine (C3.out _).mono ?_
  rintro e w2 ⟨rfl, rfl⟩
  go_wp2_with fail
  refine (C4.out _).mono ?_
  rintro e w2 ⟨rfl, rfl⟩
  go_wp2_with fail
  refine (C5.out _).mono ?_
  rintro e w2 ⟨rfl, rfl⟩
  go_wp2_with fail
  refine (C6.out _).mono ?_
  rintro e w2 ⟨rfl, rfl⟩
  go_wp2_with fail
  refine (C7.out _).mono ?_
  rintro e w2 ⟨rfl, hb2⟩
  go_wp2_with fail
  refine (C8.out _).mono ?_
  rintro e w3 ⟨rfl, hb3⟩
  go_wp2_with fail
  refine (C9.out _).mono ?_
  rintro e w4 ⟨rfl, hb4⟩
  go_wp2_with fail
  refine (C10.out _).mono ?_
  rintro e w5 ⟨rfl, rfl⟩
  go_wp2_with fail
  refine (C11.out _).mono ?_
  rintro e w5 ⟨rfl, rfl⟩
  go_wp2_with fail
  refine (C5.out _).mono ?_
  rintro e w5 ⟨rfl, rfl⟩
  go_wp2_with fail
  refine (C12.out _).mono ?_
  rintro e w5 ⟨rfl, rfl⟩
  go_wp2_with fail
  go_ret
  have z1 := hb1.size
  have z2 := hb2.size
  have z3 := hb3.size
  exact ⟨rfl, ((hb1.trans (hb2.mono (by omega))).trans (hb3.mono (by omega))).trans (hb4.mono (by omega))⟩

end Go.Proofs.Ytnalfgijjbofeaa

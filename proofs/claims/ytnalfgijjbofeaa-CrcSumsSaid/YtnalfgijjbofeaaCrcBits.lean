/-
  The walk of the law CrcBits: a burst of one bit turns that bit alone; two, side by side, are one of both.
-/
import Derived.Test.YtnalfgijjbofeaaCrcRest
namespace Go.Proofs.Ytnalfgijjbofeaa
open Go.RowKit

theorem burst_one (l : List UInt8) (K : Nat) : Crc16.burst l K 32768 = Crc16.turn l K := by
  rw [show Crc16.burst l K 32768 = Crc16.burstTo l K 32768 (15 + 1) from rfl, burst_no _ _ _ 15 (by decide), burst_no _ _ _ 14 (by decide), burst_no _ _ _ 13 (by decide), burst_no _ _ _ 12 (by decide), burst_no _ _ _ 11 (by decide), burst_no _ _ _ 10 (by decide), burst_no _ _ _ 9 (by decide), burst_no _ _ _ 8 (by decide), burst_no _ _ _ 7 (by decide), burst_no _ _ _ 6 (by decide), burst_no _ _ _ 5 (by decide), burst_no _ _ _ 4 (by decide), burst_no _ _ _ 3 (by decide), burst_no _ _ _ 2 (by decide), burst_no _ _ _ 1 (by decide), burst_yes _ _ _ 0 (by decide)]; rfl
theorem burst_pair (l : List UInt8) (K : Nat) : Crc16.burst l K 49152 = Crc16.turn (Crc16.turn l K) (K + 1) := by
  rw [show Crc16.burst l K 49152 = Crc16.burstTo l K 49152 (15 + 1) from rfl, burst_no _ _ _ 15 (by decide), burst_no _ _ _ 14 (by decide), burst_no _ _ _ 13 (by decide), burst_no _ _ _ 12 (by decide), burst_no _ _ _ 11 (by decide), burst_no _ _ _ 10 (by decide), burst_no _ _ _ 9 (by decide), burst_no _ _ _ 8 (by decide), burst_no _ _ _ 7 (by decide), burst_no _ _ _ 6 (by decide), burst_no _ _ _ 5 (by decide), burst_no _ _ _ 4 (by decide), burst_no _ _ _ 3 (by decide), burst_no _ _ _ 2 (by decide), burst_yes _ _ _ 1 (by decide), burst_yes _ _ _ 0 (by decide)]; rfl
theorem burst_none (l : List UInt8) (K : Nat) : Crc16.burst l K 0 = l := by
  rw [show Crc16.burst l K 0 = Crc16.burstTo l K 0 (15 + 1) from rfl, burst_no _ _ _ 15 (by decide), burst_no _ _ _ 14 (by decide), burst_no _ _ _ 13 (by decide), burst_no _ _ _ 12 (by decide), burst_no _ _ _ 11 (by decide), burst_no _ _ _ 10 (by decide), burst_no _ _ _ 9 (by decide), burst_no _ _ _ 8 (by decide), burst_no _ _ _ 7 (by decide), burst_no _ _ _ 6 (by decide), burst_no _ _ _ 5 (by decide), burst_no _ _ _ 4 (by decide), burst_no _ _ _ 3 (by decide), burst_no _ _ _ 2 (by decide), burst_no _ _ _ 1 (by decide), burst_no _ _ _ 0 (by decide)]; rfl

theorem byte_at (X : ByteArray) (i : Nat) (h : i < X.size) : X[i] = X.data.toList.getD i 0 := by
  have h2 : i < X.data.toList.length := by rw [← Lib.size_eq]; exact h
  rw [List.getD, List.getElem?_eq_getElem h2, Option.getD_some]
  rfl

set_option maxHeartbeats 1000000 in
theorem crcBits_walk (a0 : ByteArray) (a1 : Int) (w0 : a0.size ≤ 140737488351232) (w1 : (Lit.int .i64 a1).wf = true) (w : World) :
    Calls Try.prog 8 #[.string a0, .int .i64 a1] w fun e w' => e = .returned (.bool true) ∧ Below w.heap.size w w' := by
  obtain ⟨X, hX1, hX, kx⟩ := cut_more a0
  have pk := pickI_range a1 (8 * (X.size : Int)) (by omega)
  obtain ⟨K, hK⟩ : ∃ K : Nat, pickI a1 (8 * (X.size : Int)) = (K : Int) := ⟨(pickI a1 (8 * (X.size : Int))).toNat, by omega⟩
  have c1 := fun w => pick_any a1 (8 * (X.size : Int)) w1 (by omega) w
  rw [hK] at c1 pk
  clear hK w1
  have hKX : K < 8 * X.size := by omega
  have c2 := fun w => burst_any X (K : Int) 32768 w (by omega)
  have m1 : ((32768 : Int) % 65536).toNat = 32768 := rfl
  rw [burstI_nat, m1, burst_one] at c2
  obtain ⟨Y, hY⟩ : ∃ Y, Y = txt (Crc16.turn X.data.toList K) := ⟨_, rfl⟩
  rw [← hY] at c2
  have hYl : Y.data.toList = Crc16.turn X.data.toList K := by rw [hY]; rfl
  have hYs : Y.size = X.size := by rw [Lib.size_eq, hYl, Crc16.turn_length, Lib.size_eq]
  have c3 := fun w => burst_any Y ((K : Int) + 1) 32768 w (by omega)
  rw [show (K : Int) + 1 = ((K + 1 : Nat) : Int) from by omega, burstI_nat, m1, burst_one, hYl] at c3
  rw [show ((K + 1 : Nat) : Int) = (K : Int) + 1 from by omega] at c3
  have c4 := fun w => burst_any X (K : Int) 49152 w (by omega)
  have m2 : ((49152 : Int) % 65536).toNat = 49152 := rfl
  rw [burstI_nat, m2, burst_pair] at c4
  have c5 := fun w => burst_any X (K : Int) 0 w (by omega)
  have m3 : ((0 : Int) % 65536).toNat = 0 := rfl
  rw [burstI_nat, m3, burst_none, ← txt_of] at c5
  generalize txt (Crc16.turn (Crc16.turn X.data.toList K) (K + 1)) = T at c3 c4
  clear m1 m2 m3
  have hsx : ¬ 9223372036854775807 < a0.size + 1 := by omega
  have pk2 := pk.2
  clear pk w0
  have yl : ∀ i, i < X.size → (Crc16.turn X.data.toList K).getD i 0 = if K / 8 = i then Crc16.turnB (X.data.toList.getD i 0) (K % 8) else X.data.toList.getD i 0 := fun i hi => turn_at _ _ _ (by rw [← Lib.size_eq]; exact hi)
  have YL := Lib.hid yl; clear yl
  have HYL := Lib.hid hYl; clear hYl
  have HYS := Lib.hid hYs
  have k0 : ((Y.size : Int) != (X.size : Int)) = false := by rw [bne_eq_false_iff_eq]; omega
  have hYb : Y.size ≤ 300 := by omega
  obtain ⟨q, hq⟩ : ∃ q : Nat, (K : Int) / 8 = (q : Int) := ⟨K / 8, by omega⟩
  obtain ⟨p, hp⟩ : ∃ p : Nat, (K : Int) % 8 = (p : Int) := ⟨K % 8, by omega⟩
  have hp8 : p < 8 := by omega
  have hqK : q = K / 8 := by omega
  have hpK : p = K % 8 := by omega
  have HQ := Lib.hid hqK; clear hqK
  have HP := Lib.hid hpK; clear hpK
  clear hY hYs
  have C1 := Lib.hid c1; clear c1
  have C2 := Lib.hid c2; clear c2
  have C3 := Lib.hid c3; clear c3
  have C4 := Lib.hid c4; clear c4
  have C5 := Lib.hid c5; clear c5
  go_enter Try.func8, Try.ntmps8
  go_wp2_with fail
  refine (awake_any _).mono ?_
  rintro e w1 ⟨rfl, hb1⟩
  go_wp2_with fail
  refine (C1.out _).mono ?_
  rintro e w2 ⟨rfl, rfl⟩
  go_wp2_with fail
  refine (C2.out _).mono ?_
  rintro e w2 ⟨rfl, hb2⟩
  go_wp2_with fail
  go_loop [9] (fun v => ∃ i : Nat, i ≤ X.size ∧ v = .int .i64 i) (fun v => X.size - (intOf v).toNat)
  case atStart => exact ⟨0, Nat.zero_le _, rfl⟩
  case round =>
    obtain ⟨i, hi, rfl⟩ := hrel
    by_cases hlt : i < X.size
    · have hltY : i < Y.size := by rw [HYS.out]; exact hlt
      have ey : Y[i] = if K / 8 = i then Crc16.turnB X[i] (K % 8) else X[i] := by
        rw [byte_at Y i hltY, byte_at X i hlt, HYL.out]
        exact YL.out i hlt
      by_cases hiq : i = q
      · have ky : (((Y[i]).toNat : Int) != bits BinOp.xor IntKind.u8 ((X[i]).toNat : Int) (128 / 2 ^ p)) = false := by
          rw [bne_eq_false_iff_eq, turnB_toNat, ey, if_pos (by rw [hiq]; exact HQ.out.symm), HP.out]
        have kq : ((i : Int) == (q : Int)) = true := by rw [beq_iff_eq]; omega
        have EY := Lib.hid ey; clear ey
        have HIQ := Lib.hid hiq; clear hiq
        go_wp2_with fail
        go_round
        case rel => exact ⟨i + 1, by omega, by go_num⟩
        case measure => simp [intOf]; omega
      · have ky : (((Y[i]).toNat : Int) != ((X[i]).toNat : Int)) = false := by
          rw [bne_eq_false_iff_eq, ey, if_neg (by have := HQ.out; omega)]
        have kq : ((i : Int) == (q : Int)) = false := by rw [beq_eq_false_iff_ne]; omega
        have EY := Lib.hid ey; clear ey
        have HIQ := Lib.hid hiq; clear hiq
        go_wp2_with fail
        go_round
        case rel => exact ⟨i + 1, by omega, by go_num⟩
        case measure => simp [intOf]; omega
    · go_wp2_with fail
      refine (C3.out _).mono ?_
      rintro e w3 ⟨rfl, hb3⟩
      go_wp2_with fail
      refine (C4.out _).mono ?_
      rintro e w4 ⟨rfl, hb4⟩
      go_wp2_with fail
      refine (C5.out _).mono ?_
      rintro e w5 ⟨rfl, hb5⟩
      go_wp2_with fail
      go_ret
      have z1 := hb1.size
      have z2 := hb2.size
      have z3 := hb3.size
      have z4 := hb4.size
      exact ⟨rfl, (((hb1.trans (hb2.mono (by omega))).trans (hb3.mono (by omega))).trans (hb4.mono (by omega))).trans (hb5.mono (by omega))⟩

end Go.Proofs.Ytnalfgijjbofeaa

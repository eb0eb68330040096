/-
  The walk of the law CrcBursts: Open undoes Close; a burst in a closed text is told; the same burst again makes it as it was.
-/
import Derived.Test.YtnalfgijjbofeaaCrcPick
namespace Go.Proofs.Ytnalfgijjbofeaa
open Go.RowKit

theorem close_length (l : List UInt8) : (Crc16.close l).length = l.length + 2 := by
  unfold Crc16.close Crc16.tail
  rw [List.length_append]; rfl
theorem isClosed_close (l : List UInt8) : isClosed (Crc16.close l) = true := by
  unfold isClosed
  have e : (Crc16.close l).take ((Crc16.close l).length - 2) = l := by
    rw [close_length, show l.length + 2 - 2 = l.length from by omega]
    unfold Crc16.close
    rw [List.take_append_of_le_length (by omega), List.take_length]
  rw [e, decide_eq_true (by rw [close_length]; omega)]
  simp
theorem opened_close (l : List UInt8) : opened (Crc16.close l) = l := by
  unfold opened
  rw [isClosed_close, if_pos rfl, close_length, show l.length + 2 - 2 = l.length from by omega]
  unfold Crc16.close
  rw [List.take_append_of_le_length (by omega), List.take_length]
theorem sum_of_closed (l : List UInt8) (h : isClosed l = true) : Crc16.sum l = 0#16 := by
  unfold isClosed at h
  rw [Bool.and_eq_true, decide_eq_true_eq, beq_iff_eq] at h
  exact (Crc16.close_of_sum l h.1).1 h.2
theorem closed_burst (l : List UInt8) (K M : Nat) : isClosed (Crc16.burst (Crc16.close l) K M) = (Crc16.burst (Crc16.close l) K M == Crc16.close l) := by
  rw [Bool.eq_iff_iff, beq_iff_eq]
  constructor
  · intro h
    have h1 := sum_of_closed _ h
    exact Crc16.burst_told (Crc16.close l) K M 65535#16 (h1.trans (Crc16.sum_close l).symm)
  · intro h
    rw [h]
    exact isClosed_close l

set_option maxHeartbeats 1000000 in
theorem crcBursts_walk (a0 : ByteArray) (a1 a2 : Int) (_w0 : a0.size ≤ 140737488351232) (w1 : (Lit.int .i64 a1).wf = true) (w2 : (Lit.int .i64 a2).wf = true) (w : World) :
    Calls Try.prog 4 #[.string a0, .int .i64 a1, .int .i64 a2] w fun e w' => e = .returned (.bool true) ∧ Below w.heap.size w w' := by
  obtain ⟨X, hX, _, kx⟩ := cut_text a0
  obtain ⟨Y, hY⟩ : ∃ Y, Y = txt (Crc16.close X.data.toList) := ⟨_, rfl⟩
  have hYl : Y.data.toList = Crc16.close X.data.toList := by rw [hY]; rfl
  have hYs : Y.size = X.size + 2 := by rw [Lib.size_eq, hYl, close_length, ← Lib.size_eq]
  have c1 := fun w => close_any X w (by omega)
  rw [← hY] at c1
  have c2 := fun w => open_any Y w (by omega)
  rw [hYl, opened_close, isClosed_close, ← txt_of] at c2
  have hpr := pickI_range a1 (8 * (Y.size : Int)) (by omega)
  obtain ⟨K, hK⟩ : ∃ K : Nat, pickI a1 (8 * (Y.size : Int)) = (K : Int) := ⟨(pickI a1 (8 * (Y.size : Int))).toNat, by omega⟩
  have c3 := fun w => pick_any a1 (8 * (Y.size : Int)) w1 (by omega) w
  rw [hK] at c3
  have hpm := pickI_range a2 65536 (by omega)
  obtain ⟨M, hM⟩ : ∃ M : Nat, pickI a2 65536 = (M : Int) := ⟨(pickI a2 65536).toNat, by omega⟩
  have c4 := fun w => pick_any a2 65536 w2 (by omega) w
  rw [hM] at c4
  have hMl : M < 65536 := by omega
  have hMM : ((M : Int) % 65536).toNat = M := by omega
  clear hpr hpm hK hM
  have c5 := fun w => burst_any Y (K : Int) (M : Int) w (by omega)
  rw [burstI_nat, hMM, hYl] at c5
  obtain ⟨Z, hZ⟩ : ∃ Z, Z = txt (Crc16.burst (Crc16.close X.data.toList) K M) := ⟨_, rfl⟩
  rw [← hZ] at c5
  have hZl : Z.data.toList = Crc16.burst (Crc16.close X.data.toList) K M := by rw [hZ]; rfl
  have hZs : Z.size = Y.size := by rw [Lib.size_eq, hZl, Lib.size_eq, hYl]; exact Crc16.burstTo_length ..
  have c6 := fun w => open_any Z w (by omega)
  have hb : isClosed Z.data.toList = (Z.toList == Y.toList) := by
    rw [hZl, closed_burst, hZ, hY, txt_toList, txt_toList]
  have c7 := fun w => burst_any Z (K : Int) (M : Int) w (by omega)
  rw [burstI_nat, hMM, hZl, Crc16.burst_twice, ← hY] at c7
  generalize opened Z.data.toList = O at c6
  generalize isClosed Z.data.toList = b at c6 hb
  have k1 : (Z.toList == Y.toList) = b := hb.symm
  have k2 : ((Y.size : Int) != (X.size : Int) + 2) = false := by rw [bne_eq_false_iff_eq]; omega
  have k3 : ((Z.size : Int) == (Y.size : Int)) = true := by rw [beq_iff_eq]; omega
  have hYb : Y.size ≤ 302 := by omega
  have hZb : Z.size ≤ 302 := by omega
  clear hY hYl hYs hZ hZl hZs hb hMM w1 w2
  have C1 := Lib.hid c1; clear c1
  have C2 := Lib.hid c2; clear c2
  have C3 := Lib.hid c3; clear c3
  have C4 := Lib.hid c4; clear c4
  have C5 := Lib.hid c5; clear c5
  have C6 := Lib.hid c6; clear c6
  have C7 := Lib.hid c7; clear c7
  go_enter Try.func4, Try.ntmps4
  go_wp2_with fail
  refine (awake_any _).mono ?_
  rintro e w1 ⟨rfl, hb1⟩
  go_wp2_with fail
  refine (C1.out _).mono ?_
  rintro e w2 ⟨rfl, hb2⟩
  go_wp2_with fail
  refine (C2.out _).mono ?_
  rintro e w3 ⟨rfl, hb3⟩
  go_wp2_with fail
  refine (C3.out _).mono ?_
  rintro e w4 ⟨rfl, rfl⟩
  go_wp2_with fail
  refine (C4.out _).mono ?_
  rintro e w4 ⟨rfl, rfl⟩
  go_wp2_with fail
  refine (C5.out _).mono ?_
  rintro e w4 ⟨rfl, hb4⟩
  go_wp2_with fail
  refine (C6.out _).mono ?_
  rintro e w5 ⟨rfl, hb5⟩
  go_wp2_with fail
  refine (C4.out _).mono ?_
  rintro e w6 ⟨rfl, rfl⟩
  go_wp2_with fail
  refine (C7.out _).mono ?_
  rintro e w6 ⟨rfl, hb6⟩
  go_wp2_with fail
  go_ret
  have z1 := hb1.size
  have z2 := hb2.size
  have z3 := hb3.size
  have z4 := hb4.size
  have z5 := hb5.size
  exact ⟨rfl, ((((hb1.trans (hb2.mono (by omega))).trans (hb3.mono (by omega))).trans (hb4.mono (by omega))).trans (hb5.mono (by omega))).trans (hb6.mono (by omega))⟩

end Go.Proofs.Ytnalfgijjbofeaa

/-
  The walk of the law CrcParts: added in two parts a text comes to the same.
-/
import Derived.Test.YtnalfgijjbofeaaCrcPick
namespace Go.Proofs.Ytnalfgijjbofeaa
open Go.RowKit

set_option maxHeartbeats 1000000 in
theorem crcParts_walk (a0 : Int) (a1 : ByteArray) (a2 : Int) (_w0 : (Lit.int .i64 a0).wf = true) (_w1 : a1.size ≤ maxLen) (w2 : (Lit.int .i64 a2).wf = true) (w : World) :
    Calls Try.prog 5 #[.int .i64 a0, .string a1, .int .i64 a2] w fun e w' => e = .returned (.bool true) ∧ Below w.heap.size w w' := by
  obtain ⟨X, hX, _, kx⟩ := cut_text a1
  have hpr := pickI_range a2 ((X.size : Int) + 1) (by omega)
  obtain ⟨K, hK⟩ : ∃ K : Nat, pickI a2 ((X.size : Int) + 1) = (K : Int) := ⟨(pickI a2 ((X.size : Int) + 1)).toNat, by omega⟩
  have hKX : K ≤ X.size := by omega
  have kp := fun w => pick_any a2 ((X.size : Int) + 1) w2 (by omega) w
  rw [hK] at kp
  clear hpr hK
  have k1 := run_front X K K rfl hKX
  have k2 := run_back X K K rfl hKX
  obtain ⟨F, hF⟩ : ∃ F, F = txt (X.data.toList.take K) := ⟨_, rfl⟩
  obtain ⟨B, hB⟩ : ∃ B, B = txt (X.data.toList.drop K) := ⟨_, rfl⟩
  rw [← hF] at k1
  rw [← hB] at k2
  have hFl : F.data.toList = X.data.toList.take K := by rw [hF]; rfl
  have hBl : B.data.toList = X.data.toList.drop K := by rw [hB]; rfl
  have hFs : F.size ≤ maxLen := by rw [Lib.size_eq, hFl, List.length_take, ← Lib.size_eq]; unfold maxLen; omega
  have hBs : B.size ≤ maxLen := by rw [Lib.size_eq, hBl, List.length_drop, ← Lib.size_eq]; unfold maxLen; omega
  have hXs : X.size ≤ maxLen := by unfold maxLen; omega
  have hYs : (txt (Crc16.close X.data.toList)).size ≤ maxLen := by
    rw [txt_size]
    unfold Crc16.close Crc16.tail maxLen
    rw [List.length_append, ← Lib.size_eq, List.length_cons, List.length_cons, List.length_nil]
    omega
  have c1 := fun w => add_any a0 F w hFs
  have c2 := fun w => add_any ((Crc16.add (reg a0) F.data.toList).toNat : Int) B w hBs
  have c3 := fun w => add_any a0 X w hXs
  have c4 := fun w => close_any X w (by omega)
  have c5 := fun w => sum_any (txt (Crc16.close X.data.toList)) w hYs
  have c6 := fun w => add_any a0 ⟨#[]⟩ w (by decide)
  have c7 := fun w => add_any (wrap64 (a0 + 65536)) ⟨#[]⟩ w (by decide)
  rw [reg_next] at c7
  have e5 : Crc16.sum (txt (Crc16.close X.data.toList)).data.toList = 0#16 := by rw [txt_data, Crc16.sum_close]
  rw [e5] at c5
  have e6 : (((0#16).toNat : Nat) : Int) = 0 := rfl
  rw [e6] at c5
  have e2 : Crc16.add (reg ((Crc16.add (reg a0) F.data.toList).toNat : Int)) B.data.toList = Crc16.add (reg a0) X.data.toList := by
    rw [reg_nat, ← Crc16.add_append, hFl, hBl, List.take_append_drop]
  rw [e2] at c2
  clear e5 e6 e2 hF hB hFl hBl
  have hN2 := (Crc16.add (reg a0) X.data.toList).isLt
  generalize (Crc16.add (reg a0) F.data.toList).toNat = N1 at c1 c2
  generalize (Crc16.add (reg a0) X.data.toList).toNat = N2 at c2 c3 hN2
  generalize (Crc16.add (reg a0) (ByteArray.mk #[]).data.toList).toNat = N3 at c6 c7
  generalize txt (Crc16.close X.data.toList) = Y at c4 c5 hYs
  have hN3 : (N2 : Int) < 65536 := by omega
  have C1 := Lib.hid c1; clear c1
  have C2 := Lib.hid c2; clear c2
  have C3 := Lib.hid c3; clear c3
  have C4 := Lib.hid c4; clear c4
  have C5 := Lib.hid c5; clear c5
  have C6 := Lib.hid c6; clear c6
  have C7 := Lib.hid c7; clear c7
  have KP := Lib.hid kp; clear kp
  clear _w0 w2
  go_enter Try.func5, Try.ntmps5
  go_wp2_with fail
  refine (awake_any _).mono ?_
  rintro e w1 ⟨rfl, hb1⟩
  go_wp2_with fail
  refine (KP.out _).mono ?_
  rintro e w2 ⟨rfl, rfl⟩
  go_wp2_with fail
  go_quiet ((first | (go_at_call 11; with_reducible exact Calls.quiet_of_same (turned (C1.out _))) | (go_at_call 11; with_reducible exact Calls.quiet_of_same (turned (C2.out _)))))
  go_wp2_with fail
  refine (C3.out _).mono ?_
  rintro e w2 ⟨rfl, rfl⟩
  go_wp2_with fail
  refine (C4.out _).mono ?_
  rintro e w2 ⟨rfl, hb2⟩
  go_wp2_with fail
  refine (C5.out _).mono ?_
  rintro e w3 ⟨rfl, rfl⟩
  go_wp2_with fail
  refine (C6.out _).mono ?_
  rintro e w3 ⟨rfl, rfl⟩
  go_wp2_with fail
  refine (C7.out _).mono ?_
  rintro e w3 ⟨rfl, rfl⟩
  go_wp2_with fail
  go_ret
  exact ⟨rfl, (below_drewN hb1 nq).trans (hb2.mono hb1.size)⟩

end Go.Proofs.Ytnalfgijjbofeaa

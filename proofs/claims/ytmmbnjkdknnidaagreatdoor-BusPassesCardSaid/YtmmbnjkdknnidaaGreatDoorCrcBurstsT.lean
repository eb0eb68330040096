/-
  The walk of the law CrcBursts: Open undoes Close; a burst in a closed text is told; the same burst again makes it as it was.
-/
import Derived.OpenShut
import Derived.Test.YtmmbnjkdknnidaaGreatDoorCrcBurstT
namespace Go.Proofs.YtmmbnjkdknnidaaGreatDoor.C
open Go.RowKit
theorem close_length (l : List UInt8) : (Crc16.close l).length = l.length + 2 := by
 unfold Crc16.close Crc16.tail
 rw [List.length_append]; rfl
theorem isClosed_close (l : List UInt8) : isClosed (Crc16.close l) = true := by
 unfold isClosed
 have e : (Crc16.close l).take ((Crc16.close l).length - 2) = l := by
  rw [close_length, show l.length + 2 - 2 = l.length from by omega]
  unfold Crc16.close
  rw [List.take_append_of_le_length (by omega), List.take_length]
 rw [e, decide_eq_true (by rw [close_length]; omega)]
 simp
theorem opened_close (l : List UInt8) : opened (Crc16.close l) = l := by
 unfold opened
 rw [isClosed_close, if_pos rfl, close_length, show l.length + 2 - 2 = l.length from by omega]
 unfold Crc16.close
 rw [List.take_append_of_le_length (by omega), List.take_length]
theorem sum_of_closed (l : List UInt8) (h : isClosed l = true) : Crc16.sum l = 0#16 := by
 unfold isClosed at h
 rw [Bool.and_eq_true, decide_eq_true_eq, beq_iff_eq] at h
 exact (Crc16.close_of_sum l h.1).1 h.2
theorem closed_burst (l : List UInt8) (K M : Nat) : isClosed (Crc16.burst (Crc16.close l) K M) = (Crc16.burst (Crc16.close l) K M == Crc16.close l) := by
 rw [Bool.eq_iff_iff, beq_iff_eq]
 constructor
 ·intro h
  have h1 := sum_of_closed _ h
  exact Crc16.burst_told (Crc16.close l) K M 65535#16 (h1.trans (Crc16.sum_close l).symm)
 ·intro h
  rw [h]
  exact isClosed_close l
end Go.Proofs.YtmmbnjkdknnidaaGreatDoor.C

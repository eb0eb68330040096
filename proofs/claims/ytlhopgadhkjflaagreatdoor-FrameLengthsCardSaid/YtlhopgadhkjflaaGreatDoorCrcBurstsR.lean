/-
  The walk of the law CrcBursts: Open undoes Close; a burst in a closed text is told; the same burst again makes it as it was.
-/
import Derived.Lib.ConvBytes
import Derived.ScopeJumps
import Derived.OpenShut
import Derived.Test.YtlhopgadhkjflaaGreatDoorCrcCloseR
namespace Go.Proofs.YtlhopgadhkjflaaGreatDoor.C
open Go.RowKit
theorem close_length (l : List UInt8) : (Crc16.close l).length = l.length + 2 := by
 unfold Crc16.close Crc16.tail
 rw [List.length_append]; rfl
theorem isClosed_close (l : List UInt8) : isClosed (Crc16.close l) = true := by
 unfold isClosed
 have e : (Crc16.close l).take ((Crc16.close l).length - 2) = l := by
  rw [close_length, show l.length + 2 - 2 = l.length from by omega]
  unfold Crc16.close
  rw [List.take_append_of_le_length (by omega), List.take_length]
 rw [e, decide_eq_true (by rw [close_length]; omega)]
 simp
theorem opened_close (l : List UInt8) : opened (Crc16.close l) = l := by
 unfold opened
 rw [isClosed_close, if_pos rfl, close_length, show l.length + 2 - 2 = l.length from by omega]
 unfold Crc16.close
 rw [List.take_append_of_le_length (by omega), List.take_length]
end Go.Proofs.YtlhopgadhkjflaaGreatDoor.C

/-
  The frame that bytes are, by the program.
-/
import Derived.Test.YtmmbnjkdknnidaaGreatDoorFrReadT
import Derived.Test.YtmmbnjkdknnidaaGreatDoorFrCatchT
import Derived.Test.YtmmbnjkdknnidaaGreatDoorCrcCloseT
import Derived.Test.YtmmbnjkdknnidaaGreatDoorCrcBurstsT
namespace Go.Proofs.YtmmbnjkdknnidaaGreatDoor
open Go.RowKit
def decEF (l : List UInt8) : Int := if C.isClosed l = true then bodyE (C.opened l) else 5
def decFF (l : List UInt8) : Fr := if decEF l = 0 then frameD (C.opened l) else zeroFr
theorem opened_len (l : List UInt8) : (C.opened l).length ≤ l.length := by
 unfold C.opened
 split
 ·rw [List.length_take]; omega
 ·simp
end Go.Proofs.YtmmbnjkdknnidaaGreatDoor

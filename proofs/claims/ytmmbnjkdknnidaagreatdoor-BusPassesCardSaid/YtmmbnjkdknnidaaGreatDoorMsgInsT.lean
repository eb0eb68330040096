/-
  The insertion of messages one by one, as the library's sort carries it out, and the document's order: plain mathematics.
-/
import Derived.Shelf.GgSortFunc.SmallK
import Derived.Shelf.SlSortFuncK.RowK2
import Derived.Test.YtmmbnjkdknnidaaGreatDoorMsgRowsT
namespace Go.Proofs.YtmmbnjkdknnidaaGreatDoor
open Go.RowKit
instance : Inhabited Msg := ⟨zeroM⟩
end Go.Proofs.YtmmbnjkdknnidaaGreatDoor

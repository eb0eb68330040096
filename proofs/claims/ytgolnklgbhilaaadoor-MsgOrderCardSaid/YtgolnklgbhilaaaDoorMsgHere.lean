/-
  The program's functions on messages tell what the laws' walks take.
-/
import Derived.Test.YtgolnklgbhilaaaDoorMsgTold
import Derived.Test.YtgolnklgbhilaaaDoorMsgEncP
import Derived.Test.YtgolnklgbhilaaaDoorMsgDecP
import Derived.Test.YtgolnklgbhilaaaDoorMsgSortP
namespace Go.Proofs.YtgolnklgbhilaaaDoor
open Go.RowKit

theorem told : Told where
  right := fun m w L hd => rightM_any m hd w L
  less := fun a b w L => lessM_any a b w L
  sort := fun A c B l w L h hB hl hd => sortP_any A c B l w L h hB hl hd
  enc := fun m w L hd => encP_any m w L hd
  dec := fun s w L hs => decP_any s w L hs

end Go.Proofs.YtgolnklgbhilaaaDoor

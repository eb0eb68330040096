/-
  What was gathered, and a piece put to it: plain mathematics; the memory in which both lie.
-/
import Derived.Maps.AppendAt
import Derived.Laws.OwnMore
import Derived.BigRegion
import Derived.Deep.RegionLaw
import Derived.Laws.MakeOwn
import Derived.Test.YtmmbnjkdknnidaaGreatDoorFragEncPT
import Derived.Test.YtmmbnjkdknnidaaGreatDoorFragTripT
namespace Go.Proofs.YtmmbnjkdknnidaaGreatDoor.F
open Go.RowKit
theorem PcAt.lt {w : World} {g : Nat} {p : Pc} (h : PcAt w g p) : g < w.heap.size := (Array.getElem?_eq_some_iff.1 h).1
theorem PcAt.grown {w w' : World} {g b : Nat} {p : Pc} (h : PcAt w g p) (hg : w.grownBy w' (some b)) (hne : g ≠ b) : PcAt w' g p :=
 (hg.block g h.lt (fun e => hne (Option.some.inj e))).trans h
end Go.Proofs.YtmmbnjkdknnidaaGreatDoor.F

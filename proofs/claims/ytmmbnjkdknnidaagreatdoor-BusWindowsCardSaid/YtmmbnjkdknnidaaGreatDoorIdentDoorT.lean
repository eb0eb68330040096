/-
  What the frames of the laws have in common: the listed table, the door's own heap, an identifier by value opened and shut.
-/
import Derived.ProofKit
import Derived.LaidMore
import Derived.OpenShut
import Derived.ShutString
import Derived.ChangeOld
import Derived.SizedLaws
import Derived.Stop.Joined
import Derived.Test.YtmmbnjkdknnidaaGreatDoorIdentParseT
namespace Go.Proofs.YtmmbnjkdknnidaaGreatDoor
open Go Go.ChangeShapes Go.WideShapes Go.ChangeAt Go.RowKit Go.Joins
theorem own : ownKnob Tryz.prog.godebug = none := by kernel_rfl
theorem door_met (os : Os) (args : Array Value) : laidMetH Tryz.prog [("omnibus/ident.greatest", Rows.laid_omnibus_ident_greatest)] ((World.doorLaid Tryz.prog 400 os).forCall (fun _ _ => 0) ⟨#[], args, []⟩).memory :=
 laidMetH_of_parts3 (fuel := 8) (laidMet_of_run' 8 (by kernel_rfl) (by kernel_rfl)) (by kernel_rfl) (by kernel_rfl)
theorem laid_of {W : World} (h : laidMetH Tryz.prog [("omnibus/ident.greatest", Rows.laid_omnibus_ident_greatest)] W) : Laid W := by
 rw [MakeChecks.laidMetH_plain _ _ _ (by kernel_rfl)] at h
 exact Lib.tabIs_of_head (k := .i64) (zs := [2047, 536870911]) (rest := []) greatest_at (t := 199) (by kernel_rfl) Tryz.underlying199 Tryz.underlying3 (by kernel_rfl) (by kernel_rfl) h
section
variable {H : Type} {enc : TypeId × Value → H} {w : World} {base : Nat} {spare : Nat → Bool} {held : Bool}
end
end Go.Proofs.YtmmbnjkdknnidaaGreatDoor

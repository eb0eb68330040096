/-
  What the frames of layer 2's proofs have in common: the listed table, the door's own heap, structs and arrays by value opened and shut.
-/
import Derived.Test.YtnngkpcikmbnmaaDoorIdentLaid
import Derived.ProofKit
import Derived.LaidMore
import Derived.OpenShut
import Derived.ShutString
import Derived.ChangeOld
import Derived.SizedLaws
import Derived.Stop.Joined
namespace Go.Proofs.YtnngkpcikmbnmaaDoor
open Go Go.ChangeShapes Go.WideShapes Go.ChangeAt Go.RowKit Go.Joins

theorem own : ownKnob Tryd.prog.godebug = none := by kernel_rfl
theorem laidOut : laidOutB Tryd.prog = true := by kernel_rfl

/-- The door's own heap meets the condition. -/
theorem door_met (os : Os) (args : Array Value) : laidMetH Tryd.prog [("omnibus/ident.greatest", Rows.laid_omnibus_ident_greatest)] ((World.doorLaid Tryd.prog 400 os).forCall (fun _ _ => 0) ⟨#[], args, []⟩).memory :=
  laidMetH_of_parts3 (fuel := 8) (laidMet_of_run' 8 (by kernel_rfl) (by kernel_rfl)) (by kernel_rfl) (by kernel_rfl)

/-- What the condition gives the walks. -/
theorem laid_of {W : World} (h : laidMetH Tryd.prog [("omnibus/ident.greatest", Rows.laid_omnibus_ident_greatest)] W) : Laid W := by
  rw [MakeChecks.laidMetH_plain _ _ _ (by kernel_rfl)] at h
  exact Lib.tabIs_of_head (k := .i64) (zs := [2047, 536870911]) (rest := []) greatest_at (t := 56) (by kernel_rfl) Tryd.underlying56 Tryd.underlying3 (by kernel_rfl) (by kernel_rfl) h

end Go.Proofs.YtnngkpcikmbnmaaDoor

/-
  What the frames of the laws have in common: the listed table, the door's own heap, an identifier by value opened and shut.
-/
import Derived.Test.YtehajmockicilaaDoorIdentLaid
import Derived.ProofKit
import Derived.LaidMore
import Derived.OpenShut
import Derived.ShutString
import Derived.ChangeOld
import Derived.SizedLaws
import Derived.Stop.Joined
namespace Go.Proofs.YtehajmockicilaaDoor
open Go Go.ChangeShapes Go.WideShapes Go.ChangeAt Go.RowKit Go.Joins

theorem own : ownKnob Tryd.prog.godebug = none := by kernel_rfl
theorem laidOut : laidOutB Tryd.prog = true := by kernel_rfl

/-- The door's own heap meets the condition. -/
theorem door_met (os : Os) (args : Array Value) : laidMetH Tryd.prog [("omnibus/ident.greatest", Rows.laid_omnibus_ident_greatest)] ((World.doorLaid Tryd.prog 400 os).forCall (fun _ _ => 0) ⟨#[], args, []⟩).memory :=
  laidMetH_of_parts3 (fuel := 8) (laidMet_of_run' 8 (by kernel_rfl) (by kernel_rfl)) (by kernel_rfl) (by kernel_rfl)

/-- What the condition gives the walks. -/
theorem laid_of {W : World} (h : laidMetH Tryd.prog [("omnibus/ident.greatest", Rows.laid_omnibus_ident_greatest)] W) : Laid W := by
  rw [MakeChecks.laidMetH_plain _ _ _ (by kernel_rfl)] at h
  exact Lib.tabIs_of_head (k := .i64) (zs := [2047, 536870911]) (rest := []) greatest_at (t := 96) (by kernel_rfl) Tryd.underlying96 Tryd.underlying3 (by kernel_rfl) (by kernel_rfl) h

section
variable {H : Type} {enc : TypeId × Value → H} {w : World} {base : Nat} {spare : Nat → Bool} {held : Bool}

set_option maxRecDepth 100000 in
/-- An identifier by value, opened and shut. -/
theorem open_ident {r : Reach} {b0 : Nat} {v : Value} {d : DataW H} {p : List MemPlace} (hv : Value.okWide Tryd.prog w r b0 24 v) (h : DataW.Trod enc Tryd.prog w base spare held 24 v d p) :
    ∃ (a : Bool) (b : Int), v = .agg #[.bool a, .int .i64 b] ∧ d = .agg [.lit (.bool a), .lit (.int .i64 b)] ∧ p = [] ∧ (Lit.int .i64 b).wf = true := by
  obtain ⟨c0, c1, y0, y1, m, rfl, rfl, rfl, hy0, hy1⟩ := open_agg2 Tryd.underlying24 (by kernel_rfl) (by kernel_rfl) hv h
  obtain ⟨a, e0, rfl⟩ := DataW.trod_bool Tryd.underlying4 hy0
  obtain ⟨b, e1, rfl, wb⟩ := DataW.trod_int Tryd.underlying3 hy1
  simp at e0 e1
  subst e0 e1
  exact ⟨a, b, rfl, rfl, rfl, wb⟩
theorem shut_ident {a : Bool} {b : Int} (wb : (Lit.int .i64 b).wf = true) : DataW.Trod enc Tryd.prog w base spare held 24 (.agg #[.bool a, .int .i64 b]) (.agg [.lit (.bool a), .lit (.int .i64 b)]) [] :=
  shut_agg2 (y0 := (.lit (.bool a), [])) (y1 := (.lit (.int .i64 b), [])) Tryd.underlying24 (by kernel_rfl) (by kernel_rfl) ⟨1, by simp [DataW.trod, Tryd.underlying4]⟩ ⟨1, by simp [DataW.trod, Tryd.underlying3, wb]⟩

end

end Go.Proofs.YtehajmockicilaaDoor

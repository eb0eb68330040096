/-
  What the statements' own helpers of layer 3 do: pick and awake.
-/
import Derived.OpenShut
import Derived.Lib.SmallJoins
import Derived.Test.YtmmbnjkdknnidaaGreatDoorVecRefListV
namespace Go.Proofs.YtmmbnjkdknnidaaGreatDoor.V
open Go.RowKit
theorem Row.two (W : World) (a b : Int) : Row (W.alloc (.cells #[.int .i64 a, .int .i64 b] 3)) (W.heap.size + 1) (some ⟨W.heap.size, 0, none⟩) [a, b] := fun _ =>
 ⟨_, rfl, by show W.heap.size < _; omega, fun j x hx => by
  have hj : j < 2 := (List.getElem?_eq_some_iff.1 hx).1
  rcases (show j = 0 ∨ j = 1 by omega) with rfl | rfl <;> simp at hx <;> subst hx <;> simp [Addr.add, go_sem]⟩
end Go.Proofs.YtmmbnjkdknnidaaGreatDoor.V

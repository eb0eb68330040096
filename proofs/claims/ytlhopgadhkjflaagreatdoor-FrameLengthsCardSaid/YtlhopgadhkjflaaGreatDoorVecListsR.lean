/-
  The law VecLists: Of undoes List; with a node, and without it, a vector has it, and has it not, and all others as ahead of that.
-/
import Derived.OpenShut
import Derived.Lib.SmallJoins
import Derived.Test.YtlhopgadhkjflaaGreatDoorVecRefListR
namespace Go.Proofs.YtlhopgadhkjflaaGreatDoor.V
open Go.RowKit
theorem hasB_bit (v : Int) (k : Nat) (h : k < 16) : hasB v (k : Int) = (md v).testBit k := hasB_nat v k h
theorem list_sorted (m k : Nat) : (below m k).Pairwise (· < ·) := by
 induction k with
 | zero => exact List.Pairwise.nil
 | succ k ih =>
  cases h : m.testBit k
  ·rw [below_miss m k h]; exact ih
  ·rw [below_hit m k h, List.pairwise_append]
   refine ⟨ih, List.pairwise_singleton _ _, fun x hx y hy => ?_⟩
   obtain ⟨n, hn, _, rfl⟩ := (mem_below m k x).1 hx
   rw [List.mem_singleton] at hy
   omega
end Go.Proofs.YtlhopgadhkjflaaGreatDoor.V

/-
  A slice of numbers, as a law gets it: opened.
-/
import Derived.Test.YtmklabdfalkldaaSchNext
import Derived.ProofKit
import Derived.ChangeSlices
import Derived.Carry
namespace Go.Proofs.Ytmklabdfalkldaa
open Go Go.ChangeShapes Go.WideShapes Go.ChangeAt Go.RowKit

structure IntsOk (w : World) (A : Option Addr) (c : Nat) (l : List Int) : Prop where
  row : Row w w.heap.size A l
  len : l.length ≤ c ∧ c ≤ maxLen
  wf : ∀ n ∈ l, (Lit.int .i64 n).wf = true

section
variable {H : Type} {enc : TypeId × Value → H} {w : World} {base : Nat} {held : Bool}
theorem open_ints_ok {v : Value} {d : DataW H} {p : List MemPlace} (hv : ∃ a n c, v = .slice a n c) (h : DataW.Trod enc Try.prog w base (fun _ => true) held 22 v d p) :
    ∃ (A : Option Addr) (c : Nat) (l : List Int), v = .slice A l.length c ∧ IntsOk w A c l := by
  obtain ⟨A, n, cap, rfl⟩ := hv
  obtain ⟨fuel, hf⟩ := h
  rcases open_ints Try.underlying22 Try.underlying3 (by kernel_rfl) hf with ⟨h0, _⟩ | ⟨a, len, cap', zs, hcs, hb, hl, hm, hz, hx, hcell, hwf⟩
  · have : Value.slice A n cap = .slice none 0 0 := by simpa [Value.cells] using h0
    injection this with e1 e2 e3
    subst e1 e2 e3
    exact ⟨none, 0, [], rfl, fun hn => absurd hn (by simp), ⟨Nat.le_refl _, by unfold maxLen; omega⟩, fun n hn => by cases hn⟩
  · have : Value.slice A n cap = .slice (some a) len cap' := by simpa [Value.cells] using hcs
    injection this with e1 e2 e3
    subst e1 e2 e3
    rw [if_pos rfl] at hz
    have hlen : (zs.take n).length = n := by rw [List.length_take]; omega
    have at_ : ∀ j x, (zs.take n)[j]? = some x → w.cell? (a.add j) = some (.int .i64 x) := fun j x hx => by
      have hj : j < n := by have := (List.getElem?_eq_some_iff.1 hx).1; omega
      rw [List.getElem?_take_of_lt hj] at hx
      rw [hcell j (by omega)]
      simp [List.getD, hx]
    refine ⟨some a, cap, zs.take n, by rw [hlen], fun hn => ⟨a, rfl, ?_, at_⟩, ⟨by omega, hm⟩, fun x hx => hwf x (List.mem_of_mem_take hx)⟩
    have h0 := World.block_lt_of_cell? w _ (at_ 0 _ (List.getElem?_eq_getElem hn))
    rwa [adb] at h0
end

/-- A raw plan, whatever the raw numbers: it may be, and 'Plan' tells it. -/
theorem raw_plan (many turn cyc : Int) (k0 : (Lit.int .i64 many).wf = true) (k1 : (Lit.int .i64 turn).wf = true) (k2 : (Lit.int .i64 cyc).wf = true) (A : Option Addr) (cp : Nat) (ks : List Int) (w : World) (f : IntsOk w A cp ks) :
    ∃ (l : Pl) (C : Int), rightS l C = true ∧ (∃ (n : Nat) (T : Int), l = planL n T ks n ∧ 2 ≤ n ∧ n ≤ 16 ∧ 0 ≤ T ∧ T < n) ∧
      ∀ W, Below w.heap.size w W → Calls Try.prog 10 #[.int .i64 many, .slice A ks.length cp, .int .i64 turn, .int .i64 cyc] W (PlanPost l C W) := by
  have r1 := pickI_range many 15 (by omega)
  obtain ⟨n, hn⟩ : ∃ n : Nat, (n : Int) = 2 + pickI many 15 := ⟨(2 + pickI many 15).toNat, by omega⟩
  have r2 := pickI_range turn n (by omega)
  have r3 := pickI_range cyc 64 (by omega)
  refine ⟨planL n (pickI turn n) ks n, 1 + pickI cyc 64, planL_right ks (by omega) (by omega) r2.1 r2.2 (by omega), ⟨n, pickI turn n, rfl, by omega, by omega, r2.1, r2.2⟩, fun W hb => ?_⟩
  have hr : Row W W.heap.size A ks := fun hn => by
    obtain ⟨ad, e, h1, h2⟩ := (f.row.below hb (Nat.le_refl _)) hn
    exact ⟨ad, e, by have := hb.size; omega, h2⟩
  exact plan_any many turn cyc k0 k1 k2 A cp ks W hr (by have := f.len; omega) f.wf n _ _ hn rfl rfl

end Go.Proofs.Ytmklabdfalkldaa

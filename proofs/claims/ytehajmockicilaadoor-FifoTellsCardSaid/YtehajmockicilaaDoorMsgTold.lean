/-
  What the program's functions on messages tell: the contracts that the laws' walks take, in one structure.
-/
import Derived.Test.YtehajmockicilaaDoorMsgSort
namespace Go.Proofs.YtehajmockicilaaDoor
open Go.RowKit

/-- The example's messages. -/
def exA : Msg := ⟨false, 5, 2, 1, 3, 4, ⟨#[]⟩⟩
def exB : Msg := ⟨false, 4, 3, 1, 1, 9, ⟨#[97, 98]⟩⟩
def exL : List UInt8 := [0, 0, 0, 5, 2, 0, 1, 0, 3, 0, 4, 0]
theorem ex_enc : encT exA = exL := by decide
theorem ex_encE : encE exA = 0 := by decide
theorem ex_dec : decE (exL ++ [120]) = 0 := by decide
theorem ex_decR : decR (exL ++ [120]) = exA := (sameM_iff _ _).1 (by decide)
theorem ex_rest : decRest (exL ++ [120]) = [120] := by decide
theorem ex_short : decE [120] = 3 := by decide
theorem ex_sort : sortL [exA, exB] = [exB, exA] := (sameL_iff _ _).1 (by decide)
theorem ex_small : ∀ (j : Nat) (m : Msg), [exA, exB][j]? = some m → m.data.size ≤ 281474976710656 := by
  intro j m hm
  have h := List.mem_of_getElem? hm
  simp only [List.mem_cons, List.not_mem_nil, or_false] at h
  rcases h with rfl | rfl <;> decide
theorem ex_decS : decR [120] = zeroM := (sameM_iff _ _).1 (by decide)
theorem ex_restS : decRest [120] = [] := by decide
theorem ex_zero : encE zeroM = 1 := by decide
theorem ex_less : lessM exB exA = true := by decide
theorem ex_right : rightM exA = true := by decide

set_option maxRecDepth 100000 in
/-- Two messages that the caller's own statement laid. -/
theorem Msgs.two (W : World) (a b : Msg) : Msgs (W.alloc (.cells #[.bool a.ext, .int .i64 a.n, .int .i64 a.sender, .int .i64 a.inc, .int .i64 a.seq, .int .i64 a.number, .string a.data, .bool b.ext, .int .i64 b.n, .int .i64 b.sender, .int .i64 b.inc, .int .i64 b.seq, .int .i64 b.number, .string b.data] 26)) (W.heap.size + 1) (some ⟨W.heap.size, 0, none⟩) [a, b] := fun _ => by
  refine ⟨_, rfl, by show W.heap.size < _; omega, fun j x hx => ?_⟩
  have hj : j < 2 := (List.getElem?_eq_some_iff.1 hx).1
  rcases (show j = 0 ∨ j = 1 by omega) with rfl | rfl
  · have e : x = a := by simpa using hx.symm
    subst e
    refine ⟨?_, ?_, ?_, ?_, ?_, ?_, ?_⟩ <;> simp [Addr.add, go_sem]
  · have e : x = b := by simpa using hx.symm
    subst e
    refine ⟨?_, ?_, ?_, ?_, ?_, ?_, ?_⟩ <;> simp [Addr.add, go_sem]

end Go.Proofs.YtehajmockicilaaDoor

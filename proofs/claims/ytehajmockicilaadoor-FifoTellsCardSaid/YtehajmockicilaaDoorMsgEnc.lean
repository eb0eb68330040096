/-
  The bytes of messages, by the document: Encode.
-/
import Derived.Test.YtehajmockicilaaDoorMsgLess
import Derived.IntWalk
import Derived.Test.YtehajmockicilaaDoorOnce
namespace Go.Proofs.YtehajmockicilaaDoor
open Go.RowKit

def twoL (n : Int) : List UInt8 := [octet (n / 256), octet n]
/-- A right message's bytes. -/
def encL (m : Msg) : List UInt8 := printI m.ext m.n ++ [octet m.sender] ++ twoL m.inc ++ twoL m.seq ++ twoL m.number ++ [octet m.data.size] ++ m.data.data.toList

def encT (m : Msg) : List UInt8 := if rightM m = true then encL m else []
def encE (m : Msg) : Int := if rightM m = true then 0 else 1

set_option maxRecDepth 100000 in
theorem two_bytes (w : World) (a b : Int) : (convert 121 9 (.slice (some ⟨w.heap.size, 0, none⟩) 2 2)).run Tryd.prog (w.alloc (.cells #[.int .u8 a, .int .u8 b] 5)) = .ok (.string (txt [UInt8.ofNat a.toNat, UInt8.ofNat b.toNat])) (w.alloc (.cells #[.int .u8 a, .int .u8 b] 5)) := by
  refine run_convert_bytes_arg (P := Tryd.prog) _ 121 5 Tryd.underlying121 Tryd.underlying5 w.heap.size 0 2 2 [a, b] rfl ?_ 9 Tryd.underlying9
  intro i hi
  have : i = 0 ∨ i = 1 := by omega
  rcases this with rfl | rfl <;> simp [go_sem]

theorem add_txt (A O C : List UInt8) (h : C = A ++ O) (hs : A.length + O.length ≤ 1000) : txt A ++ txt O = txt C ∧ ¬ 9223372036854775807 < (txt A).size + (txt O).size := by
  refine ⟨by rw [h]; apply ByteArray.ext; simp [txt], ?_⟩
  rw [txt_size, txt_size]; omega
set_option maxRecDepth 100000 in
theorem one_at (w : World) (g : Nat) (a : Int) (hc : w.cell? ⟨g, 0, none⟩ = some (.int .u8 a)) : (convert 121 9 (.slice (some ⟨g, 0, none⟩) 1 1)).run Tryd.prog w = .ok (.string (txt [UInt8.ofNat a.toNat])) w := by
  refine run_convert_bytes_arg (P := Tryd.prog) _ 121 5 Tryd.underlying121 Tryd.underlying5 g 0 1 1 [a] rfl ?_ 9 Tryd.underlying9
  intro i hi
  have : i = 0 := by omega
  subst this
  simpa using hc
theorem wrap_octet (n : Int) : UInt8.ofNat (IntKind.u8.wrap n).toNat = octet n := by
  unfold octet
  simp only [IntKind.wrap, IntKind.bits, IntKind.signed]
  simp

end Go.Proofs.YtehajmockicilaaDoor

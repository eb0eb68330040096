/-
  Bytes of identifiers: what ident.Print does, and the document's.
-/
import Derived.Test.YtehajmockicilaaDoorIdentLess
namespace Go.Proofs.YtehajmockicilaaDoor
open Go.RowKit

/-- The number that stands in the bytes. -/
def numI (b : Bool) (n : Int) : Int := if b = true then n + 2147483648 else n
def octet (n : Int) : UInt8 := UInt8.ofNat (n % 256).toNat
def four (n : Int) : List UInt8 := [octet (n / 16777216), octet (n / 65536), octet (n / 256), octet n]
def printI (b : Bool) (n : Int) : List UInt8 := if rightI b n = true then four (numI b n) else []

theorem octet_small (n : Int) (h : 0 ≤ n) : UInt8.ofNat n.toNat = octet n := by
  unfold octet
  apply UInt8.toNat_inj.1
  simp
  omega
theorem octet_of (x y : Int) (h0 : 0 ≤ x) (h : x % 256 = y % 256) : UInt8.ofNat x.toNat = octet y := by
  rw [octet_small x h0]
  unfold octet
  rw [h]
theorem list4 {a b c d a' b' c' d' : UInt8} (h1 : a = a') (h2 : b = b') (h3 : c = c') (h4 : d = d') : [a, b, c, d] = [a', b', c', d'] := by rw [h1, h2, h3, h4]

theorem four_bytes (w : World) (a b c d : Int) : (convert 121 9 (.slice (some ⟨w.heap.size, 0, none⟩) 4 4)).run Tryd.prog (w.alloc (.cells #[.int .u8 a, .int .u8 b, .int .u8 c, .int .u8 d] 5)) = .ok (.string (txt [UInt8.ofNat a.toNat, UInt8.ofNat b.toNat, UInt8.ofNat c.toNat, UInt8.ofNat d.toNat])) (w.alloc (.cells #[.int .u8 a, .int .u8 b, .int .u8 c, .int .u8 d] 5)) := by
  refine run_convert_bytes_arg (P := Tryd.prog) _ 121 5 Tryd.underlying121 Tryd.underlying5 w.heap.size 0 4 4 [a, b, c, d] rfl ?_ 9 Tryd.underlying9
  intro i hi
  have : i = 0 ∨ i = 1 ∨ i = 2 ∨ i = 3 := by omega
  rcases this with rfl | rfl | rfl | rfl <;> simp [go_sem]

end Go.Proofs.YtehajmockicilaaDoor

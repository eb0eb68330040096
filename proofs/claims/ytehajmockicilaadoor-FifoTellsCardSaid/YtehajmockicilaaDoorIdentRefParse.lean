/-
  Identifiers out of bytes: what the document's Parse does.
-/
import Derived.Test.YtehajmockicilaaDoorIdentParse
import Derived.IntWalk
namespace Go.Proofs.YtehajmockicilaaDoor
open Go.RowKit

theorem byte_at (s : ByteArray) (n : Nat) (hn : n < s.size) : s[n] = s.data.toList.getD n 0 := by
  rw [List.getD_eq_getElem?_getD, List.getElem?_eq_getElem (by rw [← Lib.size_eq]; exact hn)]
  rfl

theorem run_at (s : ByteArray) (e : Int) (n : Nat) (he : e = (n : Int)) (hn : n < s.size) (w : World) :
    (Instr.index 9 (.string s) (.int .i64 e)).run Tryd.prog w = .ok (.int .u8 (((s.data.toList.getD n 0).toNat : Nat) : Int)) w := by
  subst he
  rw [← byte_at s n hn]
  rw [run_index_string w 9 s .i64 (n : Int) Tryd.underlying9]
  rw [dif_pos ⟨by omega, by omega⟩]
  rfl

theorem numL_four (l : List UInt8) (h : l.length = 4) : numL l = 16777216 * ((l.getD 0 0).toNat : Int) + 65536 * ((l.getD 1 0).toNat : Int) + 256 * ((l.getD 2 0).toNat : Int) + ((l.getD 3 0).toNat : Int) := by
  match l, h with
  | [a, b, c, d], _ =>
    show ((((0 : Int) * 256 + (a.toNat : Int)) * 256 + (b.toNat : Int)) * 256 + (c.toNat : Int)) * 256 + (d.toNat : Int) = 16777216 * (a.toNat : Int) + 65536 * (b.toNat : Int) + 256 * (c.toNat : Int) + (d.toNat : Int)
    omega

end Go.Proofs.YtehajmockicilaaDoor

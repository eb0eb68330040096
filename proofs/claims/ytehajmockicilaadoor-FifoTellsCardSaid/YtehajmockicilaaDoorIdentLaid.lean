/-
  The table of layer 2, as the rows lay it; and what becomes of it behind calls that only make memory.
-/
import Derived.Test.YtehajmockicilaaDoorRows
import Derived.Lib.LaidTab
import Derived.Lib.SmallJoins
import Derived.WalkKit
import Derived.WalkSpells
import Derived.WalkLawsBesides
import Derived.Below
import Derived.Lib.Hide
import Derived.Lib.Strings
import Derived.Lib.Bytes
import Derived.Deep.RegionWith
import Derived.Deep.QuietTactic
import Derived.BigQuiet
import Derived.Deep.RegionHeld3
import Derived.Deep.DrawnRows
namespace Go.Proofs.YtehajmockicilaaDoor
open Go.RowKit

/-- The table of the greatest numbers stands as the program's text lays it. -/
def Laid (w : World) : Prop := Lib.TabIs Tryd.prog w "omnibus/ident.greatest" .i64 [2047, 536870911]

theorem greatest_at : Tryd.prog.globalNamed "omnibus/ident.greatest" = some 0 := by kernel_rfl

theorem Laid.below {w w' : World} (h : Laid w) (hb : Below w.heap.size w w') : Laid w' :=
  Joins.tab_stays greatest_at h hb (Nat.le_refl _)
theorem Laid.alloc {w : World} (h : Laid w) (o : Obj) : Laid (w.alloc o) := h.below (Joins.below_alloc1 w o)
theorem Laid.drewN {w : World} (h : Laid w) (n : Nat) : Laid (w.drewN n) := h.below (Joins.below_draws _ w n)
theorem Laid.zero {w : World} (h : Laid w) : w.cell? ⟨0, 0, none⟩ = some (.int .i64 2047) :=
  Lib.TabIs.cell (i := 0) h greatest_at (by decide)
theorem Laid.one {w : World} (h : Laid w) : w.cell? ⟨0, 1, none⟩ = some (.int .i64 536870911) :=
  Lib.TabIs.cell (i := 1) h greatest_at (by decide)

theorem turned {P : Program} {f : FuncId} {args : Array Value} {W : World} {v : Value} (h : Calls P f args W fun e w' => e = .returned v ∧ W = w') : Calls P f args W fun e w' => e = .returned v ∧ w' = W :=
  h.mono fun _ _ ⟨a, b⟩ => ⟨a, b.symm⟩
theorem below_drewN {B : Nat} {a w : World} (h : Below B a w) (n : Nat) : Below B a (w.drewN n) := ⟨h.os, h.tape, h.output, h.size, h.block⟩
theorem below_trans {a b c : World} (h : Below a.heap.size a b) (k : Below b.heap.size b c) : Below a.heap.size a c := h.trans (k.mono h.size)
/-- A call behind one that only made memory. -/
theorem below_on {a b c : World} {B : Nat} (h : Below B a b) (hB : B ≤ b.heap.size) (k : Below b.heap.size b c) : Below B a c := h.trans (k.mono hB)

/-- What stood ahead of a call that only makes memory reads on as it did. -/
theorem bcell {W w1 : World} (hb : Below W.heap.size W w1) : (∀ b o, b < W.heap.size → w1.cell? ⟨b, o, none⟩ = W.cell? ⟨b, o, none⟩) ∧ (∀ b o, b < W.heap.size → w1.frozen? ⟨b, o, none⟩ = W.frozen? ⟨b, o, none⟩) :=
  ⟨fun b o h => hb.cell (p := ⟨b, o, none⟩) h, fun b o h => hb.frozen (p := ⟨b, o, none⟩) h⟩

/-- A text of bytes as the model has it. -/
def txt (l : List UInt8) : ByteArray := ⟨l.toArray⟩
theorem txt_data (l : List UInt8) : (txt l).data.toList = l := rfl
theorem txt_size (l : List UInt8) : (txt l).size = l.length := by simp [txt, ByteArray.size]
theorem txt_toList (l : List UInt8) : (txt l).toList = l := ByteArray.toList_mk l
theorem txt_of (s : ByteArray) : s = txt s.data.toList := rfl

end Go.Proofs.YtehajmockicilaaDoor

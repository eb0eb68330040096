/-
  Rows of six raw numbers, and lists of messages, as the laws' parameters lie in memory.
-/
import Derived.Test.YtehajmockicilaaDoorMsgTold
import Derived.Test.YtehajmockicilaaDoorMsgTrip
namespace Go.Proofs.YtehajmockicilaaDoor
open Go.RowKit

/-- Six raw numbers. -/
structure Raw where
  r0 : Int
  r1 : Int
  r2 : Int
  r3 : Int
  r4 : Int
  r5 : Int
def WfR (r : Raw) : Prop := (Lit.int .i64 r.r0).wf = true ∧ (Lit.int .i64 r.r1).wf = true ∧ (Lit.int .i64 r.r2).wf = true ∧ (Lit.int .i64 r.r3).wf = true ∧ (Lit.int .i64 r.r4).wf = true ∧ (Lit.int .i64 r.r5).wf = true
/-- The message that they speak of. -/
def rmsg (d : ByteArray) (r : Raw) : Msg := rawM r.r0 r.r1 r.r2 r.r3 r.r4 r.r5 d
theorem rmsg_right (d : ByteArray) (r : Raw) : rightM (rmsg d r) = true := rawM_right _ _ _ _ _ _ _
theorem rmsg_any (r : Raw) (h : WfR r) (d : ByteArray) (hd : d.size ≤ maxLen) (w : World) :
    Calls Tryd.prog 23 #[.agg #[.int .i64 r.r0, .int .i64 r.r1, .int .i64 r.r2, .int .i64 r.r3, .int .i64 r.r4, .int .i64 r.r5], .string d] w fun e w' => e = .returned (mv (rmsg d r)) ∧ Below w.heap.size w w' :=
  rawM_any _ _ _ _ _ _ d h.1 h.2.1 h.2.2.1 h.2.2.2.1 h.2.2.2.2.1 h.2.2.2.2.2 hd w

/-- Six numbers from address p on. -/
def At6 (w : World) (p : Addr) (r : Raw) : Prop :=
  w.cell? p = some (.int .i64 r.r0) ∧ w.cell? ⟨p.block, p.off + 1, none⟩ = some (.int .i64 r.r1) ∧ w.cell? ⟨p.block, p.off + 2, none⟩ = some (.int .i64 r.r2) ∧ w.cell? ⟨p.block, p.off + 3, none⟩ = some (.int .i64 r.r3) ∧
  w.cell? ⟨p.block, p.off + 4, none⟩ = some (.int .i64 r.r4) ∧ w.cell? ⟨p.block, p.off + 5, none⟩ = some (.int .i64 r.r5)
theorem At6.keep {w w' : World} {p : Addr} {r : Raw} (h : At6 w p r) (hk : ∀ q : Addr, q.block = p.block → w'.cell? q = w.cell? q) : At6 w' p r :=
  ⟨(hk p rfl).trans h.1, (hk ⟨p.block, p.off + 1, none⟩ rfl).trans h.2.1, (hk ⟨p.block, p.off + 2, none⟩ rfl).trans h.2.2.1, (hk ⟨p.block, p.off + 3, none⟩ rfl).trans h.2.2.2.1, (hk ⟨p.block, p.off + 4, none⟩ rfl).trans h.2.2.2.2.1, (hk ⟨p.block, p.off + 5, none⟩ rfl).trans h.2.2.2.2.2⟩
/-- A list of them, below block B. -/
def RowsIn (w : World) (B : Nat) (A : Option Addr) (l : List Raw) : Prop :=
  0 < l.length → ∃ ad, A = some ad ∧ ad.block < B ∧ ∀ j r, l[j]? = some r → At6 w (ad.add (j * 6)) r
theorem RowsIn.below {w w' : World} {B B' : Nat} {A : Option Addr} {l : List Raw} (h : RowsIn w B A l) (hb : Below B' w w') (hB : B ≤ B') : RowsIn w' B A l := fun hn => by
  obtain ⟨ad, e, hb1, hc⟩ := h hn
  exact ⟨ad, e, hb1, fun j r hr => (hc j r hr).keep fun q hq => hb.cell (Nat.lt_of_lt_of_le (by rw [hq, adb]; exact hb1) hB)⟩

/-- A slice of them as a law's parameter. -/
def RowsOk (w : World) (A : Option Addr) (c : Nat) (l : List Raw) : Prop := RowsIn w w.heap.size A l ∧ (l.length ≤ c ∧ c ≤ maxLen) ∧ ∀ (j : Nat) (r : Raw), l[j]? = some r → WfR r
/-- A slice of messages as a law's parameter. -/
def MsgsOk (w : World) (A : Option Addr) (c : Nat) (l : List Msg) : Prop := Msgs w w.heap.size A l ∧ (l.length ≤ c ∧ c ≤ maxLen) ∧ ∀ (j : Nat) (m : Msg), l[j]? = some m → m.data.size ≤ 140737488351232

theorem map_take (d : ByteArray) (l : List Raw) (k : Nat) (r : Raw) (h : l[k]? = some r) : (l.take (k + 1)).map (rmsg d) = (l.take k).map (rmsg d) ++ [rmsg d r] := by
  obtain ⟨hk, he⟩ := List.getElem?_eq_some_iff.1 h
  rw [List.take_succ_eq_append_getElem hk, he, List.map_append]; rfl
theorem own_one {w : World} {B : Nat} {u : Value} {l : List Msg} (h : OwnM w B u l) (m : Msg) : OwnM (w.alloc (.cells (mc m) 26)) B u l := h.on (Joins.below_alloc1 w _)
theorem data_small {d : ByteArray} {l : List Raw} : ∀ (j : Nat) (m : Msg), (l.map (rmsg d))[j]? = some m → m.data.size ≤ 281474976710656 := fun j m h => by
  rw [List.getElem?_map] at h
  cases hr : l[j]? with
  | none => rw [hr] at h; cases h
  | some r =>
    rw [hr] at h
    have e : rmsg d r = m := by simpa using h
    have := rightM_data (rmsg_right d r)
    rw [e] at this
    omega

end Go.Proofs.YtehajmockicilaaDoor

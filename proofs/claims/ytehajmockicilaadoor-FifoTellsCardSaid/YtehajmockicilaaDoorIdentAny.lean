/-
  Filters, several: what ident.Any does, and the document's.
-/
import Derived.Test.YtehajmockicilaaDoorIdentRefMatch
namespace Go.Proofs.YtehajmockicilaaDoor
open Go.RowKit

/-- Does one of some filters let it through? -/
def anyI (d : Bool) (n : Int) (l : List (Bool × Int × Int)) : Bool := l.any fun f => matchI f.1 f.2.1 f.2.2 d n

/-- Filters as they lie in memory. -/
def Lie (w : World) (a : Addr) (l : List (Bool × Int × Int)) : Prop :=
  a.block < w.heap.size ∧ ∀ (i : Nat) (f : Bool × Int × Int), l[i]? = some f →
    w.cell? (a.add (i * 3)) = some (.bool f.1) ∧ w.cell? ⟨(a.add (i * 3)).block, (a.add (i * 3)).off + 1, none⟩ = some (.int .i64 f.2.1) ∧ w.cell? ⟨(a.add (i * 3)).block, (a.add (i * 3)).off + 2, none⟩ = some (.int .i64 f.2.2)

theorem add_block (a : Addr) (k : Nat) : (a.add k).block = a.block := by unfold Addr.add; split <;> rfl
theorem Lie.below {w w' : World} {a : Addr} {l : List (Bool × Int × Int)} (h : Lie w a l) (hb : Below w.heap.size w w') : Lie w' a l := by
  refine ⟨Nat.lt_of_lt_of_le h.1 hb.size, fun i f hf => ?_⟩
  obtain ⟨h0, h1, h2⟩ := h.2 i f hf
  have hB : (a.add (i * 3)).block < w.heap.size := by rw [add_block]; exact h.1
  exact ⟨(hb.cell hB).trans h0, (hb.cell (p := ⟨(a.add (i * 3)).block, _, none⟩) hB).trans h1, (hb.cell (p := ⟨(a.add (i * 3)).block, _, none⟩) hB).trans h2⟩

theorem anyI_take (d : Bool) (n : Int) (l : List (Bool × Int × Int)) (k : Nat) (f : Bool × Int × Int) (hf : l[k]? = some f) (h : anyI d n (l.take k) = false) :
    anyI d n (l.take (k + 1)) = matchI f.1 f.2.1 f.2.2 d n := by
  obtain ⟨hk, he⟩ := List.getElem?_eq_some_iff.1 hf
  unfold anyI at *
  rw [List.take_succ_eq_append_getElem hk, List.any_append, h, he, Bool.false_or]
  simp
theorem anyI_one (d : Bool) (n : Int) (l : List (Bool × Int × Int)) (k : Nat) (h : anyI d n (l.take k) = true) : anyI d n l = true := by
  unfold anyI at *
  rw [List.any_eq_true] at *
  obtain ⟨x, hx, hm⟩ := h
  exact ⟨x, List.mem_of_mem_take hx, hm⟩

theorem any_nil (d : Bool) (n : Int) (cap : Nat) (w : World) :
    Calls Tryd.prog 81 #[.agg #[.bool d, .int .i64 n], .slice none 0 cap] w fun e w' => e = .returned (.bool false) ∧ Below w.heap.size w w' := by
  go_enter Tryd.func81, Tryd.ntmps81
  go_wp2_with fail
  go_loopw [9] (fun v wr => v = .int .i64 0 ∧ Below w.heap.size w wr) (fun _ _ => 0)
  case atStart => exact ⟨rfl, Joins.below_alloc1 _ _⟩
  case round =>
    obtain ⟨rfl, hb⟩ := hrel
    go_wp2_with fail
    go_ret
    exact ⟨rfl, hb⟩

set_option maxHeartbeats 400000 in
theorem any_some (d : Bool) (n : Int) (a : Addr) (cap : Nat) (l : List (Bool × Int × Int)) (w : World) (L : Laid w) (hl : Lie w a l) (hlen : l.length ≤ 281474976710656) :
    Calls Tryd.prog 81 #[.agg #[.bool d, .int .i64 n], .slice (some a) l.length cap] w fun e w' => e = .returned (.bool (anyI d n l)) ∧ Below w.heap.size w w' := by
  go_enter Tryd.func81, Tryd.ntmps81
  go_wp2_with fail
  have L1 := L.alloc (.cells #[.bool d, .int .i64 n] 24)
  have hl1 := hl.below (Joins.below_alloc1 w (.cells #[.bool d, .int .i64 n] 24))
  have p0 : (w.alloc (.cells #[.bool d, .int .i64 n] 24)).cell? ⟨w.heap.size, 0, none⟩ = some (.bool d) := by simp [go_sem]
  have p1 : (w.alloc (.cells #[.bool d, .int .i64 n] 24)).cell? ⟨w.heap.size, 1, none⟩ = some (.int .i64 n) := by simp [go_sem]
  have hW := Joins.below_alloc1 w (.cells #[.bool d, .int .i64 n] 24)
  have hsz : w.heap.size < (w.alloc (.cells #[.bool d, .int .i64 n] 24)).heap.size := by simp
  generalize w.alloc (.cells #[.bool d, .int .i64 n] 24) = W at *
  have P0 := Lib.hid p0; clear p0
  have P1 := Lib.hid p1; clear p1
  have HW := Lib.hid hW; clear hW
  have HL := Lib.hid hl1; clear hl1
  clear hl L
  go_loopw [9] (fun v wr => ∃ k : Nat, k ≤ l.length ∧ v = .int .i64 k ∧ Below W.heap.size W wr ∧ anyI d n (l.take k) = false) (fun v _ => l.length - (intOf v).toNat)
  case atStart => exact ⟨0, by omega, rfl, Below.refl _ _, by rw [List.take_zero]; rfl⟩
  case round =>
    obtain ⟨k, hk, rfl, hb, hn⟩ := hrel
    have HB := Lib.hid hb
    have hN := Lib.hid hn; clear hn
    by_cases hlt : k < l.length
    · obtain ⟨f, hf⟩ : ∃ f, l[k]? = some f := ⟨_, List.getElem?_eq_getElem hlt⟩
      obtain ⟨c, hc⟩ : ∃ x : Bool, x = matchI f.1 f.2.1 f.2.2 d n := ⟨_, rfl⟩
      have hm := fun w L => match_any f.1 f.2.1 f.2.2 d n w L
      have ht := anyI_take d n l k f hf hN.out
      have hx := HL.out.below hb
      obtain ⟨g0, g1, g2⟩ := hx.2 k f hf
      have hLw := L1.below hb
      rw [← hc] at hm ht
      have q0 : wr.cell? ⟨w.heap.size, 0, none⟩ = some (.bool d) := (hb.cell (p := ⟨w.heap.size, 0, none⟩) hsz).trans P0.out
      have q1 : wr.cell? ⟨w.heap.size, 1, none⟩ = some (.int .i64 n) := (hb.cell (p := ⟨w.heap.size, 1, none⟩) hsz).trans P1.out
      have hab : (a.add (k * 3)).block < wr.heap.size := by rw [add_block]; exact hx.1
      have hsz2 : w.heap.size < wr.heap.size := by have := hb.size; omega
      obtain ⟨f0, f1, f2⟩ := f
      have HM := Lib.hid hm; clear hm
      clear hf hx hb hc
      cases c
      · have HT := Lib.hid ht; clear ht
        go_wp2_with fail
        refine (HM.out _ (hLw.alloc _)).mono ?_
        rintro e w1 ⟨rfl, hb1⟩
        go_wp2_with fail
        have hz := hb1.size
        go_roundw
        case rel => exact ⟨k + 1, by omega, by go_num, HB.out.trans ((Joins.below_alloc1 _ _).mono HB.out.size |>.trans (hb1.mono (by have := HB.out.size; simp; omega))), HT.out⟩
        case measure => simp [intOf]; omega
      · have HT := Lib.hid (anyI_one d n l (k + 1) ht); clear ht
        go_wp2_with fail
        refine (HM.out _ (hLw.alloc _)).mono ?_
        rintro e w1 ⟨rfl, hb1⟩
        go_wp2_with fail
        go_ret
        rw [HT.out]
        exact ⟨rfl, HW.out.trans ((HB.out.mono HW.out.size).trans (((Joins.below_alloc1 _ _).mono (by have := HB.out.size; omega)).trans (hb1.mono (by have := HB.out.size; simp; omega))))⟩
    · go_wp2_with fail
      go_ret
      have hkl : k = l.length := by omega
      have e := hN.out
      rw [hkl, List.take_length] at e
      rw [e]
      exact ⟨rfl, HW.out.trans (HB.out.mono HW.out.size)⟩

/-- A slice of filters, nil let in. -/
def LieIn (w : World) (A : Option Addr) (l : List (Bool × Int × Int)) : Prop := (l = [] ∧ A = none) ∨ ∃ a, A = some a ∧ Lie w a l
theorem LieIn.below {w w' : World} {A : Option Addr} {l : List (Bool × Int × Int)} (h : LieIn w A l) (hb : Below w.heap.size w w') : LieIn w' A l := by
  rcases h with h | ⟨a, ha, hl⟩
  · exact .inl h
  · exact .inr ⟨a, ha, hl.below hb⟩

theorem any_any (d : Bool) (n : Int) (A : Option Addr) (cap : Nat) (l : List (Bool × Int × Int)) (w : World) (L : Laid w) (hl : LieIn w A l) (hlen : l.length ≤ 281474976710656) :
    Calls Tryd.prog 81 #[.agg #[.bool d, .int .i64 n], .slice A l.length cap] w fun e w' => e = .returned (.bool (anyI d n l)) ∧ Below w.heap.size w w' := by
  rcases hl with ⟨rfl, rfl⟩ | ⟨a, rfl, hl⟩
  · exact any_nil d n cap w
  · exact any_some d n a cap l w L hl hlen

end Go.Proofs.YtehajmockicilaaDoor

/-
  Filters, several: what the document's Any does.
-/
import Derived.Test.YtehajmockicilaaDoorIdentAny
namespace Go.Proofs.YtehajmockicilaaDoor
open Go.RowKit

theorem refAny_nil (d : Bool) (n : Int) (cap : Nat) (w : World) :
    Calls Tryd.prog 27 #[.agg #[.bool d, .int .i64 n], .slice none 0 cap] w fun e w' => e = .returned (.bool false) ∧ Below w.heap.size w w' := by
  go_enter Tryd.func27, Tryd.ntmps27
  go_wp2_with fail
  go_loopw [5] (fun v wr => v = .int .i64 0 ∧ Below w.heap.size w wr) (fun _ _ => 0)
  case atStart => exact ⟨rfl, Joins.below_alloc1 _ _⟩
  case round =>
    obtain ⟨rfl, hb⟩ := hrel
    go_wp2_with fail
    go_ret
    exact ⟨rfl, hb⟩

set_option maxHeartbeats 400000 in
theorem refAny_some (d : Bool) (n : Int) (a : Addr) (cap : Nat) (l : List (Bool × Int × Int)) (w : World) (hl : Lie w a l) (hlen : l.length ≤ 281474976710656) :
    Calls Tryd.prog 27 #[.agg #[.bool d, .int .i64 n], .slice (some a) l.length cap] w fun e w' => e = .returned (.bool (anyI d n l)) ∧ Below w.heap.size w w' := by
  go_enter Tryd.func27, Tryd.ntmps27
  go_wp2_with fail
  have hl1 := hl.below (Joins.below_alloc1 w (.cells #[.bool d, .int .i64 n] 24))
  have p0 : (w.alloc (.cells #[.bool d, .int .i64 n] 24)).cell? ⟨w.heap.size, 0, none⟩ = some (.bool d) := by simp [go_sem]
  have p1 : (w.alloc (.cells #[.bool d, .int .i64 n] 24)).cell? ⟨w.heap.size, 1, none⟩ = some (.int .i64 n) := by simp [go_sem]
  have hW := Joins.below_alloc1 w (.cells #[.bool d, .int .i64 n] 24)
  have hsz : w.heap.size < (w.alloc (.cells #[.bool d, .int .i64 n] 24)).heap.size := by simp
  generalize w.alloc (.cells #[.bool d, .int .i64 n] 24) = W at *
  have P0 := Lib.hid p0; clear p0
  have P1 := Lib.hid p1; clear p1
  have HW := Lib.hid hW; clear hW
  have HL := Lib.hid hl1; clear hl1
  clear hl
  go_loopw [5] (fun v wr => ∃ k : Nat, k ≤ l.length ∧ v = .int .i64 k ∧ Below W.heap.size W wr ∧ anyI d n (l.take k) = false) (fun v _ => l.length - (intOf v).toNat)
  case atStart => exact ⟨0, by omega, rfl, Below.refl _ _, by rw [List.take_zero]; rfl⟩
  case round =>
    obtain ⟨k, hk, rfl, hb, hn⟩ := hrel
    have HB := Lib.hid hb
    have hN := Lib.hid hn; clear hn
    by_cases hlt : k < l.length
    · obtain ⟨f, hf⟩ : ∃ f, l[k]? = some f := ⟨_, List.getElem?_eq_getElem hlt⟩
      obtain ⟨c, hc⟩ : ∃ x : Bool, x = matchI f.1 f.2.1 f.2.2 d n := ⟨_, rfl⟩
      have hm := fun w => refMatch_any f.1 f.2.1 f.2.2 d n w
      have ht := anyI_take d n l k f hf hN.out
      have hx := HL.out.below hb
      obtain ⟨g0, g1, g2⟩ := hx.2 k f hf
      rw [← hc] at hm ht
      have q0 : wr.cell? ⟨w.heap.size, 0, none⟩ = some (.bool d) := (hb.cell (p := ⟨w.heap.size, 0, none⟩) hsz).trans P0.out
      have q1 : wr.cell? ⟨w.heap.size, 1, none⟩ = some (.int .i64 n) := (hb.cell (p := ⟨w.heap.size, 1, none⟩) hsz).trans P1.out
      have hab : (a.add (k * 3)).block < wr.heap.size := by rw [add_block]; exact hx.1
      have hsz2 : w.heap.size < wr.heap.size := by have := hb.size; omega
      obtain ⟨f0, f1, f2⟩ := f
      have HM := Lib.hid hm; clear hm
      clear hf hx hb hc
      have hk0 : (0 : Int) ≤ (k : Int) := by omega
      have hk1 : (k : Int) < (l.length : Int) := by omega
      have hst : ∀ w', Below wr.heap.size wr w' → (w'.cell? ⟨w.heap.size, 0, none⟩ = some (.bool d) ∧ w'.cell? ⟨w.heap.size, 1, none⟩ = some (.int .i64 n) ∧ w'.cell? (a.add (k * 3)) = some (.bool f0) ∧ w'.cell? ⟨(a.add (k * 3)).block, (a.add (k * 3)).off + 1, none⟩ = some (.int .i64 f1) ∧ w'.cell? ⟨(a.add (k * 3)).block, (a.add (k * 3)).off + 2, none⟩ = some (.int .i64 f2) ∧ Below wr.heap.size wr w') := by
        intro w' hb
        exact ⟨(hb.cell (p := ⟨w.heap.size, 0, none⟩) hsz2).trans q0, (hb.cell (p := ⟨w.heap.size, 1, none⟩) hsz2).trans q1, (hb.cell hab).trans g0, (hb.cell (p := ⟨(a.add (k * 3)).block, _, none⟩) hab).trans g1, (hb.cell (p := ⟨(a.add (k * 3)).block, _, none⟩) hab).trans g2, hb⟩
      have hst2 : ∀ w' w'', (w'.cell? ⟨w.heap.size, 0, none⟩ = some (.bool d) ∧ w'.cell? ⟨w.heap.size, 1, none⟩ = some (.int .i64 n) ∧ w'.cell? (a.add (k * 3)) = some (.bool f0) ∧ w'.cell? ⟨(a.add (k * 3)).block, (a.add (k * 3)).off + 1, none⟩ = some (.int .i64 f1) ∧ w'.cell? ⟨(a.add (k * 3)).block, (a.add (k * 3)).off + 2, none⟩ = some (.int .i64 f2) ∧ Below wr.heap.size wr w') → Below w'.heap.size w' w'' → (w''.cell? ⟨w.heap.size, 0, none⟩ = some (.bool d) ∧ w''.cell? ⟨w.heap.size, 1, none⟩ = some (.int .i64 n) ∧ w''.cell? (a.add (k * 3)) = some (.bool f0) ∧ w''.cell? ⟨(a.add (k * 3)).block, (a.add (k * 3)).off + 1, none⟩ = some (.int .i64 f1) ∧ w''.cell? ⟨(a.add (k * 3)).block, (a.add (k * 3)).off + 2, none⟩ = some (.int .i64 f2) ∧ Below wr.heap.size wr w'') := by
        intro w' w'' h hb
        exact hst w'' (below_trans h.2.2.2.2.2 hb)
      have HST := Lib.hid hst; clear hst
      have HST2 := Lib.hid hst2; clear hst2
      cases c
      · have HT := Lib.hid ht; clear ht
        go_wp2_with fail
        go_region_held3 (fun w' => w'.cell? ⟨w.heap.size, 0, none⟩ = some (.bool d) ∧ w'.cell? ⟨w.heap.size, 1, none⟩ = some (.int .i64 n) ∧ w'.cell? (a.add (k * 3)) = some (.bool f0) ∧ w'.cell? ⟨(a.add (k * 3)).block, (a.add (k * 3)).off + 1, none⟩ = some (.int .i64 f1) ∧ w'.cell? ⟨(a.add (k * 3)).block, (a.add (k * 3)).off + 2, none⟩ = some (.int .i64 f2) ∧ Below wr.heap.size wr w') (first | exact HST.out _ (Below.refl _ _).drew | exact HST2.out _ _ (by assumption) (by assumption)) (first | (go_at_call 59; refine (HM.out _).mono ?_; rintro e w1 ⟨rfl, hb1⟩))
        go_wp2_with fail
        have hb2 : Below wr.heap.size wr w1 := ((Below.refl _ _).drew).trans hb1
        go_roundw
        case rel => exact ⟨k + 1, by omega, by go_num, below_trans HB.out hb2, HT.out⟩
        case measure => simp [intOf]; omega
      · have HT := Lib.hid (anyI_one d n l (k + 1) ht); clear ht
        go_wp2_with fail
        go_region_held3 (fun w' => w'.cell? ⟨w.heap.size, 0, none⟩ = some (.bool d) ∧ w'.cell? ⟨w.heap.size, 1, none⟩ = some (.int .i64 n) ∧ w'.cell? (a.add (k * 3)) = some (.bool f0) ∧ w'.cell? ⟨(a.add (k * 3)).block, (a.add (k * 3)).off + 1, none⟩ = some (.int .i64 f1) ∧ w'.cell? ⟨(a.add (k * 3)).block, (a.add (k * 3)).off + 2, none⟩ = some (.int .i64 f2) ∧ Below wr.heap.size wr w') (first | exact HST.out _ (Below.refl _ _).drew | exact HST2.out _ _ (by assumption) (by assumption)) (first | (go_at_call 59; refine (HM.out _).mono ?_; rintro e w1 ⟨rfl, hb1⟩))
        go_wp2_with fail
        have hb2 : Below wr.heap.size wr w1 := ((Below.refl _ _).drew).trans hb1
        go_ret
        rw [HT.out]
        exact ⟨rfl, below_trans HW.out (below_trans HB.out hb2)⟩
    · go_wp2_with fail
      go_ret
      have hkl : k = l.length := by omega
      have e := hN.out
      rw [hkl, List.take_length] at e
      rw [e]
      exact ⟨rfl, HW.out.trans (HB.out.mono HW.out.size)⟩

theorem refAny_any (d : Bool) (n : Int) (A : Option Addr) (cap : Nat) (l : List (Bool × Int × Int)) (w : World) (hl : LieIn w A l) (hlen : l.length ≤ 281474976710656) :
    Calls Tryd.prog 27 #[.agg #[.bool d, .int .i64 n], .slice A l.length cap] w fun e w' => e = .returned (.bool (anyI d n l)) ∧ Below w.heap.size w w' := by
  rcases hl with ⟨rfl, rfl⟩ | ⟨a, rfl, hl⟩
  · exact refAny_nil d n cap w
  · exact refAny_some d n a cap l w hl hlen

end Go.Proofs.YtehajmockicilaaDoor

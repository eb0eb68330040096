/-
  The walk of the law MsgBack, over the contracts.
-/
import Derived.Test.YtgolnklgbhilaaaDoorMsgTold
import Derived.Test.YtgolnklgbhilaaaDoorMsgTrip
namespace Go.Proofs.YtgolnklgbhilaaaDoor
open Go.RowKit

/-- Block p is six numbers. -/
def Six (w : World) (p : Nat) (r0 r1 r2 r3 r4 r5 : Int) : Prop := w.heap[p]? = some (.cells #[.int .i64 r0, .int .i64 r1, .int .i64 r2, .int .i64 r3, .int .i64 r4, .int .i64 r5] 26 (0, 0))
theorem Six.new (w : World) (r0 r1 r2 r3 r4 r5 : Int) : Six (w.alloc (.cells #[.int .i64 r0, .int .i64 r1, .int .i64 r2, .int .i64 r3, .int .i64 r4, .int .i64 r5] 26)) w.heap.size r0 r1 r2 r3 r4 r5 := heap_alloc_new w _
theorem Six.on {w w' : World} {p : Nat} {r0 r1 r2 r3 r4 r5 : Int} (h : Six w p r0 r1 r2 r3 r4 r5) (hb : Below w.heap.size w w') : Six w' p r0 r1 r2 r3 r4 r5 :=
  (hb.block p (Array.getElem?_eq_some_iff.1 h).1).trans h
theorem Six.cells {w : World} {p : Nat} {r0 r1 r2 r3 r4 r5 : Int} (h : Six w p r0 r1 r2 r3 r4 r5) : w.cell? ⟨p, 0, none⟩ = some (.int .i64 r0) ∧ w.cell? ⟨p, 1, none⟩ = some (.int .i64 r1) ∧ w.cell? ⟨p, 2, none⟩ = some (.int .i64 r2) ∧ w.cell? ⟨p, 3, none⟩ = some (.int .i64 r3) ∧ w.cell? ⟨p, 4, none⟩ = some (.int .i64 r4) ∧ w.cell? ⟨p, 5, none⟩ = some (.int .i64 r5) := by
  refine ⟨?_, ?_, ?_, ?_, ?_, ?_⟩ <;> simp [World.cell?, show w.heap[p]? = _ from h]

set_option maxRecDepth 100000 in
set_option maxHeartbeats 4000000 in
theorem msgBack_walk (T : Told) (r0 r1 r2 r3 r4 r5 : Int) (d s : ByteArray) (k0 : (Lit.int .i64 r0).wf = true) (k1 : (Lit.int .i64 r1).wf = true) (k2 : (Lit.int .i64 r2).wf = true) (k3 : (Lit.int .i64 r3).wf = true) (k4 : (Lit.int .i64 r4).wf = true) (k5 : (Lit.int .i64 r5).wf = true) (hd : d.size ≤ maxLen) (hs : s.size ≤ maxLen) (w : World) (L : Laid w) :
    Calls Tryd.prog 5 #[.agg #[.int .i64 r0, .int .i64 r1, .int .i64 r2, .int .i64 r3, .int .i64 r4, .int .i64 r5], .string d, .string s] w fun e w' => e = .returned (.bool true) ∧ Below w.heap.size w w' := by
  have cA := fun w L => awake_any T w L
  have cM := fun w => rawM_any r0 r1 r2 r3 r4 r5 d k0 k1 k2 k3 k4 k5 hd w
  have hm := rawM_right r0 r1 r2 r3 r4 r5 d
  generalize rawM r0 r1 r2 r3 r4 r5 d = m at *
  have hsz := rightM_data hm
  have hx : ∃ x : ByteArray, x.size ≤ 200 ∧ (((s.size : Int) ≤ 200 ∧ x = s) ∨ (200 < (s.size : Int) ∧ ∀ w, (Instr.slice 9 (.string s) none (some (.int .i64 200)) none).run Tryd.prog w = .ok (.string x) w)) := by
    rcases Int.lt_or_le 200 (s.size : Int) with h | h
    · refine ⟨txt (s.data.toList.take 200), ?_, .inr ⟨h, fun w => run_to s 200 200 rfl (by omega) w⟩⟩
      rw [txt_size, List.length_take]; omega
    · exact ⟨s, by omega, .inl ⟨h, rfl⟩⟩
  obtain ⟨x, hxs, hx⟩ := hx
  have hxl := Lib.size_eq x
  have cE : ∀ w, Laid w → Calls Tryd.prog 10 #[mv m] w fun e w' => e = .returned (.tuple #[.string (txt (encL m)), .int .i64 0]) ∧ Below w.heap.size w w' := fun w L => by
    have h := T.enc m w L (by unfold maxLen; omega)
    rwa [encT_right hm, encE_right hm] at h
  have ht : (txt (encL m)).size = 12 + m.data.size := by rw [txt_size, encL_length hm]
  have cD : ∀ w, Laid w → Calls Tryd.prog 18 #[.string (txt (encL m) ++ x)] w fun e w' => e = .returned (.tuple #[mv m, .string x, .int .i64 0]) ∧ Below w.heap.size w w' := fun w L => by
    have hz : (txt (encL m) ++ x).data.toList = encL m ++ x.data.toList := by simp [txt]
    have h := T.dec (txt (encL m) ++ x) w L (by rw [ByteArray.size_append, ht]; omega)
    obtain ⟨d1, d2, d3⟩ := dec_enc hm x.data.toList
    unfold DecPost at h
    rw [hz, d1, d2, d3] at h
    exact h
  have hg : ∃ (k : Msg) (y u : ByteArray) (g : Int), (∀ w, Laid w → Calls Tryd.prog 18 #[.string x] w fun e w' => e = .returned (.tuple #[mv k, .string y, .int .i64 g]) ∧ Below w.heap.size w w') ∧
      ((g ≠ 0 ∧ k = zeroM ∧ y = ⟨#[]⟩) ∨ (g = 0 ∧ u ++ y = x ∧ u.size + y.size ≤ 200 ∧ ∀ w, Laid w → Calls Tryd.prog 10 #[mv k] w fun e w' => e = .returned (.tuple #[.string u, .int .i64 0]) ∧ Below w.heap.size w w')) := by
    refine ⟨decR x.data.toList, txt (decRest x.data.toList), txt (encL (decR x.data.toList)), decE x.data.toList, fun w L => T.dec x w L (by omega), ?_⟩
    by_cases h : decE x.data.toList = 0
    · obtain ⟨h1, h2⟩ := enc_dec h
      have h3 : txt (encL (decR x.data.toList)) ++ txt (decRest x.data.toList) = x := by
        apply ByteArray.ext
        apply Array.ext'
        simpa [txt] using h2
      refine .inr ⟨h, h3, by rw [← ByteArray.size_append, h3]; exact hxs, fun w L => ?_⟩
      have hq := T.enc (decR x.data.toList) w L (by have := rightM_data h1; unfold maxLen; omega)
      rwa [encT_right h1, encE_right h1] at hq
    · refine .inl ⟨h, ?_, ?_⟩
      · unfold decR; rw [if_neg h]
      · unfold decRest; rw [if_neg h]; rfl
  obtain ⟨k, y, u, g, cG, hg⟩ := hg
  generalize txt (encL m) = t at *
  have hov : ¬ 9223372036854775807 < t.size + x.size := by omega
  have e12 : IntKind.i64.wrap (12 + (m.data.size : Int)) = 12 + (m.data.size : Int) := IntWalk.i64_in _ (by omega)
  have htI : (t.size : Int) = 12 + (m.data.size : Int) := by omega
  have hEG := fun op p q w => eqM_guard op p q m m w
  have hNE := fun w => neqM m m w
  rw [show sameM m m = true from (sameM_iff _ _).2 rfl] at hNE
  have hZG := fun op p q w => eqM_guard op p q zeroM zeroM w
  have hZE := fun w => eqlM zeroM zeroM w
  rw [show sameM zeroM zeroM = true from (sameM_iff _ _).2 rfl] at hZE
  have h6 := Six.new w r0 r1 r2 r3 r4 r5
  have hW := Joins.below_alloc1 w (.cells #[.int .i64 r0, .int .i64 r1, .int .i64 r2, .int .i64 r3, .int .i64 r4, .int .i64 r5] 26)
  have hL := L.alloc (.cells #[.int .i64 r0, .int .i64 r1, .int .i64 r2, .int .i64 r3, .int .i64 r4, .int .i64 r5] 26)
  have HT := Lib.hid ht; clear ht hsz hxl
  have HG := Lib.hid hg; clear hg
  rcases hx with ⟨hc, rfl⟩ | ⟨hc, kx⟩
  all_goals
    go_enter Tryd.func5, Tryd.ntmps5
    go_wp2_with fail
    generalize w.alloc (.cells #[.int .i64 r0, .int .i64 r1, .int .i64 r2, .int .i64 r3, .int .i64 r4, .int .i64 r5] 26) = W0 at *
    refine (cA _ hL).mono ?_; rintro e w1 ⟨rfl, b1⟩
    have B1 := hW.trans (b1.mono hW.size)
    have h61 := h6.on b1
    have hL1 := hL.below b1
    obtain ⟨a0, a1, a2, a3, a4, a5⟩ := h61.cells
    clear h6 hL b1
    go_wp2_with fail
    refine (cM _).mono ?_; rintro e w2 ⟨rfl, b2⟩
    have B2 := B1.trans (b2.mono B1.size)
    have hL2 := hL1.below b2
    clear a0 a1 a2 a3 a4 a5 h61 hL1 b2 B1
    have hH : MsgAt (w2.alloc (.cells (mc m) 25)) w2.heap.size m := heap_alloc_new w2 _
    have B2' := B2.trans ((Joins.below_alloc1 w2 (.cells (mc m) 25)).mono B2.size)
    have hL2' := hL2.alloc (.cells (mc m) 25)
    clear B2 hL2
    go_wp2_with fail
    simp only [mc] at B2' hL2' hH
    generalize w2.alloc (.cells #[.bool m.ext, .int .i64 m.n, .int .i64 m.sender, .int .i64 m.inc, .int .i64 m.seq, .int .i64 m.number, .string m.data] 25) = W2 at *
    generalize w2.heap.size = p2 at *
    refine (cE _ hL2').mono ?_; rintro e w3 ⟨rfl, b3⟩
    have B3 := B2'.trans (b3.mono B2'.size)
    have hL3 := hL2'.below b3
    have hH3 := hH.on b3
    clear hH B2' hL2' b3
    go_wp2_with fail
    refine (cD _ hL3).mono ?_; rintro e w4 ⟨rfl, b4⟩
    have B4 := B3.trans (b4.mono B3.size)
    have hL4 := (hL3.below b4).alloc (.cells (mc m) 25)
    have hN4 : MsgAt (w4.alloc (.cells (mc m) 25)) w4.heap.size m := heap_alloc_new w4 _
    have hH4 := (hH3.on b4).on (Joins.below_alloc1 w4 (.cells (mc m) 25))
    have B4' := B4.trans ((Joins.below_alloc1 w4 (.cells (mc m) 25)).mono B4.size)
    clear hH3 B3 hL3 b4 B4
    obtain ⟨_, f0, f1, f2, f3, f4, f5, f6⟩ := Holds.of_blk hH4
    obtain ⟨_, g0, g1, g2, g3, g4, g5, g6⟩ := Holds.of_blk hN4
    go_wp2_with fail
    simp only [mc] at hL4 B4'
    generalize w4.alloc (.cells #[.bool m.ext, .int .i64 m.n, .int .i64 m.sender, .int .i64 m.inc, .int .i64 m.seq, .int .i64 m.number, .string m.data] 25) = W4 at *
    generalize w4.heap.size = p4 at *
    clear f0 f1 f2 f3 f4 f5 f6 g0 g1 g2 g3 g4 g5 g6 hH4 hN4
    refine (cG _ hL4).mono ?_; rintro e w5 ⟨rfl, b5⟩
    have B5 := B4'.trans (b5.mono B4'.size)
    have hL5 := (hL4.below b5).alloc (.cells (mc k) 25)
    have hK : MsgAt (w5.alloc (.cells (mc k) 25)) w5.heap.size k := heap_alloc_new w5 _
    have B5' := B5.trans ((Joins.below_alloc1 w5 (.cells (mc k) 25)).mono B5.size)
    clear B4' hL4 b5 B5
    rcases HG.out with ⟨h1, rfl, rfl⟩ | ⟨rfl, h2, h3, h4⟩
    · obtain ⟨_, f0, f1, f2, f3, f4, f5, f6⟩ := Holds.of_blk hK
      simp only [mv, mc, zeroM] at f0 f1 f2 f3 f4 f5 f6 hZG hZE B5' ⊢
      go_wp2_with fail
      go_ret
      exact ⟨rfl, B5'⟩
    · have h5 : ¬ 9223372036854775807 < u.size + y.size := by omega
      go_wp2_with fail
      refine (h4 _ hL5).mono ?_; rintro e w6 ⟨rfl, b6⟩
      have B6 := B5'.trans (b6.mono B5'.size)
      go_wp2_with fail
      go_ret
      exact ⟨rfl, B6⟩

end Go.Proofs.YtgolnklgbhilaaaDoor

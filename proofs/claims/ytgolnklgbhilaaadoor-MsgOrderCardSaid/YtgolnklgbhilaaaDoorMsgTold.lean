/-
  What the program's functions on messages tell: the contracts that the laws' walks take, in one structure.
-/
import Derived.Test.YtgolnklgbhilaaaDoorMsgSort
namespace Go.Proofs.YtgolnklgbhilaaaDoor
open Go.RowKit

structure Told : Prop where
  right : ∀ (m : Msg) (w : World), Laid w → m.data.size ≤ maxLen → Calls Tryd.prog 12 #[mv m] w fun e w' => e = .returned (.bool (rightM m)) ∧ Below w.heap.size w w'
  less : ∀ (a b : Msg) (w : World), Laid w → Calls Tryd.prog 14 #[mv a, mv b] w fun e w' => e = .returned (.bool (lessM a b)) ∧ Below w.heap.size w w'
  sort : ∀ (A : Option Addr) (c B : Nat) (l : List Msg) (w : World), Laid w → Msgs w B A l → B ≤ w.heap.size → l.length ≤ 19 → (∀ (j : Nat) (m : Msg), l[j]? = some m → m.data.size ≤ 281474976710656) → Calls Tryd.prog 21 #[.slice A l.length c] w fun e w' => ∃ u, e = .returned u ∧ OwnM w' w.heap.size u (sortL l) ∧ Below w.heap.size w w'
  enc : ∀ (m : Msg) (w : World), Laid w → m.data.size ≤ maxLen → Calls Tryd.prog 10 #[mv m] w fun e w' => e = .returned (.tuple #[.string (txt (encT m)), .int .i64 (encE m)]) ∧ Below w.heap.size w w'
  dec : ∀ (s : ByteArray) (w : World), Laid w → s.size ≤ 1000 → Calls Tryd.prog 18 #[.string s] w (DecPost s.data.toList w)

/-- The example's messages. -/
def exA : Msg := ⟨false, 5, 2, 1, 3, 4, ⟨#[]⟩⟩
def exB : Msg := ⟨false, 4, 3, 1, 1, 9, ⟨#[97, 98]⟩⟩
def exL : List UInt8 := [0, 0, 0, 5, 2, 0, 1, 0, 3, 0, 4, 0]
theorem ex_enc : encT exA = exL := by decide
theorem ex_encE : encE exA = 0 := by decide
theorem ex_dec : decE (exL ++ [120]) = 0 := by decide
theorem ex_decR : decR (exL ++ [120]) = exA := (sameM_iff _ _).1 (by decide)
theorem ex_rest : decRest (exL ++ [120]) = [120] := by decide
theorem ex_short : decE [120] = 3 := by decide
theorem ex_sort : sortL [exA, exB] = [exB, exA] := (sameL_iff _ _).1 (by decide)
theorem ex_small : ∀ (j : Nat) (m : Msg), [exA, exB][j]? = some m → m.data.size ≤ 281474976710656 := by
  intro j m hm
  have h := List.mem_of_getElem? hm
  simp only [List.mem_cons, List.not_mem_nil, or_false] at h
  rcases h with rfl | rfl <;> decide
theorem ex_decS : decR [120] = zeroM := (sameM_iff _ _).1 (by decide)
theorem ex_restS : decRest [120] = [] := by decide
theorem ex_zero : encE zeroM = 1 := by decide
theorem ex_less : lessM exB exA = true := by decide
theorem ex_right : rightM exA = true := by decide

set_option maxRecDepth 100000 in
/-- Two messages that the caller's own statement laid. -/
theorem Msgs.two (W : World) (a b : Msg) : Msgs (W.alloc (.cells #[.bool a.ext, .int .i64 a.n, .int .i64 a.sender, .int .i64 a.inc, .int .i64 a.seq, .int .i64 a.number, .string a.data, .bool b.ext, .int .i64 b.n, .int .i64 b.sender, .int .i64 b.inc, .int .i64 b.seq, .int .i64 b.number, .string b.data] 25)) (W.heap.size + 1) (some ⟨W.heap.size, 0, none⟩) [a, b] := fun _ => by
  refine ⟨_, rfl, by show W.heap.size < _; omega, fun j x hx => ?_⟩
  have hj : j < 2 := (List.getElem?_eq_some_iff.1 hx).1
  rcases (show j = 0 ∨ j = 1 by omega) with rfl | rfl
  · have e : x = a := by simpa using hx.symm
    subst e
    refine ⟨?_, ?_, ?_, ?_, ?_, ?_, ?_⟩ <;> simp [Addr.add, go_sem]
  · have e : x = b := by simpa using hx.symm
    subst e
    refine ⟨?_, ?_, ?_, ?_, ?_, ?_, ?_⟩ <;> simp [Addr.add, go_sem]

set_option maxRecDepth 100000 in
set_option maxHeartbeats 1000000 in
theorem awake_any (T : Told) (w : World) (L : Laid w) : Calls Tryd.prog 9 #[] w fun e w' => e = .returned (.bool true) ∧ Below w.heap.size w w' := by
  obtain ⟨X, hX⟩ : ∃ X, X = txt exL := ⟨_, rfl⟩
  obtain ⟨Y, hY⟩ : ∃ Y, Y = txt (exL ++ [120]) := ⟨_, rfl⟩
  obtain ⟨R, hR⟩ : ∃ R, R = txt [120] := ⟨_, rfl⟩
  have hXY : X ++ ⟨#[120]⟩ = Y := by rw [hX, hY]; rfl
  have hn : X.size = 12 := by rw [hX]; rfl
  have hXe : X.toList = [0, 0, 0, 5, 2, 0, 1, 0, 3, 0, 4, 0] := by rw [hX]; exact txt_toList _
  have hRe : R.toList = [120] := by rw [hR]; exact txt_toList _
  have c1 : ∀ w, Laid w → Calls Tryd.prog 10 #[.agg #[.bool false, .int .i64 5, .int .i64 2, .int .i64 1, .int .i64 3, .int .i64 4, .string ⟨#[]⟩]] w fun e w' => e = .returned (.tuple #[.string X, .int .i64 0]) ∧ Below w.heap.size w w' := fun w L => by
    have h := T.enc exA w L (by decide)
    rw [ex_enc, ex_encE, ← hX] at h
    exact h
  have c2 : ∀ w, Laid w → Calls Tryd.prog 18 #[.string Y] w fun e w' => e = .returned (.tuple #[.agg #[.bool false, .int .i64 5, .int .i64 2, .int .i64 1, .int .i64 3, .int .i64 4, .string ⟨#[]⟩], .string R, .int .i64 0]) ∧ Below w.heap.size w w' := fun w L => by
    have h := T.dec Y w L (by rw [hY]; decide)
    rw [hY] at h
    unfold DecPost at h
    rw [txt_data, ex_dec, ex_decR, ex_rest, ← hR, ← hY] at h
    exact h
  have c3 : ∀ w, Laid w → Calls Tryd.prog 18 #[.string ⟨#[120]⟩] w fun e w' => e = .returned (.tuple #[.agg #[.bool false, .int .i64 0, .int .i64 0, .int .i64 0, .int .i64 0, .int .i64 0, .string ⟨#[]⟩], .string ⟨#[]⟩, .int .i64 3]) ∧ Below w.heap.size w w' := fun w L => by
    have h := T.dec ⟨#[120]⟩ w L (by decide)
    unfold DecPost at h
    rw [show (⟨#[120]⟩ : ByteArray).data.toList = [120] from rfl, ex_short, ex_decS, ex_restS] at h
    exact h
  have c4 := fun A c B w L h hB => T.sort A c B [exA, exB] w L h hB (by decide) ex_small
  rw [ex_sort] at c4
  have c5 : ∀ w, Laid w → Calls Tryd.prog 10 #[.agg #[.bool false, .int .i64 0, .int .i64 0, .int .i64 0, .int .i64 0, .int .i64 0, .string ⟨#[]⟩]] w fun e w' => e = .returned (.tuple #[.string (txt (encT zeroM)), .int .i64 1]) ∧ Below w.heap.size w w' := fun w L => by
    have h := T.enc zeroM w L (by decide)
    rw [ex_zero] at h
    exact h
  have c6 := fun (A A' : Option Addr) (c c' B B' : Nat) (w : World) (ha : Msgs w B A [exB, exA]) (hb : Msgs w B' A' [exB, exA]) => same_any A A' c c' B B' [exB, exA] [exB, exA] w ha hb (by decide)
  rw [show sameL [exB, exA] [exB, exA] = true from (sameL_iff _ _).2 rfl] at c6
  have c7 : ∀ w, Laid w → Calls Tryd.prog 14 #[.agg #[.bool false, .int .i64 4, .int .i64 3, .int .i64 1, .int .i64 1, .int .i64 9, .string ⟨#[97, 98]⟩], .agg #[.bool false, .int .i64 5, .int .i64 2, .int .i64 1, .int .i64 3, .int .i64 4, .string ⟨#[]⟩]] w fun e w' => e = .returned (.bool true) ∧ Below w.heap.size w w' := fun w L => by
    have h := T.less exB exA w L
    rw [ex_less] at h
    exact h
  have c8 : ∀ w, Laid w → Calls Tryd.prog 12 #[.agg #[.bool false, .int .i64 5, .int .i64 2, .int .i64 1, .int .i64 3, .int .i64 4, .string ⟨#[]⟩]] w fun e w' => e = .returned (.bool true) ∧ Below w.heap.size w w' := fun w L => by
    have h := T.right exA w L (by decide)
    rw [ex_right] at h
    exact h
  have hEG := fun p q w => eqM_guard .eql p q exA exA w
  have hEQ := eqlM exA exA
  rw [show sameM exA exA = true from by decide] at hEQ
  simp only [mv, exA] at hEG hEQ
  generalize txt (encT zeroM) = Z at *
  clear hX hY hR
  go_enter Tryd.func9, Tryd.ntmps9
  go_wp2_with fail
  have hA := (show MsgAt (w.alloc (.cells (mc exA) 25)) w.heap.size exA from heap_alloc_new w _).on (Joins.below_alloc1 _ (.cells (mc exB) 25))
  have hB : MsgAt ((w.alloc (.cells (mc exA) 25)).alloc (.cells (mc exB) 25)) (w.heap.size + 1) exB := by
    have := heap_alloc_new (w.alloc (.cells (mc exA) 25)) (.cells (mc exB) 25)
    rwa [World.size_alloc] at this
  have hL := (L.alloc (.cells (mc exA) 25)).alloc (.cells (mc exB) 25)
  have hW := Joins.below_alloc2 w (.cells (mc exA) 25) (.cells (mc exB) 25)
  simp only [mc, exA, exB] at hA hB hL hW
  generalize (w.alloc (.cells #[.bool false, .int .i64 5, .int .i64 2, .int .i64 1, .int .i64 3, .int .i64 4, .string ⟨#[]⟩] 25)).alloc (.cells #[.bool false, .int .i64 4, .int .i64 3, .int .i64 1, .int .i64 1, .int .i64 9, .string ⟨#[97, 98]⟩] 25) = W0 at *
  generalize hgw : w.heap.size = p0 at *
  refine (c1 _ hL).mono ?_; rintro e w1 ⟨rfl, b1⟩
  go_wp2_with fail; refine (c2 _ (hL.below b1)).mono ?_; rintro e w2 ⟨rfl, b2⟩
  go_wp2_with fail
  have B2 := (b1.trans (b2.mono b1.size)).trans ((Joins.below_alloc1 w2 (.cells (mc exA) 25)).mono (Nat.le_trans b1.size b2.size))
  have hD : MsgAt (w2.alloc (.cells (mc exA) 25)) w2.heap.size exA := heap_alloc_new w2 _
  simp only [mc, exA] at B2 hD
  generalize w2.alloc (.cells #[.bool false, .int .i64 5, .int .i64 2, .int .i64 1, .int .i64 3, .int .i64 4, .string ⟨#[]⟩] 25) = W2 at *
  generalize w2.heap.size = p2 at *
  clear b1 b2
  refine (c3 _ (hL.below B2)).mono ?_; rintro e w3 ⟨rfl, bb3⟩
  have B3 := (B2.trans (bb3.mono B2.size)).trans ((Joins.below_alloc1 w3 (.cells (mc zeroM) 25)).mono (Nat.le_trans B2.size bb3.size))
  have hD3 := (hD.on bb3).on (Joins.below_alloc1 w3 (.cells (mc zeroM) 25))
  have hA3 := hA.on B3
  have hB3 := hB.on B3
  have hL3 := hL.below B3
  obtain ⟨_, a0, a1, a2, a3, a4, a5, a6⟩ := Holds.of_blk hA3
  obtain ⟨_, b0, b1, b2, b3, b4, b5, b6⟩ := Holds.of_blk hB3
  simp only [mc, zeroM] at a0 a1 a2 a3 a4 a5 a6 b0 b1 b2 b3 b4 b5 b6
  clear hA hB hL B2 bb3 hD
  go_wp2_with fail
  have hsz3 : w3.heap.size + 1 = (w3.alloc (.cells #[.bool false, .int .i64 0, .int .i64 0, .int .i64 0, .int .i64 0, .int .i64 0, .string ⟨#[]⟩] 25)).heap.size := by simp
  simp only [mc, zeroM] at B3 hD3 hA3 hB3 hL3
  generalize w3.alloc (.cells #[.bool false, .int .i64 0, .int .i64 0, .int .i64 0, .int .i64 0, .int .i64 0, .string ⟨#[]⟩] 25) = W3 at *
  rw [hsz3]
  have h2 : Msgs (W3.alloc (.cells #[.bool false, .int .i64 5, .int .i64 2, .int .i64 1, .int .i64 3, .int .i64 4, .string ⟨#[]⟩, .bool false, .int .i64 4, .int .i64 3, .int .i64 1, .int .i64 1, .int .i64 9, .string ⟨#[97, 98]⟩] 25)) (W3.heap.size + 1) (some ⟨W3.heap.size, 0, none⟩) [exA, exB] := Msgs.two W3 exA exB
  refine (c4 _ _ _ _ (hL3.alloc _) h2 (by simp)).mono ?_; rintro e w4 ⟨u, rfl, hown, bb4⟩
  obtain ⟨A4, k4, rfl, _, hm4⟩ := hown.row
  clear hown
  have B4 := B3.trans (((Joins.below_alloc1 W3 (.cells #[.bool false, .int .i64 5, .int .i64 2, .int .i64 1, .int .i64 3, .int .i64 4, .string ⟨#[]⟩, .bool false, .int .i64 4, .int .i64 3, .int .i64 1, .int .i64 1, .int .i64 9, .string ⟨#[97, 98]⟩] 25)).trans (bb4.mono (by simp))).mono B3.size)
  have T4 := (Joins.below_alloc1 W3 (.cells #[.bool false, .int .i64 5, .int .i64 2, .int .i64 1, .int .i64 3, .int .i64 4, .string ⟨#[]⟩, .bool false, .int .i64 4, .int .i64 3, .int .i64 1, .int .i64 1, .int .i64 9, .string ⟨#[97, 98]⟩] 25)).trans (bb4.mono (by simp))
  have hA4 := hA3.on T4
  have hB4 := hB3.on T4
  have hD4 := hD3.on T4
  have hL4 := hL3.below T4
  clear hA3 hB3 hD3 hL3 B3 T4 bb4 a0 a1 a2 a3 a4 a5 a6 b0 b1 b2 b3 b4 b5 b6
  go_wp2_with fail; refine (c5 _ hL4).mono ?_; rintro e w5 ⟨rfl, bb5⟩
  have B5 := B4.trans (bb5.mono B4.size)
  have hA5 := hA4.on bb5
  have hB5 := hB4.on bb5
  have hD5 := hD4.on bb5
  have hL5 := hL4.below bb5
  have hm5 := hm4.below bb5 (Nat.le_refl _)
  have hs5 := bb5.size
  clear hA4 hB4 hD4 hL4 hm4 bb5 B4
  obtain ⟨_, a0, a1, a2, a3, a4, a5, a6⟩ := Holds.of_blk hA5
  obtain ⟨_, b0, b1, b2, b3, b4, b5, b6⟩ := Holds.of_blk hB5
  obtain ⟨_, d0, d1, d2, d3, d4, d5, d6⟩ := Holds.of_blk hD5
  go_wp2_with fail
  have h6 : Msgs (w5.alloc (.cells #[.bool false, .int .i64 4, .int .i64 3, .int .i64 1, .int .i64 1, .int .i64 9, .string ⟨#[97, 98]⟩, .bool false, .int .i64 5, .int .i64 2, .int .i64 1, .int .i64 3, .int .i64 4, .string ⟨#[]⟩] 25)) (w5.heap.size + 1) (some ⟨w5.heap.size, 0, none⟩) [exB, exA] := Msgs.two w5 exB exA
  refine (c6 _ _ _ _ _ _ _ (hm5.below (Joins.below_alloc1 w5 _) hs5) h6).mono ?_; rintro e w6 ⟨rfl, n6, rfl⟩
  have T6 := below_drewN (Joins.below_alloc1 w5 (.cells #[.bool false, .int .i64 4, .int .i64 3, .int .i64 1, .int .i64 1, .int .i64 9, .string ⟨#[97, 98]⟩, .bool false, .int .i64 5, .int .i64 2, .int .i64 1, .int .i64 3, .int .i64 4, .string ⟨#[]⟩] 25)) n6
  have B6 := B5.trans (T6.mono B5.size)
  have hA6 := hA5.on T6
  have hB6 := hB5.on T6
  have hL6 := hL5.below T6
  generalize (w5.alloc (.cells #[.bool false, .int .i64 4, .int .i64 3, .int .i64 1, .int .i64 1, .int .i64 9, .string ⟨#[97, 98]⟩, .bool false, .int .i64 5, .int .i64 2, .int .i64 1, .int .i64 3, .int .i64 4, .string ⟨#[]⟩] 25)).drewN n6 = W6 at *
  clear hA5 hB5 hD5 hL5 hm5 h6 h2 T6 a0 a1 a2 a3 a4 a5 a6 b0 b1 b2 b3 b4 b5 b6 d0 d1 d2 d3 d4 d5 d6
  obtain ⟨_, a0, a1, a2, a3, a4, a5, a6⟩ := Holds.of_blk hA6
  obtain ⟨_, b0, b1, b2, b3, b4, b5, b6⟩ := Holds.of_blk hB6
  go_wp2_with fail; refine (c7 _ hL6).mono ?_; rintro e w7 ⟨rfl, bb7⟩
  have B7 := B6.trans (bb7.mono B6.size)
  have hA7 := hA6.on bb7
  have hL7 := hL6.below bb7
  clear hA6 hB6 hL6 bb7 a0 a1 a2 a3 a4 a5 a6 b0 b1 b2 b3 b4 b5 b6
  obtain ⟨_, a0, a1, a2, a3, a4, a5, a6⟩ := Holds.of_blk hA7
  go_wp2_with fail; refine (c8 _ hL7).mono ?_; rintro e w8 ⟨rfl, bb8⟩
  go_wp2_with fail
  go_ret
  rw [hgw]
  have hp0 : p0 ≤ W0.heap.size := by rw [← hgw]; exact hW.size
  exact ⟨rfl, (hW.trans (B7.mono hp0)).trans (bb8.mono (Nat.le_trans hp0 B7.size))⟩

end Go.Proofs.YtgolnklgbhilaaaDoor

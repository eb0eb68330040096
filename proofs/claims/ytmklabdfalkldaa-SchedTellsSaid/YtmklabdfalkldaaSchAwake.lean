/-
  The laws' own first calls.
-/
import Derived.Test.YtmklabdfalkldaaSchPlan
import Derived.Test.YtmklabdfalkldaaSchEq
import Derived.OpenShut
import Derived.Lib.SmallJoins
namespace Go.Proofs.Ytmklabdfalkldaa
open Go.RowKit

def awL : Pl := [(1, 3), (0, 2)]
theorem Sls.two (W : World) (a b c d : Int) : Sls (W.alloc (.cells #[.int .i64 a, .int .i64 b, .int .i64 c, .int .i64 d] 45)) (W.heap.size + 1) (some ⟨W.heap.size, 0, none⟩) [(a, b), (c, d)] := fun _ =>
  ⟨_, rfl, by show W.heap.size < _; omega, fun j x hx => by
    have hj : j < 2 := (List.getElem?_eq_some_iff.1 hx).1
    rcases (show j = 0 ∨ j = 1 by omega) with rfl | rfl <;> simp at hx <;> subst hx <;> simp [At2, Addr.add, go_sem]⟩
/-- The world as awake has it: the plan, and its slots. -/
structure Aw (w W : World) : Prop where
  pl : PlAt W (w.heap.size + 1) (some ⟨w.heap.size, 0, none⟩) 2 2 2
  sl : Sls W W.heap.size (some ⟨w.heap.size, 0, none⟩) awL
  bel : Below w.heap.size w W
theorem Aw.on {w W W' : World} (h : Aw w W) (hb : Below W.heap.size W W') : Aw w W' :=
  ⟨h.pl.on hb, (h.sl.on hb).more hb.size, h.bel.trans (hb.mono h.bel.size)⟩
theorem Aw.spot {w W : World} (h : Aw w W) (a b c d : Int) : Aw w (W.alloc (.cells #[.int .i64 a, .int .i64 b, .int .i64 c, .int .i64 d] 27)) := h.on (Joins.below_alloc1 _ _)
theorem SpAt.new' (w : World) (a b c d : Int) : SpAt (w.alloc (.cells #[.int .i64 a, .int .i64 b, .int .i64 c, .int .i64 d] 27)) w.heap.size ⟨a, b, c, d⟩ := heap_alloc_new w _

set_option maxRecDepth 100000 in
set_option maxHeartbeats 4000000 in
theorem awake_any (w : World) : Calls Try.prog 9 #[] w fun e w' => e = .returned (.bool true) ∧ Below w.heap.size w w' := by
  have hlm : awL.length ≤ maxLen := by show 2 ≤ maxLen; unfold maxLen; omega
  have c1 := fun W h => at_any (some ⟨w.heap.size, 0, none⟩) 2 2 awL hlm 12 W h
  rw [show atV awL 2 12 = ⟨1, 0, 0, 2⟩ from by decide, show atE awL 2 12 = 0 from by decide] at c1
  have c2 := fun W h => time_any (some ⟨w.heap.size, 0, none⟩) 2 2 awL hlm ⟨1, 0, 0, 2⟩ W h
  rw [show timeV awL 2 ⟨1, 0, 0, 2⟩ = 12 from by decide, show timeE awL 2 ⟨1, 0, 0, 2⟩ = 0 from by decide] at c2
  have c3 := fun W h => later_any (some ⟨w.heap.size, 0, none⟩) 2 2 awL hlm ⟨1, 0, 0, 2⟩ 3 W h
  rw [show laterV awL 2 ⟨1, 0, 0, 2⟩ 3 = ⟨1, 1, 1, 0⟩ from by decide, show laterE awL 2 ⟨1, 0, 0, 2⟩ 3 = 0 from by decide] at c3
  have c4 := fun W h => slot_any (some ⟨w.heap.size, 0, none⟩) 2 2 awL hlm 0 W h
  rw [show slotV awL 2 0 = 1 from by decide, show slotB awL 2 0 = true from by decide] at c4
  have c5 := fun W h => at_any (some ⟨w.heap.size, 0, none⟩) 2 2 awL hlm (-1) W h
  rw [show atV awL 2 (-1) = ⟨0, 0, 0, 0⟩ from by decide, show atE awL 2 (-1) = 1 from by decide] at c5
  have c6 := fun W h => time_any (some ⟨w.heap.size, 0, none⟩) 2 2 awL hlm ⟨0, 0, 0, 3⟩ W h
  rw [show timeV awL 2 ⟨0, 0, 0, 3⟩ = 0 from by decide, show timeE awL 2 ⟨0, 0, 0, 3⟩ = 1 from by decide] at c6
  have c7 := fun W h => round_any (some ⟨w.heap.size, 0, none⟩) 2 2 awL hlm W h
  rw [show roundS awL 2 = 5 from by decide] at c7
  have c8 := fun W h => nodes_any (some ⟨w.heap.size, 0, none⟩) 2 2 awL hlm W h
  rw [show nodesS awL = 3 from by decide] at c8
  have c9 := fun W h => right_any (some ⟨w.heap.size, 0, none⟩) 2 2 awL hlm W h
  rw [show rightS awL 2 = true from by decide] at c9
  have C1 := Lib.hid c1; clear c1
  have C2 := Lib.hid c2; clear c2
  have C3 := Lib.hid c3; clear c3
  have C4 := Lib.hid c4; clear c4
  have C5 := Lib.hid c5; clear c5
  have C6 := Lib.hid c6; clear c6
  have C7 := Lib.hid c7; clear c7
  have C8 := Lib.hid c8; clear c8
  have C9 := Lib.hid c9; clear c9
  have q1 := fun x y w => eqS_guard .eql x y ⟨1, 0, 0, 2⟩ ⟨1, 0, 0, 2⟩ w
  have q2 := fun w => eqlS ⟨1, 0, 0, 2⟩ ⟨1, 0, 0, 2⟩ w
  have q3 := fun x y w => eqS_guard .eql x y ⟨1, 1, 1, 0⟩ ⟨1, 1, 1, 0⟩ w
  have q4 := fun w => eqlS ⟨1, 1, 1, 0⟩ ⟨1, 1, 1, 0⟩ w
  rw [show sameSp ⟨1, 0, 0, 2⟩ ⟨1, 0, 0, 2⟩ = true from by decide] at q2
  rw [show sameSp ⟨1, 1, 1, 0⟩ ⟨1, 1, 1, 0⟩ = true from by decide] at q4
  simp only [sv] at q1 q2 q3 q4
  have ha : Aw w ((w.alloc (.cells #[.int .i64 1, .int .i64 3, .int .i64 0, .int .i64 2] 45)).alloc (.cells #[.slice (some ⟨w.heap.size, 0, none⟩) 2 2, .int .i64 2] 25)) := by
    refine ⟨?_, ?_, Joins.below_alloc2 w _ _⟩
    · have := PlAt.new (w.alloc (.cells #[.int .i64 1, .int .i64 3, .int .i64 0, .int .i64 2] 45)) (some ⟨w.heap.size, 0, none⟩) 2 2 2
      rw [World.size_alloc] at this
      exact this
    · have h1 := Sls.two w 1 3 0 2
      have h2 := h1.on (Joins.below_alloc1 _ (.cells #[.slice (some ⟨w.heap.size, 0, none⟩) 2 2, .int .i64 2] 25))
      exact h2.more (by simp)
  have HA := Lib.hid ha; clear ha
  go_enter Try.func9, Try.ntmps9
  go_upto_region 2 with fail
  generalize (w.alloc (.cells #[.int .i64 1, .int .i64 3, .int .i64 0, .int .i64 2] 45)).alloc (.cells #[.slice (some ⟨w.heap.size, 0, none⟩) 2 2, .int .i64 2] 25) = W1 at *
  obtain ⟨y0, y1⟩ := HA.out.pl.cells
  go_wp2_with fail; refine (C1.out _ HA.out.sl).mono ?_; rintro e w2 ⟨rfl, b2⟩
  have HA2 := Lib.hid (HA.out.on b2); clear HA y0 y1 b2 C1
  go_upto_region 3 with fail
  have HS3 := Lib.hid (SpAt.new' w2 1 0 0 2)
  have HA3 := Lib.hid (HA2.out.spot 1 0 0 2)
  obtain ⟨s1, hs1⟩ : ∃ b, w2.heap.size = b := ⟨_, rfl⟩
  rw [hs1] at HS3 ⊢
  generalize w2.alloc (.cells #[.int .i64 1, .int .i64 0, .int .i64 0, .int .i64 2] 27) = w3 at *
  clear hs1 HA2
  obtain ⟨y0, y1⟩ := HA3.out.pl.cells
  obtain ⟨x0, x1, x2, x3⟩ := HS3.out.cells
  go_wp2_with fail; refine (C2.out _ HA3.out.sl).mono ?_; rintro e w4 ⟨rfl, b4⟩
  have HS4 := Lib.hid (HS3.out.on b4)
  have HA4 := Lib.hid (HA3.out.on b4)
  clear HS3 HA3 y0 y1 x0 x1 x2 x3 b4 C2
  obtain ⟨y0, y1⟩ := HA4.out.pl.cells
  obtain ⟨x0, x1, x2, x3⟩ := HS4.out.cells
  go_wp2_with fail; refine (C3.out _ HA4.out.sl).mono ?_; rintro e w5 ⟨rfl, b5⟩
  have HS5 := Lib.hid (HS4.out.on b5)
  have HA5 := Lib.hid (HA4.out.on b5)
  clear HS4 HA4 y0 y1 x0 x1 x2 x3 b5 C3
  go_upto_region 5 with fail
  have hb6 := Joins.below_alloc1 w5 (.cells #[.int .i64 1, .int .i64 1, .int .i64 1, .int .i64 0] 27)
  have HU6 := Lib.hid (SpAt.new' w5 1 1 1 0)
  have HA6 := Lib.hid (HA5.out.on hb6)
  have HS6 := Lib.hid (HS5.out.on hb6)
  obtain ⟨u1, hu1⟩ : ∃ b, w5.heap.size = b := ⟨_, rfl⟩
  rw [hu1] at HU6 ⊢
  clear hb6
  generalize w5.alloc (.cells #[.int .i64 1, .int .i64 1, .int .i64 1, .int .i64 0] 27) = w6 at *
  clear hu1 HA5 HS5
  obtain ⟨y0, y1⟩ := HA6.out.pl.cells
  go_wp2_with fail; refine (C4.out _ HA6.out.sl).mono ?_; rintro e w7 ⟨rfl, b7⟩
  have HS7 := Lib.hid (HS6.out.on b7)
  have HA7 := Lib.hid (HA6.out.on b7)
  have HU7 := Lib.hid (HU6.out.on b7)
  clear HS6 HA6 HU6 y0 y1 b7 C4
  obtain ⟨y0, y1⟩ := HA7.out.pl.cells
  go_wp2_with fail; refine (C5.out _ HA7.out.sl).mono ?_; rintro e w8 ⟨rfl, b8⟩
  have hb9 := Joins.below_alloc1 w8 (.cells #[.int .i64 0, .int .i64 0, .int .i64 0, .int .i64 0] 27)
  have HS9 := Lib.hid ((HS7.out.on b8).on hb9)
  have HA9 := Lib.hid ((HA7.out.on b8).on hb9)
  have HU9 := Lib.hid ((HU7.out.on b8).on hb9)
  clear HS7 HA7 HU7 y0 y1 b8 C5 hb9
  go_upto_region 7 with fail
  generalize w8.alloc (.cells #[.int .i64 0, .int .i64 0, .int .i64 0, .int .i64 0] 27) = w9 at *
  obtain ⟨y0, y1⟩ := HA9.out.pl.cells
  go_wp2_with fail; refine (C6.out _ HA9.out.sl).mono ?_; rintro e wA ⟨rfl, bA⟩
  have HSA := Lib.hid (HS9.out.on bA)
  have HAA := Lib.hid (HA9.out.on bA)
  have HUA := Lib.hid (HU9.out.on bA)
  clear HS9 HA9 HU9 y0 y1 bA C6
  obtain ⟨y0, y1⟩ := HAA.out.pl.cells
  obtain ⟨x0, x1, x2, x3⟩ := HSA.out.cells
  obtain ⟨z0, z1, z2, z3⟩ := HUA.out.cells
  go_wp2_with fail; refine (C7.out _ HAA.out.sl).mono ?_; rintro e wB ⟨rfl, bB⟩
  have HAB := Lib.hid (HAA.out.on bB)
  clear HAA HSA HUA y0 y1 x0 x1 x2 x3 z0 z1 z2 z3 bB C7 q1 q2 q3 q4
  obtain ⟨y0, y1⟩ := HAB.out.pl.cells
  go_wp2_with fail; refine (C8.out _ HAB.out.sl).mono ?_; rintro e wC ⟨rfl, bC⟩
  have HAC := Lib.hid (HAB.out.on bC)
  clear HAB y0 y1 bC C8
  obtain ⟨y0, y1⟩ := HAC.out.pl.cells
  go_wp2_with fail; refine (C9.out _ HAC.out.sl).mono ?_; rintro e wD ⟨rfl, bD⟩
  have HAD := Lib.hid (HAC.out.on bD)
  clear HAC y0 y1 bD C9
  go_wp2_with fail
  go_ret
  exact ⟨rfl, HAD.out.bel⟩

end Go.Proofs.Ytmklabdfalkldaa

/-
  The laws' awake.
-/
import Derived.Test.YtllbhbekpnmlnaaClkLaw
namespace Go.Proofs.Ytllbhbekpnmlnaa
open Go.RowKit

set_option maxRecDepth 100000 in
set_option maxHeartbeats 1000000 in
theorem awake_any (w : World) : Calls Try.prog 10 #[] w fun e w' => e = .returned (.bool true) ∧ Below w.heap.size w w' := by
  have r1 : ∀ W : World, Row (W.alloc (.cells #[.int .i64 (-50), .int .i64 2, .int .i64 4, .int .i64 90] 3)) (W.alloc (.cells #[.int .i64 (-50), .int .i64 2, .int .i64 4, .int .i64 90] 3)).heap.size (some ⟨W.heap.size, 0, none⟩) [-50, 2, 4, 90] := fun W => by rw [World.size_alloc]; exact Row.new W [-50, 2, 4, 90]
  have r2 : ∀ W : World, Row (W.alloc (.cells #[.int .i64 1, .int .i64 2] 3)) (W.alloc (.cells #[.int .i64 1, .int .i64 2] 3)).heap.size (some ⟨W.heap.size, 0, none⟩) [1, 2] := fun W => by rw [World.size_alloc]; exact Row.new W [1, 2]
  have r3 : ∀ W : World, Row (W.alloc (.cells #[.int .i64 7] 3)) (W.alloc (.cells #[.int .i64 7] 3)).heap.size (some ⟨W.heap.size, 0, none⟩) [7] := fun W => by rw [World.size_alloc]; exact Row.new W [7]
  have r4 : ∀ W : World, Row (W.alloc (.cells #[.int .i64 3, .int .i64 (-2), .int .i64 1] 3)) (W.alloc (.cells #[.int .i64 3, .int .i64 (-2), .int .i64 1] 3)).heap.size (some ⟨W.heap.size, 0, none⟩) [3, -2, 1] := fun W => by rw [World.size_alloc]; exact Row.new W [3, -2, 1]
  have c1 : ∀ W : World, Calls Try.prog 16 #[.int .i64 1, .slice (some ⟨W.heap.size, 0, none⟩) 4 4] (W.alloc (.cells #[.int .i64 (-50), .int .i64 2, .int .i64 4, .int .i64 90] 3)) fun e w' => e = .returned (.tuple #[.int .i64 3, .int .i64 0]) ∧ Below (W.alloc (.cells #[.int .i64 (-50), .int .i64 2, .int .i64 4, .int .i64 90] 3)).heap.size (W.alloc (.cells #[.int .i64 (-50), .int .i64 2, .int .i64 4, .int .i64 90] 3)) w' := fun W => by
    have := middle_any 1 _ 4 _ _ (r1 W) (by decide)
    rw [show midV 1 [-50, 2, 4, 90] = 3 from by decide, show midE 1 [-50, 2, 4, 90] = 0 from by decide] at this
    exact this
  have c2 : ∀ W : World, Calls Try.prog 16 #[.int .i64 1, .slice (some ⟨W.heap.size, 0, none⟩) 2 2] (W.alloc (.cells #[.int .i64 1, .int .i64 2] 3)) fun e w' => e = .returned (.tuple #[.int .i64 0, .int .i64 3]) ∧ Below (W.alloc (.cells #[.int .i64 1, .int .i64 2] 3)).heap.size (W.alloc (.cells #[.int .i64 1, .int .i64 2] 3)) w' := fun W => by
    have := middle_any 1 _ 2 _ _ (r2 W) (by decide)
    rw [show midV 1 [1, 2] = 0 from by decide, show midE 1 [1, 2] = 3 from by decide] at this
    exact this
  have c3 : ∀ W : World, Calls Try.prog 18 #[.int .i64 10, .int .i64 0, .int .i64 5, .slice (some ⟨W.heap.size, 0, none⟩) 1 1] (W.alloc (.cells #[.int .i64 7] 3)) fun e w' => e = .returned (.int .i64 15) ∧ Below (W.alloc (.cells #[.int .i64 7] 3)).heap.size (W.alloc (.cells #[.int .i64 7] 3)) w' := fun W => by
    have := correct_any 10 0 5 (by decide) _ 1 _ _ (r3 W) (by decide)
    rw [show corrI 10 0 5 [7] = 15 from by unfold corrI; rw [if_pos (by decide), w64 _ (by decide) (by decide)]; decide] at this
    exact this
  have c4 : ∀ W : World, Calls Try.prog 20 #[.slice (some ⟨W.heap.size, 0, none⟩) 3 3] (W.alloc (.cells #[.int .i64 3, .int .i64 (-2), .int .i64 1] 3)) fun e w' => e = .returned (.int .i64 5) ∧ Below (W.alloc (.cells #[.int .i64 3, .int .i64 (-2), .int .i64 1] 3)).heap.size (W.alloc (.cells #[.int .i64 3, .int .i64 (-2), .int .i64 1] 3)) w' := fun W => by
    have := spread_any _ 3 _ _ _ (r4 W) (Nat.le_refl _) (by decide)
    rw [show spreadI [3, -2, 1] = 5 from by unfold spreadI; rw [if_neg (by decide), w64 _ (by decide) (by decide)]; decide] at this
    exact this
  have c5 := fun W => elapsed_any 1000000 (-3) W
  rw [show elV 1000000 (-3) = 999997 from by decide, show elE 1000000 (-3) = 0 from by decide] at c5
  have c6 := fun W => elapsed_any (-1) 0 W
  rw [show elV (-1) 0 = 0 from by decide, show elE (-1) 0 = 1 from by decide] at c6
  have c7 := fun W => macro_any (-1) 10 W
  rw [show maV (-1) 10 = -1 from by decide, show maR (-1) 10 = 9 from by decide, show maE (-1) 10 = 0 from by decide] at c7
  have C1 := Lib.hid c1
  have C2 := Lib.hid c2
  have C3 := Lib.hid c3
  have C4 := Lib.hid c4
  have C5 := Lib.hid c5
  have C6 := Lib.hid c6
  have C7 := Lib.hid c7
  have HA : Hid (∀ (W : World) (o : Obj), Below W.heap.size W (W.alloc o)) := Lib.hid (fun W o => Joins.below_alloc1 W o)
  clear c1 c2 c3 c4 c5 c6 c7 r1 r2 r3 r4
  go_enter Try.func10, Try.ntmps10
  go_wp2_with fail; refine (C1.out _).mono ?_; rintro e v1 ⟨rfl, b⟩
  have B1 := Lib.hid ((HA.out w _).trans (b.mono (HA.out w _).size)); clear b
  have D1 := B1; clear B1
  go_wp2_with fail; refine (C5.out _).mono ?_; rintro e v2 ⟨rfl, b⟩
  have B2 := Lib.hid b; clear b
  have D2 := Lib.hid (D1.out.trans (B2.out.mono D1.out.size)); clear B2 D1
  go_wp2_with fail; refine (C7.out _).mono ?_; rintro e v3 ⟨rfl, b⟩
  have B3 := Lib.hid b; clear b
  have D3 := Lib.hid (D2.out.trans (B3.out.mono D2.out.size)); clear B3 D2
  go_wp2_with fail; refine (C2.out _).mono ?_; rintro e v4 ⟨rfl, b⟩
  have B4 := Lib.hid ((HA.out v3 _).trans (b.mono (HA.out v3 _).size)); clear b
  have D4 := Lib.hid (D3.out.trans (B4.out.mono D3.out.size)); clear B4 D3
  go_wp2_with fail; refine (C6.out _).mono ?_; rintro e v5 ⟨rfl, b⟩
  have B5 := Lib.hid b; clear b
  have D5 := Lib.hid (D4.out.trans (B5.out.mono D4.out.size)); clear B5 D4
  go_wp2_with fail; refine (C3.out _).mono ?_; rintro e v6 ⟨rfl, b⟩
  have B6 := Lib.hid ((HA.out v5 _).trans (b.mono (HA.out v5 _).size)); clear b
  have D6 := Lib.hid (D5.out.trans (B6.out.mono D5.out.size)); clear B6 D5
  go_wp2_with fail; refine (C4.out _).mono ?_; rintro e v7 ⟨rfl, b⟩
  have B7 := Lib.hid ((HA.out v6 _).trans (b.mono (HA.out v6 _).size)); clear b
  have D7 := Lib.hid (D6.out.trans (B7.out.mono D6.out.size)); clear B7 D6
  go_wp2_with fail
  go_ret
  exact ⟨rfl, D7.out⟩

end Go.Proofs.Ytllbhbekpnmlnaa

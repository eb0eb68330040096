/-
  The walk of the law CrcTells: sums, closed texts and bursts are as the document's own answers say.
-/
import Derived.Test.YtnalfgijjbofeaaCrcRefB
namespace Go.Proofs.Ytnalfgijjbofeaa
open Go.RowKit

/-- One of three. -/
def three (X Y Z : ByteArray) : Nat → ByteArray
  | 0 => X
  | 1 => Y
  | _ => Z
theorem three_size (X Y Z : ByteArray) (j : Nat) (hX : X.size ≤ 302) (hY : Y.size ≤ 302) (hZ : Z.size ≤ 302) : (three X Y Z j).size ≤ 302 := by
  unfold three
  split <;> assumption

set_option maxHeartbeats 4000000 in
set_option maxRecDepth 100000 in
theorem crcTells_walk (a0 : Int) (a1 : ByteArray) (a2 a3 : Int) (_w0 : (Lit.int .i64 a0).wf = true) (_w1 : a1.size ≤ 140737488351232) (w2 : (Lit.int .i64 a2).wf = true) (_w3 : (Lit.int .i64 a3).wf = true) (w : World) :
    Calls Try.prog 3 #[.int .i64 a0, .string a1, .int .i64 a2, .int .i64 a3] w fun e w' => e = .returned (.bool true) ∧ Below w.heap.size w w' := by
  obtain ⟨X, hX, _, kx⟩ := cut_text a1
  have hXm : X.size ≤ maxLen := by unfold maxLen; omega
  have c1 := fun w => add_any a0 X w hXm
  have c2 := fun w => refAdd_any a0 X w hXm
  generalize (Crc16.add (reg a0) X.data.toList).toNat = N1 at c1 c2
  have c3 := fun w => sum_any X w hXm
  have c4 := fun w => refSum_any X w hXm
  generalize (Crc16.sum X.data.toList).toNat = N2 at c3 c4
  have c5 := fun w => close_any X w (by omega)
  have c6 := fun w => refClose_any X w (by omega)
  obtain ⟨Y, hY⟩ : ∃ Y, Y = txt (Crc16.close X.data.toList) := ⟨_, rfl⟩
  rw [← hY] at c5 c6
  have hYs : Y.size ≤ 302 := by rw [hY, txt_size, close_length, ← Lib.size_eq]; omega
  have c7 := fun w => refBurst_any Y a2 a3 w (by omega)
  obtain ⟨Z, hZ⟩ : ∃ Z, Z = txt (burstI Y.data.toList a2 a3) := ⟨_, rfl⟩
  rw [← hZ] at c7
  have hZs : Z.size ≤ 302 := by rw [hZ, txt_size, burstI_length, ← Lib.size_eq]; exact hYs
  clear hY hZ
  have C1 := Lib.hid c1; clear c1
  have C2 := Lib.hid c2; clear c2
  have C3 := Lib.hid c3; clear c3
  have C4 := Lib.hid c4; clear c4
  have C5 := Lib.hid c5; clear c5
  have C6 := Lib.hid c6; clear c6
  have C7 := Lib.hid c7; clear c7
  have W2 := Lib.hid w2; clear w2
  go_enter Try.func3, Try.ntmps3
  go_wp2_with fail
  refine (awake_any _).mono ?_
  rintro e w1 ⟨rfl, hb1⟩
  go_wp2_with fail
  refine (C1.out _).mono ?_
  rintro e w2 ⟨rfl, rfl⟩
  go_wp2_with fail
  refine (C2.out _).mono ?_
  rintro e w2 ⟨rfl, rfl⟩
  go_wp2_with fail
  refine (C3.out _).mono ?_
  rintro e w2 ⟨rfl, rfl⟩
  go_wp2_with fail
  refine (C4.out _).mono ?_
  rintro e w2 ⟨rfl, rfl⟩
  go_wp2_with fail
  refine (C5.out _).mono ?_
  rintro e w2 ⟨rfl, hb2⟩
  go_wp2_with fail
  refine (C6.out _).mono ?_
  rintro e w3 ⟨rfl, hb3⟩
  go_wp2_with fail
  refine (C6.out _).mono ?_
  rintro e w4 ⟨rfl, hb4⟩
  go_wp2_with fail
  refine (C6.out _).mono ?_
  rintro e w5 ⟨rfl, hb5⟩
  go_wp2_with fail
  refine (C7.out _).mono ?_
  rintro e w6 ⟨rfl, hb6⟩
  have z1 := hb1.size
  have z2 := hb2.size
  have z3 := hb3.size
  have z4 := hb4.size
  have z5 := hb5.size
  have y6 : Below w.heap.size w w6 := ((((hb1.trans (hb2.mono (by omega))).trans (hb3.mono (by omega))).trans (hb4.mono (by omega))).trans (hb5.mono (by omega))).trans (hb6.mono (by omega))
  clear hb1 hb2 hb3 hb4 hb5 hb6 z1 z2 z3 z4 z5
  clear w1 w2 w3 w4 w5
  go_wp2_with fail
  obtain ⟨H, hH⟩ : ∃ H, H = w6.heap.size := ⟨_, rfl⟩
  have hcells : ∀ j, j < 3 → (w6.alloc (.cells #[.string X, .string Y, .string Z] 9)).cell? ⟨H, j, none⟩ = some (.string (three X Y Z j)) := by
    intro j hj
    rw [hH, cell_of_row _ _ _ _ 9 (0, 0) (heap_alloc_new w6 _)]
    have : j = 0 ∨ j = 1 ∨ j = 2 := by omega
    rcases this with rfl | rfl | rfl <;> rfl
  have hbl : Below w.heap.size w (w6.alloc (.cells #[.string X, .string Y, .string Z] 9)) := y6.alloc y6.size _
  have hsz : H < (w6.alloc (.cells #[.string X, .string Y, .string Z] 9)).heap.size := by rw [hH]; simp
  have HC := Lib.hid hcells; clear hcells
  have HB := Lib.hid hbl; clear hbl
  have HS := Lib.hid hsz; clear hsz
  have hwH : w.heap.size ≤ H := by rw [hH]; exact y6.size
  rw [← hH]
  clear hH y6
  have hX2 : X.size ≤ 302 := by omega
  go_loopw [55] (fun v wr => ∃ i : Nat, i ≤ 3 ∧ v = .int .i64 i ∧ Below w.heap.size w wr ∧ H < wr.heap.size ∧ (∀ j, j < 3 → wr.cell? ⟨H, j, none⟩ = some (.string (three X Y Z j)))) (fun v _ => 3 - (intOf v).toNat)
  case atStart => exact ⟨0, by omega, rfl, HB.out, HS.out, HC.out⟩
  case round =>
    obtain ⟨i, hi, rfl, hBel, hSz, hCell⟩ := hrel
    have HBel := Lib.hid hBel; clear hBel
    have HSz := Lib.hid hSz; clear hSz
    have HCell := Lib.hid hCell; clear hCell
    by_cases hlt : i < 3
    · have hys := three_size X Y Z i hX2 hYs hZs
      have hc := HCell.out i hlt
      obtain ⟨y, hy⟩ : ∃ y, y = three X Y Z i := ⟨_, rfl⟩
      rw [← hy] at hys hc
      clear hy
      have d1 := fun w => open_any y w (by omega)
      have d2 := fun w => refOpen_any y w (by omega)
      generalize txt (opened y.data.toList) = O at d1 d2
      generalize isClosed y.data.toList = b at d1 d2
      have pk := pickI_range a2 (8 * (y.size : Int) + 1) (by omega)
      obtain ⟨K, hK⟩ : ∃ K : Nat, pickI a2 (8 * (y.size : Int) + 1) = (K : Int) := ⟨(pickI a2 (8 * (y.size : Int) + 1)).toNat, by omega⟩
      have d3 := fun w => pick_any a2 (8 * (y.size : Int) + 1) W2.out (by omega) w
      rw [hK] at d3
      clear pk hK
      have d4 := fun w => burst_any y a2 a3 w (by omega)
      have d5 := fun w => refBurst_any y a2 a3 w (by omega)
      generalize txt (burstI y.data.toList a2 a3) = T1 at d4 d5
      have d6 := fun w => burst_any y (K : Int) a3 w (by omega)
      have d7 := fun w => refBurst_any y (K : Int) a3 w (by omega)
      generalize txt (burstI y.data.toList (K : Int) a3) = T2 at d6 d7
      have D1 := Lib.hid d1; clear d1
      have D2 := Lib.hid d2; clear d2
      have D3 := Lib.hid d3; clear d3
      have D4 := Lib.hid d4; clear d4
      have D5 := Lib.hid d5; clear d5
      have D6 := Lib.hid d6; clear d6
      have D7 := Lib.hid d7; clear d7
      go_wp2_with fail
      refine (D1.out _).mono ?_
      rintro e v1 ⟨rfl, hb1⟩
      go_wp2_with fail
      refine (D2.out _).mono ?_
      rintro e v2 ⟨rfl, hb2⟩
      go_wp2_with fail
      refine (D3.out _).mono ?_
      rintro e v3 ⟨rfl, rfl⟩
      go_wp2_with fail
      refine (D4.out _).mono ?_
      rintro e v3 ⟨rfl, hb3⟩
      go_wp2_with fail
      refine (D5.out _).mono ?_
      rintro e v4 ⟨rfl, hb4⟩
      go_wp2_with fail
      refine (D6.out _).mono ?_
      rintro e v5 ⟨rfl, hb5⟩
      go_wp2_with fail
      refine (D7.out _).mono ?_
      rintro e v6 ⟨rfl, hb6⟩
      go_wp2_with fail
      have z1 := hb1.size
      have z2 := hb2.size
      have z3 := hb3.size
      have z4 := hb4.size
      have z5 := hb5.size
      have z6 := hb6.size
      have x6 : Below wr.heap.size wr v6 := ((((hb1.trans (hb2.mono (by omega))).trans (hb3.mono (by omega))).trans (hb4.mono (by omega))).trans (hb5.mono (by omega))).trans (hb6.mono (by omega))
      have hs6 := HSz.out
      go_roundw
      case rel => exact ⟨i + 1, by omega, by go_num, HBel.out.trans (x6.mono HBel.out.size), by omega, fun j hj => (x6.cell (p := ⟨H, j, none⟩) hs6).trans (HCell.out j hj)⟩
      case measure => simp [intOf]; omega
    · go_wp2_with fail
      go_ret
      exact ⟨rfl, HBel.out⟩

end Go.Proofs.Ytnalfgijjbofeaa

/-
  Layer 9: the law BusPasses.
-/
import Derived.Test.YtmmbnjkdknnidaaGreatDoorBusAwakeT
namespace Go.Proofs.YtmmbnjkdknnidaaGreatDoor
open Go.RowKit Go.Shelf
def cut300 (s : ByteArray) : ByteArray := txt (s.data.toList.take 300)
theorem cut300_size (s : ByteArray) : (cut300 s).size ≤ 300 := by
 unfold cut300; rw [txt_size, List.length_take]; omega
theorem cut300_min (s : ByteArray) : s.extract 0 (min (s.size : Int) 300).toNat = cut300 s := by
 unfold cut300
 rw [Lib.extract_eq, List.drop_zero, Nat.sub_zero]
 by_cases h : s.size ≤ 300
 ·rw [show (min (s.size : Int) 300).toNat = s.size by omega, List.take_of_length_le (by rw [← Lib.size_eq]; omega), List.take_of_length_le (by rw [← Lib.size_eq]; omega)]; rfl
 ·rw [show (min (s.size : Int) 300).toNat = 300 by omega]; rfl
theorem spoil_twice (l : List UInt8) (p m : Int) (hp : 0 ≤ p) : spoilT (spoilT l p m) p m = l ∧ (spoilT l p m).length = l.length := by
 unfold spoilT
 by_cases h : l = []
 ·rw [if_pos h, if_pos rfl, h]; exact ⟨rfl, rfl⟩
 ·rw [if_neg h]
  have hl := C.burstI_length l (p.tmod (8 * (l.length : Int))) m
  have hne : C.burstI l (p.tmod (8 * (l.length : Int))) m ≠ [] := fun e => by
   rw [e] at hl
   exact h (List.length_eq_zero_iff.1 hl.symm)
  rw [if_neg hne, hl]
  obtain ⟨k, hk⟩ : ∃ k : Nat, p.tmod (8 * (l.length : Int)) = (k : Int) := ⟨(p.tmod (8 * (l.length : Int))).toNat, by have := Int.tmod_nonneg (8 * (l.length : Int)) hp; omega⟩
  rw [hk, C.burstI_nat, C.burstI_nat, Crc16.burst_twice]
  exact ⟨rfl, by first | rfl | (rw [← C.burstI_nat, C.burstI_length])⟩
theorem pass2_eq (x : ByteArray) {p m : Int} (h : mayB 2 p m = true) : passS x 2 p m = C.txt (spoilT x.data.toList p m) := by
 unfold passS
 rw [if_pos h, if_neg (by decide), if_neg (by decide)]
theorem pass_2 (x : ByteArray) (p m : Int) (hp : 0 ≤ p ∧ p ≤ 65535) (hm : 0 ≤ m ∧ m ≤ 65535) : passB 2 p m = true ∧ passS (passS x 2 p m) 2 p m = x ∧ (passS x 2 p m).size = x.size := by
 have h := mayB_ok (k := 2) (a := p) (m := m) ⟨.inr (.inr rfl), hp, hm⟩
 obtain ⟨e1, e2⟩ := spoil_twice x.data.toList p m hp.1
 refine ⟨by unfold passB; rw [h]; rfl, ?_, ?_⟩
 ·rw [pass2_eq x h, pass2_eq _ h, C.txt_data, e1]
  rfl
 ·rw [pass2_eq x h, C.txt_size, e2, Lib.size_eq]
theorem pass_01 (x : ByteArray) (p m : Int) (hp : 0 ≤ p ∧ p ≤ 65535) (hm : 0 ≤ m ∧ m ≤ 65535) : passS x 0 p m = x ∧ passB 0 p m = true ∧ passS x 1 p m = noS ∧ passB 1 p m = false := by
 have h0 := mayB_ok (k := 0) (a := p) (m := m) ⟨.inl rfl, hp, hm⟩
 have h1 := mayB_ok (k := 1) (a := p) (m := m) ⟨.inr (.inl rfl), hp, hm⟩
 refine ⟨by unfold passS; rw [if_pos h0, if_pos rfl], by unfold passB; rw [h0]; rfl, by unfold passS; rw [if_pos h1, if_neg (by decide), if_pos rfl], by unfold passB; rw [h1]; rfl⟩
set_option maxRecDepth 100000 in
set_option maxHeartbeats 4000000 in
theorem busPasses_walk (a0 : ByteArray) (a1 a2 : Int) (z0 : a0.size ≤ 140737488351232) (w1 : (Lit.int .i64 a1).wf = true) (w2 : (Lit.int .i64 a2).wf = true) (w : World) (L : Laid w) :
  Calls Tryz.prog 12 #[.string a0, .int .i64 a1, .int .i64 a2] w fun e w' => e = .returned (.bool true) ∧ Below w.heap.size w w' := by
 have P1 := Lib.hid (fun W => pick9_any a1 65536 w1 (by omega) W)
 have P2 := Lib.hid (fun W => pick9_any a2 65536 w2 (by omega) W)
 obtain ⟨p0, p1⟩ := pickI_range a1 65536 (by omega)
 obtain ⟨m0, m1⟩ := pickI_range a2 65536 (by omega)
 generalize pickI a1 65536 = p at *
 generalize pickI a2 65536 = m at *
 have hcut := cut300_min a0
 have hsz := cut300_size a0
 generalize hX : cut300 a0 = X at *
 obtain ⟨b1, b2, b3⟩ := pass_2 X p m ⟨p0, by omega⟩ ⟨m0, by omega⟩
 obtain ⟨b4, b5, b6, b7⟩ := pass_01 X p m ⟨p0, by omega⟩ ⟨m0, by omega⟩
 have c1 := fun W => passP_any X 2 p m (by omega) W
 have c2 := fun W => passP_any (passS X 2 p m) 2 p m (by omega) W
 have c3 := fun W => passP_any X 0 p m (by omega) W
 have c4 := fun W => passP_any X 1 p m (by omega) W
 have c5 := fun W => may9_any 2 p m W
 rw [mayB_ok ⟨.inr (.inr rfl), ⟨p0, by omega⟩, m0, by omega⟩] at c5
 rw [b1] at c1
 rw [b1, b2] at c2
 rw [b4, b5] at c3
 rw [b6, b7] at c4
 generalize passS X 2 p m = Y at *
 have hYX : ((Y.size : Int) == (X.size : Int)) = true := by rw [b3]; simp
 have C1 := Lib.hid c1
 have C2 := Lib.hid c2
 have C3 := Lib.hid c3
 have C4 := Lib.hid c4
 have C5 := Lib.hid c5
 have HCUT := Lib.hid hcut
 have CAW := Lib.hid (fun W (h : Laid W) => awake9_any W h)
 have HL := Lib.hid L
 clear c1 c2 c3 c4 c5 b1 b2 b3 b4 b5 b6 b7 w1 w2 hX L hcut
 go_enter Tryz.func12, Tryz.ntmps12
 go_wp2_with fail
 refine (CAW.out _ HL.out).mono ?_; rintro e v1 ⟨rfl, b⟩
 have HB := Lib.hid b; clear b
 go_upto_region 3 with fail
 rw [HCUT.out]
 go_wp2_with fail
 (with_reducible refine (P1.out _).mono ?_); rintro e v2 ⟨rfl, rfl⟩
 go_wp2_with fail
 (with_reducible refine (P2.out _).mono ?_); rintro e v2 ⟨rfl, rfl⟩
 have hA := FltAt.new v1 2 p m
 have hb1 := Joins.below_alloc1 v1 (.cells #[.int .i64 2, .int .i64 p, .int .i64 m] 61)
 replace HB := Lib.hid (HB.out.trans (hb1.mono HB.out.size))
 have HA := Lib.hid hA
 obtain ⟨y0, y1, y2⟩ := hA.cells
 clear hA hb1
 go_wp2_with fail
 (with_reducible refine (C1.out _).mono ?_); rintro e u1 ⟨rfl, b⟩
 replace HB := Lib.hid (HB.out.trans (b.mono HB.out.size))
 replace HA := Lib.hid (HA.out.on b)
 clear y0 y1 y2 b
 obtain ⟨y0, y1, y2⟩ := HA.out.cells
 go_wp2_with fail
 (with_reducible refine (C2.out _).mono ?_); rintro e u2 ⟨rfl, b⟩
 replace HB := Lib.hid (HB.out.trans (b.mono HB.out.size))
 replace HA := Lib.hid (HA.out.on b)
 clear y0 y1 y2 b
 obtain ⟨y0, y1, y2⟩ := HA.out.cells
 go_wp2_with fail
 (with_reducible refine (C3.out _).mono ?_); rintro e u3 ⟨rfl, b⟩
 replace HB := Lib.hid (HB.out.trans (b.mono HB.out.size))
 replace HA := Lib.hid (HA.out.on b)
 clear y0 y1 y2 b
 obtain ⟨y0, y1, y2⟩ := HA.out.cells
 go_wp2_with fail
 (with_reducible refine (C4.out _).mono ?_); rintro e u4 ⟨rfl, b⟩
 replace HB := Lib.hid (HB.out.trans (b.mono HB.out.size))
 replace HA := Lib.hid (HA.out.on b)
 clear y0 y1 y2 b
 obtain ⟨y0, y1, y2⟩ := HA.out.cells
 have hno : noS.toList = [] := by rw [ByteArray.toList_eq]; rfl
 go_wp2_with fail
 (with_reducible refine (C5.out _).mono ?_); rintro e u5 ⟨rfl, b⟩
 replace HB := Lib.hid (HB.out.trans (b.mono HB.out.size))
 go_wp2_with fail
 go_ret
 exact ⟨rfl, HB.out⟩
end Go.Proofs.YtmmbnjkdknnidaaGreatDoor

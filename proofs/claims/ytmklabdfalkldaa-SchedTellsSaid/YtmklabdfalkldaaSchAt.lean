/-
  Where a time stands, and the time that a spot is, by the program.
-/
import Derived.Test.YtmklabdfalkldaaSchSeek
namespace Go.Proofs.Ytmklabdfalkldaa
open Go.RowKit

theorem SpAt.frozen {w : World} {b : Nat} {s : Spot} (h : SpAt w b s) (i : Nat) : w.frozen? ⟨b, i, none⟩ = false := by simp [World.frozen?, show w.heap[b]? = _ from h]
theorem set_blk {w : World} {b : Nat} {C : Array Value} {T : TypeId} (h : w.heap[b]? = some (.cells C T (0, 0))) (i : Nat) (v : Value) : (w.setCell ⟨b, i, none⟩ v).heap[b]? = some (.cells (C.setIfInBounds i v) T (0, 0)) := by
  simp [World.setCell, Array.getElem?_modify, h]
/-- The spot of a block, set anew, field by field. -/
def putS (w : World) (b : Nat) (s : Spot) : World := (((w.setCell ⟨b, 0, none⟩ (.int .i64 s.cyc)).setCell ⟨b, 1, none⟩ (.int .i64 s.rnd)).setCell ⟨b, 2, none⟩ (.int .i64 s.slt)).setCell ⟨b, 3, none⟩ (.int .i64 s.tck)
theorem putS_at {w : World} {b : Nat} {s : Spot} (h : SpAt w b s) (s' : Spot) : SpAt (putS w b s') b s' :=
  set_blk (set_blk (set_blk (set_blk h 0 (.int .i64 s'.cyc)) 1 (.int .i64 s'.rnd)) 2 (.int .i64 s'.slt)) 3 (.int .i64 s'.tck)
theorem putS_below {B : Nat} {a w : World} (h : Below B a w) {b : Nat} (hb : B ≤ b) (s : Spot) : Below B a (putS w b s) :=
  (((h.setCell (p := ⟨b, 0, none⟩) hb _).setCell (p := ⟨b, 1, none⟩) hb _).setCell (p := ⟨b, 2, none⟩) hb _).setCell (p := ⟨b, 3, none⟩) hb _
theorem putS_far {w : World} {b : Nat} (s : Spot) {k : Nat} (h : k ≠ b) : (putS w b s).heap[k]? = w.heap[k]? :=
  (Below.heap_setCell _ _ _ _ h).trans ((Below.heap_setCell _ _ _ _ h).trans ((Below.heap_setCell _ _ _ _ h).trans (Below.heap_setCell _ _ _ _ h)))
theorem putS_size {w : World} {b : Nat} (s : Spot) : (putS w b s).heap.size = w.heap.size := by unfold putS; simp

theorem atV_of {l : Pl} {c t : Int} (h : atB l c t = true) : atV l c t = spotS l c t ∧ atE l c t = 0 := by unfold atV atE; rw [h]; exact ⟨rfl, rfl⟩
theorem atV_no {l : Pl} {c t : Int} (h : atB l c t = false) : atV l c t = zeroSp ∧ atE l c t = 1 := by unfold atV atE; rw [h]; exact ⟨rfl, rfl⟩
theorem div_le {t S : Int} (h0 : 0 ≤ t) (h1 : 2 ≤ S) : 0 ≤ t / S ∧ t / S ≤ t := ⟨Int.ediv_nonneg h0 (by omega), Int.ediv_le_self _ h0⟩

set_option maxRecDepth 100000 in
set_option maxHeartbeats 2000000 in
theorem at_any (A : Option Addr) (cp : Nat) (c : Int) (l : Pl) (hlm : l.length ≤ maxLen) (t : Int) (w : World) (hS : Sls w w.heap.size A l) :
    Calls Try.prog 21 #[pv A l.length cp c, .int .i64 t] w fun e w' => e = .returned (.tuple #[sv (atV l c t), .int .i64 (atE l c t)]) ∧ Below w.heap.size w w' := by
  have hB := Joins.below_alloc2 w (.cells #[.slice A l.length cp, .int .i64 c] 25) (.cells #[.int .i64 0, .int .i64 0, .int .i64 0, .int .i64 0] 27)
  have hP := (PlAt.new w A l.length cp c).on (Joins.below_alloc1 _ (.cells #[.int .i64 0, .int .i64 0, .int .i64 0, .int .i64 0] 27))
  have hZ := Boxed.new (w.alloc (.cells #[.slice A l.length cp, .int .i64 c] 25)) 3 (.int .i64 0)
  clear hZ
  have hZ := SpAt.new (w.alloc (.cells #[.slice A l.length cp, .int .i64 c] 25)) zeroSp
  rw [World.size_alloc] at hZ
  have hS0 := (hS.below hB (Nat.le_refl _)).more hB.size
  have cr := right_any A cp c l hlm _ hS0
  have HB := Lib.hid hB; clear hB hS
  have HZ := Lib.hid hZ; clear hZ
  have cw := fun W => within_any 0 1099511627776 t W
  obtain ⟨y0, y1⟩ := hP.cells
  cases hA : atB l c t
  · obtain ⟨ev, ee⟩ := atV_no hA
    rw [ev, ee]
    clear ev ee
    cases hR : rightS l c
    · rw [hR] at cr
      go_enter Try.func21, Try.ntmps21
      go_wp2_with fail
      refine cr.mono ?_; rintro e w1 ⟨rfl, b1⟩
      have z1 := HZ.out.on b1
      have f0 := z1.frozen 0
      have f1 := z1.frozen 1
      have f2 := z1.frozen 2
      have f3 := z1.frozen 3
      obtain ⟨z2, z3, z4, z5⟩ := z1.cells
      have HB1 := Lib.hid (HB.out.trans (b1.mono HB.out.size))
      clear y0 y1
      go_wp2_with fail
      have p1 := (putS_at z1 zeroSp).cells
      have p2 := putS_below HB1.out (b := w.heap.size + 1) (by omega) zeroSp
      obtain ⟨q0, q1, q2, q3⟩ := p1
      show bodyPost _ _ _ _ _ (putS w1 (w.heap.size + 1) zeroSp)
      generalize putS w1 (w.heap.size + 1) zeroSp = V at *
      exact bodyPost_ret (v := .tuple #[sv zeroSp, .int .i64 1]) (by simp [results, Try.results21, go_sem, q0, q1, q2, q3]) rfl ⟨rfl, p2⟩
    · rw [hR] at cr
      have hw : withinB 0 1099511627776 t = false := by
        have h := hA
        unfold atB at h
        rw [hR, Bool.true_and] at h
        exact h
      rw [hw] at cw
      clear hA hR hw
      go_enter Try.func21, Try.ntmps21
      go_wp2_with fail
      refine cr.mono ?_; rintro e w1 ⟨rfl, b1⟩
      have z1 := HZ.out.on b1
      have f0 := z1.frozen 0
      have f1 := z1.frozen 1
      have f2 := z1.frozen 2
      have f3 := z1.frozen 3
      obtain ⟨z2, z3, z4, z5⟩ := z1.cells
      have HB1 := Lib.hid (HB.out.trans (b1.mono HB.out.size))
      clear y0 y1
      go_wp2_with fail
      refine (cw _).mono ?_; rintro e w2 ⟨rfl, rfl⟩
      go_wp2_with fail
      have p1 := (putS_at z1 zeroSp).cells
      have p2 := putS_below HB1.out (b := w.heap.size + 1) (by omega) zeroSp
      obtain ⟨q0, q1, q2, q3⟩ := p1
      show bodyPost _ _ _ _ _ (putS w1 (w.heap.size + 1) zeroSp)
      generalize putS w1 (w.heap.size + 1) zeroSp = V at *
      exact bodyPost_ret (v := .tuple #[sv zeroSp, .int .i64 1]) (by simp [results, Try.results21, go_sem, q0, q1, q2, q3]) rfl ⟨rfl, p2⟩
  · obtain ⟨ev, ee⟩ := atV_of hA
    rw [ev, ee]
    clear ev ee
    obtain ⟨hR, t0, t1⟩ := (atB_iff l c t).1 hA
    clear hA
    rw [hR] at cr
    have hw : withinB 0 1099511627776 t = true := (withinB_iff _ _ _).2 ⟨t0, t1⟩
    rw [hw] at cw
    clear hw
    have hs2 := rightS_sum hR
    have hcy := rightS_cyc hR
    have hl2 := rightS_len hR
    have CS := Lib.hid (fun W h => seek_any A cp c l hR t t0 t1 W h)
    obtain ⟨d0, d1⟩ := div_le t0 hs2.1
    have hk : 0 ≤ ((seekS l (t % sumS l)).1 : Int) ∧ ((seekS l (t % sumS l)).1 : Int) < 9007199254740992 := by
      obtain ⟨k, s', x, a1, -, -, -, e⟩ := seekS_is l (t % sumS l) (rightS_ticked hR) (Int.emod_nonneg _ (by omega)) (Int.emod_lt_of_pos _ (by omega))
      have := (List.getElem?_eq_some_iff.1 a1).1
      rw [e]; simp only; omega
    have t1' : t ≤ 1099511627776 := t1
    have CP := Lib.hid (fun W => spot_any A l.length cp c (t / sumS l) (seekS l (t % sumS l)).1 (seekS l (t % sumS l)).2 hcy ⟨d0, by omega⟩ (by omega) hk W)
    rw [show spotS l c t = ⟨t / sumS l / c, t / sumS l % c, (seekS l (t % sumS l)).1, (seekS l (t % sumS l)).2⟩ from rfl]
    generalize t / sumS l = q at *
    generalize ((seekS l (t % sumS l)).1 : Int) = k at *
    generalize (seekS l (t % sumS l)).2 = x at *
    have HS0 := Lib.hid hS0; clear hS0
    have HPP := Lib.hid hP; clear hP
    clear hR hk
    go_enter Try.func21, Try.ntmps21
    go_wp2_with fail
    refine cr.mono ?_; rintro e w1 ⟨rfl, b1⟩
    have HS1 := Lib.hid ((HS0.out.below b1 (Nat.le_refl _)).more b1.size)
    have HP1 := Lib.hid (HPP.out.on b1)
    have HZ1 := Lib.hid (HZ.out.on b1)
    have HB1 := Lib.hid (HB.out.trans (b1.mono HB.out.size))
    clear y0 y1 b1 cr
    obtain ⟨y0, y1⟩ := HP1.out.cells
    go_wp2_with fail
    refine (cw _).mono ?_; rintro e w2 ⟨rfl, rfl⟩
    go_wp2_with fail
    refine (CS.out _ HS1.out).mono ?_; rintro e w2 ⟨rfl, b2⟩
    have HS2 := Lib.hid ((HS1.out.below b2 (Nat.le_refl _)).more b2.size)
    have HP2 := Lib.hid (HP1.out.on b2)
    have HZ2 := Lib.hid (HZ1.out.on b2)
    have HB2 := Lib.hid (HB1.out.trans (b2.mono HB1.out.size))
    clear y0 y1 b2
    obtain ⟨y0, y1⟩ := HP2.out.cells
    go_wp2_with fail
    refine (CP.out _).mono ?_; rintro e w3 ⟨rfl, b3⟩
    have z1 := HZ2.out.on b3
    have f0 := z1.frozen 0
    have f1 := z1.frozen 1
    have f2 := z1.frozen 2
    have f3 := z1.frozen 3
    obtain ⟨z2, z3, z4, z5⟩ := z1.cells
    have HB3 := Lib.hid (HB2.out.trans (b3.mono HB2.out.size))
    clear y0 y1 b3
    go_wp2_with fail
    have p1 := (putS_at z1 ⟨q / c, q % c, k, x⟩).cells
    have p2 := putS_below HB3.out (b := w.heap.size + 1) (by omega) ⟨q / c, q % c, k, x⟩
    obtain ⟨q0, q1, q2, q3⟩ := p1
    show bodyPost _ _ _ _ _ (putS w3 (w.heap.size + 1) ⟨q / c, q % c, k, x⟩)
    generalize putS w3 (w.heap.size + 1) ⟨q / c, q % c, k, x⟩ = V at *
    exact bodyPost_ret (v := .tuple #[sv ⟨q / c, q % c, k, x⟩, .int .i64 0]) (by simp [results, Try.results21, go_sem, q0, q1, q2, q3]) rfl ⟨rfl, p2⟩
end Go.Proofs.Ytmklabdfalkldaa

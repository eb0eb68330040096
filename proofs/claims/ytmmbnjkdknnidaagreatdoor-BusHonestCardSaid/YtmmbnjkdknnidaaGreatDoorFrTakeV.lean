/-
  The part that bytes begin with, by the program.
-/
import Derived.Test.YtmmbnjkdknnidaaGreatDoorFrRightV
import Derived.Test.YtmmbnjkdknnidaaGreatDoorFragDecPV
set_option maxHeartbeats 2000000
set_option maxRecDepth 100000
namespace Go.Proofs.YtmmbnjkdknnidaaGreatDoor
open Go.RowKit
theorem takeP_no (s : ByteArray) (w : World) : Calls Tryz.prog 106 #[.bool false, .string s, .func (.func 107) #[] #[]] w fun e w' => e = .returned (.tuple #[.slice none 0 0, .string s]) ∧ w = w' := by
 go_enter Tryz.func106, Tryz.ntmps106
 go_wp2_with fail
 go_ret2
 exact ⟨rfl, rfl⟩
theorem takeE_no (s : ByteArray) (w : World) : Calls Tryz.prog 108 #[.bool false, .string s, .func (.func 109) #[] #[]] w fun e w' => e = .returned (.tuple #[.slice none 0 0, .string s]) ∧ w = w' := by
 go_enter Tryz.func108, Tryz.ntmps108
 go_wp2_with fail
 go_ret2
 exact ⟨rfl, rfl⟩
def Firm (b : Nat) (w : World) (Q : World → Prop) : Prop := ∀ W : World, (∀ k, b ≤ k → k < w.heap.size → W.heap[k]? = w.heap[k]?) → w.heap.size ≤ W.heap.size → Q W
theorem pcs_one {W : World} {g : Nat} {p : F.Pc} (h : F.PcAt W g p) : F.Pcs W W.heap.size (some ⟨g, 0, none⟩) [p] := fun _ => by
 refine ⟨_, rfl, (Array.getElem?_eq_some_iff.1 h).1, fun j x hx => ?_⟩
 have hj : j = 0 := by have := (List.getElem?_eq_some_iff.1 hx).1; simp at this; exact this
 subst hj
 have e : p = x := by simpa using hx
 subst e
 rw [show (⟨g, 0, none⟩ : Addr).add (0 * 4) = ⟨g, 0, none⟩ from by unfold Addr.add; rfl]
 exact h.cells
theorem ents_one {W : World} {g : Nat} {x : Ent} {A A' : Option Addr} {c c' : Nat} (h : EntAt W g x.t x.ep x.mem (.slice A x.incs.length c) (.slice A' x.msgs.length c')) (h1 : V.Row W W.heap.size A x.incs) (h2 : Msgs W W.heap.size A' x.msgs) : Ents W W.heap.size (some ⟨g, 0, none⟩) [x] := fun _ => by
 refine ⟨_, rfl, (Array.getElem?_eq_some_iff.1 h).1, fun j y hy => ?_⟩
 have hj : j = 0 := by have := (List.getElem?_eq_some_iff.1 hy).1; simp at this; exact this
 subst hj
 have e : x = y := by simpa using hy
 subst e
 rw [show (⟨g, 0, none⟩ : Addr).add (0 * 5) = ⟨g, 0, none⟩ from by unfold Addr.add; rfl]
 obtain ⟨c0, c1, c2, c3, c4⟩ := h.cells
 exact ⟨A, c, A', c', ⟨c0, by simpa using c1, by simpa using c2, by simpa using c3, by simpa using c4⟩, h1, h2⟩
theorem takeP_bad (s : ByteArray) (hs : s.size ≤ 1000) (h : F.decE s.data.toList ≠ 0) (w : World) : Calls Tryz.prog 106 #[.bool true, .string s, .func (.func 107) #[] #[]] w fun e w' => e = .panicked (upW (F.decE s.data.toList)) ∧ Below w.heap.size w w' := by
 have cd := F.decP_any s hs w
 unfold F.DecPost at cd
 have hz : ((F.decE s.data.toList : Int) == 0) = false := by simpa using h
 have cm := fun W => must_no (F.decE s.data.toList) W
 generalize F.decE s.data.toList = E at *
 generalize F.decR s.data.toList = p at *
 generalize F.decRest s.data.toList = r at *
 obtain ⟨m0, m1, m2, m3⟩ := p
 simp only [F.pv] at cd
 go_enter Tryz.func106, Tryz.ntmps106
 go_wp2_with fail; refine cd.mono ?_; rintro e w1 ⟨rfl, b1⟩
 have b2 := b1.trans ((Joins.below_alloc1 w1 (.cells #[.int .i64 m0, .int .i64 m1, .int .i64 m2, .string m3] 53)).mono b1.size)
 go_upto_region 4 with fail
 generalize w1.alloc (.cells #[.int .i64 m0, .int .i64 m1, .int .i64 m2, .string m3] 53) = w2 at *
 go_wp2_with fail; refine (cm _).mono ?_; rintro e w3 ⟨rfl, b3⟩
 exact ⟨rfl, rfl, b2.trans (b3.mono b2.size)⟩
theorem takeP_ok (s : ByteArray) (hs : s.size ≤ 1000) (h : F.decE s.data.toList = 0) (w : World) : Calls Tryz.prog 106 #[.bool true, .string s, .func (.func 107) #[] #[]] w fun e w' => ∃ A, e = .returned (.tuple #[.slice A 1 1, .string (F.decRest s.data.toList)]) ∧ Firm w.heap.size w' (fun W => F.Pcs W W.heap.size A [F.decR s.data.toList]) ∧ Below w.heap.size w w' := by
 have cd := F.decP_any s hs w
 unfold F.DecPost at cd
 rw [h] at cd
 have cm := fun W => must_yes 0 W
 generalize F.decR s.data.toList = p at *
 generalize F.decRest s.data.toList = r at *
 obtain ⟨m0, m1, m2, m3⟩ := p
 simp only [F.pv] at cd
 go_enter Tryz.func106, Tryz.ntmps106
 go_wp2_with fail; refine cd.mono ?_; rintro e w1 ⟨rfl, b1⟩
 have b2 := b1.trans ((Joins.below_alloc1 w1 (.cells #[.int .i64 m0, .int .i64 m1, .int .i64 m2, .string m3] 53)).mono b1.size)
 have hp := F.PcAt.new w1 ⟨m0, m1, m2, m3⟩
 simp only [F.pcl] at hp
 go_upto_region 4 with fail
 generalize w1.alloc (.cells #[.int .i64 m0, .int .i64 m1, .int .i64 m2, .string m3] 53) = w2 at *
 generalize w1.heap.size = g at *
 obtain ⟨y0, y1, y2, y3⟩ := hp.cells
 go_wp2_with fail; refine (cm _).mono ?_; rintro e w3 ⟨rfl, rfl⟩
 have b3 := b2.trans ((Joins.below_alloc1 w2 (.cells #[.int .i64 m0, .int .i64 m1, .int .i64 m2, .string m3] 53)).mono b2.size)
 have hq : Firm w.heap.size (w2.alloc (.cells #[.int .i64 m0, .int .i64 m1, .int .i64 m2, .string m3] 53)) (fun W => F.Pcs W W.heap.size (some ⟨w2.heap.size, 0, none⟩) [⟨m0, m1, m2, m3⟩]) := fun W hW _ => pcs_one ((hW w2.heap.size b2.size (by simp)).trans (F.PcAt.new w2 ⟨m0, m1, m2, m3⟩))
 have HB := Lib.hid b3
 have HQ := Lib.hid hq
 clear b1 b2 b3 hq hp
 go_wp2_with fail
 go_ret2
 exact ⟨_, rfl, HQ.out, HB.out⟩
theorem takeE_bad (s : ByteArray) (hs : s.size ≤ 1000) (h : decEE s.data.toList ≠ 0) (w : World) (L : Laid w) : Calls Tryz.prog 108 #[.bool true, .string s, .func (.func 109) #[] #[]] w fun e w' => e = .panicked (upW (decEE s.data.toList)) ∧ Below w.heap.size w w' := by
 have cd := decEP_any s (by omega) w L
 unfold DecEPost at cd
 have hz : ((decEE s.data.toList : Int) == 0) = false := by simpa using h
 have cm := fun W => must_no (decEE s.data.toList) W
 generalize decEE s.data.toList = E at *
 generalize decRE s.data.toList = x at *
 generalize decRestE s.data.toList = r at *
 go_enter Tryz.func108, Tryz.ntmps108
 go_wp2_with fail; refine cd.mono ?_; rintro e w1 ⟨u, v, rfl, hu, hv, b1⟩
 obtain ⟨A1, c1, rfl, -, -⟩ := V.Own.row hu
 obtain ⟨A2, c2, rfl, -, -⟩ := hv.row
 clear hu hv
 have b2 := b1.trans ((Joins.below_alloc1 w1 (.cells #[.int .i64 x.t, .int .i64 x.ep, .int .i64 x.mem, .slice A1 x.incs.length c1, .slice A2 x.msgs.length c2] 37)).mono b1.size)
 go_upto_region 4 with fail
 generalize w1.alloc (.cells #[.int .i64 x.t, .int .i64 x.ep, .int .i64 x.mem, .slice A1 x.incs.length c1, .slice A2 x.msgs.length c2] 37) = w2 at *
 go_wp2_with fail; refine (cm _).mono ?_; rintro e w3 ⟨rfl, b3⟩
 exact ⟨rfl, rfl, b2.trans (b3.mono b2.size)⟩
theorem takeE_ok (s : ByteArray) (hs : s.size ≤ 1000) (h : decEE s.data.toList = 0) (w : World) (L : Laid w) : Calls Tryz.prog 108 #[.bool true, .string s, .func (.func 109) #[] #[]] w fun e w' => ∃ A, e = .returned (.tuple #[.slice A 1 1, .string (txt (decRestE s.data.toList))]) ∧ Firm w.heap.size w' (fun W => Ents W W.heap.size A [decRE s.data.toList]) ∧ Below w.heap.size w w' := by
 have cd := decEP_any s (by omega) w L
 unfold DecEPost at cd
 rw [h] at cd
 have cm := fun W => must_yes 0 W
 generalize decRE s.data.toList = x at *
 generalize decRestE s.data.toList = r at *
 go_enter Tryz.func108, Tryz.ntmps108
 go_wp2_with fail; refine cd.mono ?_; rintro e w1 ⟨u, v, rfl, hu, hv, b1⟩
 obtain ⟨A1, c1, rfl, -, hr1⟩ := V.Own.row hu
 obtain ⟨A2, c2, rfl, -, hr2⟩ := hv.row
 have a1 := Joins.below_alloc1 w1 (.cells #[.int .i64 x.t, .int .i64 x.ep, .int .i64 x.mem, .slice A1 x.incs.length c1, .slice A2 x.msgs.length c2] 37)
 have b2 := b1.trans (a1.mono b1.size)
 have hp := EntAt.new w1 x.t x.ep x.mem (.slice A1 x.incs.length c1) (.slice A2 x.msgs.length c2)
 have hs1 : ∀ W : World, (∀ k, w.heap.size ≤ k → k < w1.heap.size → W.heap[k]? = w1.heap[k]?) → V.Own W w.heap.size (.slice A1 x.incs.length c1) x.incs := fun W hW => own_far hu fun g hg => hW g (hu.lt g hg).1 (hu.lt g hg).2
 have hs2 : ∀ W : World, (∀ k, w.heap.size ≤ k → k < w1.heap.size → W.heap[k]? = w1.heap[k]?) → OwnM W w.heap.size (.slice A2 x.msgs.length c2) x.msgs := fun W hW => own_far hv fun g hg => hW g (hv.lt g hg).1 (hv.lt g hg).2
 have a1k : ∀ k, k < w1.heap.size → (w1.alloc (.cells #[.int .i64 x.t, .int .i64 x.ep, .int .i64 x.mem, .slice A1 x.incs.length c1, .slice A2 x.msgs.length c2] 37)).heap[k]? = w1.heap[k]? := fun k hk => a1.block k hk
 have a1s := a1.size
 go_upto_region 4 with fail
 clear hu hv hr1 hr2 a1
 generalize w1.alloc (.cells #[.int .i64 x.t, .int .i64 x.ep, .int .i64 x.mem, .slice A1 x.incs.length c1, .slice A2 x.msgs.length c2] 37) = w2 at *
 obtain ⟨y0, y1, y2, y3, y4⟩ := hp.cells
 go_wp2_with fail; refine (cm _).mono ?_; rintro e w3 ⟨rfl, rfl⟩
 have a2 := Joins.below_alloc1 w2 (.cells #[.int .i64 x.t, .int .i64 x.ep, .int .i64 x.mem, .slice A1 x.incs.length c1, .slice A2 x.msgs.length c2] 37)
 have b3 := b2.trans (a2.mono b2.size)
 have hq : Firm w.heap.size (w2.alloc (.cells #[.int .i64 x.t, .int .i64 x.ep, .int .i64 x.mem, .slice A1 x.incs.length c1, .slice A2 x.msgs.length c2] 37)) (fun W => Ents W W.heap.size (some ⟨w2.heap.size, 0, none⟩) [x]) := fun W hW _ => by
  have hk : ∀ k, w.heap.size ≤ k → k < w1.heap.size → W.heap[k]? = w1.heap[k]? := fun k h1 h2 => (hW k h1 (by simp; omega)).trans ((a2.block k (by omega)).trans (a1k k h2))
  exact ents_one ((hW w2.heap.size b2.size (by simp)).trans (EntAt.new w2 x.t x.ep x.mem (.slice A1 x.incs.length c1) (.slice A2 x.msgs.length c2))) (own_slice (hs1 W hk)).2 (ownM_slice (hs2 W hk)).2
 have HB := Lib.hid b3
 have HQ := Lib.hid hq
 clear b1 b2 b3 hq hp a2 hs1 hs2 a1k a1s
 go_wp2_with fail
 go_ret2
 exact ⟨_, rfl, HQ.out, HB.out⟩
end Go.Proofs.YtmmbnjkdknnidaaGreatDoor

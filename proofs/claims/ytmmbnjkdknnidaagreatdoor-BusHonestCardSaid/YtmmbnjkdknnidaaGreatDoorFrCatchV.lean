/-
  What Decode does last: what went up is caught, and told as an error.
-/
import Derived.Defers
import Derived.Recover
import Derived.Test.YtmmbnjkdknnidaaGreatDoorFrHeadOfV
import Derived.Test.YtmmbnjkdknnidaaGreatDoorFrRightV
import Derived.Test.YtmmbnjkdknnidaaGreatDoorOncePhaseV
set_option maxHeartbeats 4000000
set_option maxRecDepth 100000
namespace Go.Proofs.YtmmbnjkdknnidaaGreatDoor
open Lib (hid)
open Go.RowKit
theorem recoverD_up {c₀ : Frame} {cs : List Frame} {v : Value} {older : List PanicEntry} (hu : c₀.mode = .panicking ({ v := v, recovered := false } :: older)) : ∃ c1 : Frame, c1 = { c₀ with mode := .panicking ({ v := v, recovered := true } :: older) } ∧ recoverD (c₀ :: cs) = some (v, c1 :: cs) := by
 refine ⟨_, rfl, ?_⟩
 cases c₀
 simp only at hu
 subst hu
 rfl
theorem recoverD_none {c₀ : Frame} {cs : List Frame} (hu : c₀.mode = .returning) : recoverD (c₀ :: cs) = none := by
 cases c₀
 simp only at hu
 subst hu
 rfl
theorem catch_up (bf be : Nat) (f : Fr) (u v : Value) (x E : Int) (older : List PanicEntry) (w : World) (hF : FrAt w bf f u v) (hE : Boxed w be 38 (.int .i64 x)) (hne : bf ≠ be) (B : Nat) (hB : B ≤ bf) (hB' : B ≤ be) :
  CallsD Tryz.prog 60 #[.pointer (some ⟨bf, 0, none⟩), .pointer (some ⟨be, 0, none⟩)] (.panicking ({ v := .iface 91 (.agg #[.int .i64 E]), recovered := false } :: older)) w fun e u' w' =>
   e = .returned (.tuple #[]) ∧ u' = .panicking ({ v := .iface 91 (.agg #[.int .i64 E]), recovered := true } :: older) ∧ FrAt w' bf zeroFr (.slice none 0 0) (.slice none 0 0) ∧ Boxed w' be 38 (.int .i64 E) ∧ Below B w w' := by
 have hTA : ∀ W, (Instr.typeAssert (.iface 91 (.agg #[.int .i64 E])) 20 91 true).run Tryz.prog W = .ok (.tuple #[.agg #[.int .i64 E], .bool true]) W := fun _ => by kernel_rfl
 refine callsD_of_wpS Tryz.func60 rfl fun c₀ cs hu => ?_
 apply wpS_seq
 apply wpS_region
 simp only [Tryz.ntmps60, List.size_toArray, List.length_cons, List.length_nil, Nat.reduceAdd, Nat.reduceSub, Array.replicate_succ, Array.replicate_zero, List.push_toArray, List.append_toArray, List.nil_append, List.cons_append]
 obtain ⟨c1, hc1, hc⟩ := recoverD_up (cs := cs) hu
 generalize hVV : Value.iface 91 (.agg #[.int .i64 E]) = VV at *
 have HTA := hid hTA
 have HVV := hid hVV
 have HC1 := hid hc1
 clear hTA hu hVV hc1
 have hta := HTA.out
 have HF := hid hF
 have HE := hid hE
 clear hF hE
 simp [wpOpsS, go_sem, hc, hta, Exit.thenS]
 clear hta hc HTA
 have hb := Joins.below_alloc1 w (.cells #[.int .i64 E] 91)
 have hW := Boxed.new w 91 (.int .i64 E)
 have hF1 := HF.out.on hb
 have hE1 : Boxed (w.alloc (.cells #[.int .i64 E] 91)) be 38 (.int .i64 x) := (hb.block _ HE.out.lt).trans HE.out
 have hlf : bf < w.heap.size := (Array.getElem?_eq_some_iff.1 HF.out).1
 have hle : be < w.heap.size := HE.out.lt
 have hB2 : Below B w (w.alloc (.cells #[.int .i64 E] 91)) := (Below.refl B w).alloc (by omega) _
 generalize w.alloc (.cells #[.int .i64 E] 91) = W1 at *
 generalize w.heap.size = g at *
 clear hb HF HE
 have HF := hid hF1
 have HE := hid hE1
 have HW := hid hW
 have HB := hid hB2
 clear hF1 hE1 hW hB2
 refine wpS_of_wp ?_
 go_wp2_with fail
 have HV : ∃ O : Nat → (Nat → Value) → World → Prop, O = (fun ix u wv => match ix with
  | 0 => u 0 = .agg #[.int .i64 0, .int .i64 0, .int .i64 0, .int .i64 0, .int .i64 0, .int .i64 0, .int .i64 0, .int .i64 0, .int .i64 0, .int .i64 0, .int .i64 0, .int .i64 0, .int .i64 0, .slice none 0 0, .slice none 0 0]
  | 1 => u 1 = .pointer (some ⟨g, 0, none⟩)
  | 2 => u 2 = .int .i64 E
  | 3 => FrAt wv bf zeroFr (.slice none 0 0) (.slice none 0 0)
  | 4 => Boxed wv be 38 (.int .i64 E)
  | _ => True) := ⟨_, rfl⟩
 obtain ⟨O, hd7⟩ := HV
 have O0 : ∀ u wv, O 0 u wv = (u 0 = .agg #[.int .i64 0, .int .i64 0, .int .i64 0, .int .i64 0, .int .i64 0, .int .i64 0, .int .i64 0, .int .i64 0, .int .i64 0, .int .i64 0, .int .i64 0, .int .i64 0, .int .i64 0, .slice none 0 0, .slice none 0 0]) := fun _ _ => by subst hd7; rfl
 have O1 : ∀ u wv, O 1 u wv = (u 1 = .pointer (some ⟨g, 0, none⟩)) := fun _ _ => by subst hd7; rfl
 have O2 : ∀ u wv, O 2 u wv = (u 2 = .int .i64 E) := fun _ _ => by subst hd7; rfl
 have O3 : ∀ u wv, O 3 u wv = (FrAt wv bf zeroFr (.slice none 0 0) (.slice none 0 0)) := fun _ _ => by subst hd7; rfl
 have O4 : ∀ u wv, O 4 u wv = (Boxed wv be 38 (.int .i64 E)) := fun _ _ => by subst hd7; rfl
 have HVD := hid hd7
 clear hd7
 refine region_phase (V := O) (drop := fun _ _ => false) (G := fun L wv => (L 3 = false → FrAt wv bf f u v) ∧ (L 4 = false → Boxed wv be 38 (.int .i64 x)) ∧ Boxed wv g 91 (.int .i64 E) ∧ Below B w wv) (Rel := fun jx wv wv' => jx = 3 ∨ (jx = 4 ∧ (∀ k, k ≠ be → wv'.heap[k]? = wv.heap[k]?)) ∨ Below wv.heap.size wv wv') (by kernel_rfl) (by kernel_rfl) ⟨fun _ => HF.out.on (Below.refl _ _).drew, fun _ => ((Below.refl _ W1).drew.block _ HE.out.lt).trans HE.out, ((Below.refl _ W1).drew.block _ HW.out.lt).trans HW.out, HB.out.drew⟩ ?hmonop1 ?hdepp1 ⟨?s0_p1, ?s1_p1, ?s2_p1, ?s3_p1, ?s4_p1, trivial⟩ ?behindp1
 case hmonop1 =>
  intro ix jx u wv wv' hij hw hd hr
  rw [HVD.out]
  dsimp only
  split <;> intro h <;> first | exact trivial | exact h | (rcases hr with rfl | ⟨rfl, hpk⟩ | hb; (focus first | exact absurd rfl hij | (simp at hd; done) | (exact Bool.noConfusion (hw.symm.trans (show _ = true from by kernel_rfl)))); (focus first | exact absurd rfl hij | (simp at hd; done) | (exact (hpk _ hne).trans h) | (exact Bool.noConfusion (hw.symm.trans (show _ = true from by kernel_rfl)))); (first | (exact h.on hb) | (exact (hb.block _ h.lt).trans h)))
 case hdepp1 =>
  intro ix u u' wv h1 h2
  rw [HVD.out]
  dsimp only
  split <;> intro h <;> first | exact trivial | (rw [← h1]; exact h) | exact h
 case s0_p1 =>
  refine oweP rfl fun a wx val L hG hi hW hV hN hO K hK => ?_
  clear hV hN hO
  go_simp
  exact hK.out _ _ (by rw [O0, upd_at] <;> (congr 1 <;> omega)) (.inr (.inr (Below.refl _ _))) (⟨fun h => hG.1 (upL_false h), fun h => hG.2.1 (upL_false h), hG.2.2⟩)
 case s1_p1 =>
  refine oweP rfl fun a wx val L hG hi hW hV hN hO K hK => ?_
  have e2 : a.tmps[2]? = some (.pointer (some ⟨g, 0, none⟩)) := (hO 2).trans (by rfl)
  clear hV hN hO
  go_simp
  exact hK.out _ _ (by rw [O1, upd_at] <;> (congr 1 <;> omega)) (.inr (.inr (Below.refl _ _))) (⟨fun h => hG.1 (upL_false h), fun h => hG.2.1 (upL_false h), hG.2.2⟩)
 case s2_p1 =>
  refine oweP rfl fun a wx val L hG hi hW hV hN hO K hK => ?_
  have e11 := hN 1 11
  have f11 := hV 1
  rw [O1] at f11; rw [f11] at e11; clear f11
  clear hV hN hO
  have y0 := hG.2.2.1.cell
  go_simp
  exact hK.out _ _ (by rw [O2, upd_at] <;> (congr 1 <;> omega)) (.inr (.inr (Below.refl _ _))) (⟨fun h => hG.1 (upL_false h), fun h => hG.2.1 (upL_false h), hG.2.2⟩)
 case s3_p1 =>
  refine oweP rfl fun a wx val L hG hi hW hV hN hO K hK => ?_
  have e0 : a.tmps[0]? = some (.pointer (some ⟨bf, 0, none⟩)) := (hO 0).trans (by rfl)
  have e10 := hN 0 10
  have f10 := hV 0
  rw [O0] at f10; rw [f10] at e10; clear f10
  clear hV hN hO
  have hFv := hG.1 hi
  obtain ⟨q0, q1, q2, q3, q4, q5, q6, q7, q8, q9, q10, q11, q12, q13, q14⟩ := hFv.cells
  have p := hFv.frozen
  go_simp
  exact hK.out undef (putF wx bf zeroFr (.slice none 0 0) (.slice none 0 0)) (by rw [O3]; exact putF_at hFv _ _ _) (.inl rfl) ⟨fun h => (upL_self h).elim, fun h => (putF_far wx (Ne.symm hne) _ _ _).trans (hG.2.1 (upL_false h)), (putF_far wx (by omega) _ _ _).trans hG.2.2.1, putF_below hG.2.2.2 hB _ _ _⟩
 case s4_p1 =>
  refine oweP rfl fun a wx val L hG hi hW hV hN hO K hK => ?_
  have e1 : a.tmps[1]? = some (.pointer (some ⟨be, 0, none⟩)) := (hO 1).trans (by rfl)
  have e12 := hN 2 12
  have f12 := hV 2
  rw [O2] at f12; rw [f12] at e12; clear f12
  clear hV hN hO
  have hEv := hG.2.1 hi
  have y0 := hEv.cell
  have p := hEv.frozen
  have hpk : ∀ k, k ≠ be → (wx.setCell ⟨be, 0, none⟩ (.int .i64 E)).heap[k]? = wx.heap[k]? := fun k hk => Below.heap_setCell _ _ _ _ hk
  go_simp
  exact hK.out undef (wx.setCell ⟨be, 0, none⟩ (.int .i64 E)) (by rw [O4]; exact hEv.set _) (.inr (.inl ⟨rfl, hpk⟩)) ⟨fun h => (hpk _ hne).trans (hG.1 (upL_false h)), fun h => (upL_self h).elim, (hpk _ (by omega)).trans hG.2.2.1, hG.2.2.2.setCell (p := ⟨be, 0, none⟩) hB' _⟩
 intro val wx L hG hV
 have f0 := hV 0
 rw [O0] at f0
 have f1 := hV 1
 rw [O1] at f1
 have f2 := hV 2
 rw [O2] at f2
 have f3 := hV 3
 rw [O3] at f3
 have f4 := hV 4
 rw [O4] at f4
 clear hV O0 O1 O2 O3 O4
 simp only [putAll, Act.put, List.setIfInBounds_toArray, List.set_cons_zero, List.set_cons_succ]
 generalize val 0 = z0, val 1 = z1, val 2 = z2 at *
 subst f0 f1 f2
 clear HVD
 go_wp2_with fail
 have hc1 := HC1.out
 subst hc1
 simp [bodyPostS, results, Tryz.results60]
 exact ⟨f3, f4, hG.2.2.2⟩
theorem catch_idle (bf be : Nat) (w : World) :
  CallsD Tryz.prog 60 #[.pointer (some ⟨bf, 0, none⟩), .pointer (some ⟨be, 0, none⟩)] .returning w fun e u' w' => e = .returned (.tuple #[]) ∧ u' = .returning ∧ Below w.heap.size w w' := by
 have hTA : ∀ W, (Instr.typeAssert .nilIface 20 91 true).run Tryz.prog W = .ok (.tuple #[.agg #[.int .i64 0], .bool false]) W := fun _ => by kernel_rfl
 refine callsD_of_wpS Tryz.func60 rfl fun c₀ cs hu => ?_
 apply wpS_seq
 apply wpS_region
 simp only [Tryz.ntmps60, List.size_toArray, List.length_cons, List.length_nil, Nat.reduceAdd, Nat.reduceSub, Array.replicate_succ, Array.replicate_zero, List.push_toArray, List.append_toArray, List.nil_append, List.cons_append]
 have hc := recoverD_none (cs := cs) hu
 have hb := Joins.below_alloc1 w (.cells #[.int .i64 0] 91)
 simp [wpOpsS, go_sem, hc, hTA, Exit.thenS]
 clear hTA hc
 generalize w.alloc (.cells #[.int .i64 0] 91) = W1 at *
 refine wpS_of_wp ?_
 go_wp2_with fail
 cases c₀
 simp only at hu
 subst hu
 simp [bodyPostS, results, Tryz.results60]
 exact hb
end Go.Proofs.YtmmbnjkdknnidaaGreatDoor

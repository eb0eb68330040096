/-
  Layer 9: All.
-/
import Derived.MapKept
import Derived.Test.YtmmbnjkdknnidaaGreatDoorBusDecV
import Derived.Test.YtmmbnjkdknnidaaGreatDoorFrRightV
import Derived.Test.YtmmbnjkdknnidaaGreatDoorMsgDecPV
import Derived.Test.YtmmbnjkdknnidaaGreatDoorCrcBurstsV
import Derived.Test.YtmmbnjkdknnidaaGreatDoorFrRawV
import Derived.RangeFuncBox
import Derived.RangeFuncLeaves
import Derived.Shelf.Abstract
import Derived.OwnWalkIn
import Derived.TacticsInMore
import Derived.LoopNIn
import Derived.LoopIn
import Derived.Maps.AppendAt
import Derived.Test.YtmmbnjkdknnidaaGreatDoorOnceInV
import Derived.RangeFuncNested
set_option maxHeartbeats 4000000
set_option maxRecDepth 100000
namespace Go.Proofs.YtmmbnjkdknnidaaGreatDoor
open Lib (hid)
open Go.RowKit
def inB9 (a b n : Int) : Bool := decide (a ≤ n) && decide (n ≤ b)
theorem inB9_iff (a b n : Int) : inB9 a b n = true ↔ a ≤ n ∧ n ≤ b := by unfold inB9; simp
theorem within9_any (a b n : Int) (w : World) :
  Calls Tryz.prog 74 #[.int .i64 a, .int .i64 b, .int .i64 n] w fun e w' => e = .returned (.bool (inB9 a b n)) ∧ w = w' := by
 by_cases h1 : a ≤ n
 ·go_enter Tryz.func74, Tryz.ntmps74
  go_wp2_with fail
  go_ret
  exact ⟨V.ret_b (by simp [inB9, h1]), rfl⟩
 ·go_enter Tryz.func74, Tryz.ntmps74
  go_wp2_with fail
  go_ret
  exact ⟨V.ret_b (by unfold inB9; rw [decide_eq_false (by omega)]; rfl), rfl⟩
def insideB (dev win : Int) : Bool := inB9 0 1000 win && inB9 (-win) win dev
theorem inside_any (dev win : Int) (w : World) :
  Calls Tryz.prog 36 #[.int .i64 dev, .int .i64 win] w fun e w' => e = .returned (.bool (insideB dev win)) ∧ w = w' := by
 have c1 := fun W => within9_any 0 1000 win W
 have c2 := fun W => within9_any (-win) win dev W
 have HD : Hid (insideB dev win = (inB9 0 1000 win && inB9 (-win) win dev)) := hid rfl
 cases h1 : inB9 0 1000 win
 ·rw [h1] at c1 HD
  clear h1
  go_enter Tryz.func36, Tryz.ntmps36
  go_wp2_with fail; refine (c1 _).mono ?_; rintro e w1 ⟨rfl, rfl⟩
  go_wp2_with fail
  go_ret
  exact ⟨V.ret_b HD.out.symm, rfl⟩
 ·obtain ⟨t0, t1⟩ := (inB9_iff _ _ _).1 h1
  rw [h1] at c1 HD
  clear h1
  generalize inB9 (-win) win dev = b at *
  go_enter Tryz.func36, Tryz.ntmps36
  go_wp2_with fail; refine (c1 _).mono ?_; rintro e w1 ⟨rfl, rfl⟩
  go_wp2_with fail; refine (c2 _).mono ?_; rintro e w1 ⟨rfl, rfl⟩
  go_wp2_with fail
  go_ret
  exact ⟨V.ret_b HD.out.symm, rfl⟩
abbrev flt (k a m : Int) : Value := .agg #[.int .i64 k, .int .i64 a, .int .i64 m]
def becE : Array MapEntry := #[⟨.int .i64 0, .func (.func 115) #[] #[], 0⟩, ⟨.int .i64 1, .func (.func 116) #[] #[], 1⟩, ⟨.int .i64 2, .func (.func 117) #[] #[], 2⟩]
theorem int_desc : Tryz.prog.underlying 3 = some (.int .i64) := Tryz.underlying3
theorem ins_at {w : World} {b : Nat} {es : Array MapEntry} {clock : Nat} {k : Int} {v : Value} (hb : w.heap[b]? = some (.map es clock)) (hn : Instr.findNow (.int .i64) (.int .i64 k) es.toList 0 = some none) :
  ∃ w', (Instr.mapUpdate 110 (.map (some b)) (.int .i64 k) v).run Tryz.prog w = .ok () w' ∧ (∀ B, B ≤ b → Below B w w') ∧ w'.heap[b]? = some (.map (es.push { key := .int .i64 k, val := v, born := clock }) (clock + 1)) := by
 have hk : Go.MapKept.IsKey (.int .i64) (.int .i64 k) := rfl
 refine ⟨{ w with heap := w.heap.setIfInBounds b (.map (es.push { key := .int .i64 k, val := v, born := clock }) (clock + 1)) }, ?_, fun B hB => ⟨rfl, rfl, rfl, by simp, fun j hj => (Go.MapKept.heap_set hb).2 j (by omega)⟩, (Go.MapKept.heap_set hb).1⟩
 simp only [Instr.mapUpdate, Sem.run_bind, run_underlying Tryz.underlying110, Result.andThen]
 simp only [Sem.run_bind, Go.MapKept.run_getObj_map hb, Go.MapKept.run_checkKey int_desc hk, Go.MapKept.run_findKey int_desc hn, Go.MapKept.run_setObj_map _ hb, Result.andThen]
theorem becomes_any (w : World) : Calls Tryz.prog 72 #[] w fun e w' => e = .returned (.map (some w.heap.size)) ∧ Below w.heap.size w w' ∧ w'.heap[w.heap.size]? = some (.map becE 3) := by
 have hmm := @run_makeMap Tryz.prog
 have h0 : (w.alloc (.map #[] 0)).heap[w.heap.size]? = some (.map #[] 0) := heap_alloc_new w _
 obtain ⟨w1, i1, b1, m1⟩ := ins_at (k := 0) (v := .func (.func 115) #[] #[]) h0 (by rfl)
 obtain ⟨w2, i2, b2, m2⟩ := ins_at (k := 1) (v := .func (.func 116) #[] #[]) m1 (by rfl)
 obtain ⟨w3, i3, b3, m3⟩ := ins_at (k := 2) (v := .func (.func 117) #[] #[]) m2 (by rfl)
 have HB : Hid (Below w.heap.size w w3) := hid (((((Below.refl _ w).alloc (Nat.le_refl _) _).trans (b1 _ (Nat.le_refl _))).trans (b2 _ (Nat.le_refl _))).trans (b3 _ (Nat.le_refl _)))
 have HM : Hid (w3.heap[w.heap.size]? = some (.map becE 3)) := hid m3
 clear b1 b2 b3 m1 m2 m3 h0
 go_enter Tryz.func72, Tryz.ntmps72
 go_wp2_with fail
 go_ret
 exact ⟨rfl, HB.out, HM.out⟩
def knownB (k : Int) : Bool := k == 0 || k == 1 || k == 2
def kindF (k : Int) : Value := if k = 0 then .func (.func 115) #[] #[] else if k = 1 then .func (.func 116) #[] #[] else if k = 2 then .func (.func 117) #[] #[] else .nilFunc
theorem look_at {w : World} {b : Nat} (hb : w.heap[b]? = some (.map becE 3)) (k : Int) (c : Bool) : (Instr.lookup 110 (.map (some b)) (.int .i64 k) c).run Tryz.prog w = .ok (if c then .tuple #[kindF k, .bool (knownB k)] else kindF k) w := by
 have hk : Go.MapKept.IsKey (.int .i64) (.int .i64 k) := rfl
 have hn : Instr.findNow (.int .i64) (.int .i64 k) becE.toList 0 = some (if k = 0 then some (0, .func (.func 115) #[] #[]) else if k = 1 then some (1, .func (.func 116) #[] #[]) else if k = 2 then some (2, .func (.func 117) #[] #[]) else none) := by
  by_cases h0 : k = 0
  ·subst h0; rfl
  by_cases h1 : k = 1
  ·subst h1; rfl
  by_cases h2 : k = 2
  ·subst h2; rfl
  have e0 : (k == (0 : Int)) = false := by simpa using h0
  have e1 : (k == (1 : Int)) = false := by simpa using h1
  have e2 : (k == (2 : Int)) = false := by simpa using h2
  simp [becE, Instr.findNow, Instr.sameNow, e0, e1, e2, h0, h1, h2]
 by_cases h0 : k = 0
 ·subst h0
  simp [Instr.lookup, run_underlying Tryz.underlying110, Result.andThen, Go.MapKept.run_getObj_map hb, Go.MapKept.run_checkKey int_desc hk, Go.MapKept.run_findKey int_desc hn, kindF, knownB]
 by_cases h1 : k = 1
 ·subst h1
  simp [Instr.lookup, run_underlying Tryz.underlying110, Result.andThen, Go.MapKept.run_getObj_map hb, Go.MapKept.run_checkKey int_desc hk, Go.MapKept.run_findKey int_desc hn, kindF, knownB]
 by_cases h2 : k = 2
 ·subst h2
  simp [Instr.lookup, run_underlying Tryz.underlying110, Result.andThen, Go.MapKept.run_getObj_map hb, Go.MapKept.run_checkKey int_desc hk, Go.MapKept.run_findKey int_desc hn, kindF, knownB]
 rw [if_neg h0, if_neg h1, if_neg h2] at hn
 have z0 : (k == 0) = false := by simpa using h0
 have z1 : (k == 1) = false := by simpa using h1
 have z2 : (k == 2) = false := by simpa using h2
 simp [Instr.lookup, run_underlying Tryz.underlying110, Result.andThen, Go.MapKept.run_getObj_map hb, Go.MapKept.run_checkKey int_desc hk, Go.MapKept.run_findKey int_desc hn, kindF, knownB, h0, h1, h2, z0, z1, z2]
end Go.Proofs.YtmmbnjkdknnidaaGreatDoor
namespace Go.Proofs.YtmmbnjkdknnidaaGreatDoor
open Lib (hid)
open Go.RowKit Go.Shelf
def FltAt (w : World) (b : Nat) (k a m : Int) : Prop := w.heap[b]? = some (.cells #[.int .i64 k, .int .i64 a, .int .i64 m] 61 (0, 0))
theorem FltAt.on {w w' : World} {b : Nat} {n0 n1 n2 : Int} (h : FltAt w b n0 n1 n2) (hb : Below w.heap.size w w') : FltAt w' b n0 n1 n2 := (hb.block b (Array.getElem?_eq_some_iff.1 h).1).trans h
theorem FltAt.cells {w : World} {b : Nat} {n0 n1 n2 : Int} (h : FltAt w b n0 n1 n2) : w.cell? ⟨b, 0, none⟩ = some (.int .i64 n0) ∧ w.cell? ⟨b, 1, none⟩ = some (.int .i64 n1) ∧ w.cell? ⟨b, 2, none⟩ = some (.int .i64 n2) := by
 unfold FltAt at h
 refine ⟨?_, ?_, ?_⟩ <;> simp [World.cell?, h]
theorem FltAt.new (w : World) (n0 n1 n2 : Int) : FltAt (w.alloc (.cells #[.int .i64 n0, .int .i64 n1, .int .i64 n2] 61)) w.heap.size n0 n1 n2 := heap_alloc_new w _
def mayB (k a m : Int) : Bool := knownB k && (inB9 0 65535 a && inB9 0 65535 m)
def BMap (w : World) (g : Nat) : Prop := w.heap[g]? = some (.map becE 3)
theorem BMap.on {w w' : World} {g : Nat} (h : BMap w g) (hb : Below w.heap.size w w') : BMap w' g := (hb.block g (Array.getElem?_eq_some_iff.1 h).1).trans h
theorem may9_any (k a m : Int) (w : World) :
  Calls Tryz.prog 32 #[flt k a m] w fun e w' => e = .returned (.bool (mayB k a m)) ∧ Below w.heap.size w w' := by
 have c1 := fun W => within9_any 0 65535 a W
 have c2 := fun W => within9_any 0 65535 m W
 have HD : Hid (mayB k a m = (knownB k && (inB9 0 65535 a && inB9 0 65535 m))) := hid rfl
 have HL : Hid (∀ {W : World} {g : Nat}, BMap W g → (Instr.lookup 110 (.map (some g)) (.int .i64 k) true).run Tryz.prog W = .ok (.tuple #[kindF k, .bool (knownB k)]) W) := hid fun h => look_at h k true
 generalize inB9 0 65535 a = b1 at *
 generalize inB9 0 65535 m = b2 at *
 generalize kindF k = fk at *
 generalize knownB k = bk at *
 go_enter Tryz.func32, Tryz.ntmps32
 go_wp2_with fail
 have hf := FltAt.new w k a m
 have hB := Joins.below_alloc1 w (.cells #[.int .i64 k, .int .i64 a, .int .i64 m] 61)
 generalize w.alloc (.cells #[.int .i64 k, .int .i64 a, .int .i64 m] 61) = X at *
 have HF := hid hf; clear hf
 have HB := hid hB; clear hB
 have HV : ∃ O : Nat → (Nat → Value) → World → Prop, O = (fun ix u wv => match ix with
  | 0 => ∃ g, u 0 = .map (some g) ∧ BMap wv g
  | 1 => u 1 = .pointer (some ⟨w.heap.size, 0, none⟩)
  | 2 => u 2 = .int .i64 k
  | 3 => u 3 = .tuple #[fk, .bool bk]
  | 4 => u 4 = .tuple #[fk, .bool bk]
  | 5 => u 5 = fk
  | 6 => u 6 = .bool bk
  | 7 => u 7 = fk
  | 8 => u 8 = .bool bk
  | _ => True) := ⟨_, rfl⟩
 obtain ⟨O, hd7⟩ := HV
 have O0 : ∀ u wv, O 0 u wv = (∃ g, u 0 = .map (some g) ∧ BMap wv g) := fun _ _ => by subst hd7; rfl
 have O1 : ∀ u wv, O 1 u wv = (u 1 = .pointer (some ⟨w.heap.size, 0, none⟩)) := fun _ _ => by subst hd7; rfl
 have O2 : ∀ u wv, O 2 u wv = (u 2 = .int .i64 k) := fun _ _ => by subst hd7; rfl
 have O3 : ∀ u wv, O 3 u wv = (u 3 = .tuple #[fk, .bool bk]) := fun _ _ => by subst hd7; rfl
 have O4 : ∀ u wv, O 4 u wv = (u 4 = .tuple #[fk, .bool bk]) := fun _ _ => by subst hd7; rfl
 have O5 : ∀ u wv, O 5 u wv = (u 5 = fk) := fun _ _ => by subst hd7; rfl
 have O6 : ∀ u wv, O 6 u wv = (u 6 = .bool bk) := fun _ _ => by subst hd7; rfl
 have O7 : ∀ u wv, O 7 u wv = (u 7 = fk) := fun _ _ => by subst hd7; rfl
 have O8 : ∀ u wv, O 8 u wv = (u 8 = .bool bk) := fun _ _ => by subst hd7; rfl
 have HVD := hid hd7
 clear hd7
 refine region_phase (V := O) (drop := fun _ _ => false) (G := fun L wv => FltAt wv w.heap.size k a m ∧ Below w.heap.size w wv) (Rel := fun jx wv wv' => Below wv.heap.size wv wv') (by kernel_rfl) (by kernel_rfl) ⟨HF.out.on (Below.refl _ _).drew, HB.out.trans ((Below.refl _ _).drew.mono HB.out.size)⟩ ?hmonop1 ?hdepp1 ⟨?s0_p1, ?s1_p1, ?s2_p1, ?s3_p1, ?s4_p1, ?s5_p1, ?s6_p1, ?s7_p1, ?s8_p1, trivial⟩ ?behindp1
 case hmonop1 =>
  intro ix jx u wv wv' hij hw hd hr
  rw [HVD.out]
  dsimp only
  split <;> intro h <;> first | exact trivial | exact h | (have hb := hr; first | (obtain ⟨g, e, h⟩ := h; exact ⟨g, e, h.on hb⟩))
 case hdepp1 =>
  intro ix u u' wv h1 h2
  rw [HVD.out]
  dsimp only
  split <;> intro h <;> first | exact trivial | (rw [← h1]; exact h) | exact h
 case s0_p1 =>
  refine oweP rfl fun a wx val L hG hi hW hV hN hO K hK => ?_
  clear hV hN hO
  go_simp
  refine (becomes_any _).mono ?_
  rintro en w11 ⟨rfl, hb, hq⟩
  exact hK.out _ _ (by rw [O0, upd_at]; exact ⟨_, rfl, hq⟩) hb (⟨hG.1.on hb, hG.2.trans (hb.mono hG.2.size)⟩)
 case s1_p1 =>
  refine oweP rfl fun a wx val L hG hi hW hV hN hO K hK => ?_
  have e1 : a.tmps[1]? = some (.pointer (some ⟨w.heap.size, 0, none⟩)) := (hO 1).trans (by rfl)
  clear hV hN hO
  go_simp
  exact hK.out _ _ (by rw [O1, upd_at] <;> (congr 1 <;> omega)) (Below.refl _ _) (hG)
 case s2_p1 =>
  refine oweP rfl fun a wx val L hG hi hW hV hN hO K hK => ?_
  have e7 := hN 1 7
  have f7 := hV 1
  rw [O1] at f7; rw [f7] at e7; clear f7
  clear hV hN hO
  obtain ⟨a0, a1, a2⟩ := hG.1.cells
  go_simp
  exact hK.out _ _ (by rw [O2, upd_at] <;> (congr 1 <;> omega)) (Below.refl _ _) (hG)
 case s3_p1 =>
  refine oweP rfl fun a wx val L hG hi hW hV hN hO K hK => ?_
  have e6 := hN 0 6
  have f6 := hV 0
  rw [O0] at f6; obtain ⟨g, hv, hmm⟩ := f6; rw [hv] at e6
  have e8 := hN 2 8
  have f8 := hV 2
  rw [O2] at f8; rw [f8] at e8; clear f8
  clear hV hN hO
  have hl9 := HL.out hmm
  go_simp
  exact hK.out _ _ (by rw [O3, upd_at] <;> (congr 1 <;> omega)) (Below.refl _ _) (hG)
 case s4_p1 =>
  refine oweP rfl fun a wx val L hG hi hW hV hN hO K hK => ?_
  have e9 := hN 3 9
  have f9 := hV 3
  rw [O3] at f9; rw [f9] at e9; clear f9
  clear hV hN hO
  go_simp
  exact hK.out _ _ (by rw [O4, upd_at] <;> (congr 1 <;> omega)) (Below.refl _ _) (hG)
 case s5_p1 =>
  refine oweP rfl fun a wx val L hG hi hW hV hN hO K hK => ?_
  have e5 := hN 4 5
  have f5 := hV 4
  rw [O4] at f5; rw [f5] at e5; clear f5
  clear hV hN hO
  go_simp
  exact hK.out _ _ (by rw [O5, upd_at] <;> (congr 1 <;> omega)) (Below.refl _ _) (hG)
 case s6_p1 =>
  refine oweP rfl fun a wx val L hG hi hW hV hN hO K hK => ?_
  have e5 := hN 4 5
  have f5 := hV 4
  rw [O4] at f5; rw [f5] at e5; clear f5
  clear hV hN hO
  go_simp
  exact hK.out _ _ (by rw [O6, upd_at] <;> (congr 1 <;> omega)) (Below.refl _ _) (hG)
 case s7_p1 =>
  refine oweP rfl fun a wx val L hG hi hW hV hN hO K hK => ?_
  have e10 := hN 5 10
  have f10 := hV 5
  rw [O5] at f10; rw [f10] at e10; clear f10
  clear hV hN hO
  go_simp
  exact hK.out _ _ (by rw [O7, upd_at] <;> (congr 1 <;> omega)) (Below.refl _ _) (hG)
 case s8_p1 =>
  refine oweP rfl fun a wx val L hG hi hW hV hN hO K hK => ?_
  have e11 := hN 6 11
  have f11 := hV 6
  rw [O6] at f11; rw [f11] at e11; clear f11
  clear hV hN hO
  go_simp
  exact hK.out _ _ (by rw [O8, upd_at] <;> (congr 1 <;> omega)) (Below.refl _ _) (hG)
 intro val wx L hG hV
 have f0 := hV 0
 rw [O0] at f0
 have f1 := hV 1
 rw [O1] at f1
 have f2 := hV 2
 rw [O2] at f2
 have f3 := hV 3
 rw [O3] at f3
 have f4 := hV 4
 rw [O4] at f4
 have f5 := hV 5
 rw [O5] at f5
 have f6 := hV 6
 rw [O6] at f6
 have f7 := hV 7
 rw [O7] at f7
 have f8 := hV 8
 rw [O8] at f8
 clear hV O0 O1 O2 O3 O4 O5 O6 O7 O8
 simp only [putAll, Act.put, List.setIfInBounds_toArray, List.set_cons_zero, List.set_cons_succ]
 generalize val 0 = z0, val 1 = z1, val 2 = z2, val 3 = z3, val 4 = z4, val 5 = z5, val 6 = z6, val 7 = z7, val 8 = z8 at *
 subst f1 f2 f3 f4 f5 f6 f7 f8
 clear HVD
 obtain ⟨hF1, hB1⟩ := hG
 obtain ⟨a0, a1, a2⟩ := hF1.cells
 have HB1 := hid hB1; clear hB1 hF1 HF HB f0 HL
 cases bk
 ·go_wp2_with fail
  go_ret
  exact ⟨V.ret_b HD.out.symm, HB1.out⟩
 ·cases b1
  ·go_wp2_with fail; refine (c1 _).mono ?_; rintro e w1 ⟨rfl, rfl⟩
   go_wp2_with fail
   go_ret
   exact ⟨V.ret_b HD.out.symm, HB1.out⟩
  ·go_wp2_with fail; refine (c1 _).mono ?_; rintro e w1 ⟨rfl, rfl⟩
   go_wp2_with fail; refine (c2 _).mono ?_; rintro e w1 ⟨rfl, rfl⟩
   go_wp2_with fail
   go_ret
   exact ⟨V.ret_b HD.out.symm, HB1.out⟩
def noS : ByteArray := { data := #[] }
abbrev passE (s : ByteArray) (b : Bool) : Ending := .returned (.tuple #[.string s, .bool b])
theorem pass9_any (s : ByteArray) (k a m : Int) (hs : s.size ≤ 2000) (w : World) :
  Calls Tryz.prog 115 #[.string s, flt k a m] w fun e w' => e = passE s true ∧ Below w.heap.size w w' := by
 have c1 := fun W => clone_any s (by omega) W
 go_enter Tryz.func115, Tryz.ntmps115
 go_wp2_with fail
 have hB := Joins.below_alloc1 w (.cells #[.int .i64 k, .int .i64 a, .int .i64 m] 61)
 generalize w.alloc (.cells #[.int .i64 k, .int .i64 a, .int .i64 m] 61) = X at *
 refine (c1 _).mono ?_; rintro e w1 ⟨rfl, hb1⟩
 go_wp2_with fail
 go_ret2
 exact ⟨rfl, hB.trans (hb1.mono hB.size)⟩
theorem lose9_any (s : ByteArray) (k a m : Int) (w : World) :
  Calls Tryz.prog 116 #[.string s, flt k a m] w fun e w' => e = passE noS false ∧ Below w.heap.size w w' := by
 go_enter Tryz.func116, Tryz.ntmps116
 go_wp2_with fail
 have hB := Joins.below_alloc1 w (.cells #[.int .i64 k, .int .i64 a, .int .i64 m] 61)
 go_ret2
 exact ⟨rfl, hB⟩
def spoilT (l : List UInt8) (a m : Int) : List UInt8 := if l = [] then [] else C.burstI l (a.tmod (8 * (l.length : Int))) m
theorem spoil9_any (s : ByteArray) (k a m : Int) (hs : s.size < 2000) (ha : 0 ≤ a ∧ a ≤ 65535) (w : World) :
  Calls Tryz.prog 117 #[.string s, flt k a m] w fun e w' => e = passE (C.txt (spoilT s.data.toList a m)) true ∧ Below w.heap.size w w' := by
 have hl := Lib.size_eq s
 by_cases he : s.data.toList = []
 ·have hz : C.txt (spoilT s.data.toList a m) = noS := by unfold spoilT; rw [if_pos he]; rfl
  have hs0 : s = noS := by cases s with | mk d => cases d with | mk l => simp only at he; subst he; rfl
  rw [hz]
  subst hs0
  clear hz he hl
  have hE : noS.toList.isEmpty = true := by rw [ByteArray.toList_eq]; rfl
  go_enter Tryz.func117, Tryz.ntmps117
  go_wp2_with fail
  go_ret2
  exact ⟨rfl, Joins.below_alloc1 w _⟩
 ·have hpos : 0 < s.data.toList.length := List.length_pos_iff.2 he
  have hT : spoilT s.data.toList a m = C.burstI s.data.toList (a.tmod (8 * (s.size : Int))) m := by unfold spoilT; rw [if_neg he, hl]
  rw [hT]; clear hT
  have g1 : IntKind.i64.wrap (8 * (s.size : Int)) = 8 * (s.size : Int) := IntWalk.i64_in _ (by omega)
  have g2 : ¬ (8 * (s.size : Int) = 0) := by omega
  have h0 : 0 ≤ a.tmod (8 * (s.size : Int)) := Int.tmod_nonneg _ ha.1
  have h9 : a.tmod (8 * (s.size : Int)) < 8 * (s.size : Int) := by rw [Int.tmod_eq_emod_of_nonneg ha.1]; exact Int.emod_lt_of_pos _ (by omega)
  have g4 : IntKind.i64.wrap (a.tmod (8 * (s.size : Int))) = a.tmod (8 * (s.size : Int)) := IntWalk.i64_in _ (by omega)
  have c1 := fun W => C.burst_any s (a.tmod (8 * (s.size : Int))) m W hs
  generalize hR : a.tmod (8 * (s.size : Int)) = R at *
  have HG := hid (And.intro g1 (And.intro g2 (And.intro hR g4)))
  have hne : s.toList.isEmpty = false := by rw [List.isEmpty_eq_false_iff, ByteArray.toList_eq]; exact he
  clear g1 g2 hR g4 h0 h9 hpos hl he
  go_enter Tryz.func117, Tryz.ntmps117
  go_wp2_with fail
  have hf := FltAt.new w k a m
  have hB := Joins.below_alloc1 w (.cells #[.int .i64 k, .int .i64 a, .int .i64 m] 61)
  generalize w.alloc (.cells #[.int .i64 k, .int .i64 a, .int .i64 m] 61) = X at *
  have HF := hid hf; clear hf
  have HB := hid hB; clear hB
  have HV : ∃ O : Nat → (Nat → Value) → World → Prop, O = (fun ix u wv => match ix with
   | 0 => u 0 = .string s
   | 1 => u 1 = .pointer (some ⟨w.heap.size, 1, none⟩)
   | 2 => u 2 = .int .i64 a
   | 3 => u 3 = .string s
   | 4 => u 4 = .int .i64 ((s).size : Int)
   | 5 => u 5 = .int .i64 (8 * (s.size : Int))
   | 6 => u 6 = .int .i64 R
   | 7 => u 7 = .pointer (some ⟨w.heap.size, 2, none⟩)
   | 8 => u 8 = .int .i64 m
   | 9 => u 9 = .string (C.txt (C.burstI s.data.toList R m))
   | 10 => u 10 = .string (C.txt (C.burstI s.data.toList R m))
   | 11 => u 11 = .bool true
   | _ => True) := ⟨_, rfl⟩
  obtain ⟨O, hd7⟩ := HV
  have O0 : ∀ u wv, O 0 u wv = (u 0 = .string s) := fun _ _ => by subst hd7; rfl
  have O1 : ∀ u wv, O 1 u wv = (u 1 = .pointer (some ⟨w.heap.size, 1, none⟩)) := fun _ _ => by subst hd7; rfl
  have O2 : ∀ u wv, O 2 u wv = (u 2 = .int .i64 a) := fun _ _ => by subst hd7; rfl
  have O3 : ∀ u wv, O 3 u wv = (u 3 = .string s) := fun _ _ => by subst hd7; rfl
  have O4 : ∀ u wv, O 4 u wv = (u 4 = .int .i64 ((s).size : Int)) := fun _ _ => by subst hd7; rfl
  have O5 : ∀ u wv, O 5 u wv = (u 5 = .int .i64 (8 * (s.size : Int))) := fun _ _ => by subst hd7; rfl
  have O6 : ∀ u wv, O 6 u wv = (u 6 = .int .i64 R) := fun _ _ => by subst hd7; rfl
  have O7 : ∀ u wv, O 7 u wv = (u 7 = .pointer (some ⟨w.heap.size, 2, none⟩)) := fun _ _ => by subst hd7; rfl
  have O8 : ∀ u wv, O 8 u wv = (u 8 = .int .i64 m) := fun _ _ => by subst hd7; rfl
  have O9 : ∀ u wv, O 9 u wv = (u 9 = .string (C.txt (C.burstI s.data.toList R m))) := fun _ _ => by subst hd7; rfl
  have O10 : ∀ u wv, O 10 u wv = (u 10 = .string (C.txt (C.burstI s.data.toList R m))) := fun _ _ => by subst hd7; rfl
  have O11 : ∀ u wv, O 11 u wv = (u 11 = .bool true) := fun _ _ => by subst hd7; rfl
  have HVD := hid hd7
  clear hd7
  refine region_phase (V := O) (drop := fun _ _ => false) (G := fun L wv => FltAt wv w.heap.size k a m ∧ Below w.heap.size w wv) (Rel := fun jx wv wv' => Below wv.heap.size wv wv') (by kernel_rfl) (by kernel_rfl) ⟨HF.out.on (Below.refl _ _).drew, HB.out.trans ((Below.refl _ _).drew.mono HB.out.size)⟩ ?hmonop1 ?hdepp1 ⟨?s0_p1, ?s1_p1, ?s2_p1, ?s3_p1, ?s4_p1, ?s5_p1, ?s6_p1, ?s7_p1, ?s8_p1, ?s9_p1, ?s10_p1, ?s11_p1, trivial⟩ ?behindp1
  case hmonop1 =>
   intro ix jx u wv wv' hij hw hd hr
   rw [HVD.out]
   dsimp only
   split <;> intro h <;> first | exact trivial | exact h | (have hb := hr; first | skip)
  case hdepp1 =>
   intro ix u u' wv h1 h2
   rw [HVD.out]
   dsimp only
   split <;> intro h <;> first | exact trivial | (rw [← h1]; exact h) | exact h
  case s0_p1 =>
   refine oweP rfl fun a wx val L hG hi hW hV hN hO K hK => ?_
   have e0 : a.tmps[0]? = some (.string s) := (hO 0).trans (by rfl)
   clear hV hN hO
   go_simp
   exact hK.out _ _ (by rw [O0, upd_at] <;> (congr 1 <;> omega)) (Below.refl _ _) (hG)
  case s1_p1 =>
   refine oweP rfl fun a wx val L hG hi hW hV hN hO K hK => ?_
   have e3 : a.tmps[3]? = some (.pointer (some ⟨w.heap.size, 0, none⟩)) := (hO 3).trans (by rfl)
   clear hV hN hO
   go_simp
   exact hK.out _ _ (by rw [O1, upd_at] <;> (congr 1 <;> omega)) (Below.refl _ _) (hG)
  case s2_p1 =>
   refine oweP rfl fun a wx val L hG hi hW hV hN hO K hK => ?_
   have e9 := hN 1 9
   have f9 := hV 1
   rw [O1] at f9; rw [f9] at e9; clear f9
   clear hV hN hO
   obtain ⟨a0, a1, a2⟩ := hG.1.cells
   go_simp
   exact hK.out _ _ (by rw [O2, upd_at] <;> (congr 1 <;> omega)) (Below.refl _ _) (hG)
  case s3_p1 =>
   refine oweP rfl fun a wx val L hG hi hW hV hN hO K hK => ?_
   have e0 : a.tmps[0]? = some (.string s) := (hO 0).trans (by rfl)
   clear hV hN hO
   go_simp
   exact hK.out _ _ (by rw [O3, upd_at] <;> (congr 1 <;> omega)) (Below.refl _ _) (hG)
  case s4_p1 =>
   refine oweP rfl fun a wx val L hG hi hW hV hN hO K hK => ?_
   have e11 := hN 3 11
   have f11 := hV 3
   rw [O3] at f11; rw [f11] at e11; clear f11
   clear hV hN hO
   go_simp
   exact hK.out _ _ (by rw [O4, upd_at] <;> (congr 1 <;> omega)) (Below.refl _ _) (hG)
  case s5_p1 =>
   refine oweP rfl fun a wx val L hG hi hW hV hN hO K hK => ?_
   have e12 := hN 4 12
   have f12 := hV 4
   rw [O4] at f12; rw [f12] at e12; clear f12
   clear hV hN hO
   have g1 := HG.out.1
   go_simp
   exact hK.out _ _ (by rw [O5, upd_at] <;> (congr 1 <;> omega)) (Below.refl _ _) (hG)
  case s6_p1 =>
   refine oweP rfl fun a wx val L hG hi hW hV hN hO K hK => ?_
   have e10 := hN 2 10
   have f10 := hV 2
   rw [O2] at f10; rw [f10] at e10; clear f10
   have e13 := hN 5 13
   have f13 := hV 5
   rw [O5] at f13; rw [f13] at e13; clear f13
   clear hV hN hO
   obtain ⟨-, g2, g3, g4⟩ := HG.out
   go_simp
   exact hK.out _ _ (by rw [O6, upd_at] <;> (congr 1 <;> omega)) (Below.refl _ _) (hG)
  case s7_p1 =>
   refine oweP rfl fun a wx val L hG hi hW hV hN hO K hK => ?_
   have e3 : a.tmps[3]? = some (.pointer (some ⟨w.heap.size, 0, none⟩)) := (hO 3).trans (by rfl)
   clear hV hN hO
   go_simp
   exact hK.out _ _ (by rw [O7, upd_at] <;> (congr 1 <;> omega)) (Below.refl _ _) (hG)
  case s8_p1 =>
   refine oweP rfl fun a wx val L hG hi hW hV hN hO K hK => ?_
   have e15 := hN 7 15
   have f15 := hV 7
   rw [O7] at f15; rw [f15] at e15; clear f15
   clear hV hN hO
   obtain ⟨a0, a1, a2⟩ := hG.1.cells
   go_simp
   exact hK.out _ _ (by rw [O8, upd_at] <;> (congr 1 <;> omega)) (Below.refl _ _) (hG)
  case s9_p1 =>
   refine oweP rfl fun a wx val L hG hi hW hV hN hO K hK => ?_
   have e8 := hN 0 8
   have f8 := hV 0
   rw [O0] at f8; rw [f8] at e8; clear f8
   have e14 := hN 6 14
   have f14 := hV 6
   rw [O6] at f14; rw [f14] at e14; clear f14
   have e16 := hN 8 16
   have f16 := hV 8
   rw [O8] at f16; rw [f16] at e16; clear f16
   clear hV hN hO
   go_simp
   refine (c1 _).mono ?_
   rintro e w11 ⟨rfl, hb⟩
   exact hK.out _ _ (by rw [O9, upd_at]) (hb) (⟨hG.1.on hb, hG.2.trans (hb.mono hG.2.size)⟩)
  case s10_p1 =>
   refine oweP rfl fun a wx val L hG hi hW hV hN hO K hK => ?_
   have e17 := hN 9 17
   have f17 := hV 9
   rw [O9] at f17; rw [f17] at e17; clear f17
   clear hV hN hO
   go_simp
   exact hK.out _ _ (by rw [O10, upd_at] <;> (congr 1 <;> omega)) (Below.refl _ _) (hG)
  case s11_p1 =>
   refine oweP rfl fun a wx val L hG hi hW hV hN hO K hK => ?_
   clear hV hN hO
   go_simp
   exact hK.out _ _ (by rw [O11, upd_at] <;> (congr 1 <;> omega)) (Below.refl _ _) (hG)
  intro val wx L hG hV
  have f0 := hV 0
  rw [O0] at f0
  have f1 := hV 1
  rw [O1] at f1
  have f2 := hV 2
  rw [O2] at f2
  have f3 := hV 3
  rw [O3] at f3
  have f4 := hV 4
  rw [O4] at f4
  have f5 := hV 5
  rw [O5] at f5
  have f6 := hV 6
  rw [O6] at f6
  have f7 := hV 7
  rw [O7] at f7
  have f8 := hV 8
  rw [O8] at f8
  have f9 := hV 9
  rw [O9] at f9
  have f10 := hV 10
  rw [O10] at f10
  have f11 := hV 11
  rw [O11] at f11
  clear hV O0 O1 O2 O3 O4 O5 O6 O7 O8 O9 O10 O11
  simp only [putAll, Act.put, List.setIfInBounds_toArray, List.set_cons_zero, List.set_cons_succ]
  generalize val 0 = z0, val 1 = z1, val 2 = z2, val 3 = z3, val 4 = z4, val 5 = z5, val 6 = z6, val 7 = z7, val 8 = z8, val 9 = z9, val 10 = z10, val 11 = z11 at *
  subst f0 f1 f2 f3 f4 f5 f6 f7 f8 f9 f10 f11
  clear HVD
  obtain ⟨hF1, hB1⟩ := hG
  have HB1 := hid hB1; clear hB1 hF1 HF HB
  go_wp2_with fail
  go_ret2
  exact ⟨rfl, HB1.out⟩
def passS (s : ByteArray) (k a m : Int) : ByteArray := if mayB k a m = true then (if k = 0 then s else if k = 1 then noS else C.txt (spoilT s.data.toList a m)) else noS
def passB (k a m : Int) : Bool := mayB k a m && (k == 0 || k == 2)
theorem mayB_iff (k a m : Int) : mayB k a m = true ↔ (k = 0 ∨ k = 1 ∨ k = 2) ∧ (0 ≤ a ∧ a ≤ 65535) ∧ 0 ≤ m ∧ m ≤ 65535 := by
 unfold mayB knownB
 rw [Bool.and_eq_true, Bool.and_eq_true, inB9_iff, inB9_iff]
 simp [or_assoc]
theorem passP0 (s : ByteArray) (a m : Int) (S : ByteArray) (B : Bool) (c1 : ∀ W, Calls Tryz.prog 32 #[flt 0 a m] W fun e w' => e = .returned (.bool true) ∧ Below W.heap.size W w') (c2 : ∀ W, Calls Tryz.prog 115 #[.string s, flt 0 a m] W fun e w' => e = passE S B ∧ Below W.heap.size W w') (w : World) :
  Calls Tryz.prog 30 #[.string s, flt 0 a m] w fun e w' => e = passE S B ∧ Below w.heap.size w w' := by
 have HL : Hid (∀ {W : World} {g : Nat}, BMap W g → (Instr.lookup 110 (.map (some g)) (.int .i64 0) false).run Tryz.prog W = .ok (.func (.func 115) #[] #[]) W) := hid fun h => by have := look_at h 0 false; exact this
 go_enter Tryz.func30, Tryz.ntmps30
 go_wp2_with fail
 have hf := FltAt.new w 0 a m
 have hB := Joins.below_alloc1 w (.cells #[.int .i64 0, .int .i64 a, .int .i64 m] 61)
 generalize w.alloc (.cells #[.int .i64 0, .int .i64 a, .int .i64 m] 61) = X at *
 refine (c1 _).mono ?_; rintro e w1 ⟨rfl, hb1⟩
 have HF := hid (hf.on hb1); clear hf
 have HB := hid (hB.trans (hb1.mono hB.size)); clear hB hb1
 go_wp2_with fail
 have HV : ∃ O : Nat → (Nat → Value) → World → Prop, O = (fun ix u wv => match ix with
  | 0 => ∃ g, u 0 = .map (some g) ∧ BMap wv g
  | 1 => u 1 = .pointer (some ⟨w.heap.size, 0, none⟩)
  | 2 => u 2 = .int .i64 0
  | 3 => u 3 = .func (.func 115) #[] #[]
  | 4 => u 4 = .string s
  | 5 => u 5 = flt 0 a m
  | 6 => u 6 = .tuple #[.string S, .bool B]
  | 7 => u 7 = .string S
  | 8 => u 8 = .bool B
  | 9 => u 9 = .string S
  | 10 => u 10 = .bool B
  | _ => True) := ⟨_, rfl⟩
 obtain ⟨O, hd7⟩ := HV
 have O0 : ∀ u wv, O 0 u wv = (∃ g, u 0 = .map (some g) ∧ BMap wv g) := fun _ _ => by subst hd7; rfl
 have O1 : ∀ u wv, O 1 u wv = (u 1 = .pointer (some ⟨w.heap.size, 0, none⟩)) := fun _ _ => by subst hd7; rfl
 have O2 : ∀ u wv, O 2 u wv = (u 2 = .int .i64 0) := fun _ _ => by subst hd7; rfl
 have O3 : ∀ u wv, O 3 u wv = (u 3 = .func (.func 115) #[] #[]) := fun _ _ => by subst hd7; rfl
 have O4 : ∀ u wv, O 4 u wv = (u 4 = .string s) := fun _ _ => by subst hd7; rfl
 have O5 : ∀ u wv, O 5 u wv = (u 5 = flt 0 a m) := fun _ _ => by subst hd7; rfl
 have O6 : ∀ u wv, O 6 u wv = (u 6 = .tuple #[.string S, .bool B]) := fun _ _ => by subst hd7; rfl
 have O7 : ∀ u wv, O 7 u wv = (u 7 = .string S) := fun _ _ => by subst hd7; rfl
 have O8 : ∀ u wv, O 8 u wv = (u 8 = .bool B) := fun _ _ => by subst hd7; rfl
 have O9 : ∀ u wv, O 9 u wv = (u 9 = .string S) := fun _ _ => by subst hd7; rfl
 have O10 : ∀ u wv, O 10 u wv = (u 10 = .bool B) := fun _ _ => by subst hd7; rfl
 have HVD := hid hd7
 clear hd7
 refine region_phase (V := O) (drop := fun _ _ => false) (G := fun L wv => FltAt wv w.heap.size 0 a m ∧ Below w.heap.size w wv) (Rel := fun jx wv wv' => Below wv.heap.size wv wv') (by kernel_rfl) (by kernel_rfl) ⟨HF.out.on (Below.refl _ _).drew, HB.out.trans ((Below.refl _ _).drew.mono HB.out.size)⟩ ?hmonop2 ?hdepp2 ⟨?s0_p2, ?s1_p2, ?s2_p2, ?s3_p2, ?s4_p2, ?s5_p2, ?s6_p2, ?s7_p2, ?s8_p2, ?s9_p2, ?s10_p2, trivial⟩ ?behindp2
 case hmonop2 =>
  intro ix jx u wv wv' hij hw hd hr
  rw [HVD.out]
  dsimp only
  split <;> intro h <;> first | exact trivial | exact h | (have hb := hr; first | (obtain ⟨g, e, h⟩ := h; exact ⟨g, e, h.on hb⟩))
 case hdepp2 =>
  intro ix u u' wv h1 h2
  rw [HVD.out]
  dsimp only
  split <;> intro h <;> first | exact trivial | (rw [← h1]; exact h) | exact h
 case s0_p2 =>
  refine oweP rfl fun a wx val L hG hi hW hV hN hO K hK => ?_
  clear hV hN hO
  go_simp
  refine (becomes_any _).mono ?_
  rintro en w11 ⟨rfl, hb, hq⟩
  exact hK.out _ _ (by rw [O0, upd_at]; exact ⟨_, rfl, hq⟩) hb (⟨hG.1.on hb, hG.2.trans (hb.mono hG.2.size)⟩)
 case s1_p2 =>
  refine oweP rfl fun a wx val L hG hi hW hV hN hO K hK => ?_
  have e3 : a.tmps[3]? = some (.pointer (some ⟨w.heap.size, 0, none⟩)) := (hO 3).trans (by rfl)
  clear hV hN hO
  go_simp
  exact hK.out _ _ (by rw [O1, upd_at] <;> (congr 1 <;> omega)) (Below.refl _ _) (hG)
 case s2_p2 =>
  refine oweP rfl fun a wx val L hG hi hW hV hN hO K hK => ?_
  have e10 := hN 1 10
  have f10 := hV 1
  rw [O1] at f10; rw [f10] at e10; clear f10
  clear hV hN hO
  obtain ⟨a0, a1, a2⟩ := hG.1.cells
  go_simp
  exact hK.out _ _ (by rw [O2, upd_at] <;> (congr 1 <;> omega)) (Below.refl _ _) (hG)
 case s3_p2 =>
  refine oweP rfl fun a wx val L hG hi hW hV hN hO K hK => ?_
  have e9 := hN 0 9
  have f9 := hV 0
  rw [O0] at f9; obtain ⟨g, hv, hmm⟩ := f9; rw [hv] at e9
  have e11 := hN 2 11
  have f11 := hV 2
  rw [O2] at f11; rw [f11] at e11; clear f11
  clear hV hN hO
  have hl9 := HL.out hmm
  go_simp
  exact hK.out _ _ (by rw [O3, upd_at] <;> (congr 1 <;> omega)) (Below.refl _ _) (hG)
 case s4_p2 =>
  refine oweP rfl fun a wx val L hG hi hW hV hN hO K hK => ?_
  have e0 : a.tmps[0]? = some (.string s) := (hO 0).trans (by rfl)
  clear hV hN hO
  go_simp
  exact hK.out _ _ (by rw [O4, upd_at] <;> (congr 1 <;> omega)) (Below.refl _ _) (hG)
 case s5_p2 =>
  refine oweP rfl fun a wx val L hG hi hW hV hN hO K hK => ?_
  have e3 : a.tmps[3]? = some (.pointer (some ⟨w.heap.size, 0, none⟩)) := (hO 3).trans (by rfl)
  clear hV hN hO
  obtain ⟨a0, a1, a2⟩ := hG.1.cells
  go_simp
  exact hK.out _ _ (by rw [O5, upd_at] <;> (congr 1 <;> omega)) (Below.refl _ _) (hG)
 case s6_p2 =>
  refine oweP rfl fun a wx val L hG hi hW hV hN hO K hK => ?_
  have e12 := hN 3 12
  have f12 := hV 3
  rw [O3] at f12; rw [f12] at e12; clear f12
  have e13 := hN 4 13
  have f13 := hV 4
  rw [O4] at f13; rw [f13] at e13; clear f13
  have e14 := hN 5 14
  have f14 := hV 5
  rw [O5] at f14; rw [f14] at e14; clear f14
  clear hV hN hO
  go_simp
  refine (c2 _).mono ?_
  rintro e w11 ⟨rfl, hb⟩
  exact hK.out _ _ (by rw [O6, upd_at]) (hb) (⟨hG.1.on hb, hG.2.trans (hb.mono hG.2.size)⟩)
 case s7_p2 =>
  refine oweP rfl fun a wx val L hG hi hW hV hN hO K hK => ?_
  have e15 := hN 6 15
  have f15 := hV 6
  rw [O6] at f15; rw [f15] at e15; clear f15
  clear hV hN hO
  go_simp
  exact hK.out _ _ (by rw [O7, upd_at] <;> (congr 1 <;> omega)) (Below.refl _ _) (hG)
 case s8_p2 =>
  refine oweP rfl fun a wx val L hG hi hW hV hN hO K hK => ?_
  have e15 := hN 6 15
  have f15 := hV 6
  rw [O6] at f15; rw [f15] at e15; clear f15
  clear hV hN hO
  go_simp
  exact hK.out _ _ (by rw [O8, upd_at] <;> (congr 1 <;> omega)) (Below.refl _ _) (hG)
 case s9_p2 =>
  refine oweP rfl fun a wx val L hG hi hW hV hN hO K hK => ?_
  have e16 := hN 7 16
  have f16 := hV 7
  rw [O7] at f16; rw [f16] at e16; clear f16
  clear hV hN hO
  go_simp
  exact hK.out _ _ (by rw [O9, upd_at] <;> (congr 1 <;> omega)) (Below.refl _ _) (hG)
 case s10_p2 =>
  refine oweP rfl fun a wx val L hG hi hW hV hN hO K hK => ?_
  have e17 := hN 8 17
  have f17 := hV 8
  rw [O8] at f17; rw [f17] at e17; clear f17
  clear hV hN hO
  go_simp
  exact hK.out _ _ (by rw [O10, upd_at] <;> (congr 1 <;> omega)) (Below.refl _ _) (hG)
 intro val wx L hG hV
 have f0 := hV 0
 rw [O0] at f0
 have f1 := hV 1
 rw [O1] at f1
 have f2 := hV 2
 rw [O2] at f2
 have f3 := hV 3
 rw [O3] at f3
 have f4 := hV 4
 rw [O4] at f4
 have f5 := hV 5
 rw [O5] at f5
 have f6 := hV 6
 rw [O6] at f6
 have f7 := hV 7
 rw [O7] at f7
 have f8 := hV 8
 rw [O8] at f8
 have f9 := hV 9
 rw [O9] at f9
 have f10 := hV 10
 rw [O10] at f10
 clear hV O0 O1 O2 O3 O4 O5 O6 O7 O8 O9 O10
 simp only [putAll, Act.put, List.setIfInBounds_toArray, List.set_cons_zero, List.set_cons_succ]
 generalize val 0 = z0, val 1 = z1, val 2 = z2, val 3 = z3, val 4 = z4, val 5 = z5, val 6 = z6, val 7 = z7, val 8 = z8, val 9 = z9, val 10 = z10 at *
 subst f1 f2 f3 f4 f5 f6 f7 f8 f9 f10
 clear HVD
 obtain ⟨hF1, hB1⟩ := hG
 have HB1 := hid hB1; clear hB1 hF1 HF HB HL
 go_wp2_with fail
 go_ret2
 exact ⟨rfl, HB1.out⟩
theorem passP1 (s : ByteArray) (a m : Int) (S : ByteArray) (B : Bool) (c1 : ∀ W, Calls Tryz.prog 32 #[flt 1 a m] W fun e w' => e = .returned (.bool true) ∧ Below W.heap.size W w') (c2 : ∀ W, Calls Tryz.prog 116 #[.string s, flt 1 a m] W fun e w' => e = passE S B ∧ Below W.heap.size W w') (w : World) :
  Calls Tryz.prog 30 #[.string s, flt 1 a m] w fun e w' => e = passE S B ∧ Below w.heap.size w w' := by
 have HL : Hid (∀ {W : World} {g : Nat}, BMap W g → (Instr.lookup 110 (.map (some g)) (.int .i64 1) false).run Tryz.prog W = .ok (.func (.func 116) #[] #[]) W) := hid fun h => by have := look_at h 1 false; exact this
 go_enter Tryz.func30, Tryz.ntmps30
 go_wp2_with fail
 have hf := FltAt.new w 1 a m
 have hB := Joins.below_alloc1 w (.cells #[.int .i64 1, .int .i64 a, .int .i64 m] 61)
 generalize w.alloc (.cells #[.int .i64 1, .int .i64 a, .int .i64 m] 61) = X at *
 refine (c1 _).mono ?_; rintro e w1 ⟨rfl, hb1⟩
 have HF := hid (hf.on hb1); clear hf
 have HB := hid (hB.trans (hb1.mono hB.size)); clear hB hb1
 go_wp2_with fail
 have HV : ∃ O : Nat → (Nat → Value) → World → Prop, O = (fun ix u wv => match ix with
  | 0 => ∃ g, u 0 = .map (some g) ∧ BMap wv g
  | 1 => u 1 = .pointer (some ⟨w.heap.size, 0, none⟩)
  | 2 => u 2 = .int .i64 1
  | 3 => u 3 = .func (.func 116) #[] #[]
  | 4 => u 4 = .string s
  | 5 => u 5 = flt 1 a m
  | 6 => u 6 = .tuple #[.string S, .bool B]
  | 7 => u 7 = .string S
  | 8 => u 8 = .bool B
  | 9 => u 9 = .string S
  | 10 => u 10 = .bool B
  | _ => True) := ⟨_, rfl⟩
 obtain ⟨O, hd7⟩ := HV
 have O0 : ∀ u wv, O 0 u wv = (∃ g, u 0 = .map (some g) ∧ BMap wv g) := fun _ _ => by subst hd7; rfl
 have O1 : ∀ u wv, O 1 u wv = (u 1 = .pointer (some ⟨w.heap.size, 0, none⟩)) := fun _ _ => by subst hd7; rfl
 have O2 : ∀ u wv, O 2 u wv = (u 2 = .int .i64 1) := fun _ _ => by subst hd7; rfl
 have O3 : ∀ u wv, O 3 u wv = (u 3 = .func (.func 116) #[] #[]) := fun _ _ => by subst hd7; rfl
 have O4 : ∀ u wv, O 4 u wv = (u 4 = .string s) := fun _ _ => by subst hd7; rfl
 have O5 : ∀ u wv, O 5 u wv = (u 5 = flt 1 a m) := fun _ _ => by subst hd7; rfl
 have O6 : ∀ u wv, O 6 u wv = (u 6 = .tuple #[.string S, .bool B]) := fun _ _ => by subst hd7; rfl
 have O7 : ∀ u wv, O 7 u wv = (u 7 = .string S) := fun _ _ => by subst hd7; rfl
 have O8 : ∀ u wv, O 8 u wv = (u 8 = .bool B) := fun _ _ => by subst hd7; rfl
 have O9 : ∀ u wv, O 9 u wv = (u 9 = .string S) := fun _ _ => by subst hd7; rfl
 have O10 : ∀ u wv, O 10 u wv = (u 10 = .bool B) := fun _ _ => by subst hd7; rfl
 have HVD := hid hd7
 clear hd7
 refine region_phase (V := O) (drop := fun _ _ => false) (G := fun L wv => FltAt wv w.heap.size 1 a m ∧ Below w.heap.size w wv) (Rel := fun jx wv wv' => Below wv.heap.size wv wv') (by kernel_rfl) (by kernel_rfl) ⟨HF.out.on (Below.refl _ _).drew, HB.out.trans ((Below.refl _ _).drew.mono HB.out.size)⟩ ?hmonop3 ?hdepp3 ⟨?s0_p3, ?s1_p3, ?s2_p3, ?s3_p3, ?s4_p3, ?s5_p3, ?s6_p3, ?s7_p3, ?s8_p3, ?s9_p3, ?s10_p3, trivial⟩ ?behindp3
 case hmonop3 =>
  intro ix jx u wv wv' hij hw hd hr
  rw [HVD.out]
  dsimp only
  split <;> intro h <;> first | exact trivial | exact h | (have hb := hr; first | (obtain ⟨g, e, h⟩ := h; exact ⟨g, e, h.on hb⟩))
 case hdepp3 =>
  intro ix u u' wv h1 h2
  rw [HVD.out]
  dsimp only
  split <;> intro h <;> first | exact trivial | (rw [← h1]; exact h) | exact h
 case s0_p3 =>
  refine oweP rfl fun a wx val L hG hi hW hV hN hO K hK => ?_
  clear hV hN hO
  go_simp
  refine (becomes_any _).mono ?_
  rintro en w11 ⟨rfl, hb, hq⟩
  exact hK.out _ _ (by rw [O0, upd_at]; exact ⟨_, rfl, hq⟩) hb (⟨hG.1.on hb, hG.2.trans (hb.mono hG.2.size)⟩)
 case s1_p3 =>
  refine oweP rfl fun a wx val L hG hi hW hV hN hO K hK => ?_
  have e3 : a.tmps[3]? = some (.pointer (some ⟨w.heap.size, 0, none⟩)) := (hO 3).trans (by rfl)
  clear hV hN hO
  go_simp
  exact hK.out _ _ (by rw [O1, upd_at] <;> (congr 1 <;> omega)) (Below.refl _ _) (hG)
 case s2_p3 =>
  refine oweP rfl fun a wx val L hG hi hW hV hN hO K hK => ?_
  have e10 := hN 1 10
  have f10 := hV 1
  rw [O1] at f10; rw [f10] at e10; clear f10
  clear hV hN hO
  obtain ⟨a0, a1, a2⟩ := hG.1.cells
  go_simp
  exact hK.out _ _ (by rw [O2, upd_at] <;> (congr 1 <;> omega)) (Below.refl _ _) (hG)
 case s3_p3 =>
  refine oweP rfl fun a wx val L hG hi hW hV hN hO K hK => ?_
  have e9 := hN 0 9
  have f9 := hV 0
  rw [O0] at f9; obtain ⟨g, hv, hmm⟩ := f9; rw [hv] at e9
  have e11 := hN 2 11
  have f11 := hV 2
  rw [O2] at f11; rw [f11] at e11; clear f11
  clear hV hN hO
  have hl9 := HL.out hmm
  go_simp
  exact hK.out _ _ (by rw [O3, upd_at] <;> (congr 1 <;> omega)) (Below.refl _ _) (hG)
 case s4_p3 =>
  refine oweP rfl fun a wx val L hG hi hW hV hN hO K hK => ?_
  have e0 : a.tmps[0]? = some (.string s) := (hO 0).trans (by rfl)
  clear hV hN hO
  go_simp
  exact hK.out _ _ (by rw [O4, upd_at] <;> (congr 1 <;> omega)) (Below.refl _ _) (hG)
 case s5_p3 =>
  refine oweP rfl fun a wx val L hG hi hW hV hN hO K hK => ?_
  have e3 : a.tmps[3]? = some (.pointer (some ⟨w.heap.size, 0, none⟩)) := (hO 3).trans (by rfl)
  clear hV hN hO
  obtain ⟨a0, a1, a2⟩ := hG.1.cells
  go_simp
  exact hK.out _ _ (by rw [O5, upd_at] <;> (congr 1 <;> omega)) (Below.refl _ _) (hG)
 case s6_p3 =>
  refine oweP rfl fun a wx val L hG hi hW hV hN hO K hK => ?_
  have e12 := hN 3 12
  have f12 := hV 3
  rw [O3] at f12; rw [f12] at e12; clear f12
  have e13 := hN 4 13
  have f13 := hV 4
  rw [O4] at f13; rw [f13] at e13; clear f13
  have e14 := hN 5 14
  have f14 := hV 5
  rw [O5] at f14; rw [f14] at e14; clear f14
  clear hV hN hO
  go_simp
  refine (c2 _).mono ?_
  rintro e w11 ⟨rfl, hb⟩
  exact hK.out _ _ (by rw [O6, upd_at]) (hb) (⟨hG.1.on hb, hG.2.trans (hb.mono hG.2.size)⟩)
 case s7_p3 =>
  refine oweP rfl fun a wx val L hG hi hW hV hN hO K hK => ?_
  have e15 := hN 6 15
  have f15 := hV 6
  rw [O6] at f15; rw [f15] at e15; clear f15
  clear hV hN hO
  go_simp
  exact hK.out _ _ (by rw [O7, upd_at] <;> (congr 1 <;> omega)) (Below.refl _ _) (hG)
 case s8_p3 =>
  refine oweP rfl fun a wx val L hG hi hW hV hN hO K hK => ?_
  have e15 := hN 6 15
  have f15 := hV 6
  rw [O6] at f15; rw [f15] at e15; clear f15
  clear hV hN hO
  go_simp
  exact hK.out _ _ (by rw [O8, upd_at] <;> (congr 1 <;> omega)) (Below.refl _ _) (hG)
 case s9_p3 =>
  refine oweP rfl fun a wx val L hG hi hW hV hN hO K hK => ?_
  have e16 := hN 7 16
  have f16 := hV 7
  rw [O7] at f16; rw [f16] at e16; clear f16
  clear hV hN hO
  go_simp
  exact hK.out _ _ (by rw [O9, upd_at] <;> (congr 1 <;> omega)) (Below.refl _ _) (hG)
 case s10_p3 =>
  refine oweP rfl fun a wx val L hG hi hW hV hN hO K hK => ?_
  have e17 := hN 8 17
  have f17 := hV 8
  rw [O8] at f17; rw [f17] at e17; clear f17
  clear hV hN hO
  go_simp
  exact hK.out _ _ (by rw [O10, upd_at] <;> (congr 1 <;> omega)) (Below.refl _ _) (hG)
 intro val wx L hG hV
 have f0 := hV 0
 rw [O0] at f0
 have f1 := hV 1
 rw [O1] at f1
 have f2 := hV 2
 rw [O2] at f2
 have f3 := hV 3
 rw [O3] at f3
 have f4 := hV 4
 rw [O4] at f4
 have f5 := hV 5
 rw [O5] at f5
 have f6 := hV 6
 rw [O6] at f6
 have f7 := hV 7
 rw [O7] at f7
 have f8 := hV 8
 rw [O8] at f8
 have f9 := hV 9
 rw [O9] at f9
 have f10 := hV 10
 rw [O10] at f10
 clear hV O0 O1 O2 O3 O4 O5 O6 O7 O8 O9 O10
 simp only [putAll, Act.put, List.setIfInBounds_toArray, List.set_cons_zero, List.set_cons_succ]
 generalize val 0 = z0, val 1 = z1, val 2 = z2, val 3 = z3, val 4 = z4, val 5 = z5, val 6 = z6, val 7 = z7, val 8 = z8, val 9 = z9, val 10 = z10 at *
 subst f1 f2 f3 f4 f5 f6 f7 f8 f9 f10
 clear HVD
 obtain ⟨hF1, hB1⟩ := hG
 have HB1 := hid hB1; clear hB1 hF1 HF HB HL
 go_wp2_with fail
 go_ret2
 exact ⟨rfl, HB1.out⟩
theorem passP2 (s : ByteArray) (a m : Int) (S : ByteArray) (B : Bool) (c1 : ∀ W, Calls Tryz.prog 32 #[flt 2 a m] W fun e w' => e = .returned (.bool true) ∧ Below W.heap.size W w') (c2 : ∀ W, Calls Tryz.prog 117 #[.string s, flt 2 a m] W fun e w' => e = passE S B ∧ Below W.heap.size W w') (w : World) :
  Calls Tryz.prog 30 #[.string s, flt 2 a m] w fun e w' => e = passE S B ∧ Below w.heap.size w w' := by
 have HL : Hid (∀ {W : World} {g : Nat}, BMap W g → (Instr.lookup 110 (.map (some g)) (.int .i64 2) false).run Tryz.prog W = .ok (.func (.func 117) #[] #[]) W) := hid fun h => by have := look_at h 2 false; exact this
 go_enter Tryz.func30, Tryz.ntmps30
 go_wp2_with fail
 have hf := FltAt.new w 2 a m
 have hB := Joins.below_alloc1 w (.cells #[.int .i64 2, .int .i64 a, .int .i64 m] 61)
 generalize w.alloc (.cells #[.int .i64 2, .int .i64 a, .int .i64 m] 61) = X at *
 refine (c1 _).mono ?_; rintro e w1 ⟨rfl, hb1⟩
 have HF := hid (hf.on hb1); clear hf
 have HB := hid (hB.trans (hb1.mono hB.size)); clear hB hb1
 go_wp2_with fail
 have HV : ∃ O : Nat → (Nat → Value) → World → Prop, O = (fun ix u wv => match ix with
  | 0 => ∃ g, u 0 = .map (some g) ∧ BMap wv g
  | 1 => u 1 = .pointer (some ⟨w.heap.size, 0, none⟩)
  | 2 => u 2 = .int .i64 2
  | 3 => u 3 = .func (.func 117) #[] #[]
  | 4 => u 4 = .string s
  | 5 => u 5 = flt 2 a m
  | 6 => u 6 = .tuple #[.string S, .bool B]
  | 7 => u 7 = .string S
  | 8 => u 8 = .bool B
  | 9 => u 9 = .string S
  | 10 => u 10 = .bool B
  | _ => True) := ⟨_, rfl⟩
 obtain ⟨O, hd7⟩ := HV
 have O0 : ∀ u wv, O 0 u wv = (∃ g, u 0 = .map (some g) ∧ BMap wv g) := fun _ _ => by subst hd7; rfl
 have O1 : ∀ u wv, O 1 u wv = (u 1 = .pointer (some ⟨w.heap.size, 0, none⟩)) := fun _ _ => by subst hd7; rfl
 have O2 : ∀ u wv, O 2 u wv = (u 2 = .int .i64 2) := fun _ _ => by subst hd7; rfl
 have O3 : ∀ u wv, O 3 u wv = (u 3 = .func (.func 117) #[] #[]) := fun _ _ => by subst hd7; rfl
 have O4 : ∀ u wv, O 4 u wv = (u 4 = .string s) := fun _ _ => by subst hd7; rfl
 have O5 : ∀ u wv, O 5 u wv = (u 5 = flt 2 a m) := fun _ _ => by subst hd7; rfl
 have O6 : ∀ u wv, O 6 u wv = (u 6 = .tuple #[.string S, .bool B]) := fun _ _ => by subst hd7; rfl
 have O7 : ∀ u wv, O 7 u wv = (u 7 = .string S) := fun _ _ => by subst hd7; rfl
 have O8 : ∀ u wv, O 8 u wv = (u 8 = .bool B) := fun _ _ => by subst hd7; rfl
 have O9 : ∀ u wv, O 9 u wv = (u 9 = .string S) := fun _ _ => by subst hd7; rfl
 have O10 : ∀ u wv, O 10 u wv = (u 10 = .bool B) := fun _ _ => by subst hd7; rfl
 have HVD := hid hd7
 clear hd7
 refine region_phase (V := O) (drop := fun _ _ => false) (G := fun L wv => FltAt wv w.heap.size 2 a m ∧ Below w.heap.size w wv) (Rel := fun jx wv wv' => Below wv.heap.size wv wv') (by kernel_rfl) (by kernel_rfl) ⟨HF.out.on (Below.refl _ _).drew, HB.out.trans ((Below.refl _ _).drew.mono HB.out.size)⟩ ?hmonop4 ?hdepp4 ⟨?s0_p4, ?s1_p4, ?s2_p4, ?s3_p4, ?s4_p4, ?s5_p4, ?s6_p4, ?s7_p4, ?s8_p4, ?s9_p4, ?s10_p4, trivial⟩ ?behindp4
 case hmonop4 =>
  intro ix jx u wv wv' hij hw hd hr
  rw [HVD.out]
  dsimp only
  split <;> intro h <;> first | exact trivial | exact h | (have hb := hr; first | (obtain ⟨g, e, h⟩ := h; exact ⟨g, e, h.on hb⟩))
 case hdepp4 =>
  intro ix u u' wv h1 h2
  rw [HVD.out]
  dsimp only
  split <;> intro h <;> first | exact trivial | (rw [← h1]; exact h) | exact h
 case s0_p4 =>
  refine oweP rfl fun a wx val L hG hi hW hV hN hO K hK => ?_
  clear hV hN hO
  go_simp
  refine (becomes_any _).mono ?_
  rintro en w11 ⟨rfl, hb, hq⟩
  exact hK.out _ _ (by rw [O0, upd_at]; exact ⟨_, rfl, hq⟩) hb (⟨hG.1.on hb, hG.2.trans (hb.mono hG.2.size)⟩)
 case s1_p4 =>
  refine oweP rfl fun a wx val L hG hi hW hV hN hO K hK => ?_
  have e3 : a.tmps[3]? = some (.pointer (some ⟨w.heap.size, 0, none⟩)) := (hO 3).trans (by rfl)
  clear hV hN hO
  go_simp
  exact hK.out _ _ (by rw [O1, upd_at] <;> (congr 1 <;> omega)) (Below.refl _ _) (hG)
 case s2_p4 =>
  refine oweP rfl fun a wx val L hG hi hW hV hN hO K hK => ?_
  have e10 := hN 1 10
  have f10 := hV 1
  rw [O1] at f10; rw [f10] at e10; clear f10
  clear hV hN hO
  obtain ⟨a0, a1, a2⟩ := hG.1.cells
  go_simp
  exact hK.out _ _ (by rw [O2, upd_at] <;> (congr 1 <;> omega)) (Below.refl _ _) (hG)
 case s3_p4 =>
  refine oweP rfl fun a wx val L hG hi hW hV hN hO K hK => ?_
  have e9 := hN 0 9
  have f9 := hV 0
  rw [O0] at f9; obtain ⟨g, hv, hmm⟩ := f9; rw [hv] at e9
  have e11 := hN 2 11
  have f11 := hV 2
  rw [O2] at f11; rw [f11] at e11; clear f11
  clear hV hN hO
  have hl9 := HL.out hmm
  go_simp
  exact hK.out _ _ (by rw [O3, upd_at] <;> (congr 1 <;> omega)) (Below.refl _ _) (hG)
 case s4_p4 =>
  refine oweP rfl fun a wx val L hG hi hW hV hN hO K hK => ?_
  have e0 : a.tmps[0]? = some (.string s) := (hO 0).trans (by rfl)
  clear hV hN hO
  go_simp
  exact hK.out _ _ (by rw [O4, upd_at] <;> (congr 1 <;> omega)) (Below.refl _ _) (hG)
 case s5_p4 =>
  refine oweP rfl fun a wx val L hG hi hW hV hN hO K hK => ?_
  have e3 : a.tmps[3]? = some (.pointer (some ⟨w.heap.size, 0, none⟩)) := (hO 3).trans (by rfl)
  clear hV hN hO
  obtain ⟨a0, a1, a2⟩ := hG.1.cells
  go_simp
  exact hK.out _ _ (by rw [O5, upd_at] <;> (congr 1 <;> omega)) (Below.refl _ _) (hG)
 case s6_p4 =>
  refine oweP rfl fun a wx val L hG hi hW hV hN hO K hK => ?_
  have e12 := hN 3 12
  have f12 := hV 3
  rw [O3] at f12; rw [f12] at e12; clear f12
  have e13 := hN 4 13
  have f13 := hV 4
  rw [O4] at f13; rw [f13] at e13; clear f13
  have e14 := hN 5 14
  have f14 := hV 5
  rw [O5] at f14; rw [f14] at e14; clear f14
  clear hV hN hO
  go_simp
  refine (c2 _).mono ?_
  rintro e w11 ⟨rfl, hb⟩
  exact hK.out _ _ (by rw [O6, upd_at]) (hb) (⟨hG.1.on hb, hG.2.trans (hb.mono hG.2.size)⟩)
 case s7_p4 =>
  refine oweP rfl fun a wx val L hG hi hW hV hN hO K hK => ?_
  have e15 := hN 6 15
  have f15 := hV 6
  rw [O6] at f15; rw [f15] at e15; clear f15
  clear hV hN hO
  go_simp
  exact hK.out _ _ (by rw [O7, upd_at] <;> (congr 1 <;> omega)) (Below.refl _ _) (hG)
 case s8_p4 =>
  refine oweP rfl fun a wx val L hG hi hW hV hN hO K hK => ?_
  have e15 := hN 6 15
  have f15 := hV 6
  rw [O6] at f15; rw [f15] at e15; clear f15
  clear hV hN hO
  go_simp
  exact hK.out _ _ (by rw [O8, upd_at] <;> (congr 1 <;> omega)) (Below.refl _ _) (hG)
 case s9_p4 =>
  refine oweP rfl fun a wx val L hG hi hW hV hN hO K hK => ?_
  have e16 := hN 7 16
  have f16 := hV 7
  rw [O7] at f16; rw [f16] at e16; clear f16
  clear hV hN hO
  go_simp
  exact hK.out _ _ (by rw [O9, upd_at] <;> (congr 1 <;> omega)) (Below.refl _ _) (hG)
 case s10_p4 =>
  refine oweP rfl fun a wx val L hG hi hW hV hN hO K hK => ?_
  have e17 := hN 8 17
  have f17 := hV 8
  rw [O8] at f17; rw [f17] at e17; clear f17
  clear hV hN hO
  go_simp
  exact hK.out _ _ (by rw [O10, upd_at] <;> (congr 1 <;> omega)) (Below.refl _ _) (hG)
 intro val wx L hG hV
 have f0 := hV 0
 rw [O0] at f0
 have f1 := hV 1
 rw [O1] at f1
 have f2 := hV 2
 rw [O2] at f2
 have f3 := hV 3
 rw [O3] at f3
 have f4 := hV 4
 rw [O4] at f4
 have f5 := hV 5
 rw [O5] at f5
 have f6 := hV 6
 rw [O6] at f6
 have f7 := hV 7
 rw [O7] at f7
 have f8 := hV 8
 rw [O8] at f8
 have f9 := hV 9
 rw [O9] at f9
 have f10 := hV 10
 rw [O10] at f10
 clear hV O0 O1 O2 O3 O4 O5 O6 O7 O8 O9 O10
 simp only [putAll, Act.put, List.setIfInBounds_toArray, List.set_cons_zero, List.set_cons_succ]
 generalize val 0 = z0, val 1 = z1, val 2 = z2, val 3 = z3, val 4 = z4, val 5 = z5, val 6 = z6, val 7 = z7, val 8 = z8, val 9 = z9, val 10 = z10 at *
 subst f1 f2 f3 f4 f5 f6 f7 f8 f9 f10
 clear HVD
 obtain ⟨hF1, hB1⟩ := hG
 have HB1 := hid hB1; clear hB1 hF1 HF HB HL
 go_wp2_with fail
 go_ret2
 exact ⟨rfl, HB1.out⟩
theorem passP_any (s : ByteArray) (k a m : Int) (hs : s.size < 2000) (w : World) :
  Calls Tryz.prog 30 #[.string s, flt k a m] w fun e w' => e = passE (passS s k a m) (passB k a m) ∧ Below w.heap.size w w' := by
 have c1 := fun W => may9_any k a m W
 cases hM : mayB k a m
 ·have hS : passS s k a m = noS := by unfold passS; rw [hM]; rfl
  have hBB : passB k a m = false := by unfold passB; rw [hM]; rfl
  rw [hS, hBB]
  rw [hM] at c1
  clear hM hS hBB
  go_enter Tryz.func30, Tryz.ntmps30
  go_wp2_with fail
  have hB := Joins.below_alloc1 w (.cells #[.int .i64 k, .int .i64 a, .int .i64 m] 61)
  generalize w.alloc (.cells #[.int .i64 k, .int .i64 a, .int .i64 m] 61) = X at *
  refine (c1 _).mono ?_; rintro e w1 ⟨rfl, hb1⟩
  go_wp2_with fail
  go_ret2
  exact ⟨rfl, hB.trans (hb1.mono hB.size)⟩
 ·obtain ⟨hk, ha, hm⟩ := (mayB_iff _ _ _).1 hM
  rw [hM] at c1
  unfold passS passB
  rw [hM, if_pos rfl]
  rcases hk with rfl | rfl | rfl
  ·exact passP0 s a m _ _ c1 (fun W => pass9_any s 0 a m (by omega) W) w
  ·exact passP1 s a m _ _ c1 (fun W => lose9_any s 1 a m W) w
  ·exact passP2 s a m _ _ c1 (fun W => spoil9_any s 2 a m hs ha W) w
theorem passS_size (s : ByteArray) (k a m : Int) : (passS s k a m).size ≤ s.size := by
 unfold passS
 have h0 : noS.size ≤ s.size := Nat.zero_le _
 split
 ·split
  ·exact Nat.le_refl _
  split
  ·exact h0
  rw [Lib.size_eq, Lib.size_eq]
  show (spoilT _ _ _).length ≤ _
  unfold spoilT
  split
  ·simp
  ·rw [C.burstI_length]; exact Nat.le_refl _
 ·exact h0
def hearV (S : ByteArray) (B : Bool) (dev win : Int) : Int := if B = true ∧ S.data.toList ≠ [] then (if insideB dev win = true ∧ decEF S.data.toList = 0 then 1 else 2) else 0
def hearF (S : ByteArray) (B : Bool) (dev win : Int) : Fr := if hearV S B dev win = 1 then decFF S.data.toList else zeroFr
def HearPost (h : Int) (f : Fr) (w : World) (e : Ending) (w' : World) : Prop := Below w.heap.size w w' ∧ ∃ A c A' c', e = .returned (.tuple #[fv f (.slice A f.ps.length c) (.slice A' f.es.length c'), .int .i64 h]) ∧ F.Pcs w' w'.heap.size A f.ps ∧ Ents w' w'.heap.size A' f.es
theorem hear_none {h : Int} {w w' : World} (hb : Below w.heap.size w w') : HearPost h zeroFr w (.returned (.tuple #[fv zeroFr (.slice none 0 0) (.slice none 0 0), .int .i64 h])) w' := ⟨hb, none, 0, none, 0, rfl, F.Pcs.nil _ _ _, Ents.nil _ _ _⟩
theorem hear_res {Y : World} {b : Nat} {f : Fr} {u v : Value} {h : Int} {T : Array Value} (hp : FrAt Y b f u v) (h8 : T[8]? = some (.pointer (some ⟨b, 0, none⟩))) (h9 : T[9]? = some (.int .i64 h)) :
  (results Tryz.f34 T).run Tryz.prog Y = .ok (.tuple #[fv f u v, .int .i64 h]) Y := by
 obtain ⟨r0, r1, r2, r3, r4, r5, r6, r7, r8, r9, r10, r11, r12, r13, r14⟩ := hp.cells
 simp [results, Tryz.results34, go_sem, h8, h9, r0, r1, r2, r3, r4, r5, r6, r7, r8, r9, r10, r11, r12, r13, r14]
theorem hear_any (s : ByteArray) (k a m dev win : Int) (hs : s.size ≤ 1000) (w : World) (L : Laid w) :
  Calls Tryz.prog 34 #[.string s, flt k a m, .int .i64 dev, .int .i64 win] w (HearPost (hearV (passS s k a m) (passB k a m) dev win) (hearF (passS s k a m) (passB k a m) dev win) w) := by
 have c1 := fun W => passP_any s k a m (by omega) W
 have c2 := fun W => inside_any dev win W
 have hS := passS_size s k a m
 have c3 := hid (fun W (h : Laid W) => decFQ_any (passS s k a m) (by omega) W h)
 have HV : Hid (hearV (passS s k a m) (passB k a m) dev win = if passB k a m = true ∧ (passS s k a m).data.toList ≠ [] then (if insideB dev win = true ∧ decEF (passS s k a m).data.toList = 0 then 1 else 2) else 0) := hid rfl
 have HFF : Hid (hearF (passS s k a m) (passB k a m) dev win = if hearV (passS s k a m) (passB k a m) dev win = 1 then decFF (passS s k a m).data.toList else zeroFr) := hid rfl
 generalize hearF (passS s k a m) (passB k a m) dev win = RF at *
 generalize hearV (passS s k a m) (passB k a m) dev win = RV at *
 generalize passS s k a m = S at *
 generalize passB k a m = B at *
 generalize insideB dev win = I at *
 have HL := hid L; clear L hS hs
 have b0 := Joins.below_alloc2 w (.cells #[.int .i64 k, .int .i64 a, .int .i64 m] 61) (.cells (fc zeroFr (.slice none 0 0) (.slice none 0 0)) 29)
 have f0 := FrAt.new (w.alloc (.cells #[.int .i64 k, .int .i64 a, .int .i64 m] 61)) zeroFr (.slice none 0 0) (.slice none 0 0)
 have g0 := (FltAt.new w k a m).on (Joins.below_alloc1 _ (.cells (fc zeroFr (.slice none 0 0) (.slice none 0 0)) 29))
 rw [World.size_alloc] at f0
 obtain ⟨X, hX⟩ : ∃ X, X = (w.alloc (.cells #[.int .i64 k, .int .i64 a, .int .i64 m] 61)).alloc (.cells (fc zeroFr (.slice none 0 0) (.slice none 0 0)) 29) := ⟨_, rfl⟩
 rw [← hX] at b0 f0 g0
 simp only [fc, zeroFr] at hX
 have HB0 := hid b0
 have HF0 := hid f0
 clear b0 f0
 obtain ⟨a0, a1, a2⟩ := g0.cells
 cases B
 ·have hv : RV = 0 := by rw [HV.out, if_neg (by simp)]
  have hf : RF = zeroFr := by rw [HFF.out, hv, if_neg (by decide)]
  rw [hv, hf]
  clear HV HFF hv hf c2 c3
  go_enter Tryz.func34, Tryz.ntmps34
  (try rw [← hX])
  go_wp2_with fail
  (try rw [← hX])
  refine (c1 _).mono ?_; rintro e w1 ⟨rfl, hb1⟩
  have hF1 := HF0.out.on hb1
  have hB1 := HB0.out.trans (hb1.mono HB0.out.size)
  obtain ⟨z0, z1, z2, z3, z4, z5, z6, z7, z8, z9, z10, z11, z12, z13, z14⟩ := hF1.cells
  have zf := hF1.frozen
  have HP := hid (putF_at hF1 zeroFr (.slice none 0 0) (.slice none 0 0))
  have HBP := hid (putF_below hB1 (b := w.heap.size + 1) (Nat.le_succ _) zeroFr (.slice none 0 0) (.slice none 0 0))
  clear hF1 hB1 hb1 HF0 HB0 a0 a1 a2 g0
  go_wp2_with fail
  obtain ⟨Y, hY⟩ : ∃ Y, Y = putF w1 (w.heap.size + 1) zeroFr (.slice none 0 0) (.slice none 0 0) := ⟨_, rfl⟩
  have hp := HP.out
  have hbp := HBP.out
  rw [← hY] at hp hbp
  unfold putF at hY
  simp only [zeroFr] at hY
  simp only [← hY]
  exact bodyPost_ret (v := .tuple #[fv zeroFr (.slice none 0 0) (.slice none 0 0), .int .i64 0]) (hear_res hp (by rfl) (by rfl)) rfl (hear_none hbp)
 by_cases hE : S.data.toList = []
 ·have hv : RV = 0 := by rw [HV.out, if_neg (by simp [hE])]
  have hf : RF = zeroFr := by rw [HFF.out, hv, if_neg (by decide)]
  rw [hv, hf]
  clear HV HFF hv hf c2 c3
  have hs0 : S.toList.isEmpty = true := by rw [ByteArray.toList_eq, hE]; rfl
  clear hE
  go_enter Tryz.func34, Tryz.ntmps34
  (try rw [← hX])
  go_wp2_with fail
  (try rw [← hX])
  refine (c1 _).mono ?_; rintro e w1 ⟨rfl, hb1⟩
  have hF1 := HF0.out.on hb1
  have hB1 := HB0.out.trans (hb1.mono HB0.out.size)
  obtain ⟨z0, z1, z2, z3, z4, z5, z6, z7, z8, z9, z10, z11, z12, z13, z14⟩ := hF1.cells
  have zf := hF1.frozen
  have HP := hid (putF_at hF1 zeroFr (.slice none 0 0) (.slice none 0 0))
  have HBP := hid (putF_below hB1 (b := w.heap.size + 1) (Nat.le_succ _) zeroFr (.slice none 0 0) (.slice none 0 0))
  clear hF1 hB1 hb1 HF0 HB0 a0 a1 a2 g0
  go_wp2_with fail
  obtain ⟨Y, hY⟩ : ∃ Y, Y = putF w1 (w.heap.size + 1) zeroFr (.slice none 0 0) (.slice none 0 0) := ⟨_, rfl⟩
  have hp := HP.out
  have hbp := HBP.out
  rw [← hY] at hp hbp
  unfold putF at hY
  simp only [zeroFr] at hY
  simp only [← hY]
  exact bodyPost_ret (v := .tuple #[fv zeroFr (.slice none 0 0) (.slice none 0 0), .int .i64 0]) (hear_res hp (by rfl) (by rfl)) rfl (hear_none hbp)
 have hs0 : S.toList.isEmpty = false := by rw [List.isEmpty_eq_false_iff, ByteArray.toList_eq]; exact hE
 cases I
 ·have hv : RV = 2 := by rw [HV.out, if_pos ⟨rfl, hE⟩, if_neg (by simp)]
  have hf : RF = zeroFr := by rw [HFF.out, hv, if_neg (by decide)]
  rw [hv, hf]
  clear HV HFF hv hf c3 hE
  go_enter Tryz.func34, Tryz.ntmps34
  (try rw [← hX])
  go_wp2_with fail
  (try rw [← hX])
  refine (c1 _).mono ?_; rintro e w1 ⟨rfl, hb1⟩
  have hF1 := HF0.out.on hb1
  have hB1 := HB0.out.trans (hb1.mono HB0.out.size)
  obtain ⟨z0, z1, z2, z3, z4, z5, z6, z7, z8, z9, z10, z11, z12, z13, z14⟩ := hF1.cells
  have zf := hF1.frozen
  have HP := hid (putF_at hF1 zeroFr (.slice none 0 0) (.slice none 0 0))
  have HBP := hid (putF_below hB1 (b := w.heap.size + 1) (Nat.le_succ _) zeroFr (.slice none 0 0) (.slice none 0 0))
  clear hF1 hB1 hb1 HF0 HB0 a0 a1 a2 g0
  go_wp2_with fail; refine (c2 _).mono ?_; rintro e w2 ⟨rfl, rfl⟩
  go_wp2_with fail
  obtain ⟨Y, hY⟩ : ∃ Y, Y = putF w1 (w.heap.size + 1) zeroFr (.slice none 0 0) (.slice none 0 0) := ⟨_, rfl⟩
  have hp := HP.out
  have hbp := HBP.out
  rw [← hY] at hp hbp
  unfold putF at hY
  simp only [zeroFr] at hY
  simp only [← hY]
  exact bodyPost_ret (v := .tuple #[fv zeroFr (.slice none 0 0) (.slice none 0 0), .int .i64 2]) (hear_res hp (by rfl) (by rfl)) rfl (hear_none hbp)
 have HV1 : Hid (RV = if decEF S.data.toList = 0 then 1 else 2) := hid (by rw [HV.out, if_pos ⟨rfl, hE⟩]; simp)
 clear HV hE
 go_enter Tryz.func34, Tryz.ntmps34
 (try rw [← hX])
 go_wp2_with fail
 (try rw [← hX])
 refine (c1 _).mono ?_; rintro e w1 ⟨rfl, hb1⟩
 have HF1 := hid (HF0.out.on hb1)
 have HB1 := hid (HB0.out.trans (hb1.mono HB0.out.size))
 clear hb1 HF0 HB0 a0 a1 a2 g0
 have HL1 := hid (HL.out.below HB1.out)
 go_wp2_with fail; refine (c2 _).mono ?_; rintro e w2 ⟨rfl, rfl⟩
 go_wp2_with fail; refine (c3.out _ HL1.out).mono ?_; rintro e w3 ⟨hb3, A, c, A', c', rfl, hpe⟩
 clear c3 c2 c1 HL1 HL
 generalize decFF S.data.toList = DF at *
 generalize decEF S.data.toList = DE at *
 have HF3 := hid (HF1.out.on hb3)
 have HB3 := hid (HB1.out.trans (hb3.mono HB1.out.size))
 have HPE := hid hpe
 have HW1 := hid ((Array.getElem?_eq_some_iff.1 HF1.out).1)
 clear hb3 HF1 HB1 hpe
 have b4 := Joins.below_alloc1 w3 (.cells (fc zeroFr (.slice none 0 0) (.slice none 0 0)) 29)
 have f4 := FrAt.new w3 zeroFr (.slice none 0 0) (.slice none 0 0)
 have g4 : (w3.alloc (.cells (fc zeroFr (.slice none 0 0) (.slice none 0 0)) 29)).heap.size = w3.heap.size + 1 := by simp
 obtain ⟨Y, hY⟩ : ∃ Y, w3.alloc (.cells (fc zeroFr (.slice none 0 0) (.slice none 0 0)) 29) = Y := ⟨_, rfl⟩
 rw [hY] at b4 f4 g4
 simp only [fc, zeroFr] at hY
 have hy1 := (Array.getElem?_eq_some_iff.1 f4).1
 obtain ⟨z0, z1, z2, z3, z4, z5, z6, z7, z8, z9, z10, z11, z12, z13, z14⟩ := f4.cells
 have zf := f4.frozen
 have HP := hid (putF_at f4 DF (.slice A DF.ps.length c) (.slice A' DF.es.length c'))
 have HQ := hid (fun (g : Nat) (h : g ≠ w3.heap.size) => putF_far Y h DF (.slice A DF.ps.length c) (.slice A' DF.es.length c'))
 have HZ := hid (putF_size Y w3.heap.size DF (.slice A DF.ps.length c) (.slice A' DF.es.length c'))
 have HB4 := hid b4
 have HG4 := hid g4
 clear f4 g4 hy1
 have HBP := hid (putF_below (HB3.out.trans (b4.mono HB3.out.size)) (b := w3.heap.size) HB3.out.size DF (.slice A DF.ps.length c) (.slice A' DF.es.length c'))
 have HFY := hid (HF3.out.on b4)
 have HKY := hid (fun k (h : k < w3.heap.size) => b4.block k h)
 clear b4
 go_upto_region 7 with fail
 obtain ⟨Z, hZ⟩ : ∃ Z, Z = putF Y w3.heap.size DF (.slice A DF.ps.length c) (.slice A' DF.es.length c') := ⟨_, rfl⟩
 have hp := HP.out
 have hq := HQ.out
 have hz := HZ.out
 have hbp := HBP.out
 rw [← hZ] at hp hq hz hbp
 unfold putF at hZ
 simp only [← hZ]
 clear hZ hY HP HQ HZ HBP z0 z1 z2 z3 z4 z5 z6 z7 z8 z9 z10 z11 z12 z13 z14 zf
 have hlt := (Array.getElem?_eq_some_iff.1 HF3.out).1
 have hFZ : FrAt Z (w.heap.size + 1) zeroFr (.slice none 0 0) (.slice none 0 0) := (hq _ (by omega)).trans HFY.out
 have HSZ : Hid (Z.heap.size = w3.heap.size + 1) := hid (hz.trans HG4.out)
 have HKZ : Hid (∀ k, k < w3.heap.size → Z.heap[k]? = w3.heap[k]?) := hid fun k h => (hq k (by omega)).trans (HKY.out k h)
 have HLT := hid hlt
 have HPZ := hid hp
 have HBZ := hid hbp
 clear hlt hq hz hp hbp HF3 HB3 HFY HKY HB4 HG4
 obtain ⟨z0, z1, z2, z3, z4, z5, z6, z7, z8, z9, z10, z11, z12, z13, z14⟩ := hFZ.cells
 have zf := hFZ.frozen
 by_cases hD : DE = 0
 ·subst hD
  have hv : RV = 1 := HV1.out.trans (if_pos rfl)
  have hf : DF = RF := by rw [HFF.out, hv, if_pos rfl]
  clear HV1 HFF
  subst hf
  subst hv
  obtain ⟨r0, r1, r2, r3, r4, r5, r6, r7, r8, r9, r10, r11, r12, r13, r14⟩ := HPZ.out.cells
  have HP := hid (putF_at hFZ DF (.slice A DF.ps.length c) (.slice A' DF.es.length c'))
  have HQ := hid (fun (g : Nat) (h : g ≠ w.heap.size + 1) => putF_far Z h DF (.slice A DF.ps.length c) (.slice A' DF.es.length c'))
  have HZ := hid (putF_size Z (w.heap.size + 1) DF (.slice A DF.ps.length c) (.slice A' DF.es.length c'))
  have HBP := hid (putF_below HBZ.out (b := w.heap.size + 1) (Nat.le_succ _) DF (.slice A DF.ps.length c) (.slice A' DF.es.length c'))
  go_wp2_with fail
  obtain ⟨V, hV⟩ : ∃ V, V = putF Z (w.heap.size + 1) DF (.slice A DF.ps.length c) (.slice A' DF.es.length c') := ⟨_, rfl⟩
  have hp := HP.out
  have hq := HQ.out
  have hz := HZ.out
  have hbp := HBP.out
  rw [← hV] at hp hq hz hbp
  unfold putF at hV
  simp only [← hV]
  have hpe2 := HPE.out V (fun k h1 h2 => (hq k (by have := HW1.out; omega)).trans (HKZ.out k h2)) (by have := HSZ.out; omega)
  have hpost : HearPost 1 DF w (.returned (.tuple #[fv DF (.slice A DF.ps.length c) (.slice A' DF.es.length c'), .int .i64 1])) V := ⟨hbp, A, c, A', c', rfl, hpe2⟩
  exact bodyPost_ret (v := .tuple #[fv DF (.slice A DF.ps.length c) (.slice A' DF.es.length c'), .int .i64 1]) (hear_res hp (by rfl) (by rfl)) rfl hpost
 ·have hv : RV = 2 := HV1.out.trans (if_neg hD)
  have hf : RF = zeroFr := by rw [HFF.out, hv, if_neg (by decide)]
  clear HV1 HFF
  subst hf
  subst hv
  have hD2 : (DE != 0) = true := by rw [bne_iff_ne]; exact hD
  clear hD
  have HP := hid (putF_at hFZ zeroFr (.slice none 0 0) (.slice none 0 0))
  have HBP := hid (putF_below HBZ.out (b := w.heap.size + 1) (Nat.le_succ _) zeroFr (.slice none 0 0) (.slice none 0 0))
  go_wp2_with fail
  obtain ⟨V, hV⟩ : ∃ V, V = putF Z (w.heap.size + 1) zeroFr (.slice none 0 0) (.slice none 0 0) := ⟨_, rfl⟩
  have hp := HP.out
  have hbp := HBP.out
  rw [← hV] at hp hbp
  unfold putF at hV
  simp only [zeroFr] at hV
  simp only [← hV]
  exact bodyPost_ret (v := .tuple #[fv zeroFr (.slice none 0 0) (.slice none 0 0), .int .i64 2]) (hear_res hp (by rfl) (by rfl)) rfl (hear_none hbp)
def devI (l : List Int) (k : Nat) : Int := l.getD k 0
theorem devOf_any (l : List Int) (k : Nat) (hl : l.length ≤ 1000000) (hk : k ≤ 1000000) (A : Option Addr) (c : Nat) (w : World) (B : Nat) (hr : V.Row w B A l) :
  Calls Tryz.prog 120 #[.slice A l.length c, .int .i64 (k : Int)] w fun e w' => e = .returned (.int .i64 (devI l k)) ∧ w = w' := by
 by_cases h : k < l.length
 ·obtain ⟨ad, rfl, hb, hc⟩ := hr (by omega)
  obtain ⟨x, hx⟩ : ∃ x, l[k]? = some x := ⟨l[k], by simp [h]⟩
  have hD : devI l k = x := by unfold devI; rw [List.getD_eq_getElem?_getD, hx]; rfl
  rw [hD]
  have hcell := hc k x hx
  have hge : decide ((k : Int) ≥ (l.length : Int)) = false := by simp; omega
  have hge2 : decide ((l.length : Int) ≤ (k : Int)) = false := by simp; omega
  clear hc hx hD hr
  generalize l.length = n at *
  go_enter Tryz.func120, Tryz.ntmps120
  go_wp2_with fail
  go_ret
  exact ⟨rfl, rfl⟩
 ·have hD : devI l k = 0 := by unfold devI; rw [List.getD_eq_getElem?_getD, List.getElem?_eq_none (by omega)]; rfl
  rw [hD]
  have hge : decide ((k : Int) ≥ (l.length : Int)) = true := by simp; omega
  have hge2 : decide ((l.length : Int) ≤ (k : Int)) = true := by simp; omega
  clear hD hr
  generalize l.length = n at *
  go_enter Tryz.func120, Tryz.ntmps120
  go_wp2_with fail
  go_ret
  exact ⟨rfl, rfl⟩
theorem pick9_any (c n : Int) (hc : (Lit.int .i64 c).wf = true) (hn : 0 < n) (w : World) :
  Calls Tryz.prog 29 #[.int .i64 c, .int .i64 n] w fun e w' => e = .returned (.int .i64 (pickI c n)) ∧ w = w' := by
 by_cases h : c < 0
 ·have hv := hid (pick_neg_value c n hc h)
  have HC := hid hc; clear hc
  go_enter Tryz.func29, Tryz.ntmps29
  go_wp2
  go_ret
  exact ⟨ret_i hv.out, rfl⟩
 ·have hv := hid (pick_pos_value c n h)
  have h0 : 0 ≤ c := by omega
  have HC := hid hc; clear hc
  go_enter Tryz.func29, Tryz.ntmps29
  go_wp2
  go_ret
  exact ⟨ret_i hv.out, rfl⟩
end Go.Proofs.YtmmbnjkdknnidaaGreatDoor
namespace Go.Proofs.YtmmbnjkdknnidaaGreatDoor
open Lib (hid)
open Go.RowKit Go.Shelf
attribute [local go_sem] Oper.semAt_some
def Flts (w : World) (B : Nat) (A : Option Addr) (l : List (Int × Int × Int)) : Prop :=
 0 < l.length → ∃ ad, A = some ad ∧ ad.block < B ∧ ∀ j f, l[j]? = some f → w.cell? (ad.add (j * 3)) = some (.int .i64 f.1) ∧ w.cell? ⟨(ad.add (j * 3)).block, (ad.add (j * 3)).off + 1, none⟩ = some (.int .i64 f.2.1) ∧ w.cell? ⟨(ad.add (j * 3)).block, (ad.add (j * 3)).off + 2, none⟩ = some (.int .i64 f.2.2)
theorem Flts.below {w w' : World} {B B' : Nat} {A : Option Addr} {l : List (Int × Int × Int)} (h : Flts w B A l) (hb : Below B' w w') (hB : B ≤ B') : Flts w' B A l := fun hn => by
 obtain ⟨ad, e, hk, hc⟩ := h hn
 refine ⟨ad, e, hk, fun j f hf => ?_⟩
 obtain ⟨h1, h2, h3⟩ := hc j f hf
 exact ⟨(hb.cell (by rw [adb]; omega)).trans h1, (hb.cell (by show (ad.add (j * 3)).block < _; rw [adb]; omega)).trans h2, (hb.cell (by show (ad.add (j * 3)).block < _; rw [adb]; omega)).trans h3⟩
def howAt (s : ByteArray) (win : Int) (devs : List Int) (l : List (Int × Int × Int)) (k : Nat) : Int :=
 match l[k]? with
 | some f => hearV (passS s f.1 f.2.1 f.2.2) (passB f.1 f.2.1 f.2.2) (devI devs k) win
 | none => 0
def howL (s : ByteArray) (win : Int) (devs : List Int) (l : List (Int × Int × Int)) (k : Nat) : List Int := (List.range k).map (howAt s win devs l)
theorem howL_length (s : ByteArray) (win : Int) (devs : List Int) (l : List (Int × Int × Int)) (k : Nat) : (howL s win devs l k).length = k := by unfold howL; simp
theorem howL_succ (s : ByteArray) (win : Int) (devs : List Int) (l : List (Int × Int × Int)) (k : Nat) : howL s win devs l (k + 1) = howL s win devs l k ++ [howAt s win devs l k] := by unfold howL; rw [List.range_succ, List.map_append]; rfl
def Boxes4 (W : World) (b : Nat) (s : ByteArray) (win : Int) (u v : Value) : Prop :=
 W.heap[b]? = some (.cells #[.string s] 9 (0, 0)) ∧ W.heap[b + 1]? = some (.cells #[.int .i64 win] 3 (0, 0)) ∧ W.heap[b + 2]? = some (.cells #[u] 22 (0, 0)) ∧ W.heap[b + 3]? = some (.cells #[v] 57 (0, 0))
theorem Boxes4.cells {W : World} {b : Nat} {s : ByteArray} {win : Int} {u v : Value} (h : Boxes4 W b s win u v) : W.cell? ⟨b, 0, none⟩ = some (.string s) ∧ W.cell? ⟨b + 1, 0, none⟩ = some (.int .i64 win) ∧ W.cell? ⟨b + 2, 0, none⟩ = some u ∧ W.cell? ⟨b + 3, 0, none⟩ = some v :=
 ⟨cell_of h.1 0, cell_of h.2.1 0, cell_of h.2.2.1 0, cell_of h.2.2.2 0⟩
theorem Boxes4.lt {W : World} {b : Nat} {s : ByteArray} {win : Int} {u v : Value} (h : Boxes4 W b s win u v) : b + 3 < W.heap.size := (Array.getElem?_eq_some_iff.1 h.2.2.2).1
theorem Boxes4.on {W W' : World} {b : Nat} {s : ByteArray} {win : Int} {u v : Value} (h : Boxes4 W b s win u v) (hb : Below W.heap.size W W') : Boxes4 W' b s win u v := by
 have hl := h.lt
 exact ⟨(hb.block b (by omega)).trans h.1, (hb.block _ (by omega)).trans h.2.1, (hb.block _ (by omega)).trans h.2.2.1, (hb.block _ hl).trans h.2.2.2⟩
def Keeps4 (b n0 : Nat) (A B : World) : Prop := (∀ i, i < 4 → B.heap[b + i]? = A.heap[b + i]?) ∧ Below n0 A B
theorem Keeps4.trans {b n0 : Nat} {A B C : World} (h : Keeps4 b n0 A B) (k : Keeps4 b n0 B C) : Keeps4 b n0 A C := ⟨fun i hi => (k.1 i hi).trans (h.1 i hi), h.2.trans k.2⟩
theorem Keeps4.boxes {b n0 : Nat} {A B : World} {s : ByteArray} {win : Int} {u v : Value} (h : Keeps4 b n0 A B) (k : Boxes4 A b s win u v) : Boxes4 B b s win u v := ⟨(h.1 0 (by omega)).trans k.1, (h.1 1 (by omega)).trans k.2.1, (h.1 2 (by omega)).trans k.2.2.1, (h.1 3 (by omega)).trans k.2.2.2⟩
theorem Keeps4.past {b n0 n : Nat} (hb : b + 4 ≤ n) (hn : n0 ≤ n) (W : World) (l : Nat) (o o' : Obj) (hl : n ≤ l) (h : W.heap[l]? = some o) (_ : o.isCells = false) (_ : o.isWalk = false) : Keeps4 b n0 W (W.putObj l o') := by
 have hl2 := (Array.getElem?_eq_some_iff.1 h).1
 have g := grownBy_putObj' W l o'
 exact ⟨fun i hi => g.block _ (by omega) (fun e => by injection e with e; omega), (Below.refl n0 W).grown g (by omega) (fun j e => by injection e with e; omega)⟩
theorem heard_in (m : Nat) (s : ByteArray) (win : Int) (u v : Value) (w : World) (A : Option Addr) (n c : Nat) (hu : u = .slice A n c) (A' : Option Addr) (n' c' : Nat) (hv : v = .slice A' n' c') : CallsIn Fence.wide m Tryz.prog 75 #[.string s, .int .i64 win, u, v] w fun e w' =>
  e = .returned (.func (.func 119) #[] #[.pointer (some ⟨w.heap.size + 3, 0, none⟩), .pointer (some ⟨w.heap.size, 0, none⟩), .pointer (some ⟨w.heap.size + 2, 0, none⟩), .pointer (some ⟨w.heap.size + 1, 0, none⟩)]) ∧
   w' = (((w.alloc (.cells #[.string s] 9)).alloc (.cells #[.int .i64 win] 3)).alloc (.cells #[u] 22)).alloc (.cells #[v] 57) := by
 subst hu hv
 refine callsIn_wide.2 ?_
 have hmf : ∀ (fn : Fn) (first cap : Array Value) (w : World), (Instr.makeFunc fn first cap).run Tryz.prog w = .ok (.func fn first cap) w := fun _ _ _ _ => rfl
 go_enter Tryz.func75, Tryz.ntmps75
 go_wp2
 go_ret
 exact ⟨rfl, rfl⟩
theorem heard_each (m : Nat) (hm : 1 ≤ m) (lq b n0 : Nat) (s : ByteArray) (hs : s.size ≤ 1000) (win : Int) (devs : List Int) (A : Option Addr) (c : Nat) (l : List (Int × Int × Int)) (A' : Option Addr) (c' : Nat) (hld : devs.length ≤ 1000000) (hll : l.length ≤ 1000000) (J Jx : List Int → World → Prop) (W : World) (hJ : AbidesFrom W.heap.size J)
  (hY : ∀ pre x W, J pre W → pre.length < l.length → YieldAt Fence.wide (m - 1) Tryz.prog lq #[.int .i64 x] W fun e W' =>
   (e = .returned (.bool true) ∧ J (pre ++ [x]) W' ∧ Keeps4 b n0 W W') ∨ (e = .returned (.bool false) ∧ Jx (pre ++ [x]) W'))
  (hB : Boxes4 W b s win (.slice A devs.length c) (.slice A' l.length c')) (hL : ∀ W', Below n0 W W' → Laid W') (hn0 : n0 ≤ W.heap.size) (hD : V.Row W n0 A devs) (hF : Flts W n0 A' l) (h0 : J [] W) :
  CallsIn Fence.wide m Tryz.prog 119 #[.func (.yield lq) #[] #[], .pointer (some ⟨b + 3, 0, none⟩), .pointer (some ⟨b, 0, none⟩), .pointer (some ⟨b + 2, 0, none⟩), .pointer (some ⟨b + 1, 0, none⟩)] W fun e W' => (∃ u, e = .returned u) ∧
   ((∃ ys, ys = howL s win devs l l.length ∧ J ys W') ∨ (∃ pre, True ∧ Jx pre W')) := by
 have HY := hid hY; clear hY
 have HD := hid hD
 have HF := hid hF
 have HL0 := hid hL
 refine callsIn_of_wp Tryz.func119 rfl trivial ?_ rfl
 simp only [Tryz.ntmps119, List.size_toArray, List.length_cons, List.length_nil, Nat.reduceAdd, Nat.reduceSub, Array.replicate_succ, Array.replicate_zero, List.push_toArray, List.append_toArray, List.nil_append, List.cons_append]
 obtain ⟨y0, y1, y2, y3⟩ := hB.cells
 clear hD hF hL
 gi_wp2
 clear y0 y1 y2 y3
 gi_loopw [12] (fun ix wr => ∃ k : Nat, k ≤ l.length ∧ ix = .int .i64 k ∧ J (howL s win devs l k) wr ∧ Boxes4 wr b s win (.slice A devs.length c) (.slice A' l.length c') ∧ Below n0 W wr) (fun ix _ => l.length - (intOf ix).toNat)
 case atStart => exact ⟨0, by omega, rfl, h0, hB, Below.refl _ _⟩
 case round =>
  obtain ⟨k, hk, rfl, hj, hbx, hbw⟩ := hrel
  have HJR := hid hj
  have HBX := hid hbx
  have HBW := hid hbw
  clear hj hbw
  by_cases hlt : k < l.length
  ·obtain ⟨ad, eA, hadb, hcc⟩ := HF.out (by omega)
   subst eA
   obtain ⟨⟨fk, fa, fm⟩, hf⟩ : ∃ f, l[k]? = some f := ⟨_, List.getElem?_eq_getElem hlt⟩
   obtain ⟨x0, x1, x2⟩ := hcc k _ hf
   simp only at x0 x1 x2
   have hin : ∀ i, wr.cell? ⟨(ad.add (k * 3)).block, i, none⟩ = W.cell? ⟨(ad.add (k * 3)).block, i, none⟩ := fun i => HBW.out.cell (p := ⟨(ad.add (k * 3)).block, i, none⟩) (by show (ad.add (k * 3)).block < n0; rw [adb]; exact hadb)
   have hin0 : wr.cell? (ad.add (k * 3)) = W.cell? (ad.add (k * 3)) := HBW.out.cell (by rw [adb]; exact hadb)
   rw [← hin0] at x0
   rw [← hin] at x1 x2
   have HOW : Hid (howAt s win devs l k = hearV (passS s fk fa fm) (passB fk fa fm) (devI devs k) win) := hid (by unfold howAt; rw [hf])
   have HSU := hid (howL_succ s win devs l k)
   have hfa := FltAt.new wr fk fa fm
   have hb1 := Joins.below_alloc1 wr (.cells #[.int .i64 fk, .int .i64 fa, .int .i64 fm] 61)
   have HBX1 := hid (HBX.out.on hb1)
   have HJ1 := hid (abides_below hJ HJR.out hb1)
   have hn1 : n0 ≤ wr.heap.size := by have := HBW.out.size; omega
   have HBW1 := hid (HBW.out.trans (hb1.mono hn1))
   have HFA := hid hfa
   have hkI : (k : Int) < (l.length : Int) := by omega
   clear hf hcc hin hin0 hb1 hfa hbx HBX HJR
   have HR := hid (fun W' (hb : Below n0 W W') => HD.out.below hb (Nat.le_refl _))
   have HLL := hid (fun W' (hb : Below n0 W W') => HL0.out W' hb)
   have hkk : k ≤ 1000000 := by omega
   generalize hX1 : wr.alloc (.cells #[.int .i64 fk, .int .i64 fa, .int .i64 fm] 61) = X1 at *
   have hs1 : wr.heap.size < X1.heap.size := by rw [← hX1, World.size_alloc]; omega
   have HN1 : Hid (n0 ≤ X1.heap.size) := hid (by omega)
   clear HD HL0 HF hs1
   subst hX1
   gi_wp2_with fail
   generalize wr.alloc (.cells #[.int .i64 fk, .int .i64 fa, .int .i64 fm] 61) = X1 at *
   clear x0 x1 x2
   have CH := hid (fun W (hL : Laid W) => hear_any s fk fa fm (devI devs k) win hs W hL)
   generalize hearF (passS s fk fa fm) (passB fk fa fm) (devI devs k) win = HFV at *
   generalize hearV (passS s fk fa fm) (passB fk fa fm) (devI devs k) win = HV at *
   have HV : ∃ O : Nat → (Nat → Value) → World → Prop, O = (fun ix u wv => match ix with
    | 0 => u 0 = .string s
    | 1 => u 1 = .agg #[.int .i64 fk, .int .i64 fa, .int .i64 fm]
    | 2 => u 2 = .slice A devs.length c
    | 3 => u 3 = .int .i64 (k : Int)
    | 4 => u 4 = .int .i64 (devI devs k)
    | 5 => u 5 = .int .i64 win
    | 6 => ∃ f A9 c9 A8 c8, u 6 = .tuple #[fv f (.slice A9 f.ps.length c9) (.slice A8 f.es.length c8), .int .i64 HV]
    | 7 => ∃ f A9 c9 A8 c8, u 7 = .tuple #[fv f (.slice A9 f.ps.length c9) (.slice A8 f.es.length c8), .int .i64 HV]
    | 8 => ∃ f A9 c9 A8 c8, u 8 = fv f (.slice A9 f.ps.length c9) (.slice A8 f.es.length c8)
    | 9 => u 9 = .int .i64 HV
    | 10 => ∃ g, u 10 = .pointer (some ⟨g, 0, none⟩) ∧ X1.heap.size ≤ g ∧ FrAt wv g zeroFr (.slice none 0 0) (.slice none 0 0)
    | 11 => True
    | 12 => u 12 = .int .i64 HV
    | _ => True) := ⟨_, rfl⟩
   obtain ⟨O, hd7⟩ := HV
   have O0 : ∀ u wv, O 0 u wv = (u 0 = .string s) := fun _ _ => by subst hd7; rfl
   have O1 : ∀ u wv, O 1 u wv = (u 1 = .agg #[.int .i64 fk, .int .i64 fa, .int .i64 fm]) := fun _ _ => by subst hd7; rfl
   have O2 : ∀ u wv, O 2 u wv = (u 2 = .slice A devs.length c) := fun _ _ => by subst hd7; rfl
   have O3 : ∀ u wv, O 3 u wv = (u 3 = .int .i64 (k : Int)) := fun _ _ => by subst hd7; rfl
   have O4 : ∀ u wv, O 4 u wv = (u 4 = .int .i64 (devI devs k)) := fun _ _ => by subst hd7; rfl
   have O5 : ∀ u wv, O 5 u wv = (u 5 = .int .i64 win) := fun _ _ => by subst hd7; rfl
   have O6 : ∀ u wv, O 6 u wv = (∃ f A9 c9 A8 c8, u 6 = .tuple #[fv f (.slice A9 f.ps.length c9) (.slice A8 f.es.length c8), .int .i64 HV]) := fun _ _ => by subst hd7; rfl
   have O7 : ∀ u wv, O 7 u wv = (∃ f A9 c9 A8 c8, u 7 = .tuple #[fv f (.slice A9 f.ps.length c9) (.slice A8 f.es.length c8), .int .i64 HV]) := fun _ _ => by subst hd7; rfl
   have O8 : ∀ u wv, O 8 u wv = (∃ f A9 c9 A8 c8, u 8 = fv f (.slice A9 f.ps.length c9) (.slice A8 f.es.length c8)) := fun _ _ => by subst hd7; rfl
   have O9 : ∀ u wv, O 9 u wv = (u 9 = .int .i64 HV) := fun _ _ => by subst hd7; rfl
   have O10 : ∀ u wv, O 10 u wv = (∃ g, u 10 = .pointer (some ⟨g, 0, none⟩) ∧ X1.heap.size ≤ g ∧ FrAt wv g zeroFr (.slice none 0 0) (.slice none 0 0)) := fun _ _ => by subst hd7; rfl
   have O11 : ∀ u wv, O 11 u wv = (True) := fun _ _ => by subst hd7; rfl
   have O12 : ∀ u wv, O 12 u wv = (u 12 = .int .i64 HV) := fun _ _ => by subst hd7; rfl
   have HVD := hid hd7
   clear hd7
   refine region_phaseIn (hF := fun _ => trivial) (V := O) (drop := fun jx ix => (jx == 11 && ix == 10)) (G := fun L wv => Below X1.heap.size X1 wv) (Rel := fun jx wv wv' => jx = 11 ∨ Below wv.heap.size wv wv') (by kernel_rfl) (by kernel_rfl) (Below.refl _ _).drew ?hmonop1 ?hdepp1 ⟨?s0_p1, ?s1_p1, ?s2_p1, ?s3_p1, ?s4_p1, ?s5_p1, ?s6_p1, ?s7_p1, ?s8_p1, ?s9_p1, ?s10_p1, ?s11_p1, ?s12_p1, trivial⟩ ?behindp1
   case hmonop1 =>
    intro ix jx u wv wv' hij hw hd hr
    rw [HVD.out]
    dsimp only
    split <;> intro h <;> first | exact trivial | exact h | (rcases hr with rfl | hb; (focus first | exact absurd rfl hij | (simp at hd; done) | (exact Bool.noConfusion (hw.symm.trans (show _ = true from by kernel_rfl)))); (first | (obtain ⟨g, e, hg, hm⟩ := h; exact ⟨g, e, hg, hm.on hb⟩) | (exact h)))
   case hdepp1 =>
    intro ix u u' wv h1 h2
    rw [HVD.out]
    dsimp only
    split <;> intro h <;> first | exact trivial | (rw [← h1]; exact h) | (exact h) | exact h
   case s0_p1 =>
    refine owePIn rfl fun a wx val L hG hi hW hV hN hO K hK => ?_
    have e2 : a.tmps[2]? = some (.pointer (some ⟨b, 0, none⟩)) := (hO 2).trans (by rfl)
    clear hV hN hO
    obtain ⟨y0, y1, y2, y3⟩ := (HBX1.out.on hG).cells ; obtain ⟨x0, x1, x2⟩ := (HFA.out.on hG).cells
    go_simp
    exact hK.out _ _ (by rw [O0, upd_at] <;> (congr 1 <;> omega)) (.inr (Below.refl _ _)) (hG)
   case s1_p1 =>
    refine owePIn rfl fun a wx val L hG hi hW hV hN hO K hK => ?_
    have e7 : a.tmps[7]? = some (.pointer (some ⟨wr.heap.size, 0, none⟩)) := (hO 7).trans (by rfl)
    clear hV hN hO
    obtain ⟨y0, y1, y2, y3⟩ := (HBX1.out.on hG).cells ; obtain ⟨x0, x1, x2⟩ := (HFA.out.on hG).cells
    go_simp
    exact hK.out _ _ (by rw [O1, upd_at] <;> (congr 1 <;> omega)) (.inr (Below.refl _ _)) (hG)
   case s2_p1 =>
    refine owePIn rfl fun a wx val L hG hi hW hV hN hO K hK => ?_
    have e3 : a.tmps[3]? = some (.pointer (some ⟨b + 2, 0, none⟩)) := (hO 3).trans (by rfl)
    clear hV hN hO
    obtain ⟨y0, y1, y2, y3⟩ := (HBX1.out.on hG).cells ; obtain ⟨x0, x1, x2⟩ := (HFA.out.on hG).cells
    go_simp
    exact hK.out _ _ (by rw [O2, upd_at] <;> (congr 1 <;> omega)) (.inr (Below.refl _ _)) (hG)
   case s3_p1 =>
    refine owePIn rfl fun a wx val L hG hi hW hV hN hO K hK => ?_
    have e6 : a.tmps[6]? = some (.int .i64 (k : Int)) := (hO 6).trans (by rfl)
    clear hV hN hO
    go_simp
    exact hK.out _ _ (by rw [O3, upd_at] <;> (congr 1 <;> omega)) (.inr (Below.refl _ _)) (hG)
   case s4_p1 =>
    refine owePIn rfl fun a wx val L hG hi hW hV hN hO K hK => ?_
    have e20 := hN 2 20
    have f20 := hV 2
    rw [O2] at f20; rw [f20] at e20; clear f20
    have e21 := hN 3 21
    have f21 := hV 3
    rw [O3] at f21; rw [f21] at e21; clear f21
    clear hV hN hO
    go_simp
    refine ⟨trivial, (callsIn_wide.2 (devOf_any devs k hld hkk A c _ n0 (HR.out _ (HBW1.out.trans (hG.mono HN1.out))))).mono ?_⟩
    rintro e w11 ⟨rfl, rfl⟩
    exact hK.out _ _ (by rw [O4, upd_at]) (.inr (Below.refl _ _)) (hG)
   case s5_p1 =>
    refine owePIn rfl fun a wx val L hG hi hW hV hN hO K hK => ?_
    have e4 : a.tmps[4]? = some (.pointer (some ⟨b + 1, 0, none⟩)) := (hO 4).trans (by rfl)
    clear hV hN hO
    obtain ⟨y0, y1, y2, y3⟩ := (HBX1.out.on hG).cells ; obtain ⟨x0, x1, x2⟩ := (HFA.out.on hG).cells
    go_simp
    exact hK.out _ _ (by rw [O5, upd_at] <;> (congr 1 <;> omega)) (.inr (Below.refl _ _)) (hG)
   case s6_p1 =>
    refine owePIn rfl fun a wx val L hG hi hW hV hN hO K hK => ?_
    have e18 := hN 0 18
    have f18 := hV 0
    rw [O0] at f18; rw [f18] at e18; clear f18
    have e19 := hN 1 19
    have f19 := hV 1
    rw [O1] at f19; rw [f19] at e19; clear f19
    have e22 := hN 4 22
    have f22 := hV 4
    rw [O4] at f22; rw [f22] at e22; clear f22
    have e23 := hN 5 23
    have f23 := hV 5
    rw [O5] at f23; rw [f23] at e23; clear f23
    clear hV hN hO
    go_simp
    refine ⟨trivial, (callsIn_wide.2 (CH.out _ (HLL.out _ (HBW1.out.trans (hG.mono HN1.out))))).mono ?_⟩
    rintro e w11 ⟨hb, A9, c9, A8, c8, rfl, -, -⟩
    exact hK.out _ _ (by rw [O6, upd_at]; exact ⟨_, A9, c9, A8, c8, rfl⟩) (.inr hb) (hG.trans (hb.mono hG.size))
   case s7_p1 =>
    refine owePIn rfl fun a wx val L hG hi hW hV hN hO K hK => ?_
    have e24 := hN 6 24
    have f24 := hV 6
    rw [O6] at f24; obtain ⟨ff, A9, c9, A8, c8, hv⟩ := f24; rw [hv] at e24
    clear hV hN hO
    go_simp
    exact hK.out _ _ (by rw [O7, upd_at]; exact ⟨ff, A9, c9, A8, c8, rfl⟩) (.inr (Below.refl _ _)) hG
   case s8_p1 =>
    refine owePIn rfl fun a wx val L hG hi hW hV hN hO K hK => ?_
    have e17 := hN 7 17
    have f17 := hV 7
    rw [O7] at f17; obtain ⟨ff, A9, c9, A8, c8, hv⟩ := f17; rw [hv] at e17
    clear hV hN hO
    go_simp
    exact hK.out _ _ (by rw [O8, upd_at]; exact ⟨ff, A9, c9, A8, c8, rfl⟩) (.inr (Below.refl _ _)) hG
   case s9_p1 =>
    refine owePIn rfl fun a wx val L hG hi hW hV hN hO K hK => ?_
    have e17 := hN 7 17
    have f17 := hV 7
    rw [O7] at f17; obtain ⟨ff, A9, c9, A8, c8, hv⟩ := f17; rw [hv] at e17
    clear hV hN hO
    go_simp
    exact hK.out _ _ (by rw [O9, upd_at] <;> (congr 1 <;> omega)) (.inr (Below.refl _ _)) (hG)
   case s10_p1 =>
    refine owePIn rfl fun a wx val L hG hi hW hV hN hO K hK => ?_
    clear hV hN hO
    go_simp
    have hb := Joins.below_alloc1 wx (.cells (fc zeroFr (.slice none 0 0) (.slice none 0 0)) 29)
    exact hK.out _ _ (by rw [O10, upd_at]; exact ⟨_, rfl, hG.size, FrAt.new wx zeroFr (.slice none 0 0) (.slice none 0 0)⟩) (.inr hb) (hG.trans (hb.mono hG.size))
   case s11_p1 =>
    refine owePIn rfl fun a wx val L hG hi hW hV hN hO K hK => ?_
    have e8 := hN 10 8
    have f8 := hV 10
    rw [O10] at f8; obtain ⟨g, hv8, hg9, hmm⟩ := f8; rw [hv8] at e8
    have e25 := hN 8 25
    have f25 := hV 8
    rw [O8] at f25; obtain ⟨ff, A9, c9, A8, c8, hv5⟩ := f25; rw [hv5] at e25
    clear hV hN hO
    obtain ⟨q0, q1, q2, q3, q4, q5, q6, q7, q8, q9, q10, q11, q12, q13, q14⟩ := hmm.cells
    have p := hmm.frozen
    go_simp
    exact hK.out undef (putF wx g ff (.slice A9 ff.ps.length c9) (.slice A8 ff.es.length c8)) (by rw [O11]; trivial) (.inl rfl) (putF_below hG hg9 _ _ _)
   case s12_p1 =>
    refine owePIn rfl fun a wx val L hG hi hW hV hN hO K hK => ?_
    have e26 := hN 9 26
    have f26 := hV 9
    rw [O9] at f26; rw [f26] at e26; clear f26
    clear hV hN hO
    go_simp
    exact hK.out _ _ (by rw [O12, upd_at] <;> (congr 1 <;> omega)) (.inr (Below.refl _ _)) (hG)
   intro val wx L hG hV
   have f0 := hV 0
   rw [O0] at f0
   have f1 := hV 1
   rw [O1] at f1
   have f2 := hV 2
   rw [O2] at f2
   have f3 := hV 3
   rw [O3] at f3
   have f4 := hV 4
   rw [O4] at f4
   have f5 := hV 5
   rw [O5] at f5
   have f6 := hV 6
   rw [O6] at f6
   have f7 := hV 7
   rw [O7] at f7
   have f8 := hV 8
   rw [O8] at f8
   have f9 := hV 9
   rw [O9] at f9
   have f11 := hV 11
   rw [O11] at f11
   have f12 := hV 12
   rw [O12] at f12
   clear hV O0 O1 O2 O3 O4 O5 O6 O7 O8 O9 O10 O11 O12
   simp only [putAll, Act.put, List.setIfInBounds_toArray, List.set_cons_zero, List.set_cons_succ]
   generalize val 0 = z0, val 1 = z1, val 2 = z2, val 3 = z3, val 4 = z4, val 5 = z5, val 6 = z6, val 7 = z7, val 8 = z8, val 9 = z9, val 10 = z10, val 12 = z12 at *
   subst f0 f1 f2 f3 f4 f5 f9 f12
   clear HVD
   have HB2 := hid (HBX1.out.on hG)
   have HJ2 := hid (abides_below hJ HJ1.out hG)
   have HW2 := hid (HBW1.out.trans (hG.mono HN1.out))
   clear hG CH HBX1 HJ1 HBW1 HFA HR HLL HN1
   generalize wx = X2 at *
   obtain ⟨fn, tmps, assign, body, hy, hR⟩ := HY.out _ HV X2 HJ2.out (by rw [howL_length]; omega)
   gi_wp2_with fail
   refine hR.mono ?_
   clear hy hR
   rintro e W3 (⟨rfl, hJ3, hk3⟩ | ⟨rfl, hJx3⟩)
   ·have HB3 := hid (hk3.boxes HB2.out)
    have HW3 := hid (HW2.out.trans hk3.2)
    have HJ3 := hid hJ3
    clear hJ3 hk3
    gi_wp2
    go_roundw
    case rel => exact ⟨k + 1, by omega, by go_num, by rw [HSU.out, HOW.out]; exact HJ3.out, HB3.out, HW3.out⟩
    case measure => simp [intOf]; omega
   ·have HJX := hid hJx3
    clear hJx3
    gi_wp2
    refine bodyPost_ret (results_none rfl _ _ _) rfl ?_
    exact ⟨⟨_, rfl⟩, .inr ⟨_, trivial, HJX.out⟩⟩
  ·have ek : k = l.length := by omega
   have hkI : ¬ (k : Int) < (l.length : Int) := by omega
   have hJ' := HJR.out
   rw [ek] at hJ'
   have HJ' := hid hJ'
   clear hJ' ek
   gi_wp2
   go_end0
   exact ⟨⟨_, rfl⟩, .inl HJ'.out⟩
end Go.Proofs.YtmmbnjkdknnidaaGreatDoor
namespace Go.Proofs.YtmmbnjkdknnidaaGreatDoor
open Lib (hid)
open Go.RowKit Go.Shelf
attribute [local go_sem] Oper.semAt_some
theorem heard_stop (m : Nat) (hm : 1 ≤ m) (b n0 : Nat) (s : ByteArray) (hs : s.size ≤ 1000) (win : Int) (devs : List Int) (A : Option Addr) (c : Nat) (l : List (Int × Int × Int)) (A' : Option Addr) (c' : Nat) (hld : devs.length ≤ 1000000) (hll : l.length ≤ 1000000) (w : World)
  (hB : Boxes4 w b s win (.slice A devs.length c) (.slice A' l.length c')) (hL : ∀ W', Below n0 w W' → Laid W') (hn0 : n0 ≤ w.heap.size) (hD : V.Row w n0 A devs) (hF : Flts w n0 A' l) :
  SeqStopsK Fence.wide m Tryz.prog 119 #[.pointer (some ⟨b + 3, 0, none⟩), .pointer (some ⟨b, 0, none⟩), .pointer (some ⟨b + 2, 0, none⟩), .pointer (some ⟨b + 1, 0, none⟩)] (fun x : Int => #[.int .i64 x]) (Keeps4 b n0) (fun ys => ys = howL s win devs l l.length) (fun _ => True) l.length w := fun lq J Jx W hW hJ _ hY h0 =>
 heard_each m hm lq b n0 s hs win devs A c l A' c' hld hll J Jx W hJ hY (hB.on hW) (fun W' hb => hL W' ((hW.mono hn0).trans hb)) (by have := hW.size; omega) (hD.below (hW.mono hn0) (Nat.le_refl _)) (hF.below (hW.mono hn0) (Nat.le_refl _)) h0
theorem all_in (m : Nat) (hm : 4 ≤ m) (s : ByteArray) (hs : s.size ≤ 1000) (win : Int) (devs : List Int) (A : Option Addr) (c : Nat) (l : List (Int × Int × Int)) (A' : Option Addr) (c' : Nat) (hld : devs.length ≤ 1000000) (hll : l.length ≤ 1000) (w : World) (hL : Laid w) (hD : V.Row w w.heap.size A devs) (hF : Flts w w.heap.size A' l) :
  CallsIn Fence.wide m Tryz.prog 39 #[.string s, .int .i64 win, .slice A devs.length c, .slice A' l.length c'] w fun e W' =>
   ∃ u, e = .returned u ∧ W'.ownsRow w.heap.size 3 1 u l.length ((howL s win devs l l.length).map (Value.int .i64)) ∧ Below w.heap.size w W' := by
 have h1 : 1 ≤ m := by omega
 obtain ⟨i0, hi, hz0, hz1, hz2⟩ := info_parts V.int_info
 refine callsIn_of_wp_marks Tryz.func39 rfl trivial ?_ rfl
 simp only [Tryz.ntmps39, List.size_toArray, List.length_cons, List.length_nil, Nat.reduceAdd, Nat.reduceSub, Array.replicate_succ, Array.replicate_zero, List.push_toArray, List.append_toArray, List.nil_append, List.cons_append]
 gi_wp2_with fail
 refine ⟨trivial, (heard_in (m - 1) _ _ _ _ _ _ _ _ rfl _ _ _ rfl).mono ?_⟩
 rintro e w' ⟨rfl, rfl⟩
 gi_wp2_with fail
 have bO := Boxed.new w 22 (.slice none 0 0)
 obtain ⟨X0, hX0⟩ : ∃ X, X = w.alloc (.cells #[.slice none 0 0] 22) := ⟨_, rfl⟩
 have hs0 : X0.heap.size = w.heap.size + 1 := by rw [hX0, World.size_alloc]
 have hB0 : Below w.heap.size w X0 := by rw [hX0]; exact Joins.below_alloc1 w _
 rw [← hX0] at bO ⊢
 clear hX0
 have d0 := heap_alloc_new X0 (.cells #[.string s] 9)
 obtain ⟨X1, hX1⟩ : ∃ X, X = X0.alloc (.cells #[.string s] 9) := ⟨_, rfl⟩
 have e1 := Joins.below_alloc1 X0 (.cells #[.string s] 9)
 have hs1 : X1.heap.size = w.heap.size + 2 := by rw [hX1, World.size_alloc, hs0]
 rw [← hX1] at d0 e1 ⊢
 rw [hs0] at d0
 clear hX1
 have d1 := heap_alloc_new X1 (.cells #[.int .i64 win] 3)
 obtain ⟨X2, hX2⟩ : ∃ X, X = X1.alloc (.cells #[.int .i64 win] 3) := ⟨_, rfl⟩
 have e2 := Joins.below_alloc1 X1 (.cells #[.int .i64 win] 3)
 have hs2 : X2.heap.size = w.heap.size + 3 := by rw [hX2, World.size_alloc, hs1]
 rw [← hX2] at d1 e2 ⊢
 rw [hs1] at d1
 clear hX2
 have d2 := heap_alloc_new X2 (.cells #[.slice A devs.length c] 22)
 obtain ⟨X3, hX3⟩ : ∃ X, X = X2.alloc (.cells #[.slice A devs.length c] 22) := ⟨_, rfl⟩
 have e3 := Joins.below_alloc1 X2 (.cells #[.slice A devs.length c] 22)
 have hs3 : X3.heap.size = w.heap.size + 4 := by rw [hX3, World.size_alloc, hs2]
 rw [← hX3] at d2 e3 ⊢
 rw [hs2] at d2
 clear hX3
 have d3 := heap_alloc_new X3 (.cells #[.slice A' l.length c'] 57)
 obtain ⟨X4, hX4⟩ : ∃ X, X = X3.alloc (.cells #[.slice A' l.length c'] 57) := ⟨_, rfl⟩
 have e4 := Joins.below_alloc1 X3 (.cells #[.slice A' l.length c'] 57)
 have hs4 : X4.heap.size = w.heap.size + 5 := by rw [hX4, World.size_alloc, hs3]
 rw [← hX4] at d3 e4 ⊢
 rw [hs3] at d3
 clear hX4
 have bl : ∀ {a : Nat} {o : Obj} {P Q : World}, P.heap[a]? = some o → Below P.heap.size P Q → Q.heap[a]? = some o := fun h hb => (hb.block _ (Array.getElem?_eq_some_iff.1 h).1).trans h
 have hBX : Boxes4 X4 (w.heap.size + 1) s win (.slice A devs.length c) (.slice A' l.length c') := ⟨bl (bl (bl d0 e2) e3) e4, bl (bl d1 e3) e4, bl d2 e4, d3⟩
 have bO4 : Boxed X4 w.heap.size 22 (.slice none 0 0) := bl (bl (bl (bl bO e1) e2) e3) e4
 have hB4 : Below w.heap.size w X4 := (((hB0.trans (e1.mono (by omega))).trans (e2.mono (by omega))).trans (e3.mono (by omega))).trans (e4.mono (by omega))
 clear d0 d1 d2 d3 e1 e2 e3 e4 bO hB0 hs0 hs1 hs2 hs3 bl
 have HST := hid (heard_stop (m - 1) (by omega) (w.heap.size + 1) w.heap.size s hs win devs A c l A' c' hld (by omega) X4 hBX (fun W' hb => hL.below (hB4.trans hb)) (by omega) (hD.below hB4 (Nat.le_refl _)) (hF.below hB4 (Nat.le_refl _)))
 clear hBX hL hD hF
 refine wpIn_rangeFunc_ownG rfl h1 (gf := 119) (lb := #[.pointer (some ⟨w.heap.size + 1 + 3, 0, none⟩), .pointer (some ⟨w.heap.size + 1, 0, none⟩), .pointer (some ⟨w.heap.size + 1 + 2, 0, none⟩), .pointer (some ⟨w.heap.size + 1 + 1, 0, none⟩)]) rfl trivial (enters_of Tryz.func119 (by kernel_rfl) rfl)
  HST.out Keeps4.trans (Keeps4.past (n := X4.heap.size) (by omega) (by omega)) (Below.refl _ _) (fun _ => rfl)
  (fun pre W => (∃ u, Boxed W w.heap.size 22 u ∧ W.ownsRow (w.heap.size + 5) 3 1 u pre.length (pre.map (Value.int .i64)) ∧ True) ∧ Below w.heap.size w W ∧ w.heap.size + 5 ≤ W.heap.size)
  (fun _ _ _ => False)
  (OwnFrom.and (Own.from (holdsRow_own (w.heap.size + 5) w.heap.size 22 3 1 (fun pre : List Int => pre.length) (fun pre => pre.map (Value.int .i64)) (fun _ _ => True)) _) (OwnFrom.and (ownFrom_below (Nat.le_refl _) (by omega)) (fun s A B row hs hg hr => Nat.le_trans hs hg.size)))
  (fun _ _ _ _ _ hs _ _ => hs)
  ⟨⟨_, bO4, World.ownsRow_nil _ _ _ _, trivial⟩, hB4, by omega⟩
  (fun x => { tmps := #[.string s, .int .i64 win, .slice A devs.length c, .slice A' l.length c', undef, undef, undef, undef, .slice none 0 0, .pointer (some ⟨w.heap.size, 0, none⟩), .int .i64 x, .string s, .int .i64 win, .slice A devs.length c, .slice A' l.length c', .func (.func 119) #[] #[.pointer (some ⟨w.heap.size + 1 + 3, 0, none⟩), .pointer (some ⟨w.heap.size + 1, 0, none⟩), .pointer (some ⟨w.heap.size + 1 + 2, 0, none⟩), .pointer (some ⟨w.heap.size + 1 + 1, 0, none⟩)], .int .i64 x, undef, undef, undef, undef, undef], defers := [] }) ?assign ?body ?done ?stop
 case assign =>
  intro l x W K hK
  gi_wp2
  first | exact hK | simpa using hK
 case body =>
  rintro lq pre x W ⟨⟨u, hv, hrow, _⟩, hB, hW2⟩ hlt
  have hc := hv.cell
  have hb16 : pre.length < 1000 := by omega
  clear hlt hll
  gi_wp2_with (gi_at_builtin; refine wpListIn_append_own _ rfl _ _ 22 rfl (w.heap.size + 5) 3 i0 (.int .i64 0) 1 8 Tryz.underlying22 hi hz0 hz1 hz2 rfl (by decide) _ _ _ rfl (hrow.alloc _) ⟨W.heap.size, 0, none⟩ 1 1 [.int .i64 x] rfl rfl (cell_one_new _ _ _) (by simp [Value.oneCell']) (by simp only [maxLen]; omega) (by omega) (by simp; omega) ?_; intro v' w1 hown' hgrow _; obtain ⟨g', cap', rfl⟩ := ownsRow_succ hown'; obtain ⟨hv1, hv2, hr2, hk2, hb2, hkp⟩ := V.appended_past hv (by omega) hrow hW2 (Nat.le_refl _) hown' hgrow; have hc1 := hv1.cell; have hf1 := hv1.frozen)
  have hsz2 := hk2.size
  exact ⟨hk2.from _, ⟨fun i hi => hkp _ (by omega) (by omega), hb2⟩, ⟨⟨_, hv2, by simpa using hr2, trivial⟩, hB.trans hb2, by omega⟩⟩
 case done =>
  rintro D ys W hD rfl ⟨⟨u, hv, hrow, _⟩, hB, _⟩ hK
  have hc := hv.cell
  gi_wp2
  refine ⟨by simp, .inl ⟨_, _, rfl, run_takeDeferred hK, ?_⟩⟩
  have h2 := ownsRow_putObj hrow (.deferred none) hK rfl
  rw [howL_length] at h2
  refine ⟨_, results_tmp rfl _ _ _, u, rfl, ⟨h2.1, h2.2.imp id ?_⟩, hB.trans (belowK_b (w := w) (Nat.le_refl _) W D _ _ (by omega) hK rfl rfl)⟩
  rintro ⟨g, cap, cur, e1, e2, e3⟩
  exact ⟨g, cap, cur, e1, by omega, e3⟩
 case stop =>
  rintro D c pre W _ _ h _
  exact h.elim
theorem all_any (s : ByteArray) (hs : s.size ≤ 1000) (win : Int) (devs : List Int) (A : Option Addr) (c : Nat) (l : List (Int × Int × Int)) (A' : Option Addr) (c' : Nat) (hld : devs.length ≤ 1000000) (hll : l.length ≤ 1000) (w : World) (hL : Laid w) (hD : V.Row w w.heap.size A devs) (hF : Flts w w.heap.size A' l) :
  Calls Tryz.prog 39 #[.string s, .int .i64 win, .slice A devs.length c, .slice A' l.length c'] w fun e W' =>
   ∃ u, e = .returned u ∧ W'.ownsRow w.heap.size 3 1 u l.length ((howL s win devs l l.length).map (Value.int .i64)) ∧ Below w.heap.size w W' :=
 callsIn_wide.1 (all_in 4 (Nat.le_refl _) s hs win devs A c l A' c' hld hll w hL hD hF)
end Go.Proofs.YtmmbnjkdknnidaaGreatDoor

/-
  Entries' bytes, by the document.
-/
import Derived.Deep.DeepCutAuto
import Derived.Deep.RegionWith
import Derived.BigQuiet
import Derived.Test.YtmmbnjkdknnidaaGreatDoorEntRawV
import Derived.Test.YtmmbnjkdknnidaaGreatDoorOncePhaseV
import Derived.Test.YtmmbnjkdknnidaaGreatDoorMsgTripV
set_option maxHeartbeats 4000000
set_option maxRecDepth 100000
namespace Go.Proofs.YtmmbnjkdknnidaaGreatDoor
open Lib (hid)
open Go.RowKit
theorem countedE_any (A : Option Addr) (c B : Nat) (l : List Int) (w : World) (h : V.Row w B A l) (hl : l.length ≤ maxLen) :
  Calls Tryz.prog 91 #[.slice A l.length c] w fun e w' => e = .returned (.bool (l.all smallB)) ∧ w = w' := by
 unfold maxLen at hl
 obtain ⟨R, hR⟩ : ∃ R, R = l.all smallB := ⟨_, rfl⟩
 rw [← hR]
 have HR := hid hR; clear hR
 go_enter Tryz.func91, Tryz.ntmps91
 go_wp2
 go_loop [4, 7] (fun v i => ∃ k : Nat, k ≤ l.length ∧ i = .int .i64 k ∧ (l.take k).all smallB = true) (fun _ i => l.length - (intOf i).toNat)
 case atStart => exact ⟨0, by omega, rfl, rfl⟩
 case round =>
  obtain ⟨k, hk, rfl, hal⟩ := hrel
  have HAL := hid hal; clear hal
  by_cases hlt : k < l.length
  ·obtain ⟨x, hx⟩ : ∃ x, l[k]? = some x := ⟨_, List.getElem?_eq_getElem hlt⟩
   obtain ⟨ad, rfl, _, hc⟩ := h (by omega)
   have hck := hc k x hx
   have HT := hid (all_take l k x hx)
   have HM := hid (all_miss l k x hx)
   clear hx hc
   by_cases k0 : x < 1
   ·have HS := hid (show smallB x = false by rw [← Bool.not_eq_true, smallB_iff]; omega)
    go_wp2
    go_ret
    exact ⟨ret_b (by rw [HR.out, HM.out HS.out]), rfl⟩
   ·by_cases k1 : 65535 < x
    ·have HS := hid (show smallB x = false by rw [← Bool.not_eq_true, smallB_iff]; omega)
     go_wp2
     go_ret
     exact ⟨ret_b (by rw [HR.out, HM.out HS.out]), rfl⟩
    ·have HS := hid (show smallB x = true by rw [smallB_iff]; omega)
     go_wp2
     go_round
     case rel => exact ⟨k + 1, by omega, by go_num, by rw [HT.out, HAL.out, HS.out]; rfl⟩
     case measure => simp [intOf]; omega
  ·have ek : k = l.length := by omega
   subst ek
   go_wp2
   go_ret
   have hh := HAL.out
   rw [List.take_length] at hh
   exact ⟨ret_b (by rw [HR.out, hh]), rfl⟩
theorem ordU_stays (l : List Msg) {k : Nat} (h : ordU l k = false) : ∀ j, ordU l (k + j) = false
 | 0 => h
 | j + 1 => by
  show (ordU l (k + j) && _) = false
  rw [ordU_stays l h j]; rfl
theorem ordU_false {l : List Msg} {k n : Nat} (h : ordU l k = false) (hk : k ≤ n) : ordU l n = false := by
 have := ordU_stays l h (n - k)
 rwa [show k + (n - k) = n by omega] at this
theorem ordU_first {l : List Msg} {m : Msg} (hm : l[0]? = some m) : ordU l 1 = rightM m := by
 show (true && (rightM (l.getD 0 zeroM) && (decide (0 = 0) || _))) = _
 rw [getD_at hm]; simp
theorem ordU_next {l : List Msg} {k : Nat} {p m : Msg} (hp : l[k]? = some p) (hm : l[k + 1]? = some m) (h : ordU l (k + 1) = true) : ordU l (k + 2) = (rightM m && lessM p m) := by
 show (ordU l (k + 1) && (rightM (l.getD (k + 1) zeroM) && (decide (k + 1 = 0) || lessM (l.getD (k + 1 - 1) zeroM) (l.getD (k + 1) zeroM)))) = _
 rw [h, getD_at hm, Nat.add_sub_cancel, getD_at hp]; simp
theorem inOrder_any (A : Option Addr) (c : Nat) (l : List Msg) (w : World) (L : Laid w) (h : Msgs w w.heap.size A l) (hl : l.length ≤ maxLen) (hd : ∀ m ∈ l, m.data.size ≤ maxLen) :
  Calls Tryz.prog 94 #[.slice A l.length c] w fun e w' => e = .returned (.bool (ordU l l.length)) ∧ Below w.heap.size w w' := by
 unfold maxLen at hl
 have HD := hid hd; clear hd
 have HL := hid L; clear L
 obtain ⟨R, hR⟩ : ∃ R, R = ordU l l.length := ⟨_, rfl⟩
 rw [← hR]
 have HR := hid hR; clear hR
 go_enter Tryz.func94, Tryz.ntmps94
 go_wp2_with fail
 go_loopw [3, 4, 7] (fun s3 s4 ix wr => ∃ k : Nat, k ≤ l.length ∧ ix = .int .i64 k ∧ ordU l k = true ∧ Below w.heap.size w wr) (fun _ _ ix _ => l.length - (intOf ix).toNat)
 case atStart => exact ⟨0, by omega, rfl, rfl, Below.refl _ _⟩
 case round =>
  obtain ⟨k, hk, rfl, ho, hb⟩ := hrel
  have HB := hid hb; clear hb
  by_cases hlt : k < l.length
  ·obtain ⟨m, hm⟩ : ∃ m, l[k]? = some m := ⟨_, List.getElem?_eq_getElem hlt⟩
   have hmd := HD.out m (List.mem_of_getElem? hm)
   have hbn := Joins.below_alloc1 wr (.cells (mc m) 109)
   have hB1 := HB.out.trans (hbn.mono HB.out.size)
   have hM1 : MsgAt (wr.alloc (.cells (mc m) 109)) wr.heap.size m := heap_alloc_new wr _
   have cr := fun W (hL : Laid W) => rightM_any m hmd W hL
   have cl := fun p W (hL : Laid W) => lessM_any p m W hL
   obtain ⟨ad, rfl, had, hcc⟩ := h.below HB.out (Nat.le_refl _) (by omega)
   have hck := hcc k m hm
   have HF : Hid (k = 0 → ordU l (k + 1) = rightM m) := hid (fun h0 => by subst h0; exact ordU_first hm)
   have HN : Hid (∀ (j : Nat) (p : Msg), k = j + 1 → l[j]? = some p → ordU l (k + 1) = (rightM m && lessM p m)) := hid (fun j p hj hp => by subst hj; exact ordU_next (k := j) hp hm ho)
   have HM := hid hm; clear hm
   have HO := hid ho; clear ho
   have HC := hid hcc; clear hcc hbn
   generalize hRM : rightM m = RM at *
   have HRM := hid hRM; clear hRM
   have HB1 := hid hB1; clear hB1
   have HM1 := hid hM1; clear hM1
   obtain ⟨me, mn, ms, mi, mq, mu, md⟩ := m
   simp only [mv, mc] at *
   obtain ⟨a0, a1, a2, a3, a4, a5, a6⟩ := hck
   go_upto_region 4 with (fail)
   obtain ⟨ad', ead, had1, hcc1⟩ := h.below HB1.out (Nat.le_refl _) (by omega)
   obtain rfl : ad = ad' := Option.some.inj ead
   have HL1 := hid (HL.out.below HB1.out)
   have HC1 := hid hcc1; clear hcc1 ead a0 a1 a2 a3 a4 a5 a6 had HC
   generalize wr.alloc (.cells #[.bool me, .int .i64 mn, .int .i64 ms, .int .i64 mi, .int .i64 mq, .int .i64 mu, .string md] 109) = W1 at *
   generalize wr.heap.size = b at *
   obtain ⟨_, x0, x1, x2, x3, x4, x5, x6⟩ := Holds.of_blk HM1.out
   simp only at x0 x1 x2 x3 x4 x5 x6
   cases RM
   ·have HS : Hid (R = false) := hid (by
     rw [HR.out]
     refine ordU_false (k := k + 1) ?_ (by omega)
     rcases Nat.eq_zero_or_pos k with h0 | h0
     ·exact HF.out h0
     ·have h1 : l[k - 1]? = some l[k - 1] := List.getElem?_eq_getElem (by omega)
      exact (HN.out (k - 1) _ (by omega) h1).trans rfl)
    have HV : ∃ V : Nat → (Nat → Value) → World → Prop, V = (fun ix u wv => match ix with
     | 0 => u 0 = .agg #[.bool me, .int .i64 mn, .int .i64 ms, .int .i64 mi, .int .i64 mq, .int .i64 mu, .string md]
     | 1 => u 1 = .bool false
     | 2 => u 2 = .bool true
     | 3 => u 3 = .bool true
     | 4 => u 4 = undef
     | 5 => u 5 = undef
     | 6 => u 6 = undef
     | 7 => u 7 = undef
     | 8 => u 8 = undef
     | 9 => u 9 = undef
     | 10 => u 10 = undef
     | 11 => u 11 = undef
     | 12 => u 12 = undef
     | 13 => u 13 = undef
     | 14 => u 14 = undef
     | 15 => u 15 = undef
     | 16 => u 16 = .bool true
     | _ => True) := ⟨_, rfl⟩
    obtain ⟨V, hd7⟩ := HV
    have V0 : ∀ u wv, V 0 u wv = (u 0 = .agg #[.bool me, .int .i64 mn, .int .i64 ms, .int .i64 mi, .int .i64 mq, .int .i64 mu, .string md]) := fun _ _ => by subst hd7; rfl
    have V1 : ∀ u wv, V 1 u wv = (u 1 = .bool false) := fun _ _ => by subst hd7; rfl
    have V2 : ∀ u wv, V 2 u wv = (u 2 = .bool true) := fun _ _ => by subst hd7; rfl
    have V3 : ∀ u wv, V 3 u wv = (u 3 = .bool true) := fun _ _ => by subst hd7; rfl
    have V4 : ∀ u wv, V 4 u wv = (u 4 = undef) := fun _ _ => by subst hd7; rfl
    have V5 : ∀ u wv, V 5 u wv = (u 5 = undef) := fun _ _ => by subst hd7; rfl
    have V6 : ∀ u wv, V 6 u wv = (u 6 = undef) := fun _ _ => by subst hd7; rfl
    have V7 : ∀ u wv, V 7 u wv = (u 7 = undef) := fun _ _ => by subst hd7; rfl
    have V8 : ∀ u wv, V 8 u wv = (u 8 = undef) := fun _ _ => by subst hd7; rfl
    have V9 : ∀ u wv, V 9 u wv = (u 9 = undef) := fun _ _ => by subst hd7; rfl
    have V10 : ∀ u wv, V 10 u wv = (u 10 = undef) := fun _ _ => by subst hd7; rfl
    have V11 : ∀ u wv, V 11 u wv = (u 11 = undef) := fun _ _ => by subst hd7; rfl
    have V12 : ∀ u wv, V 12 u wv = (u 12 = undef) := fun _ _ => by subst hd7; rfl
    have V13 : ∀ u wv, V 13 u wv = (u 13 = undef) := fun _ _ => by subst hd7; rfl
    have V14 : ∀ u wv, V 14 u wv = (u 14 = undef) := fun _ _ => by subst hd7; rfl
    have V15 : ∀ u wv, V 15 u wv = (u 15 = undef) := fun _ _ => by subst hd7; rfl
    have V16 : ∀ u wv, V 16 u wv = (u 16 = .bool true) := fun _ _ => by subst hd7; rfl
    have HVD := hid hd7
    clear hd7
    refine region_each (V := V) (drop := fun _ _ => false) (G := fun wv => Below W1.heap.size W1 wv) (Rel := fun jx wv wv' => Below wv.heap.size wv wv') (by kernel_rfl) (by kernel_rfl) (Below.refl _ _).drew ?hmonoq1 ?hdepq1 ⟨?s0_q1, ?s1_q1, ?s2_q1, ?s3_q1, ?s4_q1, ?s5_q1, ?s6_q1, ?s7_q1, ?s8_q1, ?s9_q1, ?s10_q1, ?s11_q1, ?s12_q1, ?s13_q1, ?s14_q1, ?s15_q1, ?s16_q1, trivial⟩ ?behindq1
    case hmonoq1 =>
     intro ix jx u wv wv' hij hw hd hr
     rw [HVD.out]
     dsimp only
     split <;> intro h <;> first | exact trivial | exact h
    case hdepq1 =>
     intro ix u u' wv h1 h2
     rw [HVD.out]
     dsimp only
     split <;> intro h <;> first | exact trivial | (rw [← h1]; exact h)
    case s0_q1 =>
     refine owe rfl fun a wx val hG hV hN hO K hK => ?_
     have e4 : a.tmps[4]? = some (.pointer (some ⟨b, 0, none⟩)) := (hO 4).trans (by rfl)
     clear hV hN hO
     obtain ⟨_, x0, x1, x2, x3, x4, x5, x6⟩ := Holds.of_blk (HM1.out.on hG)
     simp only at x0 x1 x2 x3 x4 x5 x6
     go_simp
     exact hK.out _ _ (by rw [V0, upd_at] <;> (congr 1 <;> omega)) (Below.refl _ _) hG
    case s1_q1 =>
     refine owe rfl fun a wx val hG hV hN hO K hK => ?_
     have e12 := hN 0 12
     have f12 := hV 0
     rw [V0] at f12; rw [f12] at e12; clear f12
     clear hV hN hO
     go_simp
     refine (cr _ (HL1.out.below hG)).mono ?_
     rintro e w11 ⟨rfl, hb⟩
     exact hK.out _ _ (by rw [V1, upd_at]) hb (hG.trans (hb.mono hG.size))
    case s2_q1 =>
     refine owe rfl fun a wx val hG hV hN hO K hK => ?_
     have e13 := hN 1 13
     have f13 := hV 1
     rw [V1] at f13; rw [f13] at e13; clear f13
     clear hV hN hO
     go_simp
     exact hK.out _ _ (by rw [V2, upd_at] <;> (congr 1 <;> omega)) (Below.refl _ _) hG
    case s3_q1 =>
     refine owe rfl fun a wx val hG hV hN hO K hK => ?_
     have e14 := hN 2 14
     have f14 := hV 2
     rw [V2] at f14; rw [f14] at e14; clear f14
     clear hV hN hO
     go_simp
     exact hK.out _ _ (by rw [V3, upd_at] <;> (congr 1 <;> omega)) (Below.refl _ _) hG
    case s4_q1 =>
     exact owe_skip (g := 3) (t := 15) (b := false) (c := true) rfl (by kernel_rfl) (by kernel_rfl) (by kernel_rfl) (by simp) (fun val w h => by rw [V3] at h; exact h) (by decide) (fun val w => by rw [V4, upd_at])
    case s5_q1 =>
     exact owe_skip (g := 3) (t := 15) (b := false) (c := true) rfl (by kernel_rfl) (by kernel_rfl) (by kernel_rfl) (by simp) (fun val w h => by rw [V3] at h; exact h) (by decide) (fun val w => by rw [V5, upd_at])
    case s6_q1 =>
     exact owe_skip (g := 3) (t := 15) (b := false) (c := true) rfl (by kernel_rfl) (by kernel_rfl) (by kernel_rfl) (by simp) (fun val w h => by rw [V3] at h; exact h) (by decide) (fun val w => by rw [V6, upd_at])
    case s7_q1 =>
     exact owe_gone (g := 6) (t := 18) (b := true) rfl (by kernel_rfl) (by kernel_rfl) (by kernel_rfl) (by simp) (fun val w h => by rw [V6] at h; exact h) (fun val w => by rw [V7, upd_at])
    case s8_q1 =>
     exact owe_gone (g := 6) (t := 18) (b := true) rfl (by kernel_rfl) (by kernel_rfl) (by kernel_rfl) (by simp) (fun val w h => by rw [V6] at h; exact h) (fun val w => by rw [V8, upd_at])
    case s9_q1 =>
     exact owe_gone (g := 6) (t := 18) (b := true) rfl (by kernel_rfl) (by kernel_rfl) (by kernel_rfl) (by simp) (fun val w h => by rw [V6] at h; exact h) (fun val w => by rw [V9, upd_at])
    case s10_q1 =>
     exact owe_gone (g := 6) (t := 18) (b := true) rfl (by kernel_rfl) (by kernel_rfl) (by kernel_rfl) (by simp) (fun val w h => by rw [V6] at h; exact h) (fun val w => by rw [V10, upd_at])
    case s11_q1 =>
     exact owe_gone (g := 6) (t := 18) (b := true) rfl (by kernel_rfl) (by kernel_rfl) (by kernel_rfl) (by simp) (fun val w h => by rw [V6] at h; exact h) (fun val w => by rw [V11, upd_at])
    case s12_q1 =>
     exact owe_gone (g := 6) (t := 18) (b := true) rfl (by kernel_rfl) (by kernel_rfl) (by kernel_rfl) (by simp) (fun val w h => by rw [V6] at h; exact h) (fun val w => by rw [V12, upd_at])
    case s13_q1 =>
     exact owe_gone (g := 6) (t := 18) (b := true) rfl (by kernel_rfl) (by kernel_rfl) (by kernel_rfl) (by simp) (fun val w h => by rw [V6] at h; exact h) (fun val w => by rw [V13, upd_at])
    case s14_q1 =>
     exact owe_gone (g := 6) (t := 18) (b := true) rfl (by kernel_rfl) (by kernel_rfl) (by kernel_rfl) (by simp) (fun val w h => by rw [V6] at h; exact h) (fun val w => by rw [V14, upd_at])
    case s15_q1 =>
     exact owe_skip (g := 3) (t := 15) (b := false) (c := true) rfl (by kernel_rfl) (by kernel_rfl) (by kernel_rfl) (by simp) (fun val w h => by rw [V3] at h; exact h) (by decide) (fun val w => by rw [V15, upd_at])
    case s16_q1 =>
     refine owe rfl fun a wx val hG hV hN hO K hK => ?_
     have e15 := hN 3 15
     have f15 := hV 3
     rw [V3] at f15; rw [f15] at e15; clear f15
     have e27 := hN 15 27
     have f27 := hV 15
     rw [V15] at f27; rw [f27] at e27; clear f27
     clear hV hN hO
     go_simp
     exact hK.out _ _ (by rw [V16, upd_at] <;> (congr 1 <;> omega)) (Below.refl _ _) hG
    intro val wx hG hV
    have f0 := hV 0 (by simp) (fun _ _ => by rfl)
    rw [V0] at f0
    have f1 := hV 1 (by simp) (fun _ _ => by rfl)
    rw [V1] at f1
    have f2 := hV 2 (by simp) (fun _ _ => by rfl)
    rw [V2] at f2
    have f3 := hV 3 (by simp) (fun _ _ => by rfl)
    rw [V3] at f3
    have f4 := hV 4 (by simp) (fun _ _ => by rfl)
    rw [V4] at f4
    have f5 := hV 5 (by simp) (fun _ _ => by rfl)
    rw [V5] at f5
    have f6 := hV 6 (by simp) (fun _ _ => by rfl)
    rw [V6] at f6
    have f7 := hV 7 (by simp) (fun _ _ => by rfl)
    rw [V7] at f7
    have f8 := hV 8 (by simp) (fun _ _ => by rfl)
    rw [V8] at f8
    have f9 := hV 9 (by simp) (fun _ _ => by rfl)
    rw [V9] at f9
    have f10 := hV 10 (by simp) (fun _ _ => by rfl)
    rw [V10] at f10
    have f11 := hV 11 (by simp) (fun _ _ => by rfl)
    rw [V11] at f11
    have f12 := hV 12 (by simp) (fun _ _ => by rfl)
    rw [V12] at f12
    have f13 := hV 13 (by simp) (fun _ _ => by rfl)
    rw [V13] at f13
    have f14 := hV 14 (by simp) (fun _ _ => by rfl)
    rw [V14] at f14
    have f15 := hV 15 (by simp) (fun _ _ => by rfl)
    rw [V15] at f15
    have f16 := hV 16 (by simp) (fun _ _ => by rfl)
    rw [V16] at f16
    clear hV V0 V1 V2 V3 V4 V5 V6 V7 V8 V9 V10 V11 V12 V13 V14 V15 V16
    simp only [putAll, Act.put, List.setIfInBounds_toArray, List.set_cons_zero, List.set_cons_succ]
    generalize val 0 = z0, val 1 = z1, val 2 = z2, val 3 = z3, val 4 = z4, val 5 = z5, val 6 = z6, val 7 = z7, val 8 = z8, val 9 = z9, val 10 = z10, val 11 = z11, val 12 = z12, val 13 = z13, val 14 = z14, val 15 = z15, val 16 = z16 at *
    subst f0 f1 f2 f3 f4 f5 f6 f7 f8 f9 f10 f11 f12 f13 f14 f15 f16
    clear HVD
    go_wp2_with fail
    go_ret
    exact ⟨ret_b HS.out.symm, HB1.out.trans (hG.mono HB1.out.size)⟩
   ·rcases Nat.eq_zero_or_pos k with h0 | h0
    ·subst h0
     have HV : ∃ V : Nat → (Nat → Value) → World → Prop, V = (fun ix u wv => match ix with
      | 0 => u 0 = .agg #[.bool me, .int .i64 mn, .int .i64 ms, .int .i64 mi, .int .i64 mq, .int .i64 mu, .string md]
      | 1 => u 1 = .bool true
      | 2 => u 2 = .bool false
      | 3 => u 3 = .bool false
      | 4 => u 4 = .int .i64 0
      | 5 => u 5 = .bool false
      | 6 => u 6 = .bool false
      | 7 => u 7 = undef
      | 8 => u 8 = undef
      | 9 => u 9 = undef
      | 10 => u 10 = undef
      | 11 => u 11 = undef
      | 12 => u 12 = undef
      | 13 => u 13 = undef
      | 14 => u 14 = undef
      | 15 => u 15 = .bool false
      | 16 => u 16 = .bool false
      | _ => True) := ⟨_, rfl⟩
     obtain ⟨V, hd7⟩ := HV
     have V0 : ∀ u wv, V 0 u wv = (u 0 = .agg #[.bool me, .int .i64 mn, .int .i64 ms, .int .i64 mi, .int .i64 mq, .int .i64 mu, .string md]) := fun _ _ => by subst hd7; rfl
     have V1 : ∀ u wv, V 1 u wv = (u 1 = .bool true) := fun _ _ => by subst hd7; rfl
     have V2 : ∀ u wv, V 2 u wv = (u 2 = .bool false) := fun _ _ => by subst hd7; rfl
     have V3 : ∀ u wv, V 3 u wv = (u 3 = .bool false) := fun _ _ => by subst hd7; rfl
     have V4 : ∀ u wv, V 4 u wv = (u 4 = .int .i64 0) := fun _ _ => by subst hd7; rfl
     have V5 : ∀ u wv, V 5 u wv = (u 5 = .bool false) := fun _ _ => by subst hd7; rfl
     have V6 : ∀ u wv, V 6 u wv = (u 6 = .bool false) := fun _ _ => by subst hd7; rfl
     have V7 : ∀ u wv, V 7 u wv = (u 7 = undef) := fun _ _ => by subst hd7; rfl
     have V8 : ∀ u wv, V 8 u wv = (u 8 = undef) := fun _ _ => by subst hd7; rfl
     have V9 : ∀ u wv, V 9 u wv = (u 9 = undef) := fun _ _ => by subst hd7; rfl
     have V10 : ∀ u wv, V 10 u wv = (u 10 = undef) := fun _ _ => by subst hd7; rfl
     have V11 : ∀ u wv, V 11 u wv = (u 11 = undef) := fun _ _ => by subst hd7; rfl
     have V12 : ∀ u wv, V 12 u wv = (u 12 = undef) := fun _ _ => by subst hd7; rfl
     have V13 : ∀ u wv, V 13 u wv = (u 13 = undef) := fun _ _ => by subst hd7; rfl
     have V14 : ∀ u wv, V 14 u wv = (u 14 = undef) := fun _ _ => by subst hd7; rfl
     have V15 : ∀ u wv, V 15 u wv = (u 15 = .bool false) := fun _ _ => by subst hd7; rfl
     have V16 : ∀ u wv, V 16 u wv = (u 16 = .bool false) := fun _ _ => by subst hd7; rfl
     have HVD := hid hd7
     clear hd7
     refine region_each (V := V) (drop := fun _ _ => false) (G := fun wv => Below W1.heap.size W1 wv) (Rel := fun jx wv wv' => Below wv.heap.size wv wv') (by kernel_rfl) (by kernel_rfl) (Below.refl _ _).drew ?hmonoq2 ?hdepq2 ⟨?s0_q2, ?s1_q2, ?s2_q2, ?s3_q2, ?s4_q2, ?s5_q2, ?s6_q2, ?s7_q2, ?s8_q2, ?s9_q2, ?s10_q2, ?s11_q2, ?s12_q2, ?s13_q2, ?s14_q2, ?s15_q2, ?s16_q2, trivial⟩ ?behindq2
     case hmonoq2 =>
      intro ix jx u wv wv' hij hw hd hr
      rw [HVD.out]
      dsimp only
      split <;> intro h <;> first | exact trivial | exact h
     case hdepq2 =>
      intro ix u u' wv h1 h2
      rw [HVD.out]
      dsimp only
      split <;> intro h <;> first | exact trivial | (rw [← h1]; exact h)
     case s0_q2 =>
      refine owe rfl fun a wx val hG hV hN hO K hK => ?_
      have e4 : a.tmps[4]? = some (.pointer (some ⟨b, 0, none⟩)) := (hO 4).trans (by rfl)
      clear hV hN hO
      obtain ⟨_, x0, x1, x2, x3, x4, x5, x6⟩ := Holds.of_blk (HM1.out.on hG)
      simp only at x0 x1 x2 x3 x4 x5 x6
      go_simp
      exact hK.out _ _ (by rw [V0, upd_at] <;> (congr 1 <;> omega)) (Below.refl _ _) hG
     case s1_q2 =>
      refine owe rfl fun a wx val hG hV hN hO K hK => ?_
      have e12 := hN 0 12
      have f12 := hV 0
      rw [V0] at f12; rw [f12] at e12; clear f12
      clear hV hN hO
      go_simp
      refine (cr _ (HL1.out.below hG)).mono ?_
      rintro e w11 ⟨rfl, hb⟩
      exact hK.out _ _ (by rw [V1, upd_at]) hb (hG.trans (hb.mono hG.size))
     case s2_q2 =>
      refine owe rfl fun a wx val hG hV hN hO K hK => ?_
      have e13 := hN 1 13
      have f13 := hV 1
      rw [V1] at f13; rw [f13] at e13; clear f13
      clear hV hN hO
      go_simp
      exact hK.out _ _ (by rw [V2, upd_at] <;> (congr 1 <;> omega)) (Below.refl _ _) hG
     case s3_q2 =>
      refine owe rfl fun a wx val hG hV hN hO K hK => ?_
      have e14 := hN 2 14
      have f14 := hV 2
      rw [V2] at f14; rw [f14] at e14; clear f14
      clear hV hN hO
      go_simp
      exact hK.out _ _ (by rw [V3, upd_at] <;> (congr 1 <;> omega)) (Below.refl _ _) hG
     case s4_q2 =>
      refine owe_if (g := 3) (t := 15) (b := false) rfl (by kernel_rfl) (by kernel_rfl) (by kernel_rfl) (by simp) (fun val w h => by rw [V3] at h; exact h) fun a wx val hG hV hN hO K hK => ?_
      have e3 : a.tmps[3]? = some (.int .i64 0) := (hO 3).trans (by rfl)
      clear hV hN hO
      go_simp
      exact hK.out _ _ (by rw [V4, upd_at] <;> (congr 1 <;> omega)) (Below.refl _ _) hG
     case s5_q2 =>
      refine owe_if (g := 3) (t := 15) (b := false) rfl (by kernel_rfl) (by kernel_rfl) (by kernel_rfl) (by simp) (fun val w h => by rw [V3] at h; exact h) fun a wx val hG hV hN hO K hK => ?_
      have e16 := hN 4 16
      have f16 := hV 4
      rw [V4] at f16; rw [f16] at e16; clear f16
      clear hV hN hO
      go_simp
      exact hK.out _ _ (by rw [V5, upd_at] <;> (congr 1 <;> omega)) (Below.refl _ _) hG
     case s6_q2 =>
      refine owe_if (g := 3) (t := 15) (b := false) rfl (by kernel_rfl) (by kernel_rfl) (by kernel_rfl) (by simp) (fun val w h => by rw [V3] at h; exact h) fun a wx val hG hV hN hO K hK => ?_
      have e17 := hN 5 17
      have f17 := hV 5
      rw [V5] at f17; rw [f17] at e17; clear f17
      clear hV hN hO
      go_simp
      exact hK.out _ _ (by rw [V6, upd_at] <;> (congr 1 <;> omega)) (Below.refl _ _) hG
     case s7_q2 =>
      exact owe_skip (g := 6) (t := 18) (b := true) (c := false) rfl (by kernel_rfl) (by kernel_rfl) (by kernel_rfl) (by simp) (fun val w h => by rw [V6] at h; exact h) (by decide) (fun val w => by rw [V7, upd_at])
     case s8_q2 =>
      exact owe_skip (g := 6) (t := 18) (b := true) (c := false) rfl (by kernel_rfl) (by kernel_rfl) (by kernel_rfl) (by simp) (fun val w h => by rw [V6] at h; exact h) (by decide) (fun val w => by rw [V8, upd_at])
     case s9_q2 =>
      exact owe_skip (g := 6) (t := 18) (b := true) (c := false) rfl (by kernel_rfl) (by kernel_rfl) (by kernel_rfl) (by simp) (fun val w h => by rw [V6] at h; exact h) (by decide) (fun val w => by rw [V9, upd_at])
     case s10_q2 =>
      exact owe_skip (g := 6) (t := 18) (b := true) (c := false) rfl (by kernel_rfl) (by kernel_rfl) (by kernel_rfl) (by simp) (fun val w h => by rw [V6] at h; exact h) (by decide) (fun val w => by rw [V10, upd_at])
     case s11_q2 =>
      exact owe_skip (g := 6) (t := 18) (b := true) (c := false) rfl (by kernel_rfl) (by kernel_rfl) (by kernel_rfl) (by simp) (fun val w h => by rw [V6] at h; exact h) (by decide) (fun val w => by rw [V11, upd_at])
     case s12_q2 =>
      exact owe_skip (g := 6) (t := 18) (b := true) (c := false) rfl (by kernel_rfl) (by kernel_rfl) (by kernel_rfl) (by simp) (fun val w h => by rw [V6] at h; exact h) (by decide) (fun val w => by rw [V12, upd_at])
     case s13_q2 =>
      exact owe_skip (g := 6) (t := 18) (b := true) (c := false) rfl (by kernel_rfl) (by kernel_rfl) (by kernel_rfl) (by simp) (fun val w h => by rw [V6] at h; exact h) (by decide) (fun val w => by rw [V13, upd_at])
     case s14_q2 =>
      exact owe_skip (g := 6) (t := 18) (b := true) (c := false) rfl (by kernel_rfl) (by kernel_rfl) (by kernel_rfl) (by simp) (fun val w h => by rw [V6] at h; exact h) (by decide) (fun val w => by rw [V14, upd_at])
     case s15_q2 =>
      refine owe_if (g := 3) (t := 15) (b := false) rfl (by kernel_rfl) (by kernel_rfl) (by kernel_rfl) (by simp) (fun val w h => by rw [V3] at h; exact h) fun a wx val hG hV hN hO K hK => ?_
      have e18 := hN 6 18
      have f18 := hV 6
      rw [V6] at f18; rw [f18] at e18; clear f18
      have e26 := hN 14 26
      have f26 := hV 14
      rw [V14] at f26; rw [f26] at e26; clear f26
      clear hV hN hO
      go_simp
      exact hK.out _ _ (by rw [V15, upd_at] <;> (congr 1 <;> omega)) (Below.refl _ _) hG
     case s16_q2 =>
      refine owe rfl fun a wx val hG hV hN hO K hK => ?_
      have e15 := hN 3 15
      have f15 := hV 3
      rw [V3] at f15; rw [f15] at e15; clear f15
      have e27 := hN 15 27
      have f27 := hV 15
      rw [V15] at f27; rw [f27] at e27; clear f27
      clear hV hN hO
      go_simp
      exact hK.out _ _ (by rw [V16, upd_at] <;> (congr 1 <;> omega)) (Below.refl _ _) hG
     intro val wx hG hV
     have f0 := hV 0 (by simp) (fun _ _ => by rfl)
     rw [V0] at f0
     have f1 := hV 1 (by simp) (fun _ _ => by rfl)
     rw [V1] at f1
     have f2 := hV 2 (by simp) (fun _ _ => by rfl)
     rw [V2] at f2
     have f3 := hV 3 (by simp) (fun _ _ => by rfl)
     rw [V3] at f3
     have f4 := hV 4 (by simp) (fun _ _ => by rfl)
     rw [V4] at f4
     have f5 := hV 5 (by simp) (fun _ _ => by rfl)
     rw [V5] at f5
     have f6 := hV 6 (by simp) (fun _ _ => by rfl)
     rw [V6] at f6
     have f7 := hV 7 (by simp) (fun _ _ => by rfl)
     rw [V7] at f7
     have f8 := hV 8 (by simp) (fun _ _ => by rfl)
     rw [V8] at f8
     have f9 := hV 9 (by simp) (fun _ _ => by rfl)
     rw [V9] at f9
     have f10 := hV 10 (by simp) (fun _ _ => by rfl)
     rw [V10] at f10
     have f11 := hV 11 (by simp) (fun _ _ => by rfl)
     rw [V11] at f11
     have f12 := hV 12 (by simp) (fun _ _ => by rfl)
     rw [V12] at f12
     have f13 := hV 13 (by simp) (fun _ _ => by rfl)
     rw [V13] at f13
     have f14 := hV 14 (by simp) (fun _ _ => by rfl)
     rw [V14] at f14
     have f15 := hV 15 (by simp) (fun _ _ => by rfl)
     rw [V15] at f15
     have f16 := hV 16 (by simp) (fun _ _ => by rfl)
     rw [V16] at f16
     clear hV V0 V1 V2 V3 V4 V5 V6 V7 V8 V9 V10 V11 V12 V13 V14 V15 V16
     simp only [putAll, Act.put, List.setIfInBounds_toArray, List.set_cons_zero, List.set_cons_succ]
     generalize val 0 = z0, val 1 = z1, val 2 = z2, val 3 = z3, val 4 = z4, val 5 = z5, val 6 = z6, val 7 = z7, val 8 = z8, val 9 = z9, val 10 = z10, val 11 = z11, val 12 = z12, val 13 = z13, val 14 = z14, val 15 = z15, val 16 = z16 at *
     subst f0 f1 f2 f3 f4 f5 f6 f7 f8 f9 f10 f11 f12 f13 f14 f15 f16
     clear HVD
     go_wp2_with fail
     go_roundw
     case rel => exact ⟨1, by omega, by go_num, HF.out rfl, HB1.out.trans (hG.mono HB1.out.size)⟩
     case measure => simp [intOf]; omega
    ·obtain ⟨j, rfl⟩ : ∃ j, k = j + 1 := ⟨k - 1, by omega⟩
     obtain ⟨p, hp⟩ : ∃ p, l[j]? = some p := ⟨_, List.getElem?_eq_getElem (by omega)⟩
     have hpp := HC1.out j p hp
     have HNX := hid (HN.out j p rfl hp)
     have clp := cl p
     have HPP := hid hpp; clear hpp
     have HAD : Hid (ad.block < W1.heap.size) := hid (by have := HB1.out.size; omega)
     have QJ : Hid ((0 : Int) ≤ j ∧ (j : Int) < l.length) := hid (by omega)
     have QW : Hid (IntKind.i64.wrap (j : Int) = j) := hid (IntWalk.i64_in _ (by omega))
     have QK : Hid ((0 : Int) < ((j + 1 : Nat) : Int)) := hid (by omega)
     cases hlt2 : lessM p ⟨me, mn, ms, mi, mq, mu, md⟩
     ·rw [hlt2] at clp HNX
      have HS : Hid (R = false) := hid (by rw [HR.out]; exact ordU_false HNX.out (by omega))
      clear hlt2
      have HV : ∃ V : Nat → (Nat → Value) → World → Prop, V = (fun ix u wv => match ix with
       | 0 => u 0 = .agg #[.bool me, .int .i64 mn, .int .i64 ms, .int .i64 mi, .int .i64 mq, .int .i64 mu, .string md]
       | 1 => u 1 = .bool true
       | 2 => u 2 = .bool false
       | 3 => u 3 = .bool false
       | 4 => u 4 = .int .i64 ((j + 1 : Nat) : Int)
       | 5 => u 5 = .bool true
       | 6 => u 6 = .bool true
       | 7 => u 7 = .slice (some ad) l.length c
       | 8 => u 8 = .int .i64 ((j + 1 : Nat) : Int)
       | 9 => u 9 = .int .i64 (j : Int)
       | 10 => u 10 = .pointer (some (ad.add (j * 7)))
       | 11 => u 11 = .agg #[.bool p.ext, .int .i64 p.n, .int .i64 p.sender, .int .i64 p.inc, .int .i64 p.seq, .int .i64 p.number, .string p.data]
       | 12 => u 12 = .agg #[.bool me, .int .i64 mn, .int .i64 ms, .int .i64 mi, .int .i64 mq, .int .i64 mu, .string md]
       | 13 => u 13 = .bool false
       | 14 => u 14 = .bool true
       | 15 => u 15 = .bool true
       | 16 => u 16 = .bool true
       | _ => True) := ⟨_, rfl⟩
      obtain ⟨V, hd7⟩ := HV
      have V0 : ∀ u wv, V 0 u wv = (u 0 = .agg #[.bool me, .int .i64 mn, .int .i64 ms, .int .i64 mi, .int .i64 mq, .int .i64 mu, .string md]) := fun _ _ => by subst hd7; rfl
      have V1 : ∀ u wv, V 1 u wv = (u 1 = .bool true) := fun _ _ => by subst hd7; rfl
      have V2 : ∀ u wv, V 2 u wv = (u 2 = .bool false) := fun _ _ => by subst hd7; rfl
      have V3 : ∀ u wv, V 3 u wv = (u 3 = .bool false) := fun _ _ => by subst hd7; rfl
      have V4 : ∀ u wv, V 4 u wv = (u 4 = .int .i64 ((j + 1 : Nat) : Int)) := fun _ _ => by subst hd7; rfl
      have V5 : ∀ u wv, V 5 u wv = (u 5 = .bool true) := fun _ _ => by subst hd7; rfl
      have V6 : ∀ u wv, V 6 u wv = (u 6 = .bool true) := fun _ _ => by subst hd7; rfl
      have V7 : ∀ u wv, V 7 u wv = (u 7 = .slice (some ad) l.length c) := fun _ _ => by subst hd7; rfl
      have V8 : ∀ u wv, V 8 u wv = (u 8 = .int .i64 ((j + 1 : Nat) : Int)) := fun _ _ => by subst hd7; rfl
      have V9 : ∀ u wv, V 9 u wv = (u 9 = .int .i64 (j : Int)) := fun _ _ => by subst hd7; rfl
      have V10 : ∀ u wv, V 10 u wv = (u 10 = .pointer (some (ad.add (j * 7)))) := fun _ _ => by subst hd7; rfl
      have V11 : ∀ u wv, V 11 u wv = (u 11 = .agg #[.bool p.ext, .int .i64 p.n, .int .i64 p.sender, .int .i64 p.inc, .int .i64 p.seq, .int .i64 p.number, .string p.data]) := fun _ _ => by subst hd7; rfl
      have V12 : ∀ u wv, V 12 u wv = (u 12 = .agg #[.bool me, .int .i64 mn, .int .i64 ms, .int .i64 mi, .int .i64 mq, .int .i64 mu, .string md]) := fun _ _ => by subst hd7; rfl
      have V13 : ∀ u wv, V 13 u wv = (u 13 = .bool false) := fun _ _ => by subst hd7; rfl
      have V14 : ∀ u wv, V 14 u wv = (u 14 = .bool true) := fun _ _ => by subst hd7; rfl
      have V15 : ∀ u wv, V 15 u wv = (u 15 = .bool true) := fun _ _ => by subst hd7; rfl
      have V16 : ∀ u wv, V 16 u wv = (u 16 = .bool true) := fun _ _ => by subst hd7; rfl
      have HVD := hid hd7
      clear hd7
      refine region_each (V := V) (drop := fun _ _ => false) (G := fun wv => Below W1.heap.size W1 wv) (Rel := fun jx wv wv' => Below wv.heap.size wv wv') (by kernel_rfl) (by kernel_rfl) (Below.refl _ _).drew ?hmonoq3 ?hdepq3 ⟨?s0_q3, ?s1_q3, ?s2_q3, ?s3_q3, ?s4_q3, ?s5_q3, ?s6_q3, ?s7_q3, ?s8_q3, ?s9_q3, ?s10_q3, ?s11_q3, ?s12_q3, ?s13_q3, ?s14_q3, ?s15_q3, ?s16_q3, trivial⟩ ?behindq3
      case hmonoq3 =>
       intro ix jx u wv wv' hij hw hd hr
       rw [HVD.out]
       dsimp only
       split <;> intro h <;> first | exact trivial | exact h
      case hdepq3 =>
       intro ix u u' wv h1 h2
       rw [HVD.out]
       dsimp only
       split <;> intro h <;> first | exact trivial | (rw [← h1]; exact h)
      case s0_q3 =>
       refine owe rfl fun a wx val hG hV hN hO K hK => ?_
       have e4 : a.tmps[4]? = some (.pointer (some ⟨b, 0, none⟩)) := (hO 4).trans (by rfl)
       clear hV hN hO
       obtain ⟨_, x0, x1, x2, x3, x4, x5, x6⟩ := Holds.of_blk (HM1.out.on hG)
       simp only at x0 x1 x2 x3 x4 x5 x6
       obtain ⟨y0, y1, y2, y3, y4, y5, y6⟩ := (HPP.out).keep (fun q hq => hG.cell (by rw [hq, adb]; exact HAD.out))
       go_simp
       exact hK.out _ _ (by rw [V0, upd_at] <;> (congr 1 <;> omega)) (Below.refl _ _) hG
      case s1_q3 =>
       refine owe rfl fun a wx val hG hV hN hO K hK => ?_
       have e12 := hN 0 12
       have f12 := hV 0
       rw [V0] at f12; rw [f12] at e12; clear f12
       clear hV hN hO
       go_simp
       refine (cr _ (HL1.out.below hG)).mono ?_
       rintro e w11 ⟨rfl, hb⟩
       exact hK.out _ _ (by rw [V1, upd_at]) hb (hG.trans (hb.mono hG.size))
      case s2_q3 =>
       refine owe rfl fun a wx val hG hV hN hO K hK => ?_
       have e13 := hN 1 13
       have f13 := hV 1
       rw [V1] at f13; rw [f13] at e13; clear f13
       clear hV hN hO
       go_simp
       exact hK.out _ _ (by rw [V2, upd_at] <;> (congr 1 <;> omega)) (Below.refl _ _) hG
      case s3_q3 =>
       refine owe rfl fun a wx val hG hV hN hO K hK => ?_
       have e14 := hN 2 14
       have f14 := hV 2
       rw [V2] at f14; rw [f14] at e14; clear f14
       clear hV hN hO
       go_simp
       exact hK.out _ _ (by rw [V3, upd_at] <;> (congr 1 <;> omega)) (Below.refl _ _) hG
      case s4_q3 =>
       refine owe_if (g := 3) (t := 15) (b := false) rfl (by kernel_rfl) (by kernel_rfl) (by kernel_rfl) (by simp) (fun val w h => by rw [V3] at h; exact h) fun a wx val hG hV hN hO K hK => ?_
       have e3 : a.tmps[3]? = some (.int .i64 ((j + 1 : Nat) : Int)) := (hO 3).trans (by rfl)
       clear hV hN hO
       go_simp
       exact hK.out _ _ (by rw [V4, upd_at] <;> (congr 1 <;> omega)) (Below.refl _ _) hG
      case s5_q3 =>
       refine owe_if (g := 3) (t := 15) (b := false) rfl (by kernel_rfl) (by kernel_rfl) (by kernel_rfl) (by simp) (fun val w h => by rw [V3] at h; exact h) fun a wx val hG hV hN hO K hK => ?_
       have e16 := hN 4 16
       have f16 := hV 4
       rw [V4] at f16; rw [f16] at e16; clear f16
       clear hV hN hO
       have q1 := QK.out
       go_simp
       exact hK.out _ _ (by rw [V5, upd_at] <;> (congr 1 <;> omega)) (Below.refl _ _) hG
      case s6_q3 =>
       refine owe_if (g := 3) (t := 15) (b := false) rfl (by kernel_rfl) (by kernel_rfl) (by kernel_rfl) (by simp) (fun val w h => by rw [V3] at h; exact h) fun a wx val hG hV hN hO K hK => ?_
       have e17 := hN 5 17
       have f17 := hV 5
       rw [V5] at f17; rw [f17] at e17; clear f17
       clear hV hN hO
       go_simp
       exact hK.out _ _ (by rw [V6, upd_at] <;> (congr 1 <;> omega)) (Below.refl _ _) hG
      case s7_q3 =>
       refine owe_if (g := 6) (t := 18) (b := true) rfl (by kernel_rfl) (by kernel_rfl) (by kernel_rfl) (by simp) (fun val w h => by rw [V6] at h; exact h) fun a wx val hG hV hN hO K hK => ?_
       have e0 : a.tmps[0]? = some (.slice (some ad) l.length c) := (hO 0).trans (by rfl)
       clear hV hN hO
       go_simp
       exact hK.out _ _ (by rw [V7, upd_at] <;> (congr 1 <;> omega)) (Below.refl _ _) hG
      case s8_q3 =>
       refine owe_if (g := 6) (t := 18) (b := true) rfl (by kernel_rfl) (by kernel_rfl) (by kernel_rfl) (by simp) (fun val w h => by rw [V6] at h; exact h) fun a wx val hG hV hN hO K hK => ?_
       have e3 : a.tmps[3]? = some (.int .i64 ((j + 1 : Nat) : Int)) := (hO 3).trans (by rfl)
       clear hV hN hO
       go_simp
       exact hK.out _ _ (by rw [V8, upd_at] <;> (congr 1 <;> omega)) (Below.refl _ _) hG
      case s9_q3 =>
       refine owe_if (g := 6) (t := 18) (b := true) rfl (by kernel_rfl) (by kernel_rfl) (by kernel_rfl) (by simp) (fun val w h => by rw [V6] at h; exact h) fun a wx val hG hV hN hO K hK => ?_
       have e20 := hN 8 20
       have f20 := hV 8
       rw [V8] at f20; rw [f20] at e20; clear f20
       clear hV hN hO
       have q1 := QJ.out
       obtain ⟨q2, q3⟩ := id q1
       have q4 := QW.out
       go_simp
       exact hK.out _ _ (by rw [V9, upd_at] <;> (congr 1 <;> omega)) (Below.refl _ _) hG
      case s10_q3 =>
       refine owe_if (g := 6) (t := 18) (b := true) rfl (by kernel_rfl) (by kernel_rfl) (by kernel_rfl) (by simp) (fun val w h => by rw [V6] at h; exact h) fun a wx val hG hV hN hO K hK => ?_
       have e19 := hN 7 19
       have f19 := hV 7
       rw [V7] at f19; rw [f19] at e19; clear f19
       have e21 := hN 9 21
       have f21 := hV 9
       rw [V9] at f21; rw [f21] at e21; clear f21
       clear hV hN hO
       have q1 := QJ.out
       obtain ⟨q2, q3⟩ := id q1
       go_simp
       exact hK.out _ _ (by rw [V10, upd_at] <;> (congr 1 <;> omega)) (Below.refl _ _) hG
      case s11_q3 =>
       refine owe_if (g := 6) (t := 18) (b := true) rfl (by kernel_rfl) (by kernel_rfl) (by kernel_rfl) (by simp) (fun val w h => by rw [V6] at h; exact h) fun a wx val hG hV hN hO K hK => ?_
       have e22 := hN 10 22
       have f22 := hV 10
       rw [V10] at f22; rw [f22] at e22; clear f22
       clear hV hN hO
       obtain ⟨_, x0, x1, x2, x3, x4, x5, x6⟩ := Holds.of_blk (HM1.out.on hG)
       simp only at x0 x1 x2 x3 x4 x5 x6
       obtain ⟨y0, y1, y2, y3, y4, y5, y6⟩ := (HPP.out).keep (fun q hq => hG.cell (by rw [hq, adb]; exact HAD.out))
       go_simp
       exact hK.out _ _ (by rw [V11, upd_at] <;> (congr 1 <;> omega)) (Below.refl _ _) hG
      case s12_q3 =>
       refine owe_if (g := 6) (t := 18) (b := true) rfl (by kernel_rfl) (by kernel_rfl) (by kernel_rfl) (by simp) (fun val w h => by rw [V6] at h; exact h) fun a wx val hG hV hN hO K hK => ?_
       have e4 : a.tmps[4]? = some (.pointer (some ⟨b, 0, none⟩)) := (hO 4).trans (by rfl)
       clear hV hN hO
       obtain ⟨_, x0, x1, x2, x3, x4, x5, x6⟩ := Holds.of_blk (HM1.out.on hG)
       simp only at x0 x1 x2 x3 x4 x5 x6
       obtain ⟨y0, y1, y2, y3, y4, y5, y6⟩ := (HPP.out).keep (fun q hq => hG.cell (by rw [hq, adb]; exact HAD.out))
       go_simp
       exact hK.out _ _ (by rw [V12, upd_at] <;> (congr 1 <;> omega)) (Below.refl _ _) hG
      case s13_q3 =>
       refine owe_if (g := 6) (t := 18) (b := true) rfl (by kernel_rfl) (by kernel_rfl) (by kernel_rfl) (by simp) (fun val w h => by rw [V6] at h; exact h) fun a wx val hG hV hN hO K hK => ?_
       have e23 := hN 11 23
       have f23 := hV 11
       rw [V11] at f23; rw [f23] at e23; clear f23
       have e24 := hN 12 24
       have f24 := hV 12
       rw [V12] at f24; rw [f24] at e24; clear f24
       clear hV hN hO
       go_simp
       refine (clp _ (HL1.out.below hG)).mono ?_
       rintro e w11 ⟨rfl, hb⟩
       exact hK.out _ _ (by rw [V13, upd_at]) hb (hG.trans (hb.mono hG.size))
      case s14_q3 =>
       refine owe_if (g := 6) (t := 18) (b := true) rfl (by kernel_rfl) (by kernel_rfl) (by kernel_rfl) (by simp) (fun val w h => by rw [V6] at h; exact h) fun a wx val hG hV hN hO K hK => ?_
       have e25 := hN 13 25
       have f25 := hV 13
       rw [V13] at f25; rw [f25] at e25; clear f25
       clear hV hN hO
       go_simp
       exact hK.out _ _ (by rw [V14, upd_at] <;> (congr 1 <;> omega)) (Below.refl _ _) hG
      case s15_q3 =>
       refine owe_if (g := 3) (t := 15) (b := false) rfl (by kernel_rfl) (by kernel_rfl) (by kernel_rfl) (by simp) (fun val w h => by rw [V3] at h; exact h) fun a wx val hG hV hN hO K hK => ?_
       have e18 := hN 6 18
       have f18 := hV 6
       rw [V6] at f18; rw [f18] at e18; clear f18
       have e26 := hN 14 26
       have f26 := hV 14
       rw [V14] at f26; rw [f26] at e26; clear f26
       clear hV hN hO
       go_simp
       exact hK.out _ _ (by rw [V15, upd_at] <;> (congr 1 <;> omega)) (Below.refl _ _) hG
      case s16_q3 =>
       refine owe rfl fun a wx val hG hV hN hO K hK => ?_
       have e15 := hN 3 15
       have f15 := hV 3
       rw [V3] at f15; rw [f15] at e15; clear f15
       have e27 := hN 15 27
       have f27 := hV 15
       rw [V15] at f27; rw [f27] at e27; clear f27
       clear hV hN hO
       go_simp
       exact hK.out _ _ (by rw [V16, upd_at] <;> (congr 1 <;> omega)) (Below.refl _ _) hG
      intro val wx hG hV
      have f0 := hV 0 (by simp) (fun _ _ => by rfl)
      rw [V0] at f0
      have f1 := hV 1 (by simp) (fun _ _ => by rfl)
      rw [V1] at f1
      have f2 := hV 2 (by simp) (fun _ _ => by rfl)
      rw [V2] at f2
      have f3 := hV 3 (by simp) (fun _ _ => by rfl)
      rw [V3] at f3
      have f4 := hV 4 (by simp) (fun _ _ => by rfl)
      rw [V4] at f4
      have f5 := hV 5 (by simp) (fun _ _ => by rfl)
      rw [V5] at f5
      have f6 := hV 6 (by simp) (fun _ _ => by rfl)
      rw [V6] at f6
      have f7 := hV 7 (by simp) (fun _ _ => by rfl)
      rw [V7] at f7
      have f8 := hV 8 (by simp) (fun _ _ => by rfl)
      rw [V8] at f8
      have f9 := hV 9 (by simp) (fun _ _ => by rfl)
      rw [V9] at f9
      have f10 := hV 10 (by simp) (fun _ _ => by rfl)
      rw [V10] at f10
      have f11 := hV 11 (by simp) (fun _ _ => by rfl)
      rw [V11] at f11
      have f12 := hV 12 (by simp) (fun _ _ => by rfl)
      rw [V12] at f12
      have f13 := hV 13 (by simp) (fun _ _ => by rfl)
      rw [V13] at f13
      have f14 := hV 14 (by simp) (fun _ _ => by rfl)
      rw [V14] at f14
      have f15 := hV 15 (by simp) (fun _ _ => by rfl)
      rw [V15] at f15
      have f16 := hV 16 (by simp) (fun _ _ => by rfl)
      rw [V16] at f16
      clear hV V0 V1 V2 V3 V4 V5 V6 V7 V8 V9 V10 V11 V12 V13 V14 V15 V16
      simp only [putAll, Act.put, List.setIfInBounds_toArray, List.set_cons_zero, List.set_cons_succ]
      generalize val 0 = z0, val 1 = z1, val 2 = z2, val 3 = z3, val 4 = z4, val 5 = z5, val 6 = z6, val 7 = z7, val 8 = z8, val 9 = z9, val 10 = z10, val 11 = z11, val 12 = z12, val 13 = z13, val 14 = z14, val 15 = z15, val 16 = z16 at *
      subst f0 f1 f2 f3 f4 f5 f6 f7 f8 f9 f10 f11 f12 f13 f14 f15 f16
      clear HVD
      go_wp2_with fail
      go_ret
      exact ⟨ret_b HS.out.symm, HB1.out.trans (hG.mono HB1.out.size)⟩
     ·rw [hlt2] at clp HNX
      clear hlt2
      have HV : ∃ V : Nat → (Nat → Value) → World → Prop, V = (fun ix u wv => match ix with
       | 0 => u 0 = .agg #[.bool me, .int .i64 mn, .int .i64 ms, .int .i64 mi, .int .i64 mq, .int .i64 mu, .string md]
       | 1 => u 1 = .bool true
       | 2 => u 2 = .bool false
       | 3 => u 3 = .bool false
       | 4 => u 4 = .int .i64 ((j + 1 : Nat) : Int)
       | 5 => u 5 = .bool true
       | 6 => u 6 = .bool true
       | 7 => u 7 = .slice (some ad) l.length c
       | 8 => u 8 = .int .i64 ((j + 1 : Nat) : Int)
       | 9 => u 9 = .int .i64 (j : Int)
       | 10 => u 10 = .pointer (some (ad.add (j * 7)))
       | 11 => u 11 = .agg #[.bool p.ext, .int .i64 p.n, .int .i64 p.sender, .int .i64 p.inc, .int .i64 p.seq, .int .i64 p.number, .string p.data]
       | 12 => u 12 = .agg #[.bool me, .int .i64 mn, .int .i64 ms, .int .i64 mi, .int .i64 mq, .int .i64 mu, .string md]
       | 13 => u 13 = .bool true
       | 14 => u 14 = .bool false
       | 15 => u 15 = .bool false
       | 16 => u 16 = .bool false
       | _ => True) := ⟨_, rfl⟩
      obtain ⟨V, hd7⟩ := HV
      have V0 : ∀ u wv, V 0 u wv = (u 0 = .agg #[.bool me, .int .i64 mn, .int .i64 ms, .int .i64 mi, .int .i64 mq, .int .i64 mu, .string md]) := fun _ _ => by subst hd7; rfl
      have V1 : ∀ u wv, V 1 u wv = (u 1 = .bool true) := fun _ _ => by subst hd7; rfl
      have V2 : ∀ u wv, V 2 u wv = (u 2 = .bool false) := fun _ _ => by subst hd7; rfl
      have V3 : ∀ u wv, V 3 u wv = (u 3 = .bool false) := fun _ _ => by subst hd7; rfl
      have V4 : ∀ u wv, V 4 u wv = (u 4 = .int .i64 ((j + 1 : Nat) : Int)) := fun _ _ => by subst hd7; rfl
      have V5 : ∀ u wv, V 5 u wv = (u 5 = .bool true) := fun _ _ => by subst hd7; rfl
      have V6 : ∀ u wv, V 6 u wv = (u 6 = .bool true) := fun _ _ => by subst hd7; rfl
      have V7 : ∀ u wv, V 7 u wv = (u 7 = .slice (some ad) l.length c) := fun _ _ => by subst hd7; rfl
      have V8 : ∀ u wv, V 8 u wv = (u 8 = .int .i64 ((j + 1 : Nat) : Int)) := fun _ _ => by subst hd7; rfl
      have V9 : ∀ u wv, V 9 u wv = (u 9 = .int .i64 (j : Int)) := fun _ _ => by subst hd7; rfl
      have V10 : ∀ u wv, V 10 u wv = (u 10 = .pointer (some (ad.add (j * 7)))) := fun _ _ => by subst hd7; rfl
      have V11 : ∀ u wv, V 11 u wv = (u 11 = .agg #[.bool p.ext, .int .i64 p.n, .int .i64 p.sender, .int .i64 p.inc, .int .i64 p.seq, .int .i64 p.number, .string p.data]) := fun _ _ => by subst hd7; rfl
      have V12 : ∀ u wv, V 12 u wv = (u 12 = .agg #[.bool me, .int .i64 mn, .int .i64 ms, .int .i64 mi, .int .i64 mq, .int .i64 mu, .string md]) := fun _ _ => by subst hd7; rfl
      have V13 : ∀ u wv, V 13 u wv = (u 13 = .bool true) := fun _ _ => by subst hd7; rfl
      have V14 : ∀ u wv, V 14 u wv = (u 14 = .bool false) := fun _ _ => by subst hd7; rfl
      have V15 : ∀ u wv, V 15 u wv = (u 15 = .bool false) := fun _ _ => by subst hd7; rfl
      have V16 : ∀ u wv, V 16 u wv = (u 16 = .bool false) := fun _ _ => by subst hd7; rfl
      have HVD := hid hd7
      clear hd7
      refine region_each (V := V) (drop := fun _ _ => false) (G := fun wv => Below W1.heap.size W1 wv) (Rel := fun jx wv wv' => Below wv.heap.size wv wv') (by kernel_rfl) (by kernel_rfl) (Below.refl _ _).drew ?hmonoq4 ?hdepq4 ⟨?s0_q4, ?s1_q4, ?s2_q4, ?s3_q4, ?s4_q4, ?s5_q4, ?s6_q4, ?s7_q4, ?s8_q4, ?s9_q4, ?s10_q4, ?s11_q4, ?s12_q4, ?s13_q4, ?s14_q4, ?s15_q4, ?s16_q4, trivial⟩ ?behindq4
      case hmonoq4 =>
       intro ix jx u wv wv' hij hw hd hr
       rw [HVD.out]
       dsimp only
       split <;> intro h <;> first | exact trivial | exact h
      case hdepq4 =>
       intro ix u u' wv h1 h2
       rw [HVD.out]
       dsimp only
       split <;> intro h <;> first | exact trivial | (rw [← h1]; exact h)
      case s0_q4 =>
       refine owe rfl fun a wx val hG hV hN hO K hK => ?_
       have e4 : a.tmps[4]? = some (.pointer (some ⟨b, 0, none⟩)) := (hO 4).trans (by rfl)
       clear hV hN hO
       obtain ⟨_, x0, x1, x2, x3, x4, x5, x6⟩ := Holds.of_blk (HM1.out.on hG)
       simp only at x0 x1 x2 x3 x4 x5 x6
       obtain ⟨y0, y1, y2, y3, y4, y5, y6⟩ := (HPP.out).keep (fun q hq => hG.cell (by rw [hq, adb]; exact HAD.out))
       go_simp
       exact hK.out _ _ (by rw [V0, upd_at] <;> (congr 1 <;> omega)) (Below.refl _ _) hG
      case s1_q4 =>
       refine owe rfl fun a wx val hG hV hN hO K hK => ?_
       have e12 := hN 0 12
       have f12 := hV 0
       rw [V0] at f12; rw [f12] at e12; clear f12
       clear hV hN hO
       go_simp
       refine (cr _ (HL1.out.below hG)).mono ?_
       rintro e w11 ⟨rfl, hb⟩
       exact hK.out _ _ (by rw [V1, upd_at]) hb (hG.trans (hb.mono hG.size))
      case s2_q4 =>
       refine owe rfl fun a wx val hG hV hN hO K hK => ?_
       have e13 := hN 1 13
       have f13 := hV 1
       rw [V1] at f13; rw [f13] at e13; clear f13
       clear hV hN hO
       go_simp
       exact hK.out _ _ (by rw [V2, upd_at] <;> (congr 1 <;> omega)) (Below.refl _ _) hG
      case s3_q4 =>
       refine owe rfl fun a wx val hG hV hN hO K hK => ?_
       have e14 := hN 2 14
       have f14 := hV 2
       rw [V2] at f14; rw [f14] at e14; clear f14
       clear hV hN hO
       go_simp
       exact hK.out _ _ (by rw [V3, upd_at] <;> (congr 1 <;> omega)) (Below.refl _ _) hG
      case s4_q4 =>
       refine owe_if (g := 3) (t := 15) (b := false) rfl (by kernel_rfl) (by kernel_rfl) (by kernel_rfl) (by simp) (fun val w h => by rw [V3] at h; exact h) fun a wx val hG hV hN hO K hK => ?_
       have e3 : a.tmps[3]? = some (.int .i64 ((j + 1 : Nat) : Int)) := (hO 3).trans (by rfl)
       clear hV hN hO
       go_simp
       exact hK.out _ _ (by rw [V4, upd_at] <;> (congr 1 <;> omega)) (Below.refl _ _) hG
      case s5_q4 =>
       refine owe_if (g := 3) (t := 15) (b := false) rfl (by kernel_rfl) (by kernel_rfl) (by kernel_rfl) (by simp) (fun val w h => by rw [V3] at h; exact h) fun a wx val hG hV hN hO K hK => ?_
       have e16 := hN 4 16
       have f16 := hV 4
       rw [V4] at f16; rw [f16] at e16; clear f16
       clear hV hN hO
       have q1 := QK.out
       go_simp
       exact hK.out _ _ (by rw [V5, upd_at] <;> (congr 1 <;> omega)) (Below.refl _ _) hG
      case s6_q4 =>
       refine owe_if (g := 3) (t := 15) (b := false) rfl (by kernel_rfl) (by kernel_rfl) (by kernel_rfl) (by simp) (fun val w h => by rw [V3] at h; exact h) fun a wx val hG hV hN hO K hK => ?_
       have e17 := hN 5 17
       have f17 := hV 5
       rw [V5] at f17; rw [f17] at e17; clear f17
       clear hV hN hO
       go_simp
       exact hK.out _ _ (by rw [V6, upd_at] <;> (congr 1 <;> omega)) (Below.refl _ _) hG
      case s7_q4 =>
       refine owe_if (g := 6) (t := 18) (b := true) rfl (by kernel_rfl) (by kernel_rfl) (by kernel_rfl) (by simp) (fun val w h => by rw [V6] at h; exact h) fun a wx val hG hV hN hO K hK => ?_
       have e0 : a.tmps[0]? = some (.slice (some ad) l.length c) := (hO 0).trans (by rfl)
       clear hV hN hO
       go_simp
       exact hK.out _ _ (by rw [V7, upd_at] <;> (congr 1 <;> omega)) (Below.refl _ _) hG
      case s8_q4 =>
       refine owe_if (g := 6) (t := 18) (b := true) rfl (by kernel_rfl) (by kernel_rfl) (by kernel_rfl) (by simp) (fun val w h => by rw [V6] at h; exact h) fun a wx val hG hV hN hO K hK => ?_
       have e3 : a.tmps[3]? = some (.int .i64 ((j + 1 : Nat) : Int)) := (hO 3).trans (by rfl)
       clear hV hN hO
       go_simp
       exact hK.out _ _ (by rw [V8, upd_at] <;> (congr 1 <;> omega)) (Below.refl _ _) hG
      case s9_q4 =>
       refine owe_if (g := 6) (t := 18) (b := true) rfl (by kernel_rfl) (by kernel_rfl) (by kernel_rfl) (by simp) (fun val w h => by rw [V6] at h; exact h) fun a wx val hG hV hN hO K hK => ?_
       have e20 := hN 8 20
       have f20 := hV 8
       rw [V8] at f20; rw [f20] at e20; clear f20
       clear hV hN hO
       have q1 := QJ.out
       obtain ⟨q2, q3⟩ := id q1
       have q4 := QW.out
       go_simp
       exact hK.out _ _ (by rw [V9, upd_at] <;> (congr 1 <;> omega)) (Below.refl _ _) hG
      case s10_q4 =>
       refine owe_if (g := 6) (t := 18) (b := true) rfl (by kernel_rfl) (by kernel_rfl) (by kernel_rfl) (by simp) (fun val w h => by rw [V6] at h; exact h) fun a wx val hG hV hN hO K hK => ?_
       have e19 := hN 7 19
       have f19 := hV 7
       rw [V7] at f19; rw [f19] at e19; clear f19
       have e21 := hN 9 21
       have f21 := hV 9
       rw [V9] at f21; rw [f21] at e21; clear f21
       clear hV hN hO
       have q1 := QJ.out
       obtain ⟨q2, q3⟩ := id q1
       go_simp
       exact hK.out _ _ (by rw [V10, upd_at] <;> (congr 1 <;> omega)) (Below.refl _ _) hG
      case s11_q4 =>
       refine owe_if (g := 6) (t := 18) (b := true) rfl (by kernel_rfl) (by kernel_rfl) (by kernel_rfl) (by simp) (fun val w h => by rw [V6] at h; exact h) fun a wx val hG hV hN hO K hK => ?_
       have e22 := hN 10 22
       have f22 := hV 10
       rw [V10] at f22; rw [f22] at e22; clear f22
       clear hV hN hO
       obtain ⟨_, x0, x1, x2, x3, x4, x5, x6⟩ := Holds.of_blk (HM1.out.on hG)
       simp only at x0 x1 x2 x3 x4 x5 x6
       obtain ⟨y0, y1, y2, y3, y4, y5, y6⟩ := (HPP.out).keep (fun q hq => hG.cell (by rw [hq, adb]; exact HAD.out))
       go_simp
       exact hK.out _ _ (by rw [V11, upd_at] <;> (congr 1 <;> omega)) (Below.refl _ _) hG
      case s12_q4 =>
       refine owe_if (g := 6) (t := 18) (b := true) rfl (by kernel_rfl) (by kernel_rfl) (by kernel_rfl) (by simp) (fun val w h => by rw [V6] at h; exact h) fun a wx val hG hV hN hO K hK => ?_
       have e4 : a.tmps[4]? = some (.pointer (some ⟨b, 0, none⟩)) := (hO 4).trans (by rfl)
       clear hV hN hO
       obtain ⟨_, x0, x1, x2, x3, x4, x5, x6⟩ := Holds.of_blk (HM1.out.on hG)
       simp only at x0 x1 x2 x3 x4 x5 x6
       obtain ⟨y0, y1, y2, y3, y4, y5, y6⟩ := (HPP.out).keep (fun q hq => hG.cell (by rw [hq, adb]; exact HAD.out))
       go_simp
       exact hK.out _ _ (by rw [V12, upd_at] <;> (congr 1 <;> omega)) (Below.refl _ _) hG
      case s13_q4 =>
       refine owe_if (g := 6) (t := 18) (b := true) rfl (by kernel_rfl) (by kernel_rfl) (by kernel_rfl) (by simp) (fun val w h => by rw [V6] at h; exact h) fun a wx val hG hV hN hO K hK => ?_
       have e23 := hN 11 23
       have f23 := hV 11
       rw [V11] at f23; rw [f23] at e23; clear f23
       have e24 := hN 12 24
       have f24 := hV 12
       rw [V12] at f24; rw [f24] at e24; clear f24
       clear hV hN hO
       go_simp
       refine (clp _ (HL1.out.below hG)).mono ?_
       rintro e w11 ⟨rfl, hb⟩
       exact hK.out _ _ (by rw [V13, upd_at]) hb (hG.trans (hb.mono hG.size))
      case s14_q4 =>
       refine owe_if (g := 6) (t := 18) (b := true) rfl (by kernel_rfl) (by kernel_rfl) (by kernel_rfl) (by simp) (fun val w h => by rw [V6] at h; exact h) fun a wx val hG hV hN hO K hK => ?_
       have e25 := hN 13 25
       have f25 := hV 13
       rw [V13] at f25; rw [f25] at e25; clear f25
       clear hV hN hO
       go_simp
       exact hK.out _ _ (by rw [V14, upd_at] <;> (congr 1 <;> omega)) (Below.refl _ _) hG
      case s15_q4 =>
       refine owe_if (g := 3) (t := 15) (b := false) rfl (by kernel_rfl) (by kernel_rfl) (by kernel_rfl) (by simp) (fun val w h => by rw [V3] at h; exact h) fun a wx val hG hV hN hO K hK => ?_
       have e18 := hN 6 18
       have f18 := hV 6
       rw [V6] at f18; rw [f18] at e18; clear f18
       have e26 := hN 14 26
       have f26 := hV 14
       rw [V14] at f26; rw [f26] at e26; clear f26
       clear hV hN hO
       go_simp
       exact hK.out _ _ (by rw [V15, upd_at] <;> (congr 1 <;> omega)) (Below.refl _ _) hG
      case s16_q4 =>
       refine owe rfl fun a wx val hG hV hN hO K hK => ?_
       have e15 := hN 3 15
       have f15 := hV 3
       rw [V3] at f15; rw [f15] at e15; clear f15
       have e27 := hN 15 27
       have f27 := hV 15
       rw [V15] at f27; rw [f27] at e27; clear f27
       clear hV hN hO
       go_simp
       exact hK.out _ _ (by rw [V16, upd_at] <;> (congr 1 <;> omega)) (Below.refl _ _) hG
      intro val wx hG hV
      have f0 := hV 0 (by simp) (fun _ _ => by rfl)
      rw [V0] at f0
      have f1 := hV 1 (by simp) (fun _ _ => by rfl)
      rw [V1] at f1
      have f2 := hV 2 (by simp) (fun _ _ => by rfl)
      rw [V2] at f2
      have f3 := hV 3 (by simp) (fun _ _ => by rfl)
      rw [V3] at f3
      have f4 := hV 4 (by simp) (fun _ _ => by rfl)
      rw [V4] at f4
      have f5 := hV 5 (by simp) (fun _ _ => by rfl)
      rw [V5] at f5
      have f6 := hV 6 (by simp) (fun _ _ => by rfl)
      rw [V6] at f6
      have f7 := hV 7 (by simp) (fun _ _ => by rfl)
      rw [V7] at f7
      have f8 := hV 8 (by simp) (fun _ _ => by rfl)
      rw [V8] at f8
      have f9 := hV 9 (by simp) (fun _ _ => by rfl)
      rw [V9] at f9
      have f10 := hV 10 (by simp) (fun _ _ => by rfl)
      rw [V10] at f10
      have f11 := hV 11 (by simp) (fun _ _ => by rfl)
      rw [V11] at f11
      have f12 := hV 12 (by simp) (fun _ _ => by rfl)
      rw [V12] at f12
      have f13 := hV 13 (by simp) (fun _ _ => by rfl)
      rw [V13] at f13
      have f14 := hV 14 (by simp) (fun _ _ => by rfl)
      rw [V14] at f14
      have f15 := hV 15 (by simp) (fun _ _ => by rfl)
      rw [V15] at f15
      have f16 := hV 16 (by simp) (fun _ _ => by rfl)
      rw [V16] at f16
      clear hV V0 V1 V2 V3 V4 V5 V6 V7 V8 V9 V10 V11 V12 V13 V14 V15 V16
      simp only [putAll, Act.put, List.setIfInBounds_toArray, List.set_cons_zero, List.set_cons_succ]
      generalize val 0 = z0, val 1 = z1, val 2 = z2, val 3 = z3, val 4 = z4, val 5 = z5, val 6 = z6, val 7 = z7, val 8 = z8, val 9 = z9, val 10 = z10, val 11 = z11, val 12 = z12, val 13 = z13, val 14 = z14, val 15 = z15, val 16 = z16 at *
      subst f0 f1 f2 f3 f4 f5 f6 f7 f8 f9 f10 f11 f12 f13 f14 f15 f16
      clear HVD
      go_wp2_with fail
      go_roundw
      case rel => exact ⟨j + 2, by omega, by go_num, HNX.out, HB1.out.trans (hG.mono HB1.out.size)⟩
      case measure => simp [intOf]; omega
  ·have ek : k = l.length := by omega
   subst ek
   go_wp2_with fail
   go_ret
   exact ⟨ret_b (by rw [HR.out, ho]), HB.out⟩
theorem memU_stays (mem : Int) (incs : List Int) (l : List Msg) {k : Nat} (h : memU mem incs l k = false) : ∀ j, memU mem incs l (k + j) = false
 | 0 => h
 | j + 1 => by
  show (memU mem incs l (k + j) && _) = false
  rw [memU_stays mem incs l h j]; rfl
theorem memU_false {mem : Int} {incs : List Int} {l : List Msg} {k n : Nat} (h : memU mem incs l k = false) (hk : k ≤ n) : memU mem incs l n = false := by
 have := memU_stays mem incs l h (n - k)
 rwa [show k + (n - k) = n by omega] at this
theorem memU_next {mem : Int} {incs : List Int} {l : List Msg} {k : Nat} {m : Msg} (hm : l[k]? = some m) (h : memU mem incs l k = true) : memU mem incs l (k + 1) = (isE mem incs m.sender && (decide (m.inc = incE mem incs m.sender) && !((l.take k).any fun x => decide (x.sender = m.sender)))) := by
 show (memU mem incs l k && (isE mem incs (l.getD k zeroM).sender && (decide ((l.getD k zeroM).inc = incE mem incs (l.getD k zeroM).sender) && !((l.take k).any fun x => decide (x.sender = (l.getD k zeroM).sender))))) = _
 rw [h, getD_at hm]; simp
theorem memU_range {mem : Int} {incs : List Int} {l : List Msg} {k : Nat} (hk : k ≤ l.length) (h : memU mem incs l k = true) : ∀ x ∈ l.take k, 0 ≤ x.sender ∧ x.sender ≤ 15 := fun x hx => by
 obtain ⟨i, hi, rfl⟩ := List.getElem_of_mem hx
 rw [List.length_take] at hi
 have h1 := ((memU_iff mem incs l k).1 h i (by omega)).1
 rw [getD_at (List.getElem?_eq_getElem (by omega))] at h1
 rw [List.getElem_take]
 exact hasB_range (isE_has h1).1
theorem met_has {mem : Int} {incs : List Int} {l : List Msg} {k : Nat} (hk : k ≤ l.length) (h : memU mem incs l k = true) {s : Int} (hs : 0 ≤ s ∧ s ≤ 15) : V.hasB (V.ofI ((l.take k).map (·.sender))) s = (l.take k).any fun x => decide (x.sender = s) := by
 have hr := memU_range hk h
 unfold V.hasB
 rw [(V.nodeB_iff s).2 hs, Bool.true_and, V.md_of_list _ _ (by omega), List.any_map, Bool.eq_iff_iff, List.any_eq_true, List.any_eq_true]
 constructor
 ·rintro ⟨x, hx, h2⟩
  refine ⟨x, hx, ?_⟩
  have := hr x hx
  simp only [Function.comp, Bool.and_eq_true, decide_eq_true_iff] at h2
  rw [decide_eq_true_iff]; omega
 ·rintro ⟨x, hx, h2⟩
  refine ⟨x, hx, ?_⟩
  have := hr x hx
  rw [decide_eq_true_iff] at h2
  simp only [Function.comp, Bool.and_eq_true, decide_eq_true_iff]
  exact ⟨(V.nodeB_iff _).2 this, by rw [h2]⟩
theorem met_take {l : List Msg} {k : Nat} {m : Msg} (hm : l[k]? = some m) : V.ofI ((l.take (k + 1)).map (·.sender)) = V.withI (V.ofI ((l.take k).map (·.sender))) m.sender := by
 rw [List.take_add_one, hm]
 show V.ofI ((l.take k ++ [m]).map _) = _
 rw [List.map_append]
 exact V.ofI_snoc _ _
theorem ofMembers_any (t ep mem : Int) (A : Option Addr) (c : Nat) (incs : List Int) (A' : Option Addr) (c' : Nat) (l : List Msg) (w : World) (h : V.Row w w.heap.size A incs) (hM : Msgs w w.heap.size A' l) (hil : incs.length ≤ maxLen) (hl : l.length ≤ maxLen) :
  Calls Tryz.prog 95 #[ev t ep mem (.slice A incs.length c) (.slice A' l.length c')] w fun e w' => e = .returned (.bool (memU mem incs l l.length)) ∧ Below w.heap.size w w' := by
 unfold maxLen at hl
 obtain ⟨R, hR⟩ : ∃ R, R = memU mem incs l l.length := ⟨_, rfl⟩
 rw [← hR]
 have HR := hid hR; clear hR
 have b1 := Joins.below_alloc1 w (.cells #[.int .i64 t, .int .i64 ep, .int .i64 mem, .slice A incs.length c, .slice A' l.length c'] 37)
 have e1 := EntAt.new w t ep mem (.slice A incs.length c) (.slice A' l.length c')
 have r1 := h.below b1 (Nat.le_refl _)
 have m1 := hM.below b1 (Nat.le_refl _)
 have HI := fun W X n => incP_any t ep mem n A c incs X W
 have HOF := fun W => V.of_any none 0 0 [] W (V.Row.nil _ _ _) (Nat.zero_le _)
 have hOF : V.ofI [] = 0 := rfl
 rw [hOF] at HOF
 simp only [List.length_nil] at HOF
 have HIL := hid hil; clear hil
 generalize hW : w.alloc (.cells #[.int .i64 t, .int .i64 ep, .int .i64 mem, .slice A incs.length c, .slice A' l.length c'] 37) = W at *
 obtain ⟨y0, y1, y2, y3, y4⟩ := e1.cells
 have HE := hid e1; clear e1
 have HB := hid b1; clear b1
 have HRW := hid r1; clear r1 h
 have HMW := hid m1; clear m1 hM
 have HI := hid HI
 go_enter Tryz.func95, Tryz.ntmps95
 go_wp2_with fail; refine (HOF _).mono ?_; rintro e w1 ⟨rfl, rfl⟩; clear hW hOF
 go_wp2_with fail
 go_loopw [3, 5, 6, 7, 12] (fun mt _ _ _ ix wr => ∃ k : Nat, k ≤ l.length ∧ ix = .int .i64 k ∧ mt = .int .i64 (V.ofI ((l.take k).map (·.sender))) ∧ memU mem incs l k = true ∧ Below W.heap.size W wr) (fun _ _ _ _ ix _ => l.length - (intOf ix).toNat)
 case atStart => exact ⟨0, by omega, rfl, rfl, rfl, Below.refl _ _⟩
 case round =>
  obtain ⟨k, hk, rfl, rfl, ho, hb⟩ := hrel
  have HBR := hid hb; clear hb y0 y1 y2 y3 y4
  by_cases hlt : k < l.length
  ·obtain ⟨m, hm⟩ : ∃ m, l[k]? = some m := ⟨_, List.getElem?_eq_getElem hlt⟩
   obtain ⟨ad, rfl, had, hcc⟩ := HMW.out.below HBR.out (by have := HB.out.size; omega) (by omega)
   have hck := hcc k m hm
   have HNX := hid (memU_next hm ho)
   have HMT := hid (met_take hm)
   have HHS := hid (fun hs => met_has (s := m.sender) (by omega) ho hs)
   have hbn := Joins.below_alloc1 wr (.cells (mc m) 109)
   have hM1 : MsgAt (wr.alloc (.cells (mc m) 109)) wr.heap.size m := heap_alloc_new wr _
   have hB1 := HBR.out.trans (hbn.mono HBR.out.size)
   have HE1 := hid (HE.out.on hB1)
   have HR1 := hid ((HRW.out.below hB1 (by have := HB.out.size; omega)).more (Nat.le_trans HB.out.size hB1.size))
   have HB1 := hid hB1; clear hB1 hbn
   have HM1 := hid hM1; clear hM1 hcc hm
   have HO := hid ho; clear ho
   obtain ⟨me, mn, ms, mi, mq, mu, md⟩ := m
   simp only [mc] at *
   obtain ⟨a0, a1, a2, a3, a4, a5, a6⟩ := hck
   simp only at a0 a1 a2 a3 a4 a5 a6
   go_upto_region 5 with (fail)
   generalize wr.alloc (.cells #[.bool me, .int .i64 mn, .int .i64 ms, .int .i64 mi, .int .i64 mq, .int .i64 mu, .string md] 109) = W1 at *
   generalize wr.heap.size = b at *
   obtain ⟨_, x0, x1, x2, x3, x4, x5, x6⟩ := Holds.of_blk HM1.out
   simp only at x0 x1 x2 x3 x4 x5 x6
   obtain ⟨y0, y1, y2, y3, y4⟩ := HE1.out.cells
   clear a0 a1 a2 a3 a4 a5 a6
   have hI := fun X => HI.out W1 X ms HR1.out HIL.out
   cases hie : isE mem incs ms
   ·have HS : Hid (R = false) := hid (by rw [HR.out]; exact memU_false (by rw [HNX.out, hie]; rfl) (show k + 1 ≤ l.length by omega))
    rw [hie] at hI
    clear hie
    go_wp2_with fail; refine (hI _).mono ?_; rintro e w2 ⟨rfl, b2⟩
    have HB2 := hid (HB.out.trans ((HB1.out.trans (b2.mono HB1.out.size)).mono HB.out.size))
    clear x0 x1 x2 x3 x4 x5 x6 y0 y1 y2 y3 y4
    obtain ⟨_, x0, x1, x2, x3, x4, x5, x6⟩ := Holds.of_blk (HM1.out.on b2)
    simp only at x0 x1 x2 x3 x4 x5 x6
    go_wp2_with fail
    go_ret
    exact ⟨ret_b HS.out.symm, HB2.out⟩
   ·rw [hie] at hI
    have hs := hasB_range (isE_has hie).1
    have hh := HHS.out hs
    by_cases hin : mi = incE mem incs ms
    ·have hq : ((mi : Int) != incE mem incs ms) = false := by simpa using hin
     have ch := fun w => V.has_any (V.ofI ((l.take k).map (·.sender))) ms w
     have cw := fun w => V.with_any (V.ofI ((l.take k).map (·.sender))) ms w
     cases ha : (l.take k).any (fun x => decide (x.sender = ms))
     ·have HN2 : Hid (memU mem incs l (k + 1) = true) := hid (by rw [HNX.out, hie, ha]; simp [hin])
      rw [ha] at hh
      rw [hh] at ch
      rw [← HMT.out] at cw
      clear hie ha hh hin hs
      generalize incE mem incs ms = X at *
      generalize hT2 : V.ofI ((l.take (k + 1)).map (·.sender)) = T2 at *
      have HT2 := hid hT2; clear hT2
      generalize V.ofI ((l.take k).map (·.sender)) = T1 at *
      go_wp2_with fail; refine (hI _).mono ?_; rintro e w2 ⟨rfl, b2⟩
      have HB2 := hid (HB1.out.trans (b2.mono HB1.out.size))
      clear x0 x1 x2 x3 x4 x5 x6 y0 y1 y2 y3 y4
      obtain ⟨_, x0, x1, x2, x3, x4, x5, x6⟩ := Holds.of_blk (HM1.out.on b2)
      simp only at x0 x1 x2 x3 x4 x5 x6
      go_wp2_with fail; refine (ch _).mono ?_; rintro e w3 ⟨rfl, rfl⟩
      go_wp2_with fail; refine (cw _).mono ?_; rintro e w3 ⟨rfl, rfl⟩
      go_wp2_with fail
      go_roundw
      case rel => exact ⟨k + 1, by omega, by go_num, by rw [HT2.out], HN2.out, HB2.out⟩
      case measure => simp [intOf]; omega
     ·have HS : Hid (R = false) := hid (by rw [HR.out]; exact memU_false (by rw [HNX.out, ha]; simp) (show k + 1 ≤ l.length by omega))
      rw [ha] at hh
      rw [hh] at ch
      clear hie ha hh hin hs cw
      generalize incE mem incs ms = X at *
      generalize V.ofI ((l.take k).map (·.sender)) = T1 at *
      go_wp2_with fail; refine (hI _).mono ?_; rintro e w2 ⟨rfl, b2⟩
      have HB2 := hid (HB.out.trans ((HB1.out.trans (b2.mono HB1.out.size)).mono HB.out.size))
      clear x0 x1 x2 x3 x4 x5 x6 y0 y1 y2 y3 y4
      obtain ⟨_, x0, x1, x2, x3, x4, x5, x6⟩ := Holds.of_blk (HM1.out.on b2)
      simp only at x0 x1 x2 x3 x4 x5 x6
      go_wp2_with fail; refine (ch _).mono ?_; rintro e w3 ⟨rfl, rfl⟩
      go_wp2_with fail
      go_ret
      exact ⟨ret_b HS.out.symm, HB2.out⟩
    ·have hq : ((mi : Int) != incE mem incs ms) = true := by simpa using hin
     have HS : Hid (R = false) := hid (by rw [HR.out]; exact memU_false (by rw [HNX.out]; simp [hin]) (show k + 1 ≤ l.length by omega))
     clear hie hh hin hs
     generalize incE mem incs ms = X at *
     go_wp2_with fail; refine (hI _).mono ?_; rintro e w2 ⟨rfl, b2⟩
     have HB2 := hid (HB.out.trans ((HB1.out.trans (b2.mono HB1.out.size)).mono HB.out.size))
     clear x0 x1 x2 x3 x4 x5 x6 y0 y1 y2 y3 y4
     obtain ⟨_, x0, x1, x2, x3, x4, x5, x6⟩ := Holds.of_blk (HM1.out.on b2)
     simp only at x0 x1 x2 x3 x4 x5 x6
     go_wp2_with fail
     go_ret
     exact ⟨ret_b HS.out.symm, HB2.out⟩
  ·have ek : k = l.length := by omega
   subst ek
   go_wp2_with fail
   go_ret
   exact ⟨ret_b (by rw [HR.out, ho]), HB.out.trans (HBR.out.mono HB.out.size)⟩
theorem row_two {w : World} {g : Nat} {a b : Int} (h : w.heap[g]? = some (.cells #[.int .i64 a, .int .i64 b] 3 (0, 0))) : V.Row w (g + 1) (some ⟨g, 0, none⟩) [a, b] := fun _ => by
 refine ⟨_, rfl, by show g < g + 1; omega, fun j x hx => ?_⟩
 have hj : j < 2 := (List.getElem?_eq_some_iff.1 hx).1
 rcases (show j = 0 ∨ j = 1 by omega) with rfl | rfl
 ·have e : a = x := by simpa using hx
  subst e; exact (cell_of h 0).trans rfl
 ·have e : b = x := by simpa using hx
  subst e; exact (cell_of h 1).trans rfl
theorem rightE_chain (e : Ent) : ((((((([e.t, e.ep].all smallB) && decide (0 ≤ e.mem)) && decide (e.mem ≤ 65535)) && ((e.incs.length : Int) == V.countI e.mem)) && e.incs.all smallB) && ordU e.msgs e.msgs.length) && memU e.mem e.incs e.msgs e.msgs.length) = rightE e := by
 have h : ((e.incs.length : Int) == V.countI e.mem) = decide ((e.incs.length : Int) = V.countI e.mem) := by
  rw [Bool.eq_iff_iff]; simp
 unfold rightE
 rw [h]
 simp [Bool.and_assoc]
theorem rightEP_any (x : Ent) (A : Option Addr) (c : Nat) (A' : Option Addr) (c' : Nat) (w : World) (L : Laid w) (h : V.Row w w.heap.size A x.incs) (hM : Msgs w w.heap.size A' x.msgs) (hil : x.incs.length ≤ maxLen) (hl : x.msgs.length ≤ maxLen) (hd : ∀ m ∈ x.msgs, m.data.size ≤ maxLen) :
  Calls Tryz.prog 56 #[ev x.t x.ep x.mem (.slice A x.incs.length c) (.slice A' x.msgs.length c')] w fun e w' => e = .returned (.bool (rightE x)) ∧ Below w.heap.size w w' := by
 have HCH := hid (rightE_chain x)
 obtain ⟨t, ep, mem, incs, l⟩ := x
 simp only at *
 generalize rightE ⟨t, ep, mem, incs, l⟩ = R at *
 have b1 := Joins.below_alloc1 w (.cells #[.int .i64 t, .int .i64 ep, .int .i64 mem, .slice A incs.length c, .slice A' l.length c'] 37)
 have e1 := EntAt.new w t ep mem (.slice A incs.length c) (.slice A' l.length c')
 have L1 := L.below b1
 have r1 := (h.below b1 (Nat.le_refl _)).more b1.size
 have m1 := (hM.below b1 (Nat.le_refl _)).more b1.size
 generalize hW : w.alloc (.cells #[.int .i64 t, .int .i64 ep, .int .i64 mem, .slice A incs.length c, .slice A' l.length c'] 37) = W at *
 have C1 : Hid (∀ W' g, W'.heap[g]? = some (.cells #[.int .i64 t, .int .i64 ep] 3 (0, 0)) → Calls Tryz.prog 91 #[.slice (some ⟨g, 0, none⟩) 2 2] W' fun e w' => e = .returned (.bool ([t, ep].all smallB)) ∧ W' = w') := hid fun W' g hg => countedE_any (some ⟨g, 0, none⟩) 2 _ [t, ep] W' (row_two hg) (by unfold maxLen; simp)
 have CA : Hid (∀ W', Calls Tryz.prog 92 #[.int .i64 16] W' fun e w' => e = .returned (.int .i64 65535) ∧ W' = w') := hid fun W' => V.all_any 16 W'
 have CC := hid (fun W' => V.count_any mem W')
 have C2 := hid (fun W' (hG : Below W.heap.size W W') => countedE_any A c _ incs W' (r1.below hG (Nat.le_refl _)) hil)
 have C3 := hid (fun W' (hG : Below W.heap.size W W') => inOrder_any A' c' l W' (L1.below hG) ((m1.below hG (Nat.le_refl _)).more hG.size) hl hd)
 have C4 := hid (fun W' (hG : Below W.heap.size W W') => ofMembers_any t ep mem A c incs A' c' l W' ((r1.below hG (Nat.le_refl _)).more hG.size) ((m1.below hG (Nat.le_refl _)).more hG.size) hil hl)
 generalize [t, ep].all smallB = B1 at *
 generalize V.countI mem = CM at *
 generalize incs.all smallB = B2 at *
 generalize ordU l l.length = B3 at *
 generalize memU mem incs l l.length = B4 at *
 generalize incs.length = n at *
 generalize l.length = k at *
 have HE := hid e1; clear e1
 have HB := hid b1; clear b1 L1 r1 m1 h hM hil hl hd L
 generalize hg : w.heap.size = b at *
 go_enter Tryz.func56, Tryz.ntmps56
 go_wp2_with fail
 clear hW
 have HV : ∃ V : Nat → (Nat → Value) → World → Prop, V = (fun ix u wv => match ix with
  | 0 => u 0 = .pointer (some ⟨b, 0, none⟩)
  | 1 => u 1 = .int .i64 t
  | 2 => u 2 = .pointer (some ⟨b, 1, none⟩)
  | 3 => u 3 = .int .i64 ep
  | 4 => ∃ g, u 4 = .slice (some ⟨g, 0, none⟩) 2 2 ∧ wv.heap[g]? = some (.cells #[.int .i64 t, .int .i64 ep] 3 (0, 0))
  | 5 => u 5 = .bool B1
  | 6 => u 6 = .bool B1
  | 7 => u 7 = if B1 = true then .pointer (some ⟨b, 2, none⟩) else undef
  | 8 => u 8 = if B1 = true then .int .i64 mem else undef
  | 9 => u 9 = if B1 = true then .bool (decide (0 ≤ mem)) else undef
  | 10 => u 10 = .bool (B1 && (decide (0 ≤ mem)))
  | 11 => u 11 = .bool (B1 && (decide (0 ≤ mem)))
  | 12 => u 12 = if (B1 && (decide (0 ≤ mem))) = true then .pointer (some ⟨b, 2, none⟩) else undef
  | 13 => u 13 = if (B1 && (decide (0 ≤ mem))) = true then .int .i64 mem else undef
  | 14 => u 14 = if (B1 && (decide (0 ≤ mem))) = true then .int .i64 65535 else undef
  | 15 => u 15 = if (B1 && (decide (0 ≤ mem))) = true then .bool (decide (mem ≤ 65535)) else undef
  | 16 => u 16 = .bool ((B1 && (decide (0 ≤ mem))) && (decide (mem ≤ 65535)))
  | 17 => u 17 = .bool ((B1 && (decide (0 ≤ mem))) && (decide (mem ≤ 65535)))
  | 18 => u 18 = if ((B1 && (decide (0 ≤ mem))) && (decide (mem ≤ 65535))) = true then .pointer (some ⟨b, 3, none⟩) else undef
  | 19 => u 19 = if ((B1 && (decide (0 ≤ mem))) && (decide (mem ≤ 65535))) = true then .slice A n c else undef
  | 20 => u 20 = if ((B1 && (decide (0 ≤ mem))) && (decide (mem ≤ 65535))) = true then .int .i64 (n : Int) else undef
  | 21 => u 21 = if ((B1 && (decide (0 ≤ mem))) && (decide (mem ≤ 65535))) = true then .pointer (some ⟨b, 2, none⟩) else undef
  | 22 => u 22 = if ((B1 && (decide (0 ≤ mem))) && (decide (mem ≤ 65535))) = true then .int .i64 mem else undef
  | 23 => u 23 = if ((B1 && (decide (0 ≤ mem))) && (decide (mem ≤ 65535))) = true then .int .i64 CM else undef
  | 24 => u 24 = if ((B1 && (decide (0 ≤ mem))) && (decide (mem ≤ 65535))) = true then .bool ((n : Int) == CM) else undef
  | 25 => u 25 = .bool (((B1 && (decide (0 ≤ mem))) && (decide (mem ≤ 65535))) && ((n : Int) == CM))
  | 26 => u 26 = .bool (((B1 && (decide (0 ≤ mem))) && (decide (mem ≤ 65535))) && ((n : Int) == CM))
  | 27 => u 27 = if (((B1 && (decide (0 ≤ mem))) && (decide (mem ≤ 65535))) && ((n : Int) == CM)) = true then .pointer (some ⟨b, 3, none⟩) else undef
  | 28 => u 28 = if (((B1 && (decide (0 ≤ mem))) && (decide (mem ≤ 65535))) && ((n : Int) == CM)) = true then .slice A n c else undef
  | 29 => u 29 = if (((B1 && (decide (0 ≤ mem))) && (decide (mem ≤ 65535))) && ((n : Int) == CM)) = true then .bool B2 else undef
  | 30 => u 30 = .bool ((((B1 && (decide (0 ≤ mem))) && (decide (mem ≤ 65535))) && ((n : Int) == CM)) && B2)
  | 31 => u 31 = .bool ((((B1 && (decide (0 ≤ mem))) && (decide (mem ≤ 65535))) && ((n : Int) == CM)) && B2)
  | 32 => u 32 = if ((((B1 && (decide (0 ≤ mem))) && (decide (mem ≤ 65535))) && ((n : Int) == CM)) && B2) = true then .pointer (some ⟨b, 4, none⟩) else undef
  | 33 => u 33 = if ((((B1 && (decide (0 ≤ mem))) && (decide (mem ≤ 65535))) && ((n : Int) == CM)) && B2) = true then .slice A' k c' else undef
  | 34 => u 34 = if ((((B1 && (decide (0 ≤ mem))) && (decide (mem ≤ 65535))) && ((n : Int) == CM)) && B2) = true then .bool B3 else undef
  | 35 => u 35 = .bool (((((B1 && (decide (0 ≤ mem))) && (decide (mem ≤ 65535))) && ((n : Int) == CM)) && B2) && B3)
  | 36 => u 36 = .bool (((((B1 && (decide (0 ≤ mem))) && (decide (mem ≤ 65535))) && ((n : Int) == CM)) && B2) && B3)
  | 37 => u 37 = if (((((B1 && (decide (0 ≤ mem))) && (decide (mem ≤ 65535))) && ((n : Int) == CM)) && B2) && B3) = true then .agg #[.int .i64 t, .int .i64 ep, .int .i64 mem, .slice A n c, .slice A' k c'] else undef
  | 38 => u 38 = if (((((B1 && (decide (0 ≤ mem))) && (decide (mem ≤ 65535))) && ((n : Int) == CM)) && B2) && B3) = true then .bool B4 else undef
  | 39 => u 39 = .bool ((((((B1 && (decide (0 ≤ mem))) && (decide (mem ≤ 65535))) && ((n : Int) == CM)) && B2) && B3) && B4)
  | 40 => u 40 = .bool ((((((B1 && (decide (0 ≤ mem))) && (decide (mem ≤ 65535))) && ((n : Int) == CM)) && B2) && B3) && B4)
  | _ => True) := ⟨_, rfl⟩
 obtain ⟨V, hd7⟩ := HV
 have V0 : ∀ u wv, V 0 u wv = (u 0 = .pointer (some ⟨b, 0, none⟩)) := fun _ _ => by subst hd7; rfl
 have V1 : ∀ u wv, V 1 u wv = (u 1 = .int .i64 t) := fun _ _ => by subst hd7; rfl
 have V2 : ∀ u wv, V 2 u wv = (u 2 = .pointer (some ⟨b, 1, none⟩)) := fun _ _ => by subst hd7; rfl
 have V3 : ∀ u wv, V 3 u wv = (u 3 = .int .i64 ep) := fun _ _ => by subst hd7; rfl
 have V4 : ∀ u wv, V 4 u wv = (∃ g, u 4 = .slice (some ⟨g, 0, none⟩) 2 2 ∧ wv.heap[g]? = some (.cells #[.int .i64 t, .int .i64 ep] 3 (0, 0))) := fun _ _ => by subst hd7; rfl
 have V5 : ∀ u wv, V 5 u wv = (u 5 = .bool B1) := fun _ _ => by subst hd7; rfl
 have V6 : ∀ u wv, V 6 u wv = (u 6 = .bool B1) := fun _ _ => by subst hd7; rfl
 have V7 : ∀ u wv, V 7 u wv = (u 7 = if B1 = true then .pointer (some ⟨b, 2, none⟩) else undef) := fun _ _ => by subst hd7; rfl
 have V8 : ∀ u wv, V 8 u wv = (u 8 = if B1 = true then .int .i64 mem else undef) := fun _ _ => by subst hd7; rfl
 have V9 : ∀ u wv, V 9 u wv = (u 9 = if B1 = true then .bool (decide (0 ≤ mem)) else undef) := fun _ _ => by subst hd7; rfl
 have V10 : ∀ u wv, V 10 u wv = (u 10 = .bool (B1 && (decide (0 ≤ mem)))) := fun _ _ => by subst hd7; rfl
 have V11 : ∀ u wv, V 11 u wv = (u 11 = .bool (B1 && (decide (0 ≤ mem)))) := fun _ _ => by subst hd7; rfl
 have V12 : ∀ u wv, V 12 u wv = (u 12 = if (B1 && (decide (0 ≤ mem))) = true then .pointer (some ⟨b, 2, none⟩) else undef) := fun _ _ => by subst hd7; rfl
 have V13 : ∀ u wv, V 13 u wv = (u 13 = if (B1 && (decide (0 ≤ mem))) = true then .int .i64 mem else undef) := fun _ _ => by subst hd7; rfl
 have V14 : ∀ u wv, V 14 u wv = (u 14 = if (B1 && (decide (0 ≤ mem))) = true then .int .i64 65535 else undef) := fun _ _ => by subst hd7; rfl
 have V15 : ∀ u wv, V 15 u wv = (u 15 = if (B1 && (decide (0 ≤ mem))) = true then .bool (decide (mem ≤ 65535)) else undef) := fun _ _ => by subst hd7; rfl
 have V16 : ∀ u wv, V 16 u wv = (u 16 = .bool ((B1 && (decide (0 ≤ mem))) && (decide (mem ≤ 65535)))) := fun _ _ => by subst hd7; rfl
 have V17 : ∀ u wv, V 17 u wv = (u 17 = .bool ((B1 && (decide (0 ≤ mem))) && (decide (mem ≤ 65535)))) := fun _ _ => by subst hd7; rfl
 have V18 : ∀ u wv, V 18 u wv = (u 18 = if ((B1 && (decide (0 ≤ mem))) && (decide (mem ≤ 65535))) = true then .pointer (some ⟨b, 3, none⟩) else undef) := fun _ _ => by subst hd7; rfl
 have V19 : ∀ u wv, V 19 u wv = (u 19 = if ((B1 && (decide (0 ≤ mem))) && (decide (mem ≤ 65535))) = true then .slice A n c else undef) := fun _ _ => by subst hd7; rfl
 have V20 : ∀ u wv, V 20 u wv = (u 20 = if ((B1 && (decide (0 ≤ mem))) && (decide (mem ≤ 65535))) = true then .int .i64 (n : Int) else undef) := fun _ _ => by subst hd7; rfl
 have V21 : ∀ u wv, V 21 u wv = (u 21 = if ((B1 && (decide (0 ≤ mem))) && (decide (mem ≤ 65535))) = true then .pointer (some ⟨b, 2, none⟩) else undef) := fun _ _ => by subst hd7; rfl
 have V22 : ∀ u wv, V 22 u wv = (u 22 = if ((B1 && (decide (0 ≤ mem))) && (decide (mem ≤ 65535))) = true then .int .i64 mem else undef) := fun _ _ => by subst hd7; rfl
 have V23 : ∀ u wv, V 23 u wv = (u 23 = if ((B1 && (decide (0 ≤ mem))) && (decide (mem ≤ 65535))) = true then .int .i64 CM else undef) := fun _ _ => by subst hd7; rfl
 have V24 : ∀ u wv, V 24 u wv = (u 24 = if ((B1 && (decide (0 ≤ mem))) && (decide (mem ≤ 65535))) = true then .bool ((n : Int) == CM) else undef) := fun _ _ => by subst hd7; rfl
 have V25 : ∀ u wv, V 25 u wv = (u 25 = .bool (((B1 && (decide (0 ≤ mem))) && (decide (mem ≤ 65535))) && ((n : Int) == CM))) := fun _ _ => by subst hd7; rfl
 have V26 : ∀ u wv, V 26 u wv = (u 26 = .bool (((B1 && (decide (0 ≤ mem))) && (decide (mem ≤ 65535))) && ((n : Int) == CM))) := fun _ _ => by subst hd7; rfl
 have V27 : ∀ u wv, V 27 u wv = (u 27 = if (((B1 && (decide (0 ≤ mem))) && (decide (mem ≤ 65535))) && ((n : Int) == CM)) = true then .pointer (some ⟨b, 3, none⟩) else undef) := fun _ _ => by subst hd7; rfl
 have V28 : ∀ u wv, V 28 u wv = (u 28 = if (((B1 && (decide (0 ≤ mem))) && (decide (mem ≤ 65535))) && ((n : Int) == CM)) = true then .slice A n c else undef) := fun _ _ => by subst hd7; rfl
 have V29 : ∀ u wv, V 29 u wv = (u 29 = if (((B1 && (decide (0 ≤ mem))) && (decide (mem ≤ 65535))) && ((n : Int) == CM)) = true then .bool B2 else undef) := fun _ _ => by subst hd7; rfl
 have V30 : ∀ u wv, V 30 u wv = (u 30 = .bool ((((B1 && (decide (0 ≤ mem))) && (decide (mem ≤ 65535))) && ((n : Int) == CM)) && B2)) := fun _ _ => by subst hd7; rfl
 have V31 : ∀ u wv, V 31 u wv = (u 31 = .bool ((((B1 && (decide (0 ≤ mem))) && (decide (mem ≤ 65535))) && ((n : Int) == CM)) && B2)) := fun _ _ => by subst hd7; rfl
 have V32 : ∀ u wv, V 32 u wv = (u 32 = if ((((B1 && (decide (0 ≤ mem))) && (decide (mem ≤ 65535))) && ((n : Int) == CM)) && B2) = true then .pointer (some ⟨b, 4, none⟩) else undef) := fun _ _ => by subst hd7; rfl
 have V33 : ∀ u wv, V 33 u wv = (u 33 = if ((((B1 && (decide (0 ≤ mem))) && (decide (mem ≤ 65535))) && ((n : Int) == CM)) && B2) = true then .slice A' k c' else undef) := fun _ _ => by subst hd7; rfl
 have V34 : ∀ u wv, V 34 u wv = (u 34 = if ((((B1 && (decide (0 ≤ mem))) && (decide (mem ≤ 65535))) && ((n : Int) == CM)) && B2) = true then .bool B3 else undef) := fun _ _ => by subst hd7; rfl
 have V35 : ∀ u wv, V 35 u wv = (u 35 = .bool (((((B1 && (decide (0 ≤ mem))) && (decide (mem ≤ 65535))) && ((n : Int) == CM)) && B2) && B3)) := fun _ _ => by subst hd7; rfl
 have V36 : ∀ u wv, V 36 u wv = (u 36 = .bool (((((B1 && (decide (0 ≤ mem))) && (decide (mem ≤ 65535))) && ((n : Int) == CM)) && B2) && B3)) := fun _ _ => by subst hd7; rfl
 have V37 : ∀ u wv, V 37 u wv = (u 37 = if (((((B1 && (decide (0 ≤ mem))) && (decide (mem ≤ 65535))) && ((n : Int) == CM)) && B2) && B3) = true then .agg #[.int .i64 t, .int .i64 ep, .int .i64 mem, .slice A n c, .slice A' k c'] else undef) := fun _ _ => by subst hd7; rfl
 have V38 : ∀ u wv, V 38 u wv = (u 38 = if (((((B1 && (decide (0 ≤ mem))) && (decide (mem ≤ 65535))) && ((n : Int) == CM)) && B2) && B3) = true then .bool B4 else undef) := fun _ _ => by subst hd7; rfl
 have V39 : ∀ u wv, V 39 u wv = (u 39 = .bool ((((((B1 && (decide (0 ≤ mem))) && (decide (mem ≤ 65535))) && ((n : Int) == CM)) && B2) && B3) && B4)) := fun _ _ => by subst hd7; rfl
 have V40 : ∀ u wv, V 40 u wv = (u 40 = .bool ((((((B1 && (decide (0 ≤ mem))) && (decide (mem ≤ 65535))) && ((n : Int) == CM)) && B2) && B3) && B4)) := fun _ _ => by subst hd7; rfl
 have HVD := hid hd7
 clear hd7
 refine region_each (V := V) (drop := fun _ _ => false) (G := fun wv => Below W.heap.size W wv) (Rel := fun jx wv wv' => Below wv.heap.size wv wv') (by kernel_rfl) (by kernel_rfl) (Below.refl _ _).drew ?hmonoc1 ?hdepc1 ⟨?s0_c1, ?s1_c1, ?s2_c1, ?s3_c1, ?s4_c1, ?s5_c1, ?s6_c1, ?s7_c1, ?s8_c1, ?s9_c1, ?s10_c1, ?s11_c1, ?s12_c1, ?s13_c1, ?s14_c1, ?s15_c1, ?s16_c1, ?s17_c1, ?s18_c1, ?s19_c1, ?s20_c1, ?s21_c1, ?s22_c1, ?s23_c1, ?s24_c1, ?s25_c1, ?s26_c1, ?s27_c1, ?s28_c1, ?s29_c1, ?s30_c1, ?s31_c1, ?s32_c1, ?s33_c1, ?s34_c1, ?s35_c1, ?s36_c1, ?s37_c1, ?s38_c1, ?s39_c1, ?s40_c1, trivial⟩ ?behindc1
 case hmonoc1 =>
  intro ix jx u wv wv' hij hw hd hr
  rw [HVD.out]
  dsimp only
  split <;> intro h <;> first | exact trivial | exact h | (obtain ⟨g, e, hg⟩ := h; exact ⟨g, e, (hr.block g (Array.getElem?_eq_some_iff.1 hg).1).trans hg⟩)
 case hdepc1 =>
  intro ix u u' wv h1 h2
  rw [HVD.out]
  dsimp only
  split <;> intro h <;> first | exact trivial | (rw [← h1]; exact h)
 case s0_c1 =>
  refine owe rfl fun a wx val hG hV hN hO K hK => ?_
  have e1 : a.tmps[1]? = some (.pointer (some ⟨b, 0, none⟩)) := (hO 1).trans (by rfl)
  clear hV hN hO
  go_simp
  exact hK.out _ _ (by rw [V0, upd_at] <;> (congr 1 <;> omega)) (Below.refl _ _) hG
 case s1_c1 =>
  refine owe rfl fun a wx val hG hV hN hO K hK => ?_
  have e3 := hN 0 3
  have f3 := hV 0
  rw [V0] at f3; rw [f3] at e3; clear f3
  clear hV hN hO
  obtain ⟨y0, y1, y2, y3, y4⟩ := (HE.out.on hG).cells
  go_simp
  exact hK.out _ _ (by rw [V1, upd_at] <;> (congr 1 <;> omega)) (Below.refl _ _) hG
 case s2_c1 =>
  refine owe rfl fun a wx val hG hV hN hO K hK => ?_
  have e1 : a.tmps[1]? = some (.pointer (some ⟨b, 0, none⟩)) := (hO 1).trans (by rfl)
  clear hV hN hO
  go_simp
  exact hK.out _ _ (by rw [V2, upd_at] <;> (congr 1 <;> omega)) (Below.refl _ _) hG
 case s3_c1 =>
  refine owe rfl fun a wx val hG hV hN hO K hK => ?_
  have e5 := hN 2 5
  have f5 := hV 2
  rw [V2] at f5; rw [f5] at e5; clear f5
  clear hV hN hO
  obtain ⟨y0, y1, y2, y3, y4⟩ := (HE.out.on hG).cells
  go_simp
  exact hK.out _ _ (by rw [V3, upd_at] <;> (congr 1 <;> omega)) (Below.refl _ _) hG
 case s4_c1 =>
  refine owe rfl fun a wx val hG hV hN hO K hK => ?_
  have e4 := hN 1 4
  have f4 := hV 1
  rw [V1] at f4; rw [f4] at e4; clear f4
  have e6 := hN 3 6
  have f6 := hV 3
  rw [V3] at f6; rw [f6] at e6; clear f6
  clear hV hN hO
  go_simp
  exact hK.out _ _ (by rw [V4, upd_at]; exact ⟨_, rfl, heap_alloc_new _ _⟩) (Joins.below_alloc1 _ _) (hG.trans ((Joins.below_alloc1 _ _).mono hG.size))
 case s5_c1 =>
  refine owe rfl fun a wx val hG hV hN hO K hK => ?_
  have e7 := hN 4 7
  have f7 := hV 4
  rw [V4] at f7; obtain ⟨g, hv, hgg⟩ := f7; rw [hv] at e7
  clear hV hN hO
  go_simp
  refine (C1.out _ g hgg).mono ?_
  rintro e w11 ⟨rfl, rfl⟩
  exact hK.out _ _ (by rw [V5, upd_at]) (Below.refl _ _) hG
 case s6_c1 =>
  refine owe rfl fun a wx val hG hV hN hO K hK => ?_
  have e8 := hN 5 8
  have f8 := hV 5
  rw [V5] at f8; rw [f8] at e8; clear f8
  clear hV hN hO
  go_simp
  exact hK.out _ _ (by rw [V6, upd_at] <;> (congr 1 <;> omega)) (Below.refl _ _) hG
 case s7_c1 =>
  refine owe_cond (g := 6) (t := 9) (b := true) (c := B1) (d := true) B1 (by first | rfl | simp) rfl (by kernel_rfl) (by kernel_rfl) (by kernel_rfl) (by simp) (fun val w h => by rw [V6] at h; first | exact h | simpa using h) (fun hd a wx val hG hV hN hO K hK => ?_) (fun hd val w => by rw [V7, upd_at, if_neg (by rw [hd]; decide)])
  have e1 : a.tmps[1]? = some (.pointer (some ⟨b, 0, none⟩)) := (hO 1).trans (by rfl)
  clear hV hN hO
  go_simp
  exact hK.out _ _ (by rw [V7, upd_at, if_pos hd] <;> (congr 1 <;> omega)) (Below.refl _ _) hG
 case s8_c1 =>
  refine owe_cond (g := 6) (t := 9) (b := true) (c := B1) (d := true) B1 (by first | rfl | simp) rfl (by kernel_rfl) (by kernel_rfl) (by kernel_rfl) (by simp) (fun val w h => by rw [V6] at h; first | exact h | simpa using h) (fun hd a wx val hG hV hN hO K hK => ?_) (fun hd val w => by rw [V8, upd_at, if_neg (by rw [hd]; decide)])
  have e10 := hN 7 10
  have f10 := hV 7
  rw [V7] at f10; rw [f10] at e10; clear f10
  rw [if_pos hd] at e10
  clear hV hN hO
  obtain ⟨y0, y1, y2, y3, y4⟩ := (HE.out.on hG).cells
  go_simp
  exact hK.out _ _ (by rw [V8, upd_at, if_pos hd] <;> (congr 1 <;> omega)) (Below.refl _ _) hG
 case s9_c1 =>
  refine owe_cond (g := 6) (t := 9) (b := true) (c := B1) (d := true) B1 (by first | rfl | simp) rfl (by kernel_rfl) (by kernel_rfl) (by kernel_rfl) (by simp) (fun val w h => by rw [V6] at h; first | exact h | simpa using h) (fun hd a wx val hG hV hN hO K hK => ?_) (fun hd val w => by rw [V9, upd_at, if_neg (by rw [hd]; decide)])
  have e11 := hN 8 11
  have f11 := hV 8
  rw [V8] at f11; rw [f11] at e11; clear f11
  rw [if_pos hd] at e11
  clear hV hN hO
  go_simp
  exact hK.out _ _ (by rw [V9, upd_at, if_pos hd] <;> (congr 1 <;> omega)) (Below.refl _ _) hG
 case s10_c1 =>
  refine owe rfl fun a wx val hG hV hN hO K hK => ?_
  have e9 := hN 6 9
  have f9 := hV 6
  rw [V6] at f9; rw [f9] at e9; clear f9
  have e12 := hN 9 12
  have f12 := hV 9
  rw [V9] at f12; rw [f12] at e12; clear f12
  clear hV hN hO
  cases hcc : B1
  ·rw [hcc] at e9
   rw [if_neg (by first | (rw [hcc]; decide) | simp [hcc])] at e12
   go_simp
   exact hK.out _ _ (by rw [V10, upd_at] <;> simp [hcc]) (Below.refl _ _) hG
  ·rw [hcc] at e9
   rw [if_pos (by first | exact hcc | (rw [hcc]; rfl) | simp [hcc])] at e12
   go_simp
   exact hK.out _ _ (by rw [V10, upd_at] <;> simp [hcc]) (Below.refl _ _) hG
 case s11_c1 =>
  refine owe rfl fun a wx val hG hV hN hO K hK => ?_
  have e13 := hN 10 13
  have f13 := hV 10
  rw [V10] at f13; rw [f13] at e13; clear f13
  clear hV hN hO
  go_simp
  exact hK.out _ _ (by rw [V11, upd_at] <;> (congr 1 <;> omega)) (Below.refl _ _) hG
 case s12_c1 =>
  refine owe_cond (g := 11) (t := 14) (b := true) (c := (B1 && (decide (0 ≤ mem)))) (d := true) ((B1 && (decide (0 ≤ mem)))) (by first | rfl | simp) rfl (by kernel_rfl) (by kernel_rfl) (by kernel_rfl) (by simp) (fun val w h => by rw [V11] at h; first | exact h | simpa using h) (fun hd a wx val hG hV hN hO K hK => ?_) (fun hd val w => by rw [V12, upd_at, if_neg (by rw [hd]; decide)])
  have e1 : a.tmps[1]? = some (.pointer (some ⟨b, 0, none⟩)) := (hO 1).trans (by rfl)
  clear hV hN hO
  go_simp
  exact hK.out _ _ (by rw [V12, upd_at, if_pos hd] <;> (congr 1 <;> omega)) (Below.refl _ _) hG
 case s13_c1 =>
  refine owe_cond (g := 11) (t := 14) (b := true) (c := (B1 && (decide (0 ≤ mem)))) (d := true) ((B1 && (decide (0 ≤ mem)))) (by first | rfl | simp) rfl (by kernel_rfl) (by kernel_rfl) (by kernel_rfl) (by simp) (fun val w h => by rw [V11] at h; first | exact h | simpa using h) (fun hd a wx val hG hV hN hO K hK => ?_) (fun hd val w => by rw [V13, upd_at, if_neg (by rw [hd]; decide)])
  have e15 := hN 12 15
  have f15 := hV 12
  rw [V12] at f15; rw [f15] at e15; clear f15
  rw [if_pos hd] at e15
  clear hV hN hO
  obtain ⟨y0, y1, y2, y3, y4⟩ := (HE.out.on hG).cells
  go_simp
  exact hK.out _ _ (by rw [V13, upd_at, if_pos hd] <;> (congr 1 <;> omega)) (Below.refl _ _) hG
 case s14_c1 =>
  refine owe_cond (g := 11) (t := 14) (b := true) (c := (B1 && (decide (0 ≤ mem)))) (d := true) ((B1 && (decide (0 ≤ mem)))) (by first | rfl | simp) rfl (by kernel_rfl) (by kernel_rfl) (by kernel_rfl) (by simp) (fun val w h => by rw [V11] at h; first | exact h | simpa using h) (fun hd a wx val hG hV hN hO K hK => ?_) (fun hd val w => by rw [V14, upd_at, if_neg (by rw [hd]; decide)])
  clear hV hN hO
  go_simp
  refine (CA.out _).mono ?_
  rintro e w11 ⟨rfl, rfl⟩
  exact hK.out _ _ (by rw [V14, upd_at, if_pos hd]) (Below.refl _ _) hG
 case s15_c1 =>
  refine owe_cond (g := 11) (t := 14) (b := true) (c := (B1 && (decide (0 ≤ mem)))) (d := true) ((B1 && (decide (0 ≤ mem)))) (by first | rfl | simp) rfl (by kernel_rfl) (by kernel_rfl) (by kernel_rfl) (by simp) (fun val w h => by rw [V11] at h; first | exact h | simpa using h) (fun hd a wx val hG hV hN hO K hK => ?_) (fun hd val w => by rw [V15, upd_at, if_neg (by rw [hd]; decide)])
  have e16 := hN 13 16
  have f16 := hV 13
  rw [V13] at f16; rw [f16] at e16; clear f16
  rw [if_pos hd] at e16
  have e17 := hN 14 17
  have f17 := hV 14
  rw [V14] at f17; rw [f17] at e17; clear f17
  rw [if_pos hd] at e17
  clear hV hN hO
  go_simp
  exact hK.out _ _ (by rw [V15, upd_at, if_pos hd] <;> (congr 1 <;> omega)) (Below.refl _ _) hG
 case s16_c1 =>
  refine owe rfl fun a wx val hG hV hN hO K hK => ?_
  have e14 := hN 11 14
  have f14 := hV 11
  rw [V11] at f14; rw [f14] at e14; clear f14
  have e18 := hN 15 18
  have f18 := hV 15
  rw [V15] at f18; rw [f18] at e18; clear f18
  clear hV hN hO
  cases hcc : ((B1 && (decide (0 ≤ mem))))
  ·rw [hcc] at e14
   rw [if_neg (by first | (rw [hcc]; decide) | simp [hcc])] at e18
   go_simp
   exact hK.out _ _ (by rw [V16, upd_at] <;> simp [hcc]) (Below.refl _ _) hG
  ·rw [hcc] at e14
   rw [if_pos (by first | exact hcc | (rw [hcc]; rfl) | simp [hcc])] at e18
   go_simp
   exact hK.out _ _ (by rw [V16, upd_at] <;> simp [hcc]) (Below.refl _ _) hG
 case s17_c1 =>
  refine owe rfl fun a wx val hG hV hN hO K hK => ?_
  have e19 := hN 16 19
  have f19 := hV 16
  rw [V16] at f19; rw [f19] at e19; clear f19
  clear hV hN hO
  go_simp
  exact hK.out _ _ (by rw [V17, upd_at] <;> (congr 1 <;> omega)) (Below.refl _ _) hG
 case s18_c1 =>
  refine owe_cond (g := 17) (t := 20) (b := true) (c := ((B1 && (decide (0 ≤ mem))) && (decide (mem ≤ 65535)))) (d := true) (((B1 && (decide (0 ≤ mem))) && (decide (mem ≤ 65535)))) (by first | rfl | simp) rfl (by kernel_rfl) (by kernel_rfl) (by kernel_rfl) (by simp) (fun val w h => by rw [V17] at h; first | exact h | simpa using h) (fun hd a wx val hG hV hN hO K hK => ?_) (fun hd val w => by rw [V18, upd_at, if_neg (by rw [hd]; decide)])
  have e1 : a.tmps[1]? = some (.pointer (some ⟨b, 0, none⟩)) := (hO 1).trans (by rfl)
  clear hV hN hO
  go_simp
  exact hK.out _ _ (by rw [V18, upd_at, if_pos hd] <;> (congr 1 <;> omega)) (Below.refl _ _) hG
 case s19_c1 =>
  refine owe_cond (g := 17) (t := 20) (b := true) (c := ((B1 && (decide (0 ≤ mem))) && (decide (mem ≤ 65535)))) (d := true) (((B1 && (decide (0 ≤ mem))) && (decide (mem ≤ 65535)))) (by first | rfl | simp) rfl (by kernel_rfl) (by kernel_rfl) (by kernel_rfl) (by simp) (fun val w h => by rw [V17] at h; first | exact h | simpa using h) (fun hd a wx val hG hV hN hO K hK => ?_) (fun hd val w => by rw [V19, upd_at, if_neg (by rw [hd]; decide)])
  have e21 := hN 18 21
  have f21 := hV 18
  rw [V18] at f21; rw [f21] at e21; clear f21
  rw [if_pos hd] at e21
  clear hV hN hO
  obtain ⟨y0, y1, y2, y3, y4⟩ := (HE.out.on hG).cells
  go_simp
  exact hK.out _ _ (by rw [V19, upd_at, if_pos hd] <;> (congr 1 <;> omega)) (Below.refl _ _) hG
 case s20_c1 =>
  refine owe_cond (g := 17) (t := 20) (b := true) (c := ((B1 && (decide (0 ≤ mem))) && (decide (mem ≤ 65535)))) (d := true) (((B1 && (decide (0 ≤ mem))) && (decide (mem ≤ 65535)))) (by first | rfl | simp) rfl (by kernel_rfl) (by kernel_rfl) (by kernel_rfl) (by simp) (fun val w h => by rw [V17] at h; first | exact h | simpa using h) (fun hd a wx val hG hV hN hO K hK => ?_) (fun hd val w => by rw [V20, upd_at, if_neg (by rw [hd]; decide)])
  have e22 := hN 19 22
  have f22 := hV 19
  rw [V19] at f22; rw [f22] at e22; clear f22
  rw [if_pos hd] at e22
  clear hV hN hO
  go_simp
  exact hK.out _ _ (by rw [V20, upd_at, if_pos hd] <;> (congr 1 <;> omega)) (Below.refl _ _) hG
 case s21_c1 =>
  refine owe_cond (g := 17) (t := 20) (b := true) (c := ((B1 && (decide (0 ≤ mem))) && (decide (mem ≤ 65535)))) (d := true) (((B1 && (decide (0 ≤ mem))) && (decide (mem ≤ 65535)))) (by first | rfl | simp) rfl (by kernel_rfl) (by kernel_rfl) (by kernel_rfl) (by simp) (fun val w h => by rw [V17] at h; first | exact h | simpa using h) (fun hd a wx val hG hV hN hO K hK => ?_) (fun hd val w => by rw [V21, upd_at, if_neg (by rw [hd]; decide)])
  have e1 : a.tmps[1]? = some (.pointer (some ⟨b, 0, none⟩)) := (hO 1).trans (by rfl)
  clear hV hN hO
  go_simp
  exact hK.out _ _ (by rw [V21, upd_at, if_pos hd] <;> (congr 1 <;> omega)) (Below.refl _ _) hG
 case s22_c1 =>
  refine owe_cond (g := 17) (t := 20) (b := true) (c := ((B1 && (decide (0 ≤ mem))) && (decide (mem ≤ 65535)))) (d := true) (((B1 && (decide (0 ≤ mem))) && (decide (mem ≤ 65535)))) (by first | rfl | simp) rfl (by kernel_rfl) (by kernel_rfl) (by kernel_rfl) (by simp) (fun val w h => by rw [V17] at h; first | exact h | simpa using h) (fun hd a wx val hG hV hN hO K hK => ?_) (fun hd val w => by rw [V22, upd_at, if_neg (by rw [hd]; decide)])
  have e24 := hN 21 24
  have f24 := hV 21
  rw [V21] at f24; rw [f24] at e24; clear f24
  rw [if_pos hd] at e24
  clear hV hN hO
  obtain ⟨y0, y1, y2, y3, y4⟩ := (HE.out.on hG).cells
  go_simp
  exact hK.out _ _ (by rw [V22, upd_at, if_pos hd] <;> (congr 1 <;> omega)) (Below.refl _ _) hG
 case s23_c1 =>
  refine owe_cond (g := 17) (t := 20) (b := true) (c := ((B1 && (decide (0 ≤ mem))) && (decide (mem ≤ 65535)))) (d := true) (((B1 && (decide (0 ≤ mem))) && (decide (mem ≤ 65535)))) (by first | rfl | simp) rfl (by kernel_rfl) (by kernel_rfl) (by kernel_rfl) (by simp) (fun val w h => by rw [V17] at h; first | exact h | simpa using h) (fun hd a wx val hG hV hN hO K hK => ?_) (fun hd val w => by rw [V23, upd_at, if_neg (by rw [hd]; decide)])
  have e25 := hN 22 25
  have f25 := hV 22
  rw [V22] at f25; rw [f25] at e25; clear f25
  rw [if_pos hd] at e25
  clear hV hN hO
  go_simp
  refine (CC.out _).mono ?_
  rintro e w11 ⟨rfl, hb⟩
  exact hK.out _ _ (by rw [V23, upd_at, if_pos hd]) hb (hG.trans (hb.mono hG.size))
 case s24_c1 =>
  refine owe_cond (g := 17) (t := 20) (b := true) (c := ((B1 && (decide (0 ≤ mem))) && (decide (mem ≤ 65535)))) (d := true) (((B1 && (decide (0 ≤ mem))) && (decide (mem ≤ 65535)))) (by first | rfl | simp) rfl (by kernel_rfl) (by kernel_rfl) (by kernel_rfl) (by simp) (fun val w h => by rw [V17] at h; first | exact h | simpa using h) (fun hd a wx val hG hV hN hO K hK => ?_) (fun hd val w => by rw [V24, upd_at, if_neg (by rw [hd]; decide)])
  have e23 := hN 20 23
  have f23 := hV 20
  rw [V20] at f23; rw [f23] at e23; clear f23
  rw [if_pos hd] at e23
  have e26 := hN 23 26
  have f26 := hV 23
  rw [V23] at f26; rw [f26] at e26; clear f26
  rw [if_pos hd] at e26
  clear hV hN hO
  go_simp
  exact hK.out _ _ (by rw [V24, upd_at, if_pos hd] <;> (congr 1 <;> omega)) (Below.refl _ _) hG
 case s25_c1 =>
  refine owe rfl fun a wx val hG hV hN hO K hK => ?_
  have e20 := hN 17 20
  have f20 := hV 17
  rw [V17] at f20; rw [f20] at e20; clear f20
  have e27 := hN 24 27
  have f27 := hV 24
  rw [V24] at f27; rw [f27] at e27; clear f27
  clear hV hN hO
  cases hcc : (((B1 && (decide (0 ≤ mem))) && (decide (mem ≤ 65535))))
  ·rw [hcc] at e20
   rw [if_neg (by first | (rw [hcc]; decide) | simp [hcc])] at e27
   go_simp
   exact hK.out _ _ (by rw [V25, upd_at] <;> simp [hcc]) (Below.refl _ _) hG
  ·rw [hcc] at e20
   rw [if_pos (by first | exact hcc | (rw [hcc]; rfl) | simp [hcc])] at e27
   go_simp
   exact hK.out _ _ (by rw [V25, upd_at] <;> simp [hcc]) (Below.refl _ _) hG
 case s26_c1 =>
  refine owe rfl fun a wx val hG hV hN hO K hK => ?_
  have e28 := hN 25 28
  have f28 := hV 25
  rw [V25] at f28; rw [f28] at e28; clear f28
  clear hV hN hO
  go_simp
  exact hK.out _ _ (by rw [V26, upd_at] <;> (congr 1 <;> omega)) (Below.refl _ _) hG
 case s27_c1 =>
  refine owe_cond (g := 26) (t := 29) (b := true) (c := (((B1 && (decide (0 ≤ mem))) && (decide (mem ≤ 65535))) && ((n : Int) == CM))) (d := true) ((((B1 && (decide (0 ≤ mem))) && (decide (mem ≤ 65535))) && ((n : Int) == CM))) (by first | rfl | simp) rfl (by kernel_rfl) (by kernel_rfl) (by kernel_rfl) (by simp) (fun val w h => by rw [V26] at h; first | exact h | simpa using h) (fun hd a wx val hG hV hN hO K hK => ?_) (fun hd val w => by rw [V27, upd_at, if_neg (by rw [hd]; decide)])
  have e1 : a.tmps[1]? = some (.pointer (some ⟨b, 0, none⟩)) := (hO 1).trans (by rfl)
  clear hV hN hO
  go_simp
  exact hK.out _ _ (by rw [V27, upd_at, if_pos hd] <;> (congr 1 <;> omega)) (Below.refl _ _) hG
 case s28_c1 =>
  refine owe_cond (g := 26) (t := 29) (b := true) (c := (((B1 && (decide (0 ≤ mem))) && (decide (mem ≤ 65535))) && ((n : Int) == CM))) (d := true) ((((B1 && (decide (0 ≤ mem))) && (decide (mem ≤ 65535))) && ((n : Int) == CM))) (by first | rfl | simp) rfl (by kernel_rfl) (by kernel_rfl) (by kernel_rfl) (by simp) (fun val w h => by rw [V26] at h; first | exact h | simpa using h) (fun hd a wx val hG hV hN hO K hK => ?_) (fun hd val w => by rw [V28, upd_at, if_neg (by rw [hd]; decide)])
  have e30 := hN 27 30
  have f30 := hV 27
  rw [V27] at f30; rw [f30] at e30; clear f30
  rw [if_pos hd] at e30
  clear hV hN hO
  obtain ⟨y0, y1, y2, y3, y4⟩ := (HE.out.on hG).cells
  go_simp
  exact hK.out _ _ (by rw [V28, upd_at, if_pos hd] <;> (congr 1 <;> omega)) (Below.refl _ _) hG
 case s29_c1 =>
  refine owe_cond (g := 26) (t := 29) (b := true) (c := (((B1 && (decide (0 ≤ mem))) && (decide (mem ≤ 65535))) && ((n : Int) == CM))) (d := true) ((((B1 && (decide (0 ≤ mem))) && (decide (mem ≤ 65535))) && ((n : Int) == CM))) (by first | rfl | simp) rfl (by kernel_rfl) (by kernel_rfl) (by kernel_rfl) (by simp) (fun val w h => by rw [V26] at h; first | exact h | simpa using h) (fun hd a wx val hG hV hN hO K hK => ?_) (fun hd val w => by rw [V29, upd_at, if_neg (by rw [hd]; decide)])
  have e31 := hN 28 31
  have f31 := hV 28
  rw [V28] at f31; rw [f31] at e31; clear f31
  rw [if_pos hd] at e31
  clear hV hN hO
  go_simp
  refine (C2.out _ hG).mono ?_
  rintro e w11 ⟨rfl, rfl⟩
  exact hK.out _ _ (by rw [V29, upd_at, if_pos hd]) (Below.refl _ _) hG
 case s30_c1 =>
  refine owe rfl fun a wx val hG hV hN hO K hK => ?_
  have e29 := hN 26 29
  have f29 := hV 26
  rw [V26] at f29; rw [f29] at e29; clear f29
  have e32 := hN 29 32
  have f32 := hV 29
  rw [V29] at f32; rw [f32] at e32; clear f32
  clear hV hN hO
  cases hcc : ((((B1 && (decide (0 ≤ mem))) && (decide (mem ≤ 65535))) && ((n : Int) == CM)))
  ·rw [hcc] at e29
   rw [if_neg (by first | (rw [hcc]; decide) | simp [hcc])] at e32
   go_simp
   exact hK.out _ _ (by rw [V30, upd_at] <;> simp [hcc]) (Below.refl _ _) hG
  ·rw [hcc] at e29
   rw [if_pos (by first | exact hcc | (rw [hcc]; rfl) | simp [hcc])] at e32
   go_simp
   exact hK.out _ _ (by rw [V30, upd_at] <;> simp [hcc]) (Below.refl _ _) hG
 case s31_c1 =>
  refine owe rfl fun a wx val hG hV hN hO K hK => ?_
  have e33 := hN 30 33
  have f33 := hV 30
  rw [V30] at f33; rw [f33] at e33; clear f33
  clear hV hN hO
  go_simp
  exact hK.out _ _ (by rw [V31, upd_at] <;> (congr 1 <;> omega)) (Below.refl _ _) hG
 case s32_c1 =>
  refine owe_cond (g := 31) (t := 34) (b := true) (c := ((((B1 && (decide (0 ≤ mem))) && (decide (mem ≤ 65535))) && ((n : Int) == CM)) && B2)) (d := true) (((((B1 && (decide (0 ≤ mem))) && (decide (mem ≤ 65535))) && ((n : Int) == CM)) && B2)) (by first | rfl | simp) rfl (by kernel_rfl) (by kernel_rfl) (by kernel_rfl) (by simp) (fun val w h => by rw [V31] at h; first | exact h | simpa using h) (fun hd a wx val hG hV hN hO K hK => ?_) (fun hd val w => by rw [V32, upd_at, if_neg (by rw [hd]; decide)])
  have e1 : a.tmps[1]? = some (.pointer (some ⟨b, 0, none⟩)) := (hO 1).trans (by rfl)
  clear hV hN hO
  go_simp
  exact hK.out _ _ (by rw [V32, upd_at, if_pos hd] <;> (congr 1 <;> omega)) (Below.refl _ _) hG
 case s33_c1 =>
  refine owe_cond (g := 31) (t := 34) (b := true) (c := ((((B1 && (decide (0 ≤ mem))) && (decide (mem ≤ 65535))) && ((n : Int) == CM)) && B2)) (d := true) (((((B1 && (decide (0 ≤ mem))) && (decide (mem ≤ 65535))) && ((n : Int) == CM)) && B2)) (by first | rfl | simp) rfl (by kernel_rfl) (by kernel_rfl) (by kernel_rfl) (by simp) (fun val w h => by rw [V31] at h; first | exact h | simpa using h) (fun hd a wx val hG hV hN hO K hK => ?_) (fun hd val w => by rw [V33, upd_at, if_neg (by rw [hd]; decide)])
  have e35 := hN 32 35
  have f35 := hV 32
  rw [V32] at f35; rw [f35] at e35; clear f35
  rw [if_pos hd] at e35
  clear hV hN hO
  obtain ⟨y0, y1, y2, y3, y4⟩ := (HE.out.on hG).cells
  go_simp
  exact hK.out _ _ (by rw [V33, upd_at, if_pos hd] <;> (congr 1 <;> omega)) (Below.refl _ _) hG
 case s34_c1 =>
  refine owe_cond (g := 31) (t := 34) (b := true) (c := ((((B1 && (decide (0 ≤ mem))) && (decide (mem ≤ 65535))) && ((n : Int) == CM)) && B2)) (d := true) (((((B1 && (decide (0 ≤ mem))) && (decide (mem ≤ 65535))) && ((n : Int) == CM)) && B2)) (by first | rfl | simp) rfl (by kernel_rfl) (by kernel_rfl) (by kernel_rfl) (by simp) (fun val w h => by rw [V31] at h; first | exact h | simpa using h) (fun hd a wx val hG hV hN hO K hK => ?_) (fun hd val w => by rw [V34, upd_at, if_neg (by rw [hd]; decide)])
  have e36 := hN 33 36
  have f36 := hV 33
  rw [V33] at f36; rw [f36] at e36; clear f36
  rw [if_pos hd] at e36
  clear hV hN hO
  go_simp
  refine (C3.out _ hG).mono ?_
  rintro e w11 ⟨rfl, hb⟩
  exact hK.out _ _ (by rw [V34, upd_at, if_pos hd]) hb (hG.trans (hb.mono hG.size))
 case s35_c1 =>
  refine owe rfl fun a wx val hG hV hN hO K hK => ?_
  have e34 := hN 31 34
  have f34 := hV 31
  rw [V31] at f34; rw [f34] at e34; clear f34
  have e37 := hN 34 37
  have f37 := hV 34
  rw [V34] at f37; rw [f37] at e37; clear f37
  clear hV hN hO
  cases hcc : (((((B1 && (decide (0 ≤ mem))) && (decide (mem ≤ 65535))) && ((n : Int) == CM)) && B2))
  ·rw [hcc] at e34
   rw [if_neg (by first | (rw [hcc]; decide) | simp [hcc])] at e37
   go_simp
   exact hK.out _ _ (by rw [V35, upd_at] <;> simp [hcc]) (Below.refl _ _) hG
  ·rw [hcc] at e34
   rw [if_pos (by first | exact hcc | (rw [hcc]; rfl) | simp [hcc])] at e37
   go_simp
   exact hK.out _ _ (by rw [V35, upd_at] <;> simp [hcc]) (Below.refl _ _) hG
 case s36_c1 =>
  refine owe rfl fun a wx val hG hV hN hO K hK => ?_
  have e38 := hN 35 38
  have f38 := hV 35
  rw [V35] at f38; rw [f38] at e38; clear f38
  clear hV hN hO
  go_simp
  exact hK.out _ _ (by rw [V36, upd_at] <;> (congr 1 <;> omega)) (Below.refl _ _) hG
 case s37_c1 =>
  refine owe_cond (g := 36) (t := 39) (b := true) (c := (((((B1 && (decide (0 ≤ mem))) && (decide (mem ≤ 65535))) && ((n : Int) == CM)) && B2) && B3)) (d := true) ((((((B1 && (decide (0 ≤ mem))) && (decide (mem ≤ 65535))) && ((n : Int) == CM)) && B2) && B3)) (by first | rfl | simp) rfl (by kernel_rfl) (by kernel_rfl) (by kernel_rfl) (by simp) (fun val w h => by rw [V36] at h; first | exact h | simpa using h) (fun hd a wx val hG hV hN hO K hK => ?_) (fun hd val w => by rw [V37, upd_at, if_neg (by rw [hd]; decide)])
  have e1 : a.tmps[1]? = some (.pointer (some ⟨b, 0, none⟩)) := (hO 1).trans (by rfl)
  clear hV hN hO
  obtain ⟨y0, y1, y2, y3, y4⟩ := (HE.out.on hG).cells
  go_simp
  exact hK.out _ _ (by rw [V37, upd_at, if_pos hd] <;> (congr 1 <;> omega)) (Below.refl _ _) hG
 case s38_c1 =>
  refine owe_cond (g := 36) (t := 39) (b := true) (c := (((((B1 && (decide (0 ≤ mem))) && (decide (mem ≤ 65535))) && ((n : Int) == CM)) && B2) && B3)) (d := true) ((((((B1 && (decide (0 ≤ mem))) && (decide (mem ≤ 65535))) && ((n : Int) == CM)) && B2) && B3)) (by first | rfl | simp) rfl (by kernel_rfl) (by kernel_rfl) (by kernel_rfl) (by simp) (fun val w h => by rw [V36] at h; first | exact h | simpa using h) (fun hd a wx val hG hV hN hO K hK => ?_) (fun hd val w => by rw [V38, upd_at, if_neg (by rw [hd]; decide)])
  have e40 := hN 37 40
  have f40 := hV 37
  rw [V37] at f40; rw [f40] at e40; clear f40
  rw [if_pos hd] at e40
  clear hV hN hO
  go_simp
  refine (C4.out _ hG).mono ?_
  rintro e w11 ⟨rfl, hb⟩
  exact hK.out _ _ (by rw [V38, upd_at, if_pos hd]) hb (hG.trans (hb.mono hG.size))
 case s39_c1 =>
  refine owe rfl fun a wx val hG hV hN hO K hK => ?_
  have e39 := hN 36 39
  have f39 := hV 36
  rw [V36] at f39; rw [f39] at e39; clear f39
  have e41 := hN 38 41
  have f41 := hV 38
  rw [V38] at f41; rw [f41] at e41; clear f41
  clear hV hN hO
  cases hcc : ((((((B1 && (decide (0 ≤ mem))) && (decide (mem ≤ 65535))) && ((n : Int) == CM)) && B2) && B3))
  ·rw [hcc] at e39
   rw [if_neg (by first | (rw [hcc]; decide) | simp [hcc])] at e41
   go_simp
   exact hK.out _ _ (by rw [V39, upd_at] <;> simp [hcc]) (Below.refl _ _) hG
  ·rw [hcc] at e39
   rw [if_pos (by first | exact hcc | (rw [hcc]; rfl) | simp [hcc])] at e41
   go_simp
   exact hK.out _ _ (by rw [V39, upd_at] <;> simp [hcc]) (Below.refl _ _) hG
 case s40_c1 =>
  refine owe rfl fun a wx val hG hV hN hO K hK => ?_
  have e42 := hN 39 42
  have f42 := hV 39
  rw [V39] at f42; rw [f42] at e42; clear f42
  clear hV hN hO
  go_simp
  exact hK.out _ _ (by rw [V40, upd_at] <;> (congr 1 <;> omega)) (Below.refl _ _) hG
 intro val wx hG hV
 have f0 := hV 0 (by simp) (fun _ _ => by rfl)
 rw [V0] at f0
 have f1 := hV 1 (by simp) (fun _ _ => by rfl)
 rw [V1] at f1
 have f2 := hV 2 (by simp) (fun _ _ => by rfl)
 rw [V2] at f2
 have f3 := hV 3 (by simp) (fun _ _ => by rfl)
 rw [V3] at f3
 have f4 := hV 4 (by simp) (fun _ _ => by rfl)
 rw [V4] at f4
 have f5 := hV 5 (by simp) (fun _ _ => by rfl)
 rw [V5] at f5
 have f6 := hV 6 (by simp) (fun _ _ => by rfl)
 rw [V6] at f6
 have f7 := hV 7 (by simp) (fun _ _ => by rfl)
 rw [V7] at f7
 have f8 := hV 8 (by simp) (fun _ _ => by rfl)
 rw [V8] at f8
 have f9 := hV 9 (by simp) (fun _ _ => by rfl)
 rw [V9] at f9
 have f10 := hV 10 (by simp) (fun _ _ => by rfl)
 rw [V10] at f10
 have f11 := hV 11 (by simp) (fun _ _ => by rfl)
 rw [V11] at f11
 have f12 := hV 12 (by simp) (fun _ _ => by rfl)
 rw [V12] at f12
 have f13 := hV 13 (by simp) (fun _ _ => by rfl)
 rw [V13] at f13
 have f14 := hV 14 (by simp) (fun _ _ => by rfl)
 rw [V14] at f14
 have f15 := hV 15 (by simp) (fun _ _ => by rfl)
 rw [V15] at f15
 have f16 := hV 16 (by simp) (fun _ _ => by rfl)
 rw [V16] at f16
 have f17 := hV 17 (by simp) (fun _ _ => by rfl)
 rw [V17] at f17
 have f18 := hV 18 (by simp) (fun _ _ => by rfl)
 rw [V18] at f18
 have f19 := hV 19 (by simp) (fun _ _ => by rfl)
 rw [V19] at f19
 have f20 := hV 20 (by simp) (fun _ _ => by rfl)
 rw [V20] at f20
 have f21 := hV 21 (by simp) (fun _ _ => by rfl)
 rw [V21] at f21
 have f22 := hV 22 (by simp) (fun _ _ => by rfl)
 rw [V22] at f22
 have f23 := hV 23 (by simp) (fun _ _ => by rfl)
 rw [V23] at f23
 have f24 := hV 24 (by simp) (fun _ _ => by rfl)
 rw [V24] at f24
 have f25 := hV 25 (by simp) (fun _ _ => by rfl)
 rw [V25] at f25
 have f26 := hV 26 (by simp) (fun _ _ => by rfl)
 rw [V26] at f26
 have f27 := hV 27 (by simp) (fun _ _ => by rfl)
 rw [V27] at f27
 have f28 := hV 28 (by simp) (fun _ _ => by rfl)
 rw [V28] at f28
 have f29 := hV 29 (by simp) (fun _ _ => by rfl)
 rw [V29] at f29
 have f30 := hV 30 (by simp) (fun _ _ => by rfl)
 rw [V30] at f30
 have f31 := hV 31 (by simp) (fun _ _ => by rfl)
 rw [V31] at f31
 have f32 := hV 32 (by simp) (fun _ _ => by rfl)
 rw [V32] at f32
 have f33 := hV 33 (by simp) (fun _ _ => by rfl)
 rw [V33] at f33
 have f34 := hV 34 (by simp) (fun _ _ => by rfl)
 rw [V34] at f34
 have f35 := hV 35 (by simp) (fun _ _ => by rfl)
 rw [V35] at f35
 have f36 := hV 36 (by simp) (fun _ _ => by rfl)
 rw [V36] at f36
 have f37 := hV 37 (by simp) (fun _ _ => by rfl)
 rw [V37] at f37
 have f38 := hV 38 (by simp) (fun _ _ => by rfl)
 rw [V38] at f38
 have f39 := hV 39 (by simp) (fun _ _ => by rfl)
 rw [V39] at f39
 have f40 := hV 40 (by simp) (fun _ _ => by rfl)
 rw [V40] at f40
 clear hV V0 V1 V2 V3 V4 V5 V6 V7 V8 V9 V10 V11 V12 V13 V14 V15 V16 V17 V18 V19 V20 V21 V22 V23 V24 V25 V26 V27 V28 V29 V30 V31 V32 V33 V34 V35 V36 V37 V38 V39 V40
 simp only [putAll, Act.put, List.setIfInBounds_toArray, List.set_cons_zero, List.set_cons_succ]
 generalize val 0 = z0, val 1 = z1, val 2 = z2, val 3 = z3 at *
 subst f0 f1 f2 f3
 generalize val 4 = z4 at *; clear f4
 generalize val 5 = z5, val 6 = z6 at *
 subst f5 f6
 generalize val 7 = z7 at *; clear f7
 generalize val 8 = z8 at *; clear f8
 generalize val 9 = z9 at *; clear f9
 generalize val 10 = z10, val 11 = z11 at *
 subst f10 f11
 generalize val 12 = z12 at *; clear f12
 generalize val 13 = z13 at *; clear f13
 generalize val 14 = z14 at *; clear f14
 generalize val 15 = z15 at *; clear f15
 generalize val 16 = z16, val 17 = z17 at *
 subst f16 f17
 generalize val 18 = z18 at *; clear f18
 generalize val 19 = z19 at *; clear f19
 generalize val 20 = z20 at *; clear f20
 generalize val 21 = z21 at *; clear f21
 generalize val 22 = z22 at *; clear f22
 generalize val 23 = z23 at *; clear f23
 generalize val 24 = z24 at *; clear f24
 generalize val 25 = z25, val 26 = z26 at *
 subst f25 f26
 generalize val 27 = z27 at *; clear f27
 generalize val 28 = z28 at *; clear f28
 generalize val 29 = z29 at *; clear f29
 generalize val 30 = z30, val 31 = z31 at *
 subst f30 f31
 generalize val 32 = z32 at *; clear f32
 generalize val 33 = z33 at *; clear f33
 generalize val 34 = z34 at *; clear f34
 generalize val 35 = z35, val 36 = z36 at *
 subst f35 f36
 generalize val 37 = z37 at *; clear f37
 generalize val 38 = z38 at *; clear f38
 generalize val 39 = z39, val 40 = z40 at *
 subst f39 f40
 clear HVD
 go_wp2_with fail
 go_ret
 exact ⟨ret_b HCH.out, HB.out.trans (hG.mono (by rw [← hg]; exact HB.out.size))⟩
theorem twosL_take {l : List Int} {k : Nat} {n : Int} (h : l[k]? = some n) : twosL (l.take (k + 1)) = twosL (l.take k) ++ twoL n := by
 rw [List.take_add_one, h]
 exact twosL_snoc _ _
theorem catL_take {l : List Msg} {k : Nat} {m : Msg} (h : l[k]? = some m) : catL (l.take (k + 1)) = catL (l.take k) ++ encL m := by
 rw [List.take_add_one, h]
 exact catL_snoc _ _
theorem catL_take_le {l : List Msg} (h : ∀ m ∈ l, rightM m = true) (h16 : l.length ≤ 16) (k : Nat) : (catL (l.take k)).length ≤ 320 := by
 have := catL_length (l.take k) (fun m hm => h m (List.mem_of_mem_take hm))
 rw [List.length_take] at this
 omega
theorem smalls_mem {l : List Int} (h : l.all smallB = true) : ∀ n ∈ l, 1 ≤ n ∧ n ≤ 65535 := fun n hn => (smallB_iff n).1 (List.all_eq_true.1 h n hn)
end Go.Proofs.YtmmbnjkdknnidaaGreatDoor

/-
  Entries' bytes, by the document.
-/
import Derived.Deep.DeepCutAuto
import Derived.Deep.RegionWith
import Derived.BigQuiet
import Derived.Test.YtlhopgadhkjflaaGreatDoorEntRawR
import Derived.Test.YtlhopgadhkjflaaGreatDoorOncePhaseR
import Derived.Test.YtlhopgadhkjflaaGreatDoorMsgTripR
set_option maxHeartbeats 8000000
set_option maxRecDepth 100000
namespace Go.Proofs.YtlhopgadhkjflaaGreatDoor
open Lib (hid)
open Go.RowKit
theorem countedE_any (A : Option Addr) (c B : Nat) (l : List Int) (w : World) (h : V.Row w B A l) (hl : l.length ≤ maxLen) :
  Calls Tryz.prog 91 #[.slice A l.length c] w fun e w' => e = .returned (.bool (l.all smallB)) ∧ w = w' := by
 unfold maxLen at hl
 obtain ⟨R, hR⟩ : ∃ R, R = l.all smallB := ⟨_, rfl⟩
 rw [← hR]
 have HR := hid hR; clear hR
 go_enter Tryz.func91, Tryz.ntmps91
 go_wp2
 go_loop [4, 7] (fun v i => ∃ k : Nat, k ≤ l.length ∧ i = .int .i64 k ∧ (l.take k).all smallB = true) (fun _ i => l.length - (intOf i).toNat)
 case atStart => exact ⟨0, by omega, rfl, rfl⟩
 case round =>
  obtain ⟨k, hk, rfl, hal⟩ := hrel
  have HAL := hid hal; clear hal
  by_cases hlt : k < l.length
  ·obtain ⟨x, hx⟩ : ∃ x, l[k]? = some x := ⟨_, List.getElem?_eq_getElem hlt⟩
   obtain ⟨ad, rfl, _, hc⟩ := h (by omega)
   have hck := hc k x hx
   have HT := hid (all_take l k x hx)
   have HM := hid (all_miss l k x hx)
   clear hx hc
   by_cases k0 : x < 1
   ·have HS := hid (show smallB x = false by rw [← Bool.not_eq_true, smallB_iff]; omega)
    go_wp2
    go_ret
    exact ⟨ret_b (by rw [HR.out, HM.out HS.out]), rfl⟩
   ·by_cases k1 : 65535 < x
    ·have HS := hid (show smallB x = false by rw [← Bool.not_eq_true, smallB_iff]; omega)
     go_wp2
     go_ret
     exact ⟨ret_b (by rw [HR.out, HM.out HS.out]), rfl⟩
    ·have HS := hid (show smallB x = true by rw [smallB_iff]; omega)
     go_wp2
     go_round
     case rel => exact ⟨k + 1, by omega, by go_num, by rw [HT.out, HAL.out, HS.out]; rfl⟩
     case measure => simp [intOf]; omega
  ·have ek : k = l.length := by omega
   subst ek
   go_wp2
   go_ret
   have hh := HAL.out
   rw [List.take_length] at hh
   exact ⟨ret_b (by rw [HR.out, hh]), rfl⟩
theorem ordU_stays (l : List Msg) {k : Nat} (h : ordU l k = false) : ∀ j, ordU l (k + j) = false
 | 0 => h
 | j + 1 => by
  show (ordU l (k + j) && _) = false
  rw [ordU_stays l h j]; rfl
theorem ordU_false {l : List Msg} {k n : Nat} (h : ordU l k = false) (hk : k ≤ n) : ordU l n = false := by
 have := ordU_stays l h (n - k)
 rwa [show k + (n - k) = n by omega] at this
theorem ordU_first {l : List Msg} {m : Msg} (hm : l[0]? = some m) : ordU l 1 = rightM m := by
 show (true && (rightM (l.getD 0 zeroM) && (decide (0 = 0) || _))) = _
 rw [getD_at hm]; simp
theorem ordU_next {l : List Msg} {k : Nat} {p m : Msg} (hp : l[k]? = some p) (hm : l[k + 1]? = some m) (h : ordU l (k + 1) = true) : ordU l (k + 2) = (rightM m && lessM p m) := by
 show (ordU l (k + 1) && (rightM (l.getD (k + 1) zeroM) && (decide (k + 1 = 0) || lessM (l.getD (k + 1 - 1) zeroM) (l.getD (k + 1) zeroM)))) = _
 rw [h, getD_at hm, Nat.add_sub_cancel, getD_at hp]; simp
theorem inOrder_any (A : Option Addr) (c : Nat) (l : List Msg) (w : World) (L : Laid w) (h : Msgs w w.heap.size A l) (hl : l.length ≤ maxLen) (hd : ∀ m ∈ l, m.data.size ≤ maxLen) :
  Calls Tryz.prog 94 #[.slice A l.length c] w fun e w' => e = .returned (.bool (ordU l l.length)) ∧ Below w.heap.size w w' := by
 unfold maxLen at hl
 have HD := hid hd; clear hd
 have HL := hid L; clear L
 obtain ⟨R, hR⟩ : ∃ R, R = ordU l l.length := ⟨_, rfl⟩
 rw [← hR]
 have HR := hid hR; clear hR
 go_enter Tryz.func94, Tryz.ntmps94
 go_wp2_with fail
 go_loopw [3, 4, 7] (fun s3 s4 ix wr => ∃ k : Nat, k ≤ l.length ∧ ix = .int .i64 k ∧ ordU l k = true ∧ Below w.heap.size w wr) (fun _ _ ix _ => l.length - (intOf ix).toNat)
 case atStart => exact ⟨0, by omega, rfl, rfl, Below.refl _ _⟩
 case round =>
  obtain ⟨k, hk, rfl, ho, hb⟩ := hrel
  have HB := hid hb; clear hb
  by_cases hlt : k < l.length
  ·obtain ⟨m, hm⟩ : ∃ m, l[k]? = some m := ⟨_, List.getElem?_eq_getElem hlt⟩
   have hmd := HD.out m (List.mem_of_getElem? hm)
   have hbn := Joins.below_alloc1 wr (.cells (mc m) 109)
   have hB1 := HB.out.trans (hbn.mono HB.out.size)
   have hM1 : MsgAt (wr.alloc (.cells (mc m) 109)) wr.heap.size m := heap_alloc_new wr _
   have cr := fun W (hL : Laid W) => rightM_any m hmd W hL
   have cl := fun p W (hL : Laid W) => lessM_any p m W hL
   obtain ⟨ad, rfl, had, hcc⟩ := h.below HB.out (Nat.le_refl _) (by omega)
   have hck := hcc k m hm
   have HF : Hid (k = 0 → ordU l (k + 1) = rightM m) := hid (fun h0 => by subst h0; exact ordU_first hm)
   have HN : Hid (∀ (j : Nat) (p : Msg), k = j + 1 → l[j]? = some p → ordU l (k + 1) = (rightM m && lessM p m)) := hid (fun j p hj hp => by subst hj; exact ordU_next (k := j) hp hm ho)
   have HM := hid hm; clear hm
   have HO := hid ho; clear ho
   have HC := hid hcc; clear hcc hbn
   generalize hRM : rightM m = RM at *
   have HRM := hid hRM; clear hRM
   have HB1 := hid hB1; clear hB1
   have HM1 := hid hM1; clear hM1
   obtain ⟨me, mn, ms, mi, mq, mu, md⟩ := m
   simp only [mv, mc] at *
   obtain ⟨a0, a1, a2, a3, a4, a5, a6⟩ := hck
   go_upto_region 4 with (fail)
   obtain ⟨ad', ead, had1, hcc1⟩ := h.below HB1.out (Nat.le_refl _) (by omega)
   obtain rfl : ad = ad' := Option.some.inj ead
   have HL1 := hid (HL.out.below HB1.out)
   have HC1 := hid hcc1; clear hcc1 ead a0 a1 a2 a3 a4 a5 a6 had HC
   generalize wr.alloc (.cells #[.bool me, .int .i64 mn, .int .i64 ms, .int .i64 mi, .int .i64 mq, .int .i64 mu, .string md] 109) = W1 at *
   generalize wr.heap.size = b at *
   obtain ⟨_, x0, x1, x2, x3, x4, x5, x6⟩ := Holds.of_blk HM1.out
   simp only at x0 x1 x2 x3 x4 x5 x6
   cases RM
   ·have HS : Hid (R = false) := hid (by
     rw [HR.out]
     refine ordU_false (k := k + 1) ?_ (by omega)
     rcases Nat.eq_zero_or_pos k with h0 | h0
     ·exact HF.out h0
     ·have h1 : l[k - 1]? = some l[k - 1] := List.getElem?_eq_getElem (by omega)
      exact (HN.out (k - 1) _ (by omega) h1).trans rfl)
    have HV : ∃ V : Nat → (Nat → Value) → World → Prop, V = (fun ix u wv => match ix with
     | 0 => u 0 = .agg #[.bool me, .int .i64 mn, .int .i64 ms, .int .i64 mi, .int .i64 mq, .int .i64 mu, .string md]
     | 1 => u 1 = .bool false
     | 2 => u 2 = .bool true
     | 3 => u 3 = .bool true
     | 4 => u 4 = undef
     | 5 => u 5 = undef
     | 6 => u 6 = undef
     | 7 => u 7 = undef
     | 8 => u 8 = undef
     | 9 => u 9 = undef
     | 10 => u 10 = undef
     | 11 => u 11 = undef
     | 12 => u 12 = undef
     | 13 => u 13 = undef
     | 14 => u 14 = undef
     | 15 => u 15 = undef
     | 16 => u 16 = .bool true
     | _ => True) := ⟨_, rfl⟩
    obtain ⟨V, hd7⟩ := HV
    have V0 : ∀ u wv, V 0 u wv = (u 0 = .agg #[.bool me, .int .i64 mn, .int .i64 ms, .int .i64 mi, .int .i64 mq, .int .i64 mu, .string md]) := fun u wv => by subst hd7; rfl
    have V1 : ∀ u wv, V 1 u wv = (u 1 = .bool false) := fun u wv => by subst hd7; rfl
    have V2 : ∀ u wv, V 2 u wv = (u 2 = .bool true) := fun u wv => by subst hd7; rfl
    have V3 : ∀ u wv, V 3 u wv = (u 3 = .bool true) := fun u wv => by subst hd7; rfl
    have V4 : ∀ u wv, V 4 u wv = (u 4 = undef) := fun u wv => by subst hd7; rfl
    have V5 : ∀ u wv, V 5 u wv = (u 5 = undef) := fun u wv => by subst hd7; rfl
    have V6 : ∀ u wv, V 6 u wv = (u 6 = undef) := fun u wv => by subst hd7; rfl
    have V7 : ∀ u wv, V 7 u wv = (u 7 = undef) := fun u wv => by subst hd7; rfl
    have V8 : ∀ u wv, V 8 u wv = (u 8 = undef) := fun u wv => by subst hd7; rfl
    have V9 : ∀ u wv, V 9 u wv = (u 9 = undef) := fun u wv => by subst hd7; rfl
    have V10 : ∀ u wv, V 10 u wv = (u 10 = undef) := fun u wv => by subst hd7; rfl
    have V11 : ∀ u wv, V 11 u wv = (u 11 = undef) := fun u wv => by subst hd7; rfl
    have V12 : ∀ u wv, V 12 u wv = (u 12 = undef) := fun u wv => by subst hd7; rfl
    have V13 : ∀ u wv, V 13 u wv = (u 13 = undef) := fun u wv => by subst hd7; rfl
    have V14 : ∀ u wv, V 14 u wv = (u 14 = undef) := fun u wv => by subst hd7; rfl
    have V15 : ∀ u wv, V 15 u wv = (u 15 = undef) := fun u wv => by subst hd7; rfl
    have V16 : ∀ u wv, V 16 u wv = (u 16 = .bool true) := fun u wv => by subst hd7; rfl
    have HVD := hid hd7
    clear hd7
    refine region_each (V := V) (drop := fun _ _ => false) (G := fun wv => Below W1.heap.size W1 wv) (Rel := fun jx wv wv' => Below wv.heap.size wv wv') (by kernel_rfl) (by kernel_rfl) (Below.refl _ _).drew ?hmonoq1 ?hdepq1 ⟨?s0_q1, ?s1_q1, ?s2_q1, ?s3_q1, ?s4_q1, ?s5_q1, ?s6_q1, ?s7_q1, ?s8_q1, ?s9_q1, ?s10_q1, ?s11_q1, ?s12_q1, ?s13_q1, ?s14_q1, ?s15_q1, ?s16_q1, trivial⟩ ?behindq1
    case hmonoq1 =>
     intro ix jx u wv wv' hij hw hd hr
     rw [HVD.out]
     dsimp only
     split <;> intro h <;> first | exact trivial | exact h
    case hdepq1 =>
     intro ix u u' wv h1 h2
     rw [HVD.out]
     dsimp only
     split <;> intro h <;> first | exact trivial | (rw [← h1]; exact h)
    case s0_q1 =>
     refine owe rfl fun a wx val hG hV hN hO K hK => ?_
     have e4 : a.tmps[4]? = some (.pointer (some ⟨b, 0, none⟩)) := (hO 4 (by kernel_rfl)).trans (by rfl)
     clear hV hN hO
     obtain ⟨_, x0, x1, x2, x3, x4, x5, x6⟩ := Holds.of_blk (HM1.out.on hG)
     simp only at x0 x1 x2 x3 x4 x5 x6
     go_simp
     exact hK.out _ _ (by rw [V0, upd_at] <;> (congr 1 <;> omega)) (Below.refl _ _) hG
    case s1_q1 =>
     refine owe rfl fun a wx val hG hV hN hO K hK => ?_
     have e12 := hN 0 12 (by kernel_rfl) (by kernel_rfl) (by simp)
     have f12 := hV 0 (by kernel_rfl) (by kernel_rfl)
     rw [V0] at f12; rw [f12] at e12; clear f12
     clear hV hN hO
     go_simp
     refine (cr _ (HL1.out.below hG)).mono ?_
     rintro e w11 ⟨rfl, hb⟩
     exact hK.out _ _ (by rw [V1, upd_at]) hb (hG.trans (hb.mono hG.size))
    case s2_q1 =>
     refine owe rfl fun a wx val hG hV hN hO K hK => ?_
     have e13 := hN 1 13 (by kernel_rfl) (by kernel_rfl) (by simp)
     have f13 := hV 1 (by kernel_rfl) (by kernel_rfl)
     rw [V1] at f13; rw [f13] at e13; clear f13
     clear hV hN hO
     go_simp
     exact hK.out _ _ (by rw [V2, upd_at] <;> (congr 1 <;> omega)) (Below.refl _ _) hG
    case s3_q1 =>
     refine owe rfl fun a wx val hG hV hN hO K hK => ?_
     have e14 := hN 2 14 (by kernel_rfl) (by kernel_rfl) (by simp)
     have f14 := hV 2 (by kernel_rfl) (by kernel_rfl)
     rw [V2] at f14; rw [f14] at e14; clear f14
     clear hV hN hO
     go_simp
     exact hK.out _ _ (by rw [V3, upd_at] <;> (congr 1 <;> omega)) (Below.refl _ _) hG
    case s4_q1 =>
     exact owe_skip (g := 3) (t := 15) (b := false) (c := true) rfl (by kernel_rfl) (by kernel_rfl) (by kernel_rfl) (by simp) (fun val w h => by rw [V3] at h; exact h) (by decide) (fun val w => by rw [V4, upd_at])
    case s5_q1 =>
     exact owe_skip (g := 3) (t := 15) (b := false) (c := true) rfl (by kernel_rfl) (by kernel_rfl) (by kernel_rfl) (by simp) (fun val w h => by rw [V3] at h; exact h) (by decide) (fun val w => by rw [V5, upd_at])
    case s6_q1 =>
     exact owe_skip (g := 3) (t := 15) (b := false) (c := true) rfl (by kernel_rfl) (by kernel_rfl) (by kernel_rfl) (by simp) (fun val w h => by rw [V3] at h; exact h) (by decide) (fun val w => by rw [V6, upd_at])
    case s7_q1 =>
     exact owe_gone (g := 6) (t := 18) (b := true) rfl (by kernel_rfl) (by kernel_rfl) (by kernel_rfl) (by simp) (fun val w h => by rw [V6] at h; exact h) (fun val w => by rw [V7, upd_at])
    case s8_q1 =>
     exact owe_gone (g := 6) (t := 18) (b := true) rfl (by kernel_rfl) (by kernel_rfl) (by kernel_rfl) (by simp) (fun val w h => by rw [V6] at h; exact h) (fun val w => by rw [V8, upd_at])
    case s9_q1 =>
     exact owe_gone (g := 6) (t := 18) (b := true) rfl (by kernel_rfl) (by kernel_rfl) (by kernel_rfl) (by simp) (fun val w h => by rw [V6] at h; exact h) (fun val w => by rw [V9, upd_at])
    case s10_q1 =>
     exact owe_gone (g := 6) (t := 18) (b := true) rfl (by kernel_rfl) (by kernel_rfl) (by kernel_rfl) (by simp) (fun val w h => by rw [V6] at h; exact h) (fun val w => by rw [V10, upd_at])
    case s11_q1 =>
     exact owe_gone (g := 6) (t := 18) (b := true) rfl (by kernel_rfl) (by kernel_rfl) (by kernel_rfl) (by simp) (fun val w h => by rw [V6] at h; exact h) (fun val w => by rw [V11, upd_at])
    case s12_q1 =>
     exact owe_gone (g := 6) (t := 18) (b := true) rfl (by kernel_rfl) (by kernel_rfl) (by kernel_rfl) (by simp) (fun val w h => by rw [V6] at h; exact h) (fun val w => by rw [V12, upd_at])
    case s13_q1 =>
     exact owe_gone (g := 6) (t := 18) (b := true) rfl (by kernel_rfl) (by kernel_rfl) (by kernel_rfl) (by simp) (fun val w h => by rw [V6] at h; exact h) (fun val w => by rw [V13, upd_at])
    case s14_q1 =>
     exact owe_gone (g := 6) (t := 18) (b := true) rfl (by kernel_rfl) (by kernel_rfl) (by kernel_rfl) (by simp) (fun val w h => by rw [V6] at h; exact h) (fun val w => by rw [V14, upd_at])
    case s15_q1 =>
     exact owe_skip (g := 3) (t := 15) (b := false) (c := true) rfl (by kernel_rfl) (by kernel_rfl) (by kernel_rfl) (by simp) (fun val w h => by rw [V3] at h; exact h) (by decide) (fun val w => by rw [V15, upd_at])
    case s16_q1 =>
     refine owe rfl fun a wx val hG hV hN hO K hK => ?_
     have e15 := hN 3 15 (by kernel_rfl) (by kernel_rfl) (by simp)
     have f15 := hV 3 (by kernel_rfl) (by kernel_rfl)
     rw [V3] at f15; rw [f15] at e15; clear f15
     have e27 := hN 15 27 (by kernel_rfl) (by kernel_rfl) (by simp)
     have f27 := hV 15 (by kernel_rfl) (by kernel_rfl)
     rw [V15] at f27; rw [f27] at e27; clear f27
     clear hV hN hO
     go_simp
     exact hK.out _ _ (by rw [V16, upd_at] <;> (congr 1 <;> omega)) (Below.refl _ _) hG
    intro val wx hG hV
    have f0 := hV 0 (by simp) (fun _ _ => by rfl)
    rw [V0] at f0
    have f1 := hV 1 (by simp) (fun _ _ => by rfl)
    rw [V1] at f1
    have f2 := hV 2 (by simp) (fun _ _ => by rfl)
    rw [V2] at f2
    have f3 := hV 3 (by simp) (fun _ _ => by rfl)
    rw [V3] at f3
    have f4 := hV 4 (by simp) (fun _ _ => by rfl)
    rw [V4] at f4
    have f5 := hV 5 (by simp) (fun _ _ => by rfl)
    rw [V5] at f5
    have f6 := hV 6 (by simp) (fun _ _ => by rfl)
    rw [V6] at f6
    have f7 := hV 7 (by simp) (fun _ _ => by rfl)
    rw [V7] at f7
    have f8 := hV 8 (by simp) (fun _ _ => by rfl)
    rw [V8] at f8
    have f9 := hV 9 (by simp) (fun _ _ => by rfl)
    rw [V9] at f9
    have f10 := hV 10 (by simp) (fun _ _ => by rfl)
    rw [V10] at f10
    have f11 := hV 11 (by simp) (fun _ _ => by rfl)
    rw [V11] at f11
    have f12 := hV 12 (by simp) (fun _ _ => by rfl)
    rw [V12] at f12
    have f13 := hV 13 (by simp) (fun _ _ => by rfl)
    rw [V13] at f13
    have f14 := hV 14 (by simp) (fun _ _ => by rfl)
    rw [V14] at f14
    have f15 := hV 15 (by simp) (fun _ _ => by rfl)
    rw [V15] at f15
    have f16 := hV 16 (by simp) (fun _ _ => by rfl)
    rw [V16] at f16
    clear hV V0 V1 V2 V3 V4 V5 V6 V7 V8 V9 V10 V11 V12 V13 V14 V15 V16
    simp only [putAll, Act.put, List.setIfInBounds_toArray, List.set_cons_zero, List.set_cons_succ]
    generalize val 0 = z0, val 1 = z1, val 2 = z2, val 3 = z3, val 4 = z4, val 5 = z5, val 6 = z6, val 7 = z7, val 8 = z8, val 9 = z9, val 10 = z10, val 11 = z11, val 12 = z12, val 13 = z13, val 14 = z14, val 15 = z15, val 16 = z16 at *
    subst f0 f1 f2 f3 f4 f5 f6 f7 f8 f9 f10 f11 f12 f13 f14 f15 f16
    clear HVD
    go_wp2_with fail
    go_ret
    exact ⟨ret_b HS.out.symm, HB1.out.trans (hG.mono HB1.out.size)⟩
   ·rcases Nat.eq_zero_or_pos k with h0 | h0
    ·subst h0
     have HV : ∃ V : Nat → (Nat → Value) → World → Prop, V = (fun ix u wv => match ix with
      | 0 => u 0 = .agg #[.bool me, .int .i64 mn, .int .i64 ms, .int .i64 mi, .int .i64 mq, .int .i64 mu, .string md]
      | 1 => u 1 = .bool true
      | 2 => u 2 = .bool false
      | 3 => u 3 = .bool false
      | 4 => u 4 = .int .i64 0
      | 5 => u 5 = .bool false
      | 6 => u 6 = .bool false
      | 7 => u 7 = undef
      | 8 => u 8 = undef
      | 9 => u 9 = undef
      | 10 => u 10 = undef
      | 11 => u 11 = undef
      | 12 => u 12 = undef
      | 13 => u 13 = undef
      | 14 => u 14 = undef
      | 15 => u 15 = .bool false
      | 16 => u 16 = .bool false
      | _ => True) := ⟨_, rfl⟩
     obtain ⟨V, hd7⟩ := HV
     have V0 : ∀ u wv, V 0 u wv = (u 0 = .agg #[.bool me, .int .i64 mn, .int .i64 ms, .int .i64 mi, .int .i64 mq, .int .i64 mu, .string md]) := fun u wv => by subst hd7; rfl
     have V1 : ∀ u wv, V 1 u wv = (u 1 = .bool true) := fun u wv => by subst hd7; rfl
     have V2 : ∀ u wv, V 2 u wv = (u 2 = .bool false) := fun u wv => by subst hd7; rfl
     have V3 : ∀ u wv, V 3 u wv = (u 3 = .bool false) := fun u wv => by subst hd7; rfl
     have V4 : ∀ u wv, V 4 u wv = (u 4 = .int .i64 0) := fun u wv => by subst hd7; rfl
     have V5 : ∀ u wv, V 5 u wv = (u 5 = .bool false) := fun u wv => by subst hd7; rfl
     have V6 : ∀ u wv, V 6 u wv = (u 6 = .bool false) := fun u wv => by subst hd7; rfl
     have V7 : ∀ u wv, V 7 u wv = (u 7 = undef) := fun u wv => by subst hd7; rfl
     have V8 : ∀ u wv, V 8 u wv = (u 8 = undef) := fun u wv => by subst hd7; rfl
     have V9 : ∀ u wv, V 9 u wv = (u 9 = undef) := fun u wv => by subst hd7; rfl
     have V10 : ∀ u wv, V 10 u wv = (u 10 = undef) := fun u wv => by subst hd7; rfl
     have V11 : ∀ u wv, V 11 u wv = (u 11 = undef) := fun u wv => by subst hd7; rfl
     have V12 : ∀ u wv, V 12 u wv = (u 12 = undef) := fun u wv => by subst hd7; rfl
     have V13 : ∀ u wv, V 13 u wv = (u 13 = undef) := fun u wv => by subst hd7; rfl
     have V14 : ∀ u wv, V 14 u wv = (u 14 = undef) := fun u wv => by subst hd7; rfl
     have V15 : ∀ u wv, V 15 u wv = (u 15 = .bool false) := fun u wv => by subst hd7; rfl
     have V16 : ∀ u wv, V 16 u wv = (u 16 = .bool false) := fun u wv => by subst hd7; rfl
     have HVD := hid hd7
     clear hd7
     refine region_each (V := V) (drop := fun _ _ => false) (G := fun wv => Below W1.heap.size W1 wv) (Rel := fun jx wv wv' => Below wv.heap.size wv wv') (by kernel_rfl) (by kernel_rfl) (Below.refl _ _).drew ?hmonoq2 ?hdepq2 ⟨?s0_q2, ?s1_q2, ?s2_q2, ?s3_q2, ?s4_q2, ?s5_q2, ?s6_q2, ?s7_q2, ?s8_q2, ?s9_q2, ?s10_q2, ?s11_q2, ?s12_q2, ?s13_q2, ?s14_q2, ?s15_q2, ?s16_q2, trivial⟩ ?behindq2
     case hmonoq2 =>
      intro ix jx u wv wv' hij hw hd hr
      rw [HVD.out]
      dsimp only
      split <;> intro h <;> first | exact trivial | exact h
     case hdepq2 =>
      intro ix u u' wv h1 h2
      rw [HVD.out]
      dsimp only
      split <;> intro h <;> first | exact trivial | (rw [← h1]; exact h)
     case s0_q2 =>
      refine owe rfl fun a wx val hG hV hN hO K hK => ?_
      have e4 : a.tmps[4]? = some (.pointer (some ⟨b, 0, none⟩)) := (hO 4 (by kernel_rfl)).trans (by rfl)
      clear hV hN hO
      obtain ⟨_, x0, x1, x2, x3, x4, x5, x6⟩ := Holds.of_blk (HM1.out.on hG)
      simp only at x0 x1 x2 x3 x4 x5 x6
      go_simp
      exact hK.out _ _ (by rw [V0, upd_at] <;> (congr 1 <;> omega)) (Below.refl _ _) hG
     case s1_q2 =>
      refine owe rfl fun a wx val hG hV hN hO K hK => ?_
      have e12 := hN 0 12 (by kernel_rfl) (by kernel_rfl) (by simp)
      have f12 := hV 0 (by kernel_rfl) (by kernel_rfl)
      rw [V0] at f12; rw [f12] at e12; clear f12
      clear hV hN hO
      go_simp
      refine (cr _ (HL1.out.below hG)).mono ?_
      rintro e w11 ⟨rfl, hb⟩
      exact hK.out _ _ (by rw [V1, upd_at]) hb (hG.trans (hb.mono hG.size))
     case s2_q2 =>
      refine owe rfl fun a wx val hG hV hN hO K hK => ?_
      have e13 := hN 1 13 (by kernel_rfl) (by kernel_rfl) (by simp)
      have f13 := hV 1 (by kernel_rfl) (by kernel_rfl)
      rw [V1] at f13; rw [f13] at e13; clear f13
      clear hV hN hO
      go_simp
      exact hK.out _ _ (by rw [V2, upd_at] <;> (congr 1 <;> omega)) (Below.refl _ _) hG
     case s3_q2 =>
      refine owe rfl fun a wx val hG hV hN hO K hK => ?_
      have e14 := hN 2 14 (by kernel_rfl) (by kernel_rfl) (by simp)
      have f14 := hV 2 (by kernel_rfl) (by kernel_rfl)
      rw [V2] at f14; rw [f14] at e14; clear f14
      clear hV hN hO
      go_simp
      exact hK.out _ _ (by rw [V3, upd_at] <;> (congr 1 <;> omega)) (Below.refl _ _) hG
     case s4_q2 =>
      refine owe_if (g := 3) (t := 15) (b := false) rfl (by kernel_rfl) (by kernel_rfl) (by kernel_rfl) (by simp) (fun val w h => by rw [V3] at h; exact h) fun a wx val hG hV hN hO K hK => ?_
      have e3 : a.tmps[3]? = some (.int .i64 0) := (hO 3 (by kernel_rfl)).trans (by rfl)
      clear hV hN hO
      go_simp
      exact hK.out _ _ (by rw [V4, upd_at] <;> (congr 1 <;> omega)) (Below.refl _ _) hG
     case s5_q2 =>
      refine owe_if (g := 3) (t := 15) (b := false) rfl (by kernel_rfl) (by kernel_rfl) (by kernel_rfl) (by simp) (fun val w h => by rw [V3] at h; exact h) fun a wx val hG hV hN hO K hK => ?_
      have e16 := hN 4 16 (by kernel_rfl) (by kernel_rfl) (by simp)
      have f16 := hV 4 (by kernel_rfl) (by kernel_rfl)
      rw [V4] at f16; rw [f16] at e16; clear f16
      clear hV hN hO
      go_simp
      exact hK.out _ _ (by rw [V5, upd_at] <;> (congr 1 <;> omega)) (Below.refl _ _) hG
     case s6_q2 =>
      refine owe_if (g := 3) (t := 15) (b := false) rfl (by kernel_rfl) (by kernel_rfl) (by kernel_rfl) (by simp) (fun val w h => by rw [V3] at h; exact h) fun a wx val hG hV hN hO K hK => ?_
      have e17 := hN 5 17 (by kernel_rfl) (by kernel_rfl) (by simp)
      have f17 := hV 5 (by kernel_rfl) (by kernel_rfl)
      rw [V5] at f17; rw [f17] at e17; clear f17
      clear hV hN hO
      go_simp
      exact hK.out _ _ (by rw [V6, upd_at] <;> (congr 1 <;> omega)) (Below.refl _ _) hG
     case s7_q2 =>
      exact owe_skip (g := 6) (t := 18) (b := true) (c := false) rfl (by kernel_rfl) (by kernel_rfl) (by kernel_rfl) (by simp) (fun val w h => by rw [V6] at h; exact h) (by decide) (fun val w => by rw [V7, upd_at])
     case s8_q2 =>
      exact owe_skip (g := 6) (t := 18) (b := true) (c := false) rfl (by kernel_rfl) (by kernel_rfl) (by kernel_rfl) (by simp) (fun val w h => by rw [V6] at h; exact h) (by decide) (fun val w => by rw [V8, upd_at])
     case s9_q2 =>
      exact owe_skip (g := 6) (t := 18) (b := true) (c := false) rfl (by kernel_rfl) (by kernel_rfl) (by kernel_rfl) (by simp) (fun val w h => by rw [V6] at h; exact h) (by decide) (fun val w => by rw [V9, upd_at])
     case s10_q2 =>
      exact owe_skip (g := 6) (t := 18) (b := true) (c := false) rfl (by kernel_rfl) (by kernel_rfl) (by kernel_rfl) (by simp) (fun val w h => by rw [V6] at h; exact h) (by decide) (fun val w => by rw [V10, upd_at])
     case s11_q2 =>
      exact owe_skip (g := 6) (t := 18) (b := true) (c := false) rfl (by kernel_rfl) (by kernel_rfl) (by kernel_rfl) (by simp) (fun val w h => by rw [V6] at h; exact h) (by decide) (fun val w => by rw [V11, upd_at])
     case s12_q2 =>
      exact owe_skip (g := 6) (t := 18) (b := true) (c := false) rfl (by kernel_rfl) (by kernel_rfl) (by kernel_rfl) (by simp) (fun val w h => by rw [V6] at h; exact h) (by decide) (fun val w => by rw [V12, upd_at])
     case s13_q2 =>
      exact owe_skip (g := 6) (t := 18) (b := true) (c := false) rfl (by kernel_rfl) (by kernel_rfl) (by kernel_rfl) (by simp) (fun val w h => by rw [V6] at h; exact h) (by decide) (fun val w => by rw [V13, upd_at])
     case s14_q2 =>
      exact owe_skip (g := 6) (t := 18) (b := true) (c := false) rfl (by kernel_rfl) (by kernel_rfl) (by kernel_rfl) (by simp) (fun val w h => by rw [V6] at h; exact h) (by decide) (fun val w => by rw [V14, upd_at])
     case s15_q2 =>
      refine owe_if (g := 3) (t := 15) (b := false) rfl (by kernel_rfl) (by kernel_rfl) (by kernel_rfl) (by simp) (fun val w h => by rw [V3] at h; exact h) fun a wx val hG hV hN hO K hK => ?_
      have e18 := hN 6 18 (by kernel_rfl) (by kernel_rfl) (by simp)
      have f18 := hV 6 (by kernel_rfl) (by kernel_rfl)
      rw [V6] at f18; rw [f18] at e18; clear f18
      have e26 := hN 14 26 (by kernel_rfl) (by kernel_rfl) (by simp)
      have f26 := hV 14 (by kernel_rfl) (by kernel_rfl)
      rw [V14] at f26; rw [f26] at e26; clear f26
      clear hV hN hO
      go_simp
      exact hK.out _ _ (by rw [V15, upd_at] <;> (congr 1 <;> omega)) (Below.refl _ _) hG
     case s16_q2 =>
      refine owe rfl fun a wx val hG hV hN hO K hK => ?_
      have e15 := hN 3 15 (by kernel_rfl) (by kernel_rfl) (by simp)
      have f15 := hV 3 (by kernel_rfl) (by kernel_rfl)
      rw [V3] at f15; rw [f15] at e15; clear f15
      have e27 := hN 15 27 (by kernel_rfl) (by kernel_rfl) (by simp)
      have f27 := hV 15 (by kernel_rfl) (by kernel_rfl)
      rw [V15] at f27; rw [f27] at e27; clear f27
      clear hV hN hO
      go_simp
      exact hK.out _ _ (by rw [V16, upd_at] <;> (congr 1 <;> omega)) (Below.refl _ _) hG
     intro val wx hG hV
     have f0 := hV 0 (by simp) (fun _ _ => by rfl)
     rw [V0] at f0
     have f1 := hV 1 (by simp) (fun _ _ => by rfl)
     rw [V1] at f1
     have f2 := hV 2 (by simp) (fun _ _ => by rfl)
     rw [V2] at f2
     have f3 := hV 3 (by simp) (fun _ _ => by rfl)
     rw [V3] at f3
     have f4 := hV 4 (by simp) (fun _ _ => by rfl)
     rw [V4] at f4
     have f5 := hV 5 (by simp) (fun _ _ => by rfl)
     rw [V5] at f5
     have f6 := hV 6 (by simp) (fun _ _ => by rfl)
     rw [V6] at f6
     have f7 := hV 7 (by simp) (fun _ _ => by rfl)
     rw [V7] at f7
     have f8 := hV 8 (by simp) (fun _ _ => by rfl)
     rw [V8] at f8
     have f9 := hV 9 (by simp) (fun _ _ => by rfl)
     rw [V9] at f9
     have f10 := hV 10 (by simp) (fun _ _ => by rfl)
     rw [V10] at f10
     have f11 := hV 11 (by simp) (fun _ _ => by rfl)
     rw [V11] at f11
     have f12 := hV 12 (by simp) (fun _ _ => by rfl)
     rw [V12] at f12
     have f13 := hV 13 (by simp) (fun _ _ => by rfl)
     rw [V13] at f13
     have f14 := hV 14 (by simp) (fun _ _ => by rfl)
     rw [V14] at f14
     have f15 := hV 15 (by simp) (fun _ _ => by rfl)
     rw [V15] at f15
     have f16 := hV 16 (by simp) (fun _ _ => by rfl)
     rw [V16] at f16
     clear hV V0 V1 V2 V3 V4 V5 V6 V7 V8 V9 V10 V11 V12 V13 V14 V15 V16
     simp only [putAll, Act.put, List.setIfInBounds_toArray, List.set_cons_zero, List.set_cons_succ]
     generalize val 0 = z0, val 1 = z1, val 2 = z2, val 3 = z3, val 4 = z4, val 5 = z5, val 6 = z6, val 7 = z7, val 8 = z8, val 9 = z9, val 10 = z10, val 11 = z11, val 12 = z12, val 13 = z13, val 14 = z14, val 15 = z15, val 16 = z16 at *
     subst f0 f1 f2 f3 f4 f5 f6 f7 f8 f9 f10 f11 f12 f13 f14 f15 f16
     clear HVD
     go_wp2_with fail
     go_roundw
     case rel => exact ⟨1, by omega, by go_num, HF.out rfl, HB1.out.trans (hG.mono HB1.out.size)⟩
     case measure => simp [intOf]; omega
    ·obtain ⟨j, rfl⟩ : ∃ j, k = j + 1 := ⟨k - 1, by omega⟩
     obtain ⟨p, hp⟩ : ∃ p, l[j]? = some p := ⟨_, List.getElem?_eq_getElem (by omega)⟩
     have hpp := HC1.out j p hp
     have HNX := hid (HN.out j p rfl hp)
     have clp := cl p
     have HPP := hid hpp; clear hpp
     have HAD : Hid (ad.block < W1.heap.size) := hid (by have := HB1.out.size; omega)
     have QJ : Hid ((0 : Int) ≤ j ∧ (j : Int) < l.length) := hid (by omega)
     have QW : Hid (IntKind.i64.wrap (j : Int) = j) := hid (IntWalk.i64_in _ (by omega))
     have QK : Hid ((0 : Int) < ((j + 1 : Nat) : Int)) := hid (by omega)
     cases hlt2 : lessM p ⟨me, mn, ms, mi, mq, mu, md⟩
     ·rw [hlt2] at clp HNX
      have HS : Hid (R = false) := hid (by rw [HR.out]; exact ordU_false HNX.out (by omega))
      clear hlt2
      have HV : ∃ V : Nat → (Nat → Value) → World → Prop, V = (fun ix u wv => match ix with
       | 0 => u 0 = .agg #[.bool me, .int .i64 mn, .int .i64 ms, .int .i64 mi, .int .i64 mq, .int .i64 mu, .string md]
       | 1 => u 1 = .bool true
       | 2 => u 2 = .bool false
       | 3 => u 3 = .bool false
       | 4 => u 4 = .int .i64 ((j + 1 : Nat) : Int)
       | 5 => u 5 = .bool true
       | 6 => u 6 = .bool true
       | 7 => u 7 = .slice (some ad) l.length c
       | 8 => u 8 = .int .i64 ((j + 1 : Nat) : Int)
       | 9 => u 9 = .int .i64 (j : Int)
       | 10 => u 10 = .pointer (some (ad.add (j * 7)))
       | 11 => u 11 = .agg #[.bool p.ext, .int .i64 p.n, .int .i64 p.sender, .int .i64 p.inc, .int .i64 p.seq, .int .i64 p.number, .string p.data]
       | 12 => u 12 = .agg #[.bool me, .int .i64 mn, .int .i64 ms, .int .i64 mi, .int .i64 mq, .int .i64 mu, .string md]
       | 13 => u 13 = .bool false
       | 14 => u 14 = .bool true
       | 15 => u 15 = .bool true
       | 16 => u 16 = .bool true
       | _ => True) := ⟨_, rfl⟩
      obtain ⟨V, hd7⟩ := HV
      have V0 : ∀ u wv, V 0 u wv = (u 0 = .agg #[.bool me, .int .i64 mn, .int .i64 ms, .int .i64 mi, .int .i64 mq, .int .i64 mu, .string md]) := fun u wv => by subst hd7; rfl
      have V1 : ∀ u wv, V 1 u wv = (u 1 = .bool true) := fun u wv => by subst hd7; rfl
      have V2 : ∀ u wv, V 2 u wv = (u 2 = .bool false) := fun u wv => by subst hd7; rfl
      have V3 : ∀ u wv, V 3 u wv = (u 3 = .bool false) := fun u wv => by subst hd7; rfl
      have V4 : ∀ u wv, V 4 u wv = (u 4 = .int .i64 ((j + 1 : Nat) : Int)) := fun u wv => by subst hd7; rfl
      have V5 : ∀ u wv, V 5 u wv = (u 5 = .bool true) := fun u wv => by subst hd7; rfl
      have V6 : ∀ u wv, V 6 u wv = (u 6 = .bool true) := fun u wv => by subst hd7; rfl
      have V7 : ∀ u wv, V 7 u wv = (u 7 = .slice (some ad) l.length c) := fun u wv => by subst hd7; rfl
      have V8 : ∀ u wv, V 8 u wv = (u 8 = .int .i64 ((j + 1 : Nat) : Int)) := fun u wv => by subst hd7; rfl
      have V9 : ∀ u wv, V 9 u wv = (u 9 = .int .i64 (j : Int)) := fun u wv => by subst hd7; rfl
      have V10 : ∀ u wv, V 10 u wv = (u 10 = .pointer (some (ad.add (j * 7)))) := fun u wv => by subst hd7; rfl
      have V11 : ∀ u wv, V 11 u wv = (u 11 = .agg #[.bool p.ext, .int .i64 p.n, .int .i64 p.sender, .int .i64 p.inc, .int .i64 p.seq, .int .i64 p.number, .string p.data]) := fun u wv => by subst hd7; rfl
      have V12 : ∀ u wv, V 12 u wv = (u 12 = .agg #[.bool me, .int .i64 mn, .int .i64 ms, .int .i64 mi, .int .i64 mq, .int .i64 mu, .string md]) := fun u wv => by subst hd7; rfl
      have V13 : ∀ u wv, V 13 u wv = (u 13 = .bool false) := fun u wv => by subst hd7; rfl
      have V14 : ∀ u wv, V 14 u wv = (u 14 = .bool true) := fun u wv => by subst hd7; rfl
      have V15 : ∀ u wv, V 15 u wv = (u 15 = .bool true) := fun u wv => by subst hd7; rfl
      have V16 : ∀ u wv, V 16 u wv = (u 16 = .bool true) := fun u wv => by subst hd7; rfl
      have HVD := hid hd7
      clear hd7
      refine region_each (V := V) (drop := fun _ _ => false) (G := fun wv => Below W1.heap.size W1 wv) (Rel := fun jx wv wv' => Below wv.heap.size wv wv') (by kernel_rfl) (by kernel_rfl) (Below.refl _ _).drew ?hmonoq3 ?hdepq3 ⟨?s0_q3, ?s1_q3, ?s2_q3, ?s3_q3, ?s4_q3, ?s5_q3, ?s6_q3, ?s7_q3, ?s8_q3, ?s9_q3, ?s10_q3, ?s11_q3, ?s12_q3, ?s13_q3, ?s14_q3, ?s15_q3, ?s16_q3, trivial⟩ ?behindq3
      case hmonoq3 =>
       intro ix jx u wv wv' hij hw hd hr
       rw [HVD.out]
       dsimp only
       split <;> intro h <;> first | exact trivial | exact h
      case hdepq3 =>
       intro ix u u' wv h1 h2
       rw [HVD.out]
       dsimp only
       split <;> intro h <;> first | exact trivial | (rw [← h1]; exact h)
      case s0_q3 =>
       refine owe rfl fun a wx val hG hV hN hO K hK => ?_
       have e4 : a.tmps[4]? = some (.pointer (some ⟨b, 0, none⟩)) := (hO 4 (by kernel_rfl)).trans (by rfl)
       clear hV hN hO
       obtain ⟨_, x0, x1, x2, x3, x4, x5, x6⟩ := Holds.of_blk (HM1.out.on hG)
       simp only at x0 x1 x2 x3 x4 x5 x6
       obtain ⟨y0, y1, y2, y3, y4, y5, y6⟩ := (HPP.out).keep (fun q hq => hG.cell (by rw [hq, adb]; exact HAD.out))
       go_simp
       exact hK.out _ _ (by rw [V0, upd_at] <;> (congr 1 <;> omega)) (Below.refl _ _) hG
      case s1_q3 =>
       refine owe rfl fun a wx val hG hV hN hO K hK => ?_
       have e12 := hN 0 12 (by kernel_rfl) (by kernel_rfl) (by simp)
       have f12 := hV 0 (by kernel_rfl) (by kernel_rfl)
       rw [V0] at f12; rw [f12] at e12; clear f12
       clear hV hN hO
       go_simp
       refine (cr _ (HL1.out.below hG)).mono ?_
       rintro e w11 ⟨rfl, hb⟩
       exact hK.out _ _ (by rw [V1, upd_at]) hb (hG.trans (hb.mono hG.size))
      case s2_q3 =>
       refine owe rfl fun a wx val hG hV hN hO K hK => ?_
       have e13 := hN 1 13 (by kernel_rfl) (by kernel_rfl) (by simp)
       have f13 := hV 1 (by kernel_rfl) (by kernel_rfl)
       rw [V1] at f13; rw [f13] at e13; clear f13
       clear hV hN hO
       go_simp
       exact hK.out _ _ (by rw [V2, upd_at] <;> (congr 1 <;> omega)) (Below.refl _ _) hG
      case s3_q3 =>
       refine owe rfl fun a wx val hG hV hN hO K hK => ?_
       have e14 := hN 2 14 (by kernel_rfl) (by kernel_rfl) (by simp)
       have f14 := hV 2 (by kernel_rfl) (by kernel_rfl)
       rw [V2] at f14; rw [f14] at e14; clear f14
       clear hV hN hO
       go_simp
       exact hK.out _ _ (by rw [V3, upd_at] <;> (congr 1 <;> omega)) (Below.refl _ _) hG
      case s4_q3 =>
       refine owe_if (g := 3) (t := 15) (b := false) rfl (by kernel_rfl) (by kernel_rfl) (by kernel_rfl) (by simp) (fun val w h => by rw [V3] at h; exact h) fun a wx val hG hV hN hO K hK => ?_
       have e3 : a.tmps[3]? = some (.int .i64 ((j + 1 : Nat) : Int)) := (hO 3 (by kernel_rfl)).trans (by rfl)
       clear hV hN hO
       go_simp
       exact hK.out _ _ (by rw [V4, upd_at] <;> (congr 1 <;> omega)) (Below.refl _ _) hG
      case s5_q3 =>
       refine owe_if (g := 3) (t := 15) (b := false) rfl (by kernel_rfl) (by kernel_rfl) (by kernel_rfl) (by simp) (fun val w h => by rw [V3] at h; exact h) fun a wx val hG hV hN hO K hK => ?_
       have e16 := hN 4 16 (by kernel_rfl) (by kernel_rfl) (by simp)
       have f16 := hV 4 (by kernel_rfl) (by kernel_rfl)
       rw [V4] at f16; rw [f16] at e16; clear f16
       clear hV hN hO
       have q1 := QK.out
       go_simp
       exact hK.out _ _ (by rw [V5, upd_at] <;> (congr 1 <;> omega)) (Below.refl _ _) hG
      case s6_q3 =>
       refine owe_if (g := 3) (t := 15) (b := false) rfl (by kernel_rfl) (by kernel_rfl) (by kernel_rfl) (by simp) (fun val w h => by rw [V3] at h; exact h) fun a wx val hG hV hN hO K hK => ?_
       have e17 := hN 5 17 (by kernel_rfl) (by kernel_rfl) (by simp)
       have f17 := hV 5 (by kernel_rfl) (by kernel_rfl)
       rw [V5] at f17; rw [f17] at e17; clear f17
       clear hV hN hO
       go_simp
       exact hK.out _ _ (by rw [V6, upd_at] <;> (congr 1 <;> omega)) (Below.refl _ _) hG
      case s7_q3 =>
       refine owe_if (g := 6) (t := 18) (b := true) rfl (by kernel_rfl) (by kernel_rfl) (by kernel_rfl) (by simp) (fun val w h => by rw [V6] at h; exact h) fun a wx val hG hV hN hO K hK => ?_
       have e0 : a.tmps[0]? = some (.slice (some ad) l.length c) := (hO 0 (by kernel_rfl)).trans (by rfl)
       clear hV hN hO
       go_simp
       exact hK.out _ _ (by rw [V7, upd_at] <;> (congr 1 <;> omega)) (Below.refl _ _) hG
      case s8_q3 =>
       refine owe_if (g := 6) (t := 18) (b := true) rfl (by kernel_rfl) (by kernel_rfl) (by kernel_rfl) (by simp) (fun val w h => by rw [V6] at h; exact h) fun a wx val hG hV hN hO K hK => ?_
       have e3 : a.tmps[3]? = some (.int .i64 ((j + 1 : Nat) : Int)) := (hO 3 (by kernel_rfl)).trans (by rfl)
       clear hV hN hO
       go_simp
       exact hK.out _ _ (by rw [V8, upd_at] <;> (congr 1 <;> omega)) (Below.refl _ _) hG
      case s9_q3 =>
       refine owe_if (g := 6) (t := 18) (b := true) rfl (by kernel_rfl) (by kernel_rfl) (by kernel_rfl) (by simp) (fun val w h => by rw [V6] at h; exact h) fun a wx val hG hV hN hO K hK => ?_
       have e20 := hN 8 20 (by kernel_rfl) (by kernel_rfl) (by simp)
       have f20 := hV 8 (by kernel_rfl) (by kernel_rfl)
       rw [V8] at f20; rw [f20] at e20; clear f20
       clear hV hN hO
       have q1 := QJ.out
       obtain ⟨q2, q3⟩ := id q1
       have q4 := QW.out
       go_simp
       exact hK.out _ _ (by rw [V9, upd_at] <;> (congr 1 <;> omega)) (Below.refl _ _) hG
      case s10_q3 =>
       refine owe_if (g := 6) (t := 18) (b := true) rfl (by kernel_rfl) (by kernel_rfl) (by kernel_rfl) (by simp) (fun val w h => by rw [V6] at h; exact h) fun a wx val hG hV hN hO K hK => ?_
       have e19 := hN 7 19 (by kernel_rfl) (by kernel_rfl) (by simp)
       have f19 := hV 7 (by kernel_rfl) (by kernel_rfl)
       rw [V7] at f19; rw [f19] at e19; clear f19
       have e21 := hN 9 21 (by kernel_rfl) (by kernel_rfl) (by simp)
       have f21 := hV 9 (by kernel_rfl) (by kernel_rfl)
       rw [V9] at f21; rw [f21] at e21; clear f21
       clear hV hN hO
       have q1 := QJ.out
       obtain ⟨q2, q3⟩ := id q1
       go_simp
       exact hK.out _ _ (by rw [V10, upd_at] <;> (congr 1 <;> omega)) (Below.refl _ _) hG
      case s11_q3 =>
       refine owe_if (g := 6) (t := 18) (b := true) rfl (by kernel_rfl) (by kernel_rfl) (by kernel_rfl) (by simp) (fun val w h => by rw [V6] at h; exact h) fun a wx val hG hV hN hO K hK => ?_
       have e22 := hN 10 22 (by kernel_rfl) (by kernel_rfl) (by simp)
       have f22 := hV 10 (by kernel_rfl) (by kernel_rfl)
       rw [V10] at f22; rw [f22] at e22; clear f22
       clear hV hN hO
       obtain ⟨_, x0, x1, x2, x3, x4, x5, x6⟩ := Holds.of_blk (HM1.out.on hG)
       simp only at x0 x1 x2 x3 x4 x5 x6
       obtain ⟨y0, y1, y2, y3, y4, y5, y6⟩ := (HPP.out).keep (fun q hq => hG.cell (by rw [hq, adb]; exact HAD.out))
       go_simp
       exact hK.out _ _ (by rw [V11, upd_at] <;> (congr 1 <;> omega)) (Below.refl _ _) hG
      case s12_q3 =>
       refine owe_if (g := 6) (t := 18) (b := true) rfl (by kernel_rfl) (by kernel_rfl) (by kernel_rfl) (by simp) (fun val w h => by rw [V6] at h; exact h) fun a wx val hG hV hN hO K hK => ?_
       have e4 : a.tmps[4]? = some (.pointer (some ⟨b, 0, none⟩)) := (hO 4 (by kernel_rfl)).trans (by rfl)
       clear hV hN hO
       obtain ⟨_, x0, x1, x2, x3, x4, x5, x6⟩ := Holds.of_blk (HM1.out.on hG)
       simp only at x0 x1 x2 x3 x4 x5 x6
       obtain ⟨y0, y1, y2, y3, y4, y5, y6⟩ := (HPP.out).keep (fun q hq => hG.cell (by rw [hq, adb]; exact HAD.out))
       go_simp
       exact hK.out _ _ (by rw [V12, upd_at] <;> (congr 1 <;> omega)) (Below.refl _ _) hG
      case s13_q3 =>
       refine owe_if (g := 6) (t := 18) (b := true) rfl (by kernel_rfl) (by kernel_rfl) (by kernel_rfl) (by simp) (fun val w h => by rw [V6] at h; exact h) fun a wx val hG hV hN hO K hK => ?_
       have e23 := hN 11 23 (by kernel_rfl) (by kernel_rfl) (by simp)
       have f23 := hV 11 (by kernel_rfl) (by kernel_rfl)
       rw [V11] at f23; rw [f23] at e23; clear f23
       have e24 := hN 12 24 (by kernel_rfl) (by kernel_rfl) (by simp)
       have f24 := hV 12 (by kernel_rfl) (by kernel_rfl)
       rw [V12] at f24; rw [f24] at e24; clear f24
       clear hV hN hO
       go_simp
       refine (clp _ (HL1.out.below hG)).mono ?_
       rintro e w11 ⟨rfl, hb⟩
       exact hK.out _ _ (by rw [V13, upd_at]) hb (hG.trans (hb.mono hG.size))
      case s14_q3 =>
       refine owe_if (g := 6) (t := 18) (b := true) rfl (by kernel_rfl) (by kernel_rfl) (by kernel_rfl) (by simp) (fun val w h => by rw [V6] at h; exact h) fun a wx val hG hV hN hO K hK => ?_
       have e25 := hN 13 25 (by kernel_rfl) (by kernel_rfl) (by simp)
       have f25 := hV 13 (by kernel_rfl) (by kernel_rfl)
       rw [V13] at f25; rw [f25] at e25; clear f25
       clear hV hN hO
       go_simp
       exact hK.out _ _ (by rw [V14, upd_at] <;> (congr 1 <;> omega)) (Below.refl _ _) hG
      case s15_q3 =>
       refine owe_if (g := 3) (t := 15) (b := false) rfl (by kernel_rfl) (by kernel_rfl) (by kernel_rfl) (by simp) (fun val w h => by rw [V3] at h; exact h) fun a wx val hG hV hN hO K hK => ?_
       have e18 := hN 6 18 (by kernel_rfl) (by kernel_rfl) (by simp)
       have f18 := hV 6 (by kernel_rfl) (by kernel_rfl)
       rw [V6] at f18; rw [f18] at e18; clear f18
       have e26 := hN 14 26 (by kernel_rfl) (by kernel_rfl) (by simp)
       have f26 := hV 14 (by kernel_rfl) (by kernel_rfl)
       rw [V14] at f26; rw [f26] at e26; clear f26
       clear hV hN hO
       go_simp
       exact hK.out _ _ (by rw [V15, upd_at] <;> (congr 1 <;> omega)) (Below.refl _ _) hG
      case s16_q3 =>
       refine owe rfl fun a wx val hG hV hN hO K hK => ?_
       have e15 := hN 3 15 (by kernel_rfl) (by kernel_rfl) (by simp)
       have f15 := hV 3 (by kernel_rfl) (by kernel_rfl)
       rw [V3] at f15; rw [f15] at e15; clear f15
       have e27 := hN 15 27 (by kernel_rfl) (by kernel_rfl) (by simp)
       have f27 := hV 15 (by kernel_rfl) (by kernel_rfl)
       rw [V15] at f27; rw [f27] at e27; clear f27
       clear hV hN hO
       go_simp
       exact hK.out _ _ (by rw [V16, upd_at] <;> (congr 1 <;> omega)) (Below.refl _ _) hG
      intro val wx hG hV
      have f0 := hV 0 (by simp) (fun _ _ => by rfl)
      rw [V0] at f0
      have f1 := hV 1 (by simp) (fun _ _ => by rfl)
      rw [V1] at f1
      have f2 := hV 2 (by simp) (fun _ _ => by rfl)
      rw [V2] at f2
      have f3 := hV 3 (by simp) (fun _ _ => by rfl)
      rw [V3] at f3
      have f4 := hV 4 (by simp) (fun _ _ => by rfl)
      rw [V4] at f4
      have f5 := hV 5 (by simp) (fun _ _ => by rfl)
      rw [V5] at f5
      have f6 := hV 6 (by simp) (fun _ _ => by rfl)
      rw [V6] at f6
      have f7 := hV 7 (by simp) (fun _ _ => by rfl)
      rw [V7] at f7
      have f8 := hV 8 (by simp) (fun _ _ => by rfl)
      rw [V8] at f8
      have f9 := hV 9 (by simp) (fun _ _ => by rfl)
      rw [V9] at f9
      have f10 := hV 10 (by simp) (fun _ _ => by rfl)
      rw [V10] at f10
      have f11 := hV 11 (by simp) (fun _ _ => by rfl)
      rw [V11] at f11
      have f12 := hV 12 (by simp) (fun _ _ => by rfl)
      rw [V12] at f12
      have f13 := hV 13 (by simp) (fun _ _ => by rfl)
      rw [V13] at f13
      have f14 := hV 14 (by simp) (fun _ _ => by rfl)
      rw [V14] at f14
      have f15 := hV 15 (by simp) (fun _ _ => by rfl)
      rw [V15] at f15
      have f16 := hV 16 (by simp) (fun _ _ => by rfl)
      rw [V16] at f16
      clear hV V0 V1 V2 V3 V4 V5 V6 V7 V8 V9 V10 V11 V12 V13 V14 V15 V16
      simp only [putAll, Act.put, List.setIfInBounds_toArray, List.set_cons_zero, List.set_cons_succ]
      generalize val 0 = z0, val 1 = z1, val 2 = z2, val 3 = z3, val 4 = z4, val 5 = z5, val 6 = z6, val 7 = z7, val 8 = z8, val 9 = z9, val 10 = z10, val 11 = z11, val 12 = z12, val 13 = z13, val 14 = z14, val 15 = z15, val 16 = z16 at *
      subst f0 f1 f2 f3 f4 f5 f6 f7 f8 f9 f10 f11 f12 f13 f14 f15 f16
      clear HVD
      go_wp2_with fail
      go_ret
      exact ⟨ret_b HS.out.symm, HB1.out.trans (hG.mono HB1.out.size)⟩
     ·rw [hlt2] at clp HNX
      clear hlt2
      have HV : ∃ V : Nat → (Nat → Value) → World → Prop, V = (fun ix u wv => match ix with
       | 0 => u 0 = .agg #[.bool me, .int .i64 mn, .int .i64 ms, .int .i64 mi, .int .i64 mq, .int .i64 mu, .string md]
       | 1 => u 1 = .bool true
       | 2 => u 2 = .bool false
       | 3 => u 3 = .bool false
       | 4 => u 4 = .int .i64 ((j + 1 : Nat) : Int)
       | 5 => u 5 = .bool true
       | 6 => u 6 = .bool true
       | 7 => u 7 = .slice (some ad) l.length c
       | 8 => u 8 = .int .i64 ((j + 1 : Nat) : Int)
       | 9 => u 9 = .int .i64 (j : Int)
       | 10 => u 10 = .pointer (some (ad.add (j * 7)))
       | 11 => u 11 = .agg #[.bool p.ext, .int .i64 p.n, .int .i64 p.sender, .int .i64 p.inc, .int .i64 p.seq, .int .i64 p.number, .string p.data]
       | 12 => u 12 = .agg #[.bool me, .int .i64 mn, .int .i64 ms, .int .i64 mi, .int .i64 mq, .int .i64 mu, .string md]
       | 13 => u 13 = .bool true
       | 14 => u 14 = .bool false
       | 15 => u 15 = .bool false
       | 16 => u 16 = .bool false
       | _ => True) := ⟨_, rfl⟩
      obtain ⟨V, hd7⟩ := HV
      have V0 : ∀ u wv, V 0 u wv = (u 0 = .agg #[.bool me, .int .i64 mn, .int .i64 ms, .int .i64 mi, .int .i64 mq, .int .i64 mu, .string md]) := fun u wv => by subst hd7; rfl
      have V1 : ∀ u wv, V 1 u wv = (u 1 = .bool true) := fun u wv => by subst hd7; rfl
      have V2 : ∀ u wv, V 2 u wv = (u 2 = .bool false) := fun u wv => by subst hd7; rfl
      have V3 : ∀ u wv, V 3 u wv = (u 3 = .bool false) := fun u wv => by subst hd7; rfl
      have V4 : ∀ u wv, V 4 u wv = (u 4 = .int .i64 ((j + 1 : Nat) : Int)) := fun u wv => by subst hd7; rfl
      have V5 : ∀ u wv, V 5 u wv = (u 5 = .bool true) := fun u wv => by subst hd7; rfl
      have V6 : ∀ u wv, V 6 u wv = (u 6 = .bool true) := fun u wv => by subst hd7; rfl
      have V7 : ∀ u wv, V 7 u wv = (u 7 = .slice (some ad) l.length c) := fun u wv => by subst hd7; rfl
      have V8 : ∀ u wv, V 8 u wv = (u 8 = .int .i64 ((j + 1 : Nat) : Int)) := fun u wv => by subst hd7; rfl
      have V9 : ∀ u wv, V 9 u wv = (u 9 = .int .i64 (j : Int)) := fun u wv => by subst hd7; rfl
      have V10 : ∀ u wv, V 10 u wv = (u 10 = .pointer (some (ad.add (j * 7)))) := fun u wv => by subst hd7; rfl
      have V11 : ∀ u wv, V 11 u wv = (u 11 = .agg #[.bool p.ext, .int .i64 p.n, .int .i64 p.sender, .int .i64 p.inc, .int .i64 p.seq, .int .i64 p.number, .string p.data]) := fun u wv => by subst hd7; rfl
      have V12 : ∀ u wv, V 12 u wv = (u 12 = .agg #[.bool me, .int .i64 mn, .int .i64 ms, .int .i64 mi, .int .i64 mq, .int .i64 mu, .string md]) := fun u wv => by subst hd7; rfl
      have V13 : ∀ u wv, V 13 u wv = (u 13 = .bool true) := fun u wv => by subst hd7; rfl
      have V14 : ∀ u wv, V 14 u wv = (u 14 = .bool false) := fun u wv => by subst hd7; rfl
      have V15 : ∀ u wv, V 15 u wv = (u 15 = .bool false) := fun u wv => by subst hd7; rfl
      have V16 : ∀ u wv, V 16 u wv = (u 16 = .bool false) := fun u wv => by subst hd7; rfl
      have HVD := hid hd7
      clear hd7
      refine region_each (V := V) (drop := fun _ _ => false) (G := fun wv => Below W1.heap.size W1 wv) (Rel := fun jx wv wv' => Below wv.heap.size wv wv') (by kernel_rfl) (by kernel_rfl) (Below.refl _ _).drew ?hmonoq4 ?hdepq4 ⟨?s0_q4, ?s1_q4, ?s2_q4, ?s3_q4, ?s4_q4, ?s5_q4, ?s6_q4, ?s7_q4, ?s8_q4, ?s9_q4, ?s10_q4, ?s11_q4, ?s12_q4, ?s13_q4, ?s14_q4, ?s15_q4, ?s16_q4, trivial⟩ ?behindq4
      case hmonoq4 =>
       intro ix jx u wv wv' hij hw hd hr
       rw [HVD.out]
       dsimp only
       split <;> intro h <;> first | exact trivial | exact h
      case hdepq4 =>
       intro ix u u' wv h1 h2
       rw [HVD.out]
       dsimp only
       split <;> intro h <;> first | exact trivial | (rw [← h1]; exact h)
      case s0_q4 =>
       refine owe rfl fun a wx val hG hV hN hO K hK => ?_
       have e4 : a.tmps[4]? = some (.pointer (some ⟨b, 0, none⟩)) := (hO 4 (by kernel_rfl)).trans (by rfl)
       clear hV hN hO
       obtain ⟨_, x0, x1, x2, x3, x4, x5, x6⟩ := Holds.of_blk (HM1.out.on hG)
       simp only at x0 x1 x2 x3 x4 x5 x6
       obtain ⟨y0, y1, y2, y3, y4, y5, y6⟩ := (HPP.out).keep (fun q hq => hG.cell (by rw [hq, adb]; exact HAD.out))
       go_simp
       exact hK.out _ _ (by rw [V0, upd_at] <;> (congr 1 <;> omega)) (Below.refl _ _) hG
      case s1_q4 =>
       refine owe rfl fun a wx val hG hV hN hO K hK => ?_
       have e12 := hN 0 12 (by kernel_rfl) (by kernel_rfl) (by simp)
       have f12 := hV 0 (by kernel_rfl) (by kernel_rfl)
       rw [V0] at f12; rw [f12] at e12; clear f12
       clear hV hN hO
       go_simp
       refine (cr _ (HL1.out.below hG)).mono ?_
       rintro e w11 ⟨rfl, hb⟩
       exact hK.out _ _ (by rw [V1, upd_at]) hb (hG.trans (hb.mono hG.size))
      case s2_q4 =>
       refine owe rfl fun a wx val hG hV hN hO K hK => ?_
       have e13 := hN 1 13 (by kernel_rfl) (by kernel_rfl) (by simp)
       have f13 := hV 1 (by kernel_rfl) (by kernel_rfl)
       rw [V1] at f13; rw [f13] at e13; clear f13
       clear hV hN hO
       go_simp
       exact hK.out _ _ (by rw [V2, upd_at] <;> (congr 1 <;> omega)) (Below.refl _ _) hG
      case s3_q4 =>
       refine owe rfl fun a wx val hG hV hN hO K hK => ?_
       have e14 := hN 2 14 (by kernel_rfl) (by kernel_rfl) (by simp)
       have f14 := hV 2 (by kernel_rfl) (by kernel_rfl)
       rw [V2] at f14; rw [f14] at e14; clear f14
       clear hV hN hO
       go_simp
       exact hK.out _ _ (by rw [V3, upd_at] <;> (congr 1 <;> omega)) (Below.refl _ _) hG
      case s4_q4 =>
       refine owe_if (g := 3) (t := 15) (b := false) rfl (by kernel_rfl) (by kernel_rfl) (by kernel_rfl) (by simp) (fun val w h => by rw [V3] at h; exact h) fun a wx val hG hV hN hO K hK => ?_
       have e3 : a.tmps[3]? = some (.int .i64 ((j + 1 : Nat) : Int)) := (hO 3 (by kernel_rfl)).trans (by rfl)
       clear hV hN hO
       go_simp
       exact hK.out _ _ (by rw [V4, upd_at] <;> (congr 1 <;> omega)) (Below.refl _ _) hG
      case s5_q4 =>
       refine owe_if (g := 3) (t := 15) (b := false) rfl (by kernel_rfl) (by kernel_rfl) (by kernel_rfl) (by simp) (fun val w h => by rw [V3] at h; exact h) fun a wx val hG hV hN hO K hK => ?_
       have e16 := hN 4 16 (by kernel_rfl) (by kernel_rfl) (by simp)
       have f16 := hV 4 (by kernel_rfl) (by kernel_rfl)
       rw [V4] at f16; rw [f16] at e16; clear f16
       clear hV hN hO
       have q1 := QK.out
       go_simp
       exact hK.out _ _ (by rw [V5, upd_at] <;> (congr 1 <;> omega)) (Below.refl _ _) hG
      case s6_q4 =>
       refine owe_if (g := 3) (t := 15) (b := false) rfl (by kernel_rfl) (by kernel_rfl) (by kernel_rfl) (by simp) (fun val w h => by rw [V3] at h; exact h) fun a wx val hG hV hN hO K hK => ?_
       have e17 := hN 5 17 (by kernel_rfl) (by kernel_rfl) (by simp)
       have f17 := hV 5 (by kernel_rfl) (by kernel_rfl)
       rw [V5] at f17; rw [f17] at e17; clear f17
       clear hV hN hO
       go_simp
       exact hK.out _ _ (by rw [V6, upd_at] <;> (congr 1 <;> omega)) (Below.refl _ _) hG
      case s7_q4 =>
       refine owe_if (g := 6) (t := 18) (b := true) rfl (by kernel_rfl) (by kernel_rfl) (by kernel_rfl) (by simp) (fun val w h => by rw [V6] at h; exact h) fun a wx val hG hV hN hO K hK => ?_
       have e0 : a.tmps[0]? = some (.slice (some ad) l.length c) := (hO 0 (by kernel_rfl)).trans (by rfl)
       clear hV hN hO
       go_simp
       exact hK.out _ _ (by rw [V7, upd_at] <;> (congr 1 <;> omega)) (Below.refl _ _) hG
      case s8_q4 =>
       refine owe_if (g := 6) (t := 18) (b := true) rfl (by kernel_rfl) (by kernel_rfl) (by kernel_rfl) (by simp) (fun val w h => by rw [V6] at h; exact h) fun a wx val hG hV hN hO K hK => ?_
       have e3 : a.tmps[3]? = some (.int .i64 ((j + 1 : Nat) : Int)) := (hO 3 (by kernel_rfl)).trans (by rfl)
       clear hV hN hO
       go_simp
       exact hK.out _ _ (by rw [V8, upd_at] <;> (congr 1 <;> omega)) (Below.refl _ _) hG
      case s9_q4 =>
       refine owe_if (g := 6) (t := 18) (b := true) rfl (by kernel_rfl) (by kernel_rfl) (by kernel_rfl) (by simp) (fun val w h => by rw [V6] at h; exact h) fun a wx val hG hV hN hO K hK => ?_
       have e20 := hN 8 20 (by kernel_rfl) (by kernel_rfl) (by simp)
       have f20 := hV 8 (by kernel_rfl) (by kernel_rfl)
       rw [V8] at f20; rw [f20] at e20; clear f20
       clear hV hN hO
       have q1 := QJ.out
       obtain ⟨q2, q3⟩ := id q1
       have q4 := QW.out
       go_simp
       exact hK.out _ _ (by rw [V9, upd_at] <;> (congr 1 <;> omega)) (Below.refl _ _) hG
      case s10_q4 =>
       refine owe_if (g := 6) (t := 18) (b := true) rfl (by kernel_rfl) (by kernel_rfl) (by kernel_rfl) (by simp) (fun val w h => by rw [V6] at h; exact h) fun a wx val hG hV hN hO K hK => ?_
       have e19 := hN 7 19 (by kernel_rfl) (by kernel_rfl) (by simp)
       have f19 := hV 7 (by kernel_rfl) (by kernel_rfl)
       rw [V7] at f19; rw [f19] at e19; clear f19
       have e21 := hN 9 21 (by kernel_rfl) (by kernel_rfl) (by simp)
       have f21 := hV 9 (by kernel_rfl) (by kernel_rfl)
       rw [V9] at f21; rw [f21] at e21; clear f21
       clear hV hN hO
       have q1 := QJ.out
       obtain ⟨q2, q3⟩ := id q1
       go_simp
       exact hK.out _ _ (by rw [V10, upd_at] <;> (congr 1 <;> omega)) (Below.refl _ _) hG
      case s11_q4 =>
       refine owe_if (g := 6) (t := 18) (b := true) rfl (by kernel_rfl) (by kernel_rfl) (by kernel_rfl) (by simp) (fun val w h => by rw [V6] at h; exact h) fun a wx val hG hV hN hO K hK => ?_
       have e22 := hN 10 22 (by kernel_rfl) (by kernel_rfl) (by simp)
       have f22 := hV 10 (by kernel_rfl) (by kernel_rfl)
       rw [V10] at f22; rw [f22] at e22; clear f22
       clear hV hN hO
       obtain ⟨_, x0, x1, x2, x3, x4, x5, x6⟩ := Holds.of_blk (HM1.out.on hG)
       simp only at x0 x1 x2 x3 x4 x5 x6
       obtain ⟨y0, y1, y2, y3, y4, y5, y6⟩ := (HPP.out).keep (fun q hq => hG.cell (by rw [hq, adb]; exact HAD.out))
       go_simp
       exact hK.out _ _ (by rw [V11, upd_at] <;> (congr 1 <;> omega)) (Below.refl _ _) hG
      case s12_q4 =>
       refine owe_if (g := 6) (t := 18) (b := true) rfl (by kernel_rfl) (by kernel_rfl) (by kernel_rfl) (by simp) (fun val w h => by rw [V6] at h; exact h) fun a wx val hG hV hN hO K hK => ?_
       have e4 : a.tmps[4]? = some (.pointer (some ⟨b, 0, none⟩)) := (hO 4 (by kernel_rfl)).trans (by rfl)
       clear hV hN hO
       obtain ⟨_, x0, x1, x2, x3, x4, x5, x6⟩ := Holds.of_blk (HM1.out.on hG)
       simp only at x0 x1 x2 x3 x4 x5 x6
       obtain ⟨y0, y1, y2, y3, y4, y5, y6⟩ := (HPP.out).keep (fun q hq => hG.cell (by rw [hq, adb]; exact HAD.out))
       go_simp
       exact hK.out _ _ (by rw [V12, upd_at] <;> (congr 1 <;> omega)) (Below.refl _ _) hG
      case s13_q4 =>
       refine owe_if (g := 6) (t := 18) (b := true) rfl (by kernel_rfl) (by kernel_rfl) (by kernel_rfl) (by simp) (fun val w h => by rw [V6] at h; exact h) fun a wx val hG hV hN hO K hK => ?_
       have e23 := hN 11 23 (by kernel_rfl) (by kernel_rfl) (by simp)
       have f23 := hV 11 (by kernel_rfl) (by kernel_rfl)
       rw [V11] at f23; rw [f23] at e23; clear f23
       have e24 := hN 12 24 (by kernel_rfl) (by kernel_rfl) (by simp)
       have f24 := hV 12 (by kernel_rfl) (by kernel_rfl)
       rw [V12] at f24; rw [f24] at e24; clear f24
       clear hV hN hO
       go_simp
       refine (clp _ (HL1.out.below hG)).mono ?_
       rintro e w11 ⟨rfl, hb⟩
       exact hK.out _ _ (by rw [V13, upd_at]) hb (hG.trans (hb.mono hG.size))
      case s14_q4 =>
       refine owe_if (g := 6) (t := 18) (b := true) rfl (by kernel_rfl) (by kernel_rfl) (by kernel_rfl) (by simp) (fun val w h => by rw [V6] at h; exact h) fun a wx val hG hV hN hO K hK => ?_
       have e25 := hN 13 25 (by kernel_rfl) (by kernel_rfl) (by simp)
       have f25 := hV 13 (by kernel_rfl) (by kernel_rfl)
       rw [V13] at f25; rw [f25] at e25; clear f25
       clear hV hN hO
       go_simp
       exact hK.out _ _ (by rw [V14, upd_at] <;> (congr 1 <;> omega)) (Below.refl _ _) hG
      case s15_q4 =>
       refine owe_if (g := 3) (t := 15) (b := false) rfl (by kernel_rfl) (by kernel_rfl) (by kernel_rfl) (by simp) (fun val w h => by rw [V3] at h; exact h) fun a wx val hG hV hN hO K hK => ?_
       have e18 := hN 6 18 (by kernel_rfl) (by kernel_rfl) (by simp)
       have f18 := hV 6 (by kernel_rfl) (by kernel_rfl)
       rw [V6] at f18; rw [f18] at e18; clear f18
       have e26 := hN 14 26 (by kernel_rfl) (by kernel_rfl) (by simp)
       have f26 := hV 14 (by kernel_rfl) (by kernel_rfl)
       rw [V14] at f26; rw [f26] at e26; clear f26
       clear hV hN hO
       go_simp
       exact hK.out _ _ (by rw [V15, upd_at] <;> (congr 1 <;> omega)) (Below.refl _ _) hG
      case s16_q4 =>
       refine owe rfl fun a wx val hG hV hN hO K hK => ?_
       have e15 := hN 3 15 (by kernel_rfl) (by kernel_rfl) (by simp)
       have f15 := hV 3 (by kernel_rfl) (by kernel_rfl)
       rw [V3] at f15; rw [f15] at e15; clear f15
       have e27 := hN 15 27 (by kernel_rfl) (by kernel_rfl) (by simp)
       have f27 := hV 15 (by kernel_rfl) (by kernel_rfl)
       rw [V15] at f27; rw [f27] at e27; clear f27
       clear hV hN hO
       go_simp
       exact hK.out _ _ (by rw [V16, upd_at] <;> (congr 1 <;> omega)) (Below.refl _ _) hG
      intro val wx hG hV
      have f0 := hV 0 (by simp) (fun _ _ => by rfl)
      rw [V0] at f0
      have f1 := hV 1 (by simp) (fun _ _ => by rfl)
      rw [V1] at f1
      have f2 := hV 2 (by simp) (fun _ _ => by rfl)
      rw [V2] at f2
      have f3 := hV 3 (by simp) (fun _ _ => by rfl)
      rw [V3] at f3
      have f4 := hV 4 (by simp) (fun _ _ => by rfl)
      rw [V4] at f4
      have f5 := hV 5 (by simp) (fun _ _ => by rfl)
      rw [V5] at f5
      have f6 := hV 6 (by simp) (fun _ _ => by rfl)
      rw [V6] at f6
      have f7 := hV 7 (by simp) (fun _ _ => by rfl)
      rw [V7] at f7
      have f8 := hV 8 (by simp) (fun _ _ => by rfl)
      rw [V8] at f8
      have f9 := hV 9 (by simp) (fun _ _ => by rfl)
      rw [V9] at f9
      have f10 := hV 10 (by simp) (fun _ _ => by rfl)
      rw [V10] at f10
      have f11 := hV 11 (by simp) (fun _ _ => by rfl)
      rw [V11] at f11
      have f12 := hV 12 (by simp) (fun _ _ => by rfl)
      rw [V12] at f12
      have f13 := hV 13 (by simp) (fun _ _ => by rfl)
      rw [V13] at f13
      have f14 := hV 14 (by simp) (fun _ _ => by rfl)
      rw [V14] at f14
      have f15 := hV 15 (by simp) (fun _ _ => by rfl)
      rw [V15] at f15
      have f16 := hV 16 (by simp) (fun _ _ => by rfl)
      rw [V16] at f16
      clear hV V0 V1 V2 V3 V4 V5 V6 V7 V8 V9 V10 V11 V12 V13 V14 V15 V16
      simp only [putAll, Act.put, List.setIfInBounds_toArray, List.set_cons_zero, List.set_cons_succ]
      generalize val 0 = z0, val 1 = z1, val 2 = z2, val 3 = z3, val 4 = z4, val 5 = z5, val 6 = z6, val 7 = z7, val 8 = z8, val 9 = z9, val 10 = z10, val 11 = z11, val 12 = z12, val 13 = z13, val 14 = z14, val 15 = z15, val 16 = z16 at *
      subst f0 f1 f2 f3 f4 f5 f6 f7 f8 f9 f10 f11 f12 f13 f14 f15 f16
      clear HVD
      go_wp2_with fail
      go_roundw
      case rel => exact ⟨j + 2, by omega, by go_num, HNX.out, HB1.out.trans (hG.mono HB1.out.size)⟩
      case measure => simp [intOf]; omega
  ·have ek : k = l.length := by omega
   subst ek
   go_wp2_with fail
   go_ret
   exact ⟨ret_b (by rw [HR.out, ho]), HB.out⟩
end Go.Proofs.YtlhopgadhkjflaaGreatDoor
namespace Go.Proofs.YtlhopgadhkjflaaGreatDoor
open Lib (hid)
open Go.RowKit
theorem memU_stays (mem : Int) (incs : List Int) (l : List Msg) {k : Nat} (h : memU mem incs l k = false) : ∀ j, memU mem incs l (k + j) = false
 | 0 => h
 | j + 1 => by
  show (memU mem incs l (k + j) && _) = false
  rw [memU_stays mem incs l h j]; rfl
theorem memU_false {mem : Int} {incs : List Int} {l : List Msg} {k n : Nat} (h : memU mem incs l k = false) (hk : k ≤ n) : memU mem incs l n = false := by
 have := memU_stays mem incs l h (n - k)
 rwa [show k + (n - k) = n by omega] at this
theorem memU_next {mem : Int} {incs : List Int} {l : List Msg} {k : Nat} {m : Msg} (hm : l[k]? = some m) (h : memU mem incs l k = true) : memU mem incs l (k + 1) = (isE mem incs m.sender && (decide (m.inc = incE mem incs m.sender) && !((l.take k).any fun x => decide (x.sender = m.sender)))) := by
 show (memU mem incs l k && (isE mem incs (l.getD k zeroM).sender && (decide ((l.getD k zeroM).inc = incE mem incs (l.getD k zeroM).sender) && !((l.take k).any fun x => decide (x.sender = (l.getD k zeroM).sender))))) = _
 rw [h, getD_at hm]; simp
theorem memU_range {mem : Int} {incs : List Int} {l : List Msg} {k : Nat} (hk : k ≤ l.length) (h : memU mem incs l k = true) : ∀ x ∈ l.take k, 0 ≤ x.sender ∧ x.sender ≤ 15 := fun x hx => by
 obtain ⟨i, hi, rfl⟩ := List.getElem_of_mem hx
 rw [List.length_take] at hi
 have h1 := ((memU_iff mem incs l k).1 h i (by omega)).1
 rw [getD_at (List.getElem?_eq_getElem (by omega))] at h1
 rw [List.getElem_take]
 exact hasB_range (isE_has h1).1
theorem met_has {mem : Int} {incs : List Int} {l : List Msg} {k : Nat} (hk : k ≤ l.length) (h : memU mem incs l k = true) {s : Int} (hs : 0 ≤ s ∧ s ≤ 15) : V.hasB (V.ofI ((l.take k).map (·.sender))) s = (l.take k).any fun x => decide (x.sender = s) := by
 have hr := memU_range hk h
 unfold V.hasB
 rw [(V.nodeB_iff s).2 hs, Bool.true_and, V.md_of_list _ _ (by omega), List.any_map, Bool.eq_iff_iff, List.any_eq_true, List.any_eq_true]
 constructor
 ·rintro ⟨x, hx, h2⟩
  refine ⟨x, hx, ?_⟩
  have := hr x hx
  simp only [Function.comp, Bool.and_eq_true, decide_eq_true_iff] at h2
  rw [decide_eq_true_iff]; omega
 ·rintro ⟨x, hx, h2⟩
  refine ⟨x, hx, ?_⟩
  have := hr x hx
  rw [decide_eq_true_iff] at h2
  simp only [Function.comp, Bool.and_eq_true, decide_eq_true_iff]
  exact ⟨(V.nodeB_iff _).2 this, by rw [h2]⟩
theorem met_take {l : List Msg} {k : Nat} {m : Msg} (hm : l[k]? = some m) : V.ofI ((l.take (k + 1)).map (·.sender)) = V.withI (V.ofI ((l.take k).map (·.sender))) m.sender := by
 rw [List.take_add_one, hm]
 show V.ofI ((l.take k ++ [m]).map _) = _
 rw [List.map_append]
 exact V.ofI_snoc _ _
theorem ofMembers_any (t ep mem : Int) (A : Option Addr) (c : Nat) (incs : List Int) (A' : Option Addr) (c' : Nat) (l : List Msg) (w : World) (h : V.Row w w.heap.size A incs) (hM : Msgs w w.heap.size A' l) (hil : incs.length ≤ maxLen) (hl : l.length ≤ maxLen) :
  Calls Tryz.prog 95 #[ev t ep mem (.slice A incs.length c) (.slice A' l.length c')] w fun e w' => e = .returned (.bool (memU mem incs l l.length)) ∧ Below w.heap.size w w' := by
 unfold maxLen at hl
 obtain ⟨R, hR⟩ : ∃ R, R = memU mem incs l l.length := ⟨_, rfl⟩
 rw [← hR]
 have HR := hid hR; clear hR
 have b1 := Joins.below_alloc1 w (.cells #[.int .i64 t, .int .i64 ep, .int .i64 mem, .slice A incs.length c, .slice A' l.length c'] 37)
 have e1 := EntAt.new w t ep mem (.slice A incs.length c) (.slice A' l.length c')
 have r1 := h.below b1 (Nat.le_refl _)
 have m1 := hM.below b1 (Nat.le_refl _)
 have HI := fun W X n => incP_any t ep mem n A c incs X W
 have HOF := fun W => V.of_any none 0 0 [] W (V.Row.nil _ _ _) (Nat.zero_le _)
 have hOF : V.ofI [] = 0 := rfl
 rw [hOF] at HOF
 simp only [List.length_nil] at HOF
 have HIL := hid hil; clear hil
 generalize hW : w.alloc (.cells #[.int .i64 t, .int .i64 ep, .int .i64 mem, .slice A incs.length c, .slice A' l.length c'] 37) = W at *
 obtain ⟨y0, y1, y2, y3, y4⟩ := e1.cells
 have HE := hid e1; clear e1
 have HB := hid b1; clear b1
 have HRW := hid r1; clear r1 h
 have HMW := hid m1; clear m1 hM
 have HI := hid HI
 go_enter Tryz.func95, Tryz.ntmps95
 go_wp2_with fail; refine (HOF _).mono ?_; rintro e w1 ⟨rfl, rfl⟩; clear hW hOF
 go_wp2_with fail
 go_loopw [3, 5, 6, 7, 12] (fun mt _ _ _ ix wr => ∃ k : Nat, k ≤ l.length ∧ ix = .int .i64 k ∧ mt = .int .i64 (V.ofI ((l.take k).map (·.sender))) ∧ memU mem incs l k = true ∧ Below W.heap.size W wr) (fun _ _ _ _ ix _ => l.length - (intOf ix).toNat)
 case atStart => exact ⟨0, by omega, rfl, rfl, rfl, Below.refl _ _⟩
 case round =>
  obtain ⟨k, hk, rfl, rfl, ho, hb⟩ := hrel
  have HBR := hid hb; clear hb y0 y1 y2 y3 y4
  by_cases hlt : k < l.length
  ·obtain ⟨m, hm⟩ : ∃ m, l[k]? = some m := ⟨_, List.getElem?_eq_getElem hlt⟩
   obtain ⟨ad, rfl, had, hcc⟩ := HMW.out.below HBR.out (by have := HB.out.size; omega) (by omega)
   have hck := hcc k m hm
   have HNX := hid (memU_next hm ho)
   have HMT := hid (met_take hm)
   have HHS := hid (fun hs => met_has (s := m.sender) (by omega) ho hs)
   have hbn := Joins.below_alloc1 wr (.cells (mc m) 109)
   have hM1 : MsgAt (wr.alloc (.cells (mc m) 109)) wr.heap.size m := heap_alloc_new wr _
   have hB1 := HBR.out.trans (hbn.mono HBR.out.size)
   have HE1 := hid (HE.out.on hB1)
   have HR1 := hid ((HRW.out.below hB1 (by have := HB.out.size; omega)).more (Nat.le_trans HB.out.size hB1.size))
   have HB1 := hid hB1; clear hB1 hbn
   have HM1 := hid hM1; clear hM1 hcc hm
   have HO := hid ho; clear ho
   obtain ⟨me, mn, ms, mi, mq, mu, md⟩ := m
   simp only [mc] at *
   obtain ⟨a0, a1, a2, a3, a4, a5, a6⟩ := hck
   simp only at a0 a1 a2 a3 a4 a5 a6
   go_upto_region 5 with (fail)
   generalize wr.alloc (.cells #[.bool me, .int .i64 mn, .int .i64 ms, .int .i64 mi, .int .i64 mq, .int .i64 mu, .string md] 109) = W1 at *
   generalize wr.heap.size = b at *
   obtain ⟨_, x0, x1, x2, x3, x4, x5, x6⟩ := Holds.of_blk HM1.out
   simp only at x0 x1 x2 x3 x4 x5 x6
   obtain ⟨y0, y1, y2, y3, y4⟩ := HE1.out.cells
   clear a0 a1 a2 a3 a4 a5 a6
   have hI := fun X => HI.out W1 X ms HR1.out HIL.out
   cases hie : isE mem incs ms
   ·have HS : Hid (R = false) := hid (by rw [HR.out]; exact memU_false (by rw [HNX.out, hie]; rfl) (show k + 1 ≤ l.length by omega))
    rw [hie] at hI
    clear hie
    go_wp2_with fail; refine (hI _).mono ?_; rintro e w2 ⟨rfl, b2⟩
    have HB2 := hid (HB.out.trans ((HB1.out.trans (b2.mono HB1.out.size)).mono HB.out.size))
    clear x0 x1 x2 x3 x4 x5 x6 y0 y1 y2 y3 y4
    obtain ⟨_, x0, x1, x2, x3, x4, x5, x6⟩ := Holds.of_blk (HM1.out.on b2)
    simp only at x0 x1 x2 x3 x4 x5 x6
    go_wp2_with fail
    go_ret
    exact ⟨ret_b HS.out.symm, HB2.out⟩
   ·rw [hie] at hI
    have hs := hasB_range (isE_has hie).1
    have hh := HHS.out hs
    by_cases hin : mi = incE mem incs ms
    ·have hq : ((mi : Int) != incE mem incs ms) = false := by simpa using hin
     have ch := fun w => V.has_any (V.ofI ((l.take k).map (·.sender))) ms w
     have cw := fun w => V.with_any (V.ofI ((l.take k).map (·.sender))) ms w
     cases ha : (l.take k).any (fun x => decide (x.sender = ms))
     ·have HN2 : Hid (memU mem incs l (k + 1) = true) := hid (by rw [HNX.out, hie, ha]; simp [hin])
      rw [ha] at hh
      rw [hh] at ch
      rw [← HMT.out] at cw
      clear hie ha hh hin hs
      generalize incE mem incs ms = X at *
      generalize hT2 : V.ofI ((l.take (k + 1)).map (·.sender)) = T2 at *
      have HT2 := hid hT2; clear hT2
      generalize V.ofI ((l.take k).map (·.sender)) = T1 at *
      go_wp2_with fail; refine (hI _).mono ?_; rintro e w2 ⟨rfl, b2⟩
      have HB2 := hid (HB1.out.trans (b2.mono HB1.out.size))
      clear x0 x1 x2 x3 x4 x5 x6 y0 y1 y2 y3 y4
      obtain ⟨_, x0, x1, x2, x3, x4, x5, x6⟩ := Holds.of_blk (HM1.out.on b2)
      simp only at x0 x1 x2 x3 x4 x5 x6
      go_wp2_with fail; refine (ch _).mono ?_; rintro e w3 ⟨rfl, rfl⟩
      go_wp2_with fail; refine (cw _).mono ?_; rintro e w3 ⟨rfl, rfl⟩
      go_wp2_with fail
      go_roundw
      case rel => exact ⟨k + 1, by omega, by go_num, by rw [HT2.out], HN2.out, HB2.out⟩
      case measure => simp [intOf]; omega
     ·have HS : Hid (R = false) := hid (by rw [HR.out]; exact memU_false (by rw [HNX.out, ha]; simp) (show k + 1 ≤ l.length by omega))
      rw [ha] at hh
      rw [hh] at ch
      clear hie ha hh hin hs cw
      generalize incE mem incs ms = X at *
      generalize V.ofI ((l.take k).map (·.sender)) = T1 at *
      go_wp2_with fail; refine (hI _).mono ?_; rintro e w2 ⟨rfl, b2⟩
      have HB2 := hid (HB.out.trans ((HB1.out.trans (b2.mono HB1.out.size)).mono HB.out.size))
      clear x0 x1 x2 x3 x4 x5 x6 y0 y1 y2 y3 y4
      obtain ⟨_, x0, x1, x2, x3, x4, x5, x6⟩ := Holds.of_blk (HM1.out.on b2)
      simp only at x0 x1 x2 x3 x4 x5 x6
      go_wp2_with fail; refine (ch _).mono ?_; rintro e w3 ⟨rfl, rfl⟩
      go_wp2_with fail
      go_ret
      exact ⟨ret_b HS.out.symm, HB2.out⟩
    ·have hq : ((mi : Int) != incE mem incs ms) = true := by simpa using hin
     have HS : Hid (R = false) := hid (by rw [HR.out]; exact memU_false (by rw [HNX.out]; simp [hin]) (show k + 1 ≤ l.length by omega))
     clear hie hh hin hs
     generalize incE mem incs ms = X at *
     go_wp2_with fail; refine (hI _).mono ?_; rintro e w2 ⟨rfl, b2⟩
     have HB2 := hid (HB.out.trans ((HB1.out.trans (b2.mono HB1.out.size)).mono HB.out.size))
     clear x0 x1 x2 x3 x4 x5 x6 y0 y1 y2 y3 y4
     obtain ⟨_, x0, x1, x2, x3, x4, x5, x6⟩ := Holds.of_blk (HM1.out.on b2)
     simp only at x0 x1 x2 x3 x4 x5 x6
     go_wp2_with fail
     go_ret
     exact ⟨ret_b HS.out.symm, HB2.out⟩
  ·have ek : k = l.length := by omega
   subst ek
   go_wp2_with fail
   go_ret
   exact ⟨ret_b (by rw [HR.out, ho]), HB.out.trans (HBR.out.mono HB.out.size)⟩
theorem row_two {w : World} {g : Nat} {a b : Int} (h : w.heap[g]? = some (.cells #[.int .i64 a, .int .i64 b] 3 (0, 0))) : V.Row w (g + 1) (some ⟨g, 0, none⟩) [a, b] := fun _ => by
 refine ⟨_, rfl, by show g < g + 1; omega, fun j x hx => ?_⟩
 have hj : j < 2 := (List.getElem?_eq_some_iff.1 hx).1
 rcases (show j = 0 ∨ j = 1 by omega) with rfl | rfl
 ·have e : a = x := by simpa using hx
  subst e; exact (cell_of h 0).trans rfl
 ·have e : b = x := by simpa using hx
  subst e; exact (cell_of h 1).trans rfl
theorem rightE_chain (e : Ent) : ((((((([e.t, e.ep].all smallB) && decide (0 ≤ e.mem)) && decide (e.mem ≤ 65535)) && ((e.incs.length : Int) == V.countI e.mem)) && e.incs.all smallB) && ordU e.msgs e.msgs.length) && memU e.mem e.incs e.msgs e.msgs.length) = rightE e := by
 have h : ((e.incs.length : Int) == V.countI e.mem) = decide ((e.incs.length : Int) = V.countI e.mem) := by
  rw [Bool.eq_iff_iff]; simp
 unfold rightE
 rw [h]
 simp [Bool.and_assoc]
theorem rightEP_any (x : Ent) (A : Option Addr) (c : Nat) (A' : Option Addr) (c' : Nat) (w : World) (L : Laid w) (h : V.Row w w.heap.size A x.incs) (hM : Msgs w w.heap.size A' x.msgs) (hil : x.incs.length ≤ maxLen) (hl : x.msgs.length ≤ maxLen) (hd : ∀ m ∈ x.msgs, m.data.size ≤ maxLen) :
  Calls Tryz.prog 56 #[ev x.t x.ep x.mem (.slice A x.incs.length c) (.slice A' x.msgs.length c')] w fun e w' => e = .returned (.bool (rightE x)) ∧ Below w.heap.size w w' := by
 have HCH := hid (rightE_chain x)
 obtain ⟨t, ep, mem, incs, l⟩ := x
 simp only at *
 generalize rightE ⟨t, ep, mem, incs, l⟩ = R at *
 have b1 := Joins.below_alloc1 w (.cells #[.int .i64 t, .int .i64 ep, .int .i64 mem, .slice A incs.length c, .slice A' l.length c'] 37)
 have e1 := EntAt.new w t ep mem (.slice A incs.length c) (.slice A' l.length c')
 have L1 := L.below b1
 have r1 := (h.below b1 (Nat.le_refl _)).more b1.size
 have m1 := (hM.below b1 (Nat.le_refl _)).more b1.size
 generalize hW : w.alloc (.cells #[.int .i64 t, .int .i64 ep, .int .i64 mem, .slice A incs.length c, .slice A' l.length c'] 37) = W at *
 have C1 : Hid (∀ W' g, W'.heap[g]? = some (.cells #[.int .i64 t, .int .i64 ep] 3 (0, 0)) → Calls Tryz.prog 91 #[.slice (some ⟨g, 0, none⟩) 2 2] W' fun e w' => e = .returned (.bool ([t, ep].all smallB)) ∧ W' = w') := hid fun W' g hg => countedE_any (some ⟨g, 0, none⟩) 2 _ [t, ep] W' (row_two hg) (by unfold maxLen; simp)
 have CA : Hid (∀ W', Calls Tryz.prog 92 #[.int .i64 16] W' fun e w' => e = .returned (.int .i64 65535) ∧ W' = w') := hid fun W' => V.all_any 16 W'
 have CC := hid (fun W' => V.count_any mem W')
 have C2 := hid (fun W' (hG : Below W.heap.size W W') => countedE_any A c _ incs W' (r1.below hG (Nat.le_refl _)) hil)
 have C3 := hid (fun W' (hG : Below W.heap.size W W') => inOrder_any A' c' l W' (L1.below hG) ((m1.below hG (Nat.le_refl _)).more hG.size) hl hd)
 have C4 := hid (fun W' (hG : Below W.heap.size W W') => ofMembers_any t ep mem A c incs A' c' l W' ((r1.below hG (Nat.le_refl _)).more hG.size) ((m1.below hG (Nat.le_refl _)).more hG.size) hil hl)
 generalize [t, ep].all smallB = B1 at *
 generalize V.countI mem = CM at *
 generalize incs.all smallB = B2 at *
 generalize ordU l l.length = B3 at *
 generalize memU mem incs l l.length = B4 at *
 generalize incs.length = n at *
 generalize l.length = k at *
 have HE := hid e1; clear e1
 have HB := hid b1; clear b1 L1 r1 m1 h hM hil hl hd L
 generalize hg : w.heap.size = b at *
 go_enter Tryz.func56, Tryz.ntmps56
 go_wp2_with fail
 clear hW
 have HV : ∃ V : Nat → (Nat → Value) → World → Prop, V = (fun ix u wv => match ix with
  | 0 => u 0 = .pointer (some ⟨b, 0, none⟩)
  | 1 => u 1 = .int .i64 t
  | 2 => u 2 = .pointer (some ⟨b, 1, none⟩)
  | 3 => u 3 = .int .i64 ep
  | 4 => ∃ g, u 4 = .slice (some ⟨g, 0, none⟩) 2 2 ∧ wv.heap[g]? = some (.cells #[.int .i64 t, .int .i64 ep] 3 (0, 0))
  | 5 => u 5 = .bool B1
  | 6 => u 6 = .bool B1
  | 7 => u 7 = if B1 = true then .pointer (some ⟨b, 2, none⟩) else undef
  | 8 => u 8 = if B1 = true then .int .i64 mem else undef
  | 9 => u 9 = if B1 = true then .bool (decide (0 ≤ mem)) else undef
  | 10 => u 10 = .bool (B1 && (decide (0 ≤ mem)))
  | 11 => u 11 = .bool (B1 && (decide (0 ≤ mem)))
  | 12 => u 12 = if (B1 && (decide (0 ≤ mem))) = true then .pointer (some ⟨b, 2, none⟩) else undef
  | 13 => u 13 = if (B1 && (decide (0 ≤ mem))) = true then .int .i64 mem else undef
  | 14 => u 14 = if (B1 && (decide (0 ≤ mem))) = true then .int .i64 65535 else undef
  | 15 => u 15 = if (B1 && (decide (0 ≤ mem))) = true then .bool (decide (mem ≤ 65535)) else undef
  | 16 => u 16 = .bool ((B1 && (decide (0 ≤ mem))) && (decide (mem ≤ 65535)))
  | 17 => u 17 = .bool ((B1 && (decide (0 ≤ mem))) && (decide (mem ≤ 65535)))
  | 18 => u 18 = if ((B1 && (decide (0 ≤ mem))) && (decide (mem ≤ 65535))) = true then .pointer (some ⟨b, 3, none⟩) else undef
  | 19 => u 19 = if ((B1 && (decide (0 ≤ mem))) && (decide (mem ≤ 65535))) = true then .slice A n c else undef
  | 20 => u 20 = if ((B1 && (decide (0 ≤ mem))) && (decide (mem ≤ 65535))) = true then .int .i64 (n : Int) else undef
  | 21 => u 21 = if ((B1 && (decide (0 ≤ mem))) && (decide (mem ≤ 65535))) = true then .pointer (some ⟨b, 2, none⟩) else undef
  | 22 => u 22 = if ((B1 && (decide (0 ≤ mem))) && (decide (mem ≤ 65535))) = true then .int .i64 mem else undef
  | 23 => u 23 = if ((B1 && (decide (0 ≤ mem))) && (decide (mem ≤ 65535))) = true then .int .i64 CM else undef
  | 24 => u 24 = if ((B1 && (decide (0 ≤ mem))) && (decide (mem ≤ 65535))) = true then .bool ((n : Int) == CM) else undef
  | 25 => u 25 = .bool (((B1 && (decide (0 ≤ mem))) && (decide (mem ≤ 65535))) && ((n : Int) == CM))
  | 26 => u 26 = .bool (((B1 && (decide (0 ≤ mem))) && (decide (mem ≤ 65535))) && ((n : Int) == CM))
  | 27 => u 27 = if (((B1 && (decide (0 ≤ mem))) && (decide (mem ≤ 65535))) && ((n : Int) == CM)) = true then .pointer (some ⟨b, 3, none⟩) else undef
  | 28 => u 28 = if (((B1 && (decide (0 ≤ mem))) && (decide (mem ≤ 65535))) && ((n : Int) == CM)) = true then .slice A n c else undef
  | 29 => u 29 = if (((B1 && (decide (0 ≤ mem))) && (decide (mem ≤ 65535))) && ((n : Int) == CM)) = true then .bool B2 else undef
  | 30 => u 30 = .bool ((((B1 && (decide (0 ≤ mem))) && (decide (mem ≤ 65535))) && ((n : Int) == CM)) && B2)
  | 31 => u 31 = .bool ((((B1 && (decide (0 ≤ mem))) && (decide (mem ≤ 65535))) && ((n : Int) == CM)) && B2)
  | 32 => u 32 = if ((((B1 && (decide (0 ≤ mem))) && (decide (mem ≤ 65535))) && ((n : Int) == CM)) && B2) = true then .pointer (some ⟨b, 4, none⟩) else undef
  | 33 => u 33 = if ((((B1 && (decide (0 ≤ mem))) && (decide (mem ≤ 65535))) && ((n : Int) == CM)) && B2) = true then .slice A' k c' else undef
  | 34 => u 34 = if ((((B1 && (decide (0 ≤ mem))) && (decide (mem ≤ 65535))) && ((n : Int) == CM)) && B2) = true then .bool B3 else undef
  | 35 => u 35 = .bool (((((B1 && (decide (0 ≤ mem))) && (decide (mem ≤ 65535))) && ((n : Int) == CM)) && B2) && B3)
  | 36 => u 36 = .bool (((((B1 && (decide (0 ≤ mem))) && (decide (mem ≤ 65535))) && ((n : Int) == CM)) && B2) && B3)
  | 37 => u 37 = if (((((B1 && (decide (0 ≤ mem))) && (decide (mem ≤ 65535))) && ((n : Int) == CM)) && B2) && B3) = true then .agg #[.int .i64 t, .int .i64 ep, .int .i64 mem, .slice A n c, .slice A' k c'] else undef
  | 38 => u 38 = if (((((B1 && (decide (0 ≤ mem))) && (decide (mem ≤ 65535))) && ((n : Int) == CM)) && B2) && B3) = true then .bool B4 else undef
  | 39 => u 39 = .bool ((((((B1 && (decide (0 ≤ mem))) && (decide (mem ≤ 65535))) && ((n : Int) == CM)) && B2) && B3) && B4)
  | 40 => u 40 = .bool ((((((B1 && (decide (0 ≤ mem))) && (decide (mem ≤ 65535))) && ((n : Int) == CM)) && B2) && B3) && B4)
  | _ => True) := ⟨_, rfl⟩
 obtain ⟨V, hd7⟩ := HV
 have V0 : ∀ u wv, V 0 u wv = (u 0 = .pointer (some ⟨b, 0, none⟩)) := fun u wv => by subst hd7; rfl
 have V1 : ∀ u wv, V 1 u wv = (u 1 = .int .i64 t) := fun u wv => by subst hd7; rfl
 have V2 : ∀ u wv, V 2 u wv = (u 2 = .pointer (some ⟨b, 1, none⟩)) := fun u wv => by subst hd7; rfl
 have V3 : ∀ u wv, V 3 u wv = (u 3 = .int .i64 ep) := fun u wv => by subst hd7; rfl
 have V4 : ∀ u wv, V 4 u wv = (∃ g, u 4 = .slice (some ⟨g, 0, none⟩) 2 2 ∧ wv.heap[g]? = some (.cells #[.int .i64 t, .int .i64 ep] 3 (0, 0))) := fun u wv => by subst hd7; rfl
 have V5 : ∀ u wv, V 5 u wv = (u 5 = .bool B1) := fun u wv => by subst hd7; rfl
 have V6 : ∀ u wv, V 6 u wv = (u 6 = .bool B1) := fun u wv => by subst hd7; rfl
 have V7 : ∀ u wv, V 7 u wv = (u 7 = if B1 = true then .pointer (some ⟨b, 2, none⟩) else undef) := fun u wv => by subst hd7; rfl
 have V8 : ∀ u wv, V 8 u wv = (u 8 = if B1 = true then .int .i64 mem else undef) := fun u wv => by subst hd7; rfl
 have V9 : ∀ u wv, V 9 u wv = (u 9 = if B1 = true then .bool (decide (0 ≤ mem)) else undef) := fun u wv => by subst hd7; rfl
 have V10 : ∀ u wv, V 10 u wv = (u 10 = .bool (B1 && (decide (0 ≤ mem)))) := fun u wv => by subst hd7; rfl
 have V11 : ∀ u wv, V 11 u wv = (u 11 = .bool (B1 && (decide (0 ≤ mem)))) := fun u wv => by subst hd7; rfl
 have V12 : ∀ u wv, V 12 u wv = (u 12 = if (B1 && (decide (0 ≤ mem))) = true then .pointer (some ⟨b, 2, none⟩) else undef) := fun u wv => by subst hd7; rfl
 have V13 : ∀ u wv, V 13 u wv = (u 13 = if (B1 && (decide (0 ≤ mem))) = true then .int .i64 mem else undef) := fun u wv => by subst hd7; rfl
 have V14 : ∀ u wv, V 14 u wv = (u 14 = if (B1 && (decide (0 ≤ mem))) = true then .int .i64 65535 else undef) := fun u wv => by subst hd7; rfl
 have V15 : ∀ u wv, V 15 u wv = (u 15 = if (B1 && (decide (0 ≤ mem))) = true then .bool (decide (mem ≤ 65535)) else undef) := fun u wv => by subst hd7; rfl
 have V16 : ∀ u wv, V 16 u wv = (u 16 = .bool ((B1 && (decide (0 ≤ mem))) && (decide (mem ≤ 65535)))) := fun u wv => by subst hd7; rfl
 have V17 : ∀ u wv, V 17 u wv = (u 17 = .bool ((B1 && (decide (0 ≤ mem))) && (decide (mem ≤ 65535)))) := fun u wv => by subst hd7; rfl
 have V18 : ∀ u wv, V 18 u wv = (u 18 = if ((B1 && (decide (0 ≤ mem))) && (decide (mem ≤ 65535))) = true then .pointer (some ⟨b, 3, none⟩) else undef) := fun u wv => by subst hd7; rfl
 have V19 : ∀ u wv, V 19 u wv = (u 19 = if ((B1 && (decide (0 ≤ mem))) && (decide (mem ≤ 65535))) = true then .slice A n c else undef) := fun u wv => by subst hd7; rfl
 have V20 : ∀ u wv, V 20 u wv = (u 20 = if ((B1 && (decide (0 ≤ mem))) && (decide (mem ≤ 65535))) = true then .int .i64 (n : Int) else undef) := fun u wv => by subst hd7; rfl
 have V21 : ∀ u wv, V 21 u wv = (u 21 = if ((B1 && (decide (0 ≤ mem))) && (decide (mem ≤ 65535))) = true then .pointer (some ⟨b, 2, none⟩) else undef) := fun u wv => by subst hd7; rfl
 have V22 : ∀ u wv, V 22 u wv = (u 22 = if ((B1 && (decide (0 ≤ mem))) && (decide (mem ≤ 65535))) = true then .int .i64 mem else undef) := fun u wv => by subst hd7; rfl
 have V23 : ∀ u wv, V 23 u wv = (u 23 = if ((B1 && (decide (0 ≤ mem))) && (decide (mem ≤ 65535))) = true then .int .i64 CM else undef) := fun u wv => by subst hd7; rfl
 have V24 : ∀ u wv, V 24 u wv = (u 24 = if ((B1 && (decide (0 ≤ mem))) && (decide (mem ≤ 65535))) = true then .bool ((n : Int) == CM) else undef) := fun u wv => by subst hd7; rfl
 have V25 : ∀ u wv, V 25 u wv = (u 25 = .bool (((B1 && (decide (0 ≤ mem))) && (decide (mem ≤ 65535))) && ((n : Int) == CM))) := fun u wv => by subst hd7; rfl
 have V26 : ∀ u wv, V 26 u wv = (u 26 = .bool (((B1 && (decide (0 ≤ mem))) && (decide (mem ≤ 65535))) && ((n : Int) == CM))) := fun u wv => by subst hd7; rfl
 have V27 : ∀ u wv, V 27 u wv = (u 27 = if (((B1 && (decide (0 ≤ mem))) && (decide (mem ≤ 65535))) && ((n : Int) == CM)) = true then .pointer (some ⟨b, 3, none⟩) else undef) := fun u wv => by subst hd7; rfl
 have V28 : ∀ u wv, V 28 u wv = (u 28 = if (((B1 && (decide (0 ≤ mem))) && (decide (mem ≤ 65535))) && ((n : Int) == CM)) = true then .slice A n c else undef) := fun u wv => by subst hd7; rfl
 have V29 : ∀ u wv, V 29 u wv = (u 29 = if (((B1 && (decide (0 ≤ mem))) && (decide (mem ≤ 65535))) && ((n : Int) == CM)) = true then .bool B2 else undef) := fun u wv => by subst hd7; rfl
 have V30 : ∀ u wv, V 30 u wv = (u 30 = .bool ((((B1 && (decide (0 ≤ mem))) && (decide (mem ≤ 65535))) && ((n : Int) == CM)) && B2)) := fun u wv => by subst hd7; rfl
 have V31 : ∀ u wv, V 31 u wv = (u 31 = .bool ((((B1 && (decide (0 ≤ mem))) && (decide (mem ≤ 65535))) && ((n : Int) == CM)) && B2)) := fun u wv => by subst hd7; rfl
 have V32 : ∀ u wv, V 32 u wv = (u 32 = if ((((B1 && (decide (0 ≤ mem))) && (decide (mem ≤ 65535))) && ((n : Int) == CM)) && B2) = true then .pointer (some ⟨b, 4, none⟩) else undef) := fun u wv => by subst hd7; rfl
 have V33 : ∀ u wv, V 33 u wv = (u 33 = if ((((B1 && (decide (0 ≤ mem))) && (decide (mem ≤ 65535))) && ((n : Int) == CM)) && B2) = true then .slice A' k c' else undef) := fun u wv => by subst hd7; rfl
 have V34 : ∀ u wv, V 34 u wv = (u 34 = if ((((B1 && (decide (0 ≤ mem))) && (decide (mem ≤ 65535))) && ((n : Int) == CM)) && B2) = true then .bool B3 else undef) := fun u wv => by subst hd7; rfl
 have V35 : ∀ u wv, V 35 u wv = (u 35 = .bool (((((B1 && (decide (0 ≤ mem))) && (decide (mem ≤ 65535))) && ((n : Int) == CM)) && B2) && B3)) := fun u wv => by subst hd7; rfl
 have V36 : ∀ u wv, V 36 u wv = (u 36 = .bool (((((B1 && (decide (0 ≤ mem))) && (decide (mem ≤ 65535))) && ((n : Int) == CM)) && B2) && B3)) := fun u wv => by subst hd7; rfl
 have V37 : ∀ u wv, V 37 u wv = (u 37 = if (((((B1 && (decide (0 ≤ mem))) && (decide (mem ≤ 65535))) && ((n : Int) == CM)) && B2) && B3) = true then .agg #[.int .i64 t, .int .i64 ep, .int .i64 mem, .slice A n c, .slice A' k c'] else undef) := fun u wv => by subst hd7; rfl
 have V38 : ∀ u wv, V 38 u wv = (u 38 = if (((((B1 && (decide (0 ≤ mem))) && (decide (mem ≤ 65535))) && ((n : Int) == CM)) && B2) && B3) = true then .bool B4 else undef) := fun u wv => by subst hd7; rfl
 have V39 : ∀ u wv, V 39 u wv = (u 39 = .bool ((((((B1 && (decide (0 ≤ mem))) && (decide (mem ≤ 65535))) && ((n : Int) == CM)) && B2) && B3) && B4)) := fun u wv => by subst hd7; rfl
 have V40 : ∀ u wv, V 40 u wv = (u 40 = .bool ((((((B1 && (decide (0 ≤ mem))) && (decide (mem ≤ 65535))) && ((n : Int) == CM)) && B2) && B3) && B4)) := fun u wv => by subst hd7; rfl
 have HVD := hid hd7
 clear hd7
 refine region_each (V := V) (drop := fun _ _ => false) (G := fun wv => Below W.heap.size W wv) (Rel := fun jx wv wv' => Below wv.heap.size wv wv') (by kernel_rfl) (by kernel_rfl) (Below.refl _ _).drew ?hmonoc1 ?hdepc1 ⟨?s0_c1, ?s1_c1, ?s2_c1, ?s3_c1, ?s4_c1, ?s5_c1, ?s6_c1, ?s7_c1, ?s8_c1, ?s9_c1, ?s10_c1, ?s11_c1, ?s12_c1, ?s13_c1, ?s14_c1, ?s15_c1, ?s16_c1, ?s17_c1, ?s18_c1, ?s19_c1, ?s20_c1, ?s21_c1, ?s22_c1, ?s23_c1, ?s24_c1, ?s25_c1, ?s26_c1, ?s27_c1, ?s28_c1, ?s29_c1, ?s30_c1, ?s31_c1, ?s32_c1, ?s33_c1, ?s34_c1, ?s35_c1, ?s36_c1, ?s37_c1, ?s38_c1, ?s39_c1, ?s40_c1, trivial⟩ ?behindc1
 case hmonoc1 =>
  intro ix jx u wv wv' hij hw hd hr
  rw [HVD.out]
  dsimp only
  split <;> intro h <;> first | exact trivial | exact h | (obtain ⟨g, e, hg⟩ := h; exact ⟨g, e, (hr.block g (Array.getElem?_eq_some_iff.1 hg).1).trans hg⟩)
 case hdepc1 =>
  intro ix u u' wv h1 h2
  rw [HVD.out]
  dsimp only
  split <;> intro h <;> first | exact trivial | (rw [← h1]; exact h)
 case s0_c1 =>
  refine owe rfl fun a wx val hG hV hN hO K hK => ?_
  have e1 : a.tmps[1]? = some (.pointer (some ⟨b, 0, none⟩)) := (hO 1 (by kernel_rfl)).trans (by rfl)
  clear hV hN hO
  go_simp
  exact hK.out _ _ (by rw [V0, upd_at] <;> (congr 1 <;> omega)) (Below.refl _ _) hG
 case s1_c1 =>
  refine owe rfl fun a wx val hG hV hN hO K hK => ?_
  have e3 := hN 0 3 (by kernel_rfl) (by kernel_rfl) (by simp)
  have f3 := hV 0 (by kernel_rfl) (by kernel_rfl)
  rw [V0] at f3; rw [f3] at e3; clear f3
  clear hV hN hO
  obtain ⟨y0, y1, y2, y3, y4⟩ := (HE.out.on hG).cells
  go_simp
  exact hK.out _ _ (by rw [V1, upd_at] <;> (congr 1 <;> omega)) (Below.refl _ _) hG
 case s2_c1 =>
  refine owe rfl fun a wx val hG hV hN hO K hK => ?_
  have e1 : a.tmps[1]? = some (.pointer (some ⟨b, 0, none⟩)) := (hO 1 (by kernel_rfl)).trans (by rfl)
  clear hV hN hO
  go_simp
  exact hK.out _ _ (by rw [V2, upd_at] <;> (congr 1 <;> omega)) (Below.refl _ _) hG
 case s3_c1 =>
  refine owe rfl fun a wx val hG hV hN hO K hK => ?_
  have e5 := hN 2 5 (by kernel_rfl) (by kernel_rfl) (by simp)
  have f5 := hV 2 (by kernel_rfl) (by kernel_rfl)
  rw [V2] at f5; rw [f5] at e5; clear f5
  clear hV hN hO
  obtain ⟨y0, y1, y2, y3, y4⟩ := (HE.out.on hG).cells
  go_simp
  exact hK.out _ _ (by rw [V3, upd_at] <;> (congr 1 <;> omega)) (Below.refl _ _) hG
 case s4_c1 =>
  refine owe rfl fun a wx val hG hV hN hO K hK => ?_
  have e4 := hN 1 4 (by kernel_rfl) (by kernel_rfl) (by simp)
  have f4 := hV 1 (by kernel_rfl) (by kernel_rfl)
  rw [V1] at f4; rw [f4] at e4; clear f4
  have e6 := hN 3 6 (by kernel_rfl) (by kernel_rfl) (by simp)
  have f6 := hV 3 (by kernel_rfl) (by kernel_rfl)
  rw [V3] at f6; rw [f6] at e6; clear f6
  clear hV hN hO
  go_simp
  exact hK.out _ _ (by rw [V4, upd_at]; exact ⟨_, rfl, heap_alloc_new _ _⟩) (Joins.below_alloc1 _ _) (hG.trans ((Joins.below_alloc1 _ _).mono hG.size))
 case s5_c1 =>
  refine owe rfl fun a wx val hG hV hN hO K hK => ?_
  have e7 := hN 4 7 (by kernel_rfl) (by kernel_rfl) (by simp)
  have f7 := hV 4 (by kernel_rfl) (by kernel_rfl)
  rw [V4] at f7; obtain ⟨g, hv, hgg⟩ := f7; rw [hv] at e7
  clear hV hN hO
  go_simp
  refine (C1.out _ g hgg).mono ?_
  rintro e w11 ⟨rfl, rfl⟩
  exact hK.out _ _ (by rw [V5, upd_at]) (Below.refl _ _) hG
 case s6_c1 =>
  refine owe rfl fun a wx val hG hV hN hO K hK => ?_
  have e8 := hN 5 8 (by kernel_rfl) (by kernel_rfl) (by simp)
  have f8 := hV 5 (by kernel_rfl) (by kernel_rfl)
  rw [V5] at f8; rw [f8] at e8; clear f8
  clear hV hN hO
  go_simp
  exact hK.out _ _ (by rw [V6, upd_at] <;> (congr 1 <;> omega)) (Below.refl _ _) hG
 case s7_c1 =>
  refine owe_cond (g := 6) (t := 9) (b := true) (c := B1) (d := true) B1 (by first | rfl | simp) rfl (by kernel_rfl) (by kernel_rfl) (by kernel_rfl) (by simp) (fun val w h => by rw [V6] at h; first | exact h | simpa using h) (fun hd a wx val hG hV hN hO K hK => ?_) (fun hd val w => by rw [V7, upd_at, if_neg (by rw [hd]; decide)])
  have e1 : a.tmps[1]? = some (.pointer (some ⟨b, 0, none⟩)) := (hO 1 (by kernel_rfl)).trans (by rfl)
  clear hV hN hO
  go_simp
  exact hK.out _ _ (by rw [V7, upd_at, if_pos hd] <;> (congr 1 <;> omega)) (Below.refl _ _) hG
 case s8_c1 =>
  refine owe_cond (g := 6) (t := 9) (b := true) (c := B1) (d := true) B1 (by first | rfl | simp) rfl (by kernel_rfl) (by kernel_rfl) (by kernel_rfl) (by simp) (fun val w h => by rw [V6] at h; first | exact h | simpa using h) (fun hd a wx val hG hV hN hO K hK => ?_) (fun hd val w => by rw [V8, upd_at, if_neg (by rw [hd]; decide)])
  have e10 := hN 7 10 (by kernel_rfl) (by kernel_rfl) (by simp)
  have f10 := hV 7 (by kernel_rfl) (by kernel_rfl)
  rw [V7] at f10; rw [f10] at e10; clear f10
  rw [if_pos hd] at e10
  clear hV hN hO
  obtain ⟨y0, y1, y2, y3, y4⟩ := (HE.out.on hG).cells
  go_simp
  exact hK.out _ _ (by rw [V8, upd_at, if_pos hd] <;> (congr 1 <;> omega)) (Below.refl _ _) hG
 case s9_c1 =>
  refine owe_cond (g := 6) (t := 9) (b := true) (c := B1) (d := true) B1 (by first | rfl | simp) rfl (by kernel_rfl) (by kernel_rfl) (by kernel_rfl) (by simp) (fun val w h => by rw [V6] at h; first | exact h | simpa using h) (fun hd a wx val hG hV hN hO K hK => ?_) (fun hd val w => by rw [V9, upd_at, if_neg (by rw [hd]; decide)])
  have e11 := hN 8 11 (by kernel_rfl) (by kernel_rfl) (by simp)
  have f11 := hV 8 (by kernel_rfl) (by kernel_rfl)
  rw [V8] at f11; rw [f11] at e11; clear f11
  rw [if_pos hd] at e11
  clear hV hN hO
  go_simp
  exact hK.out _ _ (by rw [V9, upd_at, if_pos hd] <;> (congr 1 <;> omega)) (Below.refl _ _) hG
 case s10_c1 =>
  refine owe rfl fun a wx val hG hV hN hO K hK => ?_
  have e9 := hN 6 9 (by kernel_rfl) (by kernel_rfl) (by simp)
  have f9 := hV 6 (by kernel_rfl) (by kernel_rfl)
  rw [V6] at f9; rw [f9] at e9; clear f9
  have e12 := hN 9 12 (by kernel_rfl) (by kernel_rfl) (by simp)
  have f12 := hV 9 (by kernel_rfl) (by kernel_rfl)
  rw [V9] at f12; rw [f12] at e12; clear f12
  clear hV hN hO
  cases hcc : B1
  ·rw [hcc] at e9
   rw [if_neg (by first | (rw [hcc]; decide) | simp [hcc])] at e12
   go_simp
   exact hK.out _ _ (by rw [V10, upd_at] <;> simp [hcc]) (Below.refl _ _) hG
  ·rw [hcc] at e9
   rw [if_pos (by first | exact hcc | (rw [hcc]; rfl) | simp [hcc])] at e12
   go_simp
   exact hK.out _ _ (by rw [V10, upd_at] <;> simp [hcc]) (Below.refl _ _) hG
 case s11_c1 =>
  refine owe rfl fun a wx val hG hV hN hO K hK => ?_
  have e13 := hN 10 13 (by kernel_rfl) (by kernel_rfl) (by simp)
  have f13 := hV 10 (by kernel_rfl) (by kernel_rfl)
  rw [V10] at f13; rw [f13] at e13; clear f13
  clear hV hN hO
  go_simp
  exact hK.out _ _ (by rw [V11, upd_at] <;> (congr 1 <;> omega)) (Below.refl _ _) hG
 case s12_c1 =>
  refine owe_cond (g := 11) (t := 14) (b := true) (c := (B1 && (decide (0 ≤ mem)))) (d := true) ((B1 && (decide (0 ≤ mem)))) (by first | rfl | simp) rfl (by kernel_rfl) (by kernel_rfl) (by kernel_rfl) (by simp) (fun val w h => by rw [V11] at h; first | exact h | simpa using h) (fun hd a wx val hG hV hN hO K hK => ?_) (fun hd val w => by rw [V12, upd_at, if_neg (by rw [hd]; decide)])
  have e1 : a.tmps[1]? = some (.pointer (some ⟨b, 0, none⟩)) := (hO 1 (by kernel_rfl)).trans (by rfl)
  clear hV hN hO
  go_simp
  exact hK.out _ _ (by rw [V12, upd_at, if_pos hd] <;> (congr 1 <;> omega)) (Below.refl _ _) hG
 case s13_c1 =>
  refine owe_cond (g := 11) (t := 14) (b := true) (c := (B1 && (decide (0 ≤ mem)))) (d := true) ((B1 && (decide (0 ≤ mem)))) (by first | rfl | simp) rfl (by kernel_rfl) (by kernel_rfl) (by kernel_rfl) (by simp) (fun val w h => by rw [V11] at h; first | exact h | simpa using h) (fun hd a wx val hG hV hN hO K hK => ?_) (fun hd val w => by rw [V13, upd_at, if_neg (by rw [hd]; decide)])
  have e15 := hN 12 15 (by kernel_rfl) (by kernel_rfl) (by simp)
  have f15 := hV 12 (by kernel_rfl) (by kernel_rfl)
  rw [V12] at f15; rw [f15] at e15; clear f15
  rw [if_pos hd] at e15
  clear hV hN hO
  obtain ⟨y0, y1, y2, y3, y4⟩ := (HE.out.on hG).cells
  go_simp
  exact hK.out _ _ (by rw [V13, upd_at, if_pos hd] <;> (congr 1 <;> omega)) (Below.refl _ _) hG
 case s14_c1 =>
  refine owe_cond (g := 11) (t := 14) (b := true) (c := (B1 && (decide (0 ≤ mem)))) (d := true) ((B1 && (decide (0 ≤ mem)))) (by first | rfl | simp) rfl (by kernel_rfl) (by kernel_rfl) (by kernel_rfl) (by simp) (fun val w h => by rw [V11] at h; first | exact h | simpa using h) (fun hd a wx val hG hV hN hO K hK => ?_) (fun hd val w => by rw [V14, upd_at, if_neg (by rw [hd]; decide)])
  clear hV hN hO
  go_simp
  refine (CA.out _).mono ?_
  rintro e w11 ⟨rfl, rfl⟩
  exact hK.out _ _ (by rw [V14, upd_at, if_pos hd]) (Below.refl _ _) hG
 case s15_c1 =>
  refine owe_cond (g := 11) (t := 14) (b := true) (c := (B1 && (decide (0 ≤ mem)))) (d := true) ((B1 && (decide (0 ≤ mem)))) (by first | rfl | simp) rfl (by kernel_rfl) (by kernel_rfl) (by kernel_rfl) (by simp) (fun val w h => by rw [V11] at h; first | exact h | simpa using h) (fun hd a wx val hG hV hN hO K hK => ?_) (fun hd val w => by rw [V15, upd_at, if_neg (by rw [hd]; decide)])
  have e16 := hN 13 16 (by kernel_rfl) (by kernel_rfl) (by simp)
  have f16 := hV 13 (by kernel_rfl) (by kernel_rfl)
  rw [V13] at f16; rw [f16] at e16; clear f16
  rw [if_pos hd] at e16
  have e17 := hN 14 17 (by kernel_rfl) (by kernel_rfl) (by simp)
  have f17 := hV 14 (by kernel_rfl) (by kernel_rfl)
  rw [V14] at f17; rw [f17] at e17; clear f17
  rw [if_pos hd] at e17
  clear hV hN hO
  go_simp
  exact hK.out _ _ (by rw [V15, upd_at, if_pos hd] <;> (congr 1 <;> omega)) (Below.refl _ _) hG
 case s16_c1 =>
  refine owe rfl fun a wx val hG hV hN hO K hK => ?_
  have e14 := hN 11 14 (by kernel_rfl) (by kernel_rfl) (by simp)
  have f14 := hV 11 (by kernel_rfl) (by kernel_rfl)
  rw [V11] at f14; rw [f14] at e14; clear f14
  have e18 := hN 15 18 (by kernel_rfl) (by kernel_rfl) (by simp)
  have f18 := hV 15 (by kernel_rfl) (by kernel_rfl)
  rw [V15] at f18; rw [f18] at e18; clear f18
  clear hV hN hO
  cases hcc : ((B1 && (decide (0 ≤ mem))))
  ·rw [hcc] at e14
   rw [if_neg (by first | (rw [hcc]; decide) | simp [hcc])] at e18
   go_simp
   exact hK.out _ _ (by rw [V16, upd_at] <;> simp [hcc]) (Below.refl _ _) hG
  ·rw [hcc] at e14
   rw [if_pos (by first | exact hcc | (rw [hcc]; rfl) | simp [hcc])] at e18
   go_simp
   exact hK.out _ _ (by rw [V16, upd_at] <;> simp [hcc]) (Below.refl _ _) hG
 case s17_c1 =>
  refine owe rfl fun a wx val hG hV hN hO K hK => ?_
  have e19 := hN 16 19 (by kernel_rfl) (by kernel_rfl) (by simp)
  have f19 := hV 16 (by kernel_rfl) (by kernel_rfl)
  rw [V16] at f19; rw [f19] at e19; clear f19
  clear hV hN hO
  go_simp
  exact hK.out _ _ (by rw [V17, upd_at] <;> (congr 1 <;> omega)) (Below.refl _ _) hG
 case s18_c1 =>
  refine owe_cond (g := 17) (t := 20) (b := true) (c := ((B1 && (decide (0 ≤ mem))) && (decide (mem ≤ 65535)))) (d := true) (((B1 && (decide (0 ≤ mem))) && (decide (mem ≤ 65535)))) (by first | rfl | simp) rfl (by kernel_rfl) (by kernel_rfl) (by kernel_rfl) (by simp) (fun val w h => by rw [V17] at h; first | exact h | simpa using h) (fun hd a wx val hG hV hN hO K hK => ?_) (fun hd val w => by rw [V18, upd_at, if_neg (by rw [hd]; decide)])
  have e1 : a.tmps[1]? = some (.pointer (some ⟨b, 0, none⟩)) := (hO 1 (by kernel_rfl)).trans (by rfl)
  clear hV hN hO
  go_simp
  exact hK.out _ _ (by rw [V18, upd_at, if_pos hd] <;> (congr 1 <;> omega)) (Below.refl _ _) hG
 case s19_c1 =>
  refine owe_cond (g := 17) (t := 20) (b := true) (c := ((B1 && (decide (0 ≤ mem))) && (decide (mem ≤ 65535)))) (d := true) (((B1 && (decide (0 ≤ mem))) && (decide (mem ≤ 65535)))) (by first | rfl | simp) rfl (by kernel_rfl) (by kernel_rfl) (by kernel_rfl) (by simp) (fun val w h => by rw [V17] at h; first | exact h | simpa using h) (fun hd a wx val hG hV hN hO K hK => ?_) (fun hd val w => by rw [V19, upd_at, if_neg (by rw [hd]; decide)])
  have e21 := hN 18 21 (by kernel_rfl) (by kernel_rfl) (by simp)
  have f21 := hV 18 (by kernel_rfl) (by kernel_rfl)
  rw [V18] at f21; rw [f21] at e21; clear f21
  rw [if_pos hd] at e21
  clear hV hN hO
  obtain ⟨y0, y1, y2, y3, y4⟩ := (HE.out.on hG).cells
  go_simp
  exact hK.out _ _ (by rw [V19, upd_at, if_pos hd] <;> (congr 1 <;> omega)) (Below.refl _ _) hG
 case s20_c1 =>
  refine owe_cond (g := 17) (t := 20) (b := true) (c := ((B1 && (decide (0 ≤ mem))) && (decide (mem ≤ 65535)))) (d := true) (((B1 && (decide (0 ≤ mem))) && (decide (mem ≤ 65535)))) (by first | rfl | simp) rfl (by kernel_rfl) (by kernel_rfl) (by kernel_rfl) (by simp) (fun val w h => by rw [V17] at h; first | exact h | simpa using h) (fun hd a wx val hG hV hN hO K hK => ?_) (fun hd val w => by rw [V20, upd_at, if_neg (by rw [hd]; decide)])
  have e22 := hN 19 22 (by kernel_rfl) (by kernel_rfl) (by simp)
  have f22 := hV 19 (by kernel_rfl) (by kernel_rfl)
  rw [V19] at f22; rw [f22] at e22; clear f22
  rw [if_pos hd] at e22
  clear hV hN hO
  go_simp
  exact hK.out _ _ (by rw [V20, upd_at, if_pos hd] <;> (congr 1 <;> omega)) (Below.refl _ _) hG
 case s21_c1 =>
  refine owe_cond (g := 17) (t := 20) (b := true) (c := ((B1 && (decide (0 ≤ mem))) && (decide (mem ≤ 65535)))) (d := true) (((B1 && (decide (0 ≤ mem))) && (decide (mem ≤ 65535)))) (by first | rfl | simp) rfl (by kernel_rfl) (by kernel_rfl) (by kernel_rfl) (by simp) (fun val w h => by rw [V17] at h; first | exact h | simpa using h) (fun hd a wx val hG hV hN hO K hK => ?_) (fun hd val w => by rw [V21, upd_at, if_neg (by rw [hd]; decide)])
  have e1 : a.tmps[1]? = some (.pointer (some ⟨b, 0, none⟩)) := (hO 1 (by kernel_rfl)).trans (by rfl)
  clear hV hN hO
  go_simp
  exact hK.out _ _ (by rw [V21, upd_at, if_pos hd] <;> (congr 1 <;> omega)) (Below.refl _ _) hG
 case s22_c1 =>
  refine owe_cond (g := 17) (t := 20) (b := true) (c := ((B1 && (decide (0 ≤ mem))) && (decide (mem ≤ 65535)))) (d := true) (((B1 && (decide (0 ≤ mem))) && (decide (mem ≤ 65535)))) (by first | rfl | simp) rfl (by kernel_rfl) (by kernel_rfl) (by kernel_rfl) (by simp) (fun val w h => by rw [V17] at h; first | exact h | simpa using h) (fun hd a wx val hG hV hN hO K hK => ?_) (fun hd val w => by rw [V22, upd_at, if_neg (by rw [hd]; decide)])
  have e24 := hN 21 24 (by kernel_rfl) (by kernel_rfl) (by simp)
  have f24 := hV 21 (by kernel_rfl) (by kernel_rfl)
  rw [V21] at f24; rw [f24] at e24; clear f24
  rw [if_pos hd] at e24
  clear hV hN hO
  obtain ⟨y0, y1, y2, y3, y4⟩ := (HE.out.on hG).cells
  go_simp
  exact hK.out _ _ (by rw [V22, upd_at, if_pos hd] <;> (congr 1 <;> omega)) (Below.refl _ _) hG
 case s23_c1 =>
  refine owe_cond (g := 17) (t := 20) (b := true) (c := ((B1 && (decide (0 ≤ mem))) && (decide (mem ≤ 65535)))) (d := true) (((B1 && (decide (0 ≤ mem))) && (decide (mem ≤ 65535)))) (by first | rfl | simp) rfl (by kernel_rfl) (by kernel_rfl) (by kernel_rfl) (by simp) (fun val w h => by rw [V17] at h; first | exact h | simpa using h) (fun hd a wx val hG hV hN hO K hK => ?_) (fun hd val w => by rw [V23, upd_at, if_neg (by rw [hd]; decide)])
  have e25 := hN 22 25 (by kernel_rfl) (by kernel_rfl) (by simp)
  have f25 := hV 22 (by kernel_rfl) (by kernel_rfl)
  rw [V22] at f25; rw [f25] at e25; clear f25
  rw [if_pos hd] at e25
  clear hV hN hO
  go_simp
  refine (CC.out _).mono ?_
  rintro e w11 ⟨rfl, hb⟩
  exact hK.out _ _ (by rw [V23, upd_at, if_pos hd]) hb (hG.trans (hb.mono hG.size))
 case s24_c1 =>
  refine owe_cond (g := 17) (t := 20) (b := true) (c := ((B1 && (decide (0 ≤ mem))) && (decide (mem ≤ 65535)))) (d := true) (((B1 && (decide (0 ≤ mem))) && (decide (mem ≤ 65535)))) (by first | rfl | simp) rfl (by kernel_rfl) (by kernel_rfl) (by kernel_rfl) (by simp) (fun val w h => by rw [V17] at h; first | exact h | simpa using h) (fun hd a wx val hG hV hN hO K hK => ?_) (fun hd val w => by rw [V24, upd_at, if_neg (by rw [hd]; decide)])
  have e23 := hN 20 23 (by kernel_rfl) (by kernel_rfl) (by simp)
  have f23 := hV 20 (by kernel_rfl) (by kernel_rfl)
  rw [V20] at f23; rw [f23] at e23; clear f23
  rw [if_pos hd] at e23
  have e26 := hN 23 26 (by kernel_rfl) (by kernel_rfl) (by simp)
  have f26 := hV 23 (by kernel_rfl) (by kernel_rfl)
  rw [V23] at f26; rw [f26] at e26; clear f26
  rw [if_pos hd] at e26
  clear hV hN hO
  go_simp
  exact hK.out _ _ (by rw [V24, upd_at, if_pos hd] <;> (congr 1 <;> omega)) (Below.refl _ _) hG
 case s25_c1 =>
  refine owe rfl fun a wx val hG hV hN hO K hK => ?_
  have e20 := hN 17 20 (by kernel_rfl) (by kernel_rfl) (by simp)
  have f20 := hV 17 (by kernel_rfl) (by kernel_rfl)
  rw [V17] at f20; rw [f20] at e20; clear f20
  have e27 := hN 24 27 (by kernel_rfl) (by kernel_rfl) (by simp)
  have f27 := hV 24 (by kernel_rfl) (by kernel_rfl)
  rw [V24] at f27; rw [f27] at e27; clear f27
  clear hV hN hO
  cases hcc : (((B1 && (decide (0 ≤ mem))) && (decide (mem ≤ 65535))))
  ·rw [hcc] at e20
   rw [if_neg (by first | (rw [hcc]; decide) | simp [hcc])] at e27
   go_simp
   exact hK.out _ _ (by rw [V25, upd_at] <;> simp [hcc]) (Below.refl _ _) hG
  ·rw [hcc] at e20
   rw [if_pos (by first | exact hcc | (rw [hcc]; rfl) | simp [hcc])] at e27
   go_simp
   exact hK.out _ _ (by rw [V25, upd_at] <;> simp [hcc]) (Below.refl _ _) hG
 case s26_c1 =>
  refine owe rfl fun a wx val hG hV hN hO K hK => ?_
  have e28 := hN 25 28 (by kernel_rfl) (by kernel_rfl) (by simp)
  have f28 := hV 25 (by kernel_rfl) (by kernel_rfl)
  rw [V25] at f28; rw [f28] at e28; clear f28
  clear hV hN hO
  go_simp
  exact hK.out _ _ (by rw [V26, upd_at] <;> (congr 1 <;> omega)) (Below.refl _ _) hG
 case s27_c1 =>
  refine owe_cond (g := 26) (t := 29) (b := true) (c := (((B1 && (decide (0 ≤ mem))) && (decide (mem ≤ 65535))) && ((n : Int) == CM))) (d := true) ((((B1 && (decide (0 ≤ mem))) && (decide (mem ≤ 65535))) && ((n : Int) == CM))) (by first | rfl | simp) rfl (by kernel_rfl) (by kernel_rfl) (by kernel_rfl) (by simp) (fun val w h => by rw [V26] at h; first | exact h | simpa using h) (fun hd a wx val hG hV hN hO K hK => ?_) (fun hd val w => by rw [V27, upd_at, if_neg (by rw [hd]; decide)])
  have e1 : a.tmps[1]? = some (.pointer (some ⟨b, 0, none⟩)) := (hO 1 (by kernel_rfl)).trans (by rfl)
  clear hV hN hO
  go_simp
  exact hK.out _ _ (by rw [V27, upd_at, if_pos hd] <;> (congr 1 <;> omega)) (Below.refl _ _) hG
 case s28_c1 =>
  refine owe_cond (g := 26) (t := 29) (b := true) (c := (((B1 && (decide (0 ≤ mem))) && (decide (mem ≤ 65535))) && ((n : Int) == CM))) (d := true) ((((B1 && (decide (0 ≤ mem))) && (decide (mem ≤ 65535))) && ((n : Int) == CM))) (by first | rfl | simp) rfl (by kernel_rfl) (by kernel_rfl) (by kernel_rfl) (by simp) (fun val w h => by rw [V26] at h; first | exact h | simpa using h) (fun hd a wx val hG hV hN hO K hK => ?_) (fun hd val w => by rw [V28, upd_at, if_neg (by rw [hd]; decide)])
  have e30 := hN 27 30 (by kernel_rfl) (by kernel_rfl) (by simp)
  have f30 := hV 27 (by kernel_rfl) (by kernel_rfl)
  rw [V27] at f30; rw [f30] at e30; clear f30
  rw [if_pos hd] at e30
  clear hV hN hO
  obtain ⟨y0, y1, y2, y3, y4⟩ := (HE.out.on hG).cells
  go_simp
  exact hK.out _ _ (by rw [V28, upd_at, if_pos hd] <;> (congr 1 <;> omega)) (Below.refl _ _) hG
 case s29_c1 =>
  refine owe_cond (g := 26) (t := 29) (b := true) (c := (((B1 && (decide (0 ≤ mem))) && (decide (mem ≤ 65535))) && ((n : Int) == CM))) (d := true) ((((B1 && (decide (0 ≤ mem))) && (decide (mem ≤ 65535))) && ((n : Int) == CM))) (by first | rfl | simp) rfl (by kernel_rfl) (by kernel_rfl) (by kernel_rfl) (by simp) (fun val w h => by rw [V26] at h; first | exact h | simpa using h) (fun hd a wx val hG hV hN hO K hK => ?_) (fun hd val w => by rw [V29, upd_at, if_neg (by rw [hd]; decide)])
  have e31 := hN 28 31 (by kernel_rfl) (by kernel_rfl) (by simp)
  have f31 := hV 28 (by kernel_rfl) (by kernel_rfl)
  rw [V28] at f31; rw [f31] at e31; clear f31
  rw [if_pos hd] at e31
  clear hV hN hO
  go_simp
  refine (C2.out _ hG).mono ?_
  rintro e w11 ⟨rfl, rfl⟩
  exact hK.out _ _ (by rw [V29, upd_at, if_pos hd]) (Below.refl _ _) hG
 case s30_c1 =>
  refine owe rfl fun a wx val hG hV hN hO K hK => ?_
  have e29 := hN 26 29 (by kernel_rfl) (by kernel_rfl) (by simp)
  have f29 := hV 26 (by kernel_rfl) (by kernel_rfl)
  rw [V26] at f29; rw [f29] at e29; clear f29
  have e32 := hN 29 32 (by kernel_rfl) (by kernel_rfl) (by simp)
  have f32 := hV 29 (by kernel_rfl) (by kernel_rfl)
  rw [V29] at f32; rw [f32] at e32; clear f32
  clear hV hN hO
  cases hcc : ((((B1 && (decide (0 ≤ mem))) && (decide (mem ≤ 65535))) && ((n : Int) == CM)))
  ·rw [hcc] at e29
   rw [if_neg (by first | (rw [hcc]; decide) | simp [hcc])] at e32
   go_simp
   exact hK.out _ _ (by rw [V30, upd_at] <;> simp [hcc]) (Below.refl _ _) hG
  ·rw [hcc] at e29
   rw [if_pos (by first | exact hcc | (rw [hcc]; rfl) | simp [hcc])] at e32
   go_simp
   exact hK.out _ _ (by rw [V30, upd_at] <;> simp [hcc]) (Below.refl _ _) hG
 case s31_c1 =>
  refine owe rfl fun a wx val hG hV hN hO K hK => ?_
  have e33 := hN 30 33 (by kernel_rfl) (by kernel_rfl) (by simp)
  have f33 := hV 30 (by kernel_rfl) (by kernel_rfl)
  rw [V30] at f33; rw [f33] at e33; clear f33
  clear hV hN hO
  go_simp
  exact hK.out _ _ (by rw [V31, upd_at] <;> (congr 1 <;> omega)) (Below.refl _ _) hG
 case s32_c1 =>
  refine owe_cond (g := 31) (t := 34) (b := true) (c := ((((B1 && (decide (0 ≤ mem))) && (decide (mem ≤ 65535))) && ((n : Int) == CM)) && B2)) (d := true) (((((B1 && (decide (0 ≤ mem))) && (decide (mem ≤ 65535))) && ((n : Int) == CM)) && B2)) (by first | rfl | simp) rfl (by kernel_rfl) (by kernel_rfl) (by kernel_rfl) (by simp) (fun val w h => by rw [V31] at h; first | exact h | simpa using h) (fun hd a wx val hG hV hN hO K hK => ?_) (fun hd val w => by rw [V32, upd_at, if_neg (by rw [hd]; decide)])
  have e1 : a.tmps[1]? = some (.pointer (some ⟨b, 0, none⟩)) := (hO 1 (by kernel_rfl)).trans (by rfl)
  clear hV hN hO
  go_simp
  exact hK.out _ _ (by rw [V32, upd_at, if_pos hd] <;> (congr 1 <;> omega)) (Below.refl _ _) hG
 case s33_c1 =>
  refine owe_cond (g := 31) (t := 34) (b := true) (c := ((((B1 && (decide (0 ≤ mem))) && (decide (mem ≤ 65535))) && ((n : Int) == CM)) && B2)) (d := true) (((((B1 && (decide (0 ≤ mem))) && (decide (mem ≤ 65535))) && ((n : Int) == CM)) && B2)) (by first | rfl | simp) rfl (by kernel_rfl) (by kernel_rfl) (by kernel_rfl) (by simp) (fun val w h => by rw [V31] at h; first | exact h | simpa using h) (fun hd a wx val hG hV hN hO K hK => ?_) (fun hd val w => by rw [V33, upd_at, if_neg (by rw [hd]; decide)])
  have e35 := hN 32 35 (by kernel_rfl) (by kernel_rfl) (by simp)
  have f35 := hV 32 (by kernel_rfl) (by kernel_rfl)
  rw [V32] at f35; rw [f35] at e35; clear f35
  rw [if_pos hd] at e35
  clear hV hN hO
  obtain ⟨y0, y1, y2, y3, y4⟩ := (HE.out.on hG).cells
  go_simp
  exact hK.out _ _ (by rw [V33, upd_at, if_pos hd] <;> (congr 1 <;> omega)) (Below.refl _ _) hG
 case s34_c1 =>
  refine owe_cond (g := 31) (t := 34) (b := true) (c := ((((B1 && (decide (0 ≤ mem))) && (decide (mem ≤ 65535))) && ((n : Int) == CM)) && B2)) (d := true) (((((B1 && (decide (0 ≤ mem))) && (decide (mem ≤ 65535))) && ((n : Int) == CM)) && B2)) (by first | rfl | simp) rfl (by kernel_rfl) (by kernel_rfl) (by kernel_rfl) (by simp) (fun val w h => by rw [V31] at h; first | exact h | simpa using h) (fun hd a wx val hG hV hN hO K hK => ?_) (fun hd val w => by rw [V34, upd_at, if_neg (by rw [hd]; decide)])
  have e36 := hN 33 36 (by kernel_rfl) (by kernel_rfl) (by simp)
  have f36 := hV 33 (by kernel_rfl) (by kernel_rfl)
  rw [V33] at f36; rw [f36] at e36; clear f36
  rw [if_pos hd] at e36
  clear hV hN hO
  go_simp
  refine (C3.out _ hG).mono ?_
  rintro e w11 ⟨rfl, hb⟩
  exact hK.out _ _ (by rw [V34, upd_at, if_pos hd]) hb (hG.trans (hb.mono hG.size))
 case s35_c1 =>
  refine owe rfl fun a wx val hG hV hN hO K hK => ?_
  have e34 := hN 31 34 (by kernel_rfl) (by kernel_rfl) (by simp)
  have f34 := hV 31 (by kernel_rfl) (by kernel_rfl)
  rw [V31] at f34; rw [f34] at e34; clear f34
  have e37 := hN 34 37 (by kernel_rfl) (by kernel_rfl) (by simp)
  have f37 := hV 34 (by kernel_rfl) (by kernel_rfl)
  rw [V34] at f37; rw [f37] at e37; clear f37
  clear hV hN hO
  cases hcc : (((((B1 && (decide (0 ≤ mem))) && (decide (mem ≤ 65535))) && ((n : Int) == CM)) && B2))
  ·rw [hcc] at e34
   rw [if_neg (by first | (rw [hcc]; decide) | simp [hcc])] at e37
   go_simp
   exact hK.out _ _ (by rw [V35, upd_at] <;> simp [hcc]) (Below.refl _ _) hG
  ·rw [hcc] at e34
   rw [if_pos (by first | exact hcc | (rw [hcc]; rfl) | simp [hcc])] at e37
   go_simp
   exact hK.out _ _ (by rw [V35, upd_at] <;> simp [hcc]) (Below.refl _ _) hG
 case s36_c1 =>
  refine owe rfl fun a wx val hG hV hN hO K hK => ?_
  have e38 := hN 35 38 (by kernel_rfl) (by kernel_rfl) (by simp)
  have f38 := hV 35 (by kernel_rfl) (by kernel_rfl)
  rw [V35] at f38; rw [f38] at e38; clear f38
  clear hV hN hO
  go_simp
  exact hK.out _ _ (by rw [V36, upd_at] <;> (congr 1 <;> omega)) (Below.refl _ _) hG
 case s37_c1 =>
  refine owe_cond (g := 36) (t := 39) (b := true) (c := (((((B1 && (decide (0 ≤ mem))) && (decide (mem ≤ 65535))) && ((n : Int) == CM)) && B2) && B3)) (d := true) ((((((B1 && (decide (0 ≤ mem))) && (decide (mem ≤ 65535))) && ((n : Int) == CM)) && B2) && B3)) (by first | rfl | simp) rfl (by kernel_rfl) (by kernel_rfl) (by kernel_rfl) (by simp) (fun val w h => by rw [V36] at h; first | exact h | simpa using h) (fun hd a wx val hG hV hN hO K hK => ?_) (fun hd val w => by rw [V37, upd_at, if_neg (by rw [hd]; decide)])
  have e1 : a.tmps[1]? = some (.pointer (some ⟨b, 0, none⟩)) := (hO 1 (by kernel_rfl)).trans (by rfl)
  clear hV hN hO
  obtain ⟨y0, y1, y2, y3, y4⟩ := (HE.out.on hG).cells
  go_simp
  exact hK.out _ _ (by rw [V37, upd_at, if_pos hd] <;> (congr 1 <;> omega)) (Below.refl _ _) hG
 case s38_c1 =>
  refine owe_cond (g := 36) (t := 39) (b := true) (c := (((((B1 && (decide (0 ≤ mem))) && (decide (mem ≤ 65535))) && ((n : Int) == CM)) && B2) && B3)) (d := true) ((((((B1 && (decide (0 ≤ mem))) && (decide (mem ≤ 65535))) && ((n : Int) == CM)) && B2) && B3)) (by first | rfl | simp) rfl (by kernel_rfl) (by kernel_rfl) (by kernel_rfl) (by simp) (fun val w h => by rw [V36] at h; first | exact h | simpa using h) (fun hd a wx val hG hV hN hO K hK => ?_) (fun hd val w => by rw [V38, upd_at, if_neg (by rw [hd]; decide)])
  have e40 := hN 37 40 (by kernel_rfl) (by kernel_rfl) (by simp)
  have f40 := hV 37 (by kernel_rfl) (by kernel_rfl)
  rw [V37] at f40; rw [f40] at e40; clear f40
  rw [if_pos hd] at e40
  clear hV hN hO
  go_simp
  refine (C4.out _ hG).mono ?_
  rintro e w11 ⟨rfl, hb⟩
  exact hK.out _ _ (by rw [V38, upd_at, if_pos hd]) hb (hG.trans (hb.mono hG.size))
 case s39_c1 =>
  refine owe rfl fun a wx val hG hV hN hO K hK => ?_
  have e39 := hN 36 39 (by kernel_rfl) (by kernel_rfl) (by simp)
  have f39 := hV 36 (by kernel_rfl) (by kernel_rfl)
  rw [V36] at f39; rw [f39] at e39; clear f39
  have e41 := hN 38 41 (by kernel_rfl) (by kernel_rfl) (by simp)
  have f41 := hV 38 (by kernel_rfl) (by kernel_rfl)
  rw [V38] at f41; rw [f41] at e41; clear f41
  clear hV hN hO
  cases hcc : ((((((B1 && (decide (0 ≤ mem))) && (decide (mem ≤ 65535))) && ((n : Int) == CM)) && B2) && B3))
  ·rw [hcc] at e39
   rw [if_neg (by first | (rw [hcc]; decide) | simp [hcc])] at e41
   go_simp
   exact hK.out _ _ (by rw [V39, upd_at] <;> simp [hcc]) (Below.refl _ _) hG
  ·rw [hcc] at e39
   rw [if_pos (by first | exact hcc | (rw [hcc]; rfl) | simp [hcc])] at e41
   go_simp
   exact hK.out _ _ (by rw [V39, upd_at] <;> simp [hcc]) (Below.refl _ _) hG
 case s40_c1 =>
  refine owe rfl fun a wx val hG hV hN hO K hK => ?_
  have e42 := hN 39 42 (by kernel_rfl) (by kernel_rfl) (by simp)
  have f42 := hV 39 (by kernel_rfl) (by kernel_rfl)
  rw [V39] at f42; rw [f42] at e42; clear f42
  clear hV hN hO
  go_simp
  exact hK.out _ _ (by rw [V40, upd_at] <;> (congr 1 <;> omega)) (Below.refl _ _) hG
 intro val wx hG hV
 have f0 := hV 0 (by simp) (fun _ _ => by rfl)
 rw [V0] at f0
 have f1 := hV 1 (by simp) (fun _ _ => by rfl)
 rw [V1] at f1
 have f2 := hV 2 (by simp) (fun _ _ => by rfl)
 rw [V2] at f2
 have f3 := hV 3 (by simp) (fun _ _ => by rfl)
 rw [V3] at f3
 have f4 := hV 4 (by simp) (fun _ _ => by rfl)
 rw [V4] at f4
 have f5 := hV 5 (by simp) (fun _ _ => by rfl)
 rw [V5] at f5
 have f6 := hV 6 (by simp) (fun _ _ => by rfl)
 rw [V6] at f6
 have f7 := hV 7 (by simp) (fun _ _ => by rfl)
 rw [V7] at f7
 have f8 := hV 8 (by simp) (fun _ _ => by rfl)
 rw [V8] at f8
 have f9 := hV 9 (by simp) (fun _ _ => by rfl)
 rw [V9] at f9
 have f10 := hV 10 (by simp) (fun _ _ => by rfl)
 rw [V10] at f10
 have f11 := hV 11 (by simp) (fun _ _ => by rfl)
 rw [V11] at f11
 have f12 := hV 12 (by simp) (fun _ _ => by rfl)
 rw [V12] at f12
 have f13 := hV 13 (by simp) (fun _ _ => by rfl)
 rw [V13] at f13
 have f14 := hV 14 (by simp) (fun _ _ => by rfl)
 rw [V14] at f14
 have f15 := hV 15 (by simp) (fun _ _ => by rfl)
 rw [V15] at f15
 have f16 := hV 16 (by simp) (fun _ _ => by rfl)
 rw [V16] at f16
 have f17 := hV 17 (by simp) (fun _ _ => by rfl)
 rw [V17] at f17
 have f18 := hV 18 (by simp) (fun _ _ => by rfl)
 rw [V18] at f18
 have f19 := hV 19 (by simp) (fun _ _ => by rfl)
 rw [V19] at f19
 have f20 := hV 20 (by simp) (fun _ _ => by rfl)
 rw [V20] at f20
 have f21 := hV 21 (by simp) (fun _ _ => by rfl)
 rw [V21] at f21
 have f22 := hV 22 (by simp) (fun _ _ => by rfl)
 rw [V22] at f22
 have f23 := hV 23 (by simp) (fun _ _ => by rfl)
 rw [V23] at f23
 have f24 := hV 24 (by simp) (fun _ _ => by rfl)
 rw [V24] at f24
 have f25 := hV 25 (by simp) (fun _ _ => by rfl)
 rw [V25] at f25
 have f26 := hV 26 (by simp) (fun _ _ => by rfl)
 rw [V26] at f26
 have f27 := hV 27 (by simp) (fun _ _ => by rfl)
 rw [V27] at f27
 have f28 := hV 28 (by simp) (fun _ _ => by rfl)
 rw [V28] at f28
 have f29 := hV 29 (by simp) (fun _ _ => by rfl)
 rw [V29] at f29
 have f30 := hV 30 (by simp) (fun _ _ => by rfl)
 rw [V30] at f30
 have f31 := hV 31 (by simp) (fun _ _ => by rfl)
 rw [V31] at f31
 have f32 := hV 32 (by simp) (fun _ _ => by rfl)
 rw [V32] at f32
 have f33 := hV 33 (by simp) (fun _ _ => by rfl)
 rw [V33] at f33
 have f34 := hV 34 (by simp) (fun _ _ => by rfl)
 rw [V34] at f34
 have f35 := hV 35 (by simp) (fun _ _ => by rfl)
 rw [V35] at f35
 have f36 := hV 36 (by simp) (fun _ _ => by rfl)
 rw [V36] at f36
 have f37 := hV 37 (by simp) (fun _ _ => by rfl)
 rw [V37] at f37
 have f38 := hV 38 (by simp) (fun _ _ => by rfl)
 rw [V38] at f38
 have f39 := hV 39 (by simp) (fun _ _ => by rfl)
 rw [V39] at f39
 have f40 := hV 40 (by simp) (fun _ _ => by rfl)
 rw [V40] at f40
 clear hV V0 V1 V2 V3 V4 V5 V6 V7 V8 V9 V10 V11 V12 V13 V14 V15 V16 V17 V18 V19 V20 V21 V22 V23 V24 V25 V26 V27 V28 V29 V30 V31 V32 V33 V34 V35 V36 V37 V38 V39 V40
 simp only [putAll, Act.put, List.setIfInBounds_toArray, List.set_cons_zero, List.set_cons_succ]
 generalize val 0 = z0, val 1 = z1, val 2 = z2, val 3 = z3 at *
 subst f0 f1 f2 f3
 generalize val 4 = z4 at *; clear f4
 generalize val 5 = z5, val 6 = z6 at *
 subst f5 f6
 generalize val 7 = z7 at *; clear f7
 generalize val 8 = z8 at *; clear f8
 generalize val 9 = z9 at *; clear f9
 generalize val 10 = z10, val 11 = z11 at *
 subst f10 f11
 generalize val 12 = z12 at *; clear f12
 generalize val 13 = z13 at *; clear f13
 generalize val 14 = z14 at *; clear f14
 generalize val 15 = z15 at *; clear f15
 generalize val 16 = z16, val 17 = z17 at *
 subst f16 f17
 generalize val 18 = z18 at *; clear f18
 generalize val 19 = z19 at *; clear f19
 generalize val 20 = z20 at *; clear f20
 generalize val 21 = z21 at *; clear f21
 generalize val 22 = z22 at *; clear f22
 generalize val 23 = z23 at *; clear f23
 generalize val 24 = z24 at *; clear f24
 generalize val 25 = z25, val 26 = z26 at *
 subst f25 f26
 generalize val 27 = z27 at *; clear f27
 generalize val 28 = z28 at *; clear f28
 generalize val 29 = z29 at *; clear f29
 generalize val 30 = z30, val 31 = z31 at *
 subst f30 f31
 generalize val 32 = z32 at *; clear f32
 generalize val 33 = z33 at *; clear f33
 generalize val 34 = z34 at *; clear f34
 generalize val 35 = z35, val 36 = z36 at *
 subst f35 f36
 generalize val 37 = z37 at *; clear f37
 generalize val 38 = z38 at *; clear f38
 generalize val 39 = z39, val 40 = z40 at *
 subst f39 f40
 clear HVD
 go_wp2_with fail
 go_ret
 exact ⟨ret_b HCH.out, HB.out.trans (hG.mono (by rw [← hg]; exact HB.out.size))⟩
end Go.Proofs.YtlhopgadhkjflaaGreatDoor
namespace Go.Proofs.YtlhopgadhkjflaaGreatDoor
open Lib (hid)
open Go.RowKit
theorem refSmall6_any (n : Int) (w : World) : Calls Tryz.prog 97 #[.int .i64 n] w fun e w' => e = .returned (.bool (smallB n)) ∧ w = w' := by
 by_cases h1 : 1 ≤ n
 ·by_cases h2 : n ≤ 65535
  ·have hv := hid ((smallB_iff n).2 ⟨h1, h2⟩)
   go_enter Tryz.func97, Tryz.ntmps97
   go_wp2
   go_ret
   exact ⟨ret_b hv.out.symm, rfl⟩
  ·have hv : smallB n = false := by rw [← Bool.not_eq_true, smallB_iff]; omega
   have HV := hid hv; clear hv
   go_enter Tryz.func97, Tryz.ntmps97
   go_wp2
   go_ret
   exact ⟨ret_b HV.out.symm, rfl⟩
 ·have hv : smallB n = false := by rw [← Bool.not_eq_true, smallB_iff]; omega
  have HV := hid hv; clear hv
  go_enter Tryz.func97, Tryz.ntmps97
  go_wp2
  go_ret
  exact ⟨ret_b HV.out.symm, rfl⟩
theorem inc_found {mem : Int} {incs : List Int} {node : Int} {k : Nat} (hx : (V.listI mem)[k]? = some node) (hc : (incs.length : Int) = V.countI mem) : isE mem incs node = true ∧ incs[k]? = some (incE mem incs node) := by
 have hh : V.hasB mem node = true := by
  cases h : V.hasB mem node
  ·exact absurd rfl (list_no_member h k node hx)
  ·rfl
 have h2 := (incE_yes hh hc).2
 rw [list_inj hx (list_member hh)]
 exact ⟨isE_yes hh hc, h2⟩
theorem inc_none {mem : Int} {incs : List Int} {node : Int} (h : ∀ (j : Nat) (x : Int), (V.listI mem)[j]? = some x → x ≠ node) : isE mem incs node = false := by
 refine isE_no_node ?_
 cases hh : V.hasB mem node
 ·rfl
 ·exact absurd rfl (h _ _ (list_member hh))
theorem refInc_any (t ep mem node : Int) (A : Option Addr) (c : Nat) (incs : List Int) (v : Value) (w : World) (h : V.Row w w.heap.size A incs) (_hl : incs.length ≤ maxLen) :
  Calls Tryz.prog 99 #[ev t ep mem (.slice A incs.length c) v, .int .i64 node] w fun e w' => e = .returned (.tuple #[.int .i64 (incE mem incs node), .bool (isE mem incs node)]) ∧ Below w.heap.size w w' := by
 unfold maxLen at _hl
 obtain ⟨I, hI⟩ : ∃ I, I = isE mem incs node := ⟨_, rfl⟩
 obtain ⟨X, hX⟩ : ∃ X, X = incE mem incs node := ⟨_, rfl⟩
 rw [← hI, ← hX]
 have HI := hid hI; clear hI
 have HX := hid hX; clear hX
 have b1 := Joins.below_alloc1 w (.cells #[.int .i64 t, .int .i64 ep, .int .i64 mem, .slice A incs.length c, v] 37)
 have e1 := EntAt.new w t ep mem (.slice A incs.length c) v
 have r1 := h.below b1 (Nat.le_refl _)
 generalize hW : w.alloc (.cells #[.int .i64 t, .int .i64 ep, .int .i64 mem, .slice A incs.length c, v] 37) = W at *
 obtain ⟨y0, y1, y2, y3, y4⟩ := e1.cells
 have HE := hid e1; clear e1
 have HB := hid b1; clear b1
 have HRW := hid r1; clear r1 h
 have hcl := V.countI_length mem
 have h16 := V.listI_length mem
 go_enter Tryz.func99, Tryz.ntmps99
 go_wp2_with fail; refine (V.refList_any mem _).mono ?_; rintro e w2 ⟨u, rfl, hrow, b2⟩
 clear hW y0 y1 y2 y3 y4
 obtain ⟨AL, cL, rfl, _, hR⟩ := V.Row.of_own hrow
 clear hrow
 have HB2 := hid (HB.out.trans (b2.mono HB.out.size))
 obtain ⟨y0, y1, y2, y3, y4⟩ := (HE.out.on b2).cells
 have HRW2 := hid (HRW.out.below b2 (by have := HB.out.size; omega))
 clear b2
 by_cases hc : (incs.length : Int) = V.countI mem
 ·have hq : (((V.listI mem).length : Int) != incs.length) = false := by rw [hcl, hc]; simp
  have HF := hid (fun k hx => inc_found (mem := mem) (incs := incs) (node := node) (k := k) hx hc)
  have HNO := hid (fun h => inc_none (mem := mem) (incs := incs) (node := node) h)
  have HNV := hid (fun h => incE_no (mem := mem) (incs := incs) (node := node) h)
  have hlen : (V.listI mem).length = incs.length := by omega
  have HLEN := hid hlen; clear hlen hc hcl
  generalize V.listI mem = LL at *
  go_wp2_with fail
  go_loopw [7] (fun ix wr => ∃ k : Nat, k ≤ LL.length ∧ ix = .int .i64 k ∧ (∀ (j : Nat) (x : Int), j < k → LL[j]? = some x → x ≠ node) ∧ wr = w2) (fun ix _ => LL.length - (intOf ix).toNat)
  case atStart => exact ⟨0, by omega, rfl, fun j x hj => absurd hj (by omega), rfl⟩
  case round =>
   obtain ⟨k, hk, rfl, hno, rfl⟩ := hrel
   have HN := hid hno; clear hno
   by_cases hlt : k < LL.length
   ·obtain ⟨x, hx⟩ : ∃ x, LL[k]? = some x := ⟨_, List.getElem?_eq_getElem hlt⟩
    obtain ⟨ad, rfl, _, hcc⟩ := hR (by omega)
    have hck := hcc k x hx
    by_cases hxn : x = node
    ·subst hxn
     obtain ⟨h1, h2⟩ := HF.out k hx
     obtain ⟨ad2, rfl, _, hcc2⟩ := HRW2.out (by have := HLEN.out; omega)
     rw [← HX.out] at h2
     have hck2 := hcc2 k X h2
     have hk2 : (k : Int) < incs.length := by have := HLEN.out; omega
     have hk3 : (0 : Int) ≤ k := by omega
     have HIT := hid (HI.out.trans h1)
     clear hcc hcc2 hx h2 h1
     go_wp2_with fail
     go_ret2
     exact ⟨by rw [HIT.out]; rfl, HB2.out⟩
    ·have hxe : ((x : Int) == node) = false := by simpa using hxn
     have HXN := hid hxn; clear hxn
     have HXX := hid hx; clear hx hcc
     go_wp2_with fail
     go_roundw
     case rel => exact ⟨k + 1, by omega, by go_num, fun j y hj hy => by
      rcases Nat.lt_or_ge j k with h | h
      ·exact HN.out j y h hy
      ·have : j = k := by omega
       subst this
       rw [HXX.out] at hy
       exact Option.some.inj hy ▸ HXN.out, trivial⟩
     case measure => simp [intOf]; omega
   ·have hI := HNO.out (fun j x hx => HN.out j x (by have := (List.getElem?_eq_some_iff.1 hx).1; omega) hx)
    have hX := HNV.out hI
    have HIT := hid (HI.out.trans hI)
    have HXT := hid (HX.out.trans hX)
    clear hR hI hX
    go_wp2_with fail
    go_ret2
    exact ⟨by rw [HIT.out, HXT.out]; rfl, HB2.out⟩
 ·have hq : (((V.listI mem).length : Int) != incs.length) = true := by rw [hcl]; simp; omega
  have hI := isE_no_count (node := node) hc
  have HIT := hid (HI.out.trans hI)
  have HXT := hid (HX.out.trans (incE_no hI))
  clear hI hc hR
  go_wp2_with fail
  go_ret2
  exact ⟨by rw [HIT.out, HXT.out]; rfl, HB2.out⟩
theorem any_take_snoc {l : List Msg} {k : Nat} {m : Msg} (hm : l[k]? = some m) (s : Int) : ((l.take (k + 1)).any fun x => decide (x.sender = s)) = (((l.take k).any fun x => decide (x.sender = s)) || decide (m.sender = s)) := by
 rw [List.take_add_one, hm]
 show ((l.take k ++ [m]).any _) = _
 rw [List.any_append]; simp
theorem ref_bad {mem : Int} {incs : List Int} {l : List Msg} {k : Nat} {m : Msg} (hm : l[k]? = some m) (hk : k + 1 ≤ l.length) (hu : memU mem incs l k = true)
  (hB : ((((!(rightM m)) || (!(isE mem incs m.sender))) || ((incE mem incs m.sender) != m.inc)) || ((decide (0 < k)) && (!(lessM (l.getD (k - 1) zeroM) m)))) = true) : (ordU l l.length && memU mem incs l l.length) = false := by
 simp only [Bool.or_eq_true, Bool.not_eq_true', Bool.and_eq_true, decide_eq_true_iff, bne_iff_ne] at hB
 rcases hB with ((hB | hB) | hB) | ⟨hB1, hB2⟩
 ·rw [ordU_false (k := k + 1) (by
   show (ordU l k && (rightM (l.getD k zeroM) && _)) = false
   rw [getD_at hm, hB]; simp) hk]; rfl
 ·rw [memU_false (k := k + 1) (by rw [memU_next hm hu, hB]; rfl) hk]; simp
 ·rw [memU_false (k := k + 1) (by rw [memU_next hm hu, decide_eq_false (fun e => hB e.symm)]; simp) hk]; simp
 ·rw [ordU_false (k := k + 1) (by
   show (ordU l k && (rightM (l.getD k zeroM) && (decide (k = 0) || lessM (l.getD (k - 1) zeroM) (l.getD k zeroM)))) = false
   rw [getD_at hm, hB2, decide_eq_false (show ¬ k = 0 by omega)]; simp) hk]; rfl
theorem ref_good {mem : Int} {incs : List Int} {l : List Msg} {k : Nat} {m : Msg} (hm : l[k]? = some m) (ho : ordU l k = true) (hu : memU mem incs l k = true)
  (hB : ((((!(rightM m)) || (!(isE mem incs m.sender))) || ((incE mem incs m.sender) != m.inc)) || ((decide (0 < k)) && (!(lessM (l.getD (k - 1) zeroM) m)))) = false) :
  ordU l (k + 1) = true ∧ memU mem incs l (k + 1) = !((l.take k).any fun x => decide (x.sender = m.sender)) := by
 simp only [Bool.or_eq_false_iff, Bool.not_eq_false', Bool.and_eq_false_iff, decide_eq_false_iff_not, bne_eq_false_iff_eq] at hB
 obtain ⟨⟨⟨h1, h2⟩, h3⟩, h4⟩ := hB
 refine ⟨?_, ?_⟩
 ·show (ordU l k && (rightM (l.getD k zeroM) && (decide (k = 0) || lessM (l.getD (k - 1) zeroM) (l.getD k zeroM)))) = true
  rw [getD_at hm, ho, h1]
  rcases h4 with h4 | h4
  ·rw [decide_eq_true (show k = 0 by omega)]; rfl
  ·rw [h4]; simp
 ·rw [memU_next hm hu, h2, decide_eq_true h3.symm]; simp
theorem rightE_ref1 (e : Ent) (h : (((((!(smallB e.t)) || (!(smallB e.ep))) || (decide (e.mem < 0))) || (decide (65535 < e.mem))) || ((e.incs.length : Int) != V.countI e.mem)) = true) : rightE e = false := by
 rw [← Bool.not_eq_true, rightE_iff]
 rintro ⟨h1, h2, h3, h4, h5, -⟩
 rw [(smallB_iff _).2 h1, (smallB_iff _).2 h2, decide_eq_false (show ¬ e.mem < 0 by omega), decide_eq_false (show ¬ 65535 < e.mem by omega), h5] at h
 simp at h
theorem rightE_ref2 (e : Ent) (h : (((((!(smallB e.t)) || (!(smallB e.ep))) || (decide (e.mem < 0))) || (decide (65535 < e.mem))) || ((e.incs.length : Int) != V.countI e.mem)) = false) (h2 : e.incs.all smallB = true) : rightE e = (ordU e.msgs e.msgs.length && memU e.mem e.incs e.msgs e.msgs.length) := by
 simp only [Bool.or_eq_false_iff, Bool.not_eq_false', decide_eq_false_iff_not, bne_eq_false_iff_eq] at h
 obtain ⟨⟨⟨⟨a1, a2⟩, a3⟩, a4⟩, a5⟩ := h
 unfold rightE
 rw [a1, a2, decide_eq_true (show 0 ≤ e.mem by omega), decide_eq_true (show e.mem ≤ 65535 by omega), a5, h2]
 simp
theorem rightE_ref3 (e : Ent) (h2 : e.incs.all smallB = false) : rightE e = false := by
 unfold rightE; rw [h2]; simp
theorem rightER_any (x : Ent) (A : Option Addr) (c : Nat) (A' : Option Addr) (c' : Nat) (w : World) (h : V.Row w w.heap.size A x.incs) (hM : Msgs w w.heap.size A' x.msgs) (hil : x.incs.length ≤ maxLen) (hl : x.msgs.length ≤ maxLen) (hd : ∀ m ∈ x.msgs, m.data.size ≤ maxLen) :
  Calls Tryz.prog 58 #[ev x.t x.ep x.mem (.slice A x.incs.length c) (.slice A' x.msgs.length c')] w fun e w' => e = .returned (.bool (rightE x)) ∧ Below w.heap.size w w' := by
 have hR1 := rightE_ref1 x
 have hR2 := rightE_ref2 x
 have hR3 := rightE_ref3 x
 obtain ⟨t, ep, mem, incs, l⟩ := x
 simp only at *
 have ni := hil
 have nl := hl
 unfold maxLen at ni nl
 generalize rightE ⟨t, ep, mem, incs, l⟩ = R at *
 have HR1 := hid hR1; clear hR1
 have HR2 := hid hR2; clear hR2
 have HR3 := hid hR3; clear hR3
 have HD := hid hd; clear hd
 have b1 := Joins.below_alloc1 w (.cells #[.int .i64 t, .int .i64 ep, .int .i64 mem, .slice A incs.length c, .slice A' l.length c'] 37)
 have e1 := EntAt.new w t ep mem (.slice A incs.length c) (.slice A' l.length c')
 have r1 := (h.below b1 (Nat.le_refl _)).more b1.size
 have m1 := (hM.below b1 (Nat.le_refl _)).more b1.size
 generalize hW : w.alloc (.cells #[.int .i64 t, .int .i64 ep, .int .i64 mem, .slice A incs.length c, .slice A' l.length c'] 37) = W at *
 have S1 := hid (fun W' => refSmall6_any t W')
 have S2 := hid (fun W' => refSmall6_any ep W')
 have CC := hid (fun W' => V.refCount_any mem W')
 have CI := hid (fun n W' (hG : Below W.heap.size W W') => refInc_any t ep mem n A c incs (.slice A' l.length c') W' ((r1.below hG (Nat.le_refl _)).more hG.size) hil)
 have HE := hid e1; clear e1
 have HB := hid b1; clear b1 h hM hil hl
 have HRW := hid r1; clear r1
 have HMW := hid m1; clear m1
 generalize hg : w.heap.size = b at *
 go_enter Tryz.func58, Tryz.ntmps58
 go_wp2_with fail
 clear hW
 have HV : ∃ O : Nat → (Nat → Value) → World → Prop, O = (fun ix u wv => match ix with
  | 0 => u 0 = .pointer (some ⟨b, 0, none⟩)
  | 1 => u 1 = .int .i64 t
  | 2 => u 2 = .bool (smallB t)
  | 3 => u 3 = .bool (!((smallB t)))
  | 4 => u 4 = .bool (!((smallB t)))
  | 5 => u 5 = if (!((!((smallB t))))) = true then .pointer (some ⟨b, 1, none⟩) else undef
  | 6 => u 6 = if (!((!((smallB t))))) = true then .int .i64 ep else undef
  | 7 => u 7 = if (!((!((smallB t))))) = true then .bool (smallB ep) else undef
  | 8 => u 8 = if (!((!((smallB t))))) = true then .bool (!((smallB ep))) else undef
  | 9 => u 9 = .bool ((!((smallB t))) || (!((smallB ep))))
  | 10 => u 10 = .bool ((!((smallB t))) || (!((smallB ep))))
  | 11 => u 11 = if (!(((!((smallB t))) || (!((smallB ep)))))) = true then .pointer (some ⟨b, 2, none⟩) else undef
  | 12 => u 12 = if (!(((!((smallB t))) || (!((smallB ep)))))) = true then .int .i64 mem else undef
  | 13 => u 13 = if (!(((!((smallB t))) || (!((smallB ep)))))) = true then .bool (decide (mem < 0)) else undef
  | 14 => u 14 = .bool (((!((smallB t))) || (!((smallB ep)))) || (decide (mem < 0)))
  | 15 => u 15 = .bool (((!((smallB t))) || (!((smallB ep)))) || (decide (mem < 0)))
  | 16 => u 16 = if (!((((!((smallB t))) || (!((smallB ep)))) || (decide (mem < 0))))) = true then .pointer (some ⟨b, 2, none⟩) else undef
  | 17 => u 17 = if (!((((!((smallB t))) || (!((smallB ep)))) || (decide (mem < 0))))) = true then .int .i64 mem else undef
  | 18 => u 18 = if (!((((!((smallB t))) || (!((smallB ep)))) || (decide (mem < 0))))) = true then .bool (decide (65535 < mem)) else undef
  | 19 => u 19 = .bool ((((!((smallB t))) || (!((smallB ep)))) || (decide (mem < 0))) || (decide (65535 < mem)))
  | 20 => u 20 = .bool ((((!((smallB t))) || (!((smallB ep)))) || (decide (mem < 0))) || (decide (65535 < mem)))
  | 21 => u 21 = if (!(((((!((smallB t))) || (!((smallB ep)))) || (decide (mem < 0))) || (decide (65535 < mem))))) = true then .pointer (some ⟨b, 3, none⟩) else undef
  | 22 => u 22 = if (!(((((!((smallB t))) || (!((smallB ep)))) || (decide (mem < 0))) || (decide (65535 < mem))))) = true then .slice A incs.length c else undef
  | 23 => u 23 = if (!(((((!((smallB t))) || (!((smallB ep)))) || (decide (mem < 0))) || (decide (65535 < mem))))) = true then .int .i64 (incs.length : Int) else undef
  | 24 => u 24 = if (!(((((!((smallB t))) || (!((smallB ep)))) || (decide (mem < 0))) || (decide (65535 < mem))))) = true then .pointer (some ⟨b, 2, none⟩) else undef
  | 25 => u 25 = if (!(((((!((smallB t))) || (!((smallB ep)))) || (decide (mem < 0))) || (decide (65535 < mem))))) = true then .int .i64 mem else undef
  | 26 => u 26 = if (!(((((!((smallB t))) || (!((smallB ep)))) || (decide (mem < 0))) || (decide (65535 < mem))))) = true then .int .i64 (V.countI mem) else undef
  | 27 => u 27 = if (!(((((!((smallB t))) || (!((smallB ep)))) || (decide (mem < 0))) || (decide (65535 < mem))))) = true then .bool ((incs.length : Int) != V.countI mem) else undef
  | 28 => u 28 = .bool (((((!((smallB t))) || (!((smallB ep)))) || (decide (mem < 0))) || (decide (65535 < mem))) || ((incs.length : Int) != V.countI mem))
  | _ => True) := ⟨_, rfl⟩
 obtain ⟨O, hd7⟩ := HV
 have O0 : ∀ u wv, O 0 u wv = (u 0 = .pointer (some ⟨b, 0, none⟩)) := fun u wv => by subst hd7; rfl
 have O1 : ∀ u wv, O 1 u wv = (u 1 = .int .i64 t) := fun u wv => by subst hd7; rfl
 have O2 : ∀ u wv, O 2 u wv = (u 2 = .bool (smallB t)) := fun u wv => by subst hd7; rfl
 have O3 : ∀ u wv, O 3 u wv = (u 3 = .bool (!((smallB t)))) := fun u wv => by subst hd7; rfl
 have O4 : ∀ u wv, O 4 u wv = (u 4 = .bool (!((smallB t)))) := fun u wv => by subst hd7; rfl
 have O5 : ∀ u wv, O 5 u wv = (u 5 = if (!((!((smallB t))))) = true then .pointer (some ⟨b, 1, none⟩) else undef) := fun u wv => by subst hd7; rfl
 have O6 : ∀ u wv, O 6 u wv = (u 6 = if (!((!((smallB t))))) = true then .int .i64 ep else undef) := fun u wv => by subst hd7; rfl
 have O7 : ∀ u wv, O 7 u wv = (u 7 = if (!((!((smallB t))))) = true then .bool (smallB ep) else undef) := fun u wv => by subst hd7; rfl
 have O8 : ∀ u wv, O 8 u wv = (u 8 = if (!((!((smallB t))))) = true then .bool (!((smallB ep))) else undef) := fun u wv => by subst hd7; rfl
 have O9 : ∀ u wv, O 9 u wv = (u 9 = .bool ((!((smallB t))) || (!((smallB ep))))) := fun u wv => by subst hd7; rfl
 have O10 : ∀ u wv, O 10 u wv = (u 10 = .bool ((!((smallB t))) || (!((smallB ep))))) := fun u wv => by subst hd7; rfl
 have O11 : ∀ u wv, O 11 u wv = (u 11 = if (!(((!((smallB t))) || (!((smallB ep)))))) = true then .pointer (some ⟨b, 2, none⟩) else undef) := fun u wv => by subst hd7; rfl
 have O12 : ∀ u wv, O 12 u wv = (u 12 = if (!(((!((smallB t))) || (!((smallB ep)))))) = true then .int .i64 mem else undef) := fun u wv => by subst hd7; rfl
 have O13 : ∀ u wv, O 13 u wv = (u 13 = if (!(((!((smallB t))) || (!((smallB ep)))))) = true then .bool (decide (mem < 0)) else undef) := fun u wv => by subst hd7; rfl
 have O14 : ∀ u wv, O 14 u wv = (u 14 = .bool (((!((smallB t))) || (!((smallB ep)))) || (decide (mem < 0)))) := fun u wv => by subst hd7; rfl
 have O15 : ∀ u wv, O 15 u wv = (u 15 = .bool (((!((smallB t))) || (!((smallB ep)))) || (decide (mem < 0)))) := fun u wv => by subst hd7; rfl
 have O16 : ∀ u wv, O 16 u wv = (u 16 = if (!((((!((smallB t))) || (!((smallB ep)))) || (decide (mem < 0))))) = true then .pointer (some ⟨b, 2, none⟩) else undef) := fun u wv => by subst hd7; rfl
 have O17 : ∀ u wv, O 17 u wv = (u 17 = if (!((((!((smallB t))) || (!((smallB ep)))) || (decide (mem < 0))))) = true then .int .i64 mem else undef) := fun u wv => by subst hd7; rfl
 have O18 : ∀ u wv, O 18 u wv = (u 18 = if (!((((!((smallB t))) || (!((smallB ep)))) || (decide (mem < 0))))) = true then .bool (decide (65535 < mem)) else undef) := fun u wv => by subst hd7; rfl
 have O19 : ∀ u wv, O 19 u wv = (u 19 = .bool ((((!((smallB t))) || (!((smallB ep)))) || (decide (mem < 0))) || (decide (65535 < mem)))) := fun u wv => by subst hd7; rfl
 have O20 : ∀ u wv, O 20 u wv = (u 20 = .bool ((((!((smallB t))) || (!((smallB ep)))) || (decide (mem < 0))) || (decide (65535 < mem)))) := fun u wv => by subst hd7; rfl
 have O21 : ∀ u wv, O 21 u wv = (u 21 = if (!(((((!((smallB t))) || (!((smallB ep)))) || (decide (mem < 0))) || (decide (65535 < mem))))) = true then .pointer (some ⟨b, 3, none⟩) else undef) := fun u wv => by subst hd7; rfl
 have O22 : ∀ u wv, O 22 u wv = (u 22 = if (!(((((!((smallB t))) || (!((smallB ep)))) || (decide (mem < 0))) || (decide (65535 < mem))))) = true then .slice A incs.length c else undef) := fun u wv => by subst hd7; rfl
 have O23 : ∀ u wv, O 23 u wv = (u 23 = if (!(((((!((smallB t))) || (!((smallB ep)))) || (decide (mem < 0))) || (decide (65535 < mem))))) = true then .int .i64 (incs.length : Int) else undef) := fun u wv => by subst hd7; rfl
 have O24 : ∀ u wv, O 24 u wv = (u 24 = if (!(((((!((smallB t))) || (!((smallB ep)))) || (decide (mem < 0))) || (decide (65535 < mem))))) = true then .pointer (some ⟨b, 2, none⟩) else undef) := fun u wv => by subst hd7; rfl
 have O25 : ∀ u wv, O 25 u wv = (u 25 = if (!(((((!((smallB t))) || (!((smallB ep)))) || (decide (mem < 0))) || (decide (65535 < mem))))) = true then .int .i64 mem else undef) := fun u wv => by subst hd7; rfl
 have O26 : ∀ u wv, O 26 u wv = (u 26 = if (!(((((!((smallB t))) || (!((smallB ep)))) || (decide (mem < 0))) || (decide (65535 < mem))))) = true then .int .i64 (V.countI mem) else undef) := fun u wv => by subst hd7; rfl
 have O27 : ∀ u wv, O 27 u wv = (u 27 = if (!(((((!((smallB t))) || (!((smallB ep)))) || (decide (mem < 0))) || (decide (65535 < mem))))) = true then .bool ((incs.length : Int) != V.countI mem) else undef) := fun u wv => by subst hd7; rfl
 have O28 : ∀ u wv, O 28 u wv = (u 28 = .bool (((((!((smallB t))) || (!((smallB ep)))) || (decide (mem < 0))) || (decide (65535 < mem))) || ((incs.length : Int) != V.countI mem))) := fun u wv => by subst hd7; rfl
 have HVD := hid hd7
 clear hd7
 refine region_each (V := O) (drop := fun _ _ => false) (G := fun wv => Below W.heap.size W wv) (Rel := fun jx wv wv' => Below wv.heap.size wv wv') (by kernel_rfl) (by kernel_rfl) (Below.refl _ _).drew ?hmonoc1 ?hdepc1 ⟨?s0_c1, ?s1_c1, ?s2_c1, ?s3_c1, ?s4_c1, ?s5_c1, ?s6_c1, ?s7_c1, ?s8_c1, ?s9_c1, ?s10_c1, ?s11_c1, ?s12_c1, ?s13_c1, ?s14_c1, ?s15_c1, ?s16_c1, ?s17_c1, ?s18_c1, ?s19_c1, ?s20_c1, ?s21_c1, ?s22_c1, ?s23_c1, ?s24_c1, ?s25_c1, ?s26_c1, ?s27_c1, ?s28_c1, trivial⟩ ?behindc1
 case hmonoc1 =>
  intro ix jx u wv wv' hij hw hd hr
  rw [HVD.out]
  dsimp only
  split <;> intro h <;> first | exact trivial | exact h
 case hdepc1 =>
  intro ix u u' wv h1 h2
  rw [HVD.out]
  dsimp only
  split <;> intro h <;> first | exact trivial | (rw [← h1]; exact h)
 case s0_c1 =>
  refine owe rfl fun a wx val hG hV hN hO K hK => ?_
  have e1 : a.tmps[1]? = some (.pointer (some ⟨b, 0, none⟩)) := (hO 1 (by kernel_rfl)).trans (by rfl)
  clear hV hN hO
  go_simp
  exact hK.out _ _ (by rw [O0, upd_at] <;> (congr 1 <;> omega)) (Below.refl _ _) hG
 case s1_c1 =>
  refine owe rfl fun a wx val hG hV hN hO K hK => ?_
  have e9 := hN 0 9 (by kernel_rfl) (by kernel_rfl) (by simp)
  have f9 := hV 0 (by kernel_rfl) (by kernel_rfl)
  rw [O0] at f9; rw [f9] at e9; clear f9
  clear hV hN hO
  obtain ⟨y0, y1, y2, y3, y4⟩ := (HE.out.on hG).cells
  go_simp
  exact hK.out _ _ (by rw [O1, upd_at] <;> (congr 1 <;> omega)) (Below.refl _ _) hG
 case s2_c1 =>
  refine owe rfl fun a wx val hG hV hN hO K hK => ?_
  have e10 := hN 1 10 (by kernel_rfl) (by kernel_rfl) (by simp)
  have f10 := hV 1 (by kernel_rfl) (by kernel_rfl)
  rw [O1] at f10; rw [f10] at e10; clear f10
  clear hV hN hO
  go_simp
  refine (S1.out _).mono ?_
  rintro e w11 ⟨rfl, rfl⟩
  exact hK.out _ _ (by rw [O2, upd_at]) (Below.refl _ _) hG
 case s3_c1 =>
  refine owe rfl fun a wx val hG hV hN hO K hK => ?_
  have e11 := hN 2 11 (by kernel_rfl) (by kernel_rfl) (by simp)
  have f11 := hV 2 (by kernel_rfl) (by kernel_rfl)
  rw [O2] at f11; rw [f11] at e11; clear f11
  clear hV hN hO
  go_simp
  exact hK.out _ _ (by rw [O3, upd_at] <;> (congr 1 <;> omega)) (Below.refl _ _) hG
 case s4_c1 =>
  refine owe rfl fun a wx val hG hV hN hO K hK => ?_
  have e12 := hN 3 12 (by kernel_rfl) (by kernel_rfl) (by simp)
  have f12 := hV 3 (by kernel_rfl) (by kernel_rfl)
  rw [O3] at f12; rw [f12] at e12; clear f12
  clear hV hN hO
  go_simp
  exact hK.out _ _ (by rw [O4, upd_at] <;> (congr 1 <;> omega)) (Below.refl _ _) hG
 case s5_c1 =>
  refine owe_cond (g := 4) (t := 13) (b := false) (c := (!((smallB t)))) (d := true) ((!((!((smallB t)))))) (by first | rfl | simp) rfl (by kernel_rfl) (by kernel_rfl) (by kernel_rfl) (by simp) (fun val w h => by rw [O4] at h; first | exact h | simpa using h) (fun hd a wx val hG hV hN hO K hK => ?_) (fun hd val w => by rw [O5, upd_at, if_neg (by rw [hd]; decide)])
  have e1 : a.tmps[1]? = some (.pointer (some ⟨b, 0, none⟩)) := (hO 1 (by kernel_rfl)).trans (by rfl)
  clear hV hN hO
  go_simp
  exact hK.out _ _ (by rw [O5, upd_at, if_pos hd] <;> (congr 1 <;> omega)) (Below.refl _ _) hG
 case s6_c1 =>
  refine owe_cond (g := 4) (t := 13) (b := false) (c := (!((smallB t)))) (d := true) ((!((!((smallB t)))))) (by first | rfl | simp) rfl (by kernel_rfl) (by kernel_rfl) (by kernel_rfl) (by simp) (fun val w h => by rw [O4] at h; first | exact h | simpa using h) (fun hd a wx val hG hV hN hO K hK => ?_) (fun hd val w => by rw [O6, upd_at, if_neg (by rw [hd]; decide)])
  have e14 := hN 5 14 (by kernel_rfl) (by kernel_rfl) (by simp)
  have f14 := hV 5 (by kernel_rfl) (by kernel_rfl)
  rw [O5] at f14; rw [f14] at e14; clear f14
  rw [if_pos hd] at e14
  clear hV hN hO
  obtain ⟨y0, y1, y2, y3, y4⟩ := (HE.out.on hG).cells
  go_simp
  exact hK.out _ _ (by rw [O6, upd_at, if_pos hd] <;> (congr 1 <;> omega)) (Below.refl _ _) hG
 case s7_c1 =>
  refine owe_cond (g := 4) (t := 13) (b := false) (c := (!((smallB t)))) (d := true) ((!((!((smallB t)))))) (by first | rfl | simp) rfl (by kernel_rfl) (by kernel_rfl) (by kernel_rfl) (by simp) (fun val w h => by rw [O4] at h; first | exact h | simpa using h) (fun hd a wx val hG hV hN hO K hK => ?_) (fun hd val w => by rw [O7, upd_at, if_neg (by rw [hd]; decide)])
  have e15 := hN 6 15 (by kernel_rfl) (by kernel_rfl) (by simp)
  have f15 := hV 6 (by kernel_rfl) (by kernel_rfl)
  rw [O6] at f15; rw [f15] at e15; clear f15
  rw [if_pos hd] at e15
  clear hV hN hO
  go_simp
  refine (S2.out _).mono ?_
  rintro e w11 ⟨rfl, rfl⟩
  exact hK.out _ _ (by rw [O7, upd_at, if_pos hd]) (Below.refl _ _) hG
 case s8_c1 =>
  refine owe_cond (g := 4) (t := 13) (b := false) (c := (!((smallB t)))) (d := true) ((!((!((smallB t)))))) (by first | rfl | simp) rfl (by kernel_rfl) (by kernel_rfl) (by kernel_rfl) (by simp) (fun val w h => by rw [O4] at h; first | exact h | simpa using h) (fun hd a wx val hG hV hN hO K hK => ?_) (fun hd val w => by rw [O8, upd_at, if_neg (by rw [hd]; decide)])
  have e16 := hN 7 16 (by kernel_rfl) (by kernel_rfl) (by simp)
  have f16 := hV 7 (by kernel_rfl) (by kernel_rfl)
  rw [O7] at f16; rw [f16] at e16; clear f16
  rw [if_pos hd] at e16
  clear hV hN hO
  go_simp
  exact hK.out _ _ (by rw [O8, upd_at, if_pos hd] <;> (congr 1 <;> omega)) (Below.refl _ _) hG
 case s9_c1 =>
  refine owe rfl fun a wx val hG hV hN hO K hK => ?_
  have e13 := hN 4 13 (by kernel_rfl) (by kernel_rfl) (by simp)
  have f13 := hV 4 (by kernel_rfl) (by kernel_rfl)
  rw [O4] at f13; rw [f13] at e13; clear f13
  have e17 := hN 8 17 (by kernel_rfl) (by kernel_rfl) (by simp)
  have f17 := hV 8 (by kernel_rfl) (by kernel_rfl)
  rw [O8] at f17; rw [f17] at e17; clear f17
  clear hV hN hO
  cases hcc : ((!((smallB t))))
  ·rw [hcc] at e13
   rw [if_pos (by first | exact hcc | (rw [hcc]; rfl) | simp [hcc])] at e17
   go_simp
   exact hK.out _ _ (by rw [O9, upd_at] <;> simp [hcc]) (Below.refl _ _) hG
  ·rw [hcc] at e13
   rw [if_neg (by first | (rw [hcc]; decide) | simp [hcc])] at e17
   go_simp
   exact hK.out _ _ (by rw [O9, upd_at] <;> simp [hcc]) (Below.refl _ _) hG
 case s10_c1 =>
  refine owe rfl fun a wx val hG hV hN hO K hK => ?_
  have e18 := hN 9 18 (by kernel_rfl) (by kernel_rfl) (by simp)
  have f18 := hV 9 (by kernel_rfl) (by kernel_rfl)
  rw [O9] at f18; rw [f18] at e18; clear f18
  clear hV hN hO
  go_simp
  exact hK.out _ _ (by rw [O10, upd_at] <;> (congr 1 <;> omega)) (Below.refl _ _) hG
 case s11_c1 =>
  refine owe_cond (g := 10) (t := 19) (b := false) (c := ((!((smallB t))) || (!((smallB ep))))) (d := true) ((!(((!((smallB t))) || (!((smallB ep))))))) (by first | rfl | simp) rfl (by kernel_rfl) (by kernel_rfl) (by kernel_rfl) (by simp) (fun val w h => by rw [O10] at h; first | exact h | simpa using h) (fun hd a wx val hG hV hN hO K hK => ?_) (fun hd val w => by rw [O11, upd_at, if_neg (by rw [hd]; decide)])
  have e1 : a.tmps[1]? = some (.pointer (some ⟨b, 0, none⟩)) := (hO 1 (by kernel_rfl)).trans (by rfl)
  clear hV hN hO
  go_simp
  exact hK.out _ _ (by rw [O11, upd_at, if_pos hd] <;> (congr 1 <;> omega)) (Below.refl _ _) hG
 case s12_c1 =>
  refine owe_cond (g := 10) (t := 19) (b := false) (c := ((!((smallB t))) || (!((smallB ep))))) (d := true) ((!(((!((smallB t))) || (!((smallB ep))))))) (by first | rfl | simp) rfl (by kernel_rfl) (by kernel_rfl) (by kernel_rfl) (by simp) (fun val w h => by rw [O10] at h; first | exact h | simpa using h) (fun hd a wx val hG hV hN hO K hK => ?_) (fun hd val w => by rw [O12, upd_at, if_neg (by rw [hd]; decide)])
  have e20 := hN 11 20 (by kernel_rfl) (by kernel_rfl) (by simp)
  have f20 := hV 11 (by kernel_rfl) (by kernel_rfl)
  rw [O11] at f20; rw [f20] at e20; clear f20
  rw [if_pos hd] at e20
  clear hV hN hO
  obtain ⟨y0, y1, y2, y3, y4⟩ := (HE.out.on hG).cells
  go_simp
  exact hK.out _ _ (by rw [O12, upd_at, if_pos hd] <;> (congr 1 <;> omega)) (Below.refl _ _) hG
 case s13_c1 =>
  refine owe_cond (g := 10) (t := 19) (b := false) (c := ((!((smallB t))) || (!((smallB ep))))) (d := true) ((!(((!((smallB t))) || (!((smallB ep))))))) (by first | rfl | simp) rfl (by kernel_rfl) (by kernel_rfl) (by kernel_rfl) (by simp) (fun val w h => by rw [O10] at h; first | exact h | simpa using h) (fun hd a wx val hG hV hN hO K hK => ?_) (fun hd val w => by rw [O13, upd_at, if_neg (by rw [hd]; decide)])
  have e21 := hN 12 21 (by kernel_rfl) (by kernel_rfl) (by simp)
  have f21 := hV 12 (by kernel_rfl) (by kernel_rfl)
  rw [O12] at f21; rw [f21] at e21; clear f21
  rw [if_pos hd] at e21
  clear hV hN hO
  go_simp
  exact hK.out _ _ (by rw [O13, upd_at, if_pos hd] <;> (congr 1 <;> omega)) (Below.refl _ _) hG
 case s14_c1 =>
  refine owe rfl fun a wx val hG hV hN hO K hK => ?_
  have e19 := hN 10 19 (by kernel_rfl) (by kernel_rfl) (by simp)
  have f19 := hV 10 (by kernel_rfl) (by kernel_rfl)
  rw [O10] at f19; rw [f19] at e19; clear f19
  have e22 := hN 13 22 (by kernel_rfl) (by kernel_rfl) (by simp)
  have f22 := hV 13 (by kernel_rfl) (by kernel_rfl)
  rw [O13] at f22; rw [f22] at e22; clear f22
  clear hV hN hO
  cases hcc : (((!((smallB t))) || (!((smallB ep)))))
  ·rw [hcc] at e19
   rw [if_pos (by first | exact hcc | (rw [hcc]; rfl) | simp [hcc])] at e22
   go_simp
   exact hK.out _ _ (by rw [O14, upd_at] <;> simp [hcc]) (Below.refl _ _) hG
  ·rw [hcc] at e19
   rw [if_neg (by first | (rw [hcc]; decide) | simp [hcc])] at e22
   go_simp
   exact hK.out _ _ (by rw [O14, upd_at] <;> simp [hcc]) (Below.refl _ _) hG
 case s15_c1 =>
  refine owe rfl fun a wx val hG hV hN hO K hK => ?_
  have e23 := hN 14 23 (by kernel_rfl) (by kernel_rfl) (by simp)
  have f23 := hV 14 (by kernel_rfl) (by kernel_rfl)
  rw [O14] at f23; rw [f23] at e23; clear f23
  clear hV hN hO
  go_simp
  exact hK.out _ _ (by rw [O15, upd_at] <;> (congr 1 <;> omega)) (Below.refl _ _) hG
 case s16_c1 =>
  refine owe_cond (g := 15) (t := 24) (b := false) (c := (((!((smallB t))) || (!((smallB ep)))) || (decide (mem < 0)))) (d := true) ((!((((!((smallB t))) || (!((smallB ep)))) || (decide (mem < 0)))))) (by first | rfl | simp) rfl (by kernel_rfl) (by kernel_rfl) (by kernel_rfl) (by simp) (fun val w h => by rw [O15] at h; first | exact h | simpa using h) (fun hd a wx val hG hV hN hO K hK => ?_) (fun hd val w => by rw [O16, upd_at, if_neg (by rw [hd]; decide)])
  have e1 : a.tmps[1]? = some (.pointer (some ⟨b, 0, none⟩)) := (hO 1 (by kernel_rfl)).trans (by rfl)
  clear hV hN hO
  go_simp
  exact hK.out _ _ (by rw [O16, upd_at, if_pos hd] <;> (congr 1 <;> omega)) (Below.refl _ _) hG
 case s17_c1 =>
  refine owe_cond (g := 15) (t := 24) (b := false) (c := (((!((smallB t))) || (!((smallB ep)))) || (decide (mem < 0)))) (d := true) ((!((((!((smallB t))) || (!((smallB ep)))) || (decide (mem < 0)))))) (by first | rfl | simp) rfl (by kernel_rfl) (by kernel_rfl) (by kernel_rfl) (by simp) (fun val w h => by rw [O15] at h; first | exact h | simpa using h) (fun hd a wx val hG hV hN hO K hK => ?_) (fun hd val w => by rw [O17, upd_at, if_neg (by rw [hd]; decide)])
  have e25 := hN 16 25 (by kernel_rfl) (by kernel_rfl) (by simp)
  have f25 := hV 16 (by kernel_rfl) (by kernel_rfl)
  rw [O16] at f25; rw [f25] at e25; clear f25
  rw [if_pos hd] at e25
  clear hV hN hO
  obtain ⟨y0, y1, y2, y3, y4⟩ := (HE.out.on hG).cells
  go_simp
  exact hK.out _ _ (by rw [O17, upd_at, if_pos hd] <;> (congr 1 <;> omega)) (Below.refl _ _) hG
 case s18_c1 =>
  refine owe_cond (g := 15) (t := 24) (b := false) (c := (((!((smallB t))) || (!((smallB ep)))) || (decide (mem < 0)))) (d := true) ((!((((!((smallB t))) || (!((smallB ep)))) || (decide (mem < 0)))))) (by first | rfl | simp) rfl (by kernel_rfl) (by kernel_rfl) (by kernel_rfl) (by simp) (fun val w h => by rw [O15] at h; first | exact h | simpa using h) (fun hd a wx val hG hV hN hO K hK => ?_) (fun hd val w => by rw [O18, upd_at, if_neg (by rw [hd]; decide)])
  have e26 := hN 17 26 (by kernel_rfl) (by kernel_rfl) (by simp)
  have f26 := hV 17 (by kernel_rfl) (by kernel_rfl)
  rw [O17] at f26; rw [f26] at e26; clear f26
  rw [if_pos hd] at e26
  clear hV hN hO
  go_simp
  exact hK.out _ _ (by rw [O18, upd_at, if_pos hd] <;> (congr 1 <;> omega)) (Below.refl _ _) hG
 case s19_c1 =>
  refine owe rfl fun a wx val hG hV hN hO K hK => ?_
  have e24 := hN 15 24 (by kernel_rfl) (by kernel_rfl) (by simp)
  have f24 := hV 15 (by kernel_rfl) (by kernel_rfl)
  rw [O15] at f24; rw [f24] at e24; clear f24
  have e27 := hN 18 27 (by kernel_rfl) (by kernel_rfl) (by simp)
  have f27 := hV 18 (by kernel_rfl) (by kernel_rfl)
  rw [O18] at f27; rw [f27] at e27; clear f27
  clear hV hN hO
  cases hcc : ((((!((smallB t))) || (!((smallB ep)))) || (decide (mem < 0))))
  ·rw [hcc] at e24
   rw [if_pos (by first | exact hcc | (rw [hcc]; rfl) | simp [hcc])] at e27
   go_simp
   exact hK.out _ _ (by rw [O19, upd_at] <;> simp [hcc]) (Below.refl _ _) hG
  ·rw [hcc] at e24
   rw [if_neg (by first | (rw [hcc]; decide) | simp [hcc])] at e27
   go_simp
   exact hK.out _ _ (by rw [O19, upd_at] <;> simp [hcc]) (Below.refl _ _) hG
 case s20_c1 =>
  refine owe rfl fun a wx val hG hV hN hO K hK => ?_
  have e28 := hN 19 28 (by kernel_rfl) (by kernel_rfl) (by simp)
  have f28 := hV 19 (by kernel_rfl) (by kernel_rfl)
  rw [O19] at f28; rw [f28] at e28; clear f28
  clear hV hN hO
  go_simp
  exact hK.out _ _ (by rw [O20, upd_at] <;> (congr 1 <;> omega)) (Below.refl _ _) hG
 case s21_c1 =>
  refine owe_cond (g := 20) (t := 29) (b := false) (c := ((((!((smallB t))) || (!((smallB ep)))) || (decide (mem < 0))) || (decide (65535 < mem)))) (d := true) ((!(((((!((smallB t))) || (!((smallB ep)))) || (decide (mem < 0))) || (decide (65535 < mem)))))) (by first | rfl | simp) rfl (by kernel_rfl) (by kernel_rfl) (by kernel_rfl) (by simp) (fun val w h => by rw [O20] at h; first | exact h | simpa using h) (fun hd a wx val hG hV hN hO K hK => ?_) (fun hd val w => by rw [O21, upd_at, if_neg (by rw [hd]; decide)])
  have e1 : a.tmps[1]? = some (.pointer (some ⟨b, 0, none⟩)) := (hO 1 (by kernel_rfl)).trans (by rfl)
  clear hV hN hO
  go_simp
  exact hK.out _ _ (by rw [O21, upd_at, if_pos hd] <;> (congr 1 <;> omega)) (Below.refl _ _) hG
 case s22_c1 =>
  refine owe_cond (g := 20) (t := 29) (b := false) (c := ((((!((smallB t))) || (!((smallB ep)))) || (decide (mem < 0))) || (decide (65535 < mem)))) (d := true) ((!(((((!((smallB t))) || (!((smallB ep)))) || (decide (mem < 0))) || (decide (65535 < mem)))))) (by first | rfl | simp) rfl (by kernel_rfl) (by kernel_rfl) (by kernel_rfl) (by simp) (fun val w h => by rw [O20] at h; first | exact h | simpa using h) (fun hd a wx val hG hV hN hO K hK => ?_) (fun hd val w => by rw [O22, upd_at, if_neg (by rw [hd]; decide)])
  have e30 := hN 21 30 (by kernel_rfl) (by kernel_rfl) (by simp)
  have f30 := hV 21 (by kernel_rfl) (by kernel_rfl)
  rw [O21] at f30; rw [f30] at e30; clear f30
  rw [if_pos hd] at e30
  clear hV hN hO
  obtain ⟨y0, y1, y2, y3, y4⟩ := (HE.out.on hG).cells
  go_simp
  exact hK.out _ _ (by rw [O22, upd_at, if_pos hd] <;> (congr 1 <;> omega)) (Below.refl _ _) hG
 case s23_c1 =>
  refine owe_cond (g := 20) (t := 29) (b := false) (c := ((((!((smallB t))) || (!((smallB ep)))) || (decide (mem < 0))) || (decide (65535 < mem)))) (d := true) ((!(((((!((smallB t))) || (!((smallB ep)))) || (decide (mem < 0))) || (decide (65535 < mem)))))) (by first | rfl | simp) rfl (by kernel_rfl) (by kernel_rfl) (by kernel_rfl) (by simp) (fun val w h => by rw [O20] at h; first | exact h | simpa using h) (fun hd a wx val hG hV hN hO K hK => ?_) (fun hd val w => by rw [O23, upd_at, if_neg (by rw [hd]; decide)])
  have e31 := hN 22 31 (by kernel_rfl) (by kernel_rfl) (by simp)
  have f31 := hV 22 (by kernel_rfl) (by kernel_rfl)
  rw [O22] at f31; rw [f31] at e31; clear f31
  rw [if_pos hd] at e31
  clear hV hN hO
  go_simp
  exact hK.out _ _ (by rw [O23, upd_at, if_pos hd] <;> (congr 1 <;> omega)) (Below.refl _ _) hG
 case s24_c1 =>
  refine owe_cond (g := 20) (t := 29) (b := false) (c := ((((!((smallB t))) || (!((smallB ep)))) || (decide (mem < 0))) || (decide (65535 < mem)))) (d := true) ((!(((((!((smallB t))) || (!((smallB ep)))) || (decide (mem < 0))) || (decide (65535 < mem)))))) (by first | rfl | simp) rfl (by kernel_rfl) (by kernel_rfl) (by kernel_rfl) (by simp) (fun val w h => by rw [O20] at h; first | exact h | simpa using h) (fun hd a wx val hG hV hN hO K hK => ?_) (fun hd val w => by rw [O24, upd_at, if_neg (by rw [hd]; decide)])
  have e1 : a.tmps[1]? = some (.pointer (some ⟨b, 0, none⟩)) := (hO 1 (by kernel_rfl)).trans (by rfl)
  clear hV hN hO
  go_simp
  exact hK.out _ _ (by rw [O24, upd_at, if_pos hd] <;> (congr 1 <;> omega)) (Below.refl _ _) hG
 case s25_c1 =>
  refine owe_cond (g := 20) (t := 29) (b := false) (c := ((((!((smallB t))) || (!((smallB ep)))) || (decide (mem < 0))) || (decide (65535 < mem)))) (d := true) ((!(((((!((smallB t))) || (!((smallB ep)))) || (decide (mem < 0))) || (decide (65535 < mem)))))) (by first | rfl | simp) rfl (by kernel_rfl) (by kernel_rfl) (by kernel_rfl) (by simp) (fun val w h => by rw [O20] at h; first | exact h | simpa using h) (fun hd a wx val hG hV hN hO K hK => ?_) (fun hd val w => by rw [O25, upd_at, if_neg (by rw [hd]; decide)])
  have e33 := hN 24 33 (by kernel_rfl) (by kernel_rfl) (by simp)
  have f33 := hV 24 (by kernel_rfl) (by kernel_rfl)
  rw [O24] at f33; rw [f33] at e33; clear f33
  rw [if_pos hd] at e33
  clear hV hN hO
  obtain ⟨y0, y1, y2, y3, y4⟩ := (HE.out.on hG).cells
  go_simp
  exact hK.out _ _ (by rw [O25, upd_at, if_pos hd] <;> (congr 1 <;> omega)) (Below.refl _ _) hG
 case s26_c1 =>
  refine owe_cond (g := 20) (t := 29) (b := false) (c := ((((!((smallB t))) || (!((smallB ep)))) || (decide (mem < 0))) || (decide (65535 < mem)))) (d := true) ((!(((((!((smallB t))) || (!((smallB ep)))) || (decide (mem < 0))) || (decide (65535 < mem)))))) (by first | rfl | simp) rfl (by kernel_rfl) (by kernel_rfl) (by kernel_rfl) (by simp) (fun val w h => by rw [O20] at h; first | exact h | simpa using h) (fun hd a wx val hG hV hN hO K hK => ?_) (fun hd val w => by rw [O26, upd_at, if_neg (by rw [hd]; decide)])
  have e34 := hN 25 34 (by kernel_rfl) (by kernel_rfl) (by simp)
  have f34 := hV 25 (by kernel_rfl) (by kernel_rfl)
  rw [O25] at f34; rw [f34] at e34; clear f34
  rw [if_pos hd] at e34
  clear hV hN hO
  go_simp
  refine (CC.out _).mono ?_
  rintro e w11 ⟨rfl, hb⟩
  exact hK.out _ _ (by rw [O26, upd_at, if_pos hd]) hb (hG.trans (hb.mono hG.size))
 case s27_c1 =>
  refine owe_cond (g := 20) (t := 29) (b := false) (c := ((((!((smallB t))) || (!((smallB ep)))) || (decide (mem < 0))) || (decide (65535 < mem)))) (d := true) ((!(((((!((smallB t))) || (!((smallB ep)))) || (decide (mem < 0))) || (decide (65535 < mem)))))) (by first | rfl | simp) rfl (by kernel_rfl) (by kernel_rfl) (by kernel_rfl) (by simp) (fun val w h => by rw [O20] at h; first | exact h | simpa using h) (fun hd a wx val hG hV hN hO K hK => ?_) (fun hd val w => by rw [O27, upd_at, if_neg (by rw [hd]; decide)])
  have e32 := hN 23 32 (by kernel_rfl) (by kernel_rfl) (by simp)
  have f32 := hV 23 (by kernel_rfl) (by kernel_rfl)
  rw [O23] at f32; rw [f32] at e32; clear f32
  rw [if_pos hd] at e32
  have e35 := hN 26 35 (by kernel_rfl) (by kernel_rfl) (by simp)
  have f35 := hV 26 (by kernel_rfl) (by kernel_rfl)
  rw [O26] at f35; rw [f35] at e35; clear f35
  rw [if_pos hd] at e35
  clear hV hN hO
  go_simp
  exact hK.out _ _ (by rw [O27, upd_at, if_pos hd] <;> (congr 1 <;> omega)) (Below.refl _ _) hG
 case s28_c1 =>
  refine owe rfl fun a wx val hG hV hN hO K hK => ?_
  have e29 := hN 20 29 (by kernel_rfl) (by kernel_rfl) (by simp)
  have f29 := hV 20 (by kernel_rfl) (by kernel_rfl)
  rw [O20] at f29; rw [f29] at e29; clear f29
  have e36 := hN 27 36 (by kernel_rfl) (by kernel_rfl) (by simp)
  have f36 := hV 27 (by kernel_rfl) (by kernel_rfl)
  rw [O27] at f36; rw [f36] at e36; clear f36
  clear hV hN hO
  cases hcc : (((((!((smallB t))) || (!((smallB ep)))) || (decide (mem < 0))) || (decide (65535 < mem))))
  ·rw [hcc] at e29
   rw [if_pos (by first | exact hcc | (rw [hcc]; rfl) | simp [hcc])] at e36
   go_simp
   exact hK.out _ _ (by rw [O28, upd_at] <;> simp [hcc]) (Below.refl _ _) hG
  ·rw [hcc] at e29
   rw [if_neg (by first | (rw [hcc]; decide) | simp [hcc])] at e36
   go_simp
   exact hK.out _ _ (by rw [O28, upd_at] <;> simp [hcc]) (Below.refl _ _) hG
 intro val wx hG hV
 have f0 := hV 0 (by simp) (fun _ _ => by rfl)
 rw [O0] at f0
 have f1 := hV 1 (by simp) (fun _ _ => by rfl)
 rw [O1] at f1
 have f2 := hV 2 (by simp) (fun _ _ => by rfl)
 rw [O2] at f2
 have f3 := hV 3 (by simp) (fun _ _ => by rfl)
 rw [O3] at f3
 have f4 := hV 4 (by simp) (fun _ _ => by rfl)
 rw [O4] at f4
 have f5 := hV 5 (by simp) (fun _ _ => by rfl)
 rw [O5] at f5
 have f6 := hV 6 (by simp) (fun _ _ => by rfl)
 rw [O6] at f6
 have f7 := hV 7 (by simp) (fun _ _ => by rfl)
 rw [O7] at f7
 have f8 := hV 8 (by simp) (fun _ _ => by rfl)
 rw [O8] at f8
 have f9 := hV 9 (by simp) (fun _ _ => by rfl)
 rw [O9] at f9
 have f10 := hV 10 (by simp) (fun _ _ => by rfl)
 rw [O10] at f10
 have f11 := hV 11 (by simp) (fun _ _ => by rfl)
 rw [O11] at f11
 have f12 := hV 12 (by simp) (fun _ _ => by rfl)
 rw [O12] at f12
 have f13 := hV 13 (by simp) (fun _ _ => by rfl)
 rw [O13] at f13
 have f14 := hV 14 (by simp) (fun _ _ => by rfl)
 rw [O14] at f14
 have f15 := hV 15 (by simp) (fun _ _ => by rfl)
 rw [O15] at f15
 have f16 := hV 16 (by simp) (fun _ _ => by rfl)
 rw [O16] at f16
 have f17 := hV 17 (by simp) (fun _ _ => by rfl)
 rw [O17] at f17
 have f18 := hV 18 (by simp) (fun _ _ => by rfl)
 rw [O18] at f18
 have f19 := hV 19 (by simp) (fun _ _ => by rfl)
 rw [O19] at f19
 have f20 := hV 20 (by simp) (fun _ _ => by rfl)
 rw [O20] at f20
 have f21 := hV 21 (by simp) (fun _ _ => by rfl)
 rw [O21] at f21
 have f22 := hV 22 (by simp) (fun _ _ => by rfl)
 rw [O22] at f22
 have f23 := hV 23 (by simp) (fun _ _ => by rfl)
 rw [O23] at f23
 have f24 := hV 24 (by simp) (fun _ _ => by rfl)
 rw [O24] at f24
 have f25 := hV 25 (by simp) (fun _ _ => by rfl)
 rw [O25] at f25
 have f26 := hV 26 (by simp) (fun _ _ => by rfl)
 rw [O26] at f26
 have f27 := hV 27 (by simp) (fun _ _ => by rfl)
 rw [O27] at f27
 have f28 := hV 28 (by simp) (fun _ _ => by rfl)
 rw [O28] at f28
 clear hV O0 O1 O2 O3 O4 O5 O6 O7 O8 O9 O10 O11 O12 O13 O14 O15 O16 O17 O18 O19 O20 O21 O22 O23 O24 O25 O26 O27 O28
 simp only [putAll, Act.put, List.setIfInBounds_toArray, List.set_cons_zero, List.set_cons_succ]
 generalize val 0 = z0, val 1 = z1, val 2 = z2, val 3 = z3, val 4 = z4 at *
 subst f0 f1 f2 f3 f4
 generalize val 5 = z5 at *; clear f5
 generalize val 6 = z6 at *; clear f6
 generalize val 7 = z7 at *; clear f7
 generalize val 8 = z8 at *; clear f8
 generalize val 9 = z9, val 10 = z10 at *
 subst f9 f10
 generalize val 11 = z11 at *; clear f11
 generalize val 12 = z12 at *; clear f12
 generalize val 13 = z13 at *; clear f13
 generalize val 14 = z14, val 15 = z15 at *
 subst f14 f15
 generalize val 16 = z16 at *; clear f16
 generalize val 17 = z17 at *; clear f17
 generalize val 18 = z18 at *; clear f18
 generalize val 19 = z19, val 20 = z20 at *
 subst f19 f20
 generalize val 21 = z21 at *; clear f21
 generalize val 22 = z22 at *; clear f22
 generalize val 23 = z23 at *; clear f23
 generalize val 24 = z24 at *; clear f24
 generalize val 25 = z25 at *; clear f25
 generalize val 26 = z26 at *; clear f26
 generalize val 27 = z27 at *; clear f27
 generalize val 28 = z28 at *
 subst f28
 clear HVD
 have hbw : b ≤ W.heap.size := by have := HB.out.size; rw [hg] at this; exact this
 have HB1 := hid (HB.out.trans (hG.mono hbw))
 have HG1 := hid hG; clear hG
 have HLE : Hid (b ≤ W.heap.size) := hid hbw; clear hbw
 obtain ⟨y0, y1, y2, y3, y4⟩ := (HE.out.on HG1.out).cells
 cases hB : ((((((!(smallB t)) || (!(smallB ep))) || (decide (mem < 0))) || (decide (65535 < mem))) || ((incs.length : Int) != V.countI mem)))
 ·-- the Incs
  have HR2' := hid (HR2.out hB)
  clear HR1 HR2 hB S1 S2 CC
  go_wp2_with fail
  go_loopw [3] (fun ix wr => ∃ k : Nat, k ≤ incs.length ∧ ix = .int .i64 k ∧ (incs.take k).all smallB = true ∧ wr = wx) (fun ix _ => incs.length - (intOf ix).toNat)
  case atStart => exact ⟨0, by omega, rfl, rfl, rfl⟩
  case round =>
   obtain ⟨k, hk, rfl, hal, rfl⟩ := hrel
   have HAL := hid hal; clear hal
   by_cases hlt : k < incs.length
   ·obtain ⟨n, hx⟩ : ∃ n, incs[k]? = some n := ⟨_, List.getElem?_eq_getElem hlt⟩
    obtain ⟨ad, rfl, _, hcc⟩ := HRW.out.below HG1.out (Nat.le_refl _) (by omega)
    have hck := hcc k n hx
    have cs := fun W' => refSmall6_any n W'
    have HT := hid (all_take incs k n hx)
    have HM := hid (all_miss incs k n hx)
    clear hcc hx
    cases hs : smallB n
    ·have HRF := hid (HR3.out (HM.out hs))
     rw [hs] at cs
     clear hs
     go_wp2_with fail; refine (cs _).mono ?_; rintro e w1 ⟨rfl, rfl⟩
     go_wp2_with fail
     go_ret
     exact ⟨ret_b HRF.out.symm, HB1.out⟩
    ·have HS := hid hs
     rw [hs] at cs
     clear hs
     go_wp2_with fail; refine (cs _).mono ?_; rintro e w1 ⟨rfl, rfl⟩
     go_wp2_with fail
     go_roundw
     case rel => exact ⟨k + 1, by omega, by go_num, by rw [HT.out, HAL.out, HS.out]; rfl, trivial⟩
     case measure => simp [intOf]; omega
   ·have ek : k = incs.length := by omega
    subst ek
    have hal := HAL.out
    rw [List.take_length] at hal
    have HR := hid (HR2'.out hal)
    clear HR2' HR3 HAL hal
    go_wp2_with fail
    go_loopw [4, 5, 6, 7, 8] (fun ix _ _ _ _ wr => ∃ k : Nat, k ≤ l.length ∧ ix = .int .i64 k ∧ ordU l k = true ∧ memU mem incs l k = true ∧ Below W.heap.size W wr) (fun ix _ _ _ _ _ => l.length - (intOf ix).toNat)
    case atStart => exact ⟨0, by omega, rfl, rfl, rfl, HG1.out⟩
    case round =>
     obtain ⟨k, hk, rfl, ho, hu, hbr⟩ := hrel
     have HBR := hid hbr; clear hbr y0 y1 y2 y3 y4
     obtain ⟨y0, y1, y2, y3, y4⟩ := (HE.out.on HBR.out).cells
     by_cases hlt : k < l.length
     ·obtain ⟨m, hm⟩ : ∃ m, l[k]? = some m := ⟨_, List.getElem?_eq_getElem hlt⟩
      obtain ⟨ad, rfl, had, hcc⟩ := HMW.out.below HBR.out (Nat.le_refl _) (by omega)
      have hck := hcc k m hm
      have HBAD := hid (ref_bad (incs := incs) (mem := mem) hm (by omega) hu)
      have HGOOD := hid (ref_good (incs := incs) (mem := mem) hm ho hu)
      have hmd := HD.out m (List.mem_of_getElem? hm)
      have cr := fun W' => refRightM_any m hmd W'
      have clp := fun W' => refLessM_any (l.getD (k - 1) zeroM) m W'
      have hbn := Joins.below_alloc1 wr (.cells (mc m) 109)
      have hM1 : MsgAt (wr.alloc (.cells (mc m) 109)) wr.heap.size m := heap_alloc_new wr _
      have hB1 := HBR.out.trans (hbn.mono HBR.out.size)
      have HMM := hid hm; clear hm
      have HM1 := hid hM1; clear hM1 hcc
      have HB2 := hid hB1; clear hB1 hbn
      obtain ⟨me, mn, ms, mi, mq, mu, md⟩ := m
      simp only [mc] at *
      obtain ⟨a0, a1, a2, a3, a4, a5, a6⟩ := hck
      simp only at a0 a1 a2 a3 a4 a5 a6
      go_upto_region 12 with (fail)
      generalize wr.alloc (.cells #[.bool me, .int .i64 mn, .int .i64 ms, .int .i64 mi, .int .i64 mq, .int .i64 mu, .string md] 109) = W1 at *
      generalize wr.heap.size = g at *
      clear a0 a1 a2 a3 a4 a5 a6 y0 y1 y2 y3 y4
      obtain ⟨_, x0, x1, x2, x3, x4, x5, x6⟩ := Holds.of_blk HM1.out
      simp only at x0 x1 x2 x3 x4 x5 x6
      obtain ⟨y0, y1, y2, y3, y4⟩ := (HE.out.on HB2.out).cells
      go_wp2_with fail; refine (CI.out ms _ HB2.out).mono ?_; rintro e w2 ⟨rfl, b2⟩
      have HB3 := hid (HB2.out.trans (b2.mono HB2.out.size))
      have HM2 := hid (HM1.out.on b2)
      clear b2 x0 x1 x2 x3 x4 x5 x6 y0 y1 y2 y3 y4 HB2 HM1
      go_wp2_with fail
      have QW : Hid (IntKind.i64.wrap ((k : Int) - 1) = (k : Int) - 1) := hid (IntWalk.i64_in _ (by omega))
      have QI : Hid (0 < k → (0 : Int) ≤ (k : Int) - 1 ∧ (k : Int) - 1 < l.length) := hid (by omega)
      have hmr := HMW.out.below HB3.out (Nat.le_refl _)
      obtain ⟨ad', ead, had2, hcc2⟩ := hmr (by omega)
      obtain rfl : ad = ad' := Option.some.inj ead
      have HPV : Hid (0 < k → ∀ wx', Below w2.heap.size w2 wx' → At7 wx' (ad.add ((k - 1) * 7)) (l.getD (k - 1) zeroM)) := hid (by
       intro hk0 wx' hb'
       have hj : l[k - 1]? = some l[k - 1] := List.getElem?_eq_getElem (by omega)
       have h7 := hcc2 (k - 1) _ hj
       rw [getD_at hj]
       exact h7.keep fun q hq => hb'.cell (by rw [hq, adb]; have := HB3.out.size; omega))
      clear hmr ead hcc2
      generalize hPP : l.getD (k - 1) zeroM = p at *
      have HV : ∃ O : Nat → (Nat → Value) → World → Prop, O = (fun ix u wv => match ix with
       | 0 => u 0 = .agg #[.bool me, .int .i64 mn, .int .i64 ms, .int .i64 mi, .int .i64 mq, .int .i64 mu, .string md]
       | 1 => u 1 = .bool (rightM ⟨me, mn, ms, mi, mq, mu, md⟩)
       | 2 => u 2 = .bool (!((rightM ⟨me, mn, ms, mi, mq, mu, md⟩)))
       | 3 => u 3 = .bool (!((rightM ⟨me, mn, ms, mi, mq, mu, md⟩)))
       | 4 => u 4 = if (!((!((rightM ⟨me, mn, ms, mi, mq, mu, md⟩))))) = true then .bool (isE mem incs ms) else undef
       | 5 => u 5 = if (!((!((rightM ⟨me, mn, ms, mi, mq, mu, md⟩))))) = true then .bool (!((isE mem incs ms))) else undef
       | 6 => u 6 = .bool ((!((rightM ⟨me, mn, ms, mi, mq, mu, md⟩))) || (!((isE mem incs ms))))
       | 7 => u 7 = .bool ((!((rightM ⟨me, mn, ms, mi, mq, mu, md⟩))) || (!((isE mem incs ms))))
       | 8 => u 8 = if (!(((!((rightM ⟨me, mn, ms, mi, mq, mu, md⟩))) || (!((isE mem incs ms)))))) = true then .int .i64 (incE mem incs ms) else undef
       | 9 => u 9 = if (!(((!((rightM ⟨me, mn, ms, mi, mq, mu, md⟩))) || (!((isE mem incs ms)))))) = true then .pointer (some ⟨g, 3, none⟩) else undef
       | 10 => u 10 = if (!(((!((rightM ⟨me, mn, ms, mi, mq, mu, md⟩))) || (!((isE mem incs ms)))))) = true then .int .i64 mi else undef
       | 11 => u 11 = if (!(((!((rightM ⟨me, mn, ms, mi, mq, mu, md⟩))) || (!((isE mem incs ms)))))) = true then .bool ((incE mem incs ms) != mi) else undef
       | 12 => u 12 = .bool (((!((rightM ⟨me, mn, ms, mi, mq, mu, md⟩))) || (!((isE mem incs ms)))) || ((incE mem incs ms) != mi))
       | 13 => u 13 = .bool (((!((rightM ⟨me, mn, ms, mi, mq, mu, md⟩))) || (!((isE mem incs ms)))) || ((incE mem incs ms) != mi))
       | 14 => u 14 = if (!((((!((rightM ⟨me, mn, ms, mi, mq, mu, md⟩))) || (!((isE mem incs ms)))) || ((incE mem incs ms) != mi)))) = true then .int .i64 (k : Int) else undef
       | 15 => u 15 = if (!((((!((rightM ⟨me, mn, ms, mi, mq, mu, md⟩))) || (!((isE mem incs ms)))) || ((incE mem incs ms) != mi)))) = true then .bool (decide (0 < k)) else undef
       | 16 => u 16 = if (!((((!((rightM ⟨me, mn, ms, mi, mq, mu, md⟩))) || (!((isE mem incs ms)))) || ((incE mem incs ms) != mi)))) = true then .bool (decide (0 < k)) else undef
       | 17 => u 17 = if ((!((((!((rightM ⟨me, mn, ms, mi, mq, mu, md⟩))) || (!((isE mem incs ms)))) || ((incE mem incs ms) != mi)))) && (decide (0 < k))) = true then .pointer (some ⟨b, 4, none⟩) else undef
       | 18 => u 18 = if ((!((((!((rightM ⟨me, mn, ms, mi, mq, mu, md⟩))) || (!((isE mem incs ms)))) || ((incE mem incs ms) != mi)))) && (decide (0 < k))) = true then .slice (some ad) l.length c' else undef
       | 19 => u 19 = if ((!((((!((rightM ⟨me, mn, ms, mi, mq, mu, md⟩))) || (!((isE mem incs ms)))) || ((incE mem incs ms) != mi)))) && (decide (0 < k))) = true then .int .i64 (k : Int) else undef
       | 20 => u 20 = if ((!((((!((rightM ⟨me, mn, ms, mi, mq, mu, md⟩))) || (!((isE mem incs ms)))) || ((incE mem incs ms) != mi)))) && (decide (0 < k))) = true then .int .i64 ((k : Int) - 1) else undef
       | 21 => u 21 = if ((!((((!((rightM ⟨me, mn, ms, mi, mq, mu, md⟩))) || (!((isE mem incs ms)))) || ((incE mem incs ms) != mi)))) && (decide (0 < k))) = true then .pointer (some (ad.add ((k - 1) * 7))) else undef
       | 22 => u 22 = if ((!((((!((rightM ⟨me, mn, ms, mi, mq, mu, md⟩))) || (!((isE mem incs ms)))) || ((incE mem incs ms) != mi)))) && (decide (0 < k))) = true then .agg #[.bool p.ext, .int .i64 p.n, .int .i64 p.sender, .int .i64 p.inc, .int .i64 p.seq, .int .i64 p.number, .string p.data] else undef
       | 23 => u 23 = if ((!((((!((rightM ⟨me, mn, ms, mi, mq, mu, md⟩))) || (!((isE mem incs ms)))) || ((incE mem incs ms) != mi)))) && (decide (0 < k))) = true then .agg #[.bool me, .int .i64 mn, .int .i64 ms, .int .i64 mi, .int .i64 mq, .int .i64 mu, .string md] else undef
       | 24 => u 24 = if ((!((((!((rightM ⟨me, mn, ms, mi, mq, mu, md⟩))) || (!((isE mem incs ms)))) || ((incE mem incs ms) != mi)))) && (decide (0 < k))) = true then .bool (lessM p ⟨me, mn, ms, mi, mq, mu, md⟩) else undef
       | 25 => u 25 = if ((!((((!((rightM ⟨me, mn, ms, mi, mq, mu, md⟩))) || (!((isE mem incs ms)))) || ((incE mem incs ms) != mi)))) && (decide (0 < k))) = true then .bool (!((lessM p ⟨me, mn, ms, mi, mq, mu, md⟩))) else undef
       | 26 => u 26 = if (!((((!((rightM ⟨me, mn, ms, mi, mq, mu, md⟩))) || (!((isE mem incs ms)))) || ((incE mem incs ms) != mi)))) = true then .bool ((decide (0 < k)) && (!((lessM p ⟨me, mn, ms, mi, mq, mu, md⟩)))) else undef
       | 27 => u 27 = .bool ((((!((rightM ⟨me, mn, ms, mi, mq, mu, md⟩))) || (!((isE mem incs ms)))) || ((incE mem incs ms) != mi)) || ((decide (0 < k)) && (!((lessM p ⟨me, mn, ms, mi, mq, mu, md⟩)))))
       | _ => True) := ⟨_, rfl⟩
      obtain ⟨O, hd7⟩ := HV
      have O0 : ∀ u wv, O 0 u wv = (u 0 = .agg #[.bool me, .int .i64 mn, .int .i64 ms, .int .i64 mi, .int .i64 mq, .int .i64 mu, .string md]) := fun u wv => by subst hd7; rfl
      have O1 : ∀ u wv, O 1 u wv = (u 1 = .bool (rightM ⟨me, mn, ms, mi, mq, mu, md⟩)) := fun u wv => by subst hd7; rfl
      have O2 : ∀ u wv, O 2 u wv = (u 2 = .bool (!((rightM ⟨me, mn, ms, mi, mq, mu, md⟩)))) := fun u wv => by subst hd7; rfl
      have O3 : ∀ u wv, O 3 u wv = (u 3 = .bool (!((rightM ⟨me, mn, ms, mi, mq, mu, md⟩)))) := fun u wv => by subst hd7; rfl
      have O4 : ∀ u wv, O 4 u wv = (u 4 = if (!((!((rightM ⟨me, mn, ms, mi, mq, mu, md⟩))))) = true then .bool (isE mem incs ms) else undef) := fun u wv => by subst hd7; rfl
      have O5 : ∀ u wv, O 5 u wv = (u 5 = if (!((!((rightM ⟨me, mn, ms, mi, mq, mu, md⟩))))) = true then .bool (!((isE mem incs ms))) else undef) := fun u wv => by subst hd7; rfl
      have O6 : ∀ u wv, O 6 u wv = (u 6 = .bool ((!((rightM ⟨me, mn, ms, mi, mq, mu, md⟩))) || (!((isE mem incs ms))))) := fun u wv => by subst hd7; rfl
      have O7 : ∀ u wv, O 7 u wv = (u 7 = .bool ((!((rightM ⟨me, mn, ms, mi, mq, mu, md⟩))) || (!((isE mem incs ms))))) := fun u wv => by subst hd7; rfl
      have O8 : ∀ u wv, O 8 u wv = (u 8 = if (!(((!((rightM ⟨me, mn, ms, mi, mq, mu, md⟩))) || (!((isE mem incs ms)))))) = true then .int .i64 (incE mem incs ms) else undef) := fun u wv => by subst hd7; rfl
      have O9 : ∀ u wv, O 9 u wv = (u 9 = if (!(((!((rightM ⟨me, mn, ms, mi, mq, mu, md⟩))) || (!((isE mem incs ms)))))) = true then .pointer (some ⟨g, 3, none⟩) else undef) := fun u wv => by subst hd7; rfl
      have O10 : ∀ u wv, O 10 u wv = (u 10 = if (!(((!((rightM ⟨me, mn, ms, mi, mq, mu, md⟩))) || (!((isE mem incs ms)))))) = true then .int .i64 mi else undef) := fun u wv => by subst hd7; rfl
      have O11 : ∀ u wv, O 11 u wv = (u 11 = if (!(((!((rightM ⟨me, mn, ms, mi, mq, mu, md⟩))) || (!((isE mem incs ms)))))) = true then .bool ((incE mem incs ms) != mi) else undef) := fun u wv => by subst hd7; rfl
      have O12 : ∀ u wv, O 12 u wv = (u 12 = .bool (((!((rightM ⟨me, mn, ms, mi, mq, mu, md⟩))) || (!((isE mem incs ms)))) || ((incE mem incs ms) != mi))) := fun u wv => by subst hd7; rfl
      have O13 : ∀ u wv, O 13 u wv = (u 13 = .bool (((!((rightM ⟨me, mn, ms, mi, mq, mu, md⟩))) || (!((isE mem incs ms)))) || ((incE mem incs ms) != mi))) := fun u wv => by subst hd7; rfl
      have O14 : ∀ u wv, O 14 u wv = (u 14 = if (!((((!((rightM ⟨me, mn, ms, mi, mq, mu, md⟩))) || (!((isE mem incs ms)))) || ((incE mem incs ms) != mi)))) = true then .int .i64 (k : Int) else undef) := fun u wv => by subst hd7; rfl
      have O15 : ∀ u wv, O 15 u wv = (u 15 = if (!((((!((rightM ⟨me, mn, ms, mi, mq, mu, md⟩))) || (!((isE mem incs ms)))) || ((incE mem incs ms) != mi)))) = true then .bool (decide (0 < k)) else undef) := fun u wv => by subst hd7; rfl
      have O16 : ∀ u wv, O 16 u wv = (u 16 = if (!((((!((rightM ⟨me, mn, ms, mi, mq, mu, md⟩))) || (!((isE mem incs ms)))) || ((incE mem incs ms) != mi)))) = true then .bool (decide (0 < k)) else undef) := fun u wv => by subst hd7; rfl
      have O17 : ∀ u wv, O 17 u wv = (u 17 = if ((!((((!((rightM ⟨me, mn, ms, mi, mq, mu, md⟩))) || (!((isE mem incs ms)))) || ((incE mem incs ms) != mi)))) && (decide (0 < k))) = true then .pointer (some ⟨b, 4, none⟩) else undef) := fun u wv => by subst hd7; rfl
      have O18 : ∀ u wv, O 18 u wv = (u 18 = if ((!((((!((rightM ⟨me, mn, ms, mi, mq, mu, md⟩))) || (!((isE mem incs ms)))) || ((incE mem incs ms) != mi)))) && (decide (0 < k))) = true then .slice (some ad) l.length c' else undef) := fun u wv => by subst hd7; rfl
      have O19 : ∀ u wv, O 19 u wv = (u 19 = if ((!((((!((rightM ⟨me, mn, ms, mi, mq, mu, md⟩))) || (!((isE mem incs ms)))) || ((incE mem incs ms) != mi)))) && (decide (0 < k))) = true then .int .i64 (k : Int) else undef) := fun u wv => by subst hd7; rfl
      have O20 : ∀ u wv, O 20 u wv = (u 20 = if ((!((((!((rightM ⟨me, mn, ms, mi, mq, mu, md⟩))) || (!((isE mem incs ms)))) || ((incE mem incs ms) != mi)))) && (decide (0 < k))) = true then .int .i64 ((k : Int) - 1) else undef) := fun u wv => by subst hd7; rfl
      have O21 : ∀ u wv, O 21 u wv = (u 21 = if ((!((((!((rightM ⟨me, mn, ms, mi, mq, mu, md⟩))) || (!((isE mem incs ms)))) || ((incE mem incs ms) != mi)))) && (decide (0 < k))) = true then .pointer (some (ad.add ((k - 1) * 7))) else undef) := fun u wv => by subst hd7; rfl
      have O22 : ∀ u wv, O 22 u wv = (u 22 = if ((!((((!((rightM ⟨me, mn, ms, mi, mq, mu, md⟩))) || (!((isE mem incs ms)))) || ((incE mem incs ms) != mi)))) && (decide (0 < k))) = true then .agg #[.bool p.ext, .int .i64 p.n, .int .i64 p.sender, .int .i64 p.inc, .int .i64 p.seq, .int .i64 p.number, .string p.data] else undef) := fun u wv => by subst hd7; rfl
      have O23 : ∀ u wv, O 23 u wv = (u 23 = if ((!((((!((rightM ⟨me, mn, ms, mi, mq, mu, md⟩))) || (!((isE mem incs ms)))) || ((incE mem incs ms) != mi)))) && (decide (0 < k))) = true then .agg #[.bool me, .int .i64 mn, .int .i64 ms, .int .i64 mi, .int .i64 mq, .int .i64 mu, .string md] else undef) := fun u wv => by subst hd7; rfl
      have O24 : ∀ u wv, O 24 u wv = (u 24 = if ((!((((!((rightM ⟨me, mn, ms, mi, mq, mu, md⟩))) || (!((isE mem incs ms)))) || ((incE mem incs ms) != mi)))) && (decide (0 < k))) = true then .bool (lessM p ⟨me, mn, ms, mi, mq, mu, md⟩) else undef) := fun u wv => by subst hd7; rfl
      have O25 : ∀ u wv, O 25 u wv = (u 25 = if ((!((((!((rightM ⟨me, mn, ms, mi, mq, mu, md⟩))) || (!((isE mem incs ms)))) || ((incE mem incs ms) != mi)))) && (decide (0 < k))) = true then .bool (!((lessM p ⟨me, mn, ms, mi, mq, mu, md⟩))) else undef) := fun u wv => by subst hd7; rfl
      have O26 : ∀ u wv, O 26 u wv = (u 26 = if (!((((!((rightM ⟨me, mn, ms, mi, mq, mu, md⟩))) || (!((isE mem incs ms)))) || ((incE mem incs ms) != mi)))) = true then .bool ((decide (0 < k)) && (!((lessM p ⟨me, mn, ms, mi, mq, mu, md⟩)))) else undef) := fun u wv => by subst hd7; rfl
      have O27 : ∀ u wv, O 27 u wv = (u 27 = .bool ((((!((rightM ⟨me, mn, ms, mi, mq, mu, md⟩))) || (!((isE mem incs ms)))) || ((incE mem incs ms) != mi)) || ((decide (0 < k)) && (!((lessM p ⟨me, mn, ms, mi, mq, mu, md⟩)))))) := fun u wv => by subst hd7; rfl
      have HVD := hid hd7
      clear hd7
      refine region_each (V := O) (drop := fun _ _ => false) (G := fun wv => Below w2.heap.size w2 wv) (Rel := fun jx wv wv' => Below wv.heap.size wv wv') (by kernel_rfl) (by kernel_rfl) (Below.refl _ _).drew ?hmonoc2 ?hdepc2 ⟨?s0_c2, ?s1_c2, ?s2_c2, ?s3_c2, ?s4_c2, ?s5_c2, ?s6_c2, ?s7_c2, ?s8_c2, ?s9_c2, ?s10_c2, ?s11_c2, ?s12_c2, ?s13_c2, ?s14_c2, ?s15_c2, ?s16_c2, ?s17_c2, ?s18_c2, ?s19_c2, ?s20_c2, ?s21_c2, ?s22_c2, ?s23_c2, ?s24_c2, ?s25_c2, ?s26_c2, ?s27_c2, trivial⟩ ?behindc2
      case hmonoc2 =>
       intro ix jx u wv wv' hij hw hd hr
       rw [HVD.out]
       dsimp only
       split <;> intro h <;> first | exact trivial | exact h
      case hdepc2 =>
       intro ix u u' wv h1 h2
       rw [HVD.out]
       dsimp only
       split <;> intro h <;> first | exact trivial | (rw [← h1]; exact h)
      case s0_c2 =>
       refine owe rfl fun a wx val hG hV hN hO K hK => ?_
       have e5 : a.tmps[5]? = some (.pointer (some ⟨g, 0, none⟩)) := (hO 5 (by kernel_rfl)).trans (by rfl)
       clear hV hN hO
       obtain ⟨_, x0, x1, x2, x3, x4, x5, x6⟩ := Holds.of_blk (HM2.out.on hG)
       simp only at x0 x1 x2 x3 x4 x5 x6
       obtain ⟨y0, y1, y2, y3, y4⟩ := (HE.out.on (HB3.out.trans (hG.mono HB3.out.size))).cells
       go_simp
       exact hK.out _ _ (by rw [O0, upd_at] <;> (congr 1 <;> omega)) (Below.refl _ _) hG
      case s1_c2 =>
       refine owe rfl fun a wx val hG hV hN hO K hK => ?_
       have e71 := hN 0 71 (by kernel_rfl) (by kernel_rfl) (by simp)
       have f71 := hV 0 (by kernel_rfl) (by kernel_rfl)
       rw [O0] at f71; rw [f71] at e71; clear f71
       clear hV hN hO
       go_simp
       refine (cr _).mono ?_
       rintro e w11 ⟨rfl, hb⟩
       exact hK.out _ _ (by rw [O1, upd_at]) hb (hG.trans (hb.mono hG.size))
      case s2_c2 =>
       refine owe rfl fun a wx val hG hV hN hO K hK => ?_
       have e72 := hN 1 72 (by kernel_rfl) (by kernel_rfl) (by simp)
       have f72 := hV 1 (by kernel_rfl) (by kernel_rfl)
       rw [O1] at f72; rw [f72] at e72; clear f72
       clear hV hN hO
       go_simp
       exact hK.out _ _ (by rw [O2, upd_at] <;> (congr 1 <;> omega)) (Below.refl _ _) hG
      case s3_c2 =>
       refine owe rfl fun a wx val hG hV hN hO K hK => ?_
       have e73 := hN 2 73 (by kernel_rfl) (by kernel_rfl) (by simp)
       have f73 := hV 2 (by kernel_rfl) (by kernel_rfl)
       rw [O2] at f73; rw [f73] at e73; clear f73
       clear hV hN hO
       go_simp
       exact hK.out _ _ (by rw [O3, upd_at] <;> (congr 1 <;> omega)) (Below.refl _ _) hG
      case s4_c2 =>
       refine owe_cond (g := 3) (t := 74) (b := false) (c := (!((rightM ⟨me, mn, ms, mi, mq, mu, md⟩)))) (d := true) ((!((!((rightM ⟨me, mn, ms, mi, mq, mu, md⟩)))))) (by first | rfl | simp) rfl (by kernel_rfl) (by kernel_rfl) (by kernel_rfl) (by simp) (fun val w h => by rw [O3] at h; first | exact h | simpa using h) (fun hd a wx val hG hV hN hO K hK => ?_) (fun hd val w => by rw [O4, upd_at, if_neg (by rw [hd]; decide)])
       have e7 : a.tmps[7]? = some (.bool (isE mem incs ms)) := (hO 7 (by kernel_rfl)).trans (by rfl)
       clear hV hN hO
       go_simp
       exact hK.out _ _ (by rw [O4, upd_at, if_pos hd] <;> (congr 1 <;> omega)) (Below.refl _ _) hG
      case s5_c2 =>
       refine owe_cond (g := 3) (t := 74) (b := false) (c := (!((rightM ⟨me, mn, ms, mi, mq, mu, md⟩)))) (d := true) ((!((!((rightM ⟨me, mn, ms, mi, mq, mu, md⟩)))))) (by first | rfl | simp) rfl (by kernel_rfl) (by kernel_rfl) (by kernel_rfl) (by simp) (fun val w h => by rw [O3] at h; first | exact h | simpa using h) (fun hd a wx val hG hV hN hO K hK => ?_) (fun hd val w => by rw [O5, upd_at, if_neg (by rw [hd]; decide)])
       have e75 := hN 4 75 (by kernel_rfl) (by kernel_rfl) (by simp)
       have f75 := hV 4 (by kernel_rfl) (by kernel_rfl)
       rw [O4] at f75; rw [f75] at e75; clear f75
       rw [if_pos hd] at e75
       clear hV hN hO
       go_simp
       exact hK.out _ _ (by rw [O5, upd_at, if_pos hd] <;> (congr 1 <;> omega)) (Below.refl _ _) hG
      case s6_c2 =>
       refine owe rfl fun a wx val hG hV hN hO K hK => ?_
       have e74 := hN 3 74 (by kernel_rfl) (by kernel_rfl) (by simp)
       have f74 := hV 3 (by kernel_rfl) (by kernel_rfl)
       rw [O3] at f74; rw [f74] at e74; clear f74
       have e76 := hN 5 76 (by kernel_rfl) (by kernel_rfl) (by simp)
       have f76 := hV 5 (by kernel_rfl) (by kernel_rfl)
       rw [O5] at f76; rw [f76] at e76; clear f76
       clear hV hN hO
       cases hcc : ((!((rightM ⟨me, mn, ms, mi, mq, mu, md⟩))))
       ·rw [hcc] at e74
        rw [if_pos (by first | exact hcc | (rw [hcc]; rfl) | simp [hcc])] at e76
        go_simp
        exact hK.out _ _ (by rw [O6, upd_at] <;> simp [hcc]) (Below.refl _ _) hG
       ·rw [hcc] at e74
        rw [if_neg (by first | (rw [hcc]; decide) | simp [hcc])] at e76
        go_simp
        exact hK.out _ _ (by rw [O6, upd_at] <;> simp [hcc]) (Below.refl _ _) hG
      case s7_c2 =>
       refine owe rfl fun a wx val hG hV hN hO K hK => ?_
       have e77 := hN 6 77 (by kernel_rfl) (by kernel_rfl) (by simp)
       have f77 := hV 6 (by kernel_rfl) (by kernel_rfl)
       rw [O6] at f77; rw [f77] at e77; clear f77
       clear hV hN hO
       go_simp
       exact hK.out _ _ (by rw [O7, upd_at] <;> (congr 1 <;> omega)) (Below.refl _ _) hG
      case s8_c2 =>
       refine owe_cond (g := 7) (t := 78) (b := false) (c := ((!((rightM ⟨me, mn, ms, mi, mq, mu, md⟩))) || (!((isE mem incs ms))))) (d := true) ((!(((!((rightM ⟨me, mn, ms, mi, mq, mu, md⟩))) || (!((isE mem incs ms))))))) (by first | rfl | simp) rfl (by kernel_rfl) (by kernel_rfl) (by kernel_rfl) (by simp) (fun val w h => by rw [O7] at h; first | exact h | simpa using h) (fun hd a wx val hG hV hN hO K hK => ?_) (fun hd val w => by rw [O8, upd_at, if_neg (by rw [hd]; decide)])
       have e6 : a.tmps[6]? = some (.int .i64 (incE mem incs ms)) := (hO 6 (by kernel_rfl)).trans (by rfl)
       clear hV hN hO
       go_simp
       exact hK.out _ _ (by rw [O8, upd_at, if_pos hd] <;> (congr 1 <;> omega)) (Below.refl _ _) hG
      case s9_c2 =>
       refine owe_cond (g := 7) (t := 78) (b := false) (c := ((!((rightM ⟨me, mn, ms, mi, mq, mu, md⟩))) || (!((isE mem incs ms))))) (d := true) ((!(((!((rightM ⟨me, mn, ms, mi, mq, mu, md⟩))) || (!((isE mem incs ms))))))) (by first | rfl | simp) rfl (by kernel_rfl) (by kernel_rfl) (by kernel_rfl) (by simp) (fun val w h => by rw [O7] at h; first | exact h | simpa using h) (fun hd a wx val hG hV hN hO K hK => ?_) (fun hd val w => by rw [O9, upd_at, if_neg (by rw [hd]; decide)])
       have e5 : a.tmps[5]? = some (.pointer (some ⟨g, 0, none⟩)) := (hO 5 (by kernel_rfl)).trans (by rfl)
       clear hV hN hO
       go_simp
       exact hK.out _ _ (by rw [O9, upd_at, if_pos hd] <;> (congr 1 <;> omega)) (Below.refl _ _) hG
      case s10_c2 =>
       refine owe_cond (g := 7) (t := 78) (b := false) (c := ((!((rightM ⟨me, mn, ms, mi, mq, mu, md⟩))) || (!((isE mem incs ms))))) (d := true) ((!(((!((rightM ⟨me, mn, ms, mi, mq, mu, md⟩))) || (!((isE mem incs ms))))))) (by first | rfl | simp) rfl (by kernel_rfl) (by kernel_rfl) (by kernel_rfl) (by simp) (fun val w h => by rw [O7] at h; first | exact h | simpa using h) (fun hd a wx val hG hV hN hO K hK => ?_) (fun hd val w => by rw [O10, upd_at, if_neg (by rw [hd]; decide)])
       have e80 := hN 9 80 (by kernel_rfl) (by kernel_rfl) (by simp)
       have f80 := hV 9 (by kernel_rfl) (by kernel_rfl)
       rw [O9] at f80; rw [f80] at e80; clear f80
       rw [if_pos hd] at e80
       clear hV hN hO
       obtain ⟨_, x0, x1, x2, x3, x4, x5, x6⟩ := Holds.of_blk (HM2.out.on hG)
       simp only at x0 x1 x2 x3 x4 x5 x6
       obtain ⟨y0, y1, y2, y3, y4⟩ := (HE.out.on (HB3.out.trans (hG.mono HB3.out.size))).cells
       go_simp
       exact hK.out _ _ (by rw [O10, upd_at, if_pos hd] <;> (congr 1 <;> omega)) (Below.refl _ _) hG
      case s11_c2 =>
       refine owe_cond (g := 7) (t := 78) (b := false) (c := ((!((rightM ⟨me, mn, ms, mi, mq, mu, md⟩))) || (!((isE mem incs ms))))) (d := true) ((!(((!((rightM ⟨me, mn, ms, mi, mq, mu, md⟩))) || (!((isE mem incs ms))))))) (by first | rfl | simp) rfl (by kernel_rfl) (by kernel_rfl) (by kernel_rfl) (by simp) (fun val w h => by rw [O7] at h; first | exact h | simpa using h) (fun hd a wx val hG hV hN hO K hK => ?_) (fun hd val w => by rw [O11, upd_at, if_neg (by rw [hd]; decide)])
       have e79 := hN 8 79 (by kernel_rfl) (by kernel_rfl) (by simp)
       have f79 := hV 8 (by kernel_rfl) (by kernel_rfl)
       rw [O8] at f79; rw [f79] at e79; clear f79
       rw [if_pos hd] at e79
       have e81 := hN 10 81 (by kernel_rfl) (by kernel_rfl) (by simp)
       have f81 := hV 10 (by kernel_rfl) (by kernel_rfl)
       rw [O10] at f81; rw [f81] at e81; clear f81
       rw [if_pos hd] at e81
       clear hV hN hO
       go_simp
       exact hK.out _ _ (by rw [O11, upd_at, if_pos hd] <;> (congr 1 <;> omega)) (Below.refl _ _) hG
      case s12_c2 =>
       refine owe rfl fun a wx val hG hV hN hO K hK => ?_
       have e78 := hN 7 78 (by kernel_rfl) (by kernel_rfl) (by simp)
       have f78 := hV 7 (by kernel_rfl) (by kernel_rfl)
       rw [O7] at f78; rw [f78] at e78; clear f78
       have e82 := hN 11 82 (by kernel_rfl) (by kernel_rfl) (by simp)
       have f82 := hV 11 (by kernel_rfl) (by kernel_rfl)
       rw [O11] at f82; rw [f82] at e82; clear f82
       clear hV hN hO
       cases hcc : (((!((rightM ⟨me, mn, ms, mi, mq, mu, md⟩))) || (!((isE mem incs ms)))))
       ·rw [hcc] at e78
        rw [if_pos (by first | exact hcc | (rw [hcc]; rfl) | simp [hcc])] at e82
        go_simp
        exact hK.out _ _ (by rw [O12, upd_at] <;> simp [hcc]) (Below.refl _ _) hG
       ·rw [hcc] at e78
        rw [if_neg (by first | (rw [hcc]; decide) | simp [hcc])] at e82
        go_simp
        exact hK.out _ _ (by rw [O12, upd_at] <;> simp [hcc]) (Below.refl _ _) hG
      case s13_c2 =>
       refine owe rfl fun a wx val hG hV hN hO K hK => ?_
       have e83 := hN 12 83 (by kernel_rfl) (by kernel_rfl) (by simp)
       have f83 := hV 12 (by kernel_rfl) (by kernel_rfl)
       rw [O12] at f83; rw [f83] at e83; clear f83
       clear hV hN hO
       go_simp
       exact hK.out _ _ (by rw [O13, upd_at] <;> (congr 1 <;> omega)) (Below.refl _ _) hG
      case s14_c2 =>
       refine owe_cond (g := 13) (t := 84) (b := false) (c := (((!((rightM ⟨me, mn, ms, mi, mq, mu, md⟩))) || (!((isE mem incs ms)))) || ((incE mem incs ms) != mi))) (d := true) ((!((((!((rightM ⟨me, mn, ms, mi, mq, mu, md⟩))) || (!((isE mem incs ms)))) || ((incE mem incs ms) != mi))))) (by first | rfl | simp) rfl (by kernel_rfl) (by kernel_rfl) (by kernel_rfl) (by simp) (fun val w h => by rw [O13] at h; first | exact h | simpa using h) (fun hd a wx val hG hV hN hO K hK => ?_) (fun hd val w => by rw [O14, upd_at, if_neg (by rw [hd]; decide)])
       have e4 : a.tmps[4]? = some (.int .i64 (k : Int)) := (hO 4 (by kernel_rfl)).trans (by rfl)
       clear hV hN hO
       go_simp
       exact hK.out _ _ (by rw [O14, upd_at, if_pos hd] <;> (congr 1 <;> omega)) (Below.refl _ _) hG
      case s15_c2 =>
       refine owe_cond (g := 13) (t := 84) (b := false) (c := (((!((rightM ⟨me, mn, ms, mi, mq, mu, md⟩))) || (!((isE mem incs ms)))) || ((incE mem incs ms) != mi))) (d := true) ((!((((!((rightM ⟨me, mn, ms, mi, mq, mu, md⟩))) || (!((isE mem incs ms)))) || ((incE mem incs ms) != mi))))) (by first | rfl | simp) rfl (by kernel_rfl) (by kernel_rfl) (by kernel_rfl) (by simp) (fun val w h => by rw [O13] at h; first | exact h | simpa using h) (fun hd a wx val hG hV hN hO K hK => ?_) (fun hd val w => by rw [O15, upd_at, if_neg (by rw [hd]; decide)])
       have e85 := hN 14 85 (by kernel_rfl) (by kernel_rfl) (by simp)
       have f85 := hV 14 (by kernel_rfl) (by kernel_rfl)
       rw [O14] at f85; rw [f85] at e85; clear f85
       rw [if_pos hd] at e85
       clear hV hN hO
       go_simp
       exact hK.out _ _ (by rw [O15, upd_at, if_pos hd] <;> (congr 1 <;> omega)) (Below.refl _ _) hG
      case s16_c2 =>
       refine owe_cond (g := 13) (t := 84) (b := false) (c := (((!((rightM ⟨me, mn, ms, mi, mq, mu, md⟩))) || (!((isE mem incs ms)))) || ((incE mem incs ms) != mi))) (d := true) ((!((((!((rightM ⟨me, mn, ms, mi, mq, mu, md⟩))) || (!((isE mem incs ms)))) || ((incE mem incs ms) != mi))))) (by first | rfl | simp) rfl (by kernel_rfl) (by kernel_rfl) (by kernel_rfl) (by simp) (fun val w h => by rw [O13] at h; first | exact h | simpa using h) (fun hd a wx val hG hV hN hO K hK => ?_) (fun hd val w => by rw [O16, upd_at, if_neg (by rw [hd]; decide)])
       have e86 := hN 15 86 (by kernel_rfl) (by kernel_rfl) (by simp)
       have f86 := hV 15 (by kernel_rfl) (by kernel_rfl)
       rw [O15] at f86; rw [f86] at e86; clear f86
       rw [if_pos hd] at e86
       clear hV hN hO
       go_simp
       exact hK.out _ _ (by rw [O16, upd_at, if_pos hd] <;> (congr 1 <;> omega)) (Below.refl _ _) hG
      case s17_c2 =>
       refine owe_cond (g := 16) (t := 87) (b := true) (c := (decide (0 < k))) (d := (!((((!((rightM ⟨me, mn, ms, mi, mq, mu, md⟩))) || (!((isE mem incs ms)))) || ((incE mem incs ms) != mi))))) (((!((((!((rightM ⟨me, mn, ms, mi, mq, mu, md⟩))) || (!((isE mem incs ms)))) || ((incE mem incs ms) != mi)))) && (decide (0 < k)))) (by first | rfl | simp) rfl (by kernel_rfl) (by kernel_rfl) (by kernel_rfl) (by simp) (fun val w h => by rw [O16] at h; first | exact h | simpa using h) (fun hd a wx val hG hV hN hO K hK => ?_) (fun hd val w => by rw [O17, upd_at, if_neg (by rw [hd]; decide)])
       have e1 : a.tmps[1]? = some (.pointer (some ⟨b, 0, none⟩)) := (hO 1 (by kernel_rfl)).trans (by rfl)
       clear hV hN hO
       go_simp
       exact hK.out _ _ (by rw [O17, upd_at, if_pos hd] <;> (congr 1 <;> omega)) (Below.refl _ _) hG
      case s18_c2 =>
       refine owe_cond (g := 16) (t := 87) (b := true) (c := (decide (0 < k))) (d := (!((((!((rightM ⟨me, mn, ms, mi, mq, mu, md⟩))) || (!((isE mem incs ms)))) || ((incE mem incs ms) != mi))))) (((!((((!((rightM ⟨me, mn, ms, mi, mq, mu, md⟩))) || (!((isE mem incs ms)))) || ((incE mem incs ms) != mi)))) && (decide (0 < k)))) (by first | rfl | simp) rfl (by kernel_rfl) (by kernel_rfl) (by kernel_rfl) (by simp) (fun val w h => by rw [O16] at h; first | exact h | simpa using h) (fun hd a wx val hG hV hN hO K hK => ?_) (fun hd val w => by rw [O18, upd_at, if_neg (by rw [hd]; decide)])
       have e88 := hN 17 88 (by kernel_rfl) (by kernel_rfl) (by simp)
       have f88 := hV 17 (by kernel_rfl) (by kernel_rfl)
       rw [O17] at f88; rw [f88] at e88; clear f88
       rw [if_pos hd] at e88
       clear hV hN hO
       obtain ⟨_, x0, x1, x2, x3, x4, x5, x6⟩ := Holds.of_blk (HM2.out.on hG)
       simp only at x0 x1 x2 x3 x4 x5 x6
       obtain ⟨y0, y1, y2, y3, y4⟩ := (HE.out.on (HB3.out.trans (hG.mono HB3.out.size))).cells
       go_simp
       exact hK.out _ _ (by rw [O18, upd_at, if_pos hd] <;> (congr 1 <;> omega)) (Below.refl _ _) hG
      case s19_c2 =>
       refine owe_cond (g := 16) (t := 87) (b := true) (c := (decide (0 < k))) (d := (!((((!((rightM ⟨me, mn, ms, mi, mq, mu, md⟩))) || (!((isE mem incs ms)))) || ((incE mem incs ms) != mi))))) (((!((((!((rightM ⟨me, mn, ms, mi, mq, mu, md⟩))) || (!((isE mem incs ms)))) || ((incE mem incs ms) != mi)))) && (decide (0 < k)))) (by first | rfl | simp) rfl (by kernel_rfl) (by kernel_rfl) (by kernel_rfl) (by simp) (fun val w h => by rw [O16] at h; first | exact h | simpa using h) (fun hd a wx val hG hV hN hO K hK => ?_) (fun hd val w => by rw [O19, upd_at, if_neg (by rw [hd]; decide)])
       have e4 : a.tmps[4]? = some (.int .i64 (k : Int)) := (hO 4 (by kernel_rfl)).trans (by rfl)
       clear hV hN hO
       go_simp
       exact hK.out _ _ (by rw [O19, upd_at, if_pos hd] <;> (congr 1 <;> omega)) (Below.refl _ _) hG
      case s20_c2 =>
       refine owe_cond (g := 16) (t := 87) (b := true) (c := (decide (0 < k))) (d := (!((((!((rightM ⟨me, mn, ms, mi, mq, mu, md⟩))) || (!((isE mem incs ms)))) || ((incE mem incs ms) != mi))))) (((!((((!((rightM ⟨me, mn, ms, mi, mq, mu, md⟩))) || (!((isE mem incs ms)))) || ((incE mem incs ms) != mi)))) && (decide (0 < k)))) (by first | rfl | simp) rfl (by kernel_rfl) (by kernel_rfl) (by kernel_rfl) (by simp) (fun val w h => by rw [O16] at h; first | exact h | simpa using h) (fun hd a wx val hG hV hN hO K hK => ?_) (fun hd val w => by rw [O20, upd_at, if_neg (by rw [hd]; decide)])
       have e90 := hN 19 90 (by kernel_rfl) (by kernel_rfl) (by simp)
       have f90 := hV 19 (by kernel_rfl) (by kernel_rfl)
       rw [O19] at f90; rw [f90] at e90; clear f90
       rw [if_pos hd] at e90
       clear hV hN hO
       have q1 := QW.out
       go_simp
       exact hK.out _ _ (by rw [O20, upd_at, if_pos hd] <;> (congr 1 <;> omega)) (Below.refl _ _) hG
      case s21_c2 =>
       refine owe_cond (g := 16) (t := 87) (b := true) (c := (decide (0 < k))) (d := (!((((!((rightM ⟨me, mn, ms, mi, mq, mu, md⟩))) || (!((isE mem incs ms)))) || ((incE mem incs ms) != mi))))) (((!((((!((rightM ⟨me, mn, ms, mi, mq, mu, md⟩))) || (!((isE mem incs ms)))) || ((incE mem incs ms) != mi)))) && (decide (0 < k)))) (by first | rfl | simp) rfl (by kernel_rfl) (by kernel_rfl) (by kernel_rfl) (by simp) (fun val w h => by rw [O16] at h; first | exact h | simpa using h) (fun hd a wx val hG hV hN hO K hK => ?_) (fun hd val w => by rw [O21, upd_at, if_neg (by rw [hd]; decide)])
       have e89 := hN 18 89 (by kernel_rfl) (by kernel_rfl) (by simp)
       have f89 := hV 18 (by kernel_rfl) (by kernel_rfl)
       rw [O18] at f89; rw [f89] at e89; clear f89
       rw [if_pos hd] at e89
       have e91 := hN 20 91 (by kernel_rfl) (by kernel_rfl) (by simp)
       have f91 := hV 20 (by kernel_rfl) (by kernel_rfl)
       rw [O20] at f91; rw [f91] at e91; clear f91
       rw [if_pos hd] at e91
       clear hV hN hO
       have q0 : 0 < k := by (have h5 := hd; simp only [Bool.and_eq_true, decide_eq_true_iff] at h5; exact h5.2)
       obtain ⟨q1, q2⟩ := QI.out q0
       have q3 : (1 : Int) ≤ k := by omega
       go_simp
       exact hK.out _ _ (by rw [O21, upd_at, if_pos hd] <;> (congr 1 <;> omega)) (Below.refl _ _) hG
      case s22_c2 =>
       refine owe_cond (g := 16) (t := 87) (b := true) (c := (decide (0 < k))) (d := (!((((!((rightM ⟨me, mn, ms, mi, mq, mu, md⟩))) || (!((isE mem incs ms)))) || ((incE mem incs ms) != mi))))) (((!((((!((rightM ⟨me, mn, ms, mi, mq, mu, md⟩))) || (!((isE mem incs ms)))) || ((incE mem incs ms) != mi)))) && (decide (0 < k)))) (by first | rfl | simp) rfl (by kernel_rfl) (by kernel_rfl) (by kernel_rfl) (by simp) (fun val w h => by rw [O16] at h; first | exact h | simpa using h) (fun hd a wx val hG hV hN hO K hK => ?_) (fun hd val w => by rw [O22, upd_at, if_neg (by rw [hd]; decide)])
       have e92 := hN 21 92 (by kernel_rfl) (by kernel_rfl) (by simp)
       have f92 := hV 21 (by kernel_rfl) (by kernel_rfl)
       rw [O21] at f92; rw [f92] at e92; clear f92
       rw [if_pos hd] at e92
       clear hV hN hO
       have q0 : 0 < k := by (have h5 := hd; simp only [Bool.and_eq_true, decide_eq_true_iff] at h5; exact h5.2)
       obtain ⟨z0, z1, z2, z3, z4, z5, z6⟩ := HPV.out q0 _ hG
       obtain ⟨_, x0, x1, x2, x3, x4, x5, x6⟩ := Holds.of_blk (HM2.out.on hG)
       simp only at x0 x1 x2 x3 x4 x5 x6
       obtain ⟨y0, y1, y2, y3, y4⟩ := (HE.out.on (HB3.out.trans (hG.mono HB3.out.size))).cells
       go_simp
       exact hK.out _ _ (by rw [O22, upd_at, if_pos hd] <;> (congr 1 <;> omega)) (Below.refl _ _) hG
      case s23_c2 =>
       refine owe_cond (g := 16) (t := 87) (b := true) (c := (decide (0 < k))) (d := (!((((!((rightM ⟨me, mn, ms, mi, mq, mu, md⟩))) || (!((isE mem incs ms)))) || ((incE mem incs ms) != mi))))) (((!((((!((rightM ⟨me, mn, ms, mi, mq, mu, md⟩))) || (!((isE mem incs ms)))) || ((incE mem incs ms) != mi)))) && (decide (0 < k)))) (by first | rfl | simp) rfl (by kernel_rfl) (by kernel_rfl) (by kernel_rfl) (by simp) (fun val w h => by rw [O16] at h; first | exact h | simpa using h) (fun hd a wx val hG hV hN hO K hK => ?_) (fun hd val w => by rw [O23, upd_at, if_neg (by rw [hd]; decide)])
       have e5 : a.tmps[5]? = some (.pointer (some ⟨g, 0, none⟩)) := (hO 5 (by kernel_rfl)).trans (by rfl)
       clear hV hN hO
       obtain ⟨_, x0, x1, x2, x3, x4, x5, x6⟩ := Holds.of_blk (HM2.out.on hG)
       simp only at x0 x1 x2 x3 x4 x5 x6
       obtain ⟨y0, y1, y2, y3, y4⟩ := (HE.out.on (HB3.out.trans (hG.mono HB3.out.size))).cells
       go_simp
       exact hK.out _ _ (by rw [O23, upd_at, if_pos hd] <;> (congr 1 <;> omega)) (Below.refl _ _) hG
      case s24_c2 =>
       refine owe_cond (g := 16) (t := 87) (b := true) (c := (decide (0 < k))) (d := (!((((!((rightM ⟨me, mn, ms, mi, mq, mu, md⟩))) || (!((isE mem incs ms)))) || ((incE mem incs ms) != mi))))) (((!((((!((rightM ⟨me, mn, ms, mi, mq, mu, md⟩))) || (!((isE mem incs ms)))) || ((incE mem incs ms) != mi)))) && (decide (0 < k)))) (by first | rfl | simp) rfl (by kernel_rfl) (by kernel_rfl) (by kernel_rfl) (by simp) (fun val w h => by rw [O16] at h; first | exact h | simpa using h) (fun hd a wx val hG hV hN hO K hK => ?_) (fun hd val w => by rw [O24, upd_at, if_neg (by rw [hd]; decide)])
       have e93 := hN 22 93 (by kernel_rfl) (by kernel_rfl) (by simp)
       have f93 := hV 22 (by kernel_rfl) (by kernel_rfl)
       rw [O22] at f93; rw [f93] at e93; clear f93
       rw [if_pos hd] at e93
       have e94 := hN 23 94 (by kernel_rfl) (by kernel_rfl) (by simp)
       have f94 := hV 23 (by kernel_rfl) (by kernel_rfl)
       rw [O23] at f94; rw [f94] at e94; clear f94
       rw [if_pos hd] at e94
       clear hV hN hO
       go_simp
       refine (clp _).mono ?_
       rintro e w11 ⟨rfl, hb⟩
       exact hK.out _ _ (by rw [O24, upd_at, if_pos hd]) hb (hG.trans (hb.mono hG.size))
      case s25_c2 =>
       refine owe_cond (g := 16) (t := 87) (b := true) (c := (decide (0 < k))) (d := (!((((!((rightM ⟨me, mn, ms, mi, mq, mu, md⟩))) || (!((isE mem incs ms)))) || ((incE mem incs ms) != mi))))) (((!((((!((rightM ⟨me, mn, ms, mi, mq, mu, md⟩))) || (!((isE mem incs ms)))) || ((incE mem incs ms) != mi)))) && (decide (0 < k)))) (by first | rfl | simp) rfl (by kernel_rfl) (by kernel_rfl) (by kernel_rfl) (by simp) (fun val w h => by rw [O16] at h; first | exact h | simpa using h) (fun hd a wx val hG hV hN hO K hK => ?_) (fun hd val w => by rw [O25, upd_at, if_neg (by rw [hd]; decide)])
       have e95 := hN 24 95 (by kernel_rfl) (by kernel_rfl) (by simp)
       have f95 := hV 24 (by kernel_rfl) (by kernel_rfl)
       rw [O24] at f95; rw [f95] at e95; clear f95
       rw [if_pos hd] at e95
       clear hV hN hO
       go_simp
       exact hK.out _ _ (by rw [O25, upd_at, if_pos hd] <;> (congr 1 <;> omega)) (Below.refl _ _) hG
      case s26_c2 =>
       refine owe_cond (g := 13) (t := 84) (b := false) (c := (((!((rightM ⟨me, mn, ms, mi, mq, mu, md⟩))) || (!((isE mem incs ms)))) || ((incE mem incs ms) != mi))) (d := true) ((!((((!((rightM ⟨me, mn, ms, mi, mq, mu, md⟩))) || (!((isE mem incs ms)))) || ((incE mem incs ms) != mi))))) (by first | rfl | simp) rfl (by kernel_rfl) (by kernel_rfl) (by kernel_rfl) (by simp) (fun val w h => by rw [O13] at h; first | exact h | simpa using h) (fun hd a wx val hG hV hN hO K hK => ?_) (fun hd val w => by rw [O26, upd_at, if_neg (by rw [hd]; decide)])
       have e87 := hN 16 87 (by kernel_rfl) (by kernel_rfl) (by simp)
       have f87 := hV 16 (by kernel_rfl) (by kernel_rfl)
       rw [O16] at f87; rw [f87] at e87; clear f87
       have e96 := hN 25 96 (by kernel_rfl) (by kernel_rfl) (by simp)
       have f96 := hV 25 (by kernel_rfl) (by kernel_rfl)
       rw [O25] at f96; rw [f96] at e96; clear f96
       clear hV hN hO
       rw [if_pos hd] at e87
       cases hcc : ((decide (0 < k)))
       ·rw [hcc] at e87
        rw [if_neg (by first | (rw [hcc]; decide) | simp [hcc])] at e96
        go_simp
        exact hK.out _ _ (by rw [O26, upd_at, if_pos hd] <;> simp [hcc]) (Below.refl _ _) hG
       ·rw [hcc] at e87
        rw [if_pos (by first | exact hcc | (rw [hcc]; rfl) | simp [hcc, hd])] at e96
        go_simp
        exact hK.out _ _ (by rw [O26, upd_at, if_pos hd] <;> simp [hcc]) (Below.refl _ _) hG
      case s27_c2 =>
       refine owe rfl fun a wx val hG hV hN hO K hK => ?_
       have e84 := hN 13 84 (by kernel_rfl) (by kernel_rfl) (by simp)
       have f84 := hV 13 (by kernel_rfl) (by kernel_rfl)
       rw [O13] at f84; rw [f84] at e84; clear f84
       have e97 := hN 26 97 (by kernel_rfl) (by kernel_rfl) (by simp)
       have f97 := hV 26 (by kernel_rfl) (by kernel_rfl)
       rw [O26] at f97; rw [f97] at e97; clear f97
       clear hV hN hO
       cases hcc : ((((!((rightM ⟨me, mn, ms, mi, mq, mu, md⟩))) || (!((isE mem incs ms)))) || ((incE mem incs ms) != mi)))
       ·rw [hcc] at e84
        rw [if_pos (by first | exact hcc | (rw [hcc]; rfl) | simp [hcc])] at e97
        go_simp
        exact hK.out _ _ (by rw [O27, upd_at] <;> simp [hcc]) (Below.refl _ _) hG
       ·rw [hcc] at e84
        rw [if_neg (by first | (rw [hcc]; decide) | simp [hcc])] at e97
        go_simp
        exact hK.out _ _ (by rw [O27, upd_at] <;> simp [hcc]) (Below.refl _ _) hG
      intro val wx hG hV
      have f0 := hV 0 (by simp) (fun _ _ => by rfl)
      rw [O0] at f0
      have f1 := hV 1 (by simp) (fun _ _ => by rfl)
      rw [O1] at f1
      have f2 := hV 2 (by simp) (fun _ _ => by rfl)
      rw [O2] at f2
      have f3 := hV 3 (by simp) (fun _ _ => by rfl)
      rw [O3] at f3
      have f4 := hV 4 (by simp) (fun _ _ => by rfl)
      rw [O4] at f4
      have f5 := hV 5 (by simp) (fun _ _ => by rfl)
      rw [O5] at f5
      have f6 := hV 6 (by simp) (fun _ _ => by rfl)
      rw [O6] at f6
      have f7 := hV 7 (by simp) (fun _ _ => by rfl)
      rw [O7] at f7
      have f8 := hV 8 (by simp) (fun _ _ => by rfl)
      rw [O8] at f8
      have f9 := hV 9 (by simp) (fun _ _ => by rfl)
      rw [O9] at f9
      have f10 := hV 10 (by simp) (fun _ _ => by rfl)
      rw [O10] at f10
      have f11 := hV 11 (by simp) (fun _ _ => by rfl)
      rw [O11] at f11
      have f12 := hV 12 (by simp) (fun _ _ => by rfl)
      rw [O12] at f12
      have f13 := hV 13 (by simp) (fun _ _ => by rfl)
      rw [O13] at f13
      have f14 := hV 14 (by simp) (fun _ _ => by rfl)
      rw [O14] at f14
      have f15 := hV 15 (by simp) (fun _ _ => by rfl)
      rw [O15] at f15
      have f16 := hV 16 (by simp) (fun _ _ => by rfl)
      rw [O16] at f16
      have f17 := hV 17 (by simp) (fun _ _ => by rfl)
      rw [O17] at f17
      have f18 := hV 18 (by simp) (fun _ _ => by rfl)
      rw [O18] at f18
      have f19 := hV 19 (by simp) (fun _ _ => by rfl)
      rw [O19] at f19
      have f20 := hV 20 (by simp) (fun _ _ => by rfl)
      rw [O20] at f20
      have f21 := hV 21 (by simp) (fun _ _ => by rfl)
      rw [O21] at f21
      have f22 := hV 22 (by simp) (fun _ _ => by rfl)
      rw [O22] at f22
      have f23 := hV 23 (by simp) (fun _ _ => by rfl)
      rw [O23] at f23
      have f24 := hV 24 (by simp) (fun _ _ => by rfl)
      rw [O24] at f24
      have f25 := hV 25 (by simp) (fun _ _ => by rfl)
      rw [O25] at f25
      have f26 := hV 26 (by simp) (fun _ _ => by rfl)
      rw [O26] at f26
      have f27 := hV 27 (by simp) (fun _ _ => by rfl)
      rw [O27] at f27
      clear hV O0 O1 O2 O3 O4 O5 O6 O7 O8 O9 O10 O11 O12 O13 O14 O15 O16 O17 O18 O19 O20 O21 O22 O23 O24 O25 O26 O27
      simp only [putAll, Act.put, List.setIfInBounds_toArray, List.set_cons_zero, List.set_cons_succ]
      generalize val 0 = z0, val 1 = z1, val 2 = z2, val 3 = z3 at *
      subst f0 f1 f2 f3
      generalize val 4 = z4 at *; clear f4
      generalize val 5 = z5 at *; clear f5
      generalize val 6 = z6, val 7 = z7 at *
      subst f6 f7
      generalize val 8 = z8 at *; clear f8
      generalize val 9 = z9 at *; clear f9
      generalize val 10 = z10 at *; clear f10
      generalize val 11 = z11 at *; clear f11
      generalize val 12 = z12, val 13 = z13 at *
      subst f12 f13
      generalize val 14 = z14 at *; clear f14
      generalize val 15 = z15 at *; clear f15
      generalize val 16 = z16 at *; clear f16
      generalize val 17 = z17 at *; clear f17
      generalize val 18 = z18 at *; clear f18
      generalize val 19 = z19 at *; clear f19
      generalize val 20 = z20 at *; clear f20
      generalize val 21 = z21 at *; clear f21
      generalize val 22 = z22 at *; clear f22
      generalize val 23 = z23 at *; clear f23
      generalize val 24 = z24 at *; clear f24
      generalize val 25 = z25 at *; clear f25
      generalize val 26 = z26 at *; clear f26
      generalize val 27 = z27 at *
      subst f27
      clear HVD
      have HB4 := hid (HB3.out.trans (hG.mono HB3.out.size))
      have HM4 := hid (HM2.out.on hG)
      clear hG HB3 HM2 HPV QI QW cr clp
      cases hB : ((((!(rightM ⟨me, mn, ms, mi, mq, mu, md⟩)) || (!(isE mem incs ms))) || ((incE mem incs ms) != mi)) || ((decide (0 < k)) && (!(lessM p ⟨me, mn, ms, mi, mq, mu, md⟩))))
      ·obtain ⟨hgo, hgm⟩ := HGOOD.out hB
       have HGO := hid hgo
       have HGM := hid hgm
       clear hB hgo hgm HBAD HGOOD
       go_wp2_with fail
       go_loopw [8] (fun ix wr' => ∃ j n : Nat, j ≤ k ∧ ix = .int .i64 j ∧ ((l.take j).any fun x => decide (x.sender = ms)) = false ∧ wr' = wx.drewN n) (fun ix _ => k - (intOf ix).toNat)
       case atStart => exact ⟨0, 0, by omega, rfl, rfl, rfl⟩
       case round =>
        obtain ⟨j, nd, hj, rfl, hny, rfl⟩ := hrel
        have HNY := hid hny; clear hny
        have hbd := below_drewN (Below.refl wx.heap.size wx) nd
        have HBJ := hid (HB4.out.trans (hbd.mono HB4.out.size))
        clear hbd
        by_cases hjk : j < k
        ·obtain ⟨q, hq⟩ : ∃ q, l[j]? = some q := ⟨_, List.getElem?_eq_getElem (by omega)⟩
         obtain ⟨ad', ead, had3, hcc3⟩ := HMW.out.below HB4.out (Nat.le_refl _) (by omega)
         obtain rfl : ad = ad' := Option.some.inj ead
         obtain ⟨z0, z1, z2, z3, z4, z5, z6⟩ := hcc3 j q hq
         obtain ⟨_, x0, x1, x2, x3, x4, x5, x6⟩ := Holds.of_blk HM4.out
         simp only at x0 x1 x2 x3 x4 x5 x6
         obtain ⟨y0, y1, y2, y3, y4⟩ := (HE.out.on HB4.out).cells
         have HSN := hid (any_take_snoc hq ms)
         have hj2 : (j : Int) < l.length := by omega
         have hj0 : (0 : Int) ≤ j := by omega
         have hj3 : (j : Int) < k := by omega
         clear hcc3 ead hq
         by_cases hss : q.sender = ms
         ·have hse : ((q.sender : Int) == ms) = true := by simpa using hss
          have hany : ((l.take k).any fun x => decide (x.sender = ms)) = true := by
           have h1 : ((l.take (j + 1)).any fun x => decide (x.sender = ms)) = true := by rw [HSN.out, decide_eq_true hss]; simp
           rw [List.any_eq_true] at h1 ⊢
           obtain ⟨x, hx1, hx2⟩ := h1
           exact ⟨x, (List.take_subset_take_left l (show j + 1 ≤ k by omega)) hx1, hx2⟩
          have HRF : Hid (R = false) := hid (by rw [HR.out, memU_false (k := k + 1) (by rw [HGM.out, hany]; rfl) (by omega)]; simp)
          clear hss hany HSN
          go_wp2_with fail
          go_quiet (fail)
          go_wp2_with fail
          go_ret
          exact ⟨ret_b HRF.out.symm, below_drewN (HB.out.trans (HBJ.out.mono HLE.out)) _⟩
         ·have hse : ((q.sender : Int) == ms) = false := by simpa using hss
          have HSS := hid hss; clear hss
          go_wp2_with fail
          go_quiet (fail)
          go_wp2_with fail
          go_roundw
          case rel => exact ⟨j + 1, nd + nq, by omega, by go_num, by rw [HSN.out, HNY.out, decide_eq_false HSS.out]; rfl, rfl⟩
          case measure => simp [intOf]; omega
        ·have ejk : j = k := by omega
         subst ejk
         have HMU : Hid (memU mem incs l (j + 1) = true) := hid (by rw [HGM.out, HNY.out]; rfl)
         clear HGM HNY
         go_wp2_with fail
         go_roundw
         case rel => exact ⟨j + 1, by omega, by go_num, HGO.out, HMU.out, HBJ.out⟩
         case measure => simp [intOf]; omega
      ·have HRF : Hid (R = false) := hid (by rw [HR.out]; exact HBAD.out hB)
       clear HBAD HGOOD hB
       go_wp2_with fail
       go_ret
       exact ⟨ret_b HRF.out.symm, HB.out.trans (HB4.out.mono HLE.out)⟩
     ·have ek : k = l.length := by omega
      subst ek
      have HRF : Hid (R = true) := hid (by rw [HR.out, ho, hu]; rfl)
      clear ho hu
      go_wp2_with fail
      go_ret
      exact ⟨ret_b HRF.out.symm, HB.out.trans (HBR.out.mono HLE.out)⟩
 ·have HRF := hid (HR1.out hB)
  clear HR1 HR2 HR3 hB
  go_wp2_with fail
  go_ret
  exact ⟨ret_b HRF.out.symm, HB1.out⟩
end Go.Proofs.YtlhopgadhkjflaaGreatDoor
namespace Go.Proofs.YtlhopgadhkjflaaGreatDoor
open Lib (hid)
open Go.RowKit
theorem refTwo6_any (n : Int) (h0 : 0 ≤ n) (h1 : n ≤ 65535) (w : World) :
  Calls Tryz.prog 70 #[.int .i64 n] w fun e w' => e = .returned (.string (txt (twoL n))) ∧ Below w.heap.size w w' := by
 have h2 := two_bytes
 go_enter Tryz.func70, Tryz.ntmps70
 go_wp2_with fail
 go_ret
 refine ⟨congrArg (fun l => Ending.returned (.string (txt l))) ?_, Joins.below_alloc1 _ _⟩
 unfold twoL
 rw [octet_of _ (n / 256) (by omega) (by omega), octet_of _ n (by omega) (by omega)]
theorem twosL_take {l : List Int} {k : Nat} {n : Int} (h : l[k]? = some n) : twosL (l.take (k + 1)) = twosL (l.take k) ++ twoL n := by
 rw [List.take_add_one, h]
 exact twosL_snoc _ _
theorem catL_take {l : List Msg} {k : Nat} {m : Msg} (h : l[k]? = some m) : catL (l.take (k + 1)) = catL (l.take k) ++ encL m := by
 rw [List.take_add_one, h]
 exact catL_snoc _ _
theorem catL_take_le {l : List Msg} (h : ∀ m ∈ l, rightM m = true) (h16 : l.length ≤ 16) (k : Nat) : (catL (l.take k)).length ≤ 320 := by
 have := catL_length (l.take k) (fun m hm => h m (List.mem_of_mem_take hm))
 rw [List.length_take] at this
 omega
theorem smalls_mem {l : List Int} (h : l.all smallB = true) : ∀ n ∈ l, 1 ≤ n ∧ n ≤ 65535 := fun n hn => (smallB_iff n).1 (List.all_eq_true.1 h n hn)
theorem inc16 (l : List Int) (h : l.length ≤ 16) (k : Nat) : (twosL (l.take k)).length ≤ 32 := by
 rw [twosL_length, List.length_take]; omega
theorem refEncE_any (x : Ent) (A : Option Addr) (c : Nat) (A' : Option Addr) (c' : Nat) (w : World) (h : V.Row w w.heap.size A x.incs) (hM : Msgs w w.heap.size A' x.msgs) (hil : x.incs.length ≤ maxLen) (hl : x.msgs.length ≤ maxLen) (hd : ∀ m ∈ x.msgs, m.data.size ≤ maxLen) :
  Calls Tryz.prog 27 #[ev x.t x.ep x.mem (.slice A x.incs.length c) (.slice A' x.msgs.length c')] w fun e w' => e = .returned (.tuple #[.string (txt (encTE x)), .int .i64 (encEE x)]) ∧ Below w.heap.size w w' := by
 have b1 := Joins.below_alloc1 w (.cells #[.int .i64 x.t, .int .i64 x.ep, .int .i64 x.mem, .slice A x.incs.length c, .slice A' x.msgs.length c'] 37)
 have e1 := EntAt.new w x.t x.ep x.mem (.slice A x.incs.length c) (.slice A' x.msgs.length c')
 have r1 := (h.below b1 (Nat.le_refl _)).more b1.size
 have m1 := (hM.below b1 (Nat.le_refl _)).more b1.size
 have cr := rightER_any x A c A' c' _ r1 m1 hil hl hd
 have ni := hil
 have nl := hl
 unfold maxLen at ni nl
 generalize hg : w.heap.size = b at *
 cases hr : rightE x
 ·rw [hr] at cr
  rw [show encTE x = [] by unfold encTE; rw [hr]; rfl, show encEE x = 1 by unfold encEE; rw [hr]; rfl]
  obtain ⟨t, ep, mem, incs, l⟩ := x
  simp only at *
  generalize hW : w.alloc (.cells #[.int .i64 t, .int .i64 ep, .int .i64 mem, .slice A incs.length c, .slice A' l.length c'] 37) = W at *
  obtain ⟨y0, y1, y2, y3, y4⟩ := e1.cells
  have HB := hid b1; clear b1 r1 m1 h hM hil hl hd hr
  go_enter Tryz.func27, Tryz.ntmps27
  go_wp2_with fail; refine cr.mono ?_; rintro e w1 ⟨rfl, b2⟩
  clear hW y0 y1 y2 y3 y4
  go_wp2_with fail
  go_ret2
  exact ⟨rfl, HB.out.trans (b2.mono (by have := HB.out.size; rw [hg] at this; exact this))⟩
 ·rw [hr] at cr
  rw [show encTE x = encEnt x by unfold encTE; rw [hr]; rfl, show encEE x = 0 by unfold encEE; rw [hr]; rfl]
  have h16 := rightE_msgs hr
  have hi16 := rightE_incs hr
  have heach := rightE_each hr
  obtain ⟨ht, hep, hm0, hm1, -, hal, -, -⟩ := (rightE_iff x).1 hr
  have hsm := smalls_mem hal
  obtain ⟨T, hT⟩ : ∃ T, T = encEnt x := ⟨_, rfl⟩
  rw [← hT]
  unfold encEnt at hT
  obtain ⟨t, ep, mem, incs, l⟩ := x
  simp only at *
  generalize hW : w.alloc (.cells #[.int .i64 t, .int .i64 ep, .int .i64 mem, .slice A incs.length c, .slice A' l.length c'] 37) = W at *
  obtain ⟨y0, y1, y2, y3, y4⟩ := e1.cells
  have HE := hid e1; clear e1
  have HB := hid b1; clear b1
  have HRW := hid r1; clear r1
  have HMW := hid m1; clear m1 h hM hil hl
  have HT := hid hT; clear hT
  have T1 := hid (fun W' => refTwo6_any t (by omega) (by omega) W')
  have T2 := hid (fun W' => refTwo6_any ep (by omega) (by omega) W')
  have T3 := hid (fun W' => refTwo6_any mem hm0 hm1 W')
  have HSM := hid hsm; clear hsm hal
  have HEA := hid heach; clear heach
  have HD := hid hd; clear hd
  have AD1 := hid (add_txt (twoL t) (twoL ep) (twoL t ++ twoL ep) rfl (by simp [twoL]))
  have AD2 := hid (add_txt (twoL t ++ twoL ep) (twoL mem) (twosL [t, ep, mem]) rfl (by simp [twoL]))
  go_enter Tryz.func27, Tryz.ntmps27
  go_wp2_with fail; refine cr.mono ?_; rintro e w1 ⟨rfl, b2⟩
  clear hW y0 y1 y2 y3 y4
  have HLE : Hid (b ≤ W.heap.size) := hid (by have := HB.out.size; rw [hg] at this; exact this)
  have HG1 := hid b2; clear b2
  obtain ⟨y0, y1, y2, y3, y4⟩ := (HE.out.on HG1.out).cells
  go_wp2_with fail
  have HV : ∃ O : Nat → (Nat → Value) → World → Prop, O = (fun ix u wv => match ix with
   | 0 => u 0 = .pointer (some ⟨b, 0, none⟩)
   | 1 => u 1 = .int .i64 t
   | 2 => u 2 = .string (txt (twoL t))
   | 3 => u 3 = .pointer (some ⟨b, 1, none⟩)
   | 4 => u 4 = .int .i64 ep
   | 5 => u 5 = .string (txt (twoL ep))
   | 6 => u 6 = .string (txt (twoL t ++ twoL ep))
   | 7 => u 7 = .pointer (some ⟨b, 2, none⟩)
   | 8 => u 8 = .int .i64 mem
   | 9 => u 9 = .string (txt (twoL mem))
   | 10 => u 10 = .string (txt (twosL [t, ep, mem]))
   | 11 => u 11 = .string (txt (twosL [t, ep, mem]))
   | _ => True) := ⟨_, rfl⟩
  obtain ⟨O, hd7⟩ := HV
  have O0 : ∀ u wv, O 0 u wv = (u 0 = .pointer (some ⟨b, 0, none⟩)) := fun u wv => by subst hd7; rfl
  have O1 : ∀ u wv, O 1 u wv = (u 1 = .int .i64 t) := fun u wv => by subst hd7; rfl
  have O2 : ∀ u wv, O 2 u wv = (u 2 = .string (txt (twoL t))) := fun u wv => by subst hd7; rfl
  have O3 : ∀ u wv, O 3 u wv = (u 3 = .pointer (some ⟨b, 1, none⟩)) := fun u wv => by subst hd7; rfl
  have O4 : ∀ u wv, O 4 u wv = (u 4 = .int .i64 ep) := fun u wv => by subst hd7; rfl
  have O5 : ∀ u wv, O 5 u wv = (u 5 = .string (txt (twoL ep))) := fun u wv => by subst hd7; rfl
  have O6 : ∀ u wv, O 6 u wv = (u 6 = .string (txt (twoL t ++ twoL ep))) := fun u wv => by subst hd7; rfl
  have O7 : ∀ u wv, O 7 u wv = (u 7 = .pointer (some ⟨b, 2, none⟩)) := fun u wv => by subst hd7; rfl
  have O8 : ∀ u wv, O 8 u wv = (u 8 = .int .i64 mem) := fun u wv => by subst hd7; rfl
  have O9 : ∀ u wv, O 9 u wv = (u 9 = .string (txt (twoL mem))) := fun u wv => by subst hd7; rfl
  have O10 : ∀ u wv, O 10 u wv = (u 10 = .string (txt (twosL [t, ep, mem]))) := fun u wv => by subst hd7; rfl
  have O11 : ∀ u wv, O 11 u wv = (u 11 = .string (txt (twosL [t, ep, mem]))) := fun u wv => by subst hd7; rfl
  have HVD := hid hd7
  clear hd7
  refine region_each (V := O) (drop := fun _ _ => false) (G := fun wv => Below w1.heap.size w1 wv) (Rel := fun jx wv wv' => Below wv.heap.size wv wv') (by kernel_rfl) (by kernel_rfl) (Below.refl _ _).drew ?hmonoc1 ?hdepc1 ⟨?s0_c1, ?s1_c1, ?s2_c1, ?s3_c1, ?s4_c1, ?s5_c1, ?s6_c1, ?s7_c1, ?s8_c1, ?s9_c1, ?s10_c1, ?s11_c1, trivial⟩ ?behindc1
  case hmonoc1 =>
   intro ix jx u wv wv' hij hw hd hr
   rw [HVD.out]
   dsimp only
   split <;> intro h <;> first | exact trivial | exact h
  case hdepc1 =>
   intro ix u u' wv h1 h2
   rw [HVD.out]
   dsimp only
   split <;> intro h <;> first | exact trivial | (rw [← h1]; exact h)
  case s0_c1 =>
   refine owe rfl fun a wx val hG hV hN hO K hK => ?_
   have e1 : a.tmps[1]? = some (.pointer (some ⟨b, 0, none⟩)) := (hO 1 (by kernel_rfl)).trans (by rfl)
   clear hV hN hO
   go_simp
   exact hK.out _ _ (by rw [O0, upd_at] <;> (congr 1 <;> omega)) (Below.refl _ _) hG
  case s1_c1 =>
   refine owe rfl fun a wx val hG hV hN hO K hK => ?_
   have e12 := hN 0 12 (by kernel_rfl) (by kernel_rfl) (by simp)
   have f12 := hV 0 (by kernel_rfl) (by kernel_rfl)
   rw [O0] at f12; rw [f12] at e12; clear f12
   clear hV hN hO
   obtain ⟨y0, y1, y2, y3, y4⟩ := (HE.out.on (HG1.out.trans (hG.mono HG1.out.size))).cells
   go_simp
   exact hK.out _ _ (by rw [O1, upd_at] <;> (congr 1 <;> omega)) (Below.refl _ _) hG
  case s2_c1 =>
   refine owe rfl fun a wx val hG hV hN hO K hK => ?_
   have e13 := hN 1 13 (by kernel_rfl) (by kernel_rfl) (by simp)
   have f13 := hV 1 (by kernel_rfl) (by kernel_rfl)
   rw [O1] at f13; rw [f13] at e13; clear f13
   clear hV hN hO
   go_simp
   refine (T1.out _).mono ?_
   rintro e w11 ⟨rfl, hb⟩
   exact hK.out _ _ (by rw [O2, upd_at]) hb (hG.trans (hb.mono hG.size))
  case s3_c1 =>
   refine owe rfl fun a wx val hG hV hN hO K hK => ?_
   have e1 : a.tmps[1]? = some (.pointer (some ⟨b, 0, none⟩)) := (hO 1 (by kernel_rfl)).trans (by rfl)
   clear hV hN hO
   go_simp
   exact hK.out _ _ (by rw [O3, upd_at] <;> (congr 1 <;> omega)) (Below.refl _ _) hG
  case s4_c1 =>
   refine owe rfl fun a wx val hG hV hN hO K hK => ?_
   have e15 := hN 3 15 (by kernel_rfl) (by kernel_rfl) (by simp)
   have f15 := hV 3 (by kernel_rfl) (by kernel_rfl)
   rw [O3] at f15; rw [f15] at e15; clear f15
   clear hV hN hO
   obtain ⟨y0, y1, y2, y3, y4⟩ := (HE.out.on (HG1.out.trans (hG.mono HG1.out.size))).cells
   go_simp
   exact hK.out _ _ (by rw [O4, upd_at] <;> (congr 1 <;> omega)) (Below.refl _ _) hG
  case s5_c1 =>
   refine owe rfl fun a wx val hG hV hN hO K hK => ?_
   have e16 := hN 4 16 (by kernel_rfl) (by kernel_rfl) (by simp)
   have f16 := hV 4 (by kernel_rfl) (by kernel_rfl)
   rw [O4] at f16; rw [f16] at e16; clear f16
   clear hV hN hO
   go_simp
   refine (T2.out _).mono ?_
   rintro e w11 ⟨rfl, hb⟩
   exact hK.out _ _ (by rw [O5, upd_at]) hb (hG.trans (hb.mono hG.size))
  case s6_c1 =>
   refine owe rfl fun a wx val hG hV hN hO K hK => ?_
   have e14 := hN 2 14 (by kernel_rfl) (by kernel_rfl) (by simp)
   have f14 := hV 2 (by kernel_rfl) (by kernel_rfl)
   rw [O2] at f14; rw [f14] at e14; clear f14
   have e17 := hN 5 17 (by kernel_rfl) (by kernel_rfl) (by simp)
   have f17 := hV 5 (by kernel_rfl) (by kernel_rfl)
   rw [O5] at f17; rw [f17] at e17; clear f17
   clear hV hN hO
   obtain ⟨q1, q2⟩ := AD1.out
   go_simp
   exact hK.out _ _ (by rw [O6, upd_at] <;> (congr 1 <;> omega)) (Below.refl _ _) hG
  case s7_c1 =>
   refine owe rfl fun a wx val hG hV hN hO K hK => ?_
   have e1 : a.tmps[1]? = some (.pointer (some ⟨b, 0, none⟩)) := (hO 1 (by kernel_rfl)).trans (by rfl)
   clear hV hN hO
   go_simp
   exact hK.out _ _ (by rw [O7, upd_at] <;> (congr 1 <;> omega)) (Below.refl _ _) hG
  case s8_c1 =>
   refine owe rfl fun a wx val hG hV hN hO K hK => ?_
   have e19 := hN 7 19 (by kernel_rfl) (by kernel_rfl) (by simp)
   have f19 := hV 7 (by kernel_rfl) (by kernel_rfl)
   rw [O7] at f19; rw [f19] at e19; clear f19
   clear hV hN hO
   obtain ⟨y0, y1, y2, y3, y4⟩ := (HE.out.on (HG1.out.trans (hG.mono HG1.out.size))).cells
   go_simp
   exact hK.out _ _ (by rw [O8, upd_at] <;> (congr 1 <;> omega)) (Below.refl _ _) hG
  case s9_c1 =>
   refine owe rfl fun a wx val hG hV hN hO K hK => ?_
   have e20 := hN 8 20 (by kernel_rfl) (by kernel_rfl) (by simp)
   have f20 := hV 8 (by kernel_rfl) (by kernel_rfl)
   rw [O8] at f20; rw [f20] at e20; clear f20
   clear hV hN hO
   go_simp
   refine (T3.out _).mono ?_
   rintro e w11 ⟨rfl, hb⟩
   exact hK.out _ _ (by rw [O9, upd_at]) hb (hG.trans (hb.mono hG.size))
  case s10_c1 =>
   refine owe rfl fun a wx val hG hV hN hO K hK => ?_
   have e18 := hN 6 18 (by kernel_rfl) (by kernel_rfl) (by simp)
   have f18 := hV 6 (by kernel_rfl) (by kernel_rfl)
   rw [O6] at f18; rw [f18] at e18; clear f18
   have e21 := hN 9 21 (by kernel_rfl) (by kernel_rfl) (by simp)
   have f21 := hV 9 (by kernel_rfl) (by kernel_rfl)
   rw [O9] at f21; rw [f21] at e21; clear f21
   clear hV hN hO
   obtain ⟨q1, q2⟩ := AD2.out
   go_simp
   exact hK.out _ _ (by rw [O10, upd_at] <;> (congr 1 <;> omega)) (Below.refl _ _) hG
  case s11_c1 =>
   refine owe rfl fun a wx val hG hV hN hO K hK => ?_
   have e22 := hN 10 22 (by kernel_rfl) (by kernel_rfl) (by simp)
   have f22 := hV 10 (by kernel_rfl) (by kernel_rfl)
   rw [O10] at f22; rw [f22] at e22; clear f22
   clear hV hN hO
   go_simp
   exact hK.out _ _ (by rw [O11, upd_at] <;> (congr 1 <;> omega)) (Below.refl _ _) hG
  intro val wx hG hV
  have f0 := hV 0 (by simp) (fun _ _ => by rfl)
  rw [O0] at f0
  have f1 := hV 1 (by simp) (fun _ _ => by rfl)
  rw [O1] at f1
  have f2 := hV 2 (by simp) (fun _ _ => by rfl)
  rw [O2] at f2
  have f3 := hV 3 (by simp) (fun _ _ => by rfl)
  rw [O3] at f3
  have f4 := hV 4 (by simp) (fun _ _ => by rfl)
  rw [O4] at f4
  have f5 := hV 5 (by simp) (fun _ _ => by rfl)
  rw [O5] at f5
  have f6 := hV 6 (by simp) (fun _ _ => by rfl)
  rw [O6] at f6
  have f7 := hV 7 (by simp) (fun _ _ => by rfl)
  rw [O7] at f7
  have f8 := hV 8 (by simp) (fun _ _ => by rfl)
  rw [O8] at f8
  have f9 := hV 9 (by simp) (fun _ _ => by rfl)
  rw [O9] at f9
  have f10 := hV 10 (by simp) (fun _ _ => by rfl)
  rw [O10] at f10
  have f11 := hV 11 (by simp) (fun _ _ => by rfl)
  rw [O11] at f11
  clear hV O0 O1 O2 O3 O4 O5 O6 O7 O8 O9 O10 O11
  simp only [putAll, Act.put, List.setIfInBounds_toArray, List.set_cons_zero, List.set_cons_succ]
  generalize val 0 = z0, val 1 = z1, val 2 = z2, val 3 = z3, val 4 = z4, val 5 = z5, val 6 = z6, val 7 = z7, val 8 = z8, val 9 = z9, val 10 = z10, val 11 = z11 at *
  subst f0 f1 f2 f3 f4 f5 f6 f7 f8 f9 f10 f11
  clear HVD
  have HG2 := hid (HG1.out.trans (hG.mono HG1.out.size)); clear hG HG1 T1 T2 T3 AD1 AD2 y0 y1 y2 y3 y4
  generalize hH : twosL [t, ep, mem] = H at *
  have hHl : H.length = 6 := by rw [← hH]; rfl
  have HHH := hid hH; clear hH
  have HHL := hid hHl; clear hHl
  obtain ⟨y0, y1, y2, y3, y4⟩ := (HE.out.on HG2.out).cells
  have hH0 : H = H ++ twosL (incs.take 0) := by simp [twosL]
  go_wp2_with fail
  go_loopw [4, 5] (fun sv ix wr => ∃ k : Nat, k ≤ incs.length ∧ ix = .int .i64 k ∧ sv = .string (txt (H ++ twosL (incs.take k))) ∧ Below W.heap.size W wr) (fun _ ix _ => incs.length - (intOf ix).toNat)
  case atStart => exact ⟨0, by omega, rfl, by rw [← hH0], HG2.out⟩
  case round =>
   obtain ⟨k, hk, rfl, rfl, hb⟩ := hrel
   have HBR := hid hb; clear hb hH0 y0 y1 y2 y3 y4
   obtain ⟨y0, y1, y2, y3, y4⟩ := (HE.out.on HBR.out).cells
   by_cases hlt : k < incs.length
   ·obtain ⟨n, hx⟩ : ∃ n, incs[k]? = some n := ⟨_, List.getElem?_eq_getElem hlt⟩
    obtain ⟨ad, rfl, _, hcc⟩ := HRW.out.below HBR.out (Nat.le_refl _) (by omega)
    have hck := hcc k n hx
    have hn := HSM.out n (List.mem_of_getElem? hx)
    have ct := fun W' => refTwo6_any n (by omega) (by omega) W'
    have hAD := add_txt (H ++ twosL (incs.take k)) (twoL n) (H ++ twosL (incs.take (k + 1))) (by rw [twosL_take hx, List.append_assoc]) (by
     have h1 := inc16 incs hi16 k
     have h2 : (twoL n).length = 2 := rfl
     have h3 := HHL.out
     rw [List.length_append]; omega)
    have HAD := hid hAD; clear hAD hcc hx hn
    generalize H ++ twosL (incs.take k) = L1 at *
    generalize hL2 : H ++ twosL (incs.take (k + 1)) = L2 at *
    have HL2 := hid hL2; clear hL2
    go_wp2_with fail; refine (ct _).mono ?_; rintro e w2 ⟨rfl, b2⟩
    have HB2 := hid (HBR.out.trans (b2.mono HBR.out.size)); clear b2
    obtain ⟨q1, q2⟩ := HAD.out
    go_wp2_with fail
    go_roundw
    case rel => exact ⟨k + 1, by omega, by go_num, by rw [HL2.out], HB2.out⟩
    case measure => simp [intOf]; omega
   ·have ek : k = incs.length := by omega
    subst ek
    rw [List.take_length]
    have h1 := fun (w : World) (a : Int) => one_at (w.alloc (.cells #[.int .u8 a] 5)) w.heap.size a (by simp [go_sem])
    have hoc : UInt8.ofNat l.length = octet (l.length : Int) := by simpa using octet_small (l.length : Int) (by omega)
    have hAD := add_txt (H ++ twosL incs) [octet l.length] (H ++ twosL incs ++ [octet l.length]) rfl (by
     have h2 := HHL.out
     rw [List.length_append, twosL_length]; simp; omega)
    rw [← hoc] at hAD
    have hcat : H ++ twosL incs ++ [UInt8.ofNat l.length] = H ++ twosL incs ++ [UInt8.ofNat l.length] ++ catL (l.take 0) := by simp [catL]
    have hfin : H ++ twosL incs ++ [UInt8.ofNat l.length] ++ catL l = T := by rw [hoc, HT.out, ← HHH.out]
    obtain ⟨q1, q2⟩ := hAD
    have hLL : (H ++ twosL incs ++ [UInt8.ofNat l.length]).length ≤ 39 := by
     have h2 := HHL.out
     rw [List.length_append, List.length_append, twosL_length]; simp; omega
    clear hoc
    have HFIN := hid hfin; clear hfin
    have HLL := hid hLL; clear hLL
    have HCAT := hid hcat; clear hcat
    generalize H ++ twosL incs ++ [UInt8.ofNat l.length] = P at *
    generalize H ++ twosL incs = L1 at *
    go_upto_region 9 with (fail)
    have hB9 := HBR.out.trans ((Joins.below_alloc1 wr (.cells #[.int .u8 (l.length : Int)] 5)).mono HBR.out.size)
    have HB9 := hid hB9; clear hB9 HBR
    clear q1 q2 h1 y0 y1 y2 y3 y4
    generalize wr.alloc (.cells #[.int .u8 (l.length : Int)] 5) = W9 at *
    obtain ⟨y0, y1, y2, y3, y4⟩ := (HE.out.on HB9.out).cells
    go_wp2_with fail
    go_loopw [4, 6, 7, 8] (fun sv ix _ _ wr => ∃ k : Nat, k ≤ l.length ∧ ix = .int .i64 k ∧ sv = .string (txt (P ++ catL (l.take k))) ∧ Below W.heap.size W wr) (fun _ ix _ _ _ => l.length - (intOf ix).toNat)
    case atStart => exact ⟨0, by omega, rfl, by rw [← HCAT.out], HB9.out⟩
    case round =>
     obtain ⟨k, hk, rfl, rfl, hb⟩ := hrel
     have HBR := hid hb; clear hb y0 y1 y2 y3 y4
     obtain ⟨y0, y1, y2, y3, y4⟩ := (HE.out.on HBR.out).cells
     by_cases hlt : k < l.length
     ·obtain ⟨m, hm⟩ : ∃ m, l[k]? = some m := ⟨_, List.getElem?_eq_getElem hlt⟩
      obtain ⟨ad, rfl, _, hcc⟩ := HMW.out.below HBR.out (Nat.le_refl _) (by omega)
      have hmr := HEA.out m (List.mem_of_getElem? hm)
      have ce := fun W' => refEnc_any m (HD.out m (List.mem_of_getElem? hm)) W'
      rw [encT_right hmr, encE_right hmr] at ce
      have hAD := add_txt (P ++ catL (l.take k)) (encL m) (P ++ catL (l.take (k + 1))) (by rw [catL_take hm, List.append_assoc]) (by
       have h1 := catL_take_le HEA.out h16 k
       have h2 := HLL.out
       have h3 := encL_length hmr
       have h4 := rightM_data hmr
       rw [List.length_append]; omega)
      have HAD := hid hAD; clear hAD
      obtain ⟨x0, x1, x2, x3, x4, x5, x6⟩ := hcc k m hm
      obtain ⟨me, mn, ms, mi, mq, mu, md⟩ := m
      simp only [mv] at *
      clear hcc hm hmr
      generalize P ++ catL (l.take k) = L1 at *
      generalize hL2 : P ++ catL (l.take (k + 1)) = L2 at *
      have HL2 := hid hL2; clear hL2
      generalize encL ⟨me, mn, ms, mi, mq, mu, md⟩ = EM at *
      go_wp2_with fail; refine (ce _).mono ?_; rintro e w2 ⟨rfl, b2⟩
      have HB2 := hid (HBR.out.trans (b2.mono HBR.out.size)); clear b2
      obtain ⟨q1, q2⟩ := HAD.out
      go_wp2_with fail
      go_roundw
      case rel => exact ⟨k + 1, by omega, by go_num, by rw [HL2.out], HB2.out⟩
      case measure => simp [intOf]; omega
     ·have ek : k = l.length := by omega
      subst ek
      rw [List.take_length, HFIN.out]
      go_wp2_with fail
      go_ret2
      exact ⟨rfl, HB.out.trans (HBR.out.mono HLE.out)⟩
end Go.Proofs.YtlhopgadhkjflaaGreatDoor

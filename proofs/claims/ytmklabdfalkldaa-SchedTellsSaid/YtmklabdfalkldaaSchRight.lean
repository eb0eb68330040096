/-
  Which plans may be, how many ticks a round has, by the program.
-/
import Derived.Test.YtmklabdfalkldaaSchTicked
import Derived.Test.YtmklabdfalkldaaOnceMore
namespace Go.Proofs.Ytmklabdfalkldaa
open Go.RowKit

theorem ticked_any (A : Option Addr) (cp : Nat) (c : Int) (l : Pl) (hlm : l.length ≤ maxLen) (w : World) (hS : Sls w w.heap.size A l) : Calls Try.prog 30 #[pv A l.length cp c] w fun e W' => e = .returned (.bool (tickedB l)) ∧ Below w.heap.size w W' := callsIn_wide.1 (ticked_in 4 (Nat.le_refl _) A cp c l hlm w hS)
theorem nodes_any (A : Option Addr) (cp : Nat) (c : Int) (l : Pl) (hlm : l.length ≤ maxLen) (w : World) (hS : Sls w w.heap.size A l) : Calls Try.prog 13 #[pv A l.length cp c] w fun e W' => e = .returned (.int .i64 (nodesS l)) ∧ Below w.heap.size w W' := callsIn_wide.1 (nodes_in' 4 (Nat.le_refl _) A cp c l hlm w hS)
theorem ahead_any (A : Option Addr) (cp : Nat) (c : Int) (l : Pl) (hlt : Ticked l) (hlm : l.length ≤ 16) (n : Int) (w : World) (hS : Sls w w.heap.size A l) : Calls Try.prog 34 #[pv A l.length cp c, .int .i64 n] w fun e W' => e = .returned (.int .i64 (aheadI l n)) ∧ Below w.heap.size w W' := callsIn_wide.1 (ahead_in 4 (Nat.le_refl _) A cp c l hlt hlm n w hS)
theorem beq_dec (x y : Int) : (x == y) = decide (x = y) := by by_cases h : x = y <;> simp [h]
theorem rightS_four (l : Pl) (c : Int) : rightS l c = (withinB 2 16 l.length && withinB 1 64 c && tickedB l && countI (nodesS l) == (l.length : Int)) := by
  rw [beq_dec]
  unfold rightS withinB tickedB
  have e1 : decide (2 ≤ l.length) = decide ((2 : Int) ≤ l.length) := by rw [decide_eq_decide]; omega
  have e2 : decide (l.length ≤ 16) = decide ((l.length : Int) ≤ 16) := by rw [decide_eq_decide]; omega
  rw [e1, e2]
  simp only [Bool.and_assoc]

set_option maxRecDepth 100000 in
set_option maxHeartbeats 2000000 in
theorem right_any (A : Option Addr) (cp : Nat) (c : Int) (l : Pl) (hlm : l.length ≤ maxLen) (w : World) (hS : Sls w w.heap.size A l) :
    Calls Try.prog 11 #[pv A l.length cp c] w fun e W' => e = .returned (.bool (rightS l c)) ∧ Below w.heap.size w W' := by
  have HCH := Lib.hid (rightS_four l c)
  generalize rightS l c = R at *
  have hB := Joins.below_alloc1 w (.cells #[.slice A l.length cp, .int .i64 c] 25)
  have hP := PlAt.new w A l.length cp c
  have hS0 := (hS.below hB (Nat.le_refl _)).more hB.size
  generalize hW : w.alloc (.cells #[.slice A l.length cp, .int .i64 c] 25) = W at *
  have C1 := Lib.hid (fun W' => turned (within_any 2 16 l.length W'))
  have C2 := Lib.hid (fun W' => turned (within_any 1 64 c W'))
  have C3 := Lib.hid (fun W' (hG : Below W.heap.size W W') => ticked_any A cp c l hlm W' ((hS0.below hG (Nat.le_refl _)).more hG.size))
  have C4 := Lib.hid (fun W' (hG : Below W.heap.size W W') => nodes_any A cp c l hlm W' ((hS0.below hG (Nat.le_refl _)).more hG.size))
  have C5 := Lib.hid (fun W' => count_any (nodesS l) W')
  have HB := Lib.hid hB; clear hB hS0 hS hlm
  have HP := Lib.hid hP; clear hP
  generalize withinB 2 16 l.length = B1 at *
  generalize withinB 1 64 c = B2 at *
  generalize tickedB l = B3 at *
  generalize nodesS l = N at *
  generalize countI N = CN at *
  generalize l.length = n at *
  generalize hg : w.heap.size = b at *
  go_enter Try.func11, Try.ntmps11
  go_wp2_with fail
  clear hW
  have HV : ∃ Vp : Nat → (Nat → Value) → World → Prop, Vp = (fun ix u wv => match ix with
    | 0 => u 0 = .pointer (some ⟨b, 0, none⟩)
    | 1 => u 1 = .slice A n cp
    | 2 => u 2 = .int .i64 (n : Int)
    | 3 => u 3 = .bool B1
    | 4 => u 4 = .bool B1
    | 5 => u 5 = if B1 = true then .pointer (some ⟨b, 1, none⟩) else undef
    | 6 => u 6 = if B1 = true then .int .i64 c else undef
    | 7 => u 7 = if B1 = true then .bool B2 else undef
    | 8 => u 8 = .bool (B1 && B2)
    | 9 => u 9 = .bool (B1 && B2)
    | 10 => u 10 = if (B1 && B2) = true then .agg #[.slice A n cp, .int .i64 c] else undef
    | 11 => u 11 = if (B1 && B2) = true then .bool B3 else undef
    | 12 => u 12 = .bool ((B1 && B2) && B3)
    | 13 => u 13 = .bool ((B1 && B2) && B3)
    | 14 => u 14 = if ((B1 && B2) && B3) = true then .agg #[.slice A n cp, .int .i64 c] else undef
    | 15 => u 15 = if ((B1 && B2) && B3) = true then .int .i64 N else undef
    | 16 => u 16 = if ((B1 && B2) && B3) = true then .int .i64 CN else undef
    | 17 => u 17 = if ((B1 && B2) && B3) = true then .pointer (some ⟨b, 0, none⟩) else undef
    | 18 => u 18 = if ((B1 && B2) && B3) = true then .slice A n cp else undef
    | 19 => u 19 = if ((B1 && B2) && B3) = true then .int .i64 (n : Int) else undef
    | 20 => u 20 = if ((B1 && B2) && B3) = true then .bool (CN == (n : Int)) else undef
    | 21 => u 21 = .bool (((B1 && B2) && B3) && (CN == (n : Int)))
    | 22 => u 22 = .bool (((B1 && B2) && B3) && (CN == (n : Int)))
    | _ => True) := ⟨_, rfl⟩
  obtain ⟨Vp, hVdef⟩ := HV
  have Vp0 : ∀ u wv, Vp 0 u wv = (u 0 = .pointer (some ⟨b, 0, none⟩)) := fun u wv => by subst hVdef; rfl
  have Vp1 : ∀ u wv, Vp 1 u wv = (u 1 = .slice A n cp) := fun u wv => by subst hVdef; rfl
  have Vp2 : ∀ u wv, Vp 2 u wv = (u 2 = .int .i64 (n : Int)) := fun u wv => by subst hVdef; rfl
  have Vp3 : ∀ u wv, Vp 3 u wv = (u 3 = .bool B1) := fun u wv => by subst hVdef; rfl
  have Vp4 : ∀ u wv, Vp 4 u wv = (u 4 = .bool B1) := fun u wv => by subst hVdef; rfl
  have Vp5 : ∀ u wv, Vp 5 u wv = (u 5 = if B1 = true then .pointer (some ⟨b, 1, none⟩) else undef) := fun u wv => by subst hVdef; rfl
  have Vp6 : ∀ u wv, Vp 6 u wv = (u 6 = if B1 = true then .int .i64 c else undef) := fun u wv => by subst hVdef; rfl
  have Vp7 : ∀ u wv, Vp 7 u wv = (u 7 = if B1 = true then .bool B2 else undef) := fun u wv => by subst hVdef; rfl
  have Vp8 : ∀ u wv, Vp 8 u wv = (u 8 = .bool (B1 && B2)) := fun u wv => by subst hVdef; rfl
  have Vp9 : ∀ u wv, Vp 9 u wv = (u 9 = .bool (B1 && B2)) := fun u wv => by subst hVdef; rfl
  have Vp10 : ∀ u wv, Vp 10 u wv = (u 10 = if (B1 && B2) = true then .agg #[.slice A n cp, .int .i64 c] else undef) := fun u wv => by subst hVdef; rfl
  have Vp11 : ∀ u wv, Vp 11 u wv = (u 11 = if (B1 && B2) = true then .bool B3 else undef) := fun u wv => by subst hVdef; rfl
  have Vp12 : ∀ u wv, Vp 12 u wv = (u 12 = .bool ((B1 && B2) && B3)) := fun u wv => by subst hVdef; rfl
  have Vp13 : ∀ u wv, Vp 13 u wv = (u 13 = .bool ((B1 && B2) && B3)) := fun u wv => by subst hVdef; rfl
  have Vp14 : ∀ u wv, Vp 14 u wv = (u 14 = if ((B1 && B2) && B3) = true then .agg #[.slice A n cp, .int .i64 c] else undef) := fun u wv => by subst hVdef; rfl
  have Vp15 : ∀ u wv, Vp 15 u wv = (u 15 = if ((B1 && B2) && B3) = true then .int .i64 N else undef) := fun u wv => by subst hVdef; rfl
  have Vp16 : ∀ u wv, Vp 16 u wv = (u 16 = if ((B1 && B2) && B3) = true then .int .i64 CN else undef) := fun u wv => by subst hVdef; rfl
  have Vp17 : ∀ u wv, Vp 17 u wv = (u 17 = if ((B1 && B2) && B3) = true then .pointer (some ⟨b, 0, none⟩) else undef) := fun u wv => by subst hVdef; rfl
  have Vp18 : ∀ u wv, Vp 18 u wv = (u 18 = if ((B1 && B2) && B3) = true then .slice A n cp else undef) := fun u wv => by subst hVdef; rfl
  have Vp19 : ∀ u wv, Vp 19 u wv = (u 19 = if ((B1 && B2) && B3) = true then .int .i64 (n : Int) else undef) := fun u wv => by subst hVdef; rfl
  have Vp20 : ∀ u wv, Vp 20 u wv = (u 20 = if ((B1 && B2) && B3) = true then .bool (CN == (n : Int)) else undef) := fun u wv => by subst hVdef; rfl
  have Vp21 : ∀ u wv, Vp 21 u wv = (u 21 = .bool (((B1 && B2) && B3) && (CN == (n : Int)))) := fun u wv => by subst hVdef; rfl
  have Vp22 : ∀ u wv, Vp 22 u wv = (u 22 = .bool (((B1 && B2) && B3) && (CN == (n : Int)))) := fun u wv => by subst hVdef; rfl
  have HVD := Lib.hid hVdef
  clear hVdef
  refine region_each (V := Vp) (drop := fun _ _ => false) (G := fun wv => Below W.heap.size W wv) (Rel := fun jx wv wv' => Below wv.heap.size wv wv') (by kernel_rfl) (by kernel_rfl) (Below.refl _ _).drew ?hmonoc1 ?hdepc1 ⟨?s0_c1, ?s1_c1, ?s2_c1, ?s3_c1, ?s4_c1, ?s5_c1, ?s6_c1, ?s7_c1, ?s8_c1, ?s9_c1, ?s10_c1, ?s11_c1, ?s12_c1, ?s13_c1, ?s14_c1, ?s15_c1, ?s16_c1, ?s17_c1, ?s18_c1, ?s19_c1, ?s20_c1, ?s21_c1, ?s22_c1, trivial⟩ ?behindc1
  case hmonoc1 =>
    intro ix jx u wv wv' hij hw hd hr
    rw [HVD.out]
    dsimp only
    split <;> intro h <;> first | exact trivial | exact h
  case hdepc1 =>
    intro ix u u' wv h1 h2
    rw [HVD.out]
    dsimp only
    split <;> intro h <;> first | exact trivial | (rw [← h1]; exact h)
  case s0_c1 =>
    refine owe rfl fun a wx val hG hV hN hO K hK => ?_
    have e1 : a.tmps[1]? = some (.pointer (some ⟨b, 0, none⟩)) := (hO 1 (by kernel_rfl)).trans (by rfl)
    clear hV hN hO
    go_simp
    exact hK.out _ _ (by rw [Vp0, upd_at] <;> (congr 1 <;> omega)) (Below.refl _ _) hG
  case s1_c1 =>
    refine owe rfl fun a wx val hG hV hN hO K hK => ?_
    have e3 := hN 0 3 (by kernel_rfl) (by kernel_rfl) (by simp)
    have f3 := hV 0 (by kernel_rfl) (by kernel_rfl)
    rw [Vp0] at f3; rw [f3] at e3; clear f3
    clear hV hN hO
    obtain ⟨y0, y1⟩ := (HP.out.on hG).cells
    go_simp
    exact hK.out _ _ (by rw [Vp1, upd_at] <;> (congr 1 <;> omega)) (Below.refl _ _) hG
  case s2_c1 =>
    refine owe rfl fun a wx val hG hV hN hO K hK => ?_
    have e4 := hN 1 4 (by kernel_rfl) (by kernel_rfl) (by simp)
    have f4 := hV 1 (by kernel_rfl) (by kernel_rfl)
    rw [Vp1] at f4; rw [f4] at e4; clear f4
    clear hV hN hO
    go_simp
    exact hK.out _ _ (by rw [Vp2, upd_at] <;> (congr 1 <;> omega)) (Below.refl _ _) hG
  case s3_c1 =>
    refine owe rfl fun a wx val hG hV hN hO K hK => ?_
    have e5 := hN 2 5 (by kernel_rfl) (by kernel_rfl) (by simp)
    have f5 := hV 2 (by kernel_rfl) (by kernel_rfl)
    rw [Vp2] at f5; rw [f5] at e5; clear f5
    clear hV hN hO
    go_simp
    refine (C1.out _).mono ?_
    rintro e w11 ⟨rfl, rfl⟩
    exact hK.out _ _ (by rw [Vp3, upd_at]) (Below.refl _ _) hG
  case s4_c1 =>
    refine owe rfl fun a wx val hG hV hN hO K hK => ?_
    have e6 := hN 3 6 (by kernel_rfl) (by kernel_rfl) (by simp)
    have f6 := hV 3 (by kernel_rfl) (by kernel_rfl)
    rw [Vp3] at f6; rw [f6] at e6; clear f6
    clear hV hN hO
    go_simp
    exact hK.out _ _ (by rw [Vp4, upd_at] <;> (congr 1 <;> omega)) (Below.refl _ _) hG
  case s5_c1 =>
    refine owe_cond (g := 4) (t := 7) (b := true) (c := B1) (d := true) B1 (by first | rfl | simp) rfl (by kernel_rfl) (by kernel_rfl) (by kernel_rfl) (by simp) (fun val w h => by rw [Vp4] at h; first | exact h | simpa using h) (fun hd a wx val hG hV hN hO K hK => ?_) (fun hd val w => by rw [Vp5, upd_at, if_neg (by rw [hd]; decide)])
    have e1 : a.tmps[1]? = some (.pointer (some ⟨b, 0, none⟩)) := (hO 1 (by kernel_rfl)).trans (by rfl)
    clear hV hN hO
    go_simp
    exact hK.out _ _ (by rw [Vp5, upd_at, if_pos hd] <;> (congr 1 <;> omega)) (Below.refl _ _) hG
  case s6_c1 =>
    refine owe_cond (g := 4) (t := 7) (b := true) (c := B1) (d := true) B1 (by first | rfl | simp) rfl (by kernel_rfl) (by kernel_rfl) (by kernel_rfl) (by simp) (fun val w h => by rw [Vp4] at h; first | exact h | simpa using h) (fun hd a wx val hG hV hN hO K hK => ?_) (fun hd val w => by rw [Vp6, upd_at, if_neg (by rw [hd]; decide)])
    have e8 := hN 5 8 (by kernel_rfl) (by kernel_rfl) (by simp)
    have f8 := hV 5 (by kernel_rfl) (by kernel_rfl)
    rw [Vp5] at f8; rw [f8] at e8; clear f8
    rw [if_pos hd] at e8
    clear hV hN hO
    obtain ⟨y0, y1⟩ := (HP.out.on hG).cells
    go_simp
    exact hK.out _ _ (by rw [Vp6, upd_at, if_pos hd] <;> (congr 1 <;> omega)) (Below.refl _ _) hG
  case s7_c1 =>
    refine owe_cond (g := 4) (t := 7) (b := true) (c := B1) (d := true) B1 (by first | rfl | simp) rfl (by kernel_rfl) (by kernel_rfl) (by kernel_rfl) (by simp) (fun val w h => by rw [Vp4] at h; first | exact h | simpa using h) (fun hd a wx val hG hV hN hO K hK => ?_) (fun hd val w => by rw [Vp7, upd_at, if_neg (by rw [hd]; decide)])
    have e9 := hN 6 9 (by kernel_rfl) (by kernel_rfl) (by simp)
    have f9 := hV 6 (by kernel_rfl) (by kernel_rfl)
    rw [Vp6] at f9; rw [f9] at e9; clear f9
    rw [if_pos hd] at e9
    clear hV hN hO
    go_simp
    refine (C2.out _).mono ?_
    rintro e w11 ⟨rfl, rfl⟩
    exact hK.out _ _ (by rw [Vp7, upd_at, if_pos hd]) (Below.refl _ _) hG
  case s8_c1 =>
    refine owe rfl fun a wx val hG hV hN hO K hK => ?_
    have e7 := hN 4 7 (by kernel_rfl) (by kernel_rfl) (by simp)
    have f7 := hV 4 (by kernel_rfl) (by kernel_rfl)
    rw [Vp4] at f7; rw [f7] at e7; clear f7
    have e10 := hN 7 10 (by kernel_rfl) (by kernel_rfl) (by simp)
    have f10 := hV 7 (by kernel_rfl) (by kernel_rfl)
    rw [Vp7] at f10; rw [f10] at e10; clear f10
    clear hV hN hO
    cases hcc : B1
    · rw [hcc] at e7
      rw [if_neg (by first | (rw [hcc]; decide) | simp [hcc])] at e10
      go_simp
      exact hK.out _ _ (by rw [Vp8, upd_at] <;> simp [hcc]) (Below.refl _ _) hG
    · rw [hcc] at e7
      rw [if_pos (by first | exact hcc | (rw [hcc]; rfl) | simp [hcc])] at e10
      go_simp
      exact hK.out _ _ (by rw [Vp8, upd_at] <;> simp [hcc]) (Below.refl _ _) hG
  case s9_c1 =>
    refine owe rfl fun a wx val hG hV hN hO K hK => ?_
    have e11 := hN 8 11 (by kernel_rfl) (by kernel_rfl) (by simp)
    have f11 := hV 8 (by kernel_rfl) (by kernel_rfl)
    rw [Vp8] at f11; rw [f11] at e11; clear f11
    clear hV hN hO
    go_simp
    exact hK.out _ _ (by rw [Vp9, upd_at] <;> (congr 1 <;> omega)) (Below.refl _ _) hG
  case s10_c1 =>
    refine owe_cond (g := 9) (t := 12) (b := true) (c := (B1 && B2)) (d := true) ((B1 && B2)) (by first | rfl | simp) rfl (by kernel_rfl) (by kernel_rfl) (by kernel_rfl) (by simp) (fun val w h => by rw [Vp9] at h; first | exact h | simpa using h) (fun hd a wx val hG hV hN hO K hK => ?_) (fun hd val w => by rw [Vp10, upd_at, if_neg (by rw [hd]; decide)])
    have e1 : a.tmps[1]? = some (.pointer (some ⟨b, 0, none⟩)) := (hO 1 (by kernel_rfl)).trans (by rfl)
    clear hV hN hO
    obtain ⟨y0, y1⟩ := (HP.out.on hG).cells
    go_simp
    exact hK.out _ _ (by rw [Vp10, upd_at, if_pos hd] <;> (congr 1 <;> omega)) (Below.refl _ _) hG
  case s11_c1 =>
    refine owe_cond (g := 9) (t := 12) (b := true) (c := (B1 && B2)) (d := true) ((B1 && B2)) (by first | rfl | simp) rfl (by kernel_rfl) (by kernel_rfl) (by kernel_rfl) (by simp) (fun val w h => by rw [Vp9] at h; first | exact h | simpa using h) (fun hd a wx val hG hV hN hO K hK => ?_) (fun hd val w => by rw [Vp11, upd_at, if_neg (by rw [hd]; decide)])
    have e13 := hN 10 13 (by kernel_rfl) (by kernel_rfl) (by simp)
    have f13 := hV 10 (by kernel_rfl) (by kernel_rfl)
    rw [Vp10] at f13; rw [f13] at e13; clear f13
    rw [if_pos hd] at e13
    clear hV hN hO
    go_simp
    refine (C3.out _ hG).mono ?_
    rintro e w11 ⟨rfl, hb⟩
    exact hK.out _ _ (by rw [Vp11, upd_at, if_pos hd]) hb (hG.trans (hb.mono hG.size))
  case s12_c1 =>
    refine owe rfl fun a wx val hG hV hN hO K hK => ?_
    have e12 := hN 9 12 (by kernel_rfl) (by kernel_rfl) (by simp)
    have f12 := hV 9 (by kernel_rfl) (by kernel_rfl)
    rw [Vp9] at f12; rw [f12] at e12; clear f12
    have e14 := hN 11 14 (by kernel_rfl) (by kernel_rfl) (by simp)
    have f14 := hV 11 (by kernel_rfl) (by kernel_rfl)
    rw [Vp11] at f14; rw [f14] at e14; clear f14
    clear hV hN hO
    cases hcc : ((B1 && B2))
    · rw [hcc] at e12
      rw [if_neg (by first | (rw [hcc]; decide) | simp [hcc])] at e14
      go_simp
      exact hK.out _ _ (by rw [Vp12, upd_at] <;> simp [hcc]) (Below.refl _ _) hG
    · rw [hcc] at e12
      rw [if_pos (by first | exact hcc | (rw [hcc]; rfl) | simp [hcc])] at e14
      go_simp
      exact hK.out _ _ (by rw [Vp12, upd_at] <;> simp [hcc]) (Below.refl _ _) hG
  case s13_c1 =>
    refine owe rfl fun a wx val hG hV hN hO K hK => ?_
    have e15 := hN 12 15 (by kernel_rfl) (by kernel_rfl) (by simp)
    have f15 := hV 12 (by kernel_rfl) (by kernel_rfl)
    rw [Vp12] at f15; rw [f15] at e15; clear f15
    clear hV hN hO
    go_simp
    exact hK.out _ _ (by rw [Vp13, upd_at] <;> (congr 1 <;> omega)) (Below.refl _ _) hG
  case s14_c1 =>
    refine owe_cond (g := 13) (t := 16) (b := true) (c := ((B1 && B2) && B3)) (d := true) (((B1 && B2) && B3)) (by first | rfl | simp) rfl (by kernel_rfl) (by kernel_rfl) (by kernel_rfl) (by simp) (fun val w h => by rw [Vp13] at h; first | exact h | simpa using h) (fun hd a wx val hG hV hN hO K hK => ?_) (fun hd val w => by rw [Vp14, upd_at, if_neg (by rw [hd]; decide)])
    have e1 : a.tmps[1]? = some (.pointer (some ⟨b, 0, none⟩)) := (hO 1 (by kernel_rfl)).trans (by rfl)
    clear hV hN hO
    obtain ⟨y0, y1⟩ := (HP.out.on hG).cells
    go_simp
    exact hK.out _ _ (by rw [Vp14, upd_at, if_pos hd] <;> (congr 1 <;> omega)) (Below.refl _ _) hG
  case s15_c1 =>
    refine owe_cond (g := 13) (t := 16) (b := true) (c := ((B1 && B2) && B3)) (d := true) (((B1 && B2) && B3)) (by first | rfl | simp) rfl (by kernel_rfl) (by kernel_rfl) (by kernel_rfl) (by simp) (fun val w h => by rw [Vp13] at h; first | exact h | simpa using h) (fun hd a wx val hG hV hN hO K hK => ?_) (fun hd val w => by rw [Vp15, upd_at, if_neg (by rw [hd]; decide)])
    have e17 := hN 14 17 (by kernel_rfl) (by kernel_rfl) (by simp)
    have f17 := hV 14 (by kernel_rfl) (by kernel_rfl)
    rw [Vp14] at f17; rw [f17] at e17; clear f17
    rw [if_pos hd] at e17
    clear hV hN hO
    go_simp
    refine (C4.out _ hG).mono ?_
    rintro e w11 ⟨rfl, hb⟩
    exact hK.out _ _ (by rw [Vp15, upd_at, if_pos hd]) hb (hG.trans (hb.mono hG.size))
  case s16_c1 =>
    refine owe_cond (g := 13) (t := 16) (b := true) (c := ((B1 && B2) && B3)) (d := true) (((B1 && B2) && B3)) (by first | rfl | simp) rfl (by kernel_rfl) (by kernel_rfl) (by kernel_rfl) (by simp) (fun val w h => by rw [Vp13] at h; first | exact h | simpa using h) (fun hd a wx val hG hV hN hO K hK => ?_) (fun hd val w => by rw [Vp16, upd_at, if_neg (by rw [hd]; decide)])
    have e18 := hN 15 18 (by kernel_rfl) (by kernel_rfl) (by simp)
    have f18 := hV 15 (by kernel_rfl) (by kernel_rfl)
    rw [Vp15] at f18; rw [f18] at e18; clear f18
    rw [if_pos hd] at e18
    clear hV hN hO
    go_simp
    refine (C5.out _).mono ?_
    rintro e w11 ⟨rfl, hb⟩
    exact hK.out _ _ (by rw [Vp16, upd_at, if_pos hd]) hb (hG.trans (hb.mono hG.size))
  case s17_c1 =>
    refine owe_cond (g := 13) (t := 16) (b := true) (c := ((B1 && B2) && B3)) (d := true) (((B1 && B2) && B3)) (by first | rfl | simp) rfl (by kernel_rfl) (by kernel_rfl) (by kernel_rfl) (by simp) (fun val w h => by rw [Vp13] at h; first | exact h | simpa using h) (fun hd a wx val hG hV hN hO K hK => ?_) (fun hd val w => by rw [Vp17, upd_at, if_neg (by rw [hd]; decide)])
    have e1 : a.tmps[1]? = some (.pointer (some ⟨b, 0, none⟩)) := (hO 1 (by kernel_rfl)).trans (by rfl)
    clear hV hN hO
    go_simp
    exact hK.out _ _ (by rw [Vp17, upd_at, if_pos hd] <;> (congr 1 <;> omega)) (Below.refl _ _) hG
  case s18_c1 =>
    refine owe_cond (g := 13) (t := 16) (b := true) (c := ((B1 && B2) && B3)) (d := true) (((B1 && B2) && B3)) (by first | rfl | simp) rfl (by kernel_rfl) (by kernel_rfl) (by kernel_rfl) (by simp) (fun val w h => by rw [Vp13] at h; first | exact h | simpa using h) (fun hd a wx val hG hV hN hO K hK => ?_) (fun hd val w => by rw [Vp18, upd_at, if_neg (by rw [hd]; decide)])
    have e20 := hN 17 20 (by kernel_rfl) (by kernel_rfl) (by simp)
    have f20 := hV 17 (by kernel_rfl) (by kernel_rfl)
    rw [Vp17] at f20; rw [f20] at e20; clear f20
    rw [if_pos hd] at e20
    clear hV hN hO
    obtain ⟨y0, y1⟩ := (HP.out.on hG).cells
    go_simp
    exact hK.out _ _ (by rw [Vp18, upd_at, if_pos hd] <;> (congr 1 <;> omega)) (Below.refl _ _) hG
  case s19_c1 =>
    refine owe_cond (g := 13) (t := 16) (b := true) (c := ((B1 && B2) && B3)) (d := true) (((B1 && B2) && B3)) (by first | rfl | simp) rfl (by kernel_rfl) (by kernel_rfl) (by kernel_rfl) (by simp) (fun val w h => by rw [Vp13] at h; first | exact h | simpa using h) (fun hd a wx val hG hV hN hO K hK => ?_) (fun hd val w => by rw [Vp19, upd_at, if_neg (by rw [hd]; decide)])
    have e21 := hN 18 21 (by kernel_rfl) (by kernel_rfl) (by simp)
    have f21 := hV 18 (by kernel_rfl) (by kernel_rfl)
    rw [Vp18] at f21; rw [f21] at e21; clear f21
    rw [if_pos hd] at e21
    clear hV hN hO
    go_simp
    exact hK.out _ _ (by rw [Vp19, upd_at, if_pos hd] <;> (congr 1 <;> omega)) (Below.refl _ _) hG
  case s20_c1 =>
    refine owe_cond (g := 13) (t := 16) (b := true) (c := ((B1 && B2) && B3)) (d := true) (((B1 && B2) && B3)) (by first | rfl | simp) rfl (by kernel_rfl) (by kernel_rfl) (by kernel_rfl) (by simp) (fun val w h => by rw [Vp13] at h; first | exact h | simpa using h) (fun hd a wx val hG hV hN hO K hK => ?_) (fun hd val w => by rw [Vp20, upd_at, if_neg (by rw [hd]; decide)])
    have e19 := hN 16 19 (by kernel_rfl) (by kernel_rfl) (by simp)
    have f19 := hV 16 (by kernel_rfl) (by kernel_rfl)
    rw [Vp16] at f19; rw [f19] at e19; clear f19
    rw [if_pos hd] at e19
    have e22 := hN 19 22 (by kernel_rfl) (by kernel_rfl) (by simp)
    have f22 := hV 19 (by kernel_rfl) (by kernel_rfl)
    rw [Vp19] at f22; rw [f22] at e22; clear f22
    rw [if_pos hd] at e22
    clear hV hN hO
    go_simp
    exact hK.out _ _ (by rw [Vp20, upd_at, if_pos hd] <;> (congr 1 <;> omega)) (Below.refl _ _) hG
  case s21_c1 =>
    refine owe rfl fun a wx val hG hV hN hO K hK => ?_
    have e16 := hN 13 16 (by kernel_rfl) (by kernel_rfl) (by simp)
    have f16 := hV 13 (by kernel_rfl) (by kernel_rfl)
    rw [Vp13] at f16; rw [f16] at e16; clear f16
    have e23 := hN 20 23 (by kernel_rfl) (by kernel_rfl) (by simp)
    have f23 := hV 20 (by kernel_rfl) (by kernel_rfl)
    rw [Vp20] at f23; rw [f23] at e23; clear f23
    clear hV hN hO
    cases hcc : (((B1 && B2) && B3))
    · rw [hcc] at e16
      rw [if_neg (by first | (rw [hcc]; decide) | simp [hcc])] at e23
      go_simp
      exact hK.out _ _ (by rw [Vp21, upd_at] <;> simp [hcc]) (Below.refl _ _) hG
    · rw [hcc] at e16
      rw [if_pos (by first | exact hcc | (rw [hcc]; rfl) | simp [hcc])] at e23
      go_simp
      exact hK.out _ _ (by rw [Vp21, upd_at] <;> simp [hcc]) (Below.refl _ _) hG
  case s22_c1 =>
    refine owe rfl fun a wx val hG hV hN hO K hK => ?_
    have e24 := hN 21 24 (by kernel_rfl) (by kernel_rfl) (by simp)
    have f24 := hV 21 (by kernel_rfl) (by kernel_rfl)
    rw [Vp21] at f24; rw [f24] at e24; clear f24
    clear hV hN hO
    go_simp
    exact hK.out _ _ (by rw [Vp22, upd_at] <;> (congr 1 <;> omega)) (Below.refl _ _) hG
  intro val wx hG hV
  have f0 := hV 0 (by simp) (fun _ _ => by rfl)
  rw [Vp0] at f0
  have f1 := hV 1 (by simp) (fun _ _ => by rfl)
  rw [Vp1] at f1
  have f2 := hV 2 (by simp) (fun _ _ => by rfl)
  rw [Vp2] at f2
  have f3 := hV 3 (by simp) (fun _ _ => by rfl)
  rw [Vp3] at f3
  have f4 := hV 4 (by simp) (fun _ _ => by rfl)
  rw [Vp4] at f4
  have f5 := hV 5 (by simp) (fun _ _ => by rfl)
  rw [Vp5] at f5
  have f6 := hV 6 (by simp) (fun _ _ => by rfl)
  rw [Vp6] at f6
  have f7 := hV 7 (by simp) (fun _ _ => by rfl)
  rw [Vp7] at f7
  have f8 := hV 8 (by simp) (fun _ _ => by rfl)
  rw [Vp8] at f8
  have f9 := hV 9 (by simp) (fun _ _ => by rfl)
  rw [Vp9] at f9
  have f10 := hV 10 (by simp) (fun _ _ => by rfl)
  rw [Vp10] at f10
  have f11 := hV 11 (by simp) (fun _ _ => by rfl)
  rw [Vp11] at f11
  have f12 := hV 12 (by simp) (fun _ _ => by rfl)
  rw [Vp12] at f12
  have f13 := hV 13 (by simp) (fun _ _ => by rfl)
  rw [Vp13] at f13
  have f14 := hV 14 (by simp) (fun _ _ => by rfl)
  rw [Vp14] at f14
  have f15 := hV 15 (by simp) (fun _ _ => by rfl)
  rw [Vp15] at f15
  have f16 := hV 16 (by simp) (fun _ _ => by rfl)
  rw [Vp16] at f16
  have f17 := hV 17 (by simp) (fun _ _ => by rfl)
  rw [Vp17] at f17
  have f18 := hV 18 (by simp) (fun _ _ => by rfl)
  rw [Vp18] at f18
  have f19 := hV 19 (by simp) (fun _ _ => by rfl)
  rw [Vp19] at f19
  have f20 := hV 20 (by simp) (fun _ _ => by rfl)
  rw [Vp20] at f20
  have f21 := hV 21 (by simp) (fun _ _ => by rfl)
  rw [Vp21] at f21
  have f22 := hV 22 (by simp) (fun _ _ => by rfl)
  rw [Vp22] at f22
  clear hV Vp0 Vp1 Vp2 Vp3 Vp4 Vp5 Vp6 Vp7 Vp8 Vp9 Vp10 Vp11 Vp12 Vp13 Vp14 Vp15 Vp16 Vp17 Vp18 Vp19 Vp20 Vp21 Vp22
  simp only [putAll, Act.put, List.setIfInBounds_toArray, List.set_cons_zero, List.set_cons_succ]
  generalize val 0 = z0 at *; (subst f0)
  generalize val 1 = z1 at *; (subst f1)
  generalize val 2 = z2 at *; (subst f2)
  generalize val 3 = z3 at *; (subst f3)
  generalize val 4 = z4 at *; (subst f4)
  generalize val 5 = z5 at *; clear f5
  generalize val 6 = z6 at *; clear f6
  generalize val 7 = z7 at *; clear f7
  generalize val 8 = z8 at *; (subst f8)
  generalize val 9 = z9 at *; (subst f9)
  generalize val 10 = z10 at *; clear f10
  generalize val 11 = z11 at *; clear f11
  generalize val 12 = z12 at *; (subst f12)
  generalize val 13 = z13 at *; (subst f13)
  generalize val 14 = z14 at *; clear f14
  generalize val 15 = z15 at *; clear f15
  generalize val 16 = z16 at *; clear f16
  generalize val 17 = z17 at *; clear f17
  generalize val 18 = z18 at *; clear f18
  generalize val 19 = z19 at *; clear f19
  generalize val 20 = z20 at *; clear f20
  generalize val 21 = z21 at *; (subst f21)
  generalize val 22 = z22 at *; (subst f22)
  clear HVD
  go_wp2_with fail
  go_ret
  exact ⟨ret_b HCH.out.symm, HB.out.trans (hG.mono (by rw [← hg]; exact HB.out.size))⟩

theorem aheadI_len (l : Pl) : aheadI l l.length = sumS l := by
  unfold aheadI
  rw [if_neg (by omega)]
theorem aheadI_nat (l : Pl) (n : Int) (h0 : 0 ≤ n) (h1 : n < l.length) : aheadI l n = aheadS l n.toNat := by
  unfold aheadI
  rw [if_pos ⟨h0, h1⟩]

set_option maxRecDepth 100000 in
set_option maxHeartbeats 2000000 in
theorem round_any (A : Option Addr) (cp : Nat) (c : Int) (l : Pl) (hlm : l.length ≤ maxLen) (w : World) (hS : Sls w w.heap.size A l) :
    Calls Try.prog 15 #[pv A l.length cp c] w fun e W' => e = .returned (.int .i64 (roundS l c)) ∧ Below w.heap.size w W' := by
  have hB := Joins.below_alloc1 w (.cells #[.slice A l.length cp, .int .i64 c] 25)
  have hP := PlAt.new w A l.length cp c
  have hS0 := (hS.below hB (Nat.le_refl _)).more hB.size
  have hr := right_any A cp c l hlm _ hS0
  have HB := Lib.hid hB; clear hB hS
  obtain ⟨y0, y1⟩ := hP.cells
  cases hR : rightS l c
  · rw [hR] at hr
    have HV : Hid (roundS l c = 0) := Lib.hid (by unfold roundS; rw [hR]; rfl)
    clear hR hP
    go_enter Try.func15, Try.ntmps15
    go_wp2_with fail
    refine hr.mono ?_; rintro e w1 ⟨rfl, b1⟩
    go_wp2_with fail
    go_ret
    exact ⟨ret_i HV.out.symm, HB.out.trans (b1.mono HB.out.size)⟩
  · rw [hR] at hr
    have HV : Hid (aheadI l l.length = roundS l c) := Lib.hid (by unfold roundS; rw [hR, if_pos rfl]; exact aheadI_len l)
    have ht := rightS_ticked hR
    have hl16 := (rightS_len hR).2
    have ca := fun W h => ahead_any A cp c l ht hl16 l.length W h
    have CA := Lib.hid ca
    have HS := Lib.hid hS0
    have HP := Lib.hid hP
    clear hR hP ca hS0 ht
    go_enter Try.func15, Try.ntmps15
    go_wp2_with fail
    refine hr.mono ?_; rintro e w1 ⟨rfl, b1⟩
    clear y0 y1
    obtain ⟨y0, y1⟩ := (HP.out.on b1).cells
    go_wp2_with fail
    refine (CA.out _ ((HS.out.below b1 (Nat.le_refl _)).more b1.size)).mono ?_; rintro e w2 ⟨rfl, b2⟩
    go_wp2_with fail
    go_ret
    exact ⟨ret_i HV.out, HB.out.trans ((b1.trans (b2.mono b1.size)).mono HB.out.size)⟩

end Go.Proofs.Ytmklabdfalkldaa

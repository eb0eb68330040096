/-
  The walk of the law MsgTells, over the contracts.
-/
import Derived.Test.YtgolnklgbhilaaaDoorMsgBack
import Derived.Test.YtgolnklgbhilaaaDoorOnce
namespace Go.Proofs.YtgolnklgbhilaaaDoor
open Go.RowKit

/-- The six texts. -/
def sixS (S1 Y t S4 S5 S6 : ByteArray) : Nat → ByteArray
  | 0 => S1
  | 1 => Y
  | 2 => t
  | 3 => S4
  | 4 => S5
  | _ => S6
theorem sixS_size (S1 Y t S4 S5 S6 : ByteArray) (j : Nat) (h1 : S1.size ≤ 200) (h2 : Y.size ≤ 200) (h3 : t.size ≤ 200) (h4 : S4.size ≤ 200) (h5 : S5.size ≤ 200) (h6 : S6.size ≤ 200) : (sixS S1 Y t S4 S5 S6 j).size ≤ 200 := by
  unfold sixS
  split <;> assumption
set_option maxRecDepth 100000 in
theorem encT_size (m : Msg) : (txt (encT m)).size ≤ 20 := by
  rw [txt_size]
  by_cases h : rightM m = true
  · rw [encT_right h, encL_length h]
    have := rightM_data h
    omega
  · unfold encT; rw [if_neg h]; simp
set_option maxRecDepth 100000 in
/-- A text cut at its front. -/
theorem cut_to (s : ByteArray) (n : Nat) (ni : Int) (hn : ni = n) : ∃ (mz : Int) (S : ByteArray), (if ni < (s.size : Int) then ni else (s.size : Int)) = mz ∧ S.size ≤ n ∧ ∀ w, (Instr.slice 9 (.string s) none (some (.int .i64 mz)) none).run Tryd.prog w = .ok (.string S) w := by
  subst hn
  rcases Int.lt_or_le (n : Int) (s.size : Int) with h | h
  · exact ⟨n, txt (s.data.toList.take n), if_pos h, by rw [txt_size, List.length_take]; omega, fun w => run_to s n n rfl (by omega) w⟩
  · exact ⟨s.size, txt (s.data.toList.take s.size), if_neg (by omega), by rw [txt_size, List.length_take]; omega, fun w => run_to s s.size s.size rfl (by omega) w⟩

set_option maxHeartbeats 20000000 in
set_option maxRecDepth 100000 in
theorem msgTells_walk (T : Told) (a b : Msg) (r0 r1 r2 r3 r4 r5 : Int) (s : ByteArray) (at_ by_ : Int) (k0 : (Lit.int .i64 r0).wf = true) (k1 : (Lit.int .i64 r1).wf = true) (k2 : (Lit.int .i64 r2).wf = true) (k3 : (Lit.int .i64 r3).wf = true) (k4 : (Lit.int .i64 r4).wf = true) (k5 : (Lit.int .i64 r5).wf = true) (_hs : s.size ≤ maxLen) (kat : (Lit.int .i64 at_).wf = true) (kby : (Lit.int .i64 by_).wf = true) (w : World) (L : Laid w) :
    Calls Tryd.prog 3 #[.agg #[.bool a.ext, .int .i64 a.n, .int .i64 a.sender, .int .i64 a.inc, .int .i64 a.seq, .int .i64 a.number, .string a.data], .agg #[.bool b.ext, .int .i64 b.n, .int .i64 b.sender, .int .i64 b.inc, .int .i64 b.seq, .int .i64 b.number, .string b.data], .agg #[.int .i64 r0, .int .i64 r1, .int .i64 r2, .int .i64 r3, .int .i64 r4, .int .i64 r5], .string s, .int .i64 at_, .int .i64 by_] w fun e w' => e = .returned (.bool true) ∧ Below w.heap.size w w' := by
  have cA := fun w L => awake_any T w L
  have hAx : MsgAt (w.alloc (.cells (mc a) 25)) w.heap.size a := heap_alloc_new w _
  have hBx : MsgAt ((w.alloc (.cells (mc a) 25)).alloc (.cells (mc b) 25)) (w.heap.size + 1) b := by
    have := heap_alloc_new (w.alloc (.cells (mc a) 25)) (.cells (mc b) 25)
    rwa [World.size_alloc] at this
  have h6 : Six (((w.alloc (.cells (mc a) 25)).alloc (.cells (mc b) 25)).alloc (.cells #[.int .i64 r0, .int .i64 r1, .int .i64 r2, .int .i64 r3, .int .i64 r4, .int .i64 r5] 26)) (w.heap.size + 1 + 1) r0 r1 r2 r3 r4 r5 := by
    have := Six.new ((w.alloc (.cells (mc a) 25)).alloc (.cells (mc b) 25)) r0 r1 r2 r3 r4 r5
    rwa [World.size_alloc, World.size_alloc] at this
  have hA0 := (hAx.on (Joins.below_alloc1 _ (.cells (mc b) 25))).on (Joins.below_alloc1 _ (.cells #[.int .i64 r0, .int .i64 r1, .int .i64 r2, .int .i64 r3, .int .i64 r4, .int .i64 r5] 26))
  have hB0 := hBx.on (Joins.below_alloc1 _ (.cells #[.int .i64 r0, .int .i64 r1, .int .i64 r2, .int .i64 r3, .int .i64 r4, .int .i64 r5] 26))
  have hW := (Joins.below_alloc2 w (.cells (mc a) 25) (.cells (mc b) 25)).trans ((Joins.below_alloc1 ((w.alloc (.cells (mc a) 25)).alloc (.cells (mc b) 25)) (.cells #[.int .i64 r0, .int .i64 r1, .int .i64 r2, .int .i64 r3, .int .i64 r4, .int .i64 r5] 26)).mono (by simp; omega))
  have hL := ((L.alloc (.cells (mc a) 25)).alloc (.cells (mc b) 25)).alloc (.cells #[.int .i64 r0, .int .i64 r1, .int .i64 r2, .int .i64 r3, .int .i64 r4, .int .i64 r5] 26)
  clear hAx hBx
  go_enter Tryd.func3, Tryd.ntmps3
  go_wp2_with fail
  simp only [mc] at hA0 hB0 h6 hW hL ⊢
  generalize ((w.alloc (.cells #[.bool a.ext, .int .i64 a.n, .int .i64 a.sender, .int .i64 a.inc, .int .i64 a.seq, .int .i64 a.number, .string a.data] 25)).alloc (.cells #[.bool b.ext, .int .i64 b.n, .int .i64 b.sender, .int .i64 b.inc, .int .i64 b.seq, .int .i64 b.number, .string b.data] 25)).alloc (.cells #[.int .i64 r0, .int .i64 r1, .int .i64 r2, .int .i64 r3, .int .i64 r4, .int .i64 r5] 26) = W0 at *
  generalize hp0 : w.heap.size = p0 at *
  obtain ⟨p1, hp1⟩ : ∃ p1, p1 = p0 + 1 := ⟨_, rfl⟩
  obtain ⟨p2, hp2⟩ : ∃ p2, p2 = p0 + 2 := ⟨_, rfl⟩
  have hp2' : p0 + 1 + 1 = p2 := by omega
  rw [hp2'] at h6
  try rw [hp2']
  rw [← hp1] at hB0
  try rw [← hp1]
  try rw [← hp2]
  clear hp1 hp2 hp2'
  refine (cA _ hL).mono ?_; rintro e w1 ⟨rfl, b1⟩
  have B1 := hW.trans (b1.mono (by have := hW.size; omega))
  have hA1 := hA0.on b1
  have hB1 := hB0.on b1
  have h61 := h6.on b1
  have hL1 := hL.below b1
  clear hW hA0 hB0 h6 hL b1 cA
  obtain ⟨_, x0, x1, x2, x3, x4, x5, x6⟩ := Holds.of_blk hA1
  obtain ⟨_, y0, y1, y2, y3, y4, y5, y6⟩ := Holds.of_blk hB1
  by_cases ha : 100 < a.data.size
  · have ha' : 100 < (a.data.size : Int) := by omega
    go_wp2_with fail
    go_ret
    exact ⟨rfl, by rw [hp0]; exact B1⟩
  have ha' : ¬ 100 < (a.data.size : Int) := by omega
  by_cases hb : 100 < b.data.size
  · have hb' : 100 < (b.data.size : Int) := by omega
    go_wp2_with fail
    go_ret
    exact ⟨rfl, by rw [hp0]; exact B1⟩
  have hb' : ¬ 100 < (b.data.size : Int) := by omega
  have hdm : a.data.size ≤ maxLen := by unfold maxLen; omega
  have c1 := fun w L => T.right a w L hdm
  have c2 := fun w => refRightM_any a hdm w
  have c3 := fun w L => T.less a b w L
  have c4 := fun w => refLessM_any a b w
  have c5 := fun w L => T.less b a w L
  have c6 := fun w => refLessM_any b a w
  have c7 := fun w L => T.enc a w L hdm
  have c8 := fun w => refEnc_any a hdm w
  have hYs := encT_size a
  generalize rightM a = R at c1 c2
  generalize lessM a b = L1 at c3 c4
  generalize lessM b a = L2 at c5 c6
  generalize txt (encT a) = Y at c7 c8 hYs
  generalize encE a = E at c7 c8
  have C1 := Lib.hid c1; clear c1
  have C2 := Lib.hid c2; clear c2
  have C3 := Lib.hid c3; clear c3
  have C4 := Lib.hid c4; clear c4
  have C5 := Lib.hid c5; clear c5
  have C6 := Lib.hid c6; clear c6
  have HYs := Lib.hid hYs; clear hYs
  go_wp2_with fail
  refine (c7 _ hL1).mono ?_; rintro e w2 ⟨rfl, b2⟩
  have B2 := B1.trans (b2.mono (by have := B1.size; omega))
  have hA2 := hA1.on b2
  have hB2 := hB1.on b2
  have h62 := h61.on b2
  have hL2 := hL1.below b2
  clear B1 hA1 hB1 h61 hL1 b2 x0 x1 x2 x3 x4 x5 x6 y0 y1 y2 y3 y4 y5 y6 c7
  obtain ⟨_, x0, x1, x2, x3, x4, x5, x6⟩ := Holds.of_blk hA2
  go_wp2_with fail
  refine (c8 _).mono ?_; rintro e W3 ⟨rfl, b3⟩
  have B3 := B2.trans (b3.mono (by have := B2.size; omega))
  have HA := Lib.hid (hA2.on b3)
  have HBb := Lib.hid (hB2.on b3)
  have H6 := Lib.hid (h62.on b3)
  have HL := Lib.hid (hL2.below b3)
  clear B2 hA2 hB2 h62 hL2 b3 x0 x1 x2 x3 x4 x5 x6 c8
  have HB3 := Lib.hid B3; clear B3
  have HD := Lib.hid (show (a.data.size ≤ 100 ∧ b.data.size ≤ 100) from ⟨by omega, by omega⟩)
  clear ha hb ha' hb' hdm
  go_wp2_with fail
  have HV : ∃ V : Nat → (Nat → Value) → World → Prop, V = (fun ix u wv => match ix with
    | 0 => u 0 = .string Y
    | 1 => u 1 = .string Y
    | 2 => u 2 = .bool false
    | 3 => u 3 = .bool false
    | 4 => u 4 = .int .i64 E
    | 5 => u 5 = .int .i64 E
    | 6 => u 6 = .bool false
    | 7 => u 7 = .bool false
    | 8 => u 8 = .bool false
    | 9 => u 9 = .agg #[.bool a.ext, .int .i64 a.n, .int .i64 a.sender, .int .i64 a.inc, .int .i64 a.seq, .int .i64 a.number, .string a.data]
    | 10 => u 10 = .bool R
    | 11 => u 11 = .agg #[.bool a.ext, .int .i64 a.n, .int .i64 a.sender, .int .i64 a.inc, .int .i64 a.seq, .int .i64 a.number, .string a.data]
    | 12 => u 12 = .bool R
    | 13 => u 13 = .bool false
    | 14 => u 14 = .bool false
    | 15 => u 15 = .bool false
    | 16 => u 16 = .agg #[.bool a.ext, .int .i64 a.n, .int .i64 a.sender, .int .i64 a.inc, .int .i64 a.seq, .int .i64 a.number, .string a.data]
    | 17 => u 17 = .agg #[.bool b.ext, .int .i64 b.n, .int .i64 b.sender, .int .i64 b.inc, .int .i64 b.seq, .int .i64 b.number, .string b.data]
    | 18 => u 18 = .bool L1
    | 19 => u 19 = .agg #[.bool a.ext, .int .i64 a.n, .int .i64 a.sender, .int .i64 a.inc, .int .i64 a.seq, .int .i64 a.number, .string a.data]
    | 20 => u 20 = .agg #[.bool b.ext, .int .i64 b.n, .int .i64 b.sender, .int .i64 b.inc, .int .i64 b.seq, .int .i64 b.number, .string b.data]
    | 21 => u 21 = .bool L1
    | 22 => u 22 = .bool false
    | 23 => u 23 = .bool false
    | 24 => u 24 = .bool false
    | 25 => u 25 = .agg #[.bool b.ext, .int .i64 b.n, .int .i64 b.sender, .int .i64 b.inc, .int .i64 b.seq, .int .i64 b.number, .string b.data]
    | 26 => u 26 = .agg #[.bool a.ext, .int .i64 a.n, .int .i64 a.sender, .int .i64 a.inc, .int .i64 a.seq, .int .i64 a.number, .string a.data]
    | 27 => u 27 = .bool L2
    | 28 => u 28 = .agg #[.bool b.ext, .int .i64 b.n, .int .i64 b.sender, .int .i64 b.inc, .int .i64 b.seq, .int .i64 b.number, .string b.data]
    | 29 => u 29 = .agg #[.bool a.ext, .int .i64 a.n, .int .i64 a.sender, .int .i64 a.inc, .int .i64 a.seq, .int .i64 a.number, .string a.data]
    | 30 => u 30 = .bool L2
    | 31 => u 31 = .bool false
    | 32 => u 32 = .bool false
    | _ => True) := ⟨_, rfl⟩
  obtain ⟨V, hVdef⟩ := HV
  have V0 : ∀ u wv, V 0 u wv = (u 0 = .string Y) := fun u wv => by subst hVdef; rfl
  have V1 : ∀ u wv, V 1 u wv = (u 1 = .string Y) := fun u wv => by subst hVdef; rfl
  have V2 : ∀ u wv, V 2 u wv = (u 2 = .bool false) := fun u wv => by subst hVdef; rfl
  have V3 : ∀ u wv, V 3 u wv = (u 3 = .bool false) := fun u wv => by subst hVdef; rfl
  have V4 : ∀ u wv, V 4 u wv = (u 4 = .int .i64 E) := fun u wv => by subst hVdef; rfl
  have V5 : ∀ u wv, V 5 u wv = (u 5 = .int .i64 E) := fun u wv => by subst hVdef; rfl
  have V6 : ∀ u wv, V 6 u wv = (u 6 = .bool false) := fun u wv => by subst hVdef; rfl
  have V7 : ∀ u wv, V 7 u wv = (u 7 = .bool false) := fun u wv => by subst hVdef; rfl
  have V8 : ∀ u wv, V 8 u wv = (u 8 = .bool false) := fun u wv => by subst hVdef; rfl
  have V9 : ∀ u wv, V 9 u wv = (u 9 = .agg #[.bool a.ext, .int .i64 a.n, .int .i64 a.sender, .int .i64 a.inc, .int .i64 a.seq, .int .i64 a.number, .string a.data]) := fun u wv => by subst hVdef; rfl
  have V10 : ∀ u wv, V 10 u wv = (u 10 = .bool R) := fun u wv => by subst hVdef; rfl
  have V11 : ∀ u wv, V 11 u wv = (u 11 = .agg #[.bool a.ext, .int .i64 a.n, .int .i64 a.sender, .int .i64 a.inc, .int .i64 a.seq, .int .i64 a.number, .string a.data]) := fun u wv => by subst hVdef; rfl
  have V12 : ∀ u wv, V 12 u wv = (u 12 = .bool R) := fun u wv => by subst hVdef; rfl
  have V13 : ∀ u wv, V 13 u wv = (u 13 = .bool false) := fun u wv => by subst hVdef; rfl
  have V14 : ∀ u wv, V 14 u wv = (u 14 = .bool false) := fun u wv => by subst hVdef; rfl
  have V15 : ∀ u wv, V 15 u wv = (u 15 = .bool false) := fun u wv => by subst hVdef; rfl
  have V16 : ∀ u wv, V 16 u wv = (u 16 = .agg #[.bool a.ext, .int .i64 a.n, .int .i64 a.sender, .int .i64 a.inc, .int .i64 a.seq, .int .i64 a.number, .string a.data]) := fun u wv => by subst hVdef; rfl
  have V17 : ∀ u wv, V 17 u wv = (u 17 = .agg #[.bool b.ext, .int .i64 b.n, .int .i64 b.sender, .int .i64 b.inc, .int .i64 b.seq, .int .i64 b.number, .string b.data]) := fun u wv => by subst hVdef; rfl
  have V18 : ∀ u wv, V 18 u wv = (u 18 = .bool L1) := fun u wv => by subst hVdef; rfl
  have V19 : ∀ u wv, V 19 u wv = (u 19 = .agg #[.bool a.ext, .int .i64 a.n, .int .i64 a.sender, .int .i64 a.inc, .int .i64 a.seq, .int .i64 a.number, .string a.data]) := fun u wv => by subst hVdef; rfl
  have V20 : ∀ u wv, V 20 u wv = (u 20 = .agg #[.bool b.ext, .int .i64 b.n, .int .i64 b.sender, .int .i64 b.inc, .int .i64 b.seq, .int .i64 b.number, .string b.data]) := fun u wv => by subst hVdef; rfl
  have V21 : ∀ u wv, V 21 u wv = (u 21 = .bool L1) := fun u wv => by subst hVdef; rfl
  have V22 : ∀ u wv, V 22 u wv = (u 22 = .bool false) := fun u wv => by subst hVdef; rfl
  have V23 : ∀ u wv, V 23 u wv = (u 23 = .bool false) := fun u wv => by subst hVdef; rfl
  have V24 : ∀ u wv, V 24 u wv = (u 24 = .bool false) := fun u wv => by subst hVdef; rfl
  have V25 : ∀ u wv, V 25 u wv = (u 25 = .agg #[.bool b.ext, .int .i64 b.n, .int .i64 b.sender, .int .i64 b.inc, .int .i64 b.seq, .int .i64 b.number, .string b.data]) := fun u wv => by subst hVdef; rfl
  have V26 : ∀ u wv, V 26 u wv = (u 26 = .agg #[.bool a.ext, .int .i64 a.n, .int .i64 a.sender, .int .i64 a.inc, .int .i64 a.seq, .int .i64 a.number, .string a.data]) := fun u wv => by subst hVdef; rfl
  have V27 : ∀ u wv, V 27 u wv = (u 27 = .bool L2) := fun u wv => by subst hVdef; rfl
  have V28 : ∀ u wv, V 28 u wv = (u 28 = .agg #[.bool b.ext, .int .i64 b.n, .int .i64 b.sender, .int .i64 b.inc, .int .i64 b.seq, .int .i64 b.number, .string b.data]) := fun u wv => by subst hVdef; rfl
  have V29 : ∀ u wv, V 29 u wv = (u 29 = .agg #[.bool a.ext, .int .i64 a.n, .int .i64 a.sender, .int .i64 a.inc, .int .i64 a.seq, .int .i64 a.number, .string a.data]) := fun u wv => by subst hVdef; rfl
  have V30 : ∀ u wv, V 30 u wv = (u 30 = .bool L2) := fun u wv => by subst hVdef; rfl
  have V31 : ∀ u wv, V 31 u wv = (u 31 = .bool false) := fun u wv => by subst hVdef; rfl
  have V32 : ∀ u wv, V 32 u wv = (u 32 = .bool false) := fun u wv => by subst hVdef; rfl
  have HVD := Lib.hid hVdef
  clear hVdef
  refine region_each (V := V) (drop := fun _ _ => false) (G := fun wv => Below W3.heap.size W3 wv) (Rel := fun jx wv wv' => Below wv.heap.size wv wv') (by kernel_rfl) (by kernel_rfl) (Below.refl _ _).drew ?hmono1 ?hdep1 ⟨?s0_1, ?s1_1, ?s2_1, ?s3_1, ?s4_1, ?s5_1, ?s6_1, ?s7_1, ?s8_1, ?s9_1, ?s10_1, ?s11_1, ?s12_1, ?s13_1, ?s14_1, ?s15_1, ?s16_1, ?s17_1, ?s18_1, ?s19_1, ?s20_1, ?s21_1, ?s22_1, ?s23_1, ?s24_1, ?s25_1, ?s26_1, ?s27_1, ?s28_1, ?s29_1, ?s30_1, ?s31_1, ?s32_1, trivial⟩ ?behind1
  case hmono1 =>
    intro ix jx u wv wv' hij hw hd hr
    rw [HVD.out]
    dsimp only
    split <;> intro h <;> first | exact trivial | exact h | (exact absurd h id)
  case hdep1 =>
    intro ix u u' wv h1 h2
    rw [HVD.out]
    dsimp only
    split <;> intro h <;> first | exact trivial | (rw [← h1]; exact h) | (fail)
  case s0_1 =>
    refine owe rfl fun a wx val hG hV hN hO K hK => ?_
    have e14 : a.tmps[14]? = some (.string Y) := (hO 14 (by kernel_rfl)).trans (by rfl)
    clear hV hN hO
    go_simp
    exact hK.out _ _ (by rw [V0, upd_at]) (Below.refl _ _) hG
  case s1_1 =>
    refine owe rfl fun a wx val hG hV hN hO K hK => ?_
    have e16 : a.tmps[16]? = some (.string Y) := (hO 16 (by kernel_rfl)).trans (by rfl)
    clear hV hN hO
    go_simp
    exact hK.out _ _ (by rw [V1, upd_at]) (Below.refl _ _) hG
  case s2_1 =>
    refine owe rfl fun a wx val hG hV hN hO K hK => ?_
    have e51 := hN 0 51 (by kernel_rfl) (by kernel_rfl) (by simp)
    have f51 := hV 0 (by kernel_rfl) (by kernel_rfl)
    rw [V0] at f51
    rw [f51] at e51; clear f51
    have e52 := hN 1 52 (by kernel_rfl) (by kernel_rfl) (by simp)
    have f52 := hV 1 (by kernel_rfl) (by kernel_rfl)
    rw [V1] at f52
    rw [f52] at e52; clear f52
    clear hV hN hO
    go_simp
    exact hK.out _ _ (by rw [V2, upd_at]) (Below.refl _ _) hG
  case s3_1 =>
    refine owe rfl fun a wx val hG hV hN hO K hK => ?_
    have e53 := hN 2 53 (by kernel_rfl) (by kernel_rfl) (by simp)
    have f53 := hV 2 (by kernel_rfl) (by kernel_rfl)
    rw [V2] at f53
    rw [f53] at e53; clear f53
    clear hV hN hO
    go_simp
    exact hK.out _ _ (by rw [V3, upd_at]) (Below.refl _ _) hG
  case s4_1 =>
    refine owe_if (g := 3) (t := 54) (b := false) rfl (by kernel_rfl) (by kernel_rfl) (by kernel_rfl) (by simp) (fun val w h => by rw [V3] at h; exact h) fun a wx val hG hV hN hO K hK => ?_
    have e15 : a.tmps[15]? = some (.int .i64 E) := (hO 15 (by kernel_rfl)).trans (by rfl)
    clear hV hN hO
    go_simp
    exact hK.out _ _ (by rw [V4, upd_at]) (Below.refl _ _) hG
  case s5_1 =>
    refine owe_if (g := 3) (t := 54) (b := false) rfl (by kernel_rfl) (by kernel_rfl) (by kernel_rfl) (by simp) (fun val w h => by rw [V3] at h; exact h) fun a wx val hG hV hN hO K hK => ?_
    have e17 : a.tmps[17]? = some (.int .i64 E) := (hO 17 (by kernel_rfl)).trans (by rfl)
    clear hV hN hO
    go_simp
    exact hK.out _ _ (by rw [V5, upd_at]) (Below.refl _ _) hG
  case s6_1 =>
    refine owe_if (g := 3) (t := 54) (b := false) rfl (by kernel_rfl) (by kernel_rfl) (by kernel_rfl) (by simp) (fun val w h => by rw [V3] at h; exact h) fun a wx val hG hV hN hO K hK => ?_
    have e55 := hN 4 55 (by kernel_rfl) (by kernel_rfl) (by simp)
    have f55 := hV 4 (by kernel_rfl) (by kernel_rfl)
    rw [V4] at f55
    rw [f55] at e55; clear f55
    have e56 := hN 5 56 (by kernel_rfl) (by kernel_rfl) (by simp)
    have f56 := hV 5 (by kernel_rfl) (by kernel_rfl)
    rw [V5] at f56
    rw [f56] at e56; clear f56
    clear hV hN hO
    go_simp
    exact hK.out _ _ (by rw [V6, upd_at]) (Below.refl _ _) hG
  case s7_1 =>
    refine owe rfl fun a wx val hG hV hN hO K hK => ?_
    have e54 := hN 3 54 (by kernel_rfl) (by kernel_rfl) (by simp)
    have f54 := hV 3 (by kernel_rfl) (by kernel_rfl)
    rw [V3] at f54
    rw [f54] at e54; clear f54
    have e57 := hN 6 57 (by kernel_rfl) (by kernel_rfl) (by simp)
    have f57 := hV 6 (by kernel_rfl) (by kernel_rfl)
    rw [V6] at f57
    rw [f57] at e57; clear f57
    clear hV hN hO
    go_simp
    exact hK.out _ _ (by rw [V7, upd_at]) (Below.refl _ _) hG
  case s8_1 =>
    refine owe rfl fun a wx val hG hV hN hO K hK => ?_
    have e58 := hN 7 58 (by kernel_rfl) (by kernel_rfl) (by simp)
    have f58 := hV 7 (by kernel_rfl) (by kernel_rfl)
    rw [V7] at f58
    rw [f58] at e58; clear f58
    clear hV hN hO
    go_simp
    exact hK.out _ _ (by rw [V8, upd_at]) (Below.refl _ _) hG
  case s9_1 =>
    refine owe_if (g := 8) (t := 59) (b := false) rfl (by kernel_rfl) (by kernel_rfl) (by kernel_rfl) (by simp) (fun val w h => by rw [V8] at h; exact h) fun a wx val hG hV hN hO K hK => ?_
    have e6 : a.tmps[6]? = some (.pointer (some ⟨p0, 0, none⟩)) := (hO 6 (by kernel_rfl)).trans (by rfl)
    clear hV hN hO
    obtain ⟨_, x0, x1, x2, x3, x4, x5, x6⟩ := Holds.of_blk (HA.out.on hG)
    obtain ⟨_, y0, y1, y2, y3, y4, y5, y6⟩ := Holds.of_blk (HBb.out.on hG)
    go_simp
    exact hK.out _ _ (by rw [V9, upd_at]) (Below.refl _ _) hG
  case s10_1 =>
    refine owe_if (g := 8) (t := 59) (b := false) rfl (by kernel_rfl) (by kernel_rfl) (by kernel_rfl) (by simp) (fun val w h => by rw [V8] at h; exact h) fun a wx val hG hV hN hO K hK => ?_
    have e60 := hN 9 60 (by kernel_rfl) (by kernel_rfl) (by simp)
    have f60 := hV 9 (by kernel_rfl) (by kernel_rfl)
    rw [V9] at f60
    rw [f60] at e60; clear f60
    clear hV hN hO
    go_simp
    refine (C1.out _ (HL.out.below hG)).mono ?_
    rintro e w3 ⟨rfl, hb⟩
    exact hK.out _ _ (by rw [V10, upd_at]) hb (hG.trans (hb.mono hG.size))
  case s11_1 =>
    refine owe_if (g := 8) (t := 59) (b := false) rfl (by kernel_rfl) (by kernel_rfl) (by kernel_rfl) (by simp) (fun val w h => by rw [V8] at h; exact h) fun a wx val hG hV hN hO K hK => ?_
    have e6 : a.tmps[6]? = some (.pointer (some ⟨p0, 0, none⟩)) := (hO 6 (by kernel_rfl)).trans (by rfl)
    clear hV hN hO
    obtain ⟨_, x0, x1, x2, x3, x4, x5, x6⟩ := Holds.of_blk (HA.out.on hG)
    obtain ⟨_, y0, y1, y2, y3, y4, y5, y6⟩ := Holds.of_blk (HBb.out.on hG)
    go_simp
    exact hK.out _ _ (by rw [V11, upd_at]) (Below.refl _ _) hG
  case s12_1 =>
    refine owe_if (g := 8) (t := 59) (b := false) rfl (by kernel_rfl) (by kernel_rfl) (by kernel_rfl) (by simp) (fun val w h => by rw [V8] at h; exact h) fun a wx val hG hV hN hO K hK => ?_
    have e62 := hN 11 62 (by kernel_rfl) (by kernel_rfl) (by simp)
    have f62 := hV 11 (by kernel_rfl) (by kernel_rfl)
    rw [V11] at f62
    rw [f62] at e62; clear f62
    clear hV hN hO
    go_simp
    refine (C2.out _).mono ?_
    rintro e w3 ⟨rfl, hb⟩
    exact hK.out _ _ (by rw [V12, upd_at]) hb (hG.trans (hb.mono hG.size))
  case s13_1 =>
    refine owe_if (g := 8) (t := 59) (b := false) rfl (by kernel_rfl) (by kernel_rfl) (by kernel_rfl) (by simp) (fun val w h => by rw [V8] at h; exact h) fun a wx val hG hV hN hO K hK => ?_
    have e61 := hN 10 61 (by kernel_rfl) (by kernel_rfl) (by simp)
    have f61 := hV 10 (by kernel_rfl) (by kernel_rfl)
    rw [V10] at f61
    rw [f61] at e61; clear f61
    have e63 := hN 12 63 (by kernel_rfl) (by kernel_rfl) (by simp)
    have f63 := hV 12 (by kernel_rfl) (by kernel_rfl)
    rw [V12] at f63
    rw [f63] at e63; clear f63
    clear hV hN hO
    go_simp
    exact hK.out _ _ (by rw [V13, upd_at]) (Below.refl _ _) hG
  case s14_1 =>
    refine owe rfl fun a wx val hG hV hN hO K hK => ?_
    have e59 := hN 8 59 (by kernel_rfl) (by kernel_rfl) (by simp)
    have f59 := hV 8 (by kernel_rfl) (by kernel_rfl)
    rw [V8] at f59
    rw [f59] at e59; clear f59
    have e64 := hN 13 64 (by kernel_rfl) (by kernel_rfl) (by simp)
    have f64 := hV 13 (by kernel_rfl) (by kernel_rfl)
    rw [V13] at f64
    rw [f64] at e64; clear f64
    clear hV hN hO
    go_simp
    exact hK.out _ _ (by rw [V14, upd_at]) (Below.refl _ _) hG
  case s15_1 =>
    refine owe rfl fun a wx val hG hV hN hO K hK => ?_
    have e65 := hN 14 65 (by kernel_rfl) (by kernel_rfl) (by simp)
    have f65 := hV 14 (by kernel_rfl) (by kernel_rfl)
    rw [V14] at f65
    rw [f65] at e65; clear f65
    clear hV hN hO
    go_simp
    exact hK.out _ _ (by rw [V15, upd_at]) (Below.refl _ _) hG
  case s16_1 =>
    refine owe_if (g := 15) (t := 66) (b := false) rfl (by kernel_rfl) (by kernel_rfl) (by kernel_rfl) (by simp) (fun val w h => by rw [V15] at h; exact h) fun a wx val hG hV hN hO K hK => ?_
    have e6 : a.tmps[6]? = some (.pointer (some ⟨p0, 0, none⟩)) := (hO 6 (by kernel_rfl)).trans (by rfl)
    clear hV hN hO
    obtain ⟨_, x0, x1, x2, x3, x4, x5, x6⟩ := Holds.of_blk (HA.out.on hG)
    obtain ⟨_, y0, y1, y2, y3, y4, y5, y6⟩ := Holds.of_blk (HBb.out.on hG)
    go_simp
    exact hK.out _ _ (by rw [V16, upd_at]) (Below.refl _ _) hG
  case s17_1 =>
    refine owe_if (g := 15) (t := 66) (b := false) rfl (by kernel_rfl) (by kernel_rfl) (by kernel_rfl) (by simp) (fun val w h => by rw [V15] at h; exact h) fun a wx val hG hV hN hO K hK => ?_
    have e7 : a.tmps[7]? = some (.pointer (some ⟨p1, 0, none⟩)) := (hO 7 (by kernel_rfl)).trans (by rfl)
    clear hV hN hO
    obtain ⟨_, x0, x1, x2, x3, x4, x5, x6⟩ := Holds.of_blk (HA.out.on hG)
    obtain ⟨_, y0, y1, y2, y3, y4, y5, y6⟩ := Holds.of_blk (HBb.out.on hG)
    go_simp
    exact hK.out _ _ (by rw [V17, upd_at]) (Below.refl _ _) hG
  case s18_1 =>
    refine owe_if (g := 15) (t := 66) (b := false) rfl (by kernel_rfl) (by kernel_rfl) (by kernel_rfl) (by simp) (fun val w h => by rw [V15] at h; exact h) fun a wx val hG hV hN hO K hK => ?_
    have e67 := hN 16 67 (by kernel_rfl) (by kernel_rfl) (by simp)
    have f67 := hV 16 (by kernel_rfl) (by kernel_rfl)
    rw [V16] at f67
    rw [f67] at e67; clear f67
    have e68 := hN 17 68 (by kernel_rfl) (by kernel_rfl) (by simp)
    have f68 := hV 17 (by kernel_rfl) (by kernel_rfl)
    rw [V17] at f68
    rw [f68] at e68; clear f68
    clear hV hN hO
    go_simp
    refine (C3.out _ (HL.out.below hG)).mono ?_
    rintro e w3 ⟨rfl, hb⟩
    exact hK.out _ _ (by rw [V18, upd_at]) hb (hG.trans (hb.mono hG.size))
  case s19_1 =>
    refine owe_if (g := 15) (t := 66) (b := false) rfl (by kernel_rfl) (by kernel_rfl) (by kernel_rfl) (by simp) (fun val w h => by rw [V15] at h; exact h) fun a wx val hG hV hN hO K hK => ?_
    have e6 : a.tmps[6]? = some (.pointer (some ⟨p0, 0, none⟩)) := (hO 6 (by kernel_rfl)).trans (by rfl)
    clear hV hN hO
    obtain ⟨_, x0, x1, x2, x3, x4, x5, x6⟩ := Holds.of_blk (HA.out.on hG)
    obtain ⟨_, y0, y1, y2, y3, y4, y5, y6⟩ := Holds.of_blk (HBb.out.on hG)
    go_simp
    exact hK.out _ _ (by rw [V19, upd_at]) (Below.refl _ _) hG
  case s20_1 =>
    refine owe_if (g := 15) (t := 66) (b := false) rfl (by kernel_rfl) (by kernel_rfl) (by kernel_rfl) (by simp) (fun val w h => by rw [V15] at h; exact h) fun a wx val hG hV hN hO K hK => ?_
    have e7 : a.tmps[7]? = some (.pointer (some ⟨p1, 0, none⟩)) := (hO 7 (by kernel_rfl)).trans (by rfl)
    clear hV hN hO
    obtain ⟨_, x0, x1, x2, x3, x4, x5, x6⟩ := Holds.of_blk (HA.out.on hG)
    obtain ⟨_, y0, y1, y2, y3, y4, y5, y6⟩ := Holds.of_blk (HBb.out.on hG)
    go_simp
    exact hK.out _ _ (by rw [V20, upd_at]) (Below.refl _ _) hG
  case s21_1 =>
    refine owe_if (g := 15) (t := 66) (b := false) rfl (by kernel_rfl) (by kernel_rfl) (by kernel_rfl) (by simp) (fun val w h => by rw [V15] at h; exact h) fun a wx val hG hV hN hO K hK => ?_
    have e70 := hN 19 70 (by kernel_rfl) (by kernel_rfl) (by simp)
    have f70 := hV 19 (by kernel_rfl) (by kernel_rfl)
    rw [V19] at f70
    rw [f70] at e70; clear f70
    have e71 := hN 20 71 (by kernel_rfl) (by kernel_rfl) (by simp)
    have f71 := hV 20 (by kernel_rfl) (by kernel_rfl)
    rw [V20] at f71
    rw [f71] at e71; clear f71
    clear hV hN hO
    go_simp
    refine (C4.out _).mono ?_
    rintro e w3 ⟨rfl, hb⟩
    exact hK.out _ _ (by rw [V21, upd_at]) hb (hG.trans (hb.mono hG.size))
  case s22_1 =>
    refine owe_if (g := 15) (t := 66) (b := false) rfl (by kernel_rfl) (by kernel_rfl) (by kernel_rfl) (by simp) (fun val w h => by rw [V15] at h; exact h) fun a wx val hG hV hN hO K hK => ?_
    have e69 := hN 18 69 (by kernel_rfl) (by kernel_rfl) (by simp)
    have f69 := hV 18 (by kernel_rfl) (by kernel_rfl)
    rw [V18] at f69
    rw [f69] at e69; clear f69
    have e72 := hN 21 72 (by kernel_rfl) (by kernel_rfl) (by simp)
    have f72 := hV 21 (by kernel_rfl) (by kernel_rfl)
    rw [V21] at f72
    rw [f72] at e72; clear f72
    clear hV hN hO
    go_simp
    exact hK.out _ _ (by rw [V22, upd_at]) (Below.refl _ _) hG
  case s23_1 =>
    refine owe rfl fun a wx val hG hV hN hO K hK => ?_
    have e66 := hN 15 66 (by kernel_rfl) (by kernel_rfl) (by simp)
    have f66 := hV 15 (by kernel_rfl) (by kernel_rfl)
    rw [V15] at f66
    rw [f66] at e66; clear f66
    have e73 := hN 22 73 (by kernel_rfl) (by kernel_rfl) (by simp)
    have f73 := hV 22 (by kernel_rfl) (by kernel_rfl)
    rw [V22] at f73
    rw [f73] at e73; clear f73
    clear hV hN hO
    go_simp
    exact hK.out _ _ (by rw [V23, upd_at]) (Below.refl _ _) hG
  case s24_1 =>
    refine owe rfl fun a wx val hG hV hN hO K hK => ?_
    have e74 := hN 23 74 (by kernel_rfl) (by kernel_rfl) (by simp)
    have f74 := hV 23 (by kernel_rfl) (by kernel_rfl)
    rw [V23] at f74
    rw [f74] at e74; clear f74
    clear hV hN hO
    go_simp
    exact hK.out _ _ (by rw [V24, upd_at]) (Below.refl _ _) hG
  case s25_1 =>
    refine owe_if (g := 24) (t := 75) (b := false) rfl (by kernel_rfl) (by kernel_rfl) (by kernel_rfl) (by simp) (fun val w h => by rw [V24] at h; exact h) fun a wx val hG hV hN hO K hK => ?_
    have e7 : a.tmps[7]? = some (.pointer (some ⟨p1, 0, none⟩)) := (hO 7 (by kernel_rfl)).trans (by rfl)
    clear hV hN hO
    obtain ⟨_, x0, x1, x2, x3, x4, x5, x6⟩ := Holds.of_blk (HA.out.on hG)
    obtain ⟨_, y0, y1, y2, y3, y4, y5, y6⟩ := Holds.of_blk (HBb.out.on hG)
    go_simp
    exact hK.out _ _ (by rw [V25, upd_at]) (Below.refl _ _) hG
  case s26_1 =>
    refine owe_if (g := 24) (t := 75) (b := false) rfl (by kernel_rfl) (by kernel_rfl) (by kernel_rfl) (by simp) (fun val w h => by rw [V24] at h; exact h) fun a wx val hG hV hN hO K hK => ?_
    have e6 : a.tmps[6]? = some (.pointer (some ⟨p0, 0, none⟩)) := (hO 6 (by kernel_rfl)).trans (by rfl)
    clear hV hN hO
    obtain ⟨_, x0, x1, x2, x3, x4, x5, x6⟩ := Holds.of_blk (HA.out.on hG)
    obtain ⟨_, y0, y1, y2, y3, y4, y5, y6⟩ := Holds.of_blk (HBb.out.on hG)
    go_simp
    exact hK.out _ _ (by rw [V26, upd_at]) (Below.refl _ _) hG
  case s27_1 =>
    refine owe_if (g := 24) (t := 75) (b := false) rfl (by kernel_rfl) (by kernel_rfl) (by kernel_rfl) (by simp) (fun val w h => by rw [V24] at h; exact h) fun a wx val hG hV hN hO K hK => ?_
    have e76 := hN 25 76 (by kernel_rfl) (by kernel_rfl) (by simp)
    have f76 := hV 25 (by kernel_rfl) (by kernel_rfl)
    rw [V25] at f76
    rw [f76] at e76; clear f76
    have e77 := hN 26 77 (by kernel_rfl) (by kernel_rfl) (by simp)
    have f77 := hV 26 (by kernel_rfl) (by kernel_rfl)
    rw [V26] at f77
    rw [f77] at e77; clear f77
    clear hV hN hO
    go_simp
    refine (C5.out _ (HL.out.below hG)).mono ?_
    rintro e w3 ⟨rfl, hb⟩
    exact hK.out _ _ (by rw [V27, upd_at]) hb (hG.trans (hb.mono hG.size))
  case s28_1 =>
    refine owe_if (g := 24) (t := 75) (b := false) rfl (by kernel_rfl) (by kernel_rfl) (by kernel_rfl) (by simp) (fun val w h => by rw [V24] at h; exact h) fun a wx val hG hV hN hO K hK => ?_
    have e7 : a.tmps[7]? = some (.pointer (some ⟨p1, 0, none⟩)) := (hO 7 (by kernel_rfl)).trans (by rfl)
    clear hV hN hO
    obtain ⟨_, x0, x1, x2, x3, x4, x5, x6⟩ := Holds.of_blk (HA.out.on hG)
    obtain ⟨_, y0, y1, y2, y3, y4, y5, y6⟩ := Holds.of_blk (HBb.out.on hG)
    go_simp
    exact hK.out _ _ (by rw [V28, upd_at]) (Below.refl _ _) hG
  case s29_1 =>
    refine owe_if (g := 24) (t := 75) (b := false) rfl (by kernel_rfl) (by kernel_rfl) (by kernel_rfl) (by simp) (fun val w h => by rw [V24] at h; exact h) fun a wx val hG hV hN hO K hK => ?_
    have e6 : a.tmps[6]? = some (.pointer (some ⟨p0, 0, none⟩)) := (hO 6 (by kernel_rfl)).trans (by rfl)
    clear hV hN hO
    obtain ⟨_, x0, x1, x2, x3, x4, x5, x6⟩ := Holds.of_blk (HA.out.on hG)
    obtain ⟨_, y0, y1, y2, y3, y4, y5, y6⟩ := Holds.of_blk (HBb.out.on hG)
    go_simp
    exact hK.out _ _ (by rw [V29, upd_at]) (Below.refl _ _) hG
  case s30_1 =>
    refine owe_if (g := 24) (t := 75) (b := false) rfl (by kernel_rfl) (by kernel_rfl) (by kernel_rfl) (by simp) (fun val w h => by rw [V24] at h; exact h) fun a wx val hG hV hN hO K hK => ?_
    have e79 := hN 28 79 (by kernel_rfl) (by kernel_rfl) (by simp)
    have f79 := hV 28 (by kernel_rfl) (by kernel_rfl)
    rw [V28] at f79
    rw [f79] at e79; clear f79
    have e80 := hN 29 80 (by kernel_rfl) (by kernel_rfl) (by simp)
    have f80 := hV 29 (by kernel_rfl) (by kernel_rfl)
    rw [V29] at f80
    rw [f80] at e80; clear f80
    clear hV hN hO
    go_simp
    refine (C6.out _).mono ?_
    rintro e w3 ⟨rfl, hb⟩
    exact hK.out _ _ (by rw [V30, upd_at]) hb (hG.trans (hb.mono hG.size))
  case s31_1 =>
    refine owe_if (g := 24) (t := 75) (b := false) rfl (by kernel_rfl) (by kernel_rfl) (by kernel_rfl) (by simp) (fun val w h => by rw [V24] at h; exact h) fun a wx val hG hV hN hO K hK => ?_
    have e78 := hN 27 78 (by kernel_rfl) (by kernel_rfl) (by simp)
    have f78 := hV 27 (by kernel_rfl) (by kernel_rfl)
    rw [V27] at f78
    rw [f78] at e78; clear f78
    have e81 := hN 30 81 (by kernel_rfl) (by kernel_rfl) (by simp)
    have f81 := hV 30 (by kernel_rfl) (by kernel_rfl)
    rw [V30] at f81
    rw [f81] at e81; clear f81
    clear hV hN hO
    go_simp
    exact hK.out _ _ (by rw [V31, upd_at]) (Below.refl _ _) hG
  case s32_1 =>
    refine owe rfl fun a wx val hG hV hN hO K hK => ?_
    have e75 := hN 24 75 (by kernel_rfl) (by kernel_rfl) (by simp)
    have f75 := hV 24 (by kernel_rfl) (by kernel_rfl)
    rw [V24] at f75
    rw [f75] at e75; clear f75
    have e82 := hN 31 82 (by kernel_rfl) (by kernel_rfl) (by simp)
    have f82 := hV 31 (by kernel_rfl) (by kernel_rfl)
    rw [V31] at f82
    rw [f82] at e82; clear f82
    clear hV hN hO
    go_simp
    exact hK.out _ _ (by rw [V32, upd_at]) (Below.refl _ _) hG
  intro val wx hG hV
  have f0 := hV 0 (by simp) (fun _ _ => by rfl)
  rw [V0] at f0
  have f1 := hV 1 (by simp) (fun _ _ => by rfl)
  rw [V1] at f1
  have f2 := hV 2 (by simp) (fun _ _ => by rfl)
  rw [V2] at f2
  have f3 := hV 3 (by simp) (fun _ _ => by rfl)
  rw [V3] at f3
  have f4 := hV 4 (by simp) (fun _ _ => by rfl)
  rw [V4] at f4
  have f5 := hV 5 (by simp) (fun _ _ => by rfl)
  rw [V5] at f5
  have f6 := hV 6 (by simp) (fun _ _ => by rfl)
  rw [V6] at f6
  have f7 := hV 7 (by simp) (fun _ _ => by rfl)
  rw [V7] at f7
  have f8 := hV 8 (by simp) (fun _ _ => by rfl)
  rw [V8] at f8
  have f9 := hV 9 (by simp) (fun _ _ => by rfl)
  rw [V9] at f9
  have f10 := hV 10 (by simp) (fun _ _ => by rfl)
  rw [V10] at f10
  have f11 := hV 11 (by simp) (fun _ _ => by rfl)
  rw [V11] at f11
  have f12 := hV 12 (by simp) (fun _ _ => by rfl)
  rw [V12] at f12
  have f13 := hV 13 (by simp) (fun _ _ => by rfl)
  rw [V13] at f13
  have f14 := hV 14 (by simp) (fun _ _ => by rfl)
  rw [V14] at f14
  have f15 := hV 15 (by simp) (fun _ _ => by rfl)
  rw [V15] at f15
  have f16 := hV 16 (by simp) (fun _ _ => by rfl)
  rw [V16] at f16
  have f17 := hV 17 (by simp) (fun _ _ => by rfl)
  rw [V17] at f17
  have f18 := hV 18 (by simp) (fun _ _ => by rfl)
  rw [V18] at f18
  have f19 := hV 19 (by simp) (fun _ _ => by rfl)
  rw [V19] at f19
  have f20 := hV 20 (by simp) (fun _ _ => by rfl)
  rw [V20] at f20
  have f21 := hV 21 (by simp) (fun _ _ => by rfl)
  rw [V21] at f21
  have f22 := hV 22 (by simp) (fun _ _ => by rfl)
  rw [V22] at f22
  have f23 := hV 23 (by simp) (fun _ _ => by rfl)
  rw [V23] at f23
  have f24 := hV 24 (by simp) (fun _ _ => by rfl)
  rw [V24] at f24
  have f25 := hV 25 (by simp) (fun _ _ => by rfl)
  rw [V25] at f25
  have f26 := hV 26 (by simp) (fun _ _ => by rfl)
  rw [V26] at f26
  have f27 := hV 27 (by simp) (fun _ _ => by rfl)
  rw [V27] at f27
  have f28 := hV 28 (by simp) (fun _ _ => by rfl)
  rw [V28] at f28
  have f29 := hV 29 (by simp) (fun _ _ => by rfl)
  rw [V29] at f29
  have f30 := hV 30 (by simp) (fun _ _ => by rfl)
  rw [V30] at f30
  have f31 := hV 31 (by simp) (fun _ _ => by rfl)
  rw [V31] at f31
  have f32 := hV 32 (by simp) (fun _ _ => by rfl)
  rw [V32] at f32
  clear hV V0 V1 V2 V3 V4 V5 V6 V7 V8 V9 V10 V11 V12 V13 V14 V15 V16 V17 V18 V19 V20 V21 V22 V23 V24 V25 V26 V27 V28 V29 V30 V31 V32
  simp only [putAll, Act.put, List.setIfInBounds_toArray, List.set_cons_zero, List.set_cons_succ]
  generalize val 0 = z0 at *; (subst f0)
  generalize val 1 = z1 at *; (subst f1)
  generalize val 2 = z2 at *; (subst f2)
  generalize val 3 = z3 at *; (subst f3)
  generalize val 4 = z4 at *; (subst f4)
  generalize val 5 = z5 at *; (subst f5)
  generalize val 6 = z6 at *; (subst f6)
  generalize val 7 = z7 at *; (subst f7)
  generalize val 8 = z8 at *; (subst f8)
  generalize val 9 = z9 at *; (subst f9)
  generalize val 10 = z10 at *; (subst f10)
  generalize val 11 = z11 at *; (subst f11)
  generalize val 12 = z12 at *; (subst f12)
  generalize val 13 = z13 at *; (subst f13)
  generalize val 14 = z14 at *; (subst f14)
  generalize val 15 = z15 at *; (subst f15)
  generalize val 16 = z16 at *; (subst f16)
  generalize val 17 = z17 at *; (subst f17)
  generalize val 18 = z18 at *; (subst f18)
  generalize val 19 = z19 at *; (subst f19)
  generalize val 20 = z20 at *; (subst f20)
  generalize val 21 = z21 at *; (subst f21)
  generalize val 22 = z22 at *; (subst f22)
  generalize val 23 = z23 at *; (subst f23)
  generalize val 24 = z24 at *; (subst f24)
  generalize val 25 = z25 at *; (subst f25)
  generalize val 26 = z26 at *; (subst f26)
  generalize val 27 = z27 at *; (subst f27)
  generalize val 28 = z28 at *; (subst f28)
  generalize val 29 = z29 at *; (subst f29)
  generalize val 30 = z30 at *; (subst f30)
  generalize val 31 = z31 at *; (subst f31)
  generalize val 32 = z32 at *; (subst f32)
  have hm := rawM_right r0 r1 r2 r3 r4 r5 a.data
  have cM := fun w => rawM_any r0 r1 r2 r3 r4 r5 a.data k0 k1 k2 k3 k4 k5 (by have := HD.out.1; unfold maxLen; omega) w
  generalize rawM r0 r1 r2 r3 r4 r5 a.data = m at hm cM
  have hmd := rightM_data hm
  have cR := fun w => refEnc_any m (by unfold maxLen; omega) w
  rw [encT_right hm, encE_right hm] at cR
  have ht : (txt (encL m)).size = 12 + m.data.size := by rw [txt_size, encL_length hm]
  generalize txt (encL m) = t at cR ht
  simp only [mv] at cM cR
  have cK := fun w => pick_any at_ (t.size : Int) kat (by omega) w
  have hk := pickI_range at_ (t.size : Int) (by omega)
  generalize pickI at_ (t.size : Int) = k at cK hk
  have cP := fun w => pick_any by_ 256 kby (by omega) w
  have hq := pickI_range by_ 256 (by omega)
  generalize pickI by_ 256 = q at cP hq
  obtain ⟨m1, S1, e1, s1, g1⟩ := cut_to s 200 200 rfl
  obtain ⟨m2, S5a, e2, s2, g2⟩ := cut_to s 9 9 rfl
  have g4 := fun w => run_to t k k.toNat (by omega) (by omega) w
  have s4 : (txt (t.data.toList.take k.toNat)).size ≤ 20 := by rw [txt_size, List.length_take]; have := Lib.size_eq t; omega
  generalize txt (t.data.toList.take k.toNat) = S4 at g4 s4
  have g6 := fun w => run_from t (k + 1) (k.toNat + 1) (by omega) (by omega) w
  have s6b : (txt (t.data.toList.drop (k.toNat + 1))).size ≤ 20 := by rw [txt_size, List.length_drop]; have := Lib.size_eq t; omega
  generalize txt (t.data.toList.drop (k.toNat + 1)) = S6b at g6 s6b
  obtain ⟨S6o, e6o⟩ : ∃ x, txt [UInt8.ofNat (IntKind.u8.wrap q).toNat] = x := ⟨_, rfl⟩
  have s6o : S6o.size = 1 := by rw [← e6o]; rfl
  obtain ⟨S5, e5⟩ : ∃ x, t ++ S5a = x := ⟨_, rfl⟩
  have s5 : S5.size = t.size + S5a.size := by rw [← e5, ByteArray.size_append]
  obtain ⟨S6a, e6a⟩ : ∃ x, S4 ++ S6o = x := ⟨_, rfl⟩
  have s6a : S6a.size = S4.size + S6o.size := by rw [← e6a, ByteArray.size_append]
  obtain ⟨S6, e6⟩ : ∃ x, S6a ++ S6b = x := ⟨_, rfl⟩
  have s6 : S6.size = S6a.size + S6b.size := by rw [← e6, ByteArray.size_append]
  have M1 := Lib.hid e1; clear e1
  have M2 := Lib.hid e2; clear e2
  have K1 := Lib.hid g1; clear g1
  have K5a := Lib.hid g2; clear g2
  have K4 := Lib.hid g4; clear g4
  have K6b := Lib.hid g6; clear g6
  have K6o := Lib.hid e6o; clear e6o
  have K5 := Lib.hid e5; clear e5
  have K6a := Lib.hid e6a; clear e6a
  have K6 := Lib.hid e6; clear e6
  have KW : Hid (IntKind.i64.wrap (k + 1) = k + 1) := Lib.hid (IntWalk.i64_in _ (by omega))
  have O5 : Hid (¬ 9223372036854775807 < t.size + S5a.size) := Lib.hid (by omega)
  have O6a : Hid (¬ 9223372036854775807 < S4.size + S6o.size) := Lib.hid (by omega)
  have O6 : Hid (¬ 9223372036854775807 < S6a.size + S6b.size) := Lib.hid (by omega)
  have CP := Lib.hid cP; clear cP
  have HSZ := Lib.hid (fun j => sixS_size S1 Y t S4 S5 S6 j s1 (by have := HYs.out; omega) (by omega) (by omega) (by omega) (by omega))
  clear s1 s2 s4 s6b s6o s5 s6a s6 hq hmd hm ht
  have HK := Lib.hid hk; clear hk
  have HA4 := HA.out.on hG
  have H64 := H6.out.on hG
  have hL4 := HL.out.below hG
  have B4 := HB3.out.trans (hG.mono (by have := HB3.out.size; omega))
  clear C1 C2 C3 C4 C5 C6 HA HBb H6 HL HB3 hG
  obtain ⟨_, x0, x1, x2, x3, x4, x5, x6⟩ := Holds.of_blk HA4
  obtain ⟨a0, a1, a2, a3, a4, a5⟩ := H64.cells
  go_wp2_with fail
  refine (cM _).mono ?_; rintro e w4 ⟨rfl, b4⟩
  have B5 := B4.trans (b4.mono (by have := B4.size; omega))
  have hL5 := hL4.below b4
  clear x0 x1 x2 x3 x4 x5 x6 a0 a1 a2 a3 a4 a5 HA4 H64 hL4 B4 b4 cM
  go_wp2_with fail
  refine (cR _).mono ?_; rintro e W5 ⟨rfl, b5⟩
  have B6 := B5.trans (b5.mono (by have := B5.size; omega))
  have hL6 := hL5.below b5
  clear B5 hL5 b5 cR
  go_wp2_with fail
  refine (cK _).mono ?_; rintro e w6 ⟨rfl, rfl⟩
  have HB6 := Lib.hid B6; clear B6
  have HL6 := Lib.hid hL6; clear hL6
  clear cK
  go_wp2_with fail
  have HV : ∃ V : Nat → (Nat → Value) → World → Prop, V = (fun ix u wv => match ix with
    | 0 => u 0 = .string s
    | 1 => u 1 = .string s
    | 2 => u 2 = .int .i64 (s.size : Int)
    | 3 => u 3 = .int .i64 m1
    | 4 => u 4 = .string S1
    | 5 => u 5 = .string Y
    | 6 => u 6 = .string t
    | 7 => u 7 = .string t
    | 8 => u 8 = .int .i64 k
    | 9 => u 9 = .string S4
    | 10 => u 10 = .string t
    | 11 => u 11 = .string s
    | 12 => u 12 = .string s
    | 13 => u 13 = .int .i64 (s.size : Int)
    | 14 => u 14 = .int .i64 m2
    | 15 => u 15 = .string S5a
    | 16 => u 16 = .string S5
    | 17 => u 17 = .string t
    | 18 => u 18 = .int .i64 k
    | 19 => u 19 = .string S4
    | 20 => u 20 = .int .i64 by_
    | 21 => u 21 = .int .i64 q
    | 22 => u 22 = .int .u8 (IntKind.u8.wrap q)
    | 23 => ∃ g, u 23 = .slice (some ⟨g, 0, none⟩) 1 1 ∧ wv.heap[g]? = some (.cells #[.int .u8 (IntKind.u8.wrap q)] 5 (0, 0))
    | 24 => u 24 = .string S6o
    | 25 => u 25 = .string S6a
    | 26 => u 26 = .string t
    | 27 => u 27 = .int .i64 k
    | 28 => u 28 = .int .i64 (k + 1)
    | 29 => u 29 = .string S6b
    | 30 => u 30 = .string S6
    | 31 => ∃ g, u 31 = .slice (some ⟨g, 0, none⟩) 6 6 ∧ wv.heap[g]? = some (.cells #[.string S1, .string Y, .string t, .string S4, .string S5, .string S6] 9 (0, 0))
    | 32 => u 32 = .int .i64 6
    | 33 => u 33 = .int .i64 0
    | _ => True) := ⟨_, rfl⟩
  obtain ⟨V, hVdef⟩ := HV
  have V0 : ∀ u wv, V 0 u wv = (u 0 = .string s) := fun u wv => by subst hVdef; rfl
  have V1 : ∀ u wv, V 1 u wv = (u 1 = .string s) := fun u wv => by subst hVdef; rfl
  have V2 : ∀ u wv, V 2 u wv = (u 2 = .int .i64 (s.size : Int)) := fun u wv => by subst hVdef; rfl
  have V3 : ∀ u wv, V 3 u wv = (u 3 = .int .i64 m1) := fun u wv => by subst hVdef; rfl
  have V4 : ∀ u wv, V 4 u wv = (u 4 = .string S1) := fun u wv => by subst hVdef; rfl
  have V5 : ∀ u wv, V 5 u wv = (u 5 = .string Y) := fun u wv => by subst hVdef; rfl
  have V6 : ∀ u wv, V 6 u wv = (u 6 = .string t) := fun u wv => by subst hVdef; rfl
  have V7 : ∀ u wv, V 7 u wv = (u 7 = .string t) := fun u wv => by subst hVdef; rfl
  have V8 : ∀ u wv, V 8 u wv = (u 8 = .int .i64 k) := fun u wv => by subst hVdef; rfl
  have V9 : ∀ u wv, V 9 u wv = (u 9 = .string S4) := fun u wv => by subst hVdef; rfl
  have V10 : ∀ u wv, V 10 u wv = (u 10 = .string t) := fun u wv => by subst hVdef; rfl
  have V11 : ∀ u wv, V 11 u wv = (u 11 = .string s) := fun u wv => by subst hVdef; rfl
  have V12 : ∀ u wv, V 12 u wv = (u 12 = .string s) := fun u wv => by subst hVdef; rfl
  have V13 : ∀ u wv, V 13 u wv = (u 13 = .int .i64 (s.size : Int)) := fun u wv => by subst hVdef; rfl
  have V14 : ∀ u wv, V 14 u wv = (u 14 = .int .i64 m2) := fun u wv => by subst hVdef; rfl
  have V15 : ∀ u wv, V 15 u wv = (u 15 = .string S5a) := fun u wv => by subst hVdef; rfl
  have V16 : ∀ u wv, V 16 u wv = (u 16 = .string S5) := fun u wv => by subst hVdef; rfl
  have V17 : ∀ u wv, V 17 u wv = (u 17 = .string t) := fun u wv => by subst hVdef; rfl
  have V18 : ∀ u wv, V 18 u wv = (u 18 = .int .i64 k) := fun u wv => by subst hVdef; rfl
  have V19 : ∀ u wv, V 19 u wv = (u 19 = .string S4) := fun u wv => by subst hVdef; rfl
  have V20 : ∀ u wv, V 20 u wv = (u 20 = .int .i64 by_) := fun u wv => by subst hVdef; rfl
  have V21 : ∀ u wv, V 21 u wv = (u 21 = .int .i64 q) := fun u wv => by subst hVdef; rfl
  have V22 : ∀ u wv, V 22 u wv = (u 22 = .int .u8 (IntKind.u8.wrap q)) := fun u wv => by subst hVdef; rfl
  have V23 : ∀ u wv, V 23 u wv = (∃ g, u 23 = .slice (some ⟨g, 0, none⟩) 1 1 ∧ wv.heap[g]? = some (.cells #[.int .u8 (IntKind.u8.wrap q)] 5 (0, 0))) := fun u wv => by subst hVdef; rfl
  have V24 : ∀ u wv, V 24 u wv = (u 24 = .string S6o) := fun u wv => by subst hVdef; rfl
  have V25 : ∀ u wv, V 25 u wv = (u 25 = .string S6a) := fun u wv => by subst hVdef; rfl
  have V26 : ∀ u wv, V 26 u wv = (u 26 = .string t) := fun u wv => by subst hVdef; rfl
  have V27 : ∀ u wv, V 27 u wv = (u 27 = .int .i64 k) := fun u wv => by subst hVdef; rfl
  have V28 : ∀ u wv, V 28 u wv = (u 28 = .int .i64 (k + 1)) := fun u wv => by subst hVdef; rfl
  have V29 : ∀ u wv, V 29 u wv = (u 29 = .string S6b) := fun u wv => by subst hVdef; rfl
  have V30 : ∀ u wv, V 30 u wv = (u 30 = .string S6) := fun u wv => by subst hVdef; rfl
  have V31 : ∀ u wv, V 31 u wv = (∃ g, u 31 = .slice (some ⟨g, 0, none⟩) 6 6 ∧ wv.heap[g]? = some (.cells #[.string S1, .string Y, .string t, .string S4, .string S5, .string S6] 9 (0, 0))) := fun u wv => by subst hVdef; rfl
  have V32 : ∀ u wv, V 32 u wv = (u 32 = .int .i64 6) := fun u wv => by subst hVdef; rfl
  have V33 : ∀ u wv, V 33 u wv = (u 33 = .int .i64 0) := fun u wv => by subst hVdef; rfl
  have HVD := Lib.hid hVdef
  clear hVdef
  refine region_each (V := V) (drop := fun _ _ => false) (G := fun wv => Below W5.heap.size W5 wv) (Rel := fun jx wv wv' => Below wv.heap.size wv wv') (by kernel_rfl) (by kernel_rfl) (Below.refl _ _).drew ?hmono2 ?hdep2 ⟨?s0_2, ?s1_2, ?s2_2, ?s3_2, ?s4_2, ?s5_2, ?s6_2, ?s7_2, ?s8_2, ?s9_2, ?s10_2, ?s11_2, ?s12_2, ?s13_2, ?s14_2, ?s15_2, ?s16_2, ?s17_2, ?s18_2, ?s19_2, ?s20_2, ?s21_2, ?s22_2, ?s23_2, ?s24_2, ?s25_2, ?s26_2, ?s27_2, ?s28_2, ?s29_2, ?s30_2, ?s31_2, ?s32_2, ?s33_2, trivial⟩ ?behind2
  case hmono2 =>
    intro ix jx u wv wv' hij hw hd hr
    rw [HVD.out]
    dsimp only
    split <;> intro h <;> first | exact trivial | exact h | (obtain ⟨g, h1, h2⟩ := h; exact ⟨g, h1, (hr.block g (Array.getElem?_eq_some_iff.1 h2).1).trans h2⟩)
  case hdep2 =>
    intro ix u u' wv h1 h2
    rw [HVD.out]
    dsimp only
    split <;> intro h <;> first | exact trivial | (rw [← h1]; exact h) | (obtain ⟨g, e1, e2⟩ := h; exact ⟨g, h1 ▸ e1, e2⟩)
  case s0_2 =>
    refine owe rfl fun a wx val hG hV hN hO K hK => ?_
    have e3 : a.tmps[3]? = some (.string s) := (hO 3 (by kernel_rfl)).trans (by rfl)
    clear hV hN hO
    go_simp
    exact hK.out _ _ (by rw [V0, upd_at]) (Below.refl _ _) hG
  case s1_2 =>
    refine owe rfl fun a wx val hG hV hN hO K hK => ?_
    have e3 : a.tmps[3]? = some (.string s) := (hO 3 (by kernel_rfl)).trans (by rfl)
    clear hV hN hO
    go_simp
    exact hK.out _ _ (by rw [V1, upd_at]) (Below.refl _ _) hG
  case s2_2 =>
    refine owe rfl fun a wx val hG hV hN hO K hK => ?_
    have e97 := hN 1 97 (by kernel_rfl) (by kernel_rfl) (by simp)
    have f97 := hV 1 (by kernel_rfl) (by kernel_rfl)
    rw [V1] at f97
    rw [f97] at e97; clear f97
    clear hV hN hO
    go_simp
    exact hK.out _ _ (by rw [V2, upd_at]) (Below.refl _ _) hG
  case s3_2 =>
    refine owe rfl fun a wx val hG hV hN hO K hK => ?_
    have e98 := hN 2 98 (by kernel_rfl) (by kernel_rfl) (by simp)
    have f98 := hV 2 (by kernel_rfl) (by kernel_rfl)
    rw [V2] at f98
    rw [f98] at e98; clear f98
    clear hV hN hO
    go_simp
    exact hK.out _ _ (by rw [V3, upd_at, M1.out]) (Below.refl _ _) hG
  case s4_2 =>
    refine owe rfl fun a wx val hG hV hN hO K hK => ?_
    have e96 := hN 0 96 (by kernel_rfl) (by kernel_rfl) (by simp)
    have f96 := hV 0 (by kernel_rfl) (by kernel_rfl)
    rw [V0] at f96
    rw [f96] at e96; clear f96
    have e99 := hN 3 99 (by kernel_rfl) (by kernel_rfl) (by simp)
    have f99 := hV 3 (by kernel_rfl) (by kernel_rfl)
    rw [V3] at f99
    rw [f99] at e99; clear f99
    clear hV hN hO
    have q0 := K1.out
    go_simp
    exact hK.out _ _ (by rw [V4, upd_at]) (Below.refl _ _) hG
  case s5_2 =>
    refine owe rfl fun a wx val hG hV hN hO K hK => ?_
    have e16 : a.tmps[16]? = some (.string Y) := (hO 16 (by kernel_rfl)).trans (by rfl)
    clear hV hN hO
    go_simp
    exact hK.out _ _ (by rw [V5, upd_at]) (Below.refl _ _) hG
  case s6_2 =>
    refine owe rfl fun a wx val hG hV hN hO K hK => ?_
    have e18 : a.tmps[18]? = some (.string t) := (hO 18 (by kernel_rfl)).trans (by rfl)
    clear hV hN hO
    go_simp
    exact hK.out _ _ (by rw [V6, upd_at]) (Below.refl _ _) hG
  case s7_2 =>
    refine owe rfl fun a wx val hG hV hN hO K hK => ?_
    have e18 : a.tmps[18]? = some (.string t) := (hO 18 (by kernel_rfl)).trans (by rfl)
    clear hV hN hO
    go_simp
    exact hK.out _ _ (by rw [V7, upd_at]) (Below.refl _ _) hG
  case s8_2 =>
    refine owe rfl fun a wx val hG hV hN hO K hK => ?_
    have e20 : a.tmps[20]? = some (.int .i64 k) := (hO 20 (by kernel_rfl)).trans (by rfl)
    clear hV hN hO
    go_simp
    exact hK.out _ _ (by rw [V8, upd_at]) (Below.refl _ _) hG
  case s9_2 =>
    refine owe rfl fun a wx val hG hV hN hO K hK => ?_
    have e103 := hN 7 103 (by kernel_rfl) (by kernel_rfl) (by simp)
    have f103 := hV 7 (by kernel_rfl) (by kernel_rfl)
    rw [V7] at f103
    rw [f103] at e103; clear f103
    have e104 := hN 8 104 (by kernel_rfl) (by kernel_rfl) (by simp)
    have f104 := hV 8 (by kernel_rfl) (by kernel_rfl)
    rw [V8] at f104
    rw [f104] at e104; clear f104
    clear hV hN hO
    have q0 := K4.out
    go_simp
    exact hK.out _ _ (by rw [V9, upd_at]) (Below.refl _ _) hG
  case s10_2 =>
    refine owe rfl fun a wx val hG hV hN hO K hK => ?_
    have e18 : a.tmps[18]? = some (.string t) := (hO 18 (by kernel_rfl)).trans (by rfl)
    clear hV hN hO
    go_simp
    exact hK.out _ _ (by rw [V10, upd_at]) (Below.refl _ _) hG
  case s11_2 =>
    refine owe rfl fun a wx val hG hV hN hO K hK => ?_
    have e3 : a.tmps[3]? = some (.string s) := (hO 3 (by kernel_rfl)).trans (by rfl)
    clear hV hN hO
    go_simp
    exact hK.out _ _ (by rw [V11, upd_at]) (Below.refl _ _) hG
  case s12_2 =>
    refine owe rfl fun a wx val hG hV hN hO K hK => ?_
    have e3 : a.tmps[3]? = some (.string s) := (hO 3 (by kernel_rfl)).trans (by rfl)
    clear hV hN hO
    go_simp
    exact hK.out _ _ (by rw [V12, upd_at]) (Below.refl _ _) hG
  case s13_2 =>
    refine owe rfl fun a wx val hG hV hN hO K hK => ?_
    have e108 := hN 12 108 (by kernel_rfl) (by kernel_rfl) (by simp)
    have f108 := hV 12 (by kernel_rfl) (by kernel_rfl)
    rw [V12] at f108
    rw [f108] at e108; clear f108
    clear hV hN hO
    go_simp
    exact hK.out _ _ (by rw [V13, upd_at]) (Below.refl _ _) hG
  case s14_2 =>
    refine owe rfl fun a wx val hG hV hN hO K hK => ?_
    have e109 := hN 13 109 (by kernel_rfl) (by kernel_rfl) (by simp)
    have f109 := hV 13 (by kernel_rfl) (by kernel_rfl)
    rw [V13] at f109
    rw [f109] at e109; clear f109
    clear hV hN hO
    go_simp
    exact hK.out _ _ (by rw [V14, upd_at, M2.out]) (Below.refl _ _) hG
  case s15_2 =>
    refine owe rfl fun a wx val hG hV hN hO K hK => ?_
    have e107 := hN 11 107 (by kernel_rfl) (by kernel_rfl) (by simp)
    have f107 := hV 11 (by kernel_rfl) (by kernel_rfl)
    rw [V11] at f107
    rw [f107] at e107; clear f107
    have e110 := hN 14 110 (by kernel_rfl) (by kernel_rfl) (by simp)
    have f110 := hV 14 (by kernel_rfl) (by kernel_rfl)
    rw [V14] at f110
    rw [f110] at e110; clear f110
    clear hV hN hO
    have q0 := K5a.out
    go_simp
    exact hK.out _ _ (by rw [V15, upd_at]) (Below.refl _ _) hG
  case s16_2 =>
    refine owe rfl fun a wx val hG hV hN hO K hK => ?_
    have e106 := hN 10 106 (by kernel_rfl) (by kernel_rfl) (by simp)
    have f106 := hV 10 (by kernel_rfl) (by kernel_rfl)
    rw [V10] at f106
    rw [f106] at e106; clear f106
    have e111 := hN 15 111 (by kernel_rfl) (by kernel_rfl) (by simp)
    have f111 := hV 15 (by kernel_rfl) (by kernel_rfl)
    rw [V15] at f111
    rw [f111] at e111; clear f111
    clear hV hN hO
    have q0 := K5.out
    have q1 := O5.out
    go_simp
    exact hK.out _ _ (by rw [V16, upd_at]) (Below.refl _ _) hG
  case s17_2 =>
    refine owe rfl fun a wx val hG hV hN hO K hK => ?_
    have e18 : a.tmps[18]? = some (.string t) := (hO 18 (by kernel_rfl)).trans (by rfl)
    clear hV hN hO
    go_simp
    exact hK.out _ _ (by rw [V17, upd_at]) (Below.refl _ _) hG
  case s18_2 =>
    refine owe rfl fun a wx val hG hV hN hO K hK => ?_
    have e20 : a.tmps[20]? = some (.int .i64 k) := (hO 20 (by kernel_rfl)).trans (by rfl)
    clear hV hN hO
    go_simp
    exact hK.out _ _ (by rw [V18, upd_at]) (Below.refl _ _) hG
  case s19_2 =>
    refine owe rfl fun a wx val hG hV hN hO K hK => ?_
    have e113 := hN 17 113 (by kernel_rfl) (by kernel_rfl) (by simp)
    have f113 := hV 17 (by kernel_rfl) (by kernel_rfl)
    rw [V17] at f113
    rw [f113] at e113; clear f113
    have e114 := hN 18 114 (by kernel_rfl) (by kernel_rfl) (by simp)
    have f114 := hV 18 (by kernel_rfl) (by kernel_rfl)
    rw [V18] at f114
    rw [f114] at e114; clear f114
    clear hV hN hO
    have q0 := K4.out
    go_simp
    exact hK.out _ _ (by rw [V19, upd_at]) (Below.refl _ _) hG
  case s20_2 =>
    refine owe rfl fun a wx val hG hV hN hO K hK => ?_
    have e5 : a.tmps[5]? = some (.int .i64 by_) := (hO 5 (by kernel_rfl)).trans (by rfl)
    clear hV hN hO
    go_simp
    exact hK.out _ _ (by rw [V20, upd_at]) (Below.refl _ _) hG
  case s21_2 =>
    refine owe rfl fun a wx val hG hV hN hO K hK => ?_
    have e116 := hN 20 116 (by kernel_rfl) (by kernel_rfl) (by simp)
    have f116 := hV 20 (by kernel_rfl) (by kernel_rfl)
    rw [V20] at f116
    rw [f116] at e116; clear f116
    clear hV hN hO
    go_simp
    refine (CP.out _).mono ?_
    rintro e w3 ⟨rfl, rfl⟩
    exact hK.out _ _ (by rw [V21, upd_at]) (Below.refl _ _) hG
  case s22_2 =>
    refine owe rfl fun a wx val hG hV hN hO K hK => ?_
    have e117 := hN 21 117 (by kernel_rfl) (by kernel_rfl) (by simp)
    have f117 := hV 21 (by kernel_rfl) (by kernel_rfl)
    rw [V21] at f117
    rw [f117] at e117; clear f117
    clear hV hN hO
    go_simp
    exact hK.out _ _ (by rw [V22, upd_at]) (Below.refl _ _) hG
  case s23_2 =>
    refine owe rfl fun a wx val hG hV hN hO K hK => ?_
    have e118 := hN 22 118 (by kernel_rfl) (by kernel_rfl) (by simp)
    have f118 := hV 22 (by kernel_rfl) (by kernel_rfl)
    rw [V22] at f118
    rw [f118] at e118; clear f118
    clear hV hN hO
    go_simp
    have hb := Joins.below_alloc1 wx (.cells #[.int .u8 (IntKind.u8.wrap q)] 5)
    exact hK.out _ _ (by rw [V23, upd_at]; exact ⟨_, rfl, heap_alloc_new wx _⟩) hb (hG.trans (hb.mono hG.size))
  case s24_2 =>
    refine owe rfl fun a wx val hG hV hN hO K hK => ?_
    have e119 := hN 23 119 (by kernel_rfl) (by kernel_rfl) (by simp)
    have f119 := hV 23 (by kernel_rfl) (by kernel_rfl)
    rw [V23] at f119
    obtain ⟨g, hv, hg⟩ := f119; rw [hv] at e119; clear hv
    clear hV hN hO
    have h1 := one_at wx g (IntKind.u8.wrap q) (by simp [World.cell?, hg])
    rw [K6o.out] at h1
    go_simp
    exact hK.out _ _ (by rw [V24, upd_at]) (Below.refl _ _) hG
  case s25_2 =>
    refine owe rfl fun a wx val hG hV hN hO K hK => ?_
    have e115 := hN 19 115 (by kernel_rfl) (by kernel_rfl) (by simp)
    have f115 := hV 19 (by kernel_rfl) (by kernel_rfl)
    rw [V19] at f115
    rw [f115] at e115; clear f115
    have e120 := hN 24 120 (by kernel_rfl) (by kernel_rfl) (by simp)
    have f120 := hV 24 (by kernel_rfl) (by kernel_rfl)
    rw [V24] at f120
    rw [f120] at e120; clear f120
    clear hV hN hO
    have q0 := K6a.out
    have q1 := O6a.out
    go_simp
    exact hK.out _ _ (by rw [V25, upd_at]) (Below.refl _ _) hG
  case s26_2 =>
    refine owe rfl fun a wx val hG hV hN hO K hK => ?_
    have e18 : a.tmps[18]? = some (.string t) := (hO 18 (by kernel_rfl)).trans (by rfl)
    clear hV hN hO
    go_simp
    exact hK.out _ _ (by rw [V26, upd_at]) (Below.refl _ _) hG
  case s27_2 =>
    refine owe rfl fun a wx val hG hV hN hO K hK => ?_
    have e20 : a.tmps[20]? = some (.int .i64 k) := (hO 20 (by kernel_rfl)).trans (by rfl)
    clear hV hN hO
    go_simp
    exact hK.out _ _ (by rw [V27, upd_at]) (Below.refl _ _) hG
  case s28_2 =>
    refine owe rfl fun a wx val hG hV hN hO K hK => ?_
    have e123 := hN 27 123 (by kernel_rfl) (by kernel_rfl) (by simp)
    have f123 := hV 27 (by kernel_rfl) (by kernel_rfl)
    rw [V27] at f123
    rw [f123] at e123; clear f123
    clear hV hN hO
    have q0 := KW.out
    go_simp
    exact hK.out _ _ (by rw [V28, upd_at]) (Below.refl _ _) hG
  case s29_2 =>
    refine owe rfl fun a wx val hG hV hN hO K hK => ?_
    have e122 := hN 26 122 (by kernel_rfl) (by kernel_rfl) (by simp)
    have f122 := hV 26 (by kernel_rfl) (by kernel_rfl)
    rw [V26] at f122
    rw [f122] at e122; clear f122
    have e124 := hN 28 124 (by kernel_rfl) (by kernel_rfl) (by simp)
    have f124 := hV 28 (by kernel_rfl) (by kernel_rfl)
    rw [V28] at f124
    rw [f124] at e124; clear f124
    clear hV hN hO
    have q0 := K6b.out
    go_simp
    exact hK.out _ _ (by rw [V29, upd_at]) (Below.refl _ _) hG
  case s30_2 =>
    refine owe rfl fun a wx val hG hV hN hO K hK => ?_
    have e121 := hN 25 121 (by kernel_rfl) (by kernel_rfl) (by simp)
    have f121 := hV 25 (by kernel_rfl) (by kernel_rfl)
    rw [V25] at f121
    rw [f121] at e121; clear f121
    have e125 := hN 29 125 (by kernel_rfl) (by kernel_rfl) (by simp)
    have f125 := hV 29 (by kernel_rfl) (by kernel_rfl)
    rw [V29] at f125
    rw [f125] at e125; clear f125
    clear hV hN hO
    have q0 := K6.out
    have q1 := O6.out
    go_simp
    exact hK.out _ _ (by rw [V30, upd_at]) (Below.refl _ _) hG
  case s31_2 =>
    refine owe rfl fun a wx val hG hV hN hO K hK => ?_
    have e100 := hN 4 100 (by kernel_rfl) (by kernel_rfl) (by simp)
    have f100 := hV 4 (by kernel_rfl) (by kernel_rfl)
    rw [V4] at f100
    rw [f100] at e100; clear f100
    have e101 := hN 5 101 (by kernel_rfl) (by kernel_rfl) (by simp)
    have f101 := hV 5 (by kernel_rfl) (by kernel_rfl)
    rw [V5] at f101
    rw [f101] at e101; clear f101
    have e102 := hN 6 102 (by kernel_rfl) (by kernel_rfl) (by simp)
    have f102 := hV 6 (by kernel_rfl) (by kernel_rfl)
    rw [V6] at f102
    rw [f102] at e102; clear f102
    have e105 := hN 9 105 (by kernel_rfl) (by kernel_rfl) (by simp)
    have f105 := hV 9 (by kernel_rfl) (by kernel_rfl)
    rw [V9] at f105
    rw [f105] at e105; clear f105
    have e112 := hN 16 112 (by kernel_rfl) (by kernel_rfl) (by simp)
    have f112 := hV 16 (by kernel_rfl) (by kernel_rfl)
    rw [V16] at f112
    rw [f112] at e112; clear f112
    have e126 := hN 30 126 (by kernel_rfl) (by kernel_rfl) (by simp)
    have f126 := hV 30 (by kernel_rfl) (by kernel_rfl)
    rw [V30] at f126
    rw [f126] at e126; clear f126
    clear hV hN hO
    go_simp
    have hb := Joins.below_alloc1 wx (.cells #[.string S1, .string Y, .string t, .string S4, .string S5, .string S6] 9)
    exact hK.out _ _ (by rw [V31, upd_at]; exact ⟨_, rfl, heap_alloc_new wx _⟩) hb (hG.trans (hb.mono hG.size))
  case s32_2 =>
    refine owe rfl fun a wx val hG hV hN hO K hK => ?_
    have e127 := hN 31 127 (by kernel_rfl) (by kernel_rfl) (by simp)
    have f127 := hV 31 (by kernel_rfl) (by kernel_rfl)
    rw [V31] at f127
    obtain ⟨g, hv, hg⟩ := f127; rw [hv] at e127; clear hv
    clear hV hN hO
    go_simp
    exact hK.out _ _ (by rw [V32, upd_at]) (Below.refl _ _) hG
  case s33_2 =>
    refine owe rfl fun a wx val hG hV hN hO K hK => ?_
    clear hV hN hO
    go_simp
    exact hK.out _ _ (by rw [V33, upd_at]) (Below.refl _ _) hG
  intro val wx hG hV
  have f0 := hV 0 (by simp) (fun _ _ => by rfl)
  rw [V0] at f0
  have f1 := hV 1 (by simp) (fun _ _ => by rfl)
  rw [V1] at f1
  have f2 := hV 2 (by simp) (fun _ _ => by rfl)
  rw [V2] at f2
  have f3 := hV 3 (by simp) (fun _ _ => by rfl)
  rw [V3] at f3
  have f4 := hV 4 (by simp) (fun _ _ => by rfl)
  rw [V4] at f4
  have f5 := hV 5 (by simp) (fun _ _ => by rfl)
  rw [V5] at f5
  have f6 := hV 6 (by simp) (fun _ _ => by rfl)
  rw [V6] at f6
  have f7 := hV 7 (by simp) (fun _ _ => by rfl)
  rw [V7] at f7
  have f8 := hV 8 (by simp) (fun _ _ => by rfl)
  rw [V8] at f8
  have f9 := hV 9 (by simp) (fun _ _ => by rfl)
  rw [V9] at f9
  have f10 := hV 10 (by simp) (fun _ _ => by rfl)
  rw [V10] at f10
  have f11 := hV 11 (by simp) (fun _ _ => by rfl)
  rw [V11] at f11
  have f12 := hV 12 (by simp) (fun _ _ => by rfl)
  rw [V12] at f12
  have f13 := hV 13 (by simp) (fun _ _ => by rfl)
  rw [V13] at f13
  have f14 := hV 14 (by simp) (fun _ _ => by rfl)
  rw [V14] at f14
  have f15 := hV 15 (by simp) (fun _ _ => by rfl)
  rw [V15] at f15
  have f16 := hV 16 (by simp) (fun _ _ => by rfl)
  rw [V16] at f16
  have f17 := hV 17 (by simp) (fun _ _ => by rfl)
  rw [V17] at f17
  have f18 := hV 18 (by simp) (fun _ _ => by rfl)
  rw [V18] at f18
  have f19 := hV 19 (by simp) (fun _ _ => by rfl)
  rw [V19] at f19
  have f20 := hV 20 (by simp) (fun _ _ => by rfl)
  rw [V20] at f20
  have f21 := hV 21 (by simp) (fun _ _ => by rfl)
  rw [V21] at f21
  have f22 := hV 22 (by simp) (fun _ _ => by rfl)
  rw [V22] at f22
  have f23 := hV 23 (by simp) (fun _ _ => by rfl)
  rw [V23] at f23
  have f24 := hV 24 (by simp) (fun _ _ => by rfl)
  rw [V24] at f24
  have f25 := hV 25 (by simp) (fun _ _ => by rfl)
  rw [V25] at f25
  have f26 := hV 26 (by simp) (fun _ _ => by rfl)
  rw [V26] at f26
  have f27 := hV 27 (by simp) (fun _ _ => by rfl)
  rw [V27] at f27
  have f28 := hV 28 (by simp) (fun _ _ => by rfl)
  rw [V28] at f28
  have f29 := hV 29 (by simp) (fun _ _ => by rfl)
  rw [V29] at f29
  have f30 := hV 30 (by simp) (fun _ _ => by rfl)
  rw [V30] at f30
  have f31 := hV 31 (by simp) (fun _ _ => by rfl)
  rw [V31] at f31
  have f32 := hV 32 (by simp) (fun _ _ => by rfl)
  rw [V32] at f32
  have f33 := hV 33 (by simp) (fun _ _ => by rfl)
  rw [V33] at f33
  clear hV V0 V1 V2 V3 V4 V5 V6 V7 V8 V9 V10 V11 V12 V13 V14 V15 V16 V17 V18 V19 V20 V21 V22 V23 V24 V25 V26 V27 V28 V29 V30 V31 V32 V33
  simp only [putAll, Act.put, List.setIfInBounds_toArray, List.set_cons_zero, List.set_cons_succ]
  generalize val 0 = z0 at *; (subst f0)
  generalize val 1 = z1 at *; (subst f1)
  generalize val 2 = z2 at *; (subst f2)
  generalize val 3 = z3 at *; (subst f3)
  generalize val 4 = z4 at *; (subst f4)
  generalize val 5 = z5 at *; (subst f5)
  generalize val 6 = z6 at *; (subst f6)
  generalize val 7 = z7 at *; (subst f7)
  generalize val 8 = z8 at *; (subst f8)
  generalize val 9 = z9 at *; (subst f9)
  generalize val 10 = z10 at *; (subst f10)
  generalize val 11 = z11 at *; (subst f11)
  generalize val 12 = z12 at *; (subst f12)
  generalize val 13 = z13 at *; (subst f13)
  generalize val 14 = z14 at *; (subst f14)
  generalize val 15 = z15 at *; (subst f15)
  generalize val 16 = z16 at *; (subst f16)
  generalize val 17 = z17 at *; (subst f17)
  generalize val 18 = z18 at *; (subst f18)
  generalize val 19 = z19 at *; (subst f19)
  generalize val 20 = z20 at *; (subst f20)
  generalize val 21 = z21 at *; (subst f21)
  generalize val 22 = z22 at *; (subst f22)
  generalize val 24 = z24 at *; (subst f24)
  generalize val 25 = z25 at *; (subst f25)
  generalize val 26 = z26 at *; (subst f26)
  generalize val 27 = z27 at *; (subst f27)
  generalize val 28 = z28 at *; (subst f28)
  generalize val 29 = z29 at *; (subst f29)
  generalize val 30 = z30 at *; (subst f30)
  generalize val 32 = z32 at *; (subst f32)
  generalize val 33 = z33 at *; (subst f33)
  obtain ⟨H2, hv2, _⟩ := f23
  obtain ⟨H, hv, hg⟩ := f31
  rw [hv2, hv]; clear hv hv2
  have hcells : ∀ j, j < 6 → wx.cell? ⟨H, j, none⟩ = some (.string (sixS S1 Y t S4 S5 S6 j)) := by
    intro j hj
    rcases (show j = 0 ∨ j = 1 ∨ j = 2 ∨ j = 3 ∨ j = 4 ∨ j = 5 by omega) with rfl | rfl | rfl | rfl | rfl | rfl <;> simp [World.cell?, hg, sixS]
  have hsz : H < wx.heap.size := (Array.getElem?_eq_some_iff.1 hg).1
  have hbl : Below p0 w wx := HB6.out.trans (hG.mono (by have := HB6.out.size; omega))
  have hL := HL6.out.below hG
  have HC := Lib.hid hcells; clear hcells
  have HB := Lib.hid hbl; clear hbl
  have HS := Lib.hid hsz; clear hsz
  have HL := Lib.hid hL; clear hL
  clear hg hG HB6 HL6 M1 M2 K1 K5a K4 K6b K6o K5 K6a K6 KW O5 O6a O6 CP HK HYs HD
  go_wp2_with fail
  go_loopw [129] (fun v wr => ∃ i : Nat, i ≤ 6 ∧ v = .int .i64 i ∧ Below p0 w wr ∧ H < wr.heap.size ∧ Laid wr ∧ (∀ j, j < 6 → wr.cell? ⟨H, j, none⟩ = some (.string (sixS S1 Y t S4 S5 S6 j)))) (fun v _ => 6 - (intOf v).toNat)
  case atStart => exact ⟨0, by omega, rfl, HB.out, HS.out, HL.out, HC.out⟩
  case round =>
    obtain ⟨i, hi, rfl, hBel, hSz, hLw, hCell⟩ := hrel
    have HBel := Lib.hid hBel; clear hBel
    have HSz := Lib.hid hSz; clear hSz
    have HLw := Lib.hid hLw; clear hLw
    have HCell := Lib.hid hCell; clear hCell
    by_cases hlt : i < 6
    · have hys := HSZ.out i
      have hc := HCell.out i hlt
      obtain ⟨y, hy⟩ : ∃ y, y = sixS S1 Y t S4 S5 S6 i := ⟨_, rfl⟩
      rw [← hy] at hys hc
      clear hy
      have d1 := fun w L => T.dec y w L (by omega)
      have d2 := fun w => refDec_any y (by unfold maxLen; omega) w
      unfold DecPost at d1 d2
      generalize decR y.data.toList = M at d1 d2
      generalize txt (decRest y.data.toList) = Q at d1 d2
      generalize decE y.data.toList = PE at d1 d2
      have hEG := fun op p q w => eqM_guard op p q M M w
      have hNE := fun w => neqM M M w
      rw [show sameM M M = true from (sameM_iff _ _).2 rfl] at hNE
      have D1 := Lib.hid d1; clear d1
      have D2 := Lib.hid d2; clear d2
      go_wp2_with fail
      refine (D1.out _ HLw.out).mono ?_
      rintro e v1 ⟨rfl, hb1⟩
      have L1 := (HLw.out.below hb1).alloc (.cells (mc M) 25)
      have P1 : MsgAt (v1.alloc (.cells (mc M) 25)) v1.heap.size M := heap_alloc_new v1 _
      have hb1' := hb1.trans ((Joins.below_alloc1 v1 (.cells (mc M) 25)).mono hb1.size)
      go_wp2_with fail
      refine (D2.out _).mono ?_
      rintro e v2 ⟨rfl, hb2⟩
      have hb3 := hb1'.trans (hb2.mono hb1'.size)
      have hb4 := hb3.trans ((Joins.below_alloc1 v2 (.cells (mc M) 25)).mono hb3.size)
      have P1' := (P1.on hb2).on (Joins.below_alloc1 v2 (.cells (mc M) 25))
      have P2 : MsgAt (v2.alloc (.cells (mc M) 25)) v2.heap.size M := heap_alloc_new v2 _
      have hs2 := HSz.out
      clear P1 hb1 hb1' hb2 hb3
      obtain ⟨_, x0, x1, x2, x3, x4, x5, x6⟩ := Holds.of_blk P1'
      obtain ⟨_, y0, y1, y2, y3, y4, y5, y6⟩ := Holds.of_blk P2
      go_wp2_with fail
      have hz4 := hb4.size
      go_roundw
      case rel => exact ⟨i + 1, by omega, by go_num, HBel.out.trans (hb4.mono (by have := HBel.out.size; omega)), by simp only [mc] at hz4; omega, HLw.out.below hb4, fun j hj => (hb4.cell (p := ⟨H, j, none⟩) hs2).trans (HCell.out j hj)⟩
      case measure => simp [intOf]; omega
    · go_wp2_with fail
      go_ret
      exact ⟨rfl, by rw [hp0]; exact HBel.out⟩

end Go.Proofs.YtgolnklgbhilaaaDoor

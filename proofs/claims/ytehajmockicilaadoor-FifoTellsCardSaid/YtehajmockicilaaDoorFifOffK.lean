/-
  What a keeper does: offer.
-/
import Derived.Test.YtehajmockicilaaDoorFifKeep
namespace Go.Proofs.YtehajmockicilaaDoor
open Go Go.RowKit

theorem QIn.one {w : World} {g : Nat} {m : Msg} (h : MsgAt w g m) (hd : m.data.size ≤ 140737488351232) : QIn w (some ⟨g, 0, none⟩) 1 [m] :=
  ⟨Msgs.one h, Nat.le_refl _, (by show 1 ≤ 200; omega), fun x hx => (by rw [List.mem_singleton.1 hx]; exact hd), fun ad e => (by cases e; exact h.lt)⟩

set_option maxRecDepth 100000 in
set_option maxHeartbeats 2000000 in
theorem offerK_bad (b : Nat) (LQ T : Int) (A : Option Addr) (c : Nat) (l : List Msg) (m : Msg) (AF : Option Addr) (cf : Nat) (fs : List (Bool × Int × Int)) (w : World) (h : KpAt w b LQ T (.slice A l.length c) m (.slice AF fs.length cf)) (LL : Laid w) (hd : m.data.size ≤ 140737488351232) (hM : rightM m = false) :
    Calls Tryd.prog 58 #[.pointer (some ⟨b, 0, none⟩)] w fun e w' => e = .returned (.tuple #[.int .i64 0, .int .i64 1]) ∧ Below w.heap.size w w' := by
  have CR := Lib.hid (rightM_any m (by unfold maxLen; omega) w LL)
  have HK := Lib.hid h
  have HLL := Lib.hid LL
  rw [hM] at CR
  clear LL hM
  obtain ⟨y0, y1, y2⟩ := h.fifo
  obtain ⟨x0, x1, x2, x3, x4, x5, x6, x7⟩ := h.rest
  clear h
  obtain ⟨e1, n1, s1, i1, q1, k1, d1⟩ := m
  simp only [mv] at *
  go_enter Tryd.func58, Tryd.ntmps58
  go_wp2_with fail; refine CR.out.mono ?_; rintro e w1 ⟨rfl, b1⟩
  have HK1 := Lib.hid (HK.out.on b1)
  have HB1 := Lib.hid b1
  clear x0 x1 x2 x3 x4 x5 x6 x7 y0 y1 y2 CR
  go_wp2_with fail
  exact bodyPost_ret (ii_res Tryd.results58 rfl rfl) rfl ⟨rfl, HB1.out⟩

set_option maxRecDepth 100000 in
set_option maxHeartbeats 2000000 in
theorem offerK_pass (b : Nat) (LQ T : Int) (A : Option Addr) (c : Nat) (l : List Msg) (m : Msg) (AF : Option Addr) (cf : Nat) (fs : List (Bool × Int × Int)) (w : World) (h : KpAt w b LQ T (.slice A l.length c) m (.slice AF fs.length cf)) (LL : Laid w) (hd : m.data.size ≤ 140737488351232) (hf : LieIn w AF fs) (hfl : fs.length ≤ 281474976710656) (hM : rightM m = true) (hA : anyI m.ext m.n fs = false) :
    Calls Tryd.prog 58 #[.pointer (some ⟨b, 0, none⟩)] w fun e w' => e = .returned (.tuple #[.int .i64 0, .int .i64 0]) ∧ Below w.heap.size w w' := by
  have CR := Lib.hid (rightM_any m (by unfold maxLen; omega) w LL)
  have HK := Lib.hid h
  have HLL := Lib.hid LL
  rw [hM] at CR
  clear LL hM
  obtain ⟨y0, y1, y2⟩ := h.fifo
  obtain ⟨x0, x1, x2, x3, x4, x5, x6, x7⟩ := h.rest
  clear h
  obtain ⟨e1, n1, s1, i1, q1, k1, d1⟩ := m
  simp only [mv] at *
  go_enter Tryd.func58, Tryd.ntmps58
  go_wp2_with fail; refine CR.out.mono ?_; rintro e w1 ⟨rfl, b1⟩
  have HK1 := Lib.hid (HK.out.on b1)
  have HB1 := Lib.hid b1
  clear x0 x1 x2 x3 x4 x5 x6 x7 y0 y1 y2 CR
  obtain ⟨y0, y1, y2⟩ := HK1.out.fifo
  obtain ⟨x0, x1, x2, x3, x4, x5, x6, x7⟩ := HK1.out.rest
  have CA : Hid (∀ W, Below w1.heap.size w1 W → Calls Tryd.prog 81 #[.agg #[.bool e1, .int .i64 n1], .slice AF fs.length cf] W fun e w' => e = .returned (.bool (anyI e1 n1 fs)) ∧ Below W.heap.size W w') := Lib.hid (fun W h => any_any e1 n1 AF cf fs W ((HLL.out.below b1).below h) ((hf.below b1).below h) hfl)
  rw [hA] at CA
  clear b1 hA hf hfl
  go_upto_region 3 with (fail)
  clear y0 y1 y2 x0 x1 x2 x3 x4 x5 x6 x7
  have HV : ∃ Vp : Nat → (Nat → Value) → World → Prop, Vp = (fun ix u wv => match ix with
    | 0 => u 0 = .pointer (some ⟨b, 0, none⟩)
    | 1 => u 1 = .pointer (some ⟨b, 0, none⟩)
    | 2 => u 2 = .pointer (some ⟨b, 3, none⟩)
    | 3 => u 3 = .pointer (some ⟨b, 3, none⟩)
    | 4 => u 4 = .agg #[.bool e1, .int .i64 n1]
    | 5 => u 5 = .pointer (some ⟨b, 0, none⟩)
    | 6 => u 6 = .pointer (some ⟨b, 0, none⟩)
    | 7 => u 7 = .pointer (some ⟨b, 10, none⟩)
    | 8 => u 8 = .slice AF fs.length cf
    | 9 => u 9 = .bool false
    | 10 => u 10 = .bool true
    | _ => True) := ⟨_, rfl⟩
  obtain ⟨Vp, hVdef⟩ := HV
  have Vp0 : ∀ u wv, Vp 0 u wv = (u 0 = .pointer (some ⟨b, 0, none⟩)) := fun u wv => by subst hVdef; rfl
  have Vp1 : ∀ u wv, Vp 1 u wv = (u 1 = .pointer (some ⟨b, 0, none⟩)) := fun u wv => by subst hVdef; rfl
  have Vp2 : ∀ u wv, Vp 2 u wv = (u 2 = .pointer (some ⟨b, 3, none⟩)) := fun u wv => by subst hVdef; rfl
  have Vp3 : ∀ u wv, Vp 3 u wv = (u 3 = .pointer (some ⟨b, 3, none⟩)) := fun u wv => by subst hVdef; rfl
  have Vp4 : ∀ u wv, Vp 4 u wv = (u 4 = .agg #[.bool e1, .int .i64 n1]) := fun u wv => by subst hVdef; rfl
  have Vp5 : ∀ u wv, Vp 5 u wv = (u 5 = .pointer (some ⟨b, 0, none⟩)) := fun u wv => by subst hVdef; rfl
  have Vp6 : ∀ u wv, Vp 6 u wv = (u 6 = .pointer (some ⟨b, 0, none⟩)) := fun u wv => by subst hVdef; rfl
  have Vp7 : ∀ u wv, Vp 7 u wv = (u 7 = .pointer (some ⟨b, 10, none⟩)) := fun u wv => by subst hVdef; rfl
  have Vp8 : ∀ u wv, Vp 8 u wv = (u 8 = .slice AF fs.length cf) := fun u wv => by subst hVdef; rfl
  have Vp9 : ∀ u wv, Vp 9 u wv = (u 9 = .bool false) := fun u wv => by subst hVdef; rfl
  have Vp10 : ∀ u wv, Vp 10 u wv = (u 10 = .bool true) := fun u wv => by subst hVdef; rfl
  have HVD := Lib.hid hVdef
  clear hVdef
  refine region_phase (V := Vp) (drop := fun _ _ => false) (G := fun L wv => Below w1.heap.size w1 wv) (Rel := fun jx wv wv' => Below wv.heap.size wv wv') (by kernel_rfl) (by kernel_rfl) (Below.refl _ _).drew ?hmonop1 ?hdepp1 ⟨?s0_p1, ?s1_p1, ?s2_p1, ?s3_p1, ?s4_p1, ?s5_p1, ?s6_p1, ?s7_p1, ?s8_p1, ?s9_p1, ?s10_p1, trivial⟩ ?behindp1
  case hmonop1 =>
    intro ix jx u wv wv' hij hw hd hr
    rw [HVD.out]
    dsimp only
    split <;> intro h <;> first | exact trivial | exact h | (have hb := hr; first | skip)
  case hdepp1 =>
    intro ix u u' wv h1 h2
    rw [HVD.out]
    dsimp only
    split <;> intro h <;> first | exact trivial | (rw [← h1]; exact h) | exact h
  case s0_p1 =>
    refine oweP rfl fun a wx val L hG hi hW hV hN hO K hK => ?_
    have e0 : a.tmps[0]? = some (.pointer (some ⟨b, 0, none⟩)) := (hO 0 (by kernel_rfl)).trans (by rfl)
    clear hV hN hO
    go_simp
    exact hK.out _ _ (by rw [Vp0, upd_at] <;> (congr 1 <;> omega)) (Below.refl _ _) (hG)
  case s1_p1 =>
    refine oweP rfl fun a wx val L hG hi hW hV hN hO K hK => ?_
    have e10 := hN 0 10 (by kernel_rfl) (by kernel_rfl) (by simp)
    have f10 := hV 0 (by kernel_rfl) (by kernel_rfl)
    rw [Vp0] at f10; rw [f10] at e10; clear f10
    clear hV hN hO
    go_simp
    exact hK.out _ _ (by rw [Vp1, upd_at] <;> (congr 1 <;> omega)) (Below.refl _ _) (hG)
  case s2_p1 =>
    refine oweP rfl fun a wx val L hG hi hW hV hN hO K hK => ?_
    have e11 := hN 1 11 (by kernel_rfl) (by kernel_rfl) (by simp)
    have f11 := hV 1 (by kernel_rfl) (by kernel_rfl)
    rw [Vp1] at f11; rw [f11] at e11; clear f11
    clear hV hN hO
    go_simp
    exact hK.out _ _ (by rw [Vp2, upd_at] <;> (congr 1 <;> omega)) (Below.refl _ _) (hG)
  case s3_p1 =>
    refine oweP rfl fun a wx val L hG hi hW hV hN hO K hK => ?_
    have e12 := hN 2 12 (by kernel_rfl) (by kernel_rfl) (by simp)
    have f12 := hV 2 (by kernel_rfl) (by kernel_rfl)
    rw [Vp2] at f12; rw [f12] at e12; clear f12
    clear hV hN hO
    go_simp
    exact hK.out _ _ (by rw [Vp3, upd_at] <;> (congr 1 <;> omega)) (Below.refl _ _) (hG)
  case s4_p1 =>
    refine oweP rfl fun a wx val L hG hi hW hV hN hO K hK => ?_
    have e13 := hN 3 13 (by kernel_rfl) (by kernel_rfl) (by simp)
    have f13 := hV 3 (by kernel_rfl) (by kernel_rfl)
    rw [Vp3] at f13; rw [f13] at e13; clear f13
    clear hV hN hO
    obtain ⟨x0, x1, x2, x3, x4, x5, x6, x7⟩ := (HK1.out.on hG).rest
    go_simp
    exact hK.out _ _ (by rw [Vp4, upd_at] <;> (congr 1 <;> omega)) (Below.refl _ _) (hG)
  case s5_p1 =>
    refine oweP rfl fun a wx val L hG hi hW hV hN hO K hK => ?_
    have e0 : a.tmps[0]? = some (.pointer (some ⟨b, 0, none⟩)) := (hO 0 (by kernel_rfl)).trans (by rfl)
    clear hV hN hO
    go_simp
    exact hK.out _ _ (by rw [Vp5, upd_at] <;> (congr 1 <;> omega)) (Below.refl _ _) (hG)
  case s6_p1 =>
    refine oweP rfl fun a wx val L hG hi hW hV hN hO K hK => ?_
    have e15 := hN 5 15 (by kernel_rfl) (by kernel_rfl) (by simp)
    have f15 := hV 5 (by kernel_rfl) (by kernel_rfl)
    rw [Vp5] at f15; rw [f15] at e15; clear f15
    clear hV hN hO
    go_simp
    exact hK.out _ _ (by rw [Vp6, upd_at] <;> (congr 1 <;> omega)) (Below.refl _ _) (hG)
  case s7_p1 =>
    refine oweP rfl fun a wx val L hG hi hW hV hN hO K hK => ?_
    have e16 := hN 6 16 (by kernel_rfl) (by kernel_rfl) (by simp)
    have f16 := hV 6 (by kernel_rfl) (by kernel_rfl)
    rw [Vp6] at f16; rw [f16] at e16; clear f16
    clear hV hN hO
    go_simp
    exact hK.out _ _ (by rw [Vp7, upd_at] <;> (congr 1 <;> omega)) (Below.refl _ _) (hG)
  case s8_p1 =>
    refine oweP rfl fun a wx val L hG hi hW hV hN hO K hK => ?_
    have e17 := hN 7 17 (by kernel_rfl) (by kernel_rfl) (by simp)
    have f17 := hV 7 (by kernel_rfl) (by kernel_rfl)
    rw [Vp7] at f17; rw [f17] at e17; clear f17
    clear hV hN hO
    obtain ⟨x0, x1, x2, x3, x4, x5, x6, x7⟩ := (HK1.out.on hG).rest
    go_simp
    exact hK.out _ _ (by rw [Vp8, upd_at] <;> (congr 1 <;> omega)) (Below.refl _ _) (hG)
  case s9_p1 =>
    refine oweP rfl fun a wx val L hG hi hW hV hN hO K hK => ?_
    have e14 := hN 4 14 (by kernel_rfl) (by kernel_rfl) (by simp)
    have f14 := hV 4 (by kernel_rfl) (by kernel_rfl)
    rw [Vp4] at f14; rw [f14] at e14; clear f14
    have e18 := hN 8 18 (by kernel_rfl) (by kernel_rfl) (by simp)
    have f18 := hV 8 (by kernel_rfl) (by kernel_rfl)
    rw [Vp8] at f18; rw [f18] at e18; clear f18
    clear hV hN hO
    go_simp
    refine (CA.out _ hG).mono ?_
    rintro e w11 ⟨rfl, hb⟩
    exact hK.out _ _ (by rw [Vp9, upd_at]) (hb) (hG.trans (hb.mono hG.size))
  case s10_p1 =>
    refine oweP rfl fun a wx val L hG hi hW hV hN hO K hK => ?_
    have e19 := hN 9 19 (by kernel_rfl) (by kernel_rfl) (by simp)
    have f19 := hV 9 (by kernel_rfl) (by kernel_rfl)
    rw [Vp9] at f19; rw [f19] at e19; clear f19
    clear hV hN hO
    go_simp
    exact hK.out _ _ (by rw [Vp10, upd_at] <;> (congr 1 <;> omega)) (Below.refl _ _) (hG)
  intro val wx L hG hV
  have f0 := hV 0 (by simp) (fun _ _ => by simp)
  rw [Vp0] at f0
  have f1 := hV 1 (by simp) (fun _ _ => by simp)
  rw [Vp1] at f1
  have f2 := hV 2 (by simp) (fun _ _ => by simp)
  rw [Vp2] at f2
  have f3 := hV 3 (by simp) (fun _ _ => by simp)
  rw [Vp3] at f3
  have f4 := hV 4 (by simp) (fun _ _ => by simp)
  rw [Vp4] at f4
  have f5 := hV 5 (by simp) (fun _ _ => by simp)
  rw [Vp5] at f5
  have f6 := hV 6 (by simp) (fun _ _ => by simp)
  rw [Vp6] at f6
  have f7 := hV 7 (by simp) (fun _ _ => by simp)
  rw [Vp7] at f7
  have f8 := hV 8 (by simp) (fun _ _ => by simp)
  rw [Vp8] at f8
  have f9 := hV 9 (by simp) (fun _ _ => by simp)
  rw [Vp9] at f9
  have f10 := hV 10 (by simp) (fun _ _ => by simp)
  rw [Vp10] at f10
  clear hV Vp0 Vp1 Vp2 Vp3 Vp4 Vp5 Vp6 Vp7 Vp8 Vp9 Vp10
  simp only [putAll, Act.put, List.setIfInBounds_toArray, List.set_cons_zero, List.set_cons_succ]
  generalize val 0 = z0 at *; (subst f0)
  generalize val 1 = z1 at *; (subst f1)
  generalize val 2 = z2 at *; (subst f2)
  generalize val 3 = z3 at *; (subst f3)
  generalize val 4 = z4 at *; (subst f4)
  generalize val 5 = z5 at *; (subst f5)
  generalize val 6 = z6 at *; (subst f6)
  generalize val 7 = z7 at *; (subst f7)
  generalize val 8 = z8 at *; (subst f8)
  generalize val 9 = z9 at *; (subst f9)
  generalize val 10 = z10 at *; (subst f10)
  clear HVD
  have HB3 := Lib.hid (HB1.out.trans (hG.mono HB1.out.size))
  have HK3 := Lib.hid (HK1.out.on hG)
  clear hG HK1
  go_wp2_with fail
  exact bodyPost_ret (ii_res Tryd.results58 rfl rfl) rfl ⟨rfl, HB3.out⟩

set_option maxRecDepth 100000 in
set_option maxHeartbeats 2000000 in
theorem offerK_full (b : Nat) (LQ T : Int) (A : Option Addr) (c : Nat) (l : List Msg) (m : Msg) (AF : Option Addr) (cf : Nat) (fs : List (Bool × Int × Int)) (w : World) (h : KpAt w b LQ T (.slice A l.length c) m (.slice AF fs.length cf)) (LL : Laid w) (hd : m.data.size ≤ 140737488351232) (hf : LieIn w AF fs) (hfl : fs.length ≤ 281474976710656) (hM : rightM m = true) (hA : anyI m.ext m.n fs = true) (hl : (l.length : Int) = LQ) (hT : 0 ≤ T ∧ T ≤ 65535) :
    Calls Tryd.prog 58 #[.pointer (some ⟨b, 0, none⟩)] w fun e w' => e = .returned (.tuple #[.int .i64 2, .int .i64 0]) ∧ But b w w' ∧ KpAt w' b LQ (min (T + 1) 65535) (.slice A l.length c) m (.slice AF fs.length cf) := by
  have CR := Lib.hid (rightM_any m (by unfold maxLen; omega) w LL)
  have HK := Lib.hid h
  have HLL := Lib.hid LL
  rw [hM] at CR
  clear LL hM
  have HLT := Lib.hid h.lt
  obtain ⟨y0, y1, y2⟩ := h.fifo
  obtain ⟨x0, x1, x2, x3, x4, x5, x6, x7⟩ := h.rest
  clear h
  obtain ⟨e1, n1, s1, i1, q1, k1, d1⟩ := m
  simp only [mv] at *
  go_enter Tryd.func58, Tryd.ntmps58
  go_wp2_with fail; refine CR.out.mono ?_; rintro e w1 ⟨rfl, b1⟩
  have HK1 := Lib.hid (HK.out.on b1)
  have HB1 := Lib.hid b1
  clear x0 x1 x2 x3 x4 x5 x6 x7 y0 y1 y2 CR
  obtain ⟨y0, y1, y2⟩ := HK1.out.fifo
  obtain ⟨x0, x1, x2, x3, x4, x5, x6, x7⟩ := HK1.out.rest
  have CA : Hid (∀ W, Below w1.heap.size w1 W → Calls Tryd.prog 81 #[.agg #[.bool e1, .int .i64 n1], .slice AF fs.length cf] W fun e w' => e = .returned (.bool (anyI e1 n1 fs)) ∧ Below W.heap.size W w') := Lib.hid (fun W h => any_any e1 n1 AF cf fs W ((HLL.out.below b1).below h) ((hf.below b1).below h) hfl)
  rw [hA] at CA
  clear b1 hA hf hfl
  go_upto_region 3 with (fail)
  clear y0 y1 y2 x0 x1 x2 x3 x4 x5 x6 x7
  have HV : ∃ Vp : Nat → (Nat → Value) → World → Prop, Vp = (fun ix u wv => match ix with
    | 0 => u 0 = .pointer (some ⟨b, 0, none⟩)
    | 1 => u 1 = .pointer (some ⟨b, 0, none⟩)
    | 2 => u 2 = .pointer (some ⟨b, 3, none⟩)
    | 3 => u 3 = .pointer (some ⟨b, 3, none⟩)
    | 4 => u 4 = .agg #[.bool e1, .int .i64 n1]
    | 5 => u 5 = .pointer (some ⟨b, 0, none⟩)
    | 6 => u 6 = .pointer (some ⟨b, 0, none⟩)
    | 7 => u 7 = .pointer (some ⟨b, 10, none⟩)
    | 8 => u 8 = .slice AF fs.length cf
    | 9 => u 9 = .bool true
    | 10 => u 10 = .bool false
    | _ => True) := ⟨_, rfl⟩
  obtain ⟨Vp, hVdef⟩ := HV
  have Vp0 : ∀ u wv, Vp 0 u wv = (u 0 = .pointer (some ⟨b, 0, none⟩)) := fun u wv => by subst hVdef; rfl
  have Vp1 : ∀ u wv, Vp 1 u wv = (u 1 = .pointer (some ⟨b, 0, none⟩)) := fun u wv => by subst hVdef; rfl
  have Vp2 : ∀ u wv, Vp 2 u wv = (u 2 = .pointer (some ⟨b, 3, none⟩)) := fun u wv => by subst hVdef; rfl
  have Vp3 : ∀ u wv, Vp 3 u wv = (u 3 = .pointer (some ⟨b, 3, none⟩)) := fun u wv => by subst hVdef; rfl
  have Vp4 : ∀ u wv, Vp 4 u wv = (u 4 = .agg #[.bool e1, .int .i64 n1]) := fun u wv => by subst hVdef; rfl
  have Vp5 : ∀ u wv, Vp 5 u wv = (u 5 = .pointer (some ⟨b, 0, none⟩)) := fun u wv => by subst hVdef; rfl
  have Vp6 : ∀ u wv, Vp 6 u wv = (u 6 = .pointer (some ⟨b, 0, none⟩)) := fun u wv => by subst hVdef; rfl
  have Vp7 : ∀ u wv, Vp 7 u wv = (u 7 = .pointer (some ⟨b, 10, none⟩)) := fun u wv => by subst hVdef; rfl
  have Vp8 : ∀ u wv, Vp 8 u wv = (u 8 = .slice AF fs.length cf) := fun u wv => by subst hVdef; rfl
  have Vp9 : ∀ u wv, Vp 9 u wv = (u 9 = .bool true) := fun u wv => by subst hVdef; rfl
  have Vp10 : ∀ u wv, Vp 10 u wv = (u 10 = .bool false) := fun u wv => by subst hVdef; rfl
  have HVD := Lib.hid hVdef
  clear hVdef
  refine region_phase (V := Vp) (drop := fun _ _ => false) (G := fun L wv => Below w1.heap.size w1 wv) (Rel := fun jx wv wv' => Below wv.heap.size wv wv') (by kernel_rfl) (by kernel_rfl) (Below.refl _ _).drew ?hmonop2 ?hdepp2 ⟨?s0_p2, ?s1_p2, ?s2_p2, ?s3_p2, ?s4_p2, ?s5_p2, ?s6_p2, ?s7_p2, ?s8_p2, ?s9_p2, ?s10_p2, trivial⟩ ?behindp2
  case hmonop2 =>
    intro ix jx u wv wv' hij hw hd hr
    rw [HVD.out]
    dsimp only
    split <;> intro h <;> first | exact trivial | exact h | (have hb := hr; first | skip)
  case hdepp2 =>
    intro ix u u' wv h1 h2
    rw [HVD.out]
    dsimp only
    split <;> intro h <;> first | exact trivial | (rw [← h1]; exact h) | exact h
  case s0_p2 =>
    refine oweP rfl fun a wx val L hG hi hW hV hN hO K hK => ?_
    have e0 : a.tmps[0]? = some (.pointer (some ⟨b, 0, none⟩)) := (hO 0 (by kernel_rfl)).trans (by rfl)
    clear hV hN hO
    go_simp
    exact hK.out _ _ (by rw [Vp0, upd_at] <;> (congr 1 <;> omega)) (Below.refl _ _) (hG)
  case s1_p2 =>
    refine oweP rfl fun a wx val L hG hi hW hV hN hO K hK => ?_
    have e10 := hN 0 10 (by kernel_rfl) (by kernel_rfl) (by simp)
    have f10 := hV 0 (by kernel_rfl) (by kernel_rfl)
    rw [Vp0] at f10; rw [f10] at e10; clear f10
    clear hV hN hO
    go_simp
    exact hK.out _ _ (by rw [Vp1, upd_at] <;> (congr 1 <;> omega)) (Below.refl _ _) (hG)
  case s2_p2 =>
    refine oweP rfl fun a wx val L hG hi hW hV hN hO K hK => ?_
    have e11 := hN 1 11 (by kernel_rfl) (by kernel_rfl) (by simp)
    have f11 := hV 1 (by kernel_rfl) (by kernel_rfl)
    rw [Vp1] at f11; rw [f11] at e11; clear f11
    clear hV hN hO
    go_simp
    exact hK.out _ _ (by rw [Vp2, upd_at] <;> (congr 1 <;> omega)) (Below.refl _ _) (hG)
  case s3_p2 =>
    refine oweP rfl fun a wx val L hG hi hW hV hN hO K hK => ?_
    have e12 := hN 2 12 (by kernel_rfl) (by kernel_rfl) (by simp)
    have f12 := hV 2 (by kernel_rfl) (by kernel_rfl)
    rw [Vp2] at f12; rw [f12] at e12; clear f12
    clear hV hN hO
    go_simp
    exact hK.out _ _ (by rw [Vp3, upd_at] <;> (congr 1 <;> omega)) (Below.refl _ _) (hG)
  case s4_p2 =>
    refine oweP rfl fun a wx val L hG hi hW hV hN hO K hK => ?_
    have e13 := hN 3 13 (by kernel_rfl) (by kernel_rfl) (by simp)
    have f13 := hV 3 (by kernel_rfl) (by kernel_rfl)
    rw [Vp3] at f13; rw [f13] at e13; clear f13
    clear hV hN hO
    obtain ⟨x0, x1, x2, x3, x4, x5, x6, x7⟩ := (HK1.out.on hG).rest
    go_simp
    exact hK.out _ _ (by rw [Vp4, upd_at] <;> (congr 1 <;> omega)) (Below.refl _ _) (hG)
  case s5_p2 =>
    refine oweP rfl fun a wx val L hG hi hW hV hN hO K hK => ?_
    have e0 : a.tmps[0]? = some (.pointer (some ⟨b, 0, none⟩)) := (hO 0 (by kernel_rfl)).trans (by rfl)
    clear hV hN hO
    go_simp
    exact hK.out _ _ (by rw [Vp5, upd_at] <;> (congr 1 <;> omega)) (Below.refl _ _) (hG)
  case s6_p2 =>
    refine oweP rfl fun a wx val L hG hi hW hV hN hO K hK => ?_
    have e15 := hN 5 15 (by kernel_rfl) (by kernel_rfl) (by simp)
    have f15 := hV 5 (by kernel_rfl) (by kernel_rfl)
    rw [Vp5] at f15; rw [f15] at e15; clear f15
    clear hV hN hO
    go_simp
    exact hK.out _ _ (by rw [Vp6, upd_at] <;> (congr 1 <;> omega)) (Below.refl _ _) (hG)
  case s7_p2 =>
    refine oweP rfl fun a wx val L hG hi hW hV hN hO K hK => ?_
    have e16 := hN 6 16 (by kernel_rfl) (by kernel_rfl) (by simp)
    have f16 := hV 6 (by kernel_rfl) (by kernel_rfl)
    rw [Vp6] at f16; rw [f16] at e16; clear f16
    clear hV hN hO
    go_simp
    exact hK.out _ _ (by rw [Vp7, upd_at] <;> (congr 1 <;> omega)) (Below.refl _ _) (hG)
  case s8_p2 =>
    refine oweP rfl fun a wx val L hG hi hW hV hN hO K hK => ?_
    have e17 := hN 7 17 (by kernel_rfl) (by kernel_rfl) (by simp)
    have f17 := hV 7 (by kernel_rfl) (by kernel_rfl)
    rw [Vp7] at f17; rw [f17] at e17; clear f17
    clear hV hN hO
    obtain ⟨x0, x1, x2, x3, x4, x5, x6, x7⟩ := (HK1.out.on hG).rest
    go_simp
    exact hK.out _ _ (by rw [Vp8, upd_at] <;> (congr 1 <;> omega)) (Below.refl _ _) (hG)
  case s9_p2 =>
    refine oweP rfl fun a wx val L hG hi hW hV hN hO K hK => ?_
    have e14 := hN 4 14 (by kernel_rfl) (by kernel_rfl) (by simp)
    have f14 := hV 4 (by kernel_rfl) (by kernel_rfl)
    rw [Vp4] at f14; rw [f14] at e14; clear f14
    have e18 := hN 8 18 (by kernel_rfl) (by kernel_rfl) (by simp)
    have f18 := hV 8 (by kernel_rfl) (by kernel_rfl)
    rw [Vp8] at f18; rw [f18] at e18; clear f18
    clear hV hN hO
    go_simp
    refine (CA.out _ hG).mono ?_
    rintro e w11 ⟨rfl, hb⟩
    exact hK.out _ _ (by rw [Vp9, upd_at]) (hb) (hG.trans (hb.mono hG.size))
  case s10_p2 =>
    refine oweP rfl fun a wx val L hG hi hW hV hN hO K hK => ?_
    have e19 := hN 9 19 (by kernel_rfl) (by kernel_rfl) (by simp)
    have f19 := hV 9 (by kernel_rfl) (by kernel_rfl)
    rw [Vp9] at f19; rw [f19] at e19; clear f19
    clear hV hN hO
    go_simp
    exact hK.out _ _ (by rw [Vp10, upd_at] <;> (congr 1 <;> omega)) (Below.refl _ _) (hG)
  intro val wx L hG hV
  have f0 := hV 0 (by simp) (fun _ _ => by simp)
  rw [Vp0] at f0
  have f1 := hV 1 (by simp) (fun _ _ => by simp)
  rw [Vp1] at f1
  have f2 := hV 2 (by simp) (fun _ _ => by simp)
  rw [Vp2] at f2
  have f3 := hV 3 (by simp) (fun _ _ => by simp)
  rw [Vp3] at f3
  have f4 := hV 4 (by simp) (fun _ _ => by simp)
  rw [Vp4] at f4
  have f5 := hV 5 (by simp) (fun _ _ => by simp)
  rw [Vp5] at f5
  have f6 := hV 6 (by simp) (fun _ _ => by simp)
  rw [Vp6] at f6
  have f7 := hV 7 (by simp) (fun _ _ => by simp)
  rw [Vp7] at f7
  have f8 := hV 8 (by simp) (fun _ _ => by simp)
  rw [Vp8] at f8
  have f9 := hV 9 (by simp) (fun _ _ => by simp)
  rw [Vp9] at f9
  have f10 := hV 10 (by simp) (fun _ _ => by simp)
  rw [Vp10] at f10
  clear hV Vp0 Vp1 Vp2 Vp3 Vp4 Vp5 Vp6 Vp7 Vp8 Vp9 Vp10
  simp only [putAll, Act.put, List.setIfInBounds_toArray, List.set_cons_zero, List.set_cons_succ]
  generalize val 0 = z0 at *; (subst f0)
  generalize val 1 = z1 at *; (subst f1)
  generalize val 2 = z2 at *; (subst f2)
  generalize val 3 = z3 at *; (subst f3)
  generalize val 4 = z4 at *; (subst f4)
  generalize val 5 = z5 at *; (subst f5)
  generalize val 6 = z6 at *; (subst f6)
  generalize val 7 = z7 at *; (subst f7)
  generalize val 8 = z8 at *; (subst f8)
  generalize val 9 = z9 at *; (subst f9)
  generalize val 10 = z10 at *; (subst f10)
  clear HVD
  have HB3 := Lib.hid (HB1.out.trans (hG.mono HB1.out.size))
  have HK3 := Lib.hid (HK1.out.on hG)
  clear hG HK1
  have hlb : ((l.length : Int) == LQ) = true := by rw [hl]; simp
  have hm1 : IntKind.i64.wrap (T + 1) = T + 1 := IntWalk.i64_in _ (by omega)
  clear hl hT
  obtain ⟨y0, y1, y2⟩ := HK3.out.fifo
  have yf := HK3.out.frozen
  have HP : Hid (∀ n, But b w ((wx.drewN n).setCell ⟨b, 1, none⟩ (.int .i64 (min (T + 1) 65535))) ∧ KpAt ((wx.drewN n).setCell ⟨b, 1, none⟩ (.int .i64 (min (T + 1) 65535))) b LQ (min (T + 1) 65535) (.slice A l.length c) ⟨e1, n1, s1, i1, q1, k1, d1⟩ (.slice AF fs.length cf)) := Lib.hid (fun n => by
    have hb3 := below_drewN HB3.out n
    have hk3 := HK3.out.on (below_drewN (Below.refl _ wx) n)
    exact ⟨⟨(hb3.mono (Nat.le_of_lt HLT.out)).setCell (p := ⟨b, 1, none⟩) (Nat.le_refl _) _, fun k hk hkb => (Below.heap_setCell _ _ _ _ (by show k ≠ b; exact hkb)).trans (hb3.block k hk)⟩, hk3.lost _⟩)
  go_upto_region 5 with (fail)
  go_quiet (fail)
  go_wp2_with fail
  exact bodyPost_ret (ii_res Tryd.results58 rfl rfl) rfl ⟨rfl, HP.out _⟩

set_option maxRecDepth 100000 in
set_option maxHeartbeats 2000000 in
theorem offerK_room (b : Nat) (LQ T : Int) (A : Option Addr) (c : Nat) (l : List Msg) (m : Msg) (AF : Option Addr) (cf : Nat) (fs : List (Bool × Int × Int)) (w : World) (h : KpAt w b LQ T (.slice A l.length c) m (.slice AF fs.length cf)) (LL : Laid w) (hd : m.data.size ≤ 140737488351232) (hf : LieIn w AF fs) (hfl : fs.length ≤ 281474976710656) (hM : rightM m = true) (hA : anyI m.ext m.n fs = true) (hl : (l.length : Int) ≠ LQ) (h200 : l.length ≤ 200) (S : Nat) (hbS : b < S) (hSw : S ≤ w.heap.size) (ho : OwnM w S (.slice A l.length c) l) :
    Calls Tryd.prog 58 #[.pointer (some ⟨b, 0, none⟩)] w fun e w' => ∃ A' c', e = .returned (.tuple #[.int .i64 1, .int .i64 0]) ∧ KpAt w' b LQ T (.slice A' (l.length + 1) c') m (.slice AF fs.length cf) ∧ QTold none S w' (l ++ [m]) A' c' ∧ Below b w w' ∧ ∀ k, k < S → k ≠ b → w'.heap[k]? = w.heap[k]? := by
  have CR := Lib.hid (rightM_any m (by unfold maxLen; omega) w LL)
  have HK := Lib.hid h
  have HLL := Lib.hid LL
  rw [hM] at CR
  clear LL hM
  have HO := Lib.hid ho
  have HD := Lib.hid hd
  clear ho hd
  obtain ⟨y0, y1, y2⟩ := h.fifo
  obtain ⟨x0, x1, x2, x3, x4, x5, x6, x7⟩ := h.rest
  clear h
  obtain ⟨e1, n1, s1, i1, q1, k1, d1⟩ := m
  simp only [mv] at *
  go_enter Tryd.func58, Tryd.ntmps58
  go_wp2_with fail; refine CR.out.mono ?_; rintro e w1 ⟨rfl, b1⟩
  have HK1 := Lib.hid (HK.out.on b1)
  have HB1 := Lib.hid b1
  clear x0 x1 x2 x3 x4 x5 x6 x7 y0 y1 y2 CR
  obtain ⟨y0, y1, y2⟩ := HK1.out.fifo
  obtain ⟨x0, x1, x2, x3, x4, x5, x6, x7⟩ := HK1.out.rest
  have CA : Hid (∀ W, Below w1.heap.size w1 W → Calls Tryd.prog 81 #[.agg #[.bool e1, .int .i64 n1], .slice AF fs.length cf] W fun e w' => e = .returned (.bool (anyI e1 n1 fs)) ∧ Below W.heap.size W w') := Lib.hid (fun W h => any_any e1 n1 AF cf fs W ((HLL.out.below b1).below h) ((hf.below b1).below h) hfl)
  rw [hA] at CA
  clear b1 hA hf hfl
  go_upto_region 3 with (fail)
  clear y0 y1 y2 x0 x1 x2 x3 x4 x5 x6 x7
  have HV : ∃ Vp : Nat → (Nat → Value) → World → Prop, Vp = (fun ix u wv => match ix with
    | 0 => u 0 = .pointer (some ⟨b, 0, none⟩)
    | 1 => u 1 = .pointer (some ⟨b, 0, none⟩)
    | 2 => u 2 = .pointer (some ⟨b, 3, none⟩)
    | 3 => u 3 = .pointer (some ⟨b, 3, none⟩)
    | 4 => u 4 = .agg #[.bool e1, .int .i64 n1]
    | 5 => u 5 = .pointer (some ⟨b, 0, none⟩)
    | 6 => u 6 = .pointer (some ⟨b, 0, none⟩)
    | 7 => u 7 = .pointer (some ⟨b, 10, none⟩)
    | 8 => u 8 = .slice AF fs.length cf
    | 9 => u 9 = .bool true
    | 10 => u 10 = .bool false
    | _ => True) := ⟨_, rfl⟩
  obtain ⟨Vp, hVdef⟩ := HV
  have Vp0 : ∀ u wv, Vp 0 u wv = (u 0 = .pointer (some ⟨b, 0, none⟩)) := fun u wv => by subst hVdef; rfl
  have Vp1 : ∀ u wv, Vp 1 u wv = (u 1 = .pointer (some ⟨b, 0, none⟩)) := fun u wv => by subst hVdef; rfl
  have Vp2 : ∀ u wv, Vp 2 u wv = (u 2 = .pointer (some ⟨b, 3, none⟩)) := fun u wv => by subst hVdef; rfl
  have Vp3 : ∀ u wv, Vp 3 u wv = (u 3 = .pointer (some ⟨b, 3, none⟩)) := fun u wv => by subst hVdef; rfl
  have Vp4 : ∀ u wv, Vp 4 u wv = (u 4 = .agg #[.bool e1, .int .i64 n1]) := fun u wv => by subst hVdef; rfl
  have Vp5 : ∀ u wv, Vp 5 u wv = (u 5 = .pointer (some ⟨b, 0, none⟩)) := fun u wv => by subst hVdef; rfl
  have Vp6 : ∀ u wv, Vp 6 u wv = (u 6 = .pointer (some ⟨b, 0, none⟩)) := fun u wv => by subst hVdef; rfl
  have Vp7 : ∀ u wv, Vp 7 u wv = (u 7 = .pointer (some ⟨b, 10, none⟩)) := fun u wv => by subst hVdef; rfl
  have Vp8 : ∀ u wv, Vp 8 u wv = (u 8 = .slice AF fs.length cf) := fun u wv => by subst hVdef; rfl
  have Vp9 : ∀ u wv, Vp 9 u wv = (u 9 = .bool true) := fun u wv => by subst hVdef; rfl
  have Vp10 : ∀ u wv, Vp 10 u wv = (u 10 = .bool false) := fun u wv => by subst hVdef; rfl
  have HVD := Lib.hid hVdef
  clear hVdef
  refine region_phase (V := Vp) (drop := fun _ _ => false) (G := fun L wv => Below w1.heap.size w1 wv) (Rel := fun jx wv wv' => Below wv.heap.size wv wv') (by kernel_rfl) (by kernel_rfl) (Below.refl _ _).drew ?hmonop3 ?hdepp3 ⟨?s0_p3, ?s1_p3, ?s2_p3, ?s3_p3, ?s4_p3, ?s5_p3, ?s6_p3, ?s7_p3, ?s8_p3, ?s9_p3, ?s10_p3, trivial⟩ ?behindp3
  case hmonop3 =>
    intro ix jx u wv wv' hij hw hd hr
    rw [HVD.out]
    dsimp only
    split <;> intro h <;> first | exact trivial | exact h | (have hb := hr; first | skip)
  case hdepp3 =>
    intro ix u u' wv h1 h2
    rw [HVD.out]
    dsimp only
    split <;> intro h <;> first | exact trivial | (rw [← h1]; exact h) | exact h
  case s0_p3 =>
    refine oweP rfl fun a wx val L hG hi hW hV hN hO K hK => ?_
    have e0 : a.tmps[0]? = some (.pointer (some ⟨b, 0, none⟩)) := (hO 0 (by kernel_rfl)).trans (by rfl)
    clear hV hN hO
    go_simp
    exact hK.out _ _ (by rw [Vp0, upd_at] <;> (congr 1 <;> omega)) (Below.refl _ _) (hG)
  case s1_p3 =>
    refine oweP rfl fun a wx val L hG hi hW hV hN hO K hK => ?_
    have e10 := hN 0 10 (by kernel_rfl) (by kernel_rfl) (by simp)
    have f10 := hV 0 (by kernel_rfl) (by kernel_rfl)
    rw [Vp0] at f10; rw [f10] at e10; clear f10
    clear hV hN hO
    go_simp
    exact hK.out _ _ (by rw [Vp1, upd_at] <;> (congr 1 <;> omega)) (Below.refl _ _) (hG)
  case s2_p3 =>
    refine oweP rfl fun a wx val L hG hi hW hV hN hO K hK => ?_
    have e11 := hN 1 11 (by kernel_rfl) (by kernel_rfl) (by simp)
    have f11 := hV 1 (by kernel_rfl) (by kernel_rfl)
    rw [Vp1] at f11; rw [f11] at e11; clear f11
    clear hV hN hO
    go_simp
    exact hK.out _ _ (by rw [Vp2, upd_at] <;> (congr 1 <;> omega)) (Below.refl _ _) (hG)
  case s3_p3 =>
    refine oweP rfl fun a wx val L hG hi hW hV hN hO K hK => ?_
    have e12 := hN 2 12 (by kernel_rfl) (by kernel_rfl) (by simp)
    have f12 := hV 2 (by kernel_rfl) (by kernel_rfl)
    rw [Vp2] at f12; rw [f12] at e12; clear f12
    clear hV hN hO
    go_simp
    exact hK.out _ _ (by rw [Vp3, upd_at] <;> (congr 1 <;> omega)) (Below.refl _ _) (hG)
  case s4_p3 =>
    refine oweP rfl fun a wx val L hG hi hW hV hN hO K hK => ?_
    have e13 := hN 3 13 (by kernel_rfl) (by kernel_rfl) (by simp)
    have f13 := hV 3 (by kernel_rfl) (by kernel_rfl)
    rw [Vp3] at f13; rw [f13] at e13; clear f13
    clear hV hN hO
    obtain ⟨x0, x1, x2, x3, x4, x5, x6, x7⟩ := (HK1.out.on hG).rest
    go_simp
    exact hK.out _ _ (by rw [Vp4, upd_at] <;> (congr 1 <;> omega)) (Below.refl _ _) (hG)
  case s5_p3 =>
    refine oweP rfl fun a wx val L hG hi hW hV hN hO K hK => ?_
    have e0 : a.tmps[0]? = some (.pointer (some ⟨b, 0, none⟩)) := (hO 0 (by kernel_rfl)).trans (by rfl)
    clear hV hN hO
    go_simp
    exact hK.out _ _ (by rw [Vp5, upd_at] <;> (congr 1 <;> omega)) (Below.refl _ _) (hG)
  case s6_p3 =>
    refine oweP rfl fun a wx val L hG hi hW hV hN hO K hK => ?_
    have e15 := hN 5 15 (by kernel_rfl) (by kernel_rfl) (by simp)
    have f15 := hV 5 (by kernel_rfl) (by kernel_rfl)
    rw [Vp5] at f15; rw [f15] at e15; clear f15
    clear hV hN hO
    go_simp
    exact hK.out _ _ (by rw [Vp6, upd_at] <;> (congr 1 <;> omega)) (Below.refl _ _) (hG)
  case s7_p3 =>
    refine oweP rfl fun a wx val L hG hi hW hV hN hO K hK => ?_
    have e16 := hN 6 16 (by kernel_rfl) (by kernel_rfl) (by simp)
    have f16 := hV 6 (by kernel_rfl) (by kernel_rfl)
    rw [Vp6] at f16; rw [f16] at e16; clear f16
    clear hV hN hO
    go_simp
    exact hK.out _ _ (by rw [Vp7, upd_at] <;> (congr 1 <;> omega)) (Below.refl _ _) (hG)
  case s8_p3 =>
    refine oweP rfl fun a wx val L hG hi hW hV hN hO K hK => ?_
    have e17 := hN 7 17 (by kernel_rfl) (by kernel_rfl) (by simp)
    have f17 := hV 7 (by kernel_rfl) (by kernel_rfl)
    rw [Vp7] at f17; rw [f17] at e17; clear f17
    clear hV hN hO
    obtain ⟨x0, x1, x2, x3, x4, x5, x6, x7⟩ := (HK1.out.on hG).rest
    go_simp
    exact hK.out _ _ (by rw [Vp8, upd_at] <;> (congr 1 <;> omega)) (Below.refl _ _) (hG)
  case s9_p3 =>
    refine oweP rfl fun a wx val L hG hi hW hV hN hO K hK => ?_
    have e14 := hN 4 14 (by kernel_rfl) (by kernel_rfl) (by simp)
    have f14 := hV 4 (by kernel_rfl) (by kernel_rfl)
    rw [Vp4] at f14; rw [f14] at e14; clear f14
    have e18 := hN 8 18 (by kernel_rfl) (by kernel_rfl) (by simp)
    have f18 := hV 8 (by kernel_rfl) (by kernel_rfl)
    rw [Vp8] at f18; rw [f18] at e18; clear f18
    clear hV hN hO
    go_simp
    refine (CA.out _ hG).mono ?_
    rintro e w11 ⟨rfl, hb⟩
    exact hK.out _ _ (by rw [Vp9, upd_at]) (hb) (hG.trans (hb.mono hG.size))
  case s10_p3 =>
    refine oweP rfl fun a wx val L hG hi hW hV hN hO K hK => ?_
    have e19 := hN 9 19 (by kernel_rfl) (by kernel_rfl) (by simp)
    have f19 := hV 9 (by kernel_rfl) (by kernel_rfl)
    rw [Vp9] at f19; rw [f19] at e19; clear f19
    clear hV hN hO
    go_simp
    exact hK.out _ _ (by rw [Vp10, upd_at] <;> (congr 1 <;> omega)) (Below.refl _ _) (hG)
  intro val wx L hG hV
  have f0 := hV 0 (by simp) (fun _ _ => by simp)
  rw [Vp0] at f0
  have f1 := hV 1 (by simp) (fun _ _ => by simp)
  rw [Vp1] at f1
  have f2 := hV 2 (by simp) (fun _ _ => by simp)
  rw [Vp2] at f2
  have f3 := hV 3 (by simp) (fun _ _ => by simp)
  rw [Vp3] at f3
  have f4 := hV 4 (by simp) (fun _ _ => by simp)
  rw [Vp4] at f4
  have f5 := hV 5 (by simp) (fun _ _ => by simp)
  rw [Vp5] at f5
  have f6 := hV 6 (by simp) (fun _ _ => by simp)
  rw [Vp6] at f6
  have f7 := hV 7 (by simp) (fun _ _ => by simp)
  rw [Vp7] at f7
  have f8 := hV 8 (by simp) (fun _ _ => by simp)
  rw [Vp8] at f8
  have f9 := hV 9 (by simp) (fun _ _ => by simp)
  rw [Vp9] at f9
  have f10 := hV 10 (by simp) (fun _ _ => by simp)
  rw [Vp10] at f10
  clear hV Vp0 Vp1 Vp2 Vp3 Vp4 Vp5 Vp6 Vp7 Vp8 Vp9 Vp10
  simp only [putAll, Act.put, List.setIfInBounds_toArray, List.set_cons_zero, List.set_cons_succ]
  generalize val 0 = z0 at *; (subst f0)
  generalize val 1 = z1 at *; (subst f1)
  generalize val 2 = z2 at *; (subst f2)
  generalize val 3 = z3 at *; (subst f3)
  generalize val 4 = z4 at *; (subst f4)
  generalize val 5 = z5 at *; (subst f5)
  generalize val 6 = z6 at *; (subst f6)
  generalize val 7 = z7 at *; (subst f7)
  generalize val 8 = z8 at *; (subst f8)
  generalize val 9 = z9 at *; (subst f9)
  generalize val 10 = z10 at *; (subst f10)
  clear HVD
  have HB3 := Lib.hid (HB1.out.trans (hG.mono HB1.out.size))
  have HK3 := Lib.hid (HK1.out.on hG)
  have HO3 := Lib.hid ((HO.out.on HB1.out).on hG)
  have HS3 : Hid (S ≤ wx.heap.size) := Lib.hid (Nat.le_trans hSw HB3.out.size)
  have HR3 : Hid (∀ k, k < S → wx.heap[k]? = w.heap[k]?) := Lib.hid (fun k hk => HB3.out.block k (by omega))
  have HBB := Lib.hid (HB3.out.mono (Nat.le_trans (Nat.le_of_lt hbS) hSw))
  clear hG HK1
  have hlb : ((l.length : Int) == LQ) = false := beq_eq_false_iff_ne.mpr hl
  clear hl
  obtain ⟨y0, y1, y2⟩ := HK3.out.fifo
  go_upto_region 5 with (fail)
  go_quiet (fail)
  go_upto_region 8 with (fail)
  clear y0 y1 y2
  have HK4 := Lib.hid (HK3.out.on (below_drewN (Below.refl _ wx) nq))
  have HO4 := Lib.hid (HO3.out.on (below_drewN (Below.refl _ wx) nq))
  have HB4 := Lib.hid (below_drewN HBB.out nq)
  have HR4 : Hid (∀ k, k < S → (wx.drewN nq).heap[k]? = w.heap[k]?) := Lib.hid HR3.out
  have HS4 : Hid (S ≤ (wx.drewN nq).heap.size) := Lib.hid HS3.out
  generalize wx.drewN nq = W4 at *
  have HV : ∃ Vp : Nat → (Nat → Value) → World → Prop, Vp = (fun ix u wv => match ix with
    | 0 => u 0 = .pointer (some ⟨b, 0, none⟩)
    | 1 => u 1 = .pointer (some ⟨b, 0, none⟩)
    | 2 => u 2 = .pointer (some ⟨b, 0, none⟩)
    | 3 => u 3 = .pointer (some ⟨b, 0, none⟩)
    | 4 => u 4 = .pointer (some ⟨b, 2, none⟩)
    | 5 => u 5 = .slice A l.length c
    | 6 => u 6 = .pointer (some ⟨b, 0, none⟩)
    | 7 => u 7 = .pointer (some ⟨b, 0, none⟩)
    | 8 => u 8 = .pointer (some ⟨b, 3, none⟩)
    | 9 => u 9 = .agg #[.bool e1, .int .i64 n1, .int .i64 s1, .int .i64 i1, .int .i64 q1, .int .i64 k1, .string d1]
    | 10 => ∃ g, u 10 = .slice (some ⟨g, 0, none⟩) 1 1 ∧ MsgAt wv g ⟨e1, n1, s1, i1, q1, k1, d1⟩
    | 11 => ∃ A6 c6, u 11 = .slice A6 1 c6 ∧ Msgs wv wv.heap.size A6 [⟨e1, n1, s1, i1, q1, k1, d1⟩]
    | 12 => ∃ A7 c7, u 12 = .slice A7 (l.length + 1) c7 ∧ OwnM wv S (.slice A7 (l.length + 1) c7) (l ++ [⟨e1, n1, s1, i1, q1, k1, d1⟩])
    | 13 => u 13 = .pointer (some ⟨b, 0, none⟩)
    | 14 => u 14 = .pointer (some ⟨b, 0, none⟩)
    | 15 => u 15 = .pointer (some ⟨b, 2, none⟩)
    | 16 => ∃ A7 c7, KpAt wv b LQ T (.slice A7 (l.length + 1) c7) ⟨e1, n1, s1, i1, q1, k1, d1⟩ (.slice AF fs.length cf) ∧ QTold none S wv (l ++ [⟨e1, n1, s1, i1, q1, k1, d1⟩]) A7 c7
    | _ => True) := ⟨_, rfl⟩
  obtain ⟨Vp, hVdef⟩ := HV
  have Vp0 : ∀ u wv, Vp 0 u wv = (u 0 = .pointer (some ⟨b, 0, none⟩)) := fun u wv => by subst hVdef; rfl
  have Vp1 : ∀ u wv, Vp 1 u wv = (u 1 = .pointer (some ⟨b, 0, none⟩)) := fun u wv => by subst hVdef; rfl
  have Vp2 : ∀ u wv, Vp 2 u wv = (u 2 = .pointer (some ⟨b, 0, none⟩)) := fun u wv => by subst hVdef; rfl
  have Vp3 : ∀ u wv, Vp 3 u wv = (u 3 = .pointer (some ⟨b, 0, none⟩)) := fun u wv => by subst hVdef; rfl
  have Vp4 : ∀ u wv, Vp 4 u wv = (u 4 = .pointer (some ⟨b, 2, none⟩)) := fun u wv => by subst hVdef; rfl
  have Vp5 : ∀ u wv, Vp 5 u wv = (u 5 = .slice A l.length c) := fun u wv => by subst hVdef; rfl
  have Vp6 : ∀ u wv, Vp 6 u wv = (u 6 = .pointer (some ⟨b, 0, none⟩)) := fun u wv => by subst hVdef; rfl
  have Vp7 : ∀ u wv, Vp 7 u wv = (u 7 = .pointer (some ⟨b, 0, none⟩)) := fun u wv => by subst hVdef; rfl
  have Vp8 : ∀ u wv, Vp 8 u wv = (u 8 = .pointer (some ⟨b, 3, none⟩)) := fun u wv => by subst hVdef; rfl
  have Vp9 : ∀ u wv, Vp 9 u wv = (u 9 = .agg #[.bool e1, .int .i64 n1, .int .i64 s1, .int .i64 i1, .int .i64 q1, .int .i64 k1, .string d1]) := fun u wv => by subst hVdef; rfl
  have Vp10 : ∀ u wv, Vp 10 u wv = (∃ g, u 10 = .slice (some ⟨g, 0, none⟩) 1 1 ∧ MsgAt wv g ⟨e1, n1, s1, i1, q1, k1, d1⟩) := fun u wv => by subst hVdef; rfl
  have Vp11 : ∀ u wv, Vp 11 u wv = (∃ A6 c6, u 11 = .slice A6 1 c6 ∧ Msgs wv wv.heap.size A6 [⟨e1, n1, s1, i1, q1, k1, d1⟩]) := fun u wv => by subst hVdef; rfl
  have Vp12 : ∀ u wv, Vp 12 u wv = (∃ A7 c7, u 12 = .slice A7 (l.length + 1) c7 ∧ OwnM wv S (.slice A7 (l.length + 1) c7) (l ++ [⟨e1, n1, s1, i1, q1, k1, d1⟩])) := fun u wv => by subst hVdef; rfl
  have Vp13 : ∀ u wv, Vp 13 u wv = (u 13 = .pointer (some ⟨b, 0, none⟩)) := fun u wv => by subst hVdef; rfl
  have Vp14 : ∀ u wv, Vp 14 u wv = (u 14 = .pointer (some ⟨b, 0, none⟩)) := fun u wv => by subst hVdef; rfl
  have Vp15 : ∀ u wv, Vp 15 u wv = (u 15 = .pointer (some ⟨b, 2, none⟩)) := fun u wv => by subst hVdef; rfl
  have Vp16 : ∀ u wv, Vp 16 u wv = (∃ A7 c7, KpAt wv b LQ T (.slice A7 (l.length + 1) c7) ⟨e1, n1, s1, i1, q1, k1, d1⟩ (.slice AF fs.length cf) ∧ QTold none S wv (l ++ [⟨e1, n1, s1, i1, q1, k1, d1⟩]) A7 c7) := fun u wv => by subst hVdef; rfl
  have HVD := Lib.hid hVdef
  clear hVdef
  refine region_phase (V := Vp) (drop := fun jx ix => (jx == 12 && ix == 10) || (jx == 12 && ix == 11) || (jx == 16 && ix == 10) || (jx == 16 && ix == 11) || (jx == 16 && ix == 12)) (G := fun L wv => (L 12 = false → OwnM wv S (.slice A l.length c) l) ∧ (L 16 = false → KpAt wv b LQ T (.slice A l.length c) ⟨e1, n1, s1, i1, q1, k1, d1⟩ (.slice AF fs.length cf)) ∧ S ≤ (wv).heap.size ∧ Below b w wv ∧ ∀ k, k < S → k ≠ b → (wv).heap[k]? = w.heap[k]?) (Rel := fun jx wv wv' => jx = 12 ∨ jx = 16 ∨ Below wv.heap.size wv wv') (by kernel_rfl) (by kernel_rfl) ⟨fun _ => HO4.out.on (Below.refl _ _).drew, fun _ => HK4.out.on (Below.refl _ _).drew, HS4.out, HB4.out.trans ((Below.refl _ _).drew.mono (Nat.le_trans (Nat.le_of_lt hbS) HS4.out)), fun k hk _ => HR4.out k hk⟩ ?hmonop4 ?hdepp4 ⟨?s0_p4, ?s1_p4, ?s2_p4, ?s3_p4, ?s4_p4, ?s5_p4, ?s6_p4, ?s7_p4, ?s8_p4, ?s9_p4, ?s10_p4, ?s11_p4, ?s12_p4, ?s13_p4, ?s14_p4, ?s15_p4, ?s16_p4, trivial⟩ ?behindp4
  case hmonop4 =>
    intro ix jx u wv wv' hij hw hd hr
    rw [HVD.out]
    dsimp only
    split <;> intro h <;> first | exact trivial | exact h | (rcases hr with rfl | rfl | hb; (focus first | exact absurd rfl hij | (simp at hd; done) | (exact Bool.noConfusion (hw.symm.trans (show _ = true from by kernel_rfl)))); (focus first | exact absurd rfl hij | (simp at hd; done) | (exact Bool.noConfusion (hw.symm.trans (show _ = true from by kernel_rfl)))); (first | (obtain ⟨g, e, hg⟩ := h; exact ⟨g, e, MsgAt.on hg hb⟩) | (obtain ⟨A6, c6, e, hm6⟩ := h; exact ⟨A6, c6, e, hm6.on hb⟩) | (obtain ⟨A7, c7, e, ho7⟩ := h; exact ⟨A7, c7, e, ho7.on hb⟩) | (obtain ⟨A7, c7, e, ht⟩ := h; exact ⟨A7, c7, e.on hb, ht.onw hb⟩)))
  case hdepp4 =>
    intro ix u u' wv h1 h2
    rw [HVD.out]
    dsimp only
    split <;> intro h <;> first | exact trivial | (rw [← h1]; exact h) | exact h
  case s0_p4 =>
    refine oweP rfl fun a wx val L hG hi hW hV hN hO K hK => ?_
    have e0 : a.tmps[0]? = some (.pointer (some ⟨b, 0, none⟩)) := (hO 0 (by kernel_rfl)).trans (by rfl)
    clear hV hN hO
    go_simp
    exact hK.out _ _ (by rw [Vp0, upd_at] <;> (congr 1 <;> omega)) (.inr (.inr (Below.refl _ _))) (⟨fun h => hG.1 (upL_false h), fun h => hG.2.1 (upL_false h), hG.2.2⟩)
  case s1_p4 =>
    refine oweP rfl fun a wx val L hG hi hW hV hN hO K hK => ?_
    have e0 : a.tmps[0]? = some (.pointer (some ⟨b, 0, none⟩)) := (hO 0 (by kernel_rfl)).trans (by rfl)
    clear hV hN hO
    go_simp
    exact hK.out _ _ (by rw [Vp1, upd_at] <;> (congr 1 <;> omega)) (.inr (.inr (Below.refl _ _))) (⟨fun h => hG.1 (upL_false h), fun h => hG.2.1 (upL_false h), hG.2.2⟩)
  case s2_p4 =>
    refine oweP rfl fun a wx val L hG hi hW hV hN hO K hK => ?_
    have e45 := hN 1 45 (by kernel_rfl) (by kernel_rfl) (by simp)
    have f45 := hV 1 (by kernel_rfl) (by kernel_rfl)
    rw [Vp1] at f45; rw [f45] at e45; clear f45
    clear hV hN hO
    go_simp
    exact hK.out _ _ (by rw [Vp2, upd_at] <;> (congr 1 <;> omega)) (.inr (.inr (Below.refl _ _))) (⟨fun h => hG.1 (upL_false h), fun h => hG.2.1 (upL_false h), hG.2.2⟩)
  case s3_p4 =>
    refine oweP rfl fun a wx val L hG hi hW hV hN hO K hK => ?_
    have e46 := hN 2 46 (by kernel_rfl) (by kernel_rfl) (by simp)
    have f46 := hV 2 (by kernel_rfl) (by kernel_rfl)
    rw [Vp2] at f46; rw [f46] at e46; clear f46
    clear hV hN hO
    go_simp
    exact hK.out _ _ (by rw [Vp3, upd_at] <;> (congr 1 <;> omega)) (.inr (.inr (Below.refl _ _))) (⟨fun h => hG.1 (upL_false h), fun h => hG.2.1 (upL_false h), hG.2.2⟩)
  case s4_p4 =>
    refine oweP rfl fun a wx val L hG hi hW hV hN hO K hK => ?_
    have e47 := hN 3 47 (by kernel_rfl) (by kernel_rfl) (by simp)
    have f47 := hV 3 (by kernel_rfl) (by kernel_rfl)
    rw [Vp3] at f47; rw [f47] at e47; clear f47
    clear hV hN hO
    go_simp
    exact hK.out _ _ (by rw [Vp4, upd_at] <;> (congr 1 <;> omega)) (.inr (.inr (Below.refl _ _))) (⟨fun h => hG.1 (upL_false h), fun h => hG.2.1 (upL_false h), hG.2.2⟩)
  case s5_p4 =>
    refine oweP rfl fun a wx val L hG hi hW hV hN hO K hK => ?_
    have e48 := hN 4 48 (by kernel_rfl) (by kernel_rfl) (by simp)
    have f48 := hV 4 (by kernel_rfl) (by kernel_rfl)
    rw [Vp4] at f48; rw [f48] at e48; clear f48
    clear hV hN hO
    obtain ⟨v0, v1, v2⟩ := (hG.2.1 (hW 16 (by kernel_rfl))).fifo
    go_simp
    exact hK.out _ _ (by rw [Vp5, upd_at] <;> (congr 1 <;> omega)) (.inr (.inr (Below.refl _ _))) (⟨fun h => hG.1 (upL_false h), fun h => hG.2.1 (upL_false h), hG.2.2⟩)
  case s6_p4 =>
    refine oweP rfl fun a wx val L hG hi hW hV hN hO K hK => ?_
    have e0 : a.tmps[0]? = some (.pointer (some ⟨b, 0, none⟩)) := (hO 0 (by kernel_rfl)).trans (by rfl)
    clear hV hN hO
    go_simp
    exact hK.out _ _ (by rw [Vp6, upd_at] <;> (congr 1 <;> omega)) (.inr (.inr (Below.refl _ _))) (⟨fun h => hG.1 (upL_false h), fun h => hG.2.1 (upL_false h), hG.2.2⟩)
  case s7_p4 =>
    refine oweP rfl fun a wx val L hG hi hW hV hN hO K hK => ?_
    have e50 := hN 6 50 (by kernel_rfl) (by kernel_rfl) (by simp)
    have f50 := hV 6 (by kernel_rfl) (by kernel_rfl)
    rw [Vp6] at f50; rw [f50] at e50; clear f50
    clear hV hN hO
    go_simp
    exact hK.out _ _ (by rw [Vp7, upd_at] <;> (congr 1 <;> omega)) (.inr (.inr (Below.refl _ _))) (⟨fun h => hG.1 (upL_false h), fun h => hG.2.1 (upL_false h), hG.2.2⟩)
  case s8_p4 =>
    refine oweP rfl fun a wx val L hG hi hW hV hN hO K hK => ?_
    have e51 := hN 7 51 (by kernel_rfl) (by kernel_rfl) (by simp)
    have f51 := hV 7 (by kernel_rfl) (by kernel_rfl)
    rw [Vp7] at f51; rw [f51] at e51; clear f51
    clear hV hN hO
    go_simp
    exact hK.out _ _ (by rw [Vp8, upd_at] <;> (congr 1 <;> omega)) (.inr (.inr (Below.refl _ _))) (⟨fun h => hG.1 (upL_false h), fun h => hG.2.1 (upL_false h), hG.2.2⟩)
  case s9_p4 =>
    refine oweP rfl fun a wx val L hG hi hW hV hN hO K hK => ?_
    have e52 := hN 8 52 (by kernel_rfl) (by kernel_rfl) (by simp)
    have f52 := hV 8 (by kernel_rfl) (by kernel_rfl)
    rw [Vp8] at f52; rw [f52] at e52; clear f52
    clear hV hN hO
    obtain ⟨x0, x1, x2, x3, x4, x5, x6, x7⟩ := (hG.2.1 (hW 16 (by kernel_rfl))).rest
    go_simp
    exact hK.out _ _ (by rw [Vp9, upd_at] <;> (congr 1 <;> omega)) (.inr (.inr (Below.refl _ _))) (⟨fun h => hG.1 (upL_false h), fun h => hG.2.1 (upL_false h), hG.2.2⟩)
  case s10_p4 =>
    refine oweP rfl fun a wx val L hG hi hW hV hN hO K hK => ?_
    have e53 := hN 9 53 (by kernel_rfl) (by kernel_rfl) (by simp)
    have f53 := hV 9 (by kernel_rfl) (by kernel_rfl)
    rw [Vp9] at f53; rw [f53] at e53; clear f53
    clear hV hN hO
    go_simp
    have hb := Joins.below_alloc1 wx (.cells #[.bool e1, .int .i64 n1, .int .i64 s1, .int .i64 i1, .int .i64 q1, .int .i64 k1, .string d1] 26)
    exact hK.out _ _ (by rw [Vp10, upd_at]; exact ⟨_, rfl, MsgAt.new wx ⟨e1, n1, s1, i1, q1, k1, d1⟩⟩) (.inr (.inr hb)) (⟨fun h => (hG.1 (upL_false h)).on hb, fun h => (hG.2.1 (upL_false h)).on hb, Nat.le_trans hG.2.2.1 hb.size, hG.2.2.2.1.trans (hb.mono (Nat.le_trans (Nat.le_of_lt hbS) hG.2.2.1)), fun k hk hkb => (hb.block k (Nat.lt_of_lt_of_le hk hG.2.2.1)).trans (hG.2.2.2.2 k hk hkb)⟩)
  case s11_p4 =>
    refine oweP rfl fun a wx val L hG hi hW hV hN hO K hK => ?_
    have e54 := hN 10 54 (by kernel_rfl) (by kernel_rfl) (by simp)
    have f54 := hV 10 (by kernel_rfl) (by kernel_rfl)
    rw [Vp10] at f54; obtain ⟨g, hv, hgg⟩ := f54; rw [hv] at e54
    clear hV hN hO
    go_simp
    refine (fiOwned_any (some ⟨g, 0, none⟩) 1 [⟨e1, n1, s1, i1, q1, k1, d1⟩] _ (QIn.one hgg HD.out)).mono ?_
    rintro e w11 ⟨u6, rfl, ho6, hb⟩
    obtain ⟨A6, c6, hu6, _, hm6⟩ := ho6.row
    exact hK.out _ _ (by rw [Vp11, upd_at]; exact ⟨A6, c6, hu6, hm6⟩) (.inr (.inr hb)) (⟨fun h => (hG.1 (upL_false h)).on hb, fun h => (hG.2.1 (upL_false h)).on hb, Nat.le_trans hG.2.2.1 hb.size, hG.2.2.2.1.trans (hb.mono (Nat.le_trans (Nat.le_of_lt hbS) hG.2.2.1)), fun k hk hkb => (hb.block k (Nat.lt_of_lt_of_le hk hG.2.2.1)).trans (hG.2.2.2.2 k hk hkb)⟩)
  case s12_p4 =>
    refine oweP rfl fun a wx val L hG hi hW hV hN hO K hK => ?_
    have e49 := hN 5 49 (by kernel_rfl) (by kernel_rfl) (by simp)
    have f49 := hV 5 (by kernel_rfl) (by kernel_rfl)
    rw [Vp5] at f49; rw [f49] at e49; clear f49
    have e55 := hN 11 55 (by kernel_rfl) (by kernel_rfl) (by simp)
    have f55 := hV 11 (by kernel_rfl) (by kernel_rfl)
    rw [Vp11] at f55; obtain ⟨A6, c6, hv, hm6⟩ := f55; rw [hv] at e55
    clear hV hN hO
    have h9 := hG.1 hi
    refine wp_appM (.tmp 49) (.tmp 55) rfl S wx.heap.size _ l [⟨e1, n1, s1, i1, q1, k1, d1⟩] A6 c6 (by simp [Act.eval, e49]) (by simp [Act.eval, e55]) h9 hm6 hG.2.2.1 (by simp; omega) ?_
    intro u' w5 hown5 hg5
    have hb5 := OwnM.below h9 hg5 hG.2.2.1
    have hk5 := fun h => (hG.2.1 (upL_false (i := 12) h)).grown h9 hg5
    obtain ⟨A7, c7, hu7, _, _⟩ := hown5.row
    have hn7 : (l ++ [(⟨e1, n1, s1, i1, q1, k1, d1⟩ : Msg)]).length = l.length + 1 := (by simp)
    rw [hn7] at hu7
    subst hu7
    exact hK.out _ _ (by rw [Vp12, upd_at]; exact ⟨A7, c7, rfl, hown5⟩) (.inl rfl) ⟨fun h => (upL_self h).elim, hk5, Nat.le_trans hG.2.2.1 hb5.size, hG.2.2.2.1.trans (hb5.mono (Nat.le_of_lt hbS)), fun k hk hkb => (hb5.block k hk).trans (hG.2.2.2.2 k hk hkb)⟩
  case s13_p4 =>
    refine oweP rfl fun a wx val L hG hi hW hV hN hO K hK => ?_
    have e44 := hN 0 44 (by kernel_rfl) (by kernel_rfl) (by simp)
    have f44 := hV 0 (by kernel_rfl) (by kernel_rfl)
    rw [Vp0] at f44; rw [f44] at e44; clear f44
    clear hV hN hO
    go_simp
    exact hK.out _ _ (by rw [Vp13, upd_at] <;> (congr 1 <;> omega)) (.inr (.inr (Below.refl _ _))) (⟨fun h => hG.1 (upL_false h), fun h => hG.2.1 (upL_false h), hG.2.2⟩)
  case s14_p4 =>
    refine oweP rfl fun a wx val L hG hi hW hV hN hO K hK => ?_
    have e57 := hN 13 57 (by kernel_rfl) (by kernel_rfl) (by simp)
    have f57 := hV 13 (by kernel_rfl) (by kernel_rfl)
    rw [Vp13] at f57; rw [f57] at e57; clear f57
    clear hV hN hO
    go_simp
    exact hK.out _ _ (by rw [Vp14, upd_at] <;> (congr 1 <;> omega)) (.inr (.inr (Below.refl _ _))) (⟨fun h => hG.1 (upL_false h), fun h => hG.2.1 (upL_false h), hG.2.2⟩)
  case s15_p4 =>
    refine oweP rfl fun a wx val L hG hi hW hV hN hO K hK => ?_
    have e58 := hN 14 58 (by kernel_rfl) (by kernel_rfl) (by simp)
    have f58 := hV 14 (by kernel_rfl) (by kernel_rfl)
    rw [Vp14] at f58; rw [f58] at e58; clear f58
    clear hV hN hO
    go_simp
    exact hK.out _ _ (by rw [Vp15, upd_at] <;> (congr 1 <;> omega)) (.inr (.inr (Below.refl _ _))) (⟨fun h => hG.1 (upL_false h), fun h => hG.2.1 (upL_false h), hG.2.2⟩)
  case s16_p4 =>
    refine oweP rfl fun a wx val L hG hi hW hV hN hO K hK => ?_
    have e59 := hN 15 59 (by kernel_rfl) (by kernel_rfl) (by simp)
    have f59 := hV 15 (by kernel_rfl) (by kernel_rfl)
    rw [Vp15] at f59; rw [f59] at e59; clear f59
    have e56 := hN 12 56 (by kernel_rfl) (by kernel_rfl) (by simp)
    have f56 := hV 12 (by kernel_rfl) (by kernel_rfl)
    rw [Vp12] at f56; obtain ⟨A7, c7, hv, ho7⟩ := f56; rw [hv] at e56
    clear hV hN hO
    have hka := hG.2.1 hi
    obtain ⟨v0, v1, v2⟩ := hka.fifo
    have vf := hka.frozen
    have hn7 : (l ++ [(⟨e1, n1, s1, i1, q1, k1, d1⟩ : Msg)]).length = l.length + 1 := (by simp)
    have htt : QTold none S wx (l ++ [⟨e1, n1, s1, i1, q1, k1, d1⟩]) A7 c7 := QTold.ofOwn (by rw [hn7]; exact ho7)
    have hts := htt.apart (b := b) (i := 2) (ho7.far_keeper hka) (.slice A7 (l.length + 1) c7)
    have hbs := hG.2.2.2.1.setCell (p := ⟨b, 2, none⟩) (Nat.le_refl _) (.slice A7 (l.length + 1) c7)
    have hrs := fun k (hk : k < S) (hkb : k ≠ b) => (Below.heap_setCell wx ⟨b, 2, none⟩ (.slice A7 (l.length + 1) c7) k hkb).trans (hG.2.2.2.2 k hk hkb)
    have hss : S ≤ (wx.setCell ⟨b, 2, none⟩ (.slice A7 (l.length + 1) c7)).heap.size := (by rw [World.size_setCell]; exact hG.2.2.1)
    clear hn7
    go_simp
    exact hK.out undef _ (by rw [Vp16]; exact ⟨A7, c7, hka.list _, hts⟩) (.inr (.inl rfl)) ⟨fun h => OwnM.cell1 (hG.1 (upL_false h)) hbS _, fun h => (upL_self h).elim, hss, hbs, hrs⟩
  intro val wx L hG hV
  have f0 := hV 0 (by simp) (fun _ _ => by simp)
  rw [Vp0] at f0
  have f1 := hV 1 (by simp) (fun _ _ => by simp)
  rw [Vp1] at f1
  have f2 := hV 2 (by simp) (fun _ _ => by simp)
  rw [Vp2] at f2
  have f3 := hV 3 (by simp) (fun _ _ => by simp)
  rw [Vp3] at f3
  have f4 := hV 4 (by simp) (fun _ _ => by simp)
  rw [Vp4] at f4
  have f5 := hV 5 (by simp) (fun _ _ => by simp)
  rw [Vp5] at f5
  have f6 := hV 6 (by simp) (fun _ _ => by simp)
  rw [Vp6] at f6
  have f7 := hV 7 (by simp) (fun _ _ => by simp)
  rw [Vp7] at f7
  have f8 := hV 8 (by simp) (fun _ _ => by simp)
  rw [Vp8] at f8
  have f9 := hV 9 (by simp) (fun _ _ => by simp)
  rw [Vp9] at f9
  have f13 := hV 13 (by simp) (fun _ _ => by simp)
  rw [Vp13] at f13
  have f14 := hV 14 (by simp) (fun _ _ => by simp)
  rw [Vp14] at f14
  have f15 := hV 15 (by simp) (fun _ _ => by simp)
  rw [Vp15] at f15
  have f16 := hV 16 (by simp) (fun _ _ => by simp)
  rw [Vp16] at f16
  clear hV Vp0 Vp1 Vp2 Vp3 Vp4 Vp5 Vp6 Vp7 Vp8 Vp9 Vp10 Vp11 Vp12 Vp13 Vp14 Vp15 Vp16
  simp only [putAll, Act.put, List.setIfInBounds_toArray, List.set_cons_zero, List.set_cons_succ]
  generalize val 0 = z0 at *; (subst f0)
  generalize val 1 = z1 at *; (subst f1)
  generalize val 2 = z2 at *; (subst f2)
  generalize val 3 = z3 at *; (subst f3)
  generalize val 4 = z4 at *; (subst f4)
  generalize val 5 = z5 at *; (subst f5)
  generalize val 6 = z6 at *; (subst f6)
  generalize val 7 = z7 at *; (subst f7)
  generalize val 8 = z8 at *; (subst f8)
  generalize val 9 = z9 at *; (subst f9)
  generalize val 10 = z10 at *
  generalize val 11 = z11 at *
  generalize val 12 = z12 at *
  generalize val 13 = z13 at *; (subst f13)
  generalize val 14 = z14 at *; (subst f14)
  generalize val 15 = z15 at *; (subst f15)
  clear HVD
  obtain ⟨A7, c7, hka, ht⟩ := f16
  have HPP := Lib.hid (And.intro hka (And.intro ht hG.2.2.2))
  clear hka ht hG
  go_wp2_with fail
  exact bodyPost_ret (ii_res Tryd.results58 rfl rfl) rfl ⟨A7, c7, rfl, HPP.out⟩

end Go.Proofs.YtehajmockicilaaDoor

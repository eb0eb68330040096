/-
  Which slot a time is in, by the program: a goto to a label.
-/
import Derived.Test.YtmklabdfalkldaaSchTurn
import Derived.ScopeJumps
namespace Go.Proofs.Ytmklabdfalkldaa
open Go.RowKit

theorem seek_more {l : Pl} {k : Nat} {s : Int × Int} {x r : Int} (hs : l[k]? = some s) (hr : r < sumS l) (e : aheadS l k + x = r) (h : s.2 ≤ x) : k + 1 < l.length ∧ 0 ≤ x - s.2 ∧ aheadS l (k + 1) + (x - s.2) = r := by
  have hk := (List.getElem?_eq_some_iff.1 hs).1
  have ea := aheadS_succ l k s hs
  refine ⟨?_, by omega, by omega⟩
  rcases Nat.lt_or_ge (k + 1) l.length with h' | h'
  · exact h'
  · have e' : k + 1 = l.length := by omega
    rw [e', aheadS_all] at ea
    omega
theorem seek_here {l : Pl} (ht : Ticked l) {k : Nat} {s : Int × Int} {x r : Int} (hs : l[k]? = some s) (h0 : 0 ≤ x) (e : aheadS l k + x = r) (h : ¬ s.2 ≤ x) : seekS l r = (k, x) := by
  rw [← e]
  exact seekS_at l k s x ht hs h0 (by omega)

set_option maxRecDepth 100000 in
set_option maxHeartbeats 4000000 in
theorem seek_any (A : Option Addr) (cp : Nat) (c : Int) (l : Pl) (hR : rightS l c = true) (t : Int) (h0 : 0 ≤ t) (h1 : t ≤ maxT) (w : World) (hS : Sls w w.heap.size A l) :
    Calls Try.prog 35 #[pv A l.length cp c, .int .i64 t] w fun e w' => e = .returned (.tuple #[cx (t / sumS l) (seekS l (t % sumS l)).1, .int .i64 (seekS l (t % sumS l)).2]) ∧ Below w.heap.size w w' := by
  unfold maxT at h1
  have ht := rightS_ticked hR
  have hl := rightS_len hR
  have hsum := rightS_sum hR
  have hlm : l.length ≤ maxLen := by unfold maxLen; omega
  have hr0 : 0 ≤ t % sumS l := Int.emod_nonneg _ (by omega)
  have hr1 : t % sumS l < sumS l := Int.emod_lt_of_pos _ (by omega)
  have hB := Joins.below_alloc1 w (.cells #[.slice A l.length cp, .int .i64 c] 25)
  have hP := PlAt.new w A l.length cp c
  have hS0 := (hS.below hB (Nat.le_refl _)).more hB.size
  have er : roundS l c = sumS l := by unfold roundS; rw [hR, if_pos rfl]
  generalize hW : w.alloc (.cells #[.slice A l.length cp, .int .i64 c] 25) = W at *
  have C1 := Lib.hid (fun W' (hG : Below W.heap.size W W') => round_any A cp c l hlm W' ((hS0.below hG (Nat.le_refl _)).more hG.size))
  rw [er] at C1
  have CT := Lib.hid (fun (k : Nat) W' => turn_any (t / sumS l) (k : Int) W')
  have HB := Lib.hid hB; clear hB hS hlm er hR
  have HS0 := Lib.hid hS0; clear hS0
  have HP := Lib.hid hP; clear hP
  have HT := Lib.hid ht; clear ht
  have hr1' := hr1
  generalize hSS : sumS l = S at *
  have HSS := Lib.hid hSS
  clear hSS
  obtain ⟨s0, s1, -⟩ := hsum
  generalize hr : t % S = r at *
  generalize hq : t / S = q at *
  have HR := Lib.hid hr
  have HQ := Lib.hid hq
  have hl0 : 0 < l.length := by omega
  have eS : ¬ S = 0 := by omega
  have hq0 : 0 ≤ q := by rw [← hq]; exact Int.ediv_nonneg h0 (by omega)
  have hq1 : q ≤ t := by rw [← hq]; exact Int.ediv_le_self _ h0
  have e13 : IntKind.i64.wrap (t.tdiv S) = q := by rw [Int.tdiv_eq_ediv_of_nonneg h0, hq]; exact IntWalk.i64_in _ (by omega)
  have e17 : t.tmod S = r := by rw [Int.tmod_eq_emod_of_nonneg h0, hr]
  generalize hn : l.length = n at *
  have HN := Lib.hid hn
  clear hn
  generalize hg : w.heap.size = b at *
  go_enter Try.func35, Try.ntmps35
  go_wp2_with fail
  clear hW
  refine wp_scope_jumps 0 (fun a' w' => Below W.heap.size W w' ∧ ∃ (k : Nat) (x : Int) (u3 u9 u10 u11 u12 u13 u14 u15 u16 u17 u18 u19 u20 u21 u22 u23 u24 u25 u26 u27 u28 u29 u30 u31 u32 u33 u34 u35 : Value), a' = { tmps := #[pv A n cp c, .int .i64 t, .pointer (some ⟨b, 0, none⟩), u3, .complex .f64 0 0, .int .i64 0, .int .i64 q, .int .i64 x, .int .i64 (k : Int), u9, u10, u11, u12, u13, u14, u15, u16, u17, u18, u19, u20, u21, u22, u23, u24, u25, u26, u27, u28, u29, u30, u31, u32, u33, u34, u35], defers := [] } ∧ k < n ∧ 0 ≤ x ∧ aheadS l k + x = r) (fun a' _ => n - (intOf (a'.tmps.getD 8 undef)).toNat) rfl ?_ ?_
  rotate_left
  · rintro a' w' ⟨hbw, k, x, u3, u9, u10, u11, u12, u13, u14, u15, u16, u17, u18, u19, u20, u21, u22, u23, u24, u25, u26, u27, u28, u29, u30, u31, u32, u33, u34, u35, rfl, hk, hx, he⟩
    have HSL := Lib.hid (HS0.out.below hbw (by exact Nat.le_refl _))
    have HPC := Lib.hid (HP.out.on hbw)
    have HG := Lib.hid hbw
    clear hbw C1 HS0 HP hr1
    obtain ⟨s, hs⟩ : ∃ s, l[k]? = some s := ⟨_, List.getElem?_eq_getElem (by have := HN.out; omega)⟩
    obtain ⟨ad, rfl, hadb, hcc⟩ := HSL.out (by have := HN.out; omega)
    obtain ⟨x0, x1⟩ := hcc k s hs
    obtain ⟨y0, y1⟩ := HPC.out.cells
    clear hcc hadb
    have HSK := Lib.hid hs; clear hs
    have HE := Lib.hid he; clear he
    have hkI : (k : Int) < (n : Int) := by omega
    have hst : 1 ≤ s.2 ∧ s.2 ≤ 1000 := HT.out _ (List.mem_of_getElem? HSK.out)
    by_cases hle : s.2 ≤ x
    · have HM := Lib.hid (seek_more HSK.out (by rw [HSS.out]; exact hr1') HE.out hle)
      have hk1 : k + 1 < n := by have := HM.out.1; have := HN.out; omega
      have HM0 := HM.out.2.1
      have hxr : x ≤ r := by have := HE.out; have := (aheadS_bounds HT.out k (by have := HN.out; omega)).1; omega
      obtain ⟨s1', s2'⟩ := s
      simp only at *
      have er : IntKind.i64.wrap (x - s2') = x - s2' := IntWalk.i64_in _ (by omega)
      go_wp2
      go_step3
      have hkN : (k : Int) + 1 = ((k + 1 : Nat) : Int) := by omega
      rw [hkN]
      refine ⟨rfl, ⟨HG.out, k + 1, x - s2', _, _, _, _, _, _, _, _, _, _, _, _, _, _, _, _, _, _, _, _, _, _, _, _, _, _, _, _, rfl, hk1, HM0, HM.out.2.2⟩, ?_⟩
      simp [intOf]
      omega
    · have HM := Lib.hid (seek_here HT.out HSK.out hx HE.out hle)
      have ct := CT.out k
      obtain ⟨s1', s2'⟩ := s
      simp only at *
      go_wp2_with fail
      refine (ct _).mono ?_; rintro e w1 ⟨rfl, rfl⟩
      go_wp2_with fail
      simp only [Exit.jump]
      go_ret2
      exact ⟨by rw [HM.out]; rfl, HB.out.trans (HG.out.mono (by rw [← hg]; exact HB.out.size))⟩
  refine wp_seq_k ?_
  intro K1 hK1
  have HV : ∃ Vp : Nat → (Nat → Value) → World → Prop, Vp = (fun ix u wv => match ix with
    | 0 => u 0 = .int .i64 t
    | 1 => u 1 = .agg #[.slice A n cp, .int .i64 c]
    | 2 => u 2 = .int .i64 S
    | 3 => u 3 = .int .i64 q
    | 4 => u 4 = .int .i64 t
    | 5 => u 5 = .agg #[.slice A n cp, .int .i64 c]
    | 6 => u 6 = .int .i64 S
    | 7 => u 7 = .int .i64 r
    | 8 => u 8 = .int .i64 q
    | 9 => u 9 = .int .i64 r
    | 10 => u 10 = .int .i64 0
    | _ => True) := ⟨_, rfl⟩
  obtain ⟨Vp, hVdef⟩ := HV
  have Vp0 : ∀ u wv, Vp 0 u wv = (u 0 = .int .i64 t) := fun u wv => by subst hVdef; rfl
  have Vp1 : ∀ u wv, Vp 1 u wv = (u 1 = .agg #[.slice A n cp, .int .i64 c]) := fun u wv => by subst hVdef; rfl
  have Vp2 : ∀ u wv, Vp 2 u wv = (u 2 = .int .i64 S) := fun u wv => by subst hVdef; rfl
  have Vp3 : ∀ u wv, Vp 3 u wv = (u 3 = .int .i64 q) := fun u wv => by subst hVdef; rfl
  have Vp4 : ∀ u wv, Vp 4 u wv = (u 4 = .int .i64 t) := fun u wv => by subst hVdef; rfl
  have Vp5 : ∀ u wv, Vp 5 u wv = (u 5 = .agg #[.slice A n cp, .int .i64 c]) := fun u wv => by subst hVdef; rfl
  have Vp6 : ∀ u wv, Vp 6 u wv = (u 6 = .int .i64 S) := fun u wv => by subst hVdef; rfl
  have Vp7 : ∀ u wv, Vp 7 u wv = (u 7 = .int .i64 r) := fun u wv => by subst hVdef; rfl
  have Vp8 : ∀ u wv, Vp 8 u wv = (u 8 = .int .i64 q) := fun u wv => by subst hVdef; rfl
  have Vp9 : ∀ u wv, Vp 9 u wv = (u 9 = .int .i64 r) := fun u wv => by subst hVdef; rfl
  have Vp10 : ∀ u wv, Vp 10 u wv = (u 10 = .int .i64 0) := fun u wv => by subst hVdef; rfl
  have HVD := Lib.hid hVdef
  clear hVdef
  refine region_each (V := Vp) (drop := fun _ _ => false) (G := fun wv => Below W.heap.size W wv) (Rel := fun jx wv wv' => Below wv.heap.size wv wv') (by kernel_rfl) (by kernel_rfl) (Below.refl _ _).drew ?hmonoc1 ?hdepc1 ⟨?s0_c1, ?s1_c1, ?s2_c1, ?s3_c1, ?s4_c1, ?s5_c1, ?s6_c1, ?s7_c1, ?s8_c1, ?s9_c1, ?s10_c1, trivial⟩ ?behindc1
  case hmonoc1 =>
    intro ix jx u wv wv' hij hw hd hr
    rw [HVD.out]
    dsimp only
    split <;> intro h <;> first | exact trivial | exact h
  case hdepc1 =>
    intro ix u u' wv h1 h2
    rw [HVD.out]
    dsimp only
    split <;> intro h <;> first | exact trivial | (rw [← h1]; exact h)
  case s0_c1 =>
    refine owe rfl fun a wx val hG hV hN hO K hK => ?_
    have e1 : a.tmps[1]? = some (.int .i64 t) := (hO 1 (by kernel_rfl)).trans (by rfl)
    clear hV hN hO
    go_simp
    exact hK.out _ _ (by rw [Vp0, upd_at] <;> (congr 1 <;> omega)) (Below.refl _ _) hG
  case s1_c1 =>
    refine owe rfl fun a wx val hG hV hN hO K hK => ?_
    have e2 : a.tmps[2]? = some (.pointer (some ⟨b, 0, none⟩)) := (hO 2 (by kernel_rfl)).trans (by rfl)
    clear hV hN hO
    obtain ⟨y0, y1⟩ := (HP.out.on hG).cells
    go_simp
    exact hK.out _ _ (by rw [Vp1, upd_at] <;> (congr 1 <;> omega)) (Below.refl _ _) hG
  case s2_c1 =>
    refine owe rfl fun a wx val hG hV hN hO K hK => ?_
    have e11 := hN 1 11 (by kernel_rfl) (by kernel_rfl) (by simp)
    have f11 := hV 1 (by kernel_rfl) (by kernel_rfl)
    rw [Vp1] at f11; rw [f11] at e11; clear f11
    clear hV hN hO
    go_simp
    refine (C1.out _ hG).mono ?_
    rintro e w11 ⟨rfl, hb⟩
    exact hK.out _ _ (by rw [Vp2, upd_at]) hb (hG.trans (hb.mono hG.size))
  case s3_c1 =>
    refine owe rfl fun a wx val hG hV hN hO K hK => ?_
    have e10 := hN 0 10 (by kernel_rfl) (by kernel_rfl) (by simp)
    have f10 := hV 0 (by kernel_rfl) (by kernel_rfl)
    rw [Vp0] at f10; rw [f10] at e10; clear f10
    have e12 := hN 2 12 (by kernel_rfl) (by kernel_rfl) (by simp)
    have f12 := hV 2 (by kernel_rfl) (by kernel_rfl)
    rw [Vp2] at f12; rw [f12] at e12; clear f12
    clear hV hN hO
    go_simp
    exact hK.out _ _ (by rw [Vp3, upd_at] <;> (congr 1 <;> omega)) (Below.refl _ _) hG
  case s4_c1 =>
    refine owe rfl fun a wx val hG hV hN hO K hK => ?_
    have e1 : a.tmps[1]? = some (.int .i64 t) := (hO 1 (by kernel_rfl)).trans (by rfl)
    clear hV hN hO
    go_simp
    exact hK.out _ _ (by rw [Vp4, upd_at] <;> (congr 1 <;> omega)) (Below.refl _ _) hG
  case s5_c1 =>
    refine owe rfl fun a wx val hG hV hN hO K hK => ?_
    have e2 : a.tmps[2]? = some (.pointer (some ⟨b, 0, none⟩)) := (hO 2 (by kernel_rfl)).trans (by rfl)
    clear hV hN hO
    obtain ⟨y0, y1⟩ := (HP.out.on hG).cells
    go_simp
    exact hK.out _ _ (by rw [Vp5, upd_at] <;> (congr 1 <;> omega)) (Below.refl _ _) hG
  case s6_c1 =>
    refine owe rfl fun a wx val hG hV hN hO K hK => ?_
    have e15 := hN 5 15 (by kernel_rfl) (by kernel_rfl) (by simp)
    have f15 := hV 5 (by kernel_rfl) (by kernel_rfl)
    rw [Vp5] at f15; rw [f15] at e15; clear f15
    clear hV hN hO
    go_simp
    refine (C1.out _ hG).mono ?_
    rintro e w11 ⟨rfl, hb⟩
    exact hK.out _ _ (by rw [Vp6, upd_at]) hb (hG.trans (hb.mono hG.size))
  case s7_c1 =>
    refine owe rfl fun a wx val hG hV hN hO K hK => ?_
    have e14 := hN 4 14 (by kernel_rfl) (by kernel_rfl) (by simp)
    have f14 := hV 4 (by kernel_rfl) (by kernel_rfl)
    rw [Vp4] at f14; rw [f14] at e14; clear f14
    have e16 := hN 6 16 (by kernel_rfl) (by kernel_rfl) (by simp)
    have f16 := hV 6 (by kernel_rfl) (by kernel_rfl)
    rw [Vp6] at f16; rw [f16] at e16; clear f16
    clear hV hN hO
    go_simp
    exact hK.out _ _ (by rw [Vp7, upd_at] <;> (congr 1 <;> omega)) (Below.refl _ _) hG
  case s8_c1 =>
    refine owe rfl fun a wx val hG hV hN hO K hK => ?_
    have e13 := hN 3 13 (by kernel_rfl) (by kernel_rfl) (by simp)
    have f13 := hV 3 (by kernel_rfl) (by kernel_rfl)
    rw [Vp3] at f13; rw [f13] at e13; clear f13
    clear hV hN hO
    go_simp
    exact hK.out _ _ (by rw [Vp8, upd_at] <;> (congr 1 <;> omega)) (Below.refl _ _) hG
  case s9_c1 =>
    refine owe rfl fun a wx val hG hV hN hO K hK => ?_
    have e17 := hN 7 17 (by kernel_rfl) (by kernel_rfl) (by simp)
    have f17 := hV 7 (by kernel_rfl) (by kernel_rfl)
    rw [Vp7] at f17; rw [f17] at e17; clear f17
    clear hV hN hO
    go_simp
    exact hK.out _ _ (by rw [Vp9, upd_at] <;> (congr 1 <;> omega)) (Below.refl _ _) hG
  case s10_c1 =>
    refine owe rfl fun a wx val hG hV hN hO K hK => ?_
    clear hV hN hO
    go_simp
    exact hK.out _ _ (by rw [Vp10, upd_at] <;> (congr 1 <;> omega)) (Below.refl _ _) hG
  intro val wx hG hV
  have f0 := hV 0 (by simp) (fun _ _ => by rfl)
  rw [Vp0] at f0
  have f1 := hV 1 (by simp) (fun _ _ => by rfl)
  rw [Vp1] at f1
  have f2 := hV 2 (by simp) (fun _ _ => by rfl)
  rw [Vp2] at f2
  have f3 := hV 3 (by simp) (fun _ _ => by rfl)
  rw [Vp3] at f3
  have f4 := hV 4 (by simp) (fun _ _ => by rfl)
  rw [Vp4] at f4
  have f5 := hV 5 (by simp) (fun _ _ => by rfl)
  rw [Vp5] at f5
  have f6 := hV 6 (by simp) (fun _ _ => by rfl)
  rw [Vp6] at f6
  have f7 := hV 7 (by simp) (fun _ _ => by rfl)
  rw [Vp7] at f7
  have f8 := hV 8 (by simp) (fun _ _ => by rfl)
  rw [Vp8] at f8
  have f9 := hV 9 (by simp) (fun _ _ => by rfl)
  rw [Vp9] at f9
  have f10 := hV 10 (by simp) (fun _ _ => by rfl)
  rw [Vp10] at f10
  clear hV Vp0 Vp1 Vp2 Vp3 Vp4 Vp5 Vp6 Vp7 Vp8 Vp9 Vp10
  simp only [putAll, Act.put, List.setIfInBounds_toArray, List.set_cons_zero, List.set_cons_succ]
  generalize val 0 = z0 at *; (subst f0)
  generalize val 1 = z1 at *; (subst f1)
  generalize val 2 = z2 at *; (subst f2)
  generalize val 3 = z3 at *; (subst f3)
  generalize val 4 = z4 at *; (subst f4)
  generalize val 5 = z5 at *; (subst f5)
  generalize val 6 = z6 at *; (subst f6)
  generalize val 7 = z7 at *; (subst f7)
  generalize val 8 = z8 at *; (subst f8)
  generalize val 9 = z9 at *; (subst f9)
  generalize val 10 = z10 at *; (subst f10)
  clear HVD
  have HG := Lib.hid hG
  have HSL := Lib.hid (HS0.out.below hG (by exact Nat.le_refl _))
  have HPC := Lib.hid (HP.out.on hG)
  clear hG C1 HS0 HP hq hr
  obtain ⟨s, hs⟩ : ∃ s, l[0]? = some s := ⟨_, List.getElem?_eq_getElem (by have := HN.out; omega)⟩
  obtain ⟨ad, rfl, hadb, hcc⟩ := HSL.out (by have := HN.out; omega)
  obtain ⟨x0, x1⟩ := hcc 0 s hs
  rw [show ad.add (0 * 2) = ad from by unfold Addr.add; rfl] at x0 x1
  obtain ⟨y0, y1⟩ := HPC.out.cells
  clear hcc hadb
  have HSK := Lib.hid hs; clear hs
  have hlz : (0 : Int) < (n : Int) := by omega
  have hne : l ≠ [] := List.ne_nil_of_length_pos (by have := HN.out; omega)
  go_wp2_with fail
  go_step3
  have hst : 1 ≤ s.2 ∧ s.2 ≤ 1000 := HT.out _ (List.mem_of_getElem? HSK.out)
  by_cases hle : s.2 ≤ r
  · have HM := Lib.hid (seek_more HSK.out (by rw [HSS.out]; exact hr1') (show aheadS l 0 + r = r by rw [aheadS_zero]; omega) hle)
    obtain ⟨s1', s2'⟩ := s
    simp only at *
    have er : IntKind.i64.wrap (r - s2') = r - s2' := IntWalk.i64_in _ (by omega)
    go_wp2
    go_step3
    exact ⟨rfl, HG.out, 1, r - s2', _, _, _, _, _, _, _, _, _, _, _, _, _, _, _, _, _, _, _, _, _, _, _, _, _, _, _, _, rfl, by have := HM.out.1; have := HN.out; omega, HM.out.2.1, HM.out.2.2⟩
  · have HM := Lib.hid (seek_here HT.out HSK.out hr0 (show aheadS l 0 + r = r by rw [aheadS_zero]; omega) hle)
    have ct := CT.out 0
    obtain ⟨s1', s2'⟩ := s
    simp only at *
    go_wp2_with fail
    refine (ct _).mono ?_; rintro e w1 ⟨rfl, rfl⟩
    go_wp2_with fail
    simp only [Exit.jump]
    go_ret2
    exact ⟨by rw [HM.out]; rfl, HB.out.trans (HG.out.mono (by rw [← hg]; exact HB.out.size))⟩
end Go.Proofs.Ytmklabdfalkldaa

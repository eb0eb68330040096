/-
  What the laws' own Plan makes of raw numbers, and that it may be.
-/
import Derived.Test.YtmklabdfalkldaaSchOwn
import Derived.Test.YtmklabdfalkldaaVecPick
import Derived.Deep.CutBlock
import Derived.Deep.DeepCutAuto
namespace Go.Proofs.Ytmklabdfalkldaa
open Go.RowKit

theorem mod_two {x n : Int} (h0 : 0 ≤ x) (h1 : x < 2 * n) : x % n = if x < n then x else x - n := by
  split
  · exact Int.emod_eq_of_lt h0 (by omega)
  · have e : x = (x - n) + 1 * n := by omega
    rw [e, Int.add_mul_emod_self_right, Int.emod_eq_of_lt (by omega) (by omega)]
    omega

/-- The slot at a place of a raw plan. -/
def tickK (ks : List Int) (i : Nat) : Int := if 0 < ks.length then 1 + pickI (ks.getD (i % ks.length) 0) 1000 else 1
def slotP (n : Nat) (T : Int) (ks : List Int) (i : Nat) : Int × Int := (((i : Int) + T) % (n : Int), tickK ks i)
def planL (n : Nat) (T : Int) (ks : List Int) (k : Nat) : Pl := (List.range k).map (slotP n T ks)
theorem planL_length (n : Nat) (T : Int) (ks : List Int) (k : Nat) : (planL n T ks k).length = k := by unfold planL; simp
theorem planL_succ (n : Nat) (T : Int) (ks : List Int) (k : Nat) : planL n T ks (k + 1) = planL n T ks k ++ [slotP n T ks k] := by unfold planL; rw [List.range_succ, List.map_append]; rfl
theorem planL_at (n : Nat) (T : Int) (ks : List Int) (k i : Nat) (h : i < k) : (planL n T ks k)[i]? = some (slotP n T ks i) := by
  unfold planL; rw [List.getElem?_map, List.getElem?_range h]; rfl
theorem tickK_range (ks : List Int) (i : Nat) : 1 ≤ tickK ks i ∧ tickK ks i ≤ 1000 := by
  unfold tickK
  split
  · have := pickI_range (ks.getD (i % ks.length) 0) 1000 (by omega); omega
  · omega
theorem node_of (n : Nat) (T : Int) (i : Nat) (hi : i < n) (h0 : 0 ≤ T) (h1 : T < n) : ((i : Int) + T) % (n : Int) = if (i : Int) + T < n then (i : Int) + T else (i : Int) + T - n := mod_two (by omega) (by omega)
theorem planL_nodes (n : Nat) (T : Int) (ks : List Int) (k : Nat) (hk : k ≤ n) (h0 : 0 ≤ T) (h1 : T < n) : ((planL n T ks k).map Prod.fst).Pairwise (· ≠ ·) := by
  unfold planL
  rw [List.map_map, List.pairwise_map]
  refine List.Pairwise.imp_of_mem ?_ (List.pairwise_lt_range (n := k))
  intro a b ha hb hab
  have ha := List.mem_range.1 ha
  have hb := List.mem_range.1 hb
  show ((a : Int) + T) % (n : Int) ≠ ((b : Int) + T) % (n : Int)
  rw [node_of n T a (by omega) h0 h1, node_of n T b (by omega) h0 h1]
  split <;> split <;> omega
theorem planL_right {n : Nat} {T C : Int} (ks : List Int) (h2 : 2 ≤ n) (h16 : n ≤ 16) (h0 : 0 ≤ T) (h1 : T < n) (hC : 1 ≤ C ∧ C ≤ 64) : rightS (planL n T ks n) C = true := by
  rw [rightS_each, planL_length]
  refine ⟨⟨h2, h16⟩, hC, fun s hs => ?_, fun s hs => ?_, planL_nodes n T ks n (Nat.le_refl _) h0 h1⟩
  · obtain ⟨i, hi, rfl⟩ := List.mem_map.1 hs
    exact tickK_range ks i
  · obtain ⟨i, hi, rfl⟩ := List.mem_map.1 hs
    have hi := List.mem_range.1 hi
    show 0 ≤ ((i : Int) + T) % (n : Int) ∧ ((i : Int) + T) % (n : Int) ≤ 15
    rw [node_of n T i hi h0 h1]
    split <;> omega

set_option maxRecDepth 100000 in
theorem pick8_any (c n : Int) (hc : (Lit.int .i64 c).wf = true) (hn : 0 < n) (w : World) :
    Calls Try.prog 17 #[.int .i64 c, .int .i64 n] w fun e w' => e = .returned (.int .i64 (pickI c n)) ∧ w = w' := by
  by_cases h : c < 0
  · have hv := Lib.hid (pick_neg_value c n hc h)
    have HC := Lib.hid hc; clear hc
    go_enter Try.func17, Try.ntmps17
    go_wp2
    go_ret
    exact ⟨congrArg (fun n => Ending.returned (.int .i64 n)) hv.out, rfl⟩
  · have hv := Lib.hid (pick_pos_value c n h)
    have h0 : 0 ≤ c := by omega
    have HC := Lib.hid hc; clear hc
    go_enter Try.func17, Try.ntmps17
    go_wp2
    go_ret
    exact ⟨congrArg (fun n => Ending.returned (.int .i64 n)) hv.out, rfl⟩

/-- What 'Plan' tells. -/
def PlanPost (l : Pl) (C : Int) (w : World) (e : Ending) (w' : World) : Prop :=
  ∃ A c, e = .returned (pv A l.length c C) ∧ OwnL w' w.heap.size (.slice A l.length c) l ∧ Below w.heap.size w w'

set_option maxRecDepth 100000 in
set_option maxHeartbeats 8000000 in
theorem plan_any (many turn cyc : Int) (k0 : (Lit.int .i64 many).wf = true) (k1 : (Lit.int .i64 turn).wf = true) (k2 : (Lit.int .i64 cyc).wf = true) (A : Option Addr) (cp : Nat) (ks : List Int) (w : World)
    (h : Row w w.heap.size A ks) (hkl : ks.length ≤ maxLen) (hwk : ∀ x ∈ ks, (Lit.int .i64 x).wf = true) (n : Nat) (T C : Int) (hn : (n : Int) = 2 + pickI many 15) (hT : pickI turn n = T) (hC : 1 + pickI cyc 64 = C) :
    Calls Try.prog 10 #[.int .i64 many, .slice A ks.length cp, .int .i64 turn, .int .i64 cyc] w (PlanPost (planL n T ks n) C w) := by
  unfold maxLen at hkl
  have r1 := pickI_range many 15 (by omega)
  have hn2 : 2 ≤ n := by omega
  have hn16 : n ≤ 16 := by omega
  have c1 := fun W => pick8_any many 15 k0 (by omega) W
  have c2 := fun W => pick8_any turn n k1 (by omega) W
  have c3 := fun W => pick8_any cyc 64 k2 (by omega) W
  have r2 := pickI_range turn n (by omega)
  have r3 := pickI_range cyc 64 (by omega)
  rw [hT] at c2 r2
  have g1 : IntKind.i64.wrap (2 + pickI many 15) = (n : Int) := by rw [IntWalk.i64_in _ (by omega)]; exact hn.symm
  have g3 : IntKind.i64.wrap (1 + pickI cyc 64) = C := by rw [IntWalk.i64_in _ (by omega)]; exact hC
  generalize pickI many 15 = p0 at *
  generalize pickI cyc 64 = p3 at *
  have C2 := Lib.hid c2; clear c2
  have C3 := Lib.hid c3; clear c3
  have HI := Lib.hid h; clear h
  have HWK := Lib.hid hwk; clear hwk
  have HL := Lib.hid (planL_length n T ks n)
  have G3 := Lib.hid g3; clear g3
  clear k0 k1 k2 hn hT hC r1 r3
  have bb := Joins.below_alloc2 w (.cells #[.slice none 0 0, .int .i64 0] 25) (.cells #[.slice none 0 0, .int .i64 0] 25)
  have hr := (PlAt.new w none 0 0 0).on (Joins.below_alloc1 _ (.cells #[.slice none 0 0, .int .i64 0] 25))
  have hp := PlAt.new (w.alloc (.cells #[.slice none 0 0, .int .i64 0] 25)) none 0 0 0
  rw [World.size_alloc] at hp
  go_enter Try.func10, Try.ntmps10
  go_wp2_with fail; refine (c1 _).mono ?_; rintro e w1 ⟨rfl, rfl⟩
  clear c1
  go_wp2_with fail
  generalize hW0 : (w.alloc (.cells #[.slice none 0 0, .int .i64 0] 25)).alloc (.cells #[.slice none 0 0, .int .i64 0] 25) = W0 at *
  clear hW0 g1
  have hlt : w.heap.size + 1 < W0.heap.size := (Array.getElem?_eq_some_iff.1 hp).1
  have HR := Lib.hid hr; clear hr
  have HB := Lib.hid bb; clear bb
  have HP0 := Lib.hid hp; clear hp
  obtain ⟨b0, hb0⟩ : ∃ b0, w.heap.size = b0 := ⟨_, rfl⟩
  rw [hb0] at hlt HR HP0 ⊢
  have HB0 := Lib.hid hb0; clear hb0
  go_loopw [11, 12] (fun ix _ wr => ∃ (k : Nat) (A1 : Option Addr) (m1 c1 : Nat), k ≤ n ∧ ix = .int .i64 k ∧ m1 = k ∧ PlAt wr (b0 + 1) A1 m1 c1 0 ∧ OwnL wr W0.heap.size (.slice A1 m1 c1) (planL n T ks k) ∧ Touch (fun x => x = b0 + 1) W0 wr) (fun ix _ _ => n - (intOf ix).toNat)
  case atStart => exact ⟨0, none, 0, 0, by omega, rfl, rfl, HP0.out, OwnL.nil _ _, Touch.refl _ _⟩
  case round =>
  obtain ⟨k, A1, m1, c1, hk, rfl, hm1, he, ho, ht⟩ := hrel
  have HNK := Lib.hid hm1; clear hm1
  have HJE := Lib.hid he; clear he
  have HJO := Lib.hid ho; clear ho
  have HJT := Lib.hid ht; clear ht
  clear HP0
  by_cases hkl2 : (k : Int) < n
  · have hbw : Below w.heap.size w wr := HB.out.trans (HJT.out.below w.heap.size (HB.out.size) (fun j hj => by have := HB0.out; omega))
    have HBW := Lib.hid hbw; clear hbw
    obtain ⟨TK, hTK⟩ : ∃ TK, tickK ks k = TK := ⟨_, rfl⟩
    have hEq : slotP n T ks k = (((k : Int) + T) % (n : Int), TK) := by unfold slotP; rw [hTK]
    have HNX : Hid (planL n T ks (k + 1) = planL n T ks k ++ [(((k : Int) + T) % (n : Int), TK)]) := Lib.hid (by rw [planL_succ, hEq])
    clear hEq
    go_upto_if 23 with fail
    go_cut [12] (fun s wx => s = .int .i64 TK ∧ wx = wr)
    case first =>
      by_cases h0 : 0 < ks.length
      · have h0' : (0 : Int) < ks.length := by omega
        obtain ⟨x, hx⟩ : ∃ x, ks[k % ks.length]? = some x := ⟨_, List.getElem?_eq_getElem (Nat.mod_lt _ h0)⟩
        have hiv : 1 + pickI x 1000 = TK := by rw [← hTK]; unfold tickK; rw [if_pos h0, List.getD_eq_getElem?_getD, hx]; rfl
        have r4 := pickI_range x 1000 (by omega)
        have cpx := fun W => pick8_any x 1000 (HWK.out x (List.mem_of_getElem? hx)) (by omega) W
        obtain ⟨adi, rfl, -, hac⟩ := (HI.out.below HBW.out (Nat.le_refl _)) h0
        have hxc := hac _ x hx
        have hq : (k : Int) % (ks.length : Int) = ((k % ks.length : Nat) : Int) := (Int.natCast_emod _ _).symm
        have hql : ((k % ks.length : Nat) : Int) < ks.length := by have := Nat.mod_lt k h0; omega
        have hq0 : (0 : Int) ≤ ((k % ks.length : Nat) : Int) := by omega
        have g5 : IntKind.i64.wrap (1 + pickI x 1000) = TK := by rw [IntWalk.i64_in _ (by omega)]; exact hiv
        generalize pickI x 1000 = px at *
        have hne : ¬ (ks.length : Int) = 0 := by omega
        clear hx hac hiv hTK
        generalize k % ks.length = kq at *
        go_wp2_with fail; refine (cpx _).mono ?_; rintro e w4 ⟨rfl, rfl⟩
        go_wp2_with fail
        go_meet
        exact ⟨rfl, rfl⟩
      · have h0' : ¬ (0 : Int) < ks.length := by omega
        have hiv : (1 : Int) = TK := by rw [← hTK]; unfold tickK; rw [if_neg h0]
        subst hiv
        go_wp2_with fail
        go_meet
        exact ⟨rfl, rfl⟩
    case rest =>
    obtain ⟨rfl, rfl⟩ := hcut
    have hlk := planL_length n T ks k
    have HLN : Hid ((planL n T ks (k + 1)).length = m1 + 1) := Lib.hid (by rw [planL_length, HNK.out])
    have hLM : (planL n T ks k).length + [(((k : Int) + T) % (n : Int), TK)].length ≤ 1000 := by rw [hlk]; simp; omega
    have HLM := Lib.hid hLM; clear hLM hlk
    have hw1 : IntKind.i64.wrap ((k : Int) + T) = (k : Int) + T := IntWalk.i64_in _ (by omega)
    have HW1 := Lib.hid (And.intro hw1 (show ((k : Int) + T).tmod (n : Int) = ((k : Int) + T) % (n : Int) from Int.tmod_eq_emod_of_nonneg (by omega)))
    clear hw1 hTK
    have hNP : (n : Int) ≠ 0 := by omega
    have HNP := Lib.hid hNP; clear hNP
    generalize hND : ((k : Int) + T) % (n : Int) = ND at *
    clear hND
    go_wp2_with fail
    have HV : ∃ Vp : Nat → (Nat → Value) → World → Prop, Vp = (fun ix u wv => match ix with
      | 0 => u 0 = .pointer (some ⟨b0 + 1, 0, none⟩)
      | 1 => u 1 = .slice A1 m1 c1
      | 2 => u 2 = .int .i64 (k : Int)
      | 3 => u 3 = .int .i64 turn
      | 4 => u 4 = .int .i64 (n : Int)
      | 5 => u 5 = .int .i64 T
      | 6 => u 6 = .int .i64 ((k : Int) + T)
      | 7 => u 7 = .int .i64 (n : Int)
      | 8 => u 8 = .int .i64 ND
      | 9 => u 9 = .int .i64 TK
      | 10 => u 10 = .agg #[.int .i64 ND, .int .i64 TK]
      | 11 => ∃ g, u 11 = .slice (some ⟨g, 0, none⟩) 1 1 ∧ Sls wv wv.heap.size (some ⟨g, 0, none⟩) [(ND, TK)]
      | 12 => ∃ A9 c9, u 12 = .slice A9 (m1 + 1) c9 ∧ OwnL wv W0.heap.size (.slice A9 (m1 + 1) c9) (planL n T ks (k + 1))
      | 13 => u 13 = .pointer (some ⟨b0 + 1, 0, none⟩)
      | 14 => ∃ A9 c9, PlAt wv (b0 + 1) A9 (m1 + 1) c9 0 ∧ OwnL wv W0.heap.size (.slice A9 (m1 + 1) c9) (planL n T ks (k + 1))
      | _ => True) := ⟨_, rfl⟩
    obtain ⟨Vp, hVdef⟩ := HV
    have Vp0 : ∀ u wv, Vp 0 u wv = (u 0 = .pointer (some ⟨b0 + 1, 0, none⟩)) := fun u wv => by subst hVdef; rfl
    have Vp1 : ∀ u wv, Vp 1 u wv = (u 1 = .slice A1 m1 c1) := fun u wv => by subst hVdef; rfl
    have Vp2 : ∀ u wv, Vp 2 u wv = (u 2 = .int .i64 (k : Int)) := fun u wv => by subst hVdef; rfl
    have Vp3 : ∀ u wv, Vp 3 u wv = (u 3 = .int .i64 turn) := fun u wv => by subst hVdef; rfl
    have Vp4 : ∀ u wv, Vp 4 u wv = (u 4 = .int .i64 (n : Int)) := fun u wv => by subst hVdef; rfl
    have Vp5 : ∀ u wv, Vp 5 u wv = (u 5 = .int .i64 T) := fun u wv => by subst hVdef; rfl
    have Vp6 : ∀ u wv, Vp 6 u wv = (u 6 = .int .i64 ((k : Int) + T)) := fun u wv => by subst hVdef; rfl
    have Vp7 : ∀ u wv, Vp 7 u wv = (u 7 = .int .i64 (n : Int)) := fun u wv => by subst hVdef; rfl
    have Vp8 : ∀ u wv, Vp 8 u wv = (u 8 = .int .i64 ND) := fun u wv => by subst hVdef; rfl
    have Vp9 : ∀ u wv, Vp 9 u wv = (u 9 = .int .i64 TK) := fun u wv => by subst hVdef; rfl
    have Vp10 : ∀ u wv, Vp 10 u wv = (u 10 = .agg #[.int .i64 ND, .int .i64 TK]) := fun u wv => by subst hVdef; rfl
    have Vp11 : ∀ u wv, Vp 11 u wv = (∃ g, u 11 = .slice (some ⟨g, 0, none⟩) 1 1 ∧ Sls wv wv.heap.size (some ⟨g, 0, none⟩) [(ND, TK)]) := fun u wv => by subst hVdef; rfl
    have Vp12 : ∀ u wv, Vp 12 u wv = (∃ A9 c9, u 12 = .slice A9 (m1 + 1) c9 ∧ OwnL wv W0.heap.size (.slice A9 (m1 + 1) c9) (planL n T ks (k + 1))) := fun u wv => by subst hVdef; rfl
    have Vp13 : ∀ u wv, Vp 13 u wv = (u 13 = .pointer (some ⟨b0 + 1, 0, none⟩)) := fun u wv => by subst hVdef; rfl
    have Vp14 : ∀ u wv, Vp 14 u wv = (∃ A9 c9, PlAt wv (b0 + 1) A9 (m1 + 1) c9 0 ∧ OwnL wv W0.heap.size (.slice A9 (m1 + 1) c9) (planL n T ks (k + 1))) := fun u wv => by subst hVdef; rfl
    have HVD := Lib.hid hVdef
    clear hVdef
    refine region_phase (V := Vp) (drop := fun jx ix => (jx == 12 && ix == 11) || (jx == 14 && ix == 11) || (jx == 14 && ix == 12)) (G := fun L wv => (L 14 = false → L 12 = false → Below wc.heap.size wc wv) ∧ (L 14 = false → PlAt wv (b0 + 1) A1 m1 c1 0) ∧ Touch (fun x => x = b0 + 1) W0 wv) (Rel := fun jx wv wv' => jx = 12 ∨ jx = 14 ∨ Below wv.heap.size wv wv') (by kernel_rfl) (by kernel_rfl) ⟨fun _ _ => (Below.refl _ _).drew, fun _ => HJE.out.on (Below.refl _ _).drew, HJT.out.trans (Touch.of (Below.refl _ _).drew)⟩ ?hmonop1 ?hdepp1 ⟨?s0_p1, ?s1_p1, ?s2_p1, ?s3_p1, ?s4_p1, ?s5_p1, ?s6_p1, ?s7_p1, ?s8_p1, ?s9_p1, ?s10_p1, ?s11_p1, ?s12_p1, ?s13_p1, ?s14_p1, trivial⟩ ?behindp1
    case hmonop1 =>
      intro ix jx u wv wv' hij hw hd hr
      rw [HVD.out]
      dsimp only
      split <;> intro h <;> first | exact trivial | exact h | (rcases hr with rfl | rfl | hb; (focus first | exact absurd rfl hij | (simp at hd; done) | (exact Bool.noConfusion (hw.symm.trans (show _ = true from by kernel_rfl)))); (focus first | exact absurd rfl hij | (simp at hd; done) | (exact Bool.noConfusion (hw.symm.trans (show _ = true from by kernel_rfl)))); (first | (obtain ⟨g, e, hg⟩ := h; exact ⟨g, e, (hg.on hb).more hb.size⟩) | (obtain ⟨A9, c9, e, hg⟩ := h; first | exact ⟨A9, c9, e, ownsRow_on hg hb⟩ | exact ⟨A9, c9, e.on hb, ownsRow_on hg hb⟩)))
    case hdepp1 =>
      intro ix u u' wv h1 h2
      rw [HVD.out]
      dsimp only
      split <;> intro h <;> first | exact trivial | (rw [← h1]; exact h) | exact h
    case s0_p1 =>
      refine oweP rfl fun a wx val L hG hi hW hV hN hO K hK => ?_
      have e10 : a.tmps[10]? = some (.pointer (some ⟨b0 + 1, 0, none⟩)) := (hO 10 (by kernel_rfl)).trans (by rfl)
      clear hV hN hO
      go_simp
      exact hK.out _ _ (by rw [Vp0, upd_at] <;> (congr 1 <;> omega)) (.inr (.inr (Below.refl _ _))) (⟨fun h h9 => hG.1 (upL_false h) (upL_false h9), fun h => hG.2.1 (upL_false h), hG.2.2⟩)
    case s1_p1 =>
      refine oweP rfl fun a wx val L hG hi hW hV hN hO K hK => ?_
      have e33 := hN 0 33 (by kernel_rfl) (by kernel_rfl) (by simp)
      have f33 := hV 0 (by kernel_rfl) (by kernel_rfl)
      rw [Vp0] at f33; rw [f33] at e33; clear f33
      clear hV hN hO
      have he := hG.2.1 (hW 14 (by kernel_rfl))
      obtain ⟨y0, y1⟩ := he.cells
      go_simp
      exact hK.out _ _ (by rw [Vp1, upd_at] <;> (congr 1 <;> omega)) (.inr (.inr (Below.refl _ _))) (⟨fun h h9 => hG.1 (upL_false h) (upL_false h9), fun h => hG.2.1 (upL_false h), hG.2.2⟩)
    case s2_p1 =>
      refine oweP rfl fun a wx val L hG hi hW hV hN hO K hK => ?_
      have e11 : a.tmps[11]? = some (.int .i64 (k : Int)) := (hO 11 (by kernel_rfl)).trans (by rfl)
      clear hV hN hO
      go_simp
      exact hK.out _ _ (by rw [Vp2, upd_at] <;> (congr 1 <;> omega)) (.inr (.inr (Below.refl _ _))) (⟨fun h h9 => hG.1 (upL_false h) (upL_false h9), fun h => hG.2.1 (upL_false h), hG.2.2⟩)
    case s3_p1 =>
      refine oweP rfl fun a wx val L hG hi hW hV hN hO K hK => ?_
      have e2 : a.tmps[2]? = some (.int .i64 turn) := (hO 2 (by kernel_rfl)).trans (by rfl)
      clear hV hN hO
      go_simp
      exact hK.out _ _ (by rw [Vp3, upd_at] <;> (congr 1 <;> omega)) (.inr (.inr (Below.refl _ _))) (⟨fun h h9 => hG.1 (upL_false h) (upL_false h9), fun h => hG.2.1 (upL_false h), hG.2.2⟩)
    case s4_p1 =>
      refine oweP rfl fun a wx val L hG hi hW hV hN hO K hK => ?_
      have e9 : a.tmps[9]? = some (.int .i64 (n : Int)) := (hO 9 (by kernel_rfl)).trans (by rfl)
      clear hV hN hO
      go_simp
      exact hK.out _ _ (by rw [Vp4, upd_at] <;> (congr 1 <;> omega)) (.inr (.inr (Below.refl _ _))) (⟨fun h h9 => hG.1 (upL_false h) (upL_false h9), fun h => hG.2.1 (upL_false h), hG.2.2⟩)
    case s5_p1 =>
      refine oweP rfl fun a wx val L hG hi hW hV hN hO K hK => ?_
      have e36 := hN 3 36 (by kernel_rfl) (by kernel_rfl) (by simp)
      have f36 := hV 3 (by kernel_rfl) (by kernel_rfl)
      rw [Vp3] at f36; rw [f36] at e36; clear f36
      have e37 := hN 4 37 (by kernel_rfl) (by kernel_rfl) (by simp)
      have f37 := hV 4 (by kernel_rfl) (by kernel_rfl)
      rw [Vp4] at f37; rw [f37] at e37; clear f37
      clear hV hN hO
      go_simp
      refine (C2.out _).mono ?_
      rintro e w11 ⟨rfl, rfl⟩
      exact hK.out _ _ (by rw [Vp5, upd_at]) (.inr (.inr (Below.refl _ _))) (⟨fun h h9 => hG.1 (upL_false h) (upL_false h9), fun h => hG.2.1 (upL_false h), hG.2.2⟩)
    case s6_p1 =>
      refine oweP rfl fun a wx val L hG hi hW hV hN hO K hK => ?_
      have e35 := hN 2 35 (by kernel_rfl) (by kernel_rfl) (by simp)
      have f35 := hV 2 (by kernel_rfl) (by kernel_rfl)
      rw [Vp2] at f35; rw [f35] at e35; clear f35
      have e38 := hN 5 38 (by kernel_rfl) (by kernel_rfl) (by simp)
      have f38 := hV 5 (by kernel_rfl) (by kernel_rfl)
      rw [Vp5] at f38; rw [f38] at e38; clear f38
      clear hV hN hO
      have q1 := HW1.out.1
      go_simp
      exact hK.out _ _ (by rw [Vp6, upd_at] <;> (congr 1 <;> omega)) (.inr (.inr (Below.refl _ _))) (⟨fun h h9 => hG.1 (upL_false h) (upL_false h9), fun h => hG.2.1 (upL_false h), hG.2.2⟩)
    case s7_p1 =>
      refine oweP rfl fun a wx val L hG hi hW hV hN hO K hK => ?_
      have e9 : a.tmps[9]? = some (.int .i64 (n : Int)) := (hO 9 (by kernel_rfl)).trans (by rfl)
      clear hV hN hO
      go_simp
      exact hK.out _ _ (by rw [Vp7, upd_at] <;> (congr 1 <;> omega)) (.inr (.inr (Below.refl _ _))) (⟨fun h h9 => hG.1 (upL_false h) (upL_false h9), fun h => hG.2.1 (upL_false h), hG.2.2⟩)
    case s8_p1 =>
      refine oweP rfl fun a wx val L hG hi hW hV hN hO K hK => ?_
      have e39 := hN 6 39 (by kernel_rfl) (by kernel_rfl) (by simp)
      have f39 := hV 6 (by kernel_rfl) (by kernel_rfl)
      rw [Vp6] at f39; rw [f39] at e39; clear f39
      have e40 := hN 7 40 (by kernel_rfl) (by kernel_rfl) (by simp)
      have f40 := hV 7 (by kernel_rfl) (by kernel_rfl)
      rw [Vp7] at f40; rw [f40] at e40; clear f40
      clear hV hN hO
      have q1 := HW1.out.2
      have q2 : ¬ n = 0 := fun e => HNP.out (by omega)
      go_simp
      exact hK.out _ _ (by rw [Vp8, upd_at] <;> (congr 1 <;> omega)) (.inr (.inr (Below.refl _ _))) (⟨fun h h9 => hG.1 (upL_false h) (upL_false h9), fun h => hG.2.1 (upL_false h), hG.2.2⟩)
    case s9_p1 =>
      refine oweP rfl fun a wx val L hG hi hW hV hN hO K hK => ?_
      have e12 : a.tmps[12]? = some (.int .i64 TK) := (hO 12 (by kernel_rfl)).trans (by rfl)
      clear hV hN hO
      go_simp
      exact hK.out _ _ (by rw [Vp9, upd_at] <;> (congr 1 <;> omega)) (.inr (.inr (Below.refl _ _))) (⟨fun h h9 => hG.1 (upL_false h) (upL_false h9), fun h => hG.2.1 (upL_false h), hG.2.2⟩)
    case s10_p1 =>
      refine oweP rfl fun a wx val L hG hi hW hV hN hO K hK => ?_
      have e41 := hN 8 41 (by kernel_rfl) (by kernel_rfl) (by simp)
      have f41 := hV 8 (by kernel_rfl) (by kernel_rfl)
      rw [Vp8] at f41; rw [f41] at e41; clear f41
      have e42 := hN 9 42 (by kernel_rfl) (by kernel_rfl) (by simp)
      have f42 := hV 9 (by kernel_rfl) (by kernel_rfl)
      rw [Vp9] at f42; rw [f42] at e42; clear f42
      clear hV hN hO
      go_simp
      exact hK.out _ _ (by rw [Vp10, upd_at] <;> (congr 1 <;> omega)) (.inr (.inr (Below.refl _ _))) (⟨fun h h9 => hG.1 (upL_false h) (upL_false h9), fun h => hG.2.1 (upL_false h), hG.2.2⟩)
    case s11_p1 =>
      refine oweP rfl fun a wx val L hG hi hW hV hN hO K hK => ?_
      have e43 := hN 10 43 (by kernel_rfl) (by kernel_rfl) (by simp)
      have f43 := hV 10 (by kernel_rfl) (by kernel_rfl)
      rw [Vp10] at f43; rw [f43] at e43; clear f43
      clear hV hN hO
      go_simp
      have hb := Joins.below_alloc1 wx (.cells #[.int .i64 ND, .int .i64 TK] 45)
      exact hK.out _ _ (by rw [Vp11, upd_at]; exact ⟨_, rfl, Sls.one (s := (ND, TK)) (heap_alloc_new wx _)⟩) (.inr (.inr hb)) (⟨fun h h9 => (hG.1 (upL_false h) (upL_false h9)).trans (hb.mono (hG.1 (upL_false h) (upL_false h9)).size), fun h => (hG.2.1 (upL_false h)).on hb, hG.2.2.trans (Touch.of hb)⟩)
    case s12_p1 =>
      refine oweP rfl fun a wx val L hG hi hW hV hN hO K hK => ?_
      have e34 := hN 1 34 (by kernel_rfl) (by kernel_rfl) (by simp)
      have f34 := hV 1 (by kernel_rfl) (by kernel_rfl)
      rw [Vp1] at f34; rw [f34] at e34; clear f34
      have e44 := hN 11 44 (by kernel_rfl) (by kernel_rfl) (by simp)
      have f44 := hV 11 (by kernel_rfl) (by kernel_rfl)
      rw [Vp11] at f44; obtain ⟨g, hv, hgg⟩ := f44; rw [hv] at e44
      clear hV hN hO
      have hb0 := hG.1 (hW 14 (by kernel_rfl)) hi
      have hEn := hG.2.1 (hW 14 (by kernel_rfl))
      have ho := ownsRow_on HJO.out hb0
      refine wp_appL (.tmp 34) (.tmp 44) rfl W0.heap.size wx.heap.size (.slice A1 m1 c1) (planL n T ks k) [(ND, TK)] (some ⟨g, 0, none⟩) 1 (by simp [Act.eval, e34]) (by simp [Act.eval, e44]) ho hgg (by simp) hG.2.2.size HLM.out ?_
      intro u' w5 hown5 hg5
      rw [← HNX.out] at hown5
      obtain ⟨A9, c9, rfl, -, -⟩ := hown5.row
      rw [HLN.out] at hown5 ⊢
      exact hK.out _ _ (by rw [Vp12, upd_at]; exact ⟨A9, c9, rfl, hown5⟩) (.inl rfl) ⟨fun _ h => (upL_self h).elim, fun h => hEn.grown hg5 (own_apart ho hEn (by decide)), hG.2.2.grown hg5 (fun g e => (World.ownsRow.lt ho g e).1)⟩
    case s13_p1 =>
      refine oweP rfl fun a wx val L hG hi hW hV hN hO K hK => ?_
      have e10 : a.tmps[10]? = some (.pointer (some ⟨b0 + 1, 0, none⟩)) := (hO 10 (by kernel_rfl)).trans (by rfl)
      clear hV hN hO
      go_simp
      exact hK.out _ _ (by rw [Vp13, upd_at] <;> (congr 1 <;> omega)) (.inr (.inr (Below.refl _ _))) (⟨fun h h9 => hG.1 (upL_false h) (upL_false h9), fun h => hG.2.1 (upL_false h), hG.2.2⟩)
    case s14_p1 =>
      refine oweP rfl fun a wx val L hG hi hW hV hN hO K hK => ?_
      have e46 := hN 13 46 (by kernel_rfl) (by kernel_rfl) (by simp)
      have f46 := hV 13 (by kernel_rfl) (by kernel_rfl)
      rw [Vp13] at f46; rw [f46] at e46; clear f46
      have e45 := hN 12 45 (by kernel_rfl) (by kernel_rfl) (by simp)
      have f45 := hV 12 (by kernel_rfl) (by kernel_rfl)
      rw [Vp12] at f45; obtain ⟨A9, c9, hv, hoo⟩ := f45; rw [hv] at e45
      clear hV hN hO
      have hEn := hG.2.1 hi
      obtain ⟨y0, y1⟩ := hEn.cells
      have hf := hEn.frozen 0
      go_simp
      exact hK.out undef (wx.setCell ⟨b0 + 1, 0, none⟩ (.slice A9 (m1 + 1) c9)) (by rw [Vp14]; exact ⟨A9, c9, hEn.set0 _ _ _, own_far hoo (fun g hg => Below.heap_setCell _ _ _ _ (own_apart hoo hEn (by decide) g hg))⟩) (.inr (.inl rfl)) ⟨fun h => (upL_self h).elim, fun h => (upL_self h).elim, hG.2.2.setCell ⟨b0 + 1, 0, none⟩ rfl _⟩
    intro val wx L hG hV
    have f0 := hV 0 (by simp) (fun _ _ => by simp)
    rw [Vp0] at f0
    have f1 := hV 1 (by simp) (fun _ _ => by simp)
    rw [Vp1] at f1
    have f2 := hV 2 (by simp) (fun _ _ => by simp)
    rw [Vp2] at f2
    have f3 := hV 3 (by simp) (fun _ _ => by simp)
    rw [Vp3] at f3
    have f4 := hV 4 (by simp) (fun _ _ => by simp)
    rw [Vp4] at f4
    have f5 := hV 5 (by simp) (fun _ _ => by simp)
    rw [Vp5] at f5
    have f6 := hV 6 (by simp) (fun _ _ => by simp)
    rw [Vp6] at f6
    have f7 := hV 7 (by simp) (fun _ _ => by simp)
    rw [Vp7] at f7
    have f8 := hV 8 (by simp) (fun _ _ => by simp)
    rw [Vp8] at f8
    have f9 := hV 9 (by simp) (fun _ _ => by simp)
    rw [Vp9] at f9
    have f10 := hV 10 (by simp) (fun _ _ => by simp)
    rw [Vp10] at f10
    have f13 := hV 13 (by simp) (fun _ _ => by simp)
    rw [Vp13] at f13
    have f14 := hV 14 (by simp) (fun _ _ => by simp)
    rw [Vp14] at f14
    clear hV Vp0 Vp1 Vp2 Vp3 Vp4 Vp5 Vp6 Vp7 Vp8 Vp9 Vp10 Vp11 Vp12 Vp13 Vp14
    simp only [putAll, Act.put, List.setIfInBounds_toArray, List.set_cons_zero, List.set_cons_succ]
    generalize val 0 = z0 at *; (subst f0)
    generalize val 1 = z1 at *; (subst f1)
    generalize val 2 = z2 at *; (subst f2)
    generalize val 3 = z3 at *; (subst f3)
    generalize val 4 = z4 at *; (subst f4)
    generalize val 5 = z5 at *; (subst f5)
    generalize val 6 = z6 at *; (subst f6)
    generalize val 7 = z7 at *; (subst f7)
    generalize val 8 = z8 at *; (subst f8)
    generalize val 9 = z9 at *; (subst f9)
    generalize val 10 = z10 at *; (subst f10)
    generalize val 11 = z11 at *
    generalize val 12 = z12 at *
    generalize val 13 = z13 at *; (subst f13)
    clear HVD
    obtain ⟨A9, c9, he9, ho9⟩ := f14
    have HT9 := Lib.hid hG.2.2
    have HNN2 : Hid (m1 + 1 = k + 1) := Lib.hid (by have := HNK.out; omega)
    clear hG HJE HJO HJT HW1 HNX HLM HLN
    have qj : IntKind.i64.wrap ((k : Int) + 1) = (k : Int) + 1 := IntWalk.i64_in _ (by omega)
    have HE9 := Lib.hid he9; clear he9
    have HO9 := Lib.hid ho9; clear ho9
    go_wp2_with fail
    go_roundw
    case rel => exact ⟨k + 1, A9, m1 + 1, c9, by omega, by go_num, HNN2.out, HE9.out, HO9.out, HT9.out⟩
    case measure => simp [intOf]; omega
  · have ekn : k = n := by omega
    have hm1 : m1 = n := by have := HNK.out; omega
    subst ekn
    subst hm1
    clear HNK
    obtain ⟨y0, y1⟩ := HJE.out.cells
    have hf := HJE.out.frozen 1
    go_wp2_with fail; refine (C3.out _).mono ?_; rintro e w4 ⟨rfl, rfl⟩
    have g3 := G3.out
    go_upto_region 11 with fail
    have hpp := HJE.out.set1 C
    have hoo : OwnL (wr.setCell ⟨b0 + 1, 1, none⟩ (.int .i64 C)) W0.heap.size (.slice A1 m1 c1) (planL m1 T ks m1) := own_far HJO.out (fun g hg => Below.heap_setCell _ _ _ _ (own_apart HJO.out HJE.out (by decide) g hg))
    have htt := HJT.out.setCell ⟨b0 + 1, 1, none⟩ rfl (.int .i64 C)
    generalize hV : wr.setCell ⟨b0 + 1, 1, none⟩ (.int .i64 C) = W1 at *
    clear hV y0 y1 hf
    have hrr : PlAt W1 b0 none 0 0 0 := (htt.block b0 (by omega) (by omega)).trans HR.out
    obtain ⟨y0, y1⟩ := hpp.cells
    obtain ⟨x0, x1⟩ := hrr.cells
    have hf0 := hrr.frozen 0
    have hf1 := hrr.frozen 1
    have hq1 := (hrr.set0 A1 m1 c1).set1 C
    have hoq : OwnL ((W1.setCell ⟨b0, 0, none⟩ (.slice A1 m1 c1)).setCell ⟨b0, 1, none⟩ (.int .i64 C)) W0.heap.size (.slice A1 m1 c1) (planL m1 T ks m1) := own_far hoo (fun g hg => (Below.heap_setCell _ _ _ _ (own_apart hoo hrr (by decide) g hg)).trans (Below.heap_setCell _ _ _ _ (own_apart hoo hrr (by decide) g hg)))
    have hbl : Below b0 w ((W1.setCell ⟨b0, 0, none⟩ (.slice A1 m1 c1)).setCell ⟨b0, 1, none⟩ (.int .i64 C)) := by
      have h1 := HB.out.trans (htt.below w.heap.size HB.out.size (fun j hj => by have := HB0.out; omega))
      rw [HB0.out] at h1
      exact (h1.setCell (p := ⟨b0, 0, none⟩) (Nat.le_refl _) _).setCell (p := ⟨b0, 1, none⟩) (Nat.le_refl _) _
    have HQ1 := Lib.hid hq1
    have HOQ := Lib.hid hoq
    have HBL := Lib.hid hbl
    have hw0 := HB.out.size
    rw [HB0.out] at hw0
    clear hq1 hoq hbl HJE HJO HJT hoo htt
    go_wp2_with fail
    generalize (W1.setCell ⟨b0, 0, none⟩ (.slice A1 m1 c1)).setCell ⟨b0, 1, none⟩ (.int .i64 C) = V at *
    obtain ⟨q0, q1⟩ := HQ1.out.cells
    exact bodyPost_ret (v := pv A1 m1 c1 C) (by simp [results, Try.results10, go_sem, q0, q1]) rfl ⟨A1, c1, by rw [HL.out], by rw [HL.out, HB0.out]; exact own_more HOQ.out (by have := HB.out.size; omega), by rw [HB0.out]; exact HBL.out⟩

end Go.Proofs.Ytmklabdfalkldaa

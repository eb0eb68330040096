/-
  The law CliqueAlive.
-/
import Derived.Test.YtplnmkeopdmanaaCliCounts
namespace Go.Proofs.Ytplnmkeopdmanaa
open Go.RowKit

theorem alive_range (p : Int) (ps : List Pd) : 0 ≤ aliveI p ps ∧ aliveI p ps < 65536 := by
  suffices h : ∀ (ps : List Pd) (v : Int), 0 ≤ v ∧ v < 65536 → 0 ≤ ps.foldl (fun v (x : Pd) => if inB 0 p x.2 then withI v x.1 else v) v ∧ ps.foldl (fun v (x : Pd) => if inB 0 p x.2 then withI v x.1 else v) v < 65536 from h ps 0 ⟨by omega, by omega⟩
  intro ps
  induction ps with
  | nil => exact fun v h => h
  | cons x ps ih =>
    intro v hv
    refine ih _ ?_
    dsimp only
    split
    · exact withI_range _ _
    · exact hv
theorem alive_take (p : Int) (l : List Int) (hl : l.length ≤ 16) (i : Nat) (hi : i < 16) : ∀ k, k ≤ l.length → (md (aliveI p ((placed l).take k))).testBit i = (decide (i < k) && inB 0 p (l.getD i 0))
  | 0, _ => by
    rw [List.take_zero]
    have e : md (aliveI p []) = 0 := rfl
    rw [e, Nat.zero_testBit]; simp
  | k + 1, hk => by
    have hx : l[k]? = some (l.getD k 0) := by rw [List.getD_eq_getElem?_getD, List.getElem?_eq_getElem (by omega)]; rfl
    rw [placed_take l k _ hx, alive_snoc]
    have ih := alive_take p l hl i hi k (by omega)
    by_cases e : i = k
    · subst e
      have n1 : nodeB (i : Int) = true := nodeB_nat i hi
      cases hin : inB 0 p (l.getD i 0)
      · rw [if_neg (by simp), ih]; simp
      · rw [if_pos rfl, md_with _ _ i hi, n1, ih]; simp
    · have e2 : decide (i < k + 1) = decide (i < k) := by rw [decide_eq_decide]; omega
      rw [e2]
      split
      · rw [md_with _ _ i hi, ih]
        have : decide (i = ((k : Int)).toNat) = false := by simp; exact e
        simp only [this, Bool.and_false, Bool.or_false]
      · exact ih
theorem alive_bits (p : Int) (l : List Int) (hl : l.length ≤ 16) (i : Nat) (hi : i < 16) : (md (aliveI p (placed l))).testBit i = (decide (i < l.length) && inB 0 p (l.getD i 0)) := by
  have := alive_take p l hl i hi l.length (Nat.le_refl _)
  rwa [List.take_of_length_le (by rw [placed_length]; exact Nat.le_refl _)] at this
theorem and_sub (a b : Int) (ha : 0 ≤ a ∧ a < 65536) (hb : 0 ≤ b ∧ b < 65536) (h : ∀ i, i < 16 → (md a).testBit i = true → (md b).testBit i = true) : bits .and .i64 a b = a := by
  have e : b = ((md b : Nat) : Int) := (md_of b hb.1 hb.2).symm
  rw [e, and_low a _ (md_lt b)]
  have e2 : md a &&& md b = md a := by
    refine vec_ext _ _ (and_lt _ _ (md_lt b)) (md_lt a) fun i hi => ?_
    rw [Nat.testBit_and]
    cases h1 : (md a).testBit i
    · rfl
    · rw [h i hi h1]; rfl
  rw [e2, md_of a ha.1 ha.2]
theorem ages_at (h : Int) (l : List Int) (i : Nat) (hi : i < l.length) : (agesL h (placed l)).getD i 0 = ageV h (i, l.getD i 0) := by
  have hx : l[i]? = some (l.getD i 0) := by rw [List.getD_eq_getElem?_getD, List.getElem?_eq_getElem hi]; rfl
  have := placed_at l i _ hx
  unfold agesL
  rw [List.getD_eq_getElem?_getD, List.getElem?_map, this]; rfl
theorem ages_len (h : Int) (l : List Int) : (agesL h (placed l)).length = l.length := by rw [ages_length, placed_length]

/-- Ages that a law draws. -/
def Low (l : List Int) : Prop := l.length ≤ 16 ∧ ∀ x ∈ l, 0 ≤ x ∧ x < 12
theorem low_at {l : List Int} (h : Low l) {i : Nat} (hi : i < l.length) : 0 ≤ l.getD i 0 ∧ l.getD i 0 < 12 := by
  rw [List.getD_eq_getElem?_getD, List.getElem?_eq_getElem hi]
  exact h.2 _ (List.getElem_mem hi)
theorem alive_ab {l : List Int} (h : Low l) {p q : Int} (hpq : p ≤ q) : bits .and .i64 (aliveI p (placed l)) (aliveI q (placed l)) = aliveI p (placed l) := by
  refine and_sub _ _ (alive_range _ _) (alive_range _ _) fun i hi => ?_
  rw [alive_bits p l h.1 i hi, alive_bits q l h.1 i hi, Bool.and_eq_true, Bool.and_eq_true, inB_iff, inB_iff]
  rintro ⟨h1, h2, h3⟩
  exact ⟨h1, h2, by omega⟩
theorem alive_bc {l : List Int} (h : Low l) (q : Int) : bits .and .i64 (aliveI q (placed l)) (aliveI q (placed (agesL 0 (placed l)))) = aliveI q (placed (agesL 0 (placed l))) := by
  have hl : (agesL 0 (placed l)).length ≤ 16 := by rw [ages_len]; exact h.1
  have e : bits .and .i64 (aliveI q (placed (agesL 0 (placed l)))) (aliveI q (placed l)) = aliveI q (placed (agesL 0 (placed l))) := by
    refine and_sub _ _ (alive_range _ _) (alive_range _ _) fun i hi => ?_
    rw [alive_bits q _ hl i hi, alive_bits q l h.1 i hi, ages_len, Bool.and_eq_true, Bool.and_eq_true, decide_eq_true_eq]
    rintro ⟨h1, h2⟩
    have hw := low_at h h1
    rw [ages_at 0 l i h1] at h2
    have hz : ageV 0 (i, l.getD i 0) = l.getD i 0 + 1 := by
      unfold ageV
      rw [if_neg (by unfold hasB; rw [show md 0 = 0 from rfl, Nat.zero_testBit]; simp), olderI_small _ hw.1 (by omega)]
    rw [hz, inB_iff] at h2
    exact ⟨h1, (inB_iff _ _ _).2 ⟨hw.1, by omega⟩⟩
  have hc : ∀ a b : Int, 0 ≤ a ∧ a < 65536 → 0 ≤ b ∧ b < 65536 → bits .and .i64 a b = bits .and .i64 b a := by
    intro a b ha hb
    rw [← md_of a ha.1 ha.2, ← md_of b hb.1 hb.2, and_low _ _ (md_lt b), and_low _ _ (md_lt a), md_nat _ (md_lt a), md_nat _ (md_lt b), Nat.and_comm]
  rw [hc _ _ (alive_range _ _) (alive_range _ _), e]
theorem alive_all {l : List Int} (hl : l.length ≤ 16) (q : Int) (h : ∀ i, i < l.length → 0 ≤ l.getD i 0 ∧ l.getD i 0 ≤ q) : aliveI q (placed l) = allI l.length := by
  refine vecI_ext _ _ (alive_range _ _).1 (alive_range _ _).2 (allI_range _).1 (allI_range _).2 fun i hi => ?_
  rw [alive_bits q l hl i hi, md_all _ i hi]
  by_cases h1 : i < l.length
  · rw [(inB_iff 0 q _).2 (h i h1)]; simp
  · simp; intro h2; omega
theorem alive_d {l : List Int} (h : Low l) : aliveI 0 (placed (agesL 65535 (placed l))) = allI l.length := by
  have e := alive_all (l := agesL 65535 (placed l)) (by rw [ages_len]; exact h.1) 0 (fun i hi => by
    rw [ages_len] at hi
    rw [ages_at _ l i hi]
    unfold ageV
    rw [full_has, nodeB_nat i (by have := h.1; omega), if_pos rfl]; omega)
  rwa [ages_len] at e
theorem alive_e {l : List Int} (h : Low l) : aliveI 12 (placed l) = allI l.length := alive_all h.1 12 fun i hi => by have := low_at h hi; omega

def drawL (l : List Int) (k : Nat) : List Int := (l.take k).map fun x => pickI x 12
theorem draw_succ (l : List Int) (k : Nat) (x : Int) (hx : l[k]? = some x) : drawL l (k + 1) = drawL l k ++ [pickI x 12] := by
  obtain ⟨hk, he⟩ := List.getElem?_eq_some_iff.1 hx
  unfold drawL
  rw [List.take_succ_eq_append_getElem hk, he, List.map_append]; rfl
theorem draw_length (l : List Int) (k : Nat) (hk : k ≤ l.length) : (drawL l k).length = k := by unfold drawL; rw [List.length_map, List.length_take]; omega
theorem draw_low (l : List Int) (k : Nat) (hk : k ≤ l.length) (h16 : k ≤ 16) : Low (drawL l k) := by
  refine ⟨by rw [draw_length l k hk]; exact h16, fun x hx => ?_⟩
  unfold drawL at hx
  obtain ⟨y, _, rfl⟩ := List.mem_map.1 hx
  exact pickI_range y 12 (by omega)

/-- The laws' contracts of Alive and Ages at a list of at most sixteen. -/
theorem alive16_any (p : Int) (A : Option Addr) (c : Nat) (l : List Int) (hl : l.length ≤ 16) (w : World) (hr : Row w w.heap.size A l) :
    Calls Try.prog 17 #[.int .i64 p, .slice A l.length c] w fun e w' => e = .returned (.int .i64 (aliveI p (placed l))) ∧ Below w.heap.size w w' := by
  have h := alive_any p A c l (by unfold maxLen; omega) w hr
  rwa [List.take_of_length_le hl] at h
theorem ages16_any (h : Int) (A : Option Addr) (c : Nat) (l : List Int) (hl : l.length ≤ 16) (w : World) (hr : Row w w.heap.size A l) :
    Calls Try.prog 16 #[.int .i64 h, .slice A l.length c] w fun e w' => ∃ A' c', e = .returned (.slice A' l.length c') ∧ Row w' w'.heap.size A' (agesL h (placed l)) ∧ Below w.heap.size w w' := by
  have h9 := ages_any h A c l (by unfold maxLen; omega) w hr
  rw [List.take_of_length_le hl] at h9
  refine h9.mono ?_
  rintro e w' ⟨u, rfl, hu, hb⟩
  obtain ⟨A', c', rfl, _, hr'⟩ := Row.of_own hu
  exact ⟨A', c', by rw [ages_len], hr', hb⟩

set_option maxRecDepth 100000 in
set_option maxHeartbeats 4000000 in
theorem cliqueAlive_walk (A : Option Addr) (c : Nat) (l : List Int) (a1 a2 : Int) (w1 : (Lit.int .i64 a1).wf = true) (w2 : (Lit.int .i64 a2).wf = true) (w : World) (f : IntsOk w A c l) :
    Calls Try.prog 7 #[.slice A l.length c, .int .i64 a1, .int .i64 a2] w fun e w' => e = .returned (.bool true) ∧ Below w.heap.size w w' := by
  obtain ⟨i0, hi0, hz0, hz1, hz2⟩ := info_parts int_info
  have hlm : l.length ≤ maxLen := by have := f.len; omega
  unfold maxLen at hlm
  have FR := Lib.hid f.row
  have FW := Lib.hid f.wf
  clear f
  have AW := Lib.hid (fun W => awake_any W)
  have p1 := Lib.hid (fun W => pick_any a1 12 w1 (by omega) W)
  have p2 := Lib.hid (fun W => pick_any a2 12 w2 (by omega) W)
  generalize pickI a1 12 = m at *
  generalize pickI a2 12 = n at *
  go_enter Try.func7, Try.ntmps7
  go_wp2_with fail
  (with_reducible refine (AW.out _).mono ?_); rintro e v1 ⟨rfl, hb⟩
  have HB := Lib.hid hb; clear hb
  go_wp2_with fail
  generalize hBB : v1.heap.size = B at *
  have hBw : w.heap.size ≤ B := by rw [← hBB]; exact HB.out.size
  have HV0 : Hid (B ≤ v1.heap.size) := Lib.hid (by omega)
  clear hBB
  go_loopw [8, 9] (fun u i wr => ∃ j : Nat, j ≤ l.length ∧ j ≤ 16 ∧ i = .int .i64 j ∧ wr.ownsRow B 3 1 u (drawL l j).length ((drawL l j).map (Value.int .i64)) ∧ Below w.heap.size w wr ∧ B ≤ wr.heap.size) (fun _ i _ => 16 - (intOf i).toNat)
  case atStart => exact ⟨0, by omega, by omega, rfl, World.ownsRow_nil _ _ _ _, HB.out, HV0.out⟩
  case round =>
    obtain ⟨j, hj, hj16, rfl, hrow, hb, hB9⟩ := hrel
    have HB9 := Lib.hid hb; clear hb
    clear HB
    by_cases hlt : j < l.length ∧ j < 16
    · obtain ⟨hlt1, hlt2⟩ := hlt
      have i1 : (j : Int) < (l.length : Int) := by omega
      have i2 : (j : Int) < 16 := by omega
      obtain ⟨x, hx⟩ : ∃ x, l[j]? = some x := ⟨_, List.getElem?_eq_getElem hlt1⟩
      obtain ⟨ad, rfl, hadb, hcc⟩ := (FR.out.below HB9.out (Nat.le_refl _)) (by omega)
      have x0 := hcc j x hx
      have px := Lib.hid (fun W => pick_any x 12 (FW.out _ (List.mem_of_getElem? hx)) (by omega) W)
      have HS := Lib.hid (draw_succ l j x hx)
      have hdl := draw_length l j hj
      generalize drawL l j = D at *
      generalize pickI x 12 = X at *
      have HDL := Lib.hid hdl
      clear hcc hx hdl
      go_wp2_with fail
      (with_reducible refine (px.out _).mono ?_); rintro e u1 ⟨rfl, rfl⟩
      go_wp2_with (at_builtin; refine wpList_append_own _ rfl _ _ 30 rfl B 3 i0 (.int .i64 0) 1 8 Try.underlying30 hi0 hz0 hz1 hz2 rfl (by decide) _ _ _ rfl (hrow.alloc _) ⟨wr.heap.size, 0, none⟩ 1 1 [.int .i64 X] rfl rfl (cell_one_new _ _ _) (by simp [Value.oneCell']) (by have := HDL.out; simp only [maxLen]; omega) (by have := HDL.out; omega) (by simp; omega) ?_; intro v' w3 hown' hgrow3 hnil3)
      have hb3 := (HB9.out.alloc HB9.out.size (.cells #[.int .i64 X] 3)).grown hgrow3 (by simp; omega) (fun g e' => Nat.le_trans hBw (hrow.lt g e').1)
      have hB3 : B ≤ w3.heap.size := by have := hgrow3.size; rw [World.size_alloc] at this; omega
      have HB3 := Lib.hid hb3; clear hb3
      go_roundw
      case rel => exact ⟨j + 1, by omega, by omega, by go_num, by rw [HS.out, List.length_append, List.map_append]; exact hown', HB3.out, hB3⟩
      case measure => simp [intOf]; omega
    · have hL := draw_low l j hj hj16
      obtain ⟨A2, c2, rfl, hc, hU⟩ := Row.of_own hrow
      generalize drawL l j = D at *
      have HLO := Lib.hid hL
      have hD16 : D.length ≤ 16 := hL.1
      clear hrow hc
      have e4 := alive_d hL
      have e5 := alive_e hL
      have kA := Lib.hid (fun p W (hb : Below wr.heap.size wr W) => alive16_any p A2 c2 D hD16 W (Row.more (hU.below hb (Nat.le_refl _)) hb.size))
      have kG := Lib.hid (fun h W (hb : Below wr.heap.size wr W) => ages16_any h A2 c2 D hD16 W (Row.more (hU.below hb (Nat.le_refl _)) hb.size))
      have kH := Lib.hid (fun h p A c W (hr : Row W W.heap.size A (agesL h (placed D))) => alive16_any p A c (agesL h (placed D)) (by rw [ages_len]; exact hD16) W hr)
      have kL := Lib.hid (fun W => refAll_any (D.length : Int) W)
      have HB0 := Lib.hid (Below.refl wr.heap.size wr)
      clear hL hU
      by_cases hj1 : j < l.length
      · have i1 : (j : Int) < (l.length : Int) := by omega
        have i2 : ¬ (j : Int) < 16 := by omega
        rcases Int.lt_trichotomy n m with hmn | hmn | hmn
        · have hmn2 : ¬ m ≤ n := by omega
          have e1 := alive_ab HLO.out (p := n) (q := m) (by omega)
          have e2 := alive_bc HLO.out m
          have cA := Lib.hid (fun W hb => kA.out n W hb); have cB := Lib.hid (fun W hb => kA.out m W hb)
          have cC := Lib.hid (fun A c W hr => kH.out 0 m A c W hr)
          have cD := Lib.hid (fun A c W hr => kH.out 65535 0 A c W hr)
          have cE := Lib.hid (fun W hb => kA.out 12 W hb)
          simp only [e4, e5, ages_len] at cC cD cE
          clear e4 e5 kA kH
          generalize hva : aliveI n (placed D) = va at *
          generalize hvb : aliveI m (placed D) = vb at *
          generalize hvc : aliveI m (placed (agesL 0 (placed D))) = vc at *
          clear hva hvb hvc HLO
          go_wp2_with fail
          (with_reducible refine (p1.out _).mono ?_); rintro e u1 ⟨rfl, rfl⟩
          go_wp2_with fail
          (with_reducible refine (p2.out _).mono ?_); rintro e u1 ⟨rfl, rfl⟩
          go_wp2_with fail
          (with_reducible refine (cA.out _ HB0.out).mono ?_); rintro e u2 ⟨rfl, hb⟩
          replace HB9 := Lib.hid (HB9.out.trans (hb.mono HB9.out.size)); replace HB0 := Lib.hid (HB0.out.trans (hb.mono HB0.out.size)); clear hb
          go_wp2_with fail
          (with_reducible refine (cB.out _ HB0.out).mono ?_); rintro e u3 ⟨rfl, hb⟩
          replace HB9 := Lib.hid (HB9.out.trans (hb.mono HB9.out.size)); replace HB0 := Lib.hid (HB0.out.trans (hb.mono HB0.out.size)); clear hb
          go_wp2_with fail
          (with_reducible refine (kG.out 0 _ HB0.out).mono ?_); rintro e u4 ⟨A4, c4, rfl, hr4, hb⟩
          replace HB9 := Lib.hid (HB9.out.trans (hb.mono HB9.out.size)); replace HB0 := Lib.hid (HB0.out.trans (hb.mono HB0.out.size)); clear hb
          go_wp2_with fail
          (with_reducible refine (cC.out _ _ _ hr4).mono ?_); rintro e u5 ⟨rfl, hb⟩
          replace HB9 := Lib.hid (HB9.out.trans (hb.mono HB9.out.size)); replace HB0 := Lib.hid (HB0.out.trans (hb.mono HB0.out.size)); clear hb
          go_wp2_with fail
          (with_reducible refine (kG.out 65535 _ HB0.out).mono ?_); rintro e u6 ⟨A6, c6, rfl, hr6, hb⟩
          replace HB9 := Lib.hid (HB9.out.trans (hb.mono HB9.out.size)); replace HB0 := Lib.hid (HB0.out.trans (hb.mono HB0.out.size)); clear hb
          go_wp2_with fail
          (with_reducible refine (cD.out _ _ _ hr6).mono ?_); rintro e u7 ⟨rfl, hb⟩
          replace HB9 := Lib.hid (HB9.out.trans (hb.mono HB9.out.size)); replace HB0 := Lib.hid (HB0.out.trans (hb.mono HB0.out.size)); clear hb
          go_wp2_with fail
          (with_reducible refine (kL.out _).mono ?_); rintro e u8 ⟨rfl, hb⟩
          replace HB9 := Lib.hid (HB9.out.trans (hb.mono HB9.out.size)); replace HB0 := Lib.hid (HB0.out.trans (hb.mono HB0.out.size)); clear hb
          go_wp2_with fail
          (with_reducible refine (cE.out _ HB0.out).mono ?_); rintro e u9 ⟨rfl, hb⟩
          replace HB9 := Lib.hid (HB9.out.trans (hb.mono HB9.out.size)); replace HB0 := Lib.hid (HB0.out.trans (hb.mono HB0.out.size)); clear hb
          go_wp2_with fail
          (with_reducible refine (kL.out _).mono ?_); rintro e u10 ⟨rfl, hb⟩
          replace HB9 := Lib.hid (HB9.out.trans (hb.mono HB9.out.size)); replace HB0 := Lib.hid (HB0.out.trans (hb.mono HB0.out.size)); clear hb
          go_wp2_with fail
          go_ret
          exact ⟨rfl, HB9.out⟩
        · subst hmn
          have hmn2 : ¬ n < n := by omega
          have e1 := alive_ab HLO.out (p := n) (q := n) (by omega)
          have e2 := alive_bc HLO.out n
          have cA := Lib.hid (fun W hb => kA.out n W hb); have cB := Lib.hid (fun W hb => kA.out n W hb)
          have cC := Lib.hid (fun A c W hr => kH.out 0 n A c W hr)
          have cD := Lib.hid (fun A c W hr => kH.out 65535 0 A c W hr)
          have cE := Lib.hid (fun W hb => kA.out 12 W hb)
          simp only [e4, e5, ages_len] at cC cD cE
          clear e4 e5 kA kH
          generalize hva : aliveI n (placed D) = va at *
          have hvb : True := trivial
          generalize hvc : aliveI n (placed (agesL 0 (placed D))) = vc at *
          clear hva hvb hvc HLO
          go_wp2_with fail
          (with_reducible refine (p1.out _).mono ?_); rintro e u1 ⟨rfl, rfl⟩
          go_wp2_with fail
          (with_reducible refine (p2.out _).mono ?_); rintro e u1 ⟨rfl, rfl⟩
          go_wp2_with fail
          (with_reducible refine (cA.out _ HB0.out).mono ?_); rintro e u2 ⟨rfl, hb⟩
          replace HB9 := Lib.hid (HB9.out.trans (hb.mono HB9.out.size)); replace HB0 := Lib.hid (HB0.out.trans (hb.mono HB0.out.size)); clear hb
          go_wp2_with fail
          (with_reducible refine (cB.out _ HB0.out).mono ?_); rintro e u3 ⟨rfl, hb⟩
          replace HB9 := Lib.hid (HB9.out.trans (hb.mono HB9.out.size)); replace HB0 := Lib.hid (HB0.out.trans (hb.mono HB0.out.size)); clear hb
          go_wp2_with fail
          (with_reducible refine (kG.out 0 _ HB0.out).mono ?_); rintro e u4 ⟨A4, c4, rfl, hr4, hb⟩
          replace HB9 := Lib.hid (HB9.out.trans (hb.mono HB9.out.size)); replace HB0 := Lib.hid (HB0.out.trans (hb.mono HB0.out.size)); clear hb
          go_wp2_with fail
          (with_reducible refine (cC.out _ _ _ hr4).mono ?_); rintro e u5 ⟨rfl, hb⟩
          replace HB9 := Lib.hid (HB9.out.trans (hb.mono HB9.out.size)); replace HB0 := Lib.hid (HB0.out.trans (hb.mono HB0.out.size)); clear hb
          go_wp2_with fail
          (with_reducible refine (kG.out 65535 _ HB0.out).mono ?_); rintro e u6 ⟨A6, c6, rfl, hr6, hb⟩
          replace HB9 := Lib.hid (HB9.out.trans (hb.mono HB9.out.size)); replace HB0 := Lib.hid (HB0.out.trans (hb.mono HB0.out.size)); clear hb
          go_wp2_with fail
          (with_reducible refine (cD.out _ _ _ hr6).mono ?_); rintro e u7 ⟨rfl, hb⟩
          replace HB9 := Lib.hid (HB9.out.trans (hb.mono HB9.out.size)); replace HB0 := Lib.hid (HB0.out.trans (hb.mono HB0.out.size)); clear hb
          go_wp2_with fail
          (with_reducible refine (kL.out _).mono ?_); rintro e u8 ⟨rfl, hb⟩
          replace HB9 := Lib.hid (HB9.out.trans (hb.mono HB9.out.size)); replace HB0 := Lib.hid (HB0.out.trans (hb.mono HB0.out.size)); clear hb
          go_wp2_with fail
          (with_reducible refine (cE.out _ HB0.out).mono ?_); rintro e u9 ⟨rfl, hb⟩
          replace HB9 := Lib.hid (HB9.out.trans (hb.mono HB9.out.size)); replace HB0 := Lib.hid (HB0.out.trans (hb.mono HB0.out.size)); clear hb
          go_wp2_with fail
          (with_reducible refine (kL.out _).mono ?_); rintro e u10 ⟨rfl, hb⟩
          replace HB9 := Lib.hid (HB9.out.trans (hb.mono HB9.out.size)); replace HB0 := Lib.hid (HB0.out.trans (hb.mono HB0.out.size)); clear hb
          go_wp2_with fail
          go_ret
          exact ⟨rfl, HB9.out⟩
        · have hmn2 : ¬ n < m := by omega
          have e1 := alive_ab HLO.out (p := m) (q := n) (by omega)
          have e2 := alive_bc HLO.out n
          have cA := Lib.hid (fun W hb => kA.out m W hb); have cB := Lib.hid (fun W hb => kA.out n W hb)
          have cC := Lib.hid (fun A c W hr => kH.out 0 n A c W hr)
          have cD := Lib.hid (fun A c W hr => kH.out 65535 0 A c W hr)
          have cE := Lib.hid (fun W hb => kA.out 12 W hb)
          simp only [e4, e5, ages_len] at cC cD cE
          clear e4 e5 kA kH
          generalize hva : aliveI m (placed D) = va at *
          generalize hvb : aliveI n (placed D) = vb at *
          generalize hvc : aliveI n (placed (agesL 0 (placed D))) = vc at *
          clear hva hvb hvc HLO
          go_wp2_with fail
          (with_reducible refine (p1.out _).mono ?_); rintro e u1 ⟨rfl, rfl⟩
          go_wp2_with fail
          (with_reducible refine (p2.out _).mono ?_); rintro e u1 ⟨rfl, rfl⟩
          go_wp2_with fail
          (with_reducible refine (cA.out _ HB0.out).mono ?_); rintro e u2 ⟨rfl, hb⟩
          replace HB9 := Lib.hid (HB9.out.trans (hb.mono HB9.out.size)); replace HB0 := Lib.hid (HB0.out.trans (hb.mono HB0.out.size)); clear hb
          go_wp2_with fail
          (with_reducible refine (cB.out _ HB0.out).mono ?_); rintro e u3 ⟨rfl, hb⟩
          replace HB9 := Lib.hid (HB9.out.trans (hb.mono HB9.out.size)); replace HB0 := Lib.hid (HB0.out.trans (hb.mono HB0.out.size)); clear hb
          go_wp2_with fail
          (with_reducible refine (kG.out 0 _ HB0.out).mono ?_); rintro e u4 ⟨A4, c4, rfl, hr4, hb⟩
          replace HB9 := Lib.hid (HB9.out.trans (hb.mono HB9.out.size)); replace HB0 := Lib.hid (HB0.out.trans (hb.mono HB0.out.size)); clear hb
          go_wp2_with fail
          (with_reducible refine (cC.out _ _ _ hr4).mono ?_); rintro e u5 ⟨rfl, hb⟩
          replace HB9 := Lib.hid (HB9.out.trans (hb.mono HB9.out.size)); replace HB0 := Lib.hid (HB0.out.trans (hb.mono HB0.out.size)); clear hb
          go_wp2_with fail
          (with_reducible refine (kG.out 65535 _ HB0.out).mono ?_); rintro e u6 ⟨A6, c6, rfl, hr6, hb⟩
          replace HB9 := Lib.hid (HB9.out.trans (hb.mono HB9.out.size)); replace HB0 := Lib.hid (HB0.out.trans (hb.mono HB0.out.size)); clear hb
          go_wp2_with fail
          (with_reducible refine (cD.out _ _ _ hr6).mono ?_); rintro e u7 ⟨rfl, hb⟩
          replace HB9 := Lib.hid (HB9.out.trans (hb.mono HB9.out.size)); replace HB0 := Lib.hid (HB0.out.trans (hb.mono HB0.out.size)); clear hb
          go_wp2_with fail
          (with_reducible refine (kL.out _).mono ?_); rintro e u8 ⟨rfl, hb⟩
          replace HB9 := Lib.hid (HB9.out.trans (hb.mono HB9.out.size)); replace HB0 := Lib.hid (HB0.out.trans (hb.mono HB0.out.size)); clear hb
          go_wp2_with fail
          (with_reducible refine (cE.out _ HB0.out).mono ?_); rintro e u9 ⟨rfl, hb⟩
          replace HB9 := Lib.hid (HB9.out.trans (hb.mono HB9.out.size)); replace HB0 := Lib.hid (HB0.out.trans (hb.mono HB0.out.size)); clear hb
          go_wp2_with fail
          (with_reducible refine (kL.out _).mono ?_); rintro e u10 ⟨rfl, hb⟩
          replace HB9 := Lib.hid (HB9.out.trans (hb.mono HB9.out.size)); replace HB0 := Lib.hid (HB0.out.trans (hb.mono HB0.out.size)); clear hb
          go_wp2_with fail
          go_ret
          exact ⟨rfl, HB9.out⟩
      · have i1 : ¬ (j : Int) < (l.length : Int) := by omega
        rcases Int.lt_trichotomy n m with hmn | hmn | hmn
        · have hmn2 : ¬ m ≤ n := by omega
          have e1 := alive_ab HLO.out (p := n) (q := m) (by omega)
          have e2 := alive_bc HLO.out m
          have cA := Lib.hid (fun W hb => kA.out n W hb); have cB := Lib.hid (fun W hb => kA.out m W hb)
          have cC := Lib.hid (fun A c W hr => kH.out 0 m A c W hr)
          have cD := Lib.hid (fun A c W hr => kH.out 65535 0 A c W hr)
          have cE := Lib.hid (fun W hb => kA.out 12 W hb)
          simp only [e4, e5, ages_len] at cC cD cE
          clear e4 e5 kA kH
          generalize hva : aliveI n (placed D) = va at *
          generalize hvb : aliveI m (placed D) = vb at *
          generalize hvc : aliveI m (placed (agesL 0 (placed D))) = vc at *
          clear hva hvb hvc HLO
          go_wp2_with fail
          (with_reducible refine (p1.out _).mono ?_); rintro e u1 ⟨rfl, rfl⟩
          go_wp2_with fail
          (with_reducible refine (p2.out _).mono ?_); rintro e u1 ⟨rfl, rfl⟩
          go_wp2_with fail
          (with_reducible refine (cA.out _ HB0.out).mono ?_); rintro e u2 ⟨rfl, hb⟩
          replace HB9 := Lib.hid (HB9.out.trans (hb.mono HB9.out.size)); replace HB0 := Lib.hid (HB0.out.trans (hb.mono HB0.out.size)); clear hb
          go_wp2_with fail
          (with_reducible refine (cB.out _ HB0.out).mono ?_); rintro e u3 ⟨rfl, hb⟩
          replace HB9 := Lib.hid (HB9.out.trans (hb.mono HB9.out.size)); replace HB0 := Lib.hid (HB0.out.trans (hb.mono HB0.out.size)); clear hb
          go_wp2_with fail
          (with_reducible refine (kG.out 0 _ HB0.out).mono ?_); rintro e u4 ⟨A4, c4, rfl, hr4, hb⟩
          replace HB9 := Lib.hid (HB9.out.trans (hb.mono HB9.out.size)); replace HB0 := Lib.hid (HB0.out.trans (hb.mono HB0.out.size)); clear hb
          go_wp2_with fail
          (with_reducible refine (cC.out _ _ _ hr4).mono ?_); rintro e u5 ⟨rfl, hb⟩
          replace HB9 := Lib.hid (HB9.out.trans (hb.mono HB9.out.size)); replace HB0 := Lib.hid (HB0.out.trans (hb.mono HB0.out.size)); clear hb
          go_wp2_with fail
          (with_reducible refine (kG.out 65535 _ HB0.out).mono ?_); rintro e u6 ⟨A6, c6, rfl, hr6, hb⟩
          replace HB9 := Lib.hid (HB9.out.trans (hb.mono HB9.out.size)); replace HB0 := Lib.hid (HB0.out.trans (hb.mono HB0.out.size)); clear hb
          go_wp2_with fail
          (with_reducible refine (cD.out _ _ _ hr6).mono ?_); rintro e u7 ⟨rfl, hb⟩
          replace HB9 := Lib.hid (HB9.out.trans (hb.mono HB9.out.size)); replace HB0 := Lib.hid (HB0.out.trans (hb.mono HB0.out.size)); clear hb
          go_wp2_with fail
          (with_reducible refine (kL.out _).mono ?_); rintro e u8 ⟨rfl, hb⟩
          replace HB9 := Lib.hid (HB9.out.trans (hb.mono HB9.out.size)); replace HB0 := Lib.hid (HB0.out.trans (hb.mono HB0.out.size)); clear hb
          go_wp2_with fail
          (with_reducible refine (cE.out _ HB0.out).mono ?_); rintro e u9 ⟨rfl, hb⟩
          replace HB9 := Lib.hid (HB9.out.trans (hb.mono HB9.out.size)); replace HB0 := Lib.hid (HB0.out.trans (hb.mono HB0.out.size)); clear hb
          go_wp2_with fail
          (with_reducible refine (kL.out _).mono ?_); rintro e u10 ⟨rfl, hb⟩
          replace HB9 := Lib.hid (HB9.out.trans (hb.mono HB9.out.size)); replace HB0 := Lib.hid (HB0.out.trans (hb.mono HB0.out.size)); clear hb
          go_wp2_with fail
          go_ret
          exact ⟨rfl, HB9.out⟩
        · subst hmn
          have hmn2 : ¬ n < n := by omega
          have e1 := alive_ab HLO.out (p := n) (q := n) (by omega)
          have e2 := alive_bc HLO.out n
          have cA := Lib.hid (fun W hb => kA.out n W hb); have cB := Lib.hid (fun W hb => kA.out n W hb)
          have cC := Lib.hid (fun A c W hr => kH.out 0 n A c W hr)
          have cD := Lib.hid (fun A c W hr => kH.out 65535 0 A c W hr)
          have cE := Lib.hid (fun W hb => kA.out 12 W hb)
          simp only [e4, e5, ages_len] at cC cD cE
          clear e4 e5 kA kH
          generalize hva : aliveI n (placed D) = va at *
          have hvb : True := trivial
          generalize hvc : aliveI n (placed (agesL 0 (placed D))) = vc at *
          clear hva hvb hvc HLO
          go_wp2_with fail
          (with_reducible refine (p1.out _).mono ?_); rintro e u1 ⟨rfl, rfl⟩
          go_wp2_with fail
          (with_reducible refine (p2.out _).mono ?_); rintro e u1 ⟨rfl, rfl⟩
          go_wp2_with fail
          (with_reducible refine (cA.out _ HB0.out).mono ?_); rintro e u2 ⟨rfl, hb⟩
          replace HB9 := Lib.hid (HB9.out.trans (hb.mono HB9.out.size)); replace HB0 := Lib.hid (HB0.out.trans (hb.mono HB0.out.size)); clear hb
          go_wp2_with fail
          (with_reducible refine (cB.out _ HB0.out).mono ?_); rintro e u3 ⟨rfl, hb⟩
          replace HB9 := Lib.hid (HB9.out.trans (hb.mono HB9.out.size)); replace HB0 := Lib.hid (HB0.out.trans (hb.mono HB0.out.size)); clear hb
          go_wp2_with fail
          (with_reducible refine (kG.out 0 _ HB0.out).mono ?_); rintro e u4 ⟨A4, c4, rfl, hr4, hb⟩
          replace HB9 := Lib.hid (HB9.out.trans (hb.mono HB9.out.size)); replace HB0 := Lib.hid (HB0.out.trans (hb.mono HB0.out.size)); clear hb
          go_wp2_with fail
          (with_reducible refine (cC.out _ _ _ hr4).mono ?_); rintro e u5 ⟨rfl, hb⟩
          replace HB9 := Lib.hid (HB9.out.trans (hb.mono HB9.out.size)); replace HB0 := Lib.hid (HB0.out.trans (hb.mono HB0.out.size)); clear hb
          go_wp2_with fail
          (with_reducible refine (kG.out 65535 _ HB0.out).mono ?_); rintro e u6 ⟨A6, c6, rfl, hr6, hb⟩
          replace HB9 := Lib.hid (HB9.out.trans (hb.mono HB9.out.size)); replace HB0 := Lib.hid (HB0.out.trans (hb.mono HB0.out.size)); clear hb
          go_wp2_with fail
          (with_reducible refine (cD.out _ _ _ hr6).mono ?_); rintro e u7 ⟨rfl, hb⟩
          replace HB9 := Lib.hid (HB9.out.trans (hb.mono HB9.out.size)); replace HB0 := Lib.hid (HB0.out.trans (hb.mono HB0.out.size)); clear hb
          go_wp2_with fail
          (with_reducible refine (kL.out _).mono ?_); rintro e u8 ⟨rfl, hb⟩
          replace HB9 := Lib.hid (HB9.out.trans (hb.mono HB9.out.size)); replace HB0 := Lib.hid (HB0.out.trans (hb.mono HB0.out.size)); clear hb
          go_wp2_with fail
          (with_reducible refine (cE.out _ HB0.out).mono ?_); rintro e u9 ⟨rfl, hb⟩
          replace HB9 := Lib.hid (HB9.out.trans (hb.mono HB9.out.size)); replace HB0 := Lib.hid (HB0.out.trans (hb.mono HB0.out.size)); clear hb
          go_wp2_with fail
          (with_reducible refine (kL.out _).mono ?_); rintro e u10 ⟨rfl, hb⟩
          replace HB9 := Lib.hid (HB9.out.trans (hb.mono HB9.out.size)); replace HB0 := Lib.hid (HB0.out.trans (hb.mono HB0.out.size)); clear hb
          go_wp2_with fail
          go_ret
          exact ⟨rfl, HB9.out⟩
        · have hmn2 : ¬ n < m := by omega
          have e1 := alive_ab HLO.out (p := m) (q := n) (by omega)
          have e2 := alive_bc HLO.out n
          have cA := Lib.hid (fun W hb => kA.out m W hb); have cB := Lib.hid (fun W hb => kA.out n W hb)
          have cC := Lib.hid (fun A c W hr => kH.out 0 n A c W hr)
          have cD := Lib.hid (fun A c W hr => kH.out 65535 0 A c W hr)
          have cE := Lib.hid (fun W hb => kA.out 12 W hb)
          simp only [e4, e5, ages_len] at cC cD cE
          clear e4 e5 kA kH
          generalize hva : aliveI m (placed D) = va at *
          generalize hvb : aliveI n (placed D) = vb at *
          generalize hvc : aliveI n (placed (agesL 0 (placed D))) = vc at *
          clear hva hvb hvc HLO
          go_wp2_with fail
          (with_reducible refine (p1.out _).mono ?_); rintro e u1 ⟨rfl, rfl⟩
          go_wp2_with fail
          (with_reducible refine (p2.out _).mono ?_); rintro e u1 ⟨rfl, rfl⟩
          go_wp2_with fail
          (with_reducible refine (cA.out _ HB0.out).mono ?_); rintro e u2 ⟨rfl, hb⟩
          replace HB9 := Lib.hid (HB9.out.trans (hb.mono HB9.out.size)); replace HB0 := Lib.hid (HB0.out.trans (hb.mono HB0.out.size)); clear hb
          go_wp2_with fail
          (with_reducible refine (cB.out _ HB0.out).mono ?_); rintro e u3 ⟨rfl, hb⟩
          replace HB9 := Lib.hid (HB9.out.trans (hb.mono HB9.out.size)); replace HB0 := Lib.hid (HB0.out.trans (hb.mono HB0.out.size)); clear hb
          go_wp2_with fail
          (with_reducible refine (kG.out 0 _ HB0.out).mono ?_); rintro e u4 ⟨A4, c4, rfl, hr4, hb⟩
          replace HB9 := Lib.hid (HB9.out.trans (hb.mono HB9.out.size)); replace HB0 := Lib.hid (HB0.out.trans (hb.mono HB0.out.size)); clear hb
          go_wp2_with fail
          (with_reducible refine (cC.out _ _ _ hr4).mono ?_); rintro e u5 ⟨rfl, hb⟩
          replace HB9 := Lib.hid (HB9.out.trans (hb.mono HB9.out.size)); replace HB0 := Lib.hid (HB0.out.trans (hb.mono HB0.out.size)); clear hb
          go_wp2_with fail
          (with_reducible refine (kG.out 65535 _ HB0.out).mono ?_); rintro e u6 ⟨A6, c6, rfl, hr6, hb⟩
          replace HB9 := Lib.hid (HB9.out.trans (hb.mono HB9.out.size)); replace HB0 := Lib.hid (HB0.out.trans (hb.mono HB0.out.size)); clear hb
          go_wp2_with fail
          (with_reducible refine (cD.out _ _ _ hr6).mono ?_); rintro e u7 ⟨rfl, hb⟩
          replace HB9 := Lib.hid (HB9.out.trans (hb.mono HB9.out.size)); replace HB0 := Lib.hid (HB0.out.trans (hb.mono HB0.out.size)); clear hb
          go_wp2_with fail
          (with_reducible refine (kL.out _).mono ?_); rintro e u8 ⟨rfl, hb⟩
          replace HB9 := Lib.hid (HB9.out.trans (hb.mono HB9.out.size)); replace HB0 := Lib.hid (HB0.out.trans (hb.mono HB0.out.size)); clear hb
          go_wp2_with fail
          (with_reducible refine (cE.out _ HB0.out).mono ?_); rintro e u9 ⟨rfl, hb⟩
          replace HB9 := Lib.hid (HB9.out.trans (hb.mono HB9.out.size)); replace HB0 := Lib.hid (HB0.out.trans (hb.mono HB0.out.size)); clear hb
          go_wp2_with fail
          (with_reducible refine (kL.out _).mono ?_); rintro e u10 ⟨rfl, hb⟩
          replace HB9 := Lib.hid (HB9.out.trans (hb.mono HB9.out.size)); replace HB0 := Lib.hid (HB0.out.trans (hb.mono HB0.out.size)); clear hb
          go_wp2_with fail
          go_ret
          exact ⟨rfl, HB9.out⟩

end Go.Proofs.Ytplnmkeopdmanaa

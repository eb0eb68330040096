/-
  The law ClockMiddles.
-/
import Derived.Test.YtllbhbekpnmlnaaClkPairs
import Derived.Deep.RegionHeld3
import Derived.Deep.DeepCutAuto
namespace Go.Proofs.Ytllbhbekpnmlnaa
open Go.RowKit

theorem turn_perm (l : List Int) (n : Nat) : (l.drop n ++ l.take n).Perm l := by
  have h : (l.drop n ++ l.take n).Perm (l.take n ++ l.drop n) := List.perm_append_comm
  rwa [List.take_append_drop] at h
theorem mids_short {d : Int} {a b : List Int} (hd : 0 ≤ d ∧ d ≤ 7) (ha : ∀ y ∈ a, -1000000 ≤ y ∧ y ≤ 1000000) (hb : ∀ y ∈ b, -1073741824 ≤ y ∧ y ≤ 1073741824) (hl : a.length + b.length ≤ 64) (h : (a.length : Int) + b.length ≤ 2 * d) : midE d (a ++ b) = 3 := by
  refine midE_short hd (fun y hy => ?_) (by rw [List.length_append]; exact hl) (by rw [List.length_append]; omega)
  rcases List.mem_append.1 hy with h1 | h1
  · have := ha y h1; omega
  · exact hb y h1

set_option maxRecDepth 100000 in
set_option maxHeartbeats 2000000 in
theorem clockMiddles_walk (a0 : Int) (A1 : Option Addr) (c1 : Nat) (l1 : List Int) (A2 : Option Addr) (c2 : Nat) (l2 : List Int) (a3 : Int) (w0 : (Lit.int .i64 a0).wf = true) (w3 : (Lit.int .i64 a3).wf = true) (w : World) (f1 : IntsOk w A1 c1 l1) (f2 : IntsOk w A2 c2 l2) :
    Calls Try.prog 4 #[.int .i64 a0, .slice A1 l1.length c1, .slice A2 l2.length c2, .int .i64 a3] w fun e w' => e = .returned (.bool true) ∧ Below w.heap.size w w' := by
  have P0 := Lib.hid (fun W => pick_any a0 8 w0 (by omega) W)
  obtain ⟨k0, k1⟩ := pickI_range a0 8 (by omega)
  generalize pickI a0 8 = K' at *
  obtain ⟨K, rfl⟩ : ∃ K : Nat, K' = (K : Int) := ⟨K'.toNat, by omega⟩
  have CD1 := Lib.hid (fun W hb => devs_any A1 c1 l1 20 1000 (by omega) (by omega) w W f1 hb)
  have CD2 := Lib.hid (fun W hb => devs_any A2 c2 l2 K 1073741824 (by omega) (by omega) w W f2 hb)
  have ha := devsI_length l1 20 1000
  have har := devsI_range (l := l1) (n := 20) (b := 1000) (by omega)
  have hb := devsI_length l2 K 1073741824
  have hbr := devsI_range (l := l2) (n := K) (b := 1073741824) (by omega)
  generalize devsI l1 20 1000 = a at *
  generalize devsI l2 K 1073741824 = b at *
  have ha20 : a.length ≤ 20 := by omega
  have hbK : b.length ≤ K := by omega
  have har2 : ∀ y ∈ a, -1000000 ≤ y ∧ y ≤ 1000000 := fun y hy => by have := har y hy; omega
  obtain ⟨ab, hab⟩ : ∃ x, x = a ++ b := ⟨_, rfl⟩
  have HAB := Lib.hid hab
  have habl : ab.length = a.length + b.length := by rw [hab, List.length_append]
  have CM1 := Lib.hid (fun A cp W h => middle_any K A cp ab W h (by unfold maxLen; omega))
  clear ha hb w0 f1 f2
  by_cases hlt : (a.length : Int) + (b.length : Int) ≤ 2 * (K : Int)
  · have he := mids_short (d := (K : Int)) (a := a) (b := b) ⟨by omega, by omega⟩ har2 hbr (by omega) hlt
    rw [← hab] at he
    rw [he] at CM1
    clear har har2 hbr hab he
    have HL := Lib.hid habl; clear habl
    generalize midV K ab = M at *
    go_enter Try.func4, Try.ntmps4
    go_wp2_with fail; refine (awake_any _).mono ?_; rintro e w1 ⟨rfl, b1⟩
    have HB1 := Lib.hid b1; clear b1
    go_wp2_with fail; (with_reducible refine (P0.out _).mono ?_); rintro e w2 ⟨rfl, rfl⟩
    go_wp2_with fail; (refine (CD1.out _ HB1.out).mono ?_); rintro e w2 ⟨u, rfl, ho, b2⟩
    obtain ⟨A, cp, rfl, hcc, hrow⟩ := ho.row
    have HR2 := Lib.hid hrow
    have HB2 := Lib.hid (HB1.out.trans (b2.mono HB1.out.size)); clear b2 ho hrow
    go_wp2_with fail; (refine (CD2.out _ HB2.out).mono ?_); rintro e w3 ⟨u, rfl, ho, b3⟩
    obtain ⟨A3, cp3, rfl, hcc3, hrow⟩ := ho.row
    have HRB := Lib.hid hrow
    have HRA := Lib.hid (HR2.out.on b3)
    have HB3 := Lib.hid (HB2.out.trans (b3.mono HB2.out.size)); clear b3 ho hrow HR2
    have HW3 := Lib.hid (Below.refl w3.heap.size w3)
    go_wp2_with (first
      | (at_builtin; refine list_app (by rfl) (.const (.slice none 0 0)) (.tmp 42) rfl w3.heap.size w3.heap.size (.slice none 0 0) [] a A cp rfl rfl (Own.nil _ _) HRA.out (Nat.le_refl _) (by simp only [List.length_nil]; omega) ?_; intro u4 w4 ho4 hg4; have HU4 := Lib.hid ho4; have HW4 := Lib.hid (Own.below (Own.nil w3 w3.heap.size) hg4 (Nat.le_refl _)); clear ho4 hg4)
      | (at_builtin; refine list_app (by rfl) (.tmp 43) (.tmp 44) rfl w3.heap.size w3.heap.size u4 ([] ++ a) b A3 cp3 rfl rfl HU4.out (HRB.out.below HW4.out (Nat.le_refl _)) HW4.out.size (by rw [List.nil_append]; omega) ?_; intro u5 w5 ho5 hg5; rw [List.nil_append, ← HAB.out] at ho5; obtain ⟨A5, cp5, rfl, hcc5, hrow5⟩ := ho5.row; have HW5 := Lib.hid (HW4.out.trans (Own.below HU4.out hg5 HW4.out.size)); have HR5 := Lib.hid hrow5; clear ho5 hg5 hrow5))
    (with_reducible refine (CM1.out _ _ _ HR5.out).mono ?_); rintro e w6 ⟨rfl, b6⟩
    have HW6 := Lib.hid (HW5.out.trans (b6.mono HW5.out.size)); clear b6
    go_wp2_with fail
    go_ret
    exact ⟨rfl, HB3.out.trans (HW6.out.mono HB3.out.size)⟩
  · have hne : a ≠ [] := by rintro rfl; simp at hlt; omega
    have he := mids_ok (d := (K : Int)) (a := a) (b := b) ⟨by omega, by omega⟩ har2 hbr (by omega) (by omega)
    have hm := middle_right a b K hbK (by rw [List.length_append]; omega) K rfl he
    rw [← hab] at he hm
    have hmr := mid_range he
    obtain ⟨s1, s2, s3⟩ := spread_small hne (by omega) har
    have z1 := har _ (lo_spec hne).1
    have z2 := har _ (hi_spec hne).1
    have hpos := List.length_pos_iff.2 hne
    obtain ⟨x, hx⟩ : ∃ x, a[0]? = some x := ⟨_, List.getElem?_eq_getElem hpos⟩
    obtain ⟨e1, e2⟩ := loI_head hx
    obtain ⟨n0, n1⟩ := pickI_range a3 ((ab.length : Int) + 1) (by omega)
    have P1 := Lib.hid (fun W => pick_any a3 ((ab.length : Int) + 1) w3 (by omega) W)
    generalize pickI a3 ((ab.length : Int) + 1) = n at *
    have hp := turn_perm ab n.toNat
    obtain ⟨tt, htt⟩ : ∃ x, x = ab.drop n.toNat ++ ab.take n.toNat := ⟨_, rfl⟩
    have httl : tt.length = ab.length := by rw [htt]; exact hp.length_eq
    rw [← htt] at hp
    have CMT := Lib.hid (fun A cp W h => middle_any K A cp tt W h (by unfold maxLen; omega))
    rw [midV_perm hp, midE_perm hp, he] at CMT
    rw [he] at CM1
    have KD := Lib.hid (fun A c h => run_drop A c ab h n n0 (by omega))
    have KT := Lib.hid (fun A c h => run_take A c ab h n n0 (by omega))
    have CS := Lib.hid (fun A cp B W h hB => spread_any A cp B a W h hB (by unfold maxLen; omega))
    rw [s1] at CS
    have TK : Hid (∀ (A : Option Addr) (W : World) (B : Nat), Row W B A ab → Row W B A (ab.take n.toNat)) := Lib.hid (fun A W B h => h.take _)
    obtain ⟨m0, m1⟩ := hm
    obtain ⟨m2, m3⟩ := hmr
    obtain ⟨z10, z11⟩ := z1
    obtain ⟨z20, z21⟩ := z2
    have E1 := Lib.hid e1
    have E2 := Lib.hid e2
    have HX := Lib.hid hx
    have HTT := Lib.hid htt
    have hdl : (ab.drop n.toNat).length ≤ 64 := by rw [List.length_drop]; omega
    have htl : (ab.take n.toNat).length ≤ 64 := by rw [List.length_take]; omega
    generalize ab.drop n.toNat = dl at *
    generalize ab.take n.toNat = tl at *
    generalize midV K ab = M at *
    have hnle : n ≤ (ab.length : Int) := by omega
    clear har har2 hbr hab he hp httl s1 e1 e2 hx htt hne w3 n1
    have HL := Lib.hid habl
    have hab30 : (ab.length : Int) ≤ 30 := by omega
    have hlt2 : 2 * (K : Int) < (a.length : Int) + (b.length : Int) := by omega
    clear habl hlt
    go_enter Try.func4, Try.ntmps4
    go_wp2_with fail; refine (awake_any _).mono ?_; rintro e w1 ⟨rfl, b1⟩
    have HB1 := Lib.hid b1; clear b1
    go_wp2_with fail; (with_reducible refine (P0.out _).mono ?_); rintro e w2 ⟨rfl, rfl⟩
    go_wp2_with fail; (refine (CD1.out _ HB1.out).mono ?_); rintro e w2 ⟨u, rfl, ho, b2⟩
    obtain ⟨A, cp, rfl, hcc, hrow⟩ := ho.row
    have HR2 := Lib.hid hrow
    have HB2 := Lib.hid (HB1.out.trans (b2.mono HB1.out.size)); clear b2 ho hrow
    go_wp2_with fail; (refine (CD2.out _ HB2.out).mono ?_); rintro e w3 ⟨u, rfl, ho, b3⟩
    obtain ⟨A3, cp3, rfl, hcc3, hrow⟩ := ho.row
    have HRB := Lib.hid hrow
    have HRA := Lib.hid (HR2.out.on b3)
    have HB3 := Lib.hid (HB2.out.trans (b3.mono HB2.out.size)); clear b3 ho hrow HR2
    have HW3 := Lib.hid (Below.refl w3.heap.size w3)
    go_wp2_with (first
      | (at_builtin; refine list_app (by rfl) (.const (.slice none 0 0)) (.tmp 54) rfl w3.heap.size w3.heap.size (.slice none 0 0) [] a A cp rfl rfl (Own.nil _ _) HRA.out (Nat.le_refl _) (by simp only [List.length_nil]; omega) ?_; intro u4 w4 ho4 hg4; have HU4 := Lib.hid ho4; have HW4 := Lib.hid (Own.below (Own.nil w3 w3.heap.size) hg4 (Nat.le_refl _)); clear ho4 hg4)
      | (at_builtin; refine list_app (by rfl) (.tmp 55) (.tmp 56) rfl w3.heap.size w3.heap.size u4 ([] ++ a) b A3 cp3 rfl rfl HU4.out (HRB.out.below HW4.out (Nat.le_refl _)) HW4.out.size (by rw [List.nil_append]; omega) ?_; intro u5 w5 ho5 hg5; rw [List.nil_append, ← HAB.out] at ho5; obtain ⟨A5, cp5, rfl, hcc5, hrow5⟩ := ho5.row; have HW5 := Lib.hid (HW4.out.trans (Own.below HU4.out hg5 HW4.out.size)); have HR5 := Lib.hid hrow5; clear ho5 hg5 hrow5))
    go_wp2_with fail; (with_reducible refine (P1.out _).mono ?_); rintro e w6 ⟨rfl, rfl⟩
    go_wp2_with fail; (with_reducible refine (CM1.out _ _ _ HR5.out).mono ?_); rintro e w6 ⟨rfl, b6⟩
    have HW6 := Lib.hid (HW5.out.trans (b6.mono HW5.out.size))
    have HR6 := Lib.hid (HR5.out.on b6)
    have HRA6 := Lib.hid (HRA.out.below HW6.out (Nat.le_refl _))
    have HB6 := Lib.hid (HB3.out.trans (HW6.out.mono HB3.out.size))
    have HZ6 := Lib.hid HW6.out.size
    have HCC5 := Lib.hid hcc5
    clear b6 HW3 HW4 HW5 HW6 HR5 HU4 HRB HRA HB3 CM1 P1 CD1 CD2 hcc hcc3
    obtain ⟨A9, c9, hc9, hr9, kd⟩ := KD.out A5 cp5 HCC5.out
    have kt := KT.out A5 cp5 HCC5.out
    have HRD := Lib.hid (hr9 _ _ HR6.out)
    have HRT := Lib.hid (TK.out _ _ _ HR6.out)
    clear hr9 hc9 KD KT TK hcc5
    have HB1 := Lib.hid HB6.out
    go_wp2_with fail
    go_region_held3 (fun _ => True) (trivial) (first
      | (refine step_app rfl (.const (.slice none 0 0)) (.tmp 73) rfl w6.heap.size w6.heap.size (.slice none 0 0) [] dl A9 c9 (by simp [Act.eval]) (by simp [Act.eval]) (Own.nil _ _) HRD.out (Nat.le_refl _) (by simp only [List.length_nil]; omega) ?_; intro u7 w7 hu7 hg7; have hw7 : Below w6.heap.size w6 w7 := (Below.refl _ w6).drew.trans (Own.below (w := w6.drew) (Own.nil _ _) hg7 (Nat.le_refl _)))
      | (refine step_app rfl (.tmp 74) (.tmp 77) rfl w6.heap.size w6.heap.size u7 ([] ++ dl) tl A5 cp5 (by simp [Act.eval]) (by simp [Act.eval]) hu7 (HRT.out.below hw7 (Nat.le_refl _)) hw7.size (by rw [List.nil_append]; omega) ?_; intro u8 w8 hu8 hg8; have hw8 := hw7.trans (Own.below hu7 hg8 hw7.size); rw [List.nil_append, ← HTT.out] at hu8; obtain ⟨A8, c8, rfl, hcc8, hr8⟩ := hu8.row)
      | (go_at_call 16; refine (CMT.out _ _ _ hr8).mono ?_; rintro e w9 ⟨rfl, b9⟩))
    have HW9 := Lib.hid (hw8.trans (b9.mono hw8.size))
    have HB9 := Lib.hid (HB6.out.trans (HW9.out.mono HB6.out.size))
    obtain ⟨ad, rfl, hadb, hc⟩ := (HRA6.out.below (HW9.out.mono HZ6.out) (Nat.le_refl _)) hpos
    have HS9 := Lib.hid ((HRA6.out.below (HW9.out.mono HZ6.out) (Nat.le_refl _)).more (Nat.le_trans HZ6.out HW9.out.size))
    have hc0 := hc 0 x HX.out
    rw [show ad.add 0 = ad from rfl] at hc0
    have HC := Lib.hid hc
    have hne : ((a.length : Int) == 0) = false := by rw [beq_eq_false_iff_ne]; omega
    have hpI : (0 : Int) < (a.length : Int) := by omega
    clear hw7 hw8 hu7 hu8 hg7 hg8 b9 hr8 hc hcc8 kd kt HRD HRT HR6 HRA6 HTT HB6 HB1 HW9 HZ6 CMT
    go_wp2_with fail
    clear hc0
    go_loop [21, 22, 23] (fun p q i => ∃ k : Nat, k ≤ a.length ∧ i = .int .i64 k ∧ p = .int .i64 (minF x (a.take k)) ∧ q = .int .i64 (maxF x (a.take k))) (fun _ _ i => a.length - (intOf i).toNat)
    case atStart => exact ⟨0, by omega, rfl, rfl, rfl⟩
    case round =>
      obtain ⟨k, hk, rfl, rfl, rfl⟩ := hrel
      by_cases hlt : k < a.length
      · obtain ⟨y, hy⟩ : ∃ y, a[k]? = some y := ⟨_, List.getElem?_eq_getElem hlt⟩
        have hck := HC.out k y hy
        have T1 := Lib.hid (minF_take x a k y hy)
        have T2 := Lib.hid (maxF_take x a k y hy)
        have hkI : (k : Int) < (a.length : Int) := by omega
        clear hy
        generalize minF x (a.take k) = p at *
        generalize maxF x (a.take k) = q at *
        go_wp2_with fail
        go_round
        case rel => exact ⟨k + 1, by omega, by go_num, by rw [T1.out, min_go], by rw [T2.out, max_go]⟩
        case measure => simp [intOf]; omega
      · have ek : k = a.length := by omega
        subst ek
        rw [List.take_length]
        rw [← E1.out, ← E2.out]
        have CS9 := Lib.hid (CS.out _ cp _ w9 HS9.out (Nat.le_refl _))
        clear CS HC E1 E2 HX
        generalize loI a = lo at *
        generalize hiI a = hi at *
        go_wp2_with fail; (with_reducible refine CS9.out.mono ?_); rintro e w10 ⟨rfl, b10⟩
        have HB10 := Lib.hid (HB9.out.trans (b10.mono HB9.out.size)); clear b10
        go_wp2_with fail
        go_ret
        exact ⟨rfl, HB10.out⟩

end Go.Proofs.Ytllbhbekpnmlnaa

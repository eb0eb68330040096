/-
  The law ClockPairs.
-/
import Derived.Test.YtllbhbekpnmlnaaClkSteps
namespace Go.Proofs.Ytllbhbekpnmlnaa
open Go.RowKit

theorem mid_range {d : Int} {l : List Int} (h : midE d l = 0) : -1073741824 ≤ midV d l ∧ midV d l ≤ 1073741824 := by
  obtain ⟨x1, x2, x3, x4⟩ := (midE_zero d l).1 h
  have hd := (dropB_iff d).1 x1
  obtain ⟨k, hk⟩ : ∃ k : Nat, d = (k : Int) := ⟨d.toNat, by omega⟩
  have h1 := dev_nth x2 (i := k) (by omega)
  have h2 := dev_nth x2 (i := l.length - 1 - k) (by omega)
  rw [midV_ok hk h]
  omega
theorem spread_small {l : List Int} {b : Int} (hn : l ≠ []) (hb : b ≤ 1073741824) (h : ∀ y ∈ l, -b ≤ y ∧ y ≤ b) : spreadI l = hiI l - loI l ∧ 0 ≤ hiI l - loI l ∧ hiI l - loI l ≤ 2 * b := by
  have h1 := h _ (lo_spec hn).1
  have h2 := h _ (hi_spec hn).1
  have h3 := lo_le_hi hn
  unfold spreadI
  rw [if_neg hn, w64 _ (by omega) (by omega)]
  exact ⟨rfl, by omega, by omega⟩
theorem mids_ok {d : Int} {a b : List Int} (hd : 0 ≤ d ∧ d ≤ 7) (ha : ∀ y ∈ a, -1000000 ≤ y ∧ y ≤ 1000000) (hb : ∀ y ∈ b, -1073741824 ≤ y ∧ y ≤ 1073741824) (hl : a.length + b.length ≤ 64) (h : 2 * d < (a.length : Int) + b.length) : midE d (a ++ b) = 0 := by
  refine midE_ok hd (fun y hy => ?_) (by rw [List.length_append]; exact hl) (by rw [List.length_append]; omega)
  rcases List.mem_append.1 hy with h1 | h1
  · have := ha y h1; omega
  · exact hb y h1

set_option maxRecDepth 100000 in
set_option maxHeartbeats 1000000 in
theorem clockPairs_walk (a0 : Int) (A1 : Option Addr) (c1 : Nat) (l1 : List Int) (A2 : Option Addr) (c2 : Nat) (l2 : List Int) (A3 : Option Addr) (c3 : Nat) (l3 : List Int) (w0 : (Lit.int .i64 a0).wf = true) (w : World) (f1 : IntsOk w A1 c1 l1) (f2 : IntsOk w A2 c2 l2) (f3 : IntsOk w A3 c3 l3) :
    Calls Try.prog 5 #[.int .i64 a0, .slice A1 l1.length c1, .slice A2 l2.length c2, .slice A3 l3.length c3] w fun e w' => e = .returned (.bool true) ∧ Below w.heap.size w w' := by
  have P0 := Lib.hid (fun W => pick_any a0 8 w0 (by omega) W)
  obtain ⟨k0, k1⟩ := pickI_range a0 8 (by omega)
  generalize pickI a0 8 = K' at *
  obtain ⟨K, rfl⟩ : ∃ K : Nat, K' = (K : Int) := ⟨K'.toNat, by omega⟩
  have CD1 := Lib.hid (fun W hb => devs_any A1 c1 l1 30 1000 (by omega) (by omega) w W f1 hb)
  have CD2 := Lib.hid (fun W hb => devs_any A2 c2 l2 K 1073741824 (by omega) (by omega) w W f2 hb)
  have CD3 := Lib.hid (fun W hb => devs_any A3 c3 l3 K 1073741824 (by omega) (by omega) w W f3 hb)
  have ha := devsI_length l1 30 1000
  have har := devsI_range (l := l1) (n := 30) (b := 1000) (by omega)
  have hb := devsI_length l2 K 1073741824
  have hbr := devsI_range (l := l2) (n := K) (b := 1073741824) (by omega)
  have hc := devsI_length l3 K 1073741824
  have hcr := devsI_range (l := l3) (n := K) (b := 1073741824) (by omega)
  generalize devsI l1 30 1000 = a at *
  generalize devsI l2 K 1073741824 = b at *
  generalize devsI l3 K 1073741824 = c at *
  have ha30 : a.length ≤ 30 := by omega
  have hbK : b.length ≤ K := by omega
  have hcK : c.length ≤ K := by omega
  clear ha hb hc w0 f1 f2 f3
  by_cases hlt : (a.length : Int) ≤ 2 * (K : Int)
  · clear har hbr hcr hbK hcK
    go_enter Try.func5, Try.ntmps5
    go_wp2_with fail; refine (awake_any _).mono ?_; rintro e w1 ⟨rfl, b1⟩
    have HB1 := Lib.hid b1; clear b1
    go_wp2_with fail; (with_reducible refine (P0.out _).mono ?_); rintro e w2 ⟨rfl, rfl⟩
    go_wp2_with fail; (refine (CD1.out _ HB1.out).mono ?_); rintro e w2 ⟨u, rfl, ho, b2⟩
    obtain ⟨A, cp, rfl, hcc, hrow⟩ := ho.row
    have HB2 := Lib.hid (HB1.out.trans (b2.mono HB1.out.size)); clear b2 ho hrow
    go_wp2_with fail
    go_ret
    exact ⟨rfl, HB2.out⟩
  · have hne : a ≠ [] := by rintro rfl; simp at hlt; omega
    have he1 := mids_ok (d := (K : Int)) (a := a) (b := b) ⟨by omega, by omega⟩ (fun y hy => by have := har y hy; omega) hbr (by omega) (by omega)
    have he2 := mids_ok (d := (K : Int)) (a := a) (b := c) ⟨by omega, by omega⟩ (fun y hy => by have := har y hy; omega) hcr (by omega) (by omega)
    have hp : (a ++ c).Perm (c ++ a) := List.perm_append_comm
    rw [midE_perm hp] at he2
    have hm := middle_pair a b c K hbK hcK (by omega) K rfl he1 he2
    have r1 := mid_range he1
    have r2 := mid_range he2
    obtain ⟨s1, s2, s3⟩ := spread_small hne (by omega) har
    have CM1 := Lib.hid (fun A cp W h => middle_any K A cp (a ++ b) W h (by rw [List.length_append]; unfold maxLen; omega))
    have CM2 := Lib.hid (fun A cp W h => middle_any K A cp (c ++ a) W h (by rw [List.length_append]; unfold maxLen; omega))
    have CS := Lib.hid (fun A cp B W h hB => spread_any A cp B a W h hB (by unfold maxLen; omega))
    rw [he1] at CM1
    rw [he2] at CM2
    rw [s1] at CS
    generalize midV K (a ++ b) = M at *
    generalize midV K (c ++ a) = N at *
    generalize hiI a - loI a = S at *
    obtain ⟨m1, m2⟩ := hm
    obtain ⟨r10, r11⟩ := r1
    obtain ⟨r20, r21⟩ := r2
    obtain ⟨ab, hab⟩ : ∃ x, x = a ++ b := ⟨_, rfl⟩
    obtain ⟨ca, hca⟩ : ∃ x, x = c ++ a := ⟨_, rfl⟩
    rw [← hab] at CM1
    rw [← hca] at CM2
    have HAB := Lib.hid hab
    have HCA := Lib.hid hca
    clear he1 he2 hp s1 hab hca har hbr hcr hne
    go_enter Try.func5, Try.ntmps5
    go_wp2_with fail; refine (awake_any _).mono ?_; rintro e w1 ⟨rfl, b1⟩
    have HB1 := Lib.hid b1; clear b1
    go_wp2_with fail; (with_reducible refine (P0.out _).mono ?_); rintro e w2 ⟨rfl, rfl⟩
    go_wp2_with fail; (refine (CD1.out _ HB1.out).mono ?_); rintro e w2 ⟨u, rfl, ho, b2⟩
    obtain ⟨A, cp, rfl, hcc, hrow⟩ := ho.row
    have HR2 := Lib.hid hrow
    have HB2 := Lib.hid (HB1.out.trans (b2.mono HB1.out.size)); clear b2 ho hrow
    have HW2 := Lib.hid (Below.refl w2.heap.size w2)
    go_wp2_with (at_builtin; refine list_app (by rfl) (.const (.slice none 0 0)) (.tmp 30) rfl w2.heap.size w2.heap.size (.slice none 0 0) [] a A cp rfl rfl (Own.nil _ _) HR2.out (Nat.le_refl _) (by simp only [List.length_nil]; omega) ?_; intro u3 w3 ho3 hg3; have HU3 := Lib.hid ho3; have HW3 := Lib.hid (Own.below (Own.nil w2 w2.heap.size) hg3 (Nat.le_refl _)); clear ho3 hg3)
    refine (CD2.out _ (HB2.out.trans (HW3.out.mono HB2.out.size))).mono ?_; rintro e w4 ⟨u4, rfl, ho4, b4⟩
    obtain ⟨A4, cp4, rfl, hcc4, hrow4⟩ := ho4.row
    have HU4 := Lib.hid (HU3.out.on b4)
    have HR4b := Lib.hid hrow4
    have HW4 := Lib.hid (HW3.out.trans (b4.mono HW3.out.size))
    clear b4 ho4 hrow4 HU3
    go_wp2_with (at_builtin; refine list_app (by rfl) (.tmp 31) (.tmp 34) rfl w2.heap.size w4.heap.size u3 ([] ++ a) b A4 cp4 rfl rfl HU4.out HR4b.out HW4.out.size (by rw [List.nil_append]; omega) ?_; intro u5 w5 ho5 hg5; rw [List.nil_append, ← HAB.out] at ho5; obtain ⟨A5, cp5, rfl, hcc5, hrow5⟩ := ho5.row; have HW5 := Lib.hid (HW4.out.trans (Own.below HU4.out hg5 HW4.out.size)); have HR5b := Lib.hid hrow5; clear ho5 hg5 hrow5 hcc4 hcc5)
    (with_reducible refine (CM1.out _ _ _ HR5b.out).mono ?_); rintro e w6 ⟨rfl, b6⟩
    have HW6 := Lib.hid (HW5.out.trans (b6.mono HW5.out.size))
    clear b6 HU4 HR4b HR5b CM1 CD2
    go_wp2_with fail; (refine (CD3.out _ (HB2.out.trans (HW6.out.mono HB2.out.size))).mono ?_); rintro e w7 ⟨u7, rfl, ho7, b7⟩
    obtain ⟨A7, cp7, rfl, hcc7, hrow7⟩ := ho7.row
    have HU7 := Lib.hid ho7
    have HW7 := Lib.hid (HW6.out.trans (b7.mono HW6.out.size))
    have HZ7 := Lib.hid b7.size
    clear b7 ho7 hrow7
    go_wp2_with (at_builtin; refine list_app (by rfl) (.tmp 43) (.tmp 44) rfl w6.heap.size w2.heap.size (.slice A7 c.length cp7) c a A cp rfl rfl HU7.out (HR2.out.below HW7.out (Nat.le_refl _)) HZ7.out (by omega) ?_; intro u8 w8 ho8 hg8; rw [← HCA.out] at ho8; obtain ⟨A8, cp8, rfl, hcc8, hrow8⟩ := ho8.row; have HW8 := Lib.hid (HW7.out.trans ((Own.below HU7.out hg8 HZ7.out).mono HW6.out.size)); have HR8b := Lib.hid hrow8; clear ho8 hg8 hrow8 hcc7 hcc8)
    (with_reducible refine (CM2.out _ _ _ HR8b.out).mono ?_); rintro e w9 ⟨rfl, b9⟩
    have HW9 := Lib.hid (HW8.out.trans (b9.mono HW8.out.size))
    clear b9 HU7 HR8b CM2 CD3
    go_wp2_with fail
    all_goals
      (with_reducible refine (CS.out _ _ _ _ (HR2.out.below HW9.out (Nat.le_refl _)) HW9.out.size).mono ?_); rintro e w10 ⟨rfl, b10⟩
      have HW10 := Lib.hid (HW9.out.trans (b10.mono HW9.out.size)); clear b10
      go_wp2_with fail
      go_ret
      exact ⟨rfl, HB2.out.trans (HW10.out.mono HB2.out.size)⟩

end Go.Proofs.Ytllbhbekpnmlnaa

/-
  The document's own answers on vectors: List, Count, Of, and the comparison of two lists.
-/
import Derived.BigQuiet
import Derived.Deep.QuietTactic
import Derived.Test.YtmmbnjkdknnidaaGreatDoorVecOfV
import Derived.Maps.AppendAt
import Derived.OwnWalk
set_option maxHeartbeats 1000000
set_option maxRecDepth 100000
namespace Go.Proofs.YtmmbnjkdknnidaaGreatDoor.V
open Lib (hid)
open Go.RowKit
theorem tm_two (n : Int) : (0 ≤ n ∧ n.tmod 65536 = n % 65536) ∨ (n < 0 ∧ n.tmod 65536 = -((-n) % 65536)) := by
 rcases Int.lt_or_le n 0 with h | h
 ·refine .inr ⟨h, ?_⟩
  have e : n = -(-n) := by omega
  conv => lhs; rw [e]
  rw [Int.neg_tmod, Int.tmod_eq_emod_of_nonneg (by omega)]
 ·exact .inl ⟨h, Int.tmod_eq_emod_of_nonneg h⟩
theorem md_tmod_neg (n : Int) (h : n.tmod 65536 < 0) : n.tmod 65536 + 65536 = (md n : Int) := by
 rw [md_cast]
 have h1 := tm_two n
 omega
theorem md_tmod_pos (n : Int) (h : 0 ≤ n.tmod 65536) : n.tmod 65536 = (md n : Int) := by
 rw [md_cast]
 have h1 := tm_two n
 omega
theorem tmod_range (n : Int) : -65536 < n.tmod 65536 ∧ n.tmod 65536 < 65536 := by
 have h1 := tm_two n
 omega
theorem mod_any (n : Int) (w : World) : Calls Tryz.prog 148 #[.int .i64 n] w fun e w' => e = .returned (.int .i64 (md n : Int)) ∧ w = w' := by
 have hr := tmod_range n
 have H1 := hid (md_tmod_neg n)
 have H2 := hid (md_tmod_pos n)
 go_enter Tryz.func148, Tryz.ntmps148
 go_wp2
 ·go_ret
  exact ⟨ret_i (H1.out (by assumption)), rfl⟩
 ·go_ret
  exact ⟨ret_i (H2.out (by assumption)), rfl⟩
theorem has_shift (v n : Int) (h0 : 0 ≤ n) (h1 : n ≤ 15) : (bits .and .i64 ((md v : Int) / 2 ^ n.toNat) 1 == 1) = hasB v n := by
 have e : (md v : Int) / 2 ^ n.toNat = ((md v / 2 ^ n.toNat : Nat) : Int) := by rw [pow_cast]; rfl
 have h2 : md v / 2 ^ n.toNat < 9223372036854775808 := Nat.lt_of_le_of_lt (Nat.div_le_self _ _) (by have := md_lt v; omega)
 rw [e, show (1 : Int) = ((1 : Nat) : Int) from rfl, i64_and_nat _ _ h2 (by omega), Nat.and_one_is_mod]
 unfold hasB
 rw [(nodeB_iff n).2 ⟨h0, h1⟩, Bool.true_and, Nat.testBit_eq_decide_div_mod_eq]
 rcases Nat.mod_two_eq_zero_or_one (md v / 2 ^ n.toNat) with h | h <;> rw [h] <;> simp
theorem hasB_off (v n : Int) (h : n < 0 ∨ 15 < n) : hasB v n = false := by
 unfold hasB; rw [(nodeB_no n).2 h]; rfl
theorem refHas_any (v n : Int) (w : World) : Calls Tryz.prog 122 #[.int .i64 v, .int .i64 n] w fun e w' => e = .returned (.bool (hasB v n)) ∧ w = w' := by
 have hm := md_lt v
 have H1 := hid (has_shift v n)
 have H2 := hid (hasB_off v n)
 by_cases h0 : 0 ≤ n
 ·by_cases h1 : n ≤ 15
  ·go_enter Tryz.func122, Tryz.ntmps122
   go_wp2_with fail; refine (mod_any _ _).mono ?_; rintro e w1 ⟨rfl, rfl⟩
   go_wp2_with fail
   go_ret
   exact ⟨ret_b (H1.out h0 h1), rfl⟩
  ·go_enter Tryz.func122, Tryz.ntmps122
   go_wp2_with fail
   go_ret
   exact ⟨ret_b (H2.out (by omega)).symm, rfl⟩
 ·go_enter Tryz.func122, Tryz.ntmps122
  go_wp2_with fail
  go_ret
  exact ⟨ret_b (H2.out (by omega)).symm, rfl⟩
theorem below_hit_v (v : Int) (k : Nat) (h : hasB v k = true) (hk : k < 16) : below (md v) (k + 1) = below (md v) k ++ [(k : Int)] := by
 rw [hasB_nat v k hk] at h
 exact below_hit _ _ h
theorem below_miss_v (v : Int) (k : Nat) (h : hasB v k = false) (hk : k < 16) : below (md v) (k + 1) = below (md v) k := by
 rw [hasB_nat v k hk] at h
 exact below_miss _ _ h
theorem below_size (v : Int) (k : Nat) (hk : k ≤ 16) : (below (md v) k).length ≤ 16 := by
 rw [below_length]; exact Nat.le_trans (cb_le _ _) hk
theorem refList_any (v : Int) (w : World) : Calls Tryz.prog 80 #[.int .i64 v] w fun e w' =>
  ∃ u, e = .returned u ∧ w'.ownsRow w.heap.size 3 1 u (listI v).length ((listI v).map (Value.int .i64)) ∧ Below w.heap.size w w' := by
 obtain ⟨i0, hi, hz0, hz1, hz2⟩ := info_parts int_info
 go_enter Tryz.func80, Tryz.ntmps80
 go_wp2
 go_loopw [3, 4] (fun u i wr => ∃ k : Nat, k ≤ 16 ∧ i = .int .i64 k ∧ wr.ownsRow w.heap.size 3 1 u (below (md v) k).length ((below (md v) k).map (Value.int .i64)) ∧ Below w.heap.size w wr) (fun _ i _ => 16 - (intOf i).toNat)
 case atStart => exact ⟨0, by omega, rfl, World.ownsRow_nil _ _ _ _, Below.refl _ _⟩
 case round =>
  obtain ⟨k, hk, rfl, hrow, hb⟩ := hrel
  have HB := hid hb; clear hb
  have hl16 := below_size v k hk
  by_cases hlt : k < 16
  ·have hh := fun w => refHas_any v k w
   cases hx : hasB v k
   ·rw [hx] at hh
    have HS := hid (below_miss_v v k hx hlt)
    clear hx
    go_wp2_with fail; refine (hh _).mono ?_; rintro e w1 ⟨rfl, rfl⟩
    clear hh
    go_wp2
    go_roundw
    case rel => exact ⟨k + 1, by omega, by go_num, by rw [HS.out]; exact hrow, HB.out⟩
    case measure => simp [intOf]; omega
   ·rw [hx] at hh
    have HS := hid (below_hit_v v k hx hlt)
    clear hx
    go_wp2_with fail; refine (hh _).mono ?_; rintro e w1 ⟨rfl, rfl⟩
    clear hh
    have hsz := HB.out.size
    go_wp2_with (at_builtin; refine wpList_append_own _ rfl _ _ 22 rfl w.heap.size 3 i0 (.int .i64 0) 1 8 Tryz.underlying22 hi hz0 hz1 hz2 rfl (by decide) _ _ _ rfl (hrow.alloc _) ⟨wr.heap.size, 0, none⟩ 1 1 [.int .i64 k] rfl rfl (cell_one_new _ _ _) (by simp [Value.oneCell']) (by simp only [maxLen]; omega) (by omega) (by simp; omega) ?_; intro v' w3 hown' hgrow3 hnil3)
    have hb3 := (HB.out.alloc hsz (.cells #[.int .i64 k] 3)).grown hgrow3 (by simp; omega) (fun g e' => (hrow.lt g e').1)
    have HB3 := hid hb3; clear hb3
    go_roundw
    case rel => exact ⟨k + 1, by omega, by go_num, by rw [HS.out]; simpa using hown', HB3.out⟩
    case measure => simp [intOf]; omega
  ·have ek : k = 16 := by omega
   subst ek
   go_wp2
   go_ret
   exact ⟨_, rfl, hrow, HB.out⟩
theorem ne_of_at {a b : List Int} {k : Nat} {x y : Int} (hx : a[k]? = some x) (hy : b[k]? = some y) (h : x ≠ y) : false = decide (a = b) := by
 symm
 rw [decide_eq_false_iff_not]
 rintro rfl
 rw [hx] at hy
 injection hy with hy
 exact h hy
theorem same_take {a b : List Int} {k : Nat} {x y : Int} (hx : a[k]? = some x) (hy : b[k]? = some y) (h : a.take k = b.take k) (e : x = y) : a.take (k + 1) = b.take (k + 1) := by
 rw [List.take_add_one, List.take_add_one, hx, hy, h, e]
theorem ints_any (A A' : Option Addr) (c c' B B' : Nat) (a b : List Int) (w : World) (ha : Row w B A a) (hb : Row w B' A' b) (hl : a.length ≤ maxLen) :
  Calls Tryz.prog 38 #[.slice A a.length c, .slice A' b.length c'] w fun e w' => e = .returned (.bool (decide (a = b))) ∧ ∃ n, w' = w.drewN n := by
 unfold maxLen at hl
 by_cases hab : a.length = b.length
 ·have hab2 : (a.length : Int) = b.length := by omega
  have hbne : ((a.length : Int) != b.length) = false := by rw [hab]; simp
  have HL := hid hab; clear hab hab2
  go_enter Tryz.func38, Tryz.ntmps38
  go_wp2
  go_loopw [5] (fun i wr => ∃ k : Nat, k ≤ a.length ∧ i = .int .i64 k ∧ a.take k = b.take k ∧ ∃ n, wr = w.drewN n) (fun i _ => a.length - (intOf i).toNat)
  case atStart => exact ⟨0, by omega, rfl, by simp, 0, rfl⟩
  case round =>
   obtain ⟨k, hk, rfl, ht, n, rfl⟩ := hrel
   have HT := hid ht; clear ht
   by_cases hlt : k < a.length
   ·have hlt2 : k < b.length := by have := HL.out; omega
    obtain ⟨x, hx⟩ : ∃ x, a[k]? = some x := ⟨_, List.getElem?_eq_getElem hlt⟩
    obtain ⟨y, hy⟩ : ∃ y, b[k]? = some y := ⟨_, List.getElem?_eq_getElem hlt2⟩
    obtain ⟨ad, rfl, _, hc⟩ := ha (by omega)
    obtain ⟨ad', rfl, _, hc'⟩ := hb (by omega)
    have hck := hc k x hx
    have hck' := hc' k y hy
    have HX := hid hx
    have HY := hid hy
    clear hc hc' hx hy
    by_cases hxy : x = y
    ·subst hxy
     go_wp2_with fail
     go_quiet (fail)
     go_wp2_with fail
     go_roundw
     case rel => exact ⟨k + 1, by omega, by go_num, same_take HX.out HY.out HT.out rfl, _, rfl⟩
     case measure => simp [intOf]; omega
    ·have hne : ((x : Int) != y) = true := by simpa using hxy
     have HN := hid hxy; clear hxy
     go_wp2_with fail
     go_quiet (fail)
     go_wp2_with fail
     go_ret
     exact ⟨ret_b (ne_of_at HX.out HY.out HN.out), n + nq, by rw [World.drewN_drewN]⟩
   ·have ek : k = a.length := by omega
    subst ek
    go_wp2
    go_ret
    refine ⟨ret_b ?_, _, rfl⟩
    have h1 := HT.out
    rw [List.take_length, HL.out, List.take_length] at h1
    simp [h1]
 ·have hbne : ((a.length : Int) != b.length) = true := by simp; omega
  have hne : a ≠ b := fun e => hab (by rw [e])
  have HN := hid hne; clear hne hab
  go_enter Tryz.func38, Tryz.ntmps38
  go_wp2
  go_ret
  exact ⟨ret_b (by simp [HN.out]), 0, rfl⟩
end Go.Proofs.YtmmbnjkdknnidaaGreatDoor.V

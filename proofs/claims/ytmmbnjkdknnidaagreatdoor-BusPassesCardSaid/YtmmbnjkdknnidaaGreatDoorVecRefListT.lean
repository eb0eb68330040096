/-
  The document's own answers on vectors: List, Count, Of, and the comparison of two lists.
-/
import Derived.BigQuiet
import Derived.Deep.QuietTactic
import Derived.Maps.AppendAt
import Derived.OwnWalk
import Derived.Test.YtmmbnjkdknnidaaGreatDoorVecOfT
namespace Go.Proofs.YtmmbnjkdknnidaaGreatDoor.V
open Go.RowKit
theorem ne_of_at {a b : List Int} {k : Nat} {x y : Int} (hx : a[k]? = some x) (hy : b[k]? = some y) (h : x ≠ y) : false = decide (a = b) := by
 symm
 rw [decide_eq_false_iff_not]
 rintro rfl
 rw [hx] at hy
 injection hy with hy
 exact h hy
theorem same_take {a b : List Int} {k : Nat} {x y : Int} (hx : a[k]? = some x) (hy : b[k]? = some y) (h : a.take k = b.take k) (e : x = y) : a.take (k + 1) = b.take (k + 1) := by
 rw [List.take_add_one, List.take_add_one, hx, hy, h, e]
set_option maxHeartbeats 1000000 in
theorem ints_any (A A' : Option Addr) (c c' B B' : Nat) (a b : List Int) (w : World) (ha : Row w B A a) (hb : Row w B' A' b) (hl : a.length ≤ maxLen) :
  Calls Tryz.prog 38 #[.slice A a.length c, .slice A' b.length c'] w fun e w' => e = .returned (.bool (decide (a = b))) ∧ ∃ n, w' = w.drewN n := by
 unfold maxLen at hl
 by_cases hab : a.length = b.length
 ·have hab2 : (a.length : Int) = b.length := by omega
  have hbne : ((a.length : Int) != b.length) = false := by rw [hab]; simp
  have HL := Lib.hid hab; clear hab hab2
  go_enter Tryz.func38, Tryz.ntmps38
  go_wp2
  go_loopw [5] (fun i wr => ∃ k : Nat, k ≤ a.length ∧ i = .int .i64 k ∧ a.take k = b.take k ∧ ∃ n, wr = w.drewN n) (fun i _ => a.length - (intOf i).toNat)
  case atStart => exact ⟨0, by omega, rfl, by simp, 0, rfl⟩
  case round =>
   obtain ⟨k, hk, rfl, ht, n, rfl⟩ := hrel
   have HT := Lib.hid ht; clear ht
   by_cases hlt : k < a.length
   ·have hlt2 : k < b.length := by have := HL.out; omega
    obtain ⟨x, hx⟩ : ∃ x, a[k]? = some x := ⟨_, List.getElem?_eq_getElem hlt⟩
    obtain ⟨y, hy⟩ : ∃ y, b[k]? = some y := ⟨_, List.getElem?_eq_getElem hlt2⟩
    obtain ⟨ad, rfl, _, hc⟩ := ha (by omega)
    obtain ⟨ad', rfl, _, hc'⟩ := hb (by omega)
    have hck := hc k x hx
    have hck' := hc' k y hy
    have HX := Lib.hid hx
    have HY := Lib.hid hy
    clear hc hc' hx hy
    by_cases hxy : x = y
    ·subst hxy
     go_wp2_with fail
     go_quiet (fail)
     go_wp2_with fail
     go_roundw
     case rel => exact ⟨k + 1, by omega, by go_num, same_take HX.out HY.out HT.out rfl, _, rfl⟩
     case measure => simp [intOf]; omega
    ·have hne : ((x : Int) != y) = true := by simpa using hxy
     have HN := Lib.hid hxy; clear hxy
     go_wp2_with fail
     go_quiet (fail)
     go_wp2_with fail
     go_ret
     exact ⟨ret_b (ne_of_at HX.out HY.out HN.out), n + nq, by rw [World.drewN_drewN]⟩
   ·have ek : k = a.length := by omega
    subst ek
    go_wp2
    go_ret
    refine ⟨ret_b ?_, _, rfl⟩
    have h1 := HT.out
    rw [List.take_length, HL.out, List.take_length] at h1
    simp [h1]
 ·have hbne : ((a.length : Int) != b.length) = true := by simp; omega
  have hne : a ≠ b := fun e => hab (by rw [e])
  have HN := Lib.hid hne; clear hne hab
  go_enter Tryz.func38, Tryz.ntmps38
  go_wp2
  go_ret
  exact ⟨ret_b (by simp [HN.out]), 0, rfl⟩
end Go.Proofs.YtmmbnjkdknnidaaGreatDoor.V

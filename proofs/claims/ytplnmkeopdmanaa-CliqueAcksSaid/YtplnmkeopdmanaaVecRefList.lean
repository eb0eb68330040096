/-
  The document's own answers on vectors: List, Count, Of, and the comparison of two lists.
-/
import Derived.Test.YtplnmkeopdmanaaVecRef
import Derived.Maps.AppendAt
import Derived.OwnWalk
namespace Go.Proofs.Ytplnmkeopdmanaa
open Go.RowKit

theorem below_hit_v (v : Int) (k : Nat) (h : hasB v k = true) (hk : k < 16) : below (md v) (k + 1) = below (md v) k ++ [(k : Int)] := by
  rw [hasB_nat v k hk] at h
  exact below_hit _ _ h
theorem below_miss_v (v : Int) (k : Nat) (h : hasB v k = false) (hk : k < 16) : below (md v) (k + 1) = below (md v) k := by
  rw [hasB_nat v k hk] at h
  exact below_miss _ _ h
theorem below_size (v : Int) (k : Nat) (hk : k ≤ 16) : (below (md v) k).length ≤ 16 := by
  rw [below_length]; exact Nat.le_trans (cb_le _ _) hk

set_option maxRecDepth 100000 in
set_option maxHeartbeats 1000000 in
theorem refList_any (v : Int) (w : World) : Calls Try.prog 23 #[.int .i64 v] w fun e w' =>
    ∃ u, e = .returned u ∧ w'.ownsRow w.heap.size 3 1 u (listI v).length ((listI v).map (Value.int .i64)) ∧ Below w.heap.size w w' := by
  obtain ⟨i0, hi, hz0, hz1, hz2⟩ := info_parts int_info
  go_enter Try.func23, Try.ntmps23
  go_wp2
  go_loopw [3, 4] (fun u i wr => ∃ k : Nat, k ≤ 16 ∧ i = .int .i64 k ∧ wr.ownsRow w.heap.size 3 1 u (below (md v) k).length ((below (md v) k).map (Value.int .i64)) ∧ Below w.heap.size w wr) (fun _ i _ => 16 - (intOf i).toNat)
  case atStart => exact ⟨0, by omega, rfl, World.ownsRow_nil _ _ _ _, Below.refl _ _⟩
  case round =>
    obtain ⟨k, hk, rfl, hrow, hb⟩ := hrel
    have HB := Lib.hid hb; clear hb
    have hl16 := below_size v k hk
    by_cases hlt : k < 16
    · have hh := fun w => refHas_any v k w
      cases hx : hasB v k
      · rw [hx] at hh
        have HS := Lib.hid (below_miss_v v k hx hlt)
        clear hx
        go_wp2_with fail; refine (hh _).mono ?_; rintro e w1 ⟨rfl, rfl⟩
        clear hh
        go_wp2
        go_roundw
        case rel => exact ⟨k + 1, by omega, by go_num, by rw [HS.out]; exact hrow, HB.out⟩
        case measure => simp [intOf]; omega
      · rw [hx] at hh
        have HS := Lib.hid (below_hit_v v k hx hlt)
        clear hx
        go_wp2_with fail; refine (hh _).mono ?_; rintro e w1 ⟨rfl, rfl⟩
        clear hh
        have hsz := HB.out.size
        go_wp2_with (at_builtin; refine wpList_append_own _ rfl _ _ 30 rfl w.heap.size 3 i0 (.int .i64 0) 1 8 Try.underlying30 hi hz0 hz1 hz2 rfl (by decide) _ _ _ rfl (hrow.alloc _) ⟨wr.heap.size, 0, none⟩ 1 1 [.int .i64 k] rfl rfl (cell_one_new _ _ _) (by simp [Value.oneCell']) (by simp only [maxLen]; omega) (by omega) (by simp; omega) ?_; intro v' w3 hown' hgrow3 hnil3)
        have hb3 := (HB.out.alloc hsz (.cells #[.int .i64 k] 3)).grown hgrow3 (by simp; omega) (fun g e' => (hrow.lt g e').1)
        have HB3 := Lib.hid hb3; clear hb3
        go_roundw
        case rel => exact ⟨k + 1, by omega, by go_num, by rw [HS.out]; simpa using hown', HB3.out⟩
        case measure => simp [intOf]; omega
    · have ek : k = 16 := by omega
      subst ek
      go_wp2
      go_ret
      exact ⟨_, rfl, hrow, HB.out⟩

theorem refCount_any (v : Int) (w : World) : Calls Try.prog 12 #[.int .i64 v] w fun e w' => e = .returned (.int .i64 (countI v)) ∧ Below w.heap.size w w' := by
  have HC := Lib.hid (countI_length v)
  have h16 := listI_length v
  go_enter Try.func12, Try.ntmps12
  go_wp2_with fail; refine (refList_any v _).mono ?_; rintro e w1 ⟨u, rfl, hrow, hb⟩
  obtain ⟨A, c, rfl, _, _⟩ := Row.of_own hrow
  clear hrow
  go_wp2_with fail
  go_ret
  exact ⟨ret_i HC.out, hb⟩

theorem ne_of_at {a b : List Int} {k : Nat} {x y : Int} (hx : a[k]? = some x) (hy : b[k]? = some y) (h : x ≠ y) : false = decide (a = b) := by
  symm
  rw [decide_eq_false_iff_not]
  rintro rfl
  rw [hx] at hy
  injection hy with hy
  exact h hy
theorem same_take {a b : List Int} {k : Nat} {x y : Int} (hx : a[k]? = some x) (hy : b[k]? = some y) (h : a.take k = b.take k) (e : x = y) : a.take (k + 1) = b.take (k + 1) := by
  rw [List.take_add_one, List.take_add_one, hx, hy, h, e]

set_option maxHeartbeats 1000000 in
theorem ints_any (A A' : Option Addr) (c c' B B' : Nat) (a b : List Int) (w : World) (ha : Row w B A a) (hb : Row w B' A' b) (hl : a.length ≤ maxLen) :
    Calls Try.prog 22 #[.slice A a.length c, .slice A' b.length c'] w fun e w' => e = .returned (.bool (decide (a = b))) ∧ ∃ n, w' = w.drewN n := by
  unfold maxLen at hl
  by_cases hab : a.length = b.length
  · have hab2 : (a.length : Int) = b.length := by omega
    have hbne : ((a.length : Int) != b.length) = false := by rw [hab]; simp
    have HL := Lib.hid hab; clear hab hab2
    go_enter Try.func22, Try.ntmps22
    go_wp2
    go_loopw [5] (fun i wr => ∃ k : Nat, k ≤ a.length ∧ i = .int .i64 k ∧ a.take k = b.take k ∧ ∃ n, wr = w.drewN n) (fun i _ => a.length - (intOf i).toNat)
    case atStart => exact ⟨0, by omega, rfl, by simp, 0, rfl⟩
    case round =>
      obtain ⟨k, hk, rfl, ht, n, rfl⟩ := hrel
      have HT := Lib.hid ht; clear ht
      by_cases hlt : k < a.length
      · have hlt2 : k < b.length := by have := HL.out; omega
        obtain ⟨x, hx⟩ : ∃ x, a[k]? = some x := ⟨_, List.getElem?_eq_getElem hlt⟩
        obtain ⟨y, hy⟩ : ∃ y, b[k]? = some y := ⟨_, List.getElem?_eq_getElem hlt2⟩
        obtain ⟨ad, rfl, _, hc⟩ := ha (by omega)
        obtain ⟨ad', rfl, _, hc'⟩ := hb (by omega)
        have hck := hc k x hx
        have hck' := hc' k y hy
        have HX := Lib.hid hx
        have HY := Lib.hid hy
        clear hc hc' hx hy
        by_cases hxy : x = y
        · subst hxy
          go_wp2_with fail
          go_quiet (fail)
          go_wp2_with fail
          go_roundw
          case rel => exact ⟨k + 1, by omega, by go_num, same_take HX.out HY.out HT.out rfl, _, rfl⟩
          case measure => simp [intOf]; omega
        · have hne : ((x : Int) != y) = true := by simpa using hxy
          have HN := Lib.hid hxy; clear hxy
          go_wp2_with fail
          go_quiet (fail)
          go_wp2_with fail
          go_ret
          exact ⟨ret_b (ne_of_at HX.out HY.out HN.out), n + nq, by rw [World.drewN_drewN]⟩
      · have ek : k = a.length := by omega
        subst ek
        go_wp2
        go_ret
        refine ⟨ret_b ?_, _, rfl⟩
        have h1 := HT.out
        rw [List.take_length, HL.out, List.take_length] at h1
        simp [h1]
  · have hbne : ((a.length : Int) != b.length) = true := by simp; omega
    have hne : a ≠ b := fun e => hab (by rw [e])
    have HN := Lib.hid hne; clear hne hab
    go_enter Try.func22, Try.ntmps22
    go_wp2
    go_ret
    exact ⟨ret_b (by simp [HN.out]), 0, rfl⟩

end Go.Proofs.Ytplnmkeopdmanaa

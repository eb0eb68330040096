/-
  What clock.ends and Spread do, and the document's Spread.
-/
import Derived.Test.YtllbhbekpnmlnaaClkFns
namespace Go.Proofs.Ytllbhbekpnmlnaa
open Go.RowKit

theorem loI_head {l : List Int} {x : Int} (h : l[0]? = some x) : loI l = minF x l ∧ hiI l = maxF x l := by
  cases l with
  | nil => simp at h
  | cons y l =>
    obtain rfl : y = x := by simpa using h
    exact ⟨rfl, rfl⟩
theorem min_go (p y : Int) : (if y < p then y else p) = min p y := by omega
theorem max_go (p y : Int) : (if p < y then y else p) = max p y := by omega
theorem minF_one (x : Int) (l : List Int) (h : l[0]? = some x) : minF x (l.take 1) = x ∧ maxF x (l.take 1) = x := by
  cases l with
  | nil => simp at h
  | cons y l =>
    obtain rfl : y = x := by simpa using h
    exact ⟨Int.min_self _, Int.max_self _⟩

set_option maxRecDepth 100000 in
set_option maxHeartbeats 400000 in
theorem ends_any (A : Option Addr) (c B : Nat) (l : List Int) (w : World) (h : Row w B A l) (hB : B ≤ w.heap.size) (hn : l ≠ []) (hl : l.length ≤ maxLen) :
    Calls Try.prog 28 #[.slice A l.length c] w fun e w' => e = .returned (.tuple #[.int .i64 (loI l), .int .i64 (hiI l)]) ∧ Below w.heap.size w w' := by
  unfold maxLen at hl
  have hpos := List.length_pos_iff.2 hn
  have hne : (l != []) = true := by simpa using hn
  obtain ⟨ad, rfl, hb, hc⟩ := h hpos
  obtain ⟨x, hx⟩ : ∃ x, l[0]? = some x := ⟨_, List.getElem?_eq_getElem hpos⟩
  have c0 := hc 0 x hx
  rw [show ad.add 0 = ad from rfl] at c0
  obtain ⟨e1, e2⟩ := loI_head hx
  have H1 := Lib.hid e1
  have H2 := Lib.hid e2
  have HC := Lib.hid hc
  have HN := Lib.hid hn
  clear e1 e2 hx hc hn h
  have hp2 : (0 : Int) < (l.length : Int) := by omega
  go_enter Try.func28, Try.ntmps28
  go_wp2_with fail
  go_quiet (fail)
  have hbd := below_drewN (Below.refl w.heap.size w) nq
  have HC1 : Hid (∀ (j : Nat) (x : Int), l[j]? = some x → (w.drewN nq).cell? (ad.add j) = some (.int .i64 x)) := Lib.hid (fun j x hx => (hbd.cell (p := ad.add j) (by rw [adb]; omega)).trans (HC.out j x hx))
  have HB := Lib.hid hbd
  clear hbd HC c0
  generalize w.drewN nq = w1 at *
  go_wp2_with fail
  go_loop [4, 5, 16] (fun a b i => ∃ k : Nat, k ≤ l.length ∧ i = .int .i64 k ∧ a = .int .i64 (minF x (l.take k)) ∧ b = .int .i64 (maxF x (l.take k))) (fun _ _ i => l.length - (intOf i).toNat)
  case atStart => exact ⟨0, by omega, rfl, rfl, rfl⟩
  case round =>
    obtain ⟨k, hk, rfl, rfl, rfl⟩ := hrel
    by_cases hlt : k < l.length
    · obtain ⟨y, hy⟩ : ∃ y, l[k]? = some y := ⟨_, List.getElem?_eq_getElem hlt⟩
      have hck := HC1.out k y hy
      have T1 := Lib.hid (minF_take x l k y hy)
      have T2 := Lib.hid (maxF_take x l k y hy)
      have hkI : (k : Int) < (l.length : Int) := by omega
      clear hy
      generalize minF x (l.take k) = p at *
      generalize maxF x (l.take k) = q at *
      go_wp2_with fail
      go_round
      case rel => exact ⟨k + 1, by omega, by go_num, by rw [T1.out, min_go], by rw [T2.out, max_go]⟩
      case measure => simp [intOf]; omega
    · have ek : k = l.length := by omega
      subst ek
      go_wp2_with fail
      go_ret2
      exact ⟨ret_ii (by rw [H1.out]) (by rw [H2.out]), HB.out⟩

/-- How far apart: what goes beyond goes round. -/
def spreadI (l : List Int) : Int := if l = [] then 0 else wrap64 (hiI l - loI l)

set_option maxRecDepth 100000 in
theorem spread_any (A : Option Addr) (c B : Nat) (l : List Int) (w : World) (h : Row w B A l) (hB : B ≤ w.heap.size) (hl : l.length ≤ maxLen) :
    Calls Try.prog 20 #[.slice A l.length c] w fun e w' => e = .returned (.int .i64 (spreadI l)) ∧ Below w.heap.size w w' := by
  by_cases hn : l = []
  · subst hn
    go_enter Try.func20, Try.ntmps20
    go_wp2_with fail
    go_ret
    exact ⟨rfl, Below.refl _ _⟩
  · have c1 := Lib.hid (ends_any A c B l w h hB hn hl)
    have hpos := List.length_pos_iff.2 hn
    have HS : Hid (spreadI l = wrap64 (hiI l - loI l)) := Lib.hid (by unfold spreadI; rw [if_neg hn])
    have hne : ((l.length : Int) == 0) = false := by simp; omega
    unfold maxLen at hl
    clear hn h
    go_enter Try.func20, Try.ntmps20
    go_wp2_with fail; (with_reducible refine c1.out.mono ?_); rintro e w1 ⟨rfl, b1⟩
    have HB := Lib.hid b1; clear b1 c1
    generalize hiI l = p at *
    generalize loI l = q at *
    go_wp2_with fail
    go_ret
    exact ⟨ret_i HS.out.symm, HB.out⟩

set_option maxRecDepth 100000 in
set_option maxHeartbeats 400000 in
theorem refSpread_any (A : Option Addr) (c B : Nat) (l : List Int) (w : World) (h : Row w B A l) (hl : l.length ≤ maxLen) :
    Calls Try.prog 21 #[.slice A l.length c] w fun e w' => e = .returned (.int .i64 (spreadI l)) ∧ w = w' := by
  by_cases hn : l = []
  · subst hn
    go_enter Try.func21, Try.ntmps21
    go_wp2_with fail
    go_ret
    exact ⟨rfl, rfl⟩
  · have hpos := List.length_pos_iff.2 hn
    have HS : Hid (spreadI l = wrap64 (hiI l - loI l)) := Lib.hid (by unfold spreadI; rw [if_neg hn])
    have hne : ((l.length : Int) == 0) = false := by simp; omega
    unfold maxLen at hl
    have hne2 : (l != []) = true := by simpa using hn
    obtain ⟨ad, rfl, hb, hc⟩ := h hpos
    obtain ⟨x, hx⟩ : ∃ x, l[0]? = some x := ⟨_, List.getElem?_eq_getElem hpos⟩
    have c0 := hc 0 x hx
    rw [show ad.add 0 = ad from rfl] at c0
    obtain ⟨e1, e2⟩ := loI_head hx
    obtain ⟨f1, f2⟩ := minF_one x l hx
    have F1 := Lib.hid f1
    have F2 := Lib.hid f2
    rw [e1, e2] at HS
    have HC := Lib.hid hc
    have HN := Lib.hid hn
    clear e1 e2 f1 f2 hx hc hn h
    have hp2 : (0 : Int) < (l.length : Int) := by omega
    go_enter Try.func21, Try.ntmps21
    go_wp2_with fail
    clear c0
    go_loop [3, 4, 5] (fun a b i => ∃ k : Nat, 1 ≤ k ∧ k ≤ l.length ∧ i = .int .i64 k ∧ a = .int .i64 (minF x (l.take k)) ∧ b = .int .i64 (maxF x (l.take k))) (fun _ _ i => l.length - (intOf i).toNat)
    case atStart => exact ⟨1, by omega, by omega, rfl, by rw [F1.out], by rw [F2.out]⟩
    case round =>
      obtain ⟨k, hk1, hk, rfl, rfl, rfl⟩ := hrel
      by_cases hlt : k < l.length
      · obtain ⟨y, hy⟩ : ∃ y, l[k]? = some y := ⟨_, List.getElem?_eq_getElem hlt⟩
        have hck := HC.out k y hy
        have T1 := Lib.hid (minF_take x l k y hy)
        have T2 := Lib.hid (maxF_take x l k y hy)
        have hkI : (k : Int) < (l.length : Int) := by omega
        clear hy
        generalize minF x (l.take k) = p at *
        generalize maxF x (l.take k) = q at *
        go_wp2_with fail
        go_round
        case rel => exact ⟨k + 1, by omega, by omega, by go_num, by rw [T1.out, min_go], by rw [T2.out, max_go]⟩
        case measure => simp [intOf]; omega
      · have ek : k = l.length := by omega
        subst ek
        rw [List.take_length]
        generalize minF x l = p at *
        generalize maxF x l = q at *
        go_wp2_with fail
        go_ret
        exact ⟨ret_i HS.out.symm, rfl⟩

end Go.Proofs.Ytllbhbekpnmlnaa

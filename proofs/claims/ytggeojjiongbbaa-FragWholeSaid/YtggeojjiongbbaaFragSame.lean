/-
  What was gathered, compared.
-/
import Derived.Test.YtggeojjiongbbaaFragMay
namespace Go.Proofs.Ytggeojjiongbbaa
open Go.RowKit

def sameG (i q : Int) (a : List ByteArray) (j r : Int) (b : List ByteArray) : Bool := decide (i = j) && (decide (q = r) && decide (a = b))
theorem sameG_iff (i q : Int) (a : List ByteArray) (j r : Int) (b : List ByteArray) : sameG i q a j r b = true ↔ i = j ∧ q = r ∧ a = b := by unfold sameG; simp
theorem toL_inj {x y : ByteArray} (h : x.toList = y.toList) : x = y := by
  rw [ByteArray.toList_eq, ByteArray.toList_eq] at h
  exact ByteArray.ext (Array.toList_inj.1 h)
theorem drew_on {B : Nat} {a w : World} (h : Below B a w) (n : Nat) : Below B a (w.drewN n) := h.trans ⟨rfl, rfl, rfl, Nat.le_refl _, fun _ _ => rfl⟩
theorem neq_at {a b : List ByteArray} {k : Nat} {x y : ByteArray} (hx : a[k]? = some x) (hy : b[k]? = some y) (h : x ≠ y) : a ≠ b := by
  rintro rfl
  rw [hx] at hy
  injection hy with hy
  exact h hy
theorem eq_take {a b : List ByteArray} {k : Nat} {x y : ByteArray} (hx : a[k]? = some x) (hy : b[k]? = some y) (h : a.take k = b.take k) (e : x = y) : a.take (k + 1) = b.take (k + 1) := by
  rw [List.take_add_one, List.take_add_one, hx, hy, h, e]

set_option maxRecDepth 100000 in
set_option maxHeartbeats 2000000 in
theorem refSame_any (A A' : Option Addr) (c c' : Nat) (i q j r : Int) (a b : List ByteArray) (w : World) (hA : Strs w w.heap.size A a) (hA' : Strs w w.heap.size A' b) (hl : a.length ≤ maxLen) (hl' : b.length ≤ maxLen) :
    Calls Try.prog 30 #[.agg #[.int .i64 i, .int .i64 q, .slice A a.length c], .agg #[.int .i64 j, .int .i64 r, .slice A' b.length c']] w fun e w' => e = .returned (.bool (sameG i q a j r b)) ∧ Below w.heap.size w w' := by
  unfold maxLen at hl hl'
  have hW := Joins.below_alloc1 w (.cells #[.int .i64 i, .int .i64 q, .slice A a.length c] 46)
  have hb : (w.alloc (.cells #[.int .i64 i, .int .i64 q, .slice A a.length c] 46)).heap[w.heap.size]? = some (.cells #[.int .i64 i, .int .i64 q, .slice A a.length c] 46 (0, 0)) := heap_alloc_new w _
  have hsz : (w.alloc (.cells #[.int .i64 i, .int .i64 q, .slice A a.length c] 46)).heap.size = w.heap.size + 1 := by simp
  obtain ⟨D, hD⟩ : ∃ D, D = sameG i q a j r b := ⟨_, rfl⟩
  have HDI : Hid (D = true ↔ i = j ∧ q = r ∧ a = b) := Lib.hid (by rw [hD]; exact sameG_iff ..)
  rw [← hD]
  clear hD
  generalize hW1 : w.alloc (.cells #[.int .i64 i, .int .i64 q, .slice A a.length c] 46) = W1 at *
  have hV := Joins.below_alloc1 W1 (.cells #[.int .i64 j, .int .i64 r, .slice A' b.length c'] 46)
  have hd : (W1.alloc (.cells #[.int .i64 j, .int .i64 r, .slice A' b.length c'] 46)).heap[W1.heap.size]? = some (.cells #[.int .i64 j, .int .i64 r, .slice A' b.length c'] 46 (0, 0)) := heap_alloc_new W1 _
  have hb2 := (hV.block w.heap.size (by omega)).trans hb
  have hWV := hW.trans (hV.mono (by omega))
  generalize hW2 : W1.alloc (.cells #[.int .i64 j, .int .i64 r, .slice A' b.length c'] 46) = W2 at *
  have x0 : W2.cell? ⟨w.heap.size, 0, none⟩ = some (.int .i64 i) := (cell_of hb2 0).trans rfl
  have x1 : W2.cell? ⟨w.heap.size, 1, none⟩ = some (.int .i64 q) := (cell_of hb2 1).trans rfl
  have x2 : W2.cell? ⟨w.heap.size, 2, none⟩ = some (.slice A a.length c) := (cell_of hb2 2).trans rfl
  have y0 : W2.cell? ⟨W1.heap.size, 0, none⟩ = some (.int .i64 j) := (cell_of hd 0).trans rfl
  have y1 : W2.cell? ⟨W1.heap.size, 1, none⟩ = some (.int .i64 r) := (cell_of hd 1).trans rfl
  have y2 : W2.cell? ⟨W1.heap.size, 2, none⟩ = some (.slice A' b.length c') := (cell_of hd 2).trans rfl
  rw [hsz] at y0 y1 y2
  have hS := hA.below hWV (Nat.le_refl _)
  have hS' := hA'.below hWV (Nat.le_refl _)
  have HWV := Lib.hid hWV
  clear hb hd hb2 hV hW hA hA' hWV
  by_cases hi : i = j
  · have hib : ((i : Int) != j) = false := by rw [hi]; simp
    have HI := Lib.hid hi; clear hi
    by_cases hq : q = r
    · have hqb : ((q : Int) != r) = false := by rw [hq]; simp
      have HQ := Lib.hid hq; clear hq
      by_cases hab : a.length = b.length
      · have HL := Lib.hid hab
        have hbne : ((a.length : Int) != b.length) = false := by rw [hab]; simp
        clear hab
        go_enter Try.func30, Try.ntmps30
        go_wp2
        clear hW1 hW2
        go_loopw [5] (fun ix wr => ∃ k : Nat, k ≤ a.length ∧ ix = .int .i64 k ∧ a.take k = b.take k ∧ ∃ n, wr = W2.drewN n) (fun ix _ => a.length - (intOf ix).toNat)
        case atStart => exact ⟨0, by omega, rfl, by simp, 0, rfl⟩
        case round =>
          obtain ⟨k, hk, rfl, ht, n, rfl⟩ := hrel
          have HT := Lib.hid ht; clear ht
          by_cases hlt : k < a.length
          · have hlt2 : k < b.length := by have := HL.out; omega
            obtain ⟨x, hx⟩ : ∃ x, a[k]? = some x := ⟨_, List.getElem?_eq_getElem hlt⟩
            obtain ⟨y, hy⟩ : ∃ y, b[k]? = some y := ⟨_, List.getElem?_eq_getElem hlt2⟩
            obtain ⟨ad, rfl, _, hc⟩ := hS (by omega)
            obtain ⟨ad', rfl, _, hc'⟩ := hS' (by omega)
            have hck := hc k x hx
            have hck' := hc' k y hy
            have HX := Lib.hid hx
            have HY := Lib.hid hy
            clear hc hc' hx hy hS hS'
            by_cases hxy : x = y
            · subst hxy
              go_wp2_with fail
              go_quiet (fail)
              go_wp2_with fail
              go_roundw
              case rel => exact ⟨k + 1, by omega, by go_num, eq_take HX.out HY.out HT.out rfl, _, rfl⟩
              case measure => simp [intOf]; omega
            · have HN := Lib.hid hxy
              have hbe : (x.toList == y.toList) = false := by
                rw [← Bool.not_eq_true, beq_iff_eq]; exact fun h => hxy (toL_inj h)
              clear hxy
              go_wp2_with fail
              go_quiet (fail)
              go_wp2_with fail
              go_ret
              exact ⟨ret_b (by symm; rw [← Bool.not_eq_true, HDI.out]; exact fun h => neq_at HX.out HY.out HN.out h.2.2), drew_on (drew_on HWV.out n) nq⟩
          · have ek : k = a.length := by omega
            subst ek
            go_wp2
            go_ret
            refine ⟨ret_b ?_, drew_on HWV.out n⟩
            have h1 := HT.out
            rw [List.take_length, HL.out, List.take_length] at h1
            exact (HDI.out.2 ⟨HI.out, HQ.out, h1⟩).symm
      · have hbne : ((a.length : Int) != b.length) = true := by simp; omega
        have HN : Hid (D = false) := Lib.hid (by rw [← Bool.not_eq_true, HDI.out]; exact fun e => hab (by rw [e.2.2]))
        clear hab
        go_enter Try.func30, Try.ntmps30
        go_wp2_with fail
        go_ret
        exact ⟨ret_b HN.out.symm, HWV.out⟩
    · have HN : Hid (D = false) := Lib.hid (by rw [← Bool.not_eq_true, HDI.out]; exact fun e => hq e.2.1)
      have hqb : ((q : Int) != r) = true := by simpa using hq
      clear hq
      go_enter Try.func30, Try.ntmps30
      go_wp2_with fail
      go_ret
      exact ⟨ret_b HN.out.symm, HWV.out⟩
  · have HN : Hid (D = false) := Lib.hid (by rw [← Bool.not_eq_true, HDI.out]; exact fun e => hi e.1)
    have hib : ((i : Int) != j) = true := by simpa using hi
    clear hi
    go_enter Try.func30, Try.ntmps30
    go_wp2_with fail
    go_ret
    exact ⟨ret_b HN.out.symm, HWV.out⟩

end Go.Proofs.Ytggeojjiongbbaa

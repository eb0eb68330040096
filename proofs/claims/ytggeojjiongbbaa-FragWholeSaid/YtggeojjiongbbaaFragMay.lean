/-
  What may be gathered, by the document.
-/
import Derived.Test.YtggeojjiongbbaaFragBase
namespace Go.Proofs.Ytggeojjiongbbaa
open Go.RowKit

/-- A list of texts as it lies in memory, below block B. -/
def Strs (w : World) (B : Nat) (A : Option Addr) (l : List ByteArray) : Prop :=
  0 < l.length → ∃ ad, A = some ad ∧ ad.block < B ∧ ∀ j d, l[j]? = some d → w.cell? (ad.add j) = some (.string d)
theorem adb_s (a : Addr) (n : Nat) : (a.add n).block = a.block := by unfold Addr.add; split <;> rfl
theorem Strs.keep {w w' : World} {B : Nat} {A : Option Addr} {l : List ByteArray} (h : Strs w B A l) (hk : ∀ p : Addr, p.block < B → w'.cell? p = w.cell? p) : Strs w' B A l := fun hn => by
  obtain ⟨ad, e, hb, hc⟩ := h hn
  exact ⟨ad, e, hb, fun j m hm => (hk (ad.add j) (by rw [adb_s]; exact hb)).trans (hc j m hm)⟩
theorem Strs.below {w w' : World} {B B' : Nat} {A : Option Addr} {l : List ByteArray} (h : Strs w B A l) (hb : Below B' w w') (hB : B ≤ B') : Strs w' B A l :=
  h.keep fun _ hp => hb.cell (Nat.lt_of_lt_of_le hp hB)

theorem cell_of {w : World} {g : Nat} {C : Array Value} {T : TypeId} (h : w.heap[g]? = some (.cells C T (0, 0))) (i : Nat) : w.cell? ⟨g, i, none⟩ = C[i]? := by simp [World.cell?, h]
def fullB (d : ByteArray) : Bool := !d.toList.isEmpty
def mayB (i q : Int) (l : List ByteArray) : Bool :=
  if i = 0 ∧ q = 0 then decide (l.length = 0) else l.all (fun d => decide (d.size ≤ 16)) && (smallB i && (smallB q && (decide (l.length ≤ 20) && l.any fullB)))
theorem all_take {l : List ByteArray} {k : Nat} {d : ByteArray} (hd : l[k]? = some d) (h : (l.take k).all (fun d => decide (d.size ≤ 16)) = true) (hs : d.size ≤ 16) : (l.take (k + 1)).all (fun d => decide (d.size ≤ 16)) = true := by
  rw [List.take_add_one, hd, List.all_append, h]; simp [hs]
theorem any_take {l : List ByteArray} {k : Nat} {d : ByteArray} (hd : l[k]? = some d) : (l.take (k + 1)).any fullB = ((l.take k).any fullB || fullB d) := by
  rw [List.take_add_one, hd, List.any_append]; simp
theorem all_not {l : List ByteArray} {k : Nat} {d : ByteArray} (hd : l[k]? = some d) (hs : ¬ d.size ≤ 16) : l.all (fun d => decide (d.size ≤ 16)) = false := by
  rw [← Bool.not_eq_true, List.all_eq_true]
  intro h
  have := h d (List.mem_of_getElem? hd)
  simp at this; omega

set_option maxRecDepth 100000 in
set_option maxHeartbeats 2000000 in
theorem refMay_any (A : Option Addr) (c : Nat) (i q : Int) (l : List ByteArray) (w : World) (hA : Strs w w.heap.size A l) (hl : l.length ≤ maxLen) :
    Calls Try.prog 27 #[.agg #[.int .i64 i, .int .i64 q, .slice A l.length c]] w fun e w' => e = .returned (.bool (mayB i q l)) ∧ Below w.heap.size w w' := by
  unfold maxLen at hl
  have HW := Lib.hid (Joins.below_alloc1 w (.cells #[.int .i64 i, .int .i64 q, .slice A l.length c] 46))
  have hS := hA.below HW.out (Nat.le_refl _)
  have hb : (w.alloc (.cells #[.int .i64 i, .int .i64 q, .slice A l.length c] 46)).heap[w.heap.size]? = some (.cells #[.int .i64 i, .int .i64 q, .slice A l.length c] 46 (0, 0)) := heap_alloc_new w _
  obtain ⟨R, hR⟩ : ∃ R, R = mayB i q l := ⟨_, rfl⟩
  rw [← hR]
  have ci := fun w => refSmall5_any i w
  have cq := fun w => refSmall5_any q w
  by_cases h0 : i = 0 ∧ q = 0
  · have HR : Hid (R = decide (l.length = 0)) := Lib.hid (by rw [hR]; unfold mayB; rw [if_pos h0])
    clear hR hb hS ci cq
    obtain ⟨rfl, rfl⟩ := h0
    go_enter Try.func27, Try.ntmps27
    go_wp2_with fail
    go_ret
    refine ⟨ret_b ?_, HW.out⟩
    rw [HR.out, Bool.eq_iff_iff]
    simp
  · have HR : Hid (R = (l.all (fun d => decide (d.size ≤ 16)) && (smallB i && (smallB q && (decide (l.length ≤ 20) && l.any fullB))))) := Lib.hid (by rw [hR]; unfold mayB; rw [if_neg h0])
    clear hR
    have x0 : (w.alloc (.cells #[.int .i64 i, .int .i64 q, .slice A l.length c] 46)).cell? ⟨w.heap.size, 0, none⟩ = some (.int .i64 i) := (cell_of hb 0).trans rfl
    have x1 : (w.alloc (.cells #[.int .i64 i, .int .i64 q, .slice A l.length c] 46)).cell? ⟨w.heap.size, 1, none⟩ = some (.int .i64 q) := (cell_of hb 1).trans rfl
    have x2 : (w.alloc (.cells #[.int .i64 i, .int .i64 q, .slice A l.length c] 46)).cell? ⟨w.heap.size, 2, none⟩ = some (.slice A l.length c) := (cell_of hb 2).trans rfl
    have HS := Lib.hid hS
    clear hA hS hb
    generalize smallB i = si at *
    generalize smallB q = sq at *
    have hh : i ≠ 0 ∨ (i = 0 ∧ q ≠ 0) := by omega
    clear h0
    have hlen := hl
    generalize hWW : w.alloc (.cells #[.int .i64 i, .int .i64 q, .slice A l.length c] 46) = W at *
    rcases hh with hi | ⟨hi, hq⟩
    · go_enter Try.func27, Try.ntmps27
      go_wp2
      clear hWW hi
      go_loopw [3, 4] (fun sm ix wr => ∃ k : Nat, k ≤ l.length ∧ ix = .int .i64 k ∧ sm = .bool ((l.take k).any fullB) ∧ (l.take k).all (fun d => decide (d.size ≤ 16)) = true ∧ wr = W) (fun _ ix _ => l.length - (intOf ix).toNat)
      case atStart => exact ⟨0, by omega, rfl, rfl, rfl, rfl⟩
      case round =>
        obtain ⟨k, hk, rfl, rfl, ht, rfl⟩ := hrel
        by_cases hlt : k < l.length
        · obtain ⟨d, hd⟩ : ∃ d, l[k]? = some d := ⟨_, List.getElem?_eq_getElem hlt⟩
          obtain ⟨ad, rfl, _, hc⟩ := HS.out (by omega)
          have hck := hc k d hd
          have ha := any_take hd
          have hn := all_not hd
          have hp := all_take hd ht
          clear hc
          generalize (l.take k).any fullB = sb at *
          have HT := Lib.hid ht; clear ht
          have HD := Lib.hid hd; clear hd
          by_cases hz : d.size ≤ 16
          · have HP := Lib.hid (hp hz)
            have hz' : (d.size : Int) ≤ 16 := by omega
            clear hn hp
            have HA := Lib.hid ha; clear ha
            cases sb
            · go_wp2_with fail
              go_roundw
              case rel => exact ⟨k + 1, by omega, by go_num, congrArg Value.bool (HA.out.trans (by simp [fullB])).symm, HP.out, trivial⟩
              case measure => simp [intOf]; omega
            · go_wp2_with fail
              go_roundw
              case rel => exact ⟨k + 1, by omega, by go_num, congrArg Value.bool (HA.out.trans (by simp)).symm, HP.out, trivial⟩
              case measure => simp [intOf]; omega
          · have HN := Lib.hid (hn hz)
            have hz' : (16 : Int) < d.size := by omega
            clear hn hp ha
            go_wp2_with fail
            go_ret
            exact ⟨ret_b (by rw [HR.out, HN.out]; rfl), HW.out⟩
        · have ek : k = l.length := by omega
          subst ek
          rw [List.take_length] at ht
          rw [List.take_length]
          rw [ht] at HR
          generalize l.any fullB = sb at *
          by_cases h20 : l.length ≤ 20
          · have h20' : (l.length : Int) ≤ 20 := by omega
            have HQ : Hid (R = (si && (sq && sb))) := Lib.hid (by rw [HR.out]; simp [h20])
            clear HR
            cases si <;> cases sq <;> cases sb
            all_goals
              go_wp2_with fail
              refine (ci _).mono ?_; rintro e w1 ⟨rfl, rfl⟩
              go_wp2_with fail
              try (refine (cq _).mono ?_; rintro e w1 ⟨rfl, rfl⟩; go_wp2_with fail)
              go_ret
              exact ⟨ret_b (by rw [HQ.out]; rfl), HW.out⟩
          · have h20' : (20 : Int) < (l.length : Int) := by omega
            have HQ : Hid (R = false) := Lib.hid (by rw [HR.out]; simp [h20])
            clear HR
            cases si <;> cases sq <;> cases sb
            all_goals
              go_wp2_with fail
              refine (ci _).mono ?_; rintro e w1 ⟨rfl, rfl⟩
              go_wp2_with fail
              try (refine (cq _).mono ?_; rintro e w1 ⟨rfl, rfl⟩; go_wp2_with fail)
              go_ret
              exact ⟨ret_b (by rw [HQ.out]), HW.out⟩
    · subst hi
      go_enter Try.func27, Try.ntmps27
      go_wp2
      clear hWW hq
      go_loopw [3, 4] (fun sm ix wr => ∃ k : Nat, k ≤ l.length ∧ ix = .int .i64 k ∧ sm = .bool ((l.take k).any fullB) ∧ (l.take k).all (fun d => decide (d.size ≤ 16)) = true ∧ wr = W) (fun _ ix _ => l.length - (intOf ix).toNat)
      case atStart => exact ⟨0, by omega, rfl, rfl, rfl, rfl⟩
      case round =>
        obtain ⟨k, hk, rfl, rfl, ht, rfl⟩ := hrel
        by_cases hlt : k < l.length
        · obtain ⟨d, hd⟩ : ∃ d, l[k]? = some d := ⟨_, List.getElem?_eq_getElem hlt⟩
          obtain ⟨ad, rfl, _, hc⟩ := HS.out (by omega)
          have hck := hc k d hd
          have ha := any_take hd
          have hn := all_not hd
          have hp := all_take hd ht
          clear hc
          generalize (l.take k).any fullB = sb at *
          have HT := Lib.hid ht; clear ht
          have HD := Lib.hid hd; clear hd
          by_cases hz : d.size ≤ 16
          · have HP := Lib.hid (hp hz)
            have hz' : (d.size : Int) ≤ 16 := by omega
            clear hn hp
            have HA := Lib.hid ha; clear ha
            cases sb
            · go_wp2_with fail
              go_roundw
              case rel => exact ⟨k + 1, by omega, by go_num, congrArg Value.bool (HA.out.trans (by simp [fullB])).symm, HP.out, trivial⟩
              case measure => simp [intOf]; omega
            · go_wp2_with fail
              go_roundw
              case rel => exact ⟨k + 1, by omega, by go_num, congrArg Value.bool (HA.out.trans (by simp)).symm, HP.out, trivial⟩
              case measure => simp [intOf]; omega
          · have HN := Lib.hid (hn hz)
            have hz' : (16 : Int) < d.size := by omega
            clear hn hp ha
            go_wp2_with fail
            go_ret
            exact ⟨ret_b (by rw [HR.out, HN.out]; rfl), HW.out⟩
        · have ek : k = l.length := by omega
          subst ek
          rw [List.take_length] at ht
          rw [List.take_length]
          rw [ht] at HR
          generalize l.any fullB = sb at *
          by_cases h20 : l.length ≤ 20
          · have h20' : (l.length : Int) ≤ 20 := by omega
            have HQ : Hid (R = (si && (sq && sb))) := Lib.hid (by rw [HR.out]; simp [h20])
            clear HR
            cases si <;> cases sq <;> cases sb
            all_goals
              go_wp2_with fail
              refine (ci _).mono ?_; rintro e w1 ⟨rfl, rfl⟩
              go_wp2_with fail
              try (refine (cq _).mono ?_; rintro e w1 ⟨rfl, rfl⟩; go_wp2_with fail)
              go_ret
              exact ⟨ret_b (by rw [HQ.out]; rfl), HW.out⟩
          · have h20' : (20 : Int) < (l.length : Int) := by omega
            have HQ : Hid (R = false) := Lib.hid (by rw [HR.out]; simp [h20])
            clear HR
            cases si <;> cases sq <;> cases sb
            all_goals
              go_wp2_with fail
              refine (ci _).mono ?_; rintro e w1 ⟨rfl, rfl⟩
              go_wp2_with fail
              try (refine (cq _).mono ?_; rintro e w1 ⟨rfl, rfl⟩; go_wp2_with fail)
              go_ret
              exact ⟨ret_b (by rw [HQ.out]), HW.out⟩
end Go.Proofs.Ytggeojjiongbbaa

/-
  The library's IndexFunc, ContainsFunc, Index and Contains on texts, as the program calls for them; its May.
-/
import Derived.Test.YtggeojjiongbbaaFragSmall
import Derived.Test.YtggeojjiongbbaaFragText
import Derived.Test.YtggeojjiongbbaaFragWhole
namespace Go.Proofs.Ytggeojjiongbbaa
open Go.RowKit

/-- An index, or -1. -/
def IdxPost (b : Bool) (w : World) (e : Ending) (w' : World) : Prop := ∃ i : Int, e = .returned (.int .i64 i) ∧ decide (0 ≤ i) = b ∧ w = w'
theorem idx_at {i : Int} {b : Bool} {w : World} (h : 0 ≤ i) (hb : b = true) : IdxPost b w (.returned (.int .i64 i)) w := ⟨i, rfl, by rw [hb]; simpa using h, rfl⟩
theorem idx_none {b : Bool} {w : World} (hb : b = false) : IdxPost b w (.returned (.int .i64 (-1))) w := ⟨-1, rfl, by rw [hb]; rfl, rfl⟩

set_option maxRecDepth 100000 in
set_option maxHeartbeats 1000000 in
theorem indexFunc_long (A : Option Addr) (c B : Nat) (l : List ByteArray) (w : World) (h : Strs w B A l) (hl : l.length ≤ maxLen) (hz : ∀ d ∈ l, d.size ≤ maxLen) :
    Calls Try.prog 52 #[.slice A l.length c, .func (.func 41) #[] #[]] w (IdxPost (l.any longB) w) := by
  unfold maxLen at hl
  have cf := fun (d : ByteArray) (w : World) (hd : d.size ≤ maxLen) => long_any d w hd
  obtain ⟨R, hR⟩ : ∃ R, R = l.any longB := ⟨_, rfl⟩
  rw [← hR]
  have HR := Lib.hid hR; clear hR
  have HZ := Lib.hid hz; clear hz
  have hlen := hl
  go_enter Try.func52, Try.ntmps52
  go_wp2
  go_loopw [8] (fun ix wr => ∃ k : Nat, k ≤ l.length ∧ ix = .int .i64 k ∧ (l.take k).any longB = false ∧ w = wr) (fun ix _ => l.length - (intOf ix).toNat)
  case atStart => exact ⟨0, by omega, rfl, rfl, rfl⟩
  case round =>
    obtain ⟨k, hk, rfl, ht, rfl⟩ := hrel
    by_cases hlt : k < l.length
    · obtain ⟨d, hd⟩ : ∃ d, l[k]? = some d := ⟨_, List.getElem?_eq_getElem hlt⟩
      obtain ⟨ad, rfl, _, hc⟩ := h (by omega)
      have hck := hc k d hd
      have hs := HZ.out d (List.mem_of_getElem? hd)
      have c1 := fun w => cf d w hs
      have hp : (l.take (k + 1)).any longB = longB d := by rw [List.take_add_one, hd, List.any_append, ht]; simp
      have ha : longB d = true → l.any longB = true := fun hh => List.any_eq_true.2 ⟨d, List.mem_of_getElem? hd, hh⟩
      have HP := Lib.hid hp; clear hp ht
      have HA := Lib.hid ha; clear ha
      clear hc hd cf hs
      generalize longB d = b at *
      cases b
      · go_wp2_with fail; refine (c1 _).mono ?_; rintro e w1 ⟨rfl, rfl⟩
        go_wp2_with fail
        go_roundw
        case rel => exact ⟨k + 1, by omega, by go_num, HP.out, trivial⟩
        case measure => simp [intOf]; omega
      · go_wp2_with fail; refine (c1 _).mono ?_; rintro e w1 ⟨rfl, rfl⟩
        go_wp2_with fail
        go_ret
        exact idx_at (by omega) (HR.out.trans (HA.out (by trivial)))
    · have ek : k = l.length := by omega
      subst ek
      rw [List.take_length] at ht
      rw [ht] at HR
      clear ht
      go_wp2_with fail
      go_ret
      exact idx_none HR.out
set_option maxHeartbeats 1000000 in
theorem containsFunc_long (A : Option Addr) (c B : Nat) (l : List ByteArray) (w : World) (h : Strs w B A l) (hl : l.length ≤ maxLen) (hz : ∀ d ∈ l, d.size ≤ maxLen) :
    Calls Try.prog 40 #[.slice A l.length c, .func (.func 41) #[] #[]] w fun e w' => e = .returned (.bool (l.any longB)) ∧ w = w' := by
  have ci := fun w h => indexFunc_long A c B l w h hl hz
  generalize l.any longB = R at *
  go_enter Try.func40, Try.ntmps40
  go_wp2_with fail; refine (ci _ h).mono ?_; rintro e w1 ⟨i, rfl, hi, rfl⟩
  have HI := Lib.hid hi; clear hi
  go_wp2_with fail
  go_ret
  exact ⟨ret_b HI.out, rfl⟩

set_option maxRecDepth 100000 in
set_option maxHeartbeats 1000000 in
theorem indexFunc_there (A : Option Addr) (c B : Nat) (l : List ByteArray) (w : World) (h : Strs w B A l) (hl : l.length ≤ maxLen) (hz : ∀ d ∈ l, d.size ≤ maxLen) :
    Calls Try.prog 52 #[.slice A l.length c, .func (.func 42) #[] #[]] w (IdxPost (l.any fullB) w) := by
  unfold maxLen at hl
  have cf := fun (d : ByteArray) (w : World) (_ : d.size ≤ maxLen) => there_any d w
  obtain ⟨R, hR⟩ : ∃ R, R = l.any fullB := ⟨_, rfl⟩
  rw [← hR]
  have HR := Lib.hid hR; clear hR
  have HZ := Lib.hid hz; clear hz
  have hlen := hl
  go_enter Try.func52, Try.ntmps52
  go_wp2
  go_loopw [8] (fun ix wr => ∃ k : Nat, k ≤ l.length ∧ ix = .int .i64 k ∧ (l.take k).any fullB = false ∧ w = wr) (fun ix _ => l.length - (intOf ix).toNat)
  case atStart => exact ⟨0, by omega, rfl, rfl, rfl⟩
  case round =>
    obtain ⟨k, hk, rfl, ht, rfl⟩ := hrel
    by_cases hlt : k < l.length
    · obtain ⟨d, hd⟩ : ∃ d, l[k]? = some d := ⟨_, List.getElem?_eq_getElem hlt⟩
      obtain ⟨ad, rfl, _, hc⟩ := h (by omega)
      have hck := hc k d hd
      have hs := HZ.out d (List.mem_of_getElem? hd)
      have c1 := fun w => cf d w hs
      have hp : (l.take (k + 1)).any fullB = fullB d := by rw [List.take_add_one, hd, List.any_append, ht]; simp
      have ha : fullB d = true → l.any fullB = true := fun hh => List.any_eq_true.2 ⟨d, List.mem_of_getElem? hd, hh⟩
      have HP := Lib.hid hp; clear hp ht
      have HA := Lib.hid ha; clear ha
      clear hc hd cf hs
      generalize fullB d = b at *
      cases b
      · go_wp2_with fail; refine (c1 _).mono ?_; rintro e w1 ⟨rfl, rfl⟩
        go_wp2_with fail
        go_roundw
        case rel => exact ⟨k + 1, by omega, by go_num, HP.out, trivial⟩
        case measure => simp [intOf]; omega
      · go_wp2_with fail; refine (c1 _).mono ?_; rintro e w1 ⟨rfl, rfl⟩
        go_wp2_with fail
        go_ret
        exact idx_at (by omega) (HR.out.trans (HA.out (by trivial)))
    · have ek : k = l.length := by omega
      subst ek
      rw [List.take_length] at ht
      rw [ht] at HR
      clear ht
      go_wp2_with fail
      go_ret
      exact idx_none HR.out
set_option maxHeartbeats 1000000 in
theorem containsFunc_there (A : Option Addr) (c B : Nat) (l : List ByteArray) (w : World) (h : Strs w B A l) (hl : l.length ≤ maxLen) (hz : ∀ d ∈ l, d.size ≤ maxLen) :
    Calls Try.prog 40 #[.slice A l.length c, .func (.func 42) #[] #[]] w fun e w' => e = .returned (.bool (l.any fullB)) ∧ w = w' := by
  have ci := fun w h => indexFunc_there A c B l w h hl hz
  generalize l.any fullB = R at *
  go_enter Try.func40, Try.ntmps40
  go_wp2_with fail; refine (ci _ h).mono ?_; rintro e w1 ⟨i, rfl, hi, rfl⟩
  have HI := Lib.hid hi; clear hi
  go_wp2_with fail
  go_ret
  exact ⟨ret_b HI.out, rfl⟩

def goneB (d : ByteArray) : Bool := d.toList.isEmpty
theorem gone_full (l : List ByteArray) : l.all fullB = !l.any goneB := by
  rw [List.not_any_eq_all_not]; rfl
set_option maxRecDepth 100000 in
set_option maxHeartbeats 1000000 in
theorem index_gone (A : Option Addr) (c B : Nat) (l : List ByteArray) (w : World) (h : Strs w B A l) (hl : l.length ≤ maxLen) :
    Calls Try.prog 47 #[.slice A l.length c, .string ⟨#[]⟩] w (IdxPost (l.any goneB) w) := by
  unfold maxLen at hl
  obtain ⟨R, hR⟩ : ∃ R, R = l.any goneB := ⟨_, rfl⟩
  rw [← hR]
  have HR := Lib.hid hR; clear hR
  have hlen := hl
  go_enter Try.func47, Try.ntmps47
  go_wp2
  go_loopw [8] (fun ix wr => ∃ k : Nat, k ≤ l.length ∧ ix = .int .i64 k ∧ (l.take k).any goneB = false ∧ w = wr) (fun ix _ => l.length - (intOf ix).toNat)
  case atStart => exact ⟨0, by omega, rfl, rfl, rfl⟩
  case round =>
    obtain ⟨k, hk, rfl, ht, rfl⟩ := hrel
    by_cases hlt : k < l.length
    · obtain ⟨d, hd⟩ : ∃ d, l[k]? = some d := ⟨_, List.getElem?_eq_getElem hlt⟩
      obtain ⟨ad, rfl, _, hc⟩ := h (by omega)
      have hck := hc k d hd
      have hp : (l.take (k + 1)).any goneB = goneB d := by rw [List.take_add_one, hd, List.any_append, ht]; simp
      have ha : goneB d = true → l.any goneB = true := fun hh => List.any_eq_true.2 ⟨d, List.mem_of_getElem? hd, hh⟩
      have HP := Lib.hid hp; clear hp ht
      have HA := Lib.hid ha; clear ha
      clear hc hd
      cases hb : goneB d
      · rw [hb] at HP
        have h1 : (([] : List UInt8) == d.toList) = false := by
          unfold goneB at hb
          cases hd : d.toList with
          | nil => rw [hd] at hb; cases hb
          | cons x t => rfl
        have h2 : d.toList.isEmpty = false := hb
        clear hb
        go_wp2_with fail
        go_roundw
        case rel => exact ⟨k + 1, by omega, by go_num, HP.out, trivial⟩
        case measure => simp [intOf]; omega
      · have HB := Lib.hid hb
        have h1 : d.toList = [] := by
          unfold goneB at hb
          simpa using hb
        have h2 : (([] : List UInt8) == d.toList) = true := by rw [h1]; rfl
        clear hb
        go_wp2_with fail
        go_ret
        exact idx_at (by omega) (HR.out.trans (HA.out HB.out))
    · have ek : k = l.length := by omega
      subst ek
      rw [List.take_length] at ht
      rw [ht] at HR
      clear ht
      go_wp2_with fail
      go_ret
      exact idx_none HR.out
set_option maxHeartbeats 1000000 in
theorem contains_gone (A : Option Addr) (c B : Nat) (l : List ByteArray) (w : World) (h : Strs w B A l) (hl : l.length ≤ maxLen) :
    Calls Try.prog 36 #[.slice A l.length c, .string ⟨#[]⟩] w fun e w' => e = .returned (.bool (l.any goneB)) ∧ w = w' := by
  have ci := fun w h => index_gone A c B l w h hl
  generalize l.any goneB = R at *
  go_enter Try.func36, Try.ntmps36
  go_wp2_with fail; refine (ci _ h).mono ?_; rintro e w1 ⟨i, rfl, hi, rfl⟩
  have HI := Lib.hid hi; clear hi
  go_wp2_with fail
  go_ret
  exact ⟨ret_b HI.out, rfl⟩

/-- The program's May, as one test behind the other. -/
theorem may_parts (i q : Int) (l : List ByteArray) (h : ¬ (i = 0 ∧ q = 0)) : mayB i q l = (uptoB 65535 i && (uptoB 65535 q && (uptoB 20 l.length && ((!l.any longB) && l.any fullB)))) := by
  unfold mayB
  rw [if_neg h]
  have e1 : l.all (fun d => decide (d.size ≤ 16)) = !l.any longB := by
    rw [List.not_any_eq_all_not]; unfold longB; simp
  rw [e1, upto_small, upto_small]
  cases hf : l.any fullB
  · simp
  · have hne : 1 ≤ l.length := by
      cases l with
      | nil => simp at hf
      | cons x t => simp
    have e2 : decide (l.length ≤ 20) = uptoB 20 l.length := by
      unfold uptoB
      have : decide ((1 : Int) ≤ (l.length : Int)) = true := by simp; omega
      rw [this, Bool.true_and, decide_eq_decide]; omega
    rw [e2]
    cases l.any longB <;> cases smallB i <;> cases smallB q <;> cases uptoB 20 l.length <;> rfl
theorem textOf_any (i q : Int) (S : Value) (w : World) :
    Calls Try.prog 39 #[.agg #[.int .i64 i, .int .i64 q, S]] w fun e w' => e = .returned (tv i q) ∧ Below w.heap.size w w' := by
  have HW := Joins.below_alloc1 w (.cells #[.int .i64 i, .int .i64 q, S] 46)
  go_enter Try.func39, Try.ntmps39
  go_wp2_with fail
  exact bodyPost_ret (v := tv i q) (by simp [results, Try.results39, go_sem]) rfl ⟨rfl, HW.alloc HW.size _⟩

set_option maxRecDepth 100000 in
set_option maxHeartbeats 2000000 in
theorem may_any (A : Option Addr) (c : Nat) (i q : Int) (l : List ByteArray) (w : World) (hA : Strs w w.heap.size A l) (hl : l.length ≤ maxLen) (hz : ∀ d ∈ l, d.size ≤ maxLen) :
    Calls Try.prog 26 #[.agg #[.int .i64 i, .int .i64 q, .slice A l.length c]] w fun e w' => e = .returned (.bool (mayB i q l)) ∧ Below w.heap.size w w' := by
  have hlm := hl
  unfold maxLen at hl
  have HW := Lib.hid (Joins.below_alloc1 w (.cells #[.int .i64 i, .int .i64 q, .slice A l.length c] 46))
  have hS := hA.below HW.out (Nat.le_refl _)
  have hb : (w.alloc (.cells #[.int .i64 i, .int .i64 q, .slice A l.length c] 46)).heap[w.heap.size]? = some (.cells #[.int .i64 i, .int .i64 q, .slice A l.length c] 46 (0, 0)) := heap_alloc_new w _
  have HBK := Lib.hid hb; clear hb
  have HSZ : Hid (w.heap.size < (w.alloc (.cells #[.int .i64 i, .int .i64 q, .slice A l.length c] 46)).heap.size) := Lib.hid (by simp)
  have ct := fun w => textOf_any i q (.slice A l.length c) w
  obtain ⟨R, hR⟩ : ∃ R, R = mayB i q l := ⟨_, rfl⟩
  rw [← hR]
  have HS := Lib.hid hS; clear hS hA
  have c1 := fun w => upTo_any 65535 i w
  have c2 := fun w => upTo_any 65535 q w
  have c3 := fun w => upTo_any 20 l.length w
  have c4 := fun w h => containsFunc_long A c (w : World).heap.size l w h hlm hz
  have c5 := fun w h => containsFunc_there A c (w : World).heap.size l w h hlm hz
  have eg := fun x y a b c d w => eqT_guard .eql x y a b c d w
  have ee := fun w => eqlT i q 0 0 w
  by_cases h0 : i = 0 ∧ q = 0
  · have HR : Hid (R = decide (l.length = 0)) := Lib.hid (by rw [hR]; unfold mayB; rw [if_pos h0])
    clear hR c1 c2 c3 c4 c5
    rw [show sameT i q 0 0 = true by unfold sameT; simp [h0]] at ee
    clear h0
    go_enter Try.func26, Try.ntmps26
    go_wp2_with fail; refine (ct _).mono ?_; rintro e w1 ⟨rfl, b1⟩
    have hb1 := (b1.block w.heap.size HSZ.out).trans HBK.out
    have x2 : w1.cell? ⟨w.heap.size, 2, none⟩ = some (.slice A l.length c) := (cell_of hb1 2).trans rfl
    have HB1 := Lib.hid (HW.out.trans (b1.mono HW.out.size))
    clear hb1 b1
    go_wp2_with fail
    go_ret
    refine ⟨ret_b ?_, HB1.out⟩
    rw [HR.out, Bool.eq_iff_iff]
    simp
  · have hR2 := hR.trans (may_parts i q l h0)
    rw [show sameT i q 0 0 = false by
      unfold sameT
      cases h1 : (i == (0 : Int))
      · rfl
      · cases h2 : (q == (0 : Int))
        · rfl
        · exact absurd ⟨by simpa using h1, by simpa using h2⟩ h0] at ee
    clear hR h0
    have HR := Lib.hid hR2; clear hR2
    generalize uptoB 65535 i = B1 at *
    generalize uptoB 65535 q = B2 at *
    generalize uptoB 20 l.length = B3 at *
    generalize l.any longB = B4 at *
    generalize l.any fullB = B5 at *
    have C4 := Lib.hid c4; clear c4
    have C5 := Lib.hid c5; clear c5
    have HLM := Lib.hid hlm; clear hlm
    have HZ := Lib.hid hz; clear hz
    go_enter Try.func26, Try.ntmps26
    go_wp2_with fail; refine (ct _).mono ?_; rintro e w1 ⟨rfl, b1⟩
    have hb1 := (b1.block w.heap.size HSZ.out).trans HBK.out
    have x0 : w1.cell? ⟨w.heap.size, 0, none⟩ = some (.int .i64 i) := (cell_of hb1 0).trans rfl
    have x1 : w1.cell? ⟨w.heap.size, 1, none⟩ = some (.int .i64 q) := (cell_of hb1 1).trans rfl
    have x2 : w1.cell? ⟨w.heap.size, 2, none⟩ = some (.slice A l.length c) := (cell_of hb1 2).trans rfl
    have HB1 := Lib.hid (HW.out.trans (b1.mono HW.out.size))
    have c4 := C4.out w1 ((HS.out.below b1 (Nat.le_of_lt HSZ.out)).more (Nat.le_trans (Nat.le_of_lt HSZ.out) b1.size))
    have c5 := C5.out w1 ((HS.out.below b1 (Nat.le_of_lt HSZ.out)).more (Nat.le_trans (Nat.le_of_lt HSZ.out) b1.size))
    clear hb1 b1
    cases B1
    · go_wp2_with fail; refine (c1 _).mono ?_; rintro e w2 ⟨rfl, rfl⟩
      go_wp2_with fail
      go_ret
      exact ⟨ret_b (by rw [HR.out]; simp), HB1.out⟩
    · cases B2
      · go_wp2_with fail; refine (c1 _).mono ?_; rintro e w2 ⟨rfl, rfl⟩
        go_wp2_with fail; refine (c2 _).mono ?_; rintro e w2 ⟨rfl, rfl⟩
        go_wp2_with fail
        go_ret
        exact ⟨ret_b (by rw [HR.out]; simp), HB1.out⟩
      · cases B3
        · go_wp2_with fail; refine (c1 _).mono ?_; rintro e w2 ⟨rfl, rfl⟩
          go_wp2_with fail; refine (c2 _).mono ?_; rintro e w2 ⟨rfl, rfl⟩
          go_wp2_with fail; refine (c3 _).mono ?_; rintro e w2 ⟨rfl, rfl⟩
          go_wp2_with fail
          go_ret
          exact ⟨ret_b (by rw [HR.out]; simp), HB1.out⟩
        · cases B4
          · go_wp2_with fail; refine (c1 _).mono ?_; rintro e w2 ⟨rfl, rfl⟩
            go_wp2_with fail; refine (c2 _).mono ?_; rintro e w2 ⟨rfl, rfl⟩
            go_wp2_with fail; refine (c3 _).mono ?_; rintro e w2 ⟨rfl, rfl⟩
            go_wp2_with fail; refine c4.mono ?_; rintro e w2 ⟨rfl, rfl⟩
            go_wp2_with fail; refine c5.mono ?_; rintro e w2 ⟨rfl, rfl⟩
            go_wp2_with fail
            go_ret
            exact ⟨ret_b (by rw [HR.out]; simp), HB1.out⟩
          · go_wp2_with fail; refine (c1 _).mono ?_; rintro e w2 ⟨rfl, rfl⟩
            go_wp2_with fail; refine (c2 _).mono ?_; rintro e w2 ⟨rfl, rfl⟩
            go_wp2_with fail; refine (c3 _).mono ?_; rintro e w2 ⟨rfl, rfl⟩
            go_wp2_with fail; refine c4.mono ?_; rintro e w2 ⟨rfl, rfl⟩
            go_wp2_with fail
            go_ret
            exact ⟨ret_b (by rw [HR.out]; simp), HB1.out⟩

end Go.Proofs.Ytggeojjiongbbaa

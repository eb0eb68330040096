/-
  Is it whole? By the document.
-/
import Derived.Test.YtggeojjiongbbaaFragMay
namespace Go.Proofs.Ytggeojjiongbbaa
open Go.RowKit

theorem Strs.more {w : World} {B B' : Nat} {A : Option Addr} {l : List ByteArray} (h : Strs w B A l) (hB : B ≤ B') : Strs w B' A l := fun hn => by
  obtain ⟨ad, e, hb, hc⟩ := h hn
  exact ⟨ad, e, by omega, hc⟩
def joinT (l : List ByteArray) : ByteArray := l.foldl (fun a b => a ++ b) ⟨#[]⟩
def wholeB (i q : Int) (l : List ByteArray) : Bool := mayB i q l && (decide (0 < l.length) && l.all fullB)
def wholeT (i q : Int) (l : List ByteArray) : ByteArray := if wholeB i q l = true then joinT l else ⟨#[]⟩
theorem may_some {i q : Int} {l : List ByteArray} (h : mayB i q l = true) (hl : 0 < l.length) : l.length ≤ 20 ∧ ∀ d ∈ l, d.size ≤ 16 := by
  unfold mayB at h
  by_cases h0 : i = 0 ∧ q = 0
  · rw [if_pos h0] at h; simp at h; simp [h] at hl
  · rw [if_neg h0] at h
    simp only [Bool.and_eq_true, List.all_eq_true, decide_eq_true_eq] at h
    exact ⟨h.2.2.2.1, h.1⟩
theorem join_take {l : List ByteArray} {k : Nat} {d : ByteArray} (hd : l[k]? = some d) : joinT (l.take (k + 1)) = joinT (l.take k) ++ d := by
  unfold joinT; rw [List.take_add_one, hd, List.foldl_append]; rfl
theorem all_takeF {l : List ByteArray} {k : Nat} {d : ByteArray} (hd : l[k]? = some d) : (l.take (k + 1)).all fullB = ((l.take k).all fullB && fullB d) := by
  rw [List.take_add_one, hd, List.all_append]; simp
theorem all_notF {l : List ByteArray} {k : Nat} {d : ByteArray} (hd : l[k]? = some d) (hs : fullB d = false) : l.all fullB = false := by
  rw [← Bool.not_eq_true, List.all_eq_true]
  intro h
  rw [h d (List.mem_of_getElem? hd)] at hs
  cases hs

set_option maxRecDepth 100000 in
set_option maxHeartbeats 2000000 in
theorem refWhole_any (A : Option Addr) (c : Nat) (i q : Int) (l : List ByteArray) (w : World) (hA : Strs w w.heap.size A l) (hl : l.length ≤ maxLen) :
    Calls Try.prog 25 #[.agg #[.int .i64 i, .int .i64 q, .slice A l.length c]] w fun e w' => e = .returned (.tuple #[.string (wholeT i q l), .bool (wholeB i q l)]) ∧ Below w.heap.size w w' := by
  have hlm := hl
  unfold maxLen at hl
  have hW := Joins.below_alloc1 w (.cells #[.int .i64 i, .int .i64 q, .slice A l.length c] 46)
  have hS := hA.below hW (Nat.le_refl _)
  have hb : (w.alloc (.cells #[.int .i64 i, .int .i64 q, .slice A l.length c] 46)).heap[w.heap.size]? = some (.cells #[.int .i64 i, .int .i64 q, .slice A l.length c] 46 (0, 0)) := heap_alloc_new w _
  have cm := fun w1 (h : Strs w1 w1.heap.size A l) => refMay_any A c i q l w1 h hlm
  have hT : wholeT i q l = if wholeB i q l = true then joinT l else ⟨#[]⟩ := rfl
  have hms := fun h : mayB i q l = true => may_some h
  have HB : Hid (wholeB i q l = (mayB i q l && (decide (0 < l.length) && l.all fullB))) := Lib.hid rfl
  obtain ⟨T, hTT⟩ : ∃ T, T = wholeT i q l := ⟨_, rfl⟩
  rw [← hTT]
  have HT : Hid (T = if wholeB i q l = true then joinT l else ⟨#[]⟩) := Lib.hid (hTT.trans hT)
  clear hT hTT
  generalize wholeB i q l = R at *
  generalize mayB i q l = m at *
  have hc0 := (hS.more hW.size)
  have hsz : w.heap.size < (w.alloc (.cells #[.int .i64 i, .int .i64 q, .slice A l.length c] 46)).heap.size := by simp
  have HSZ := Lib.hid hsz; clear hsz
  have HW := Lib.hid hW; clear hW
  have HS := Lib.hid hS; clear hS hA
  have HC := Lib.hid hc0; clear hc0
  have HBK := Lib.hid hb; clear hb
  have HMS := Lib.hid hms; clear hms
  go_enter Try.func25, Try.ntmps25
  go_wp2_with fail; refine (cm _ HC.out).mono ?_; rintro e W ⟨rfl, b1⟩
  have hb1 := (b1.block w.heap.size HSZ.out).trans HBK.out
  have x0 := (cell_of hb1 0).trans rfl
  have x2 : W.cell? ⟨w.heap.size, 2, none⟩ = some (.slice A l.length c) := (cell_of hb1 2).trans rfl
  have hSW := HS.out.below b1 (Nat.le_of_lt HSZ.out)
  have HB2 := Lib.hid (HW.out.trans (b1.mono HW.out.size))
  clear hb1 b1 HBK HC HW HS x0 cm
  by_cases hm : m = true
  · subst hm
    by_cases hz : 0 < l.length
    · obtain ⟨h20, h16⟩ := HMS.out rfl hz
      have hz' : ¬ l.length = 0 := by omega
      go_wp2
      go_loopw [4, 5] (fun ac ix wr => ∃ k : Nat, k ≤ l.length ∧ ix = .int .i64 k ∧ (∃ z, ac = .string z ∧ z = joinT (l.take k) ∧ z.size ≤ 16 * k) ∧ (l.take k).all fullB = true ∧ wr = W) (fun _ ix _ => l.length - (intOf ix).toNat)
      case atStart => exact ⟨0, by omega, rfl, ⟨_, rfl, rfl, Nat.zero_le _⟩, rfl, rfl⟩
      case round =>
        obtain ⟨k, hk, rfl, ⟨z, rfl, hz1, hz2⟩, ht, rfl⟩ := hrel
        have HZ1 := Lib.hid hz1; clear hz1
        by_cases hlt : k < l.length
        · obtain ⟨d, hd⟩ : ∃ d, l[k]? = some d := ⟨_, List.getElem?_eq_getElem hlt⟩
          obtain ⟨ad, rfl, _, hc⟩ := hSW hz
          have hck := hc k d hd
          have hd16 := h16 d (List.mem_of_getElem? hd)
          have HJ := Lib.hid (join_take hd)
          have ha := all_takeF hd
          have hn := all_notF hd
          rw [ht] at ha
          have HD := Lib.hid hd
          clear hc ht hd
          cases he : d.toList.isEmpty
          · have HA := Lib.hid (show (l.take (k + 1)).all fullB = true from ha.trans (by simp [fullB, he]))
            clear hn ha
            have hadd : ¬ 9223372036854775807 < z.size + d.size := by omega
            go_wp2_with fail
            go_roundw
            case rel => exact ⟨k + 1, by omega, by go_num, ⟨_, rfl, by rw [HJ.out, ← HZ1.out], by rw [ByteArray.size_append]; omega⟩, HA.out, trivial⟩
            case measure => simp [intOf]; omega
          · have HN := Lib.hid (hn (by simp [fullB, he]))
            have HR : Hid (R = false) := Lib.hid (by rw [HB.out, HN.out]; simp)
            clear hn ha
            go_wp2_with fail
            go_ret2
            exact ⟨by rw [HT.out, HR.out]; rfl, HB2.out⟩
        · have ek : k = l.length := by omega
          subst ek
          have HR : Hid (R = true) := Lib.hid (by rw [HB.out]; rw [List.take_length] at ht; simp [ht, hz])
          have HZ2 := Lib.hid (HZ1.out.trans (by rw [List.take_length]))
          clear ht
          go_wp2_with fail
          go_ret2
          exact ⟨by rw [HT.out, HR.out, HZ2.out]; rfl, HB2.out⟩
    · have hz' : l.length = 0 := by omega
      have HR : Hid (R = false) := Lib.hid (by rw [HB.out]; simp [hz'])
      go_wp2_with fail
      go_ret2
      exact ⟨by rw [HT.out, HR.out]; rfl, HB2.out⟩
  · have hm' : m = false := by simpa using hm
    subst hm'
    have HR : Hid (R = false) := Lib.hid (by rw [HB.out]; simp)
    go_wp2_with fail
    go_ret2
    exact ⟨by rw [HT.out, HR.out]; rfl, HB2.out⟩

end Go.Proofs.Ytggeojjiongbbaa

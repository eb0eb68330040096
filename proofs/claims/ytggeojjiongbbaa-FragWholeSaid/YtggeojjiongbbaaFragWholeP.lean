/-
  Is it whole? The program's.
-/
import Derived.Test.YtggeojjiongbbaaFragJoin
import Derived.Test.YtggeojjiongbbaaFragFunc
namespace Go.Proofs.Ytggeojjiongbbaa
open Go.RowKit

theorem may_sizes' {i q : Int} {l : List ByteArray} (h : mayB i q l = true) : l.length ≤ 20 ∧ ∀ d ∈ l, d.size ≤ 16 := by
  rcases Nat.eq_zero_or_pos l.length with h0 | h0
  · have : l = [] := List.eq_nil_of_length_eq_zero h0
    subst this
    exact ⟨by simp, fun d hd => by cases hd⟩
  · exact may_some h h0
theorem full_pos {d : ByteArray} (h : fullB d = true) : 1 ≤ d.size := by
  rcases Nat.eq_zero_or_pos d.size with h0 | h0
  · exfalso
    have : d = ⟨#[]⟩ := ByteArray.ext (Array.eq_empty_of_size_eq_zero h0)
    rw [this] at h
    unfold fullB at h
    simp at h
  · exact h0

set_option maxRecDepth 100000 in
set_option maxHeartbeats 2000000 in
theorem wholeP_any (A : Option Addr) (c : Nat) (i q : Int) (l : List ByteArray) (w : World) (hA : Strs w w.heap.size A l) (hl : l.length ≤ maxLen) (hcc : l.length ≤ c) (hz : ∀ d ∈ l, d.size ≤ maxLen) :
    Calls Try.prog 24 #[.agg #[.int .i64 i, .int .i64 q, .slice A l.length c]] w fun e w' => e = .returned (.tuple #[.string (wholeT i q l), .bool (wholeB i q l)]) ∧ Below w.heap.size w w' := by
  have hlm := hl
  unfold maxLen at hl
  have hW := Joins.below_alloc1 w (.cells #[.int .i64 i, .int .i64 q, .slice A l.length c] 46)
  have hS := hA.below hW (Nat.le_refl _)
  have hb : (w.alloc (.cells #[.int .i64 i, .int .i64 q, .slice A l.length c] 46)).heap[w.heap.size]? = some (.cells #[.int .i64 i, .int .i64 q, .slice A l.length c] 46 (0, 0)) := heap_alloc_new w _
  have hsz : w.heap.size < (w.alloc (.cells #[.int .i64 i, .int .i64 q, .slice A l.length c] 46)).heap.size := by simp
  have cm := fun W h => may_any A c i q l W h hlm hz
  have cg := fun W h => contains_gone A c (W : World).heap.size l W h hlm
  have CJ := Lib.hid (fun (W : World) h (hs : l.length ≤ 20 ∧ ∀ d ∈ l, d.size ≤ 16) h1 hf => join_any A c l W h h1 hs.1 hcc hs.2 hf)
  have CC := Lib.hid (fun W (h : (joinT l).size ≤ 281474976710656) => clone_any (joinT l) h W)
  have HMS := Lib.hid (fun h : mayB i q l = true => may_sizes' h)
  have hall : l.all fullB = !l.any goneB := gone_full l
  have HFP := Lib.hid (fun h : l.any goneB = false => (fun d hd => full_pos (by rw [h] at hall; exact List.all_eq_true.1 hall d hd) : ∀ d ∈ l, 1 ≤ d.size))
  obtain ⟨R, hR⟩ : ∃ R, R = wholeB i q l := ⟨_, rfl⟩
  obtain ⟨T, hT⟩ : ∃ T, T = wholeT i q l := ⟨_, rfl⟩
  have HT : Hid (T = if R = true then joinT l else ⟨#[]⟩) := Lib.hid (by rw [hT, hR]; rfl)
  have HR : Hid (R = (mayB i q l && (decide (0 < l.length) && !l.any goneB))) := Lib.hid (by rw [hR, ← hall]; rfl)
  rw [← hR, ← hT]
  clear hR hT hall hz hcc
  generalize mayB i q l = bm at *
  generalize l.any goneB = bg at *
  have HW := Lib.hid hW; clear hW
  have HS := Lib.hid hS; clear hS hA
  have HBK := Lib.hid hb; clear hb
  have HSZ := Lib.hid hsz; clear hsz
  have CG := Lib.hid cg; clear cg
  have hlen := hl
  go_enter Try.func24, Try.ntmps24
  go_wp2_with fail; refine (cm _ (HS.out.more (Nat.le_of_lt HSZ.out))).mono ?_; rintro e W ⟨rfl, b1⟩
  have hb1 := (b1.block w.heap.size HSZ.out).trans HBK.out
  have x2 : W.cell? ⟨w.heap.size, 2, none⟩ = some (.slice A l.length c) := (cell_of hb1 2).trans rfl
  have HSW := Lib.hid ((HS.out.below b1 (Nat.le_of_lt HSZ.out)).more (Nat.le_trans (Nat.le_of_lt HSZ.out) b1.size))
  have HB2 := Lib.hid (HW.out.trans (b1.mono HW.out.size))
  clear hb1 b1 HBK cm HS
  cases bm
  · have hr : R = false := HR.out
    subst hr
    have ht : T = ⟨#[]⟩ := HT.out
    subst ht
    go_wp2_with fail
    go_ret2
    exact ⟨rfl, HB2.out⟩
  · by_cases h0 : l.length = 0
    · have hr : R = false := by rw [HR.out, h0]; simp
      subst hr
      have ht : T = ⟨#[]⟩ := HT.out
      subst ht
      have h0' : ((l.length : Int) == 0) = true := by rw [h0]; rfl
      have h0i : (l.length : Int) = 0 := by omega
      clear h0
      go_wp2_with fail
      go_ret2
      exact ⟨rfl, HB2.out⟩
    · have h0' : ((l.length : Int) == 0) = false := beq_eq_false_iff_ne.2 (by omega)
      have hd : decide (0 < l.length) = true := by simp; omega
      rw [hd] at HR
      have HN := Lib.hid h0; clear h0 hd
      have cg := CG.out W HSW.out
      cases bg
      · have hr : R = true := HR.out
        subst hr
        have ht : T = joinT l := HT.out
        have HTT := Lib.hid ht; clear ht HT HR
        have cj := CJ.out W HSW.out (HMS.out (by trivial)) (by have := HN.out; omega) (HFP.out (by trivial))
        have cc := CC.out
        have hjs := join_size l (HMS.out (by trivial)).2 l.length (Nat.le_refl _)
        rw [List.take_length] at hjs
        have hl20 := (HMS.out (by trivial)).1
        go_wp2_with fail; refine cg.mono ?_; rintro e w2 ⟨rfl, rfl⟩
        go_wp2_with fail; refine cj.mono ?_; rintro e w3 ⟨rfl, b3⟩
        have HB3 := Lib.hid (HB2.out.trans (b3.mono HB2.out.size)); clear b3 cj
        go_wp2_with fail; refine (cc _ (by omega)).mono ?_; rintro e w4 ⟨rfl, b4⟩
        have HB4 := Lib.hid (HB3.out.trans (b4.mono HB3.out.size)); clear b4 cc
        go_wp2_with fail
        go_ret2
        exact ⟨by rw [HTT.out]; rfl, HB4.out⟩
      · have hr : R = false := HR.out
        subst hr
        have ht : T = ⟨#[]⟩ := HT.out
        subst ht
        go_wp2_with fail; refine cg.mono ?_; rintro e w2 ⟨rfl, rfl⟩
        go_wp2_with fail
        go_ret2
        exact ⟨rfl, HB2.out⟩

end Go.Proofs.Ytggeojjiongbbaa

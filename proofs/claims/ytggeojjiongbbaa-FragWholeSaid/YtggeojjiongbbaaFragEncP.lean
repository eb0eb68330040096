/-
  The bytes of pieces: the program's Encode.
-/
import Derived.Test.YtggeojjiongbbaaFragEnc
import Derived.Test.YtggeojjiongbbaaFragSmall
import Derived.IntWalk
namespace Go.Proofs.Ytggeojjiongbbaa
open Go.RowKit

set_option maxHeartbeats 4000000 in
set_option maxRecDepth 100000 in
theorem encP_any (p : Pc) (hm : p.bytes.size ≤ maxLen) (w : World) :
    Calls Try.prog 16 #[pv p] w fun e w' => e = .returned (.tuple #[.string (encP p), .int .i64 (encPE p)]) ∧ Below w.heap.size w w' := by
  have hnew := PcAt.new w p
  have cr := fun w => rightP_any p hm w
  have hW := Joins.below_alloc1 w (.cells (pcl p) 23)
  cases hr : rightP p
  · rw [hr] at cr
    rw [show encP p = ⟨#[]⟩ by unfold encP; rw [hr]; rfl, show encPE p = 1 by unfold encPE; rw [hr]; rfl]
    clear hr
    obtain ⟨s, a, o, d⟩ := p
    have HW := Lib.hid hW; clear hW hnew
    simp only [pv, pcl] at *
    go_enter Try.func16, Try.ntmps16
    go_wp2_with fail; refine (cr _).mono ?_; rintro e w1 ⟨rfl, b1⟩
    go_wp2_with fail
    go_ret2
    exact ⟨rfl, HW.out.trans (b1.mono (by simp))⟩
  · rw [hr] at cr
    obtain ⟨⟨r1, r2⟩, ⟨r3, r4⟩, ⟨r5, r6⟩, r7, r8⟩ := (rightP_iff p).1 hr
    rw [show encP p = headP p ++ p.bytes by unfold encP; rw [hr]; rfl, show encPE p = 0 by unfold encPE; rw [hr]; rfl]
    clear hr
    obtain ⟨s, a, o, d⟩ := p
    simp only [pv, pcl] at *
    have H5 := five_bytes
    go_enter Try.func16, Try.ntmps16
    go_wp2_with fail; refine (cr _).mono ?_; rintro e w1 ⟨rfl, b1⟩
    obtain ⟨c1, c2, c3, c4⟩ := (hnew.on b1).cells
    go_wp2_with fail
    rw [H5 _ _ _ _ _ _ _ (heap_alloc_new _ _)]
    have HS : (bytes5 (List.map (fun x => UInt8.ofNat x.toNat) [s / 256, s % 256, a, o, (d.size : Int)])).size = 5 := rfl
    have HE : bytes5 (List.map (fun x => UInt8.ofNat x.toNat) [s / 256, s % 256, a, o, (d.size : Int)]) = headP ⟨s, a, o, d⟩ := rfl
    have HV := Joins.below_alloc1 w1 (.cells #[.int .u8 (s / 256), .int .u8 (s % 256), .int .u8 a, .int .u8 o, .int .u8 (d.size : Int)] 5)
    have HB := Lib.hid ((hW.trans (b1.mono (by simp))).trans (HV.mono (by have := b1.size; simp at this; omega)))
    have d1 := (hnew.on b1)
    have d2 := (d1.on HV).cells.2.2.2
    obtain ⟨hd, hhd⟩ : ∃ x, x = headP ⟨s, a, o, d⟩ := ⟨_, rfl⟩
    rw [HE, ← hhd] at HS
    rw [HE, ← hhd]
    have HHD := Lib.hid hhd; clear hhd
    have HM : ¬ 9223372036854775807 < hd.size + d.size := by omega
    clear H5 HE
    go_wp2_with fail
    go_ret2
    exact ⟨by rw [HHD.out]; rfl, HB.out⟩

end Go.Proofs.Ytggeojjiongbbaa

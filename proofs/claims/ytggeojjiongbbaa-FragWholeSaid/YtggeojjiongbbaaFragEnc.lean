/-
  The bytes of pieces, by the document: Encode.
-/
import Derived.Test.YtggeojjiongbbaaFragBase
namespace Go.Proofs.Ytggeojjiongbbaa
open Go.RowKit

def octet5 (n : Int) : UInt8 := UInt8.ofNat n.toNat
def bytes5 (l : List UInt8) : ByteArray := ⟨l.toArray⟩
/-- The bytes ahead of a piece's own. -/
def headP (p : Pc) : ByteArray := bytes5 [octet5 (p.seq / 256), octet5 (p.seq % 256), octet5 p.at', octet5 p.of', octet5 p.bytes.size]
def encP (p : Pc) : ByteArray := if rightP p = true then headP p ++ p.bytes else ⟨#[]⟩
def encPE (p : Pc) : Int := if rightP p = true then 0 else 1

set_option maxRecDepth 100000 in
theorem five_bytes (w : World) (g : Nat) (a b c d e : Int) (h : w.heap[g]? = some (.cells #[.int .u8 a, .int .u8 b, .int .u8 c, .int .u8 d, .int .u8 e] 5 (0, 0))) : (convert 40 9 (.slice (some ⟨g, 0, none⟩) 5 5)).run Try.prog w = .ok (.string (bytes5 ([a, b, c, d, e].map fun x => UInt8.ofNat x.toNat))) w := by
  refine run_convert_bytes_arg (P := Try.prog) _ 40 5 Try.underlying40 Try.underlying5 g 0 5 5 [a, b, c, d, e] rfl ?_ 9 Try.underlying9
  intro i hi
  have : i = 0 ∨ i = 1 ∨ i = 2 ∨ i = 3 ∨ i = 4 := by omega
  rcases this with rfl | rfl | rfl | rfl | rfl <;> simp [World.cell?, h]

set_option maxHeartbeats 4000000 in
set_option maxRecDepth 100000 in
theorem refEncP_any (p : Pc) (hm : p.bytes.size ≤ maxLen) (w : World) :
    Calls Try.prog 17 #[pv p] w fun e w' => e = .returned (.tuple #[.string (encP p), .int .i64 (encPE p)]) ∧ Below w.heap.size w w' := by
  have hnew := PcAt.new w p
  have cr := fun w => refRightP_any p hm w
  have hW := Joins.below_alloc1 w (.cells (pcl p) 23)
  cases hr : rightP p
  · rw [hr] at cr
    rw [show encP p = ⟨#[]⟩ by unfold encP; rw [hr]; rfl, show encPE p = 1 by unfold encPE; rw [hr]; rfl]
    clear hr
    obtain ⟨s, a, o, d⟩ := p
    have HW := Lib.hid hW; clear hW hnew
    simp only [pv, pcl] at *
    go_enter Try.func17, Try.ntmps17
    go_wp2_with fail; refine (cr _).mono ?_; rintro e w1 ⟨rfl, b1⟩
    go_wp2_with fail
    go_ret2
    exact ⟨rfl, HW.out.trans (b1.mono (by simp))⟩
  · rw [hr] at cr
    obtain ⟨⟨r1, r2⟩, ⟨r3, r4⟩, ⟨r5, r6⟩, r7, r8⟩ := (rightP_iff p).1 hr
    rw [show encP p = headP p ++ p.bytes by unfold encP; rw [hr]; rfl, show encPE p = 0 by unfold encPE; rw [hr]; rfl]
    clear hr
    obtain ⟨s, a, o, d⟩ := p
    simp only [pv, pcl] at *
    have H5 := five_bytes
    go_enter Try.func17, Try.ntmps17
    go_wp2_with fail; refine (cr _).mono ?_; rintro e w1 ⟨rfl, b1⟩
    obtain ⟨c1, c2, c3, c4⟩ := (hnew.on b1).cells
    go_wp2_with fail
    rw [H5 _ _ _ _ _ _ _ (heap_alloc_new _ _)]
    have HS : (bytes5 (List.map (fun x => UInt8.ofNat x.toNat) [s / 256, s % 256, a, o, (d.size : Int)])).size = 5 := rfl
    have HE : bytes5 (List.map (fun x => UInt8.ofNat x.toNat) [s / 256, s % 256, a, o, (d.size : Int)]) = headP ⟨s, a, o, d⟩ := rfl
    have HV := Joins.below_alloc1 w1 (.cells #[.int .u8 (s / 256), .int .u8 (s % 256), .int .u8 a, .int .u8 o, .int .u8 (d.size : Int)] 5)
    have HB := Lib.hid ((hW.trans (b1.mono (by simp))).trans (HV.mono (by have := b1.size; simp at this; omega)))
    have d1 := (hnew.on b1)
    have d2 := (d1.on HV).cells.2.2.2
    obtain ⟨hd, hhd⟩ : ∃ x, x = headP ⟨s, a, o, d⟩ := ⟨_, rfl⟩
    rw [HE, ← hhd] at HS
    rw [HE, ← hhd]
    have HHD := Lib.hid hhd; clear hhd
    have HM : ¬ 9223372036854775807 < hd.size + d.size := by omega
    clear H5 HE
    go_wp2_with fail
    go_ret2
    exact ⟨by rw [HHD.out]; rfl, HB.out⟩

end Go.Proofs.Ytggeojjiongbbaa

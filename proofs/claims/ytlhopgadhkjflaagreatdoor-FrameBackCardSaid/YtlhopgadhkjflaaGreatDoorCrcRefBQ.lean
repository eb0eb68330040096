/-
  The document's own Sum, Close, Open and Burst of layer 1.
-/
import Derived.IntWalk
import Derived.Test.YtlhopgadhkjflaaGreatDoorCrcRefQ
namespace Go.Proofs.YtlhopgadhkjflaaGreatDoor.C
open Go.RowKit
theorem refSum_any (s : ByteArray) (w : World) (hs : s.size ≤ maxLen) :
  Calls Tryz.prog 59 #[.string s] w fun e w' => e = .returned (.int .i64 ((Crc16.sum s.data.toList).toNat : Int)) ∧ w = w' := by
 go_enter Tryz.func59, Tryz.ntmps59
 go_wp2_with (first | (go_at_call 103; refine (refNew_any _).mono ?_; rintro e w' ⟨rfl, rfl⟩) | (go_at_call 102; refine (refAdd_any _ _ _ hs).mono ?_; rintro e w' ⟨rfl, rfl⟩))
 go_ret
 exact ⟨rfl, rfl⟩
set_option maxHeartbeats 400000 in
theorem refClose_any (s : ByteArray) (w : World) (hs : s.size < 2000) :
  Calls Tryz.prog 21 #[.string s] w fun e w' => e = .returned (.string (txt (Crc16.close s.data.toList))) ∧ Below w.heap.size w w' := by
 have hs' : s.size ≤ maxLen := by unfold maxLen; omega
 obtain ⟨r, hr⟩ : ∃ r, r = Crc16.sum s.data.toList := ⟨_, rfl⟩
 have hrl := r.isLt
 have hf : Crc16.tail s.data.toList = [UInt8.ofNat ((r.toNat : Int) / 256).toNat, UInt8.ofNat ((r.toNat : Int) % 256).toNat] := by
  rw [hr]
  have e1 : UInt8.ofNat (((Crc16.sum s.data.toList).toNat : Int) / 256).toNat = Crc16.hi (Crc16.sum s.data.toList) := rfl
  have e2 : UInt8.ofNat (((Crc16.sum s.data.toList).toNat : Int) % 256).toNat = Crc16.lo (Crc16.sum s.data.toList) := by
   unfold Crc16.lo
   apply UInt8.toNat_inj.1
   simp
   omega
  rw [e1, e2]; rfl
 have hsum := refSum_any s w hs'
 rw [← hr] at hsum
 clear hr
 have HS := Lib.hid hsum; clear hsum
 have hc := two_bytes w ((r.toNat : Int) / 256) ((r.toNat : Int) % 256)
 rw [← hf] at hc
 have hn : ¬ 9223372036854775807 < s.size + (txt (Crc16.tail s.data.toList)).size := by rw [txt_size]; simp [Crc16.tail]; omega
 have hv : s ++ txt (Crc16.tail s.data.toList) = txt (Crc16.close s.data.toList) := by
  apply ByteArray.ext; simp [txt, Crc16.close]
 clear hf
 generalize txt (Crc16.tail s.data.toList) = T at hc hn hv
 go_enter Tryz.func21, Tryz.ntmps21
 go_wp2_with (go_at_call 59; refine HS.out.mono ?_; rintro e w' ⟨rfl, rfl⟩)
 go_ret
 exact ⟨rfl, (Below.refl _ _).alloc (Nat.le_refl _) _⟩
end Go.Proofs.YtlhopgadhkjflaaGreatDoor.C

/-
  The document's own Sum, Close, Open and Burst of layer 1.
-/
import Derived.Test.YtnalfgijjbofeaaCrcRef
import Derived.Test.YtnalfgijjbofeaaCrcClosed
namespace Go.Proofs.Ytnalfgijjbofeaa
open Go.RowKit

theorem refSum_any (s : ByteArray) (w : World) (hs : s.size ≤ maxLen) :
    Calls Try.prog 14 #[.string s] w fun e w' => e = .returned (.int .i64 ((Crc16.sum s.data.toList).toNat : Int)) ∧ w = w' := by
  go_enter Try.func14, Try.ntmps14
  go_wp2_with (first | (go_at_call 25; refine (refNew_any _).mono ?_; rintro e w' ⟨rfl, rfl⟩) | (go_at_call 12; refine (refAdd_any _ _ _ hs).mono ?_; rintro e w' ⟨rfl, rfl⟩))
  go_ret
  exact ⟨rfl, rfl⟩

set_option maxHeartbeats 400000 in
theorem refClose_any (s : ByteArray) (w : World) (hs : s.size < 2000) :
    Calls Try.prog 16 #[.string s] w fun e w' => e = .returned (.string (txt (Crc16.close s.data.toList))) ∧ Below w.heap.size w w' := by
  have hs' : s.size ≤ maxLen := by unfold maxLen; omega
  obtain ⟨r, hr⟩ : ∃ r, r = Crc16.sum s.data.toList := ⟨_, rfl⟩
  have hrl := r.isLt
  have hf : Crc16.tail s.data.toList = [UInt8.ofNat ((r.toNat : Int) / 256).toNat, UInt8.ofNat ((r.toNat : Int) % 256).toNat] := by
    rw [hr]
    have e1 : UInt8.ofNat (((Crc16.sum s.data.toList).toNat : Int) / 256).toNat = Crc16.hi (Crc16.sum s.data.toList) := rfl
    have e2 : UInt8.ofNat (((Crc16.sum s.data.toList).toNat : Int) % 256).toNat = Crc16.lo (Crc16.sum s.data.toList) := by
      unfold Crc16.lo
      apply UInt8.toNat_inj.1
      simp
      omega
    rw [e1, e2]; rfl
  have hsum := refSum_any s w hs'
  rw [← hr] at hsum
  clear hr
  have HS := Lib.hid hsum; clear hsum
  have hc := two_bytes w ((r.toNat : Int) / 256) ((r.toNat : Int) % 256)
  rw [← hf] at hc
  have hn : ¬ 9223372036854775807 < s.size + (txt (Crc16.tail s.data.toList)).size := by rw [txt_size]; simp [Crc16.tail]; omega
  have hv : s ++ txt (Crc16.tail s.data.toList) = txt (Crc16.close s.data.toList) := by
    apply ByteArray.ext; simp [txt, Crc16.close]
  clear hf
  generalize txt (Crc16.tail s.data.toList) = T at hc hn hv
  go_enter Try.func16, Try.ntmps16
  go_wp2_with (go_at_call 14; refine HS.out.mono ?_; rintro e w' ⟨rfl, rfl⟩)
  go_ret
  exact ⟨rfl, (Below.refl _ _).alloc (Nat.le_refl _) _⟩

set_option maxHeartbeats 400000 in
theorem refOpen_any (s : ByteArray) (w : World) (hs : s.size < 2000) :
    Calls Try.prog 19 #[.string s] w fun e w' => e = .returned (.tuple #[.string (txt (opened s.data.toList)), .bool (isClosed s.data.toList)]) ∧ Below w.heap.size w w' := by
  have hl := Lib.size_eq s
  by_cases h2 : s.size < 2
  · have hc : isClosed s.data.toList = false := by
      unfold isClosed
      rw [decide_eq_false (by rw [← hl]; omega)]; rfl
    have ho : opened s.data.toList = [] := by unfold opened; rw [hc]; rfl
    rw [hc, ho]
    clear hc ho hl
    go_enter Try.func19, Try.ntmps19
    go_wp2
    go_ret2
    exact ⟨rfl, Below.refl _ _⟩
  · have h3 : 2 ≤ s.size := by omega
    have kf := run_front s ((s.size : Int) - 2) (s.size - 2) (by omega) (by omega)
    obtain ⟨F, hF⟩ : ∃ F, F = txt (s.data.toList.take (s.size - 2)) := ⟨_, rfl⟩
    rw [← hF] at kf
    have hFl : F.data.toList = s.data.toList.take (s.data.toList.length - 2) := by rw [hF, txt_data, ← hl]
    have hFs : F.size < 2000 := by rw [Lib.size_eq, hFl, List.length_take, ← hl]; omega
    have hcl := fun w => refClose_any F w hFs
    obtain ⟨C, hC⟩ : ∃ C, C = txt (Crc16.close F.data.toList) := ⟨_, rfl⟩
    rw [← hC] at hcl
    have hq : (C.toList == s.toList) = isClosed s.data.toList := by
      rw [hC, txt_toList, hFl, ByteArray.toList_eq]
      unfold isClosed
      rw [decide_eq_true (by rw [← hl]; omega), Bool.true_and]
    have HCL := Lib.hid hcl; clear hcl
    clear hC hFs h2
    cases hc : isClosed s.data.toList
    · rw [hc] at hq
      have hq2 : (!(C.toList == s.toList)) = true := by rw [hq]; rfl
      have ho : opened s.data.toList = [] := by unfold opened; rw [hc]; rfl
      rw [ho]
      clear hc ho hl hF hFl
      go_enter Try.func19, Try.ntmps19
      go_wp2_with (go_at_call 16; refine (HCL.out _).mono ?_; rintro e w' ⟨rfl, hb⟩)
      go_ret2
      exact ⟨rfl, hb⟩
    · rw [hc] at hq
      have hq2 : (!(C.toList == s.toList)) = false := by rw [hq]; rfl
      have ho : txt (opened s.data.toList) = F := by unfold opened; rw [hc, if_pos rfl, ← hl]; exact hF.symm
      rw [ho]
      clear hc ho hl hF hFl
      go_enter Try.func19, Try.ntmps19
      go_wp2_with (go_at_call 16; refine (HCL.out _).mono ?_; rintro e w' ⟨rfl, hb⟩)
      go_ret2
      exact ⟨rfl, hb⟩

theorem ref_shift (p p7 : Nat) (hp : p < 8) (h : 7 - (p : Int) = (p7 : Int)) : (2 : Int) ^ p7 % 256 = 128 / 2 ^ p := by
  have h7 : p7 = 7 - p := by omega
  subst h7
  have hc : p = 0 ∨ p = 1 ∨ p = 2 ∨ p = 3 ∨ p = 4 ∨ p = 5 ∨ p = 6 ∨ p = 7 := by omega
  rcases hc with rfl | rfl | rfl | rfl | rfl | rfl | rfl | rfl <;> decide

set_option maxHeartbeats 2000000 in
set_option maxRecDepth 100000 in
theorem refBurst_in (s : ByteArray) (A : Nat) (mask : Int) (w : World) (hs : s.size < 2000) (ha : A < 8 * s.size) :
    Calls Try.prog 17 #[.string s, .int .i64 (A : Int), .int .i64 mask] w fun e w' => e = .returned (.string (txt (Crc16.burst s.data.toList A (mask % 65536).toNat))) ∧ Below w.heap.size w w' := by
  have kc := Lib.run_convert_string_bytes (P := Try.prog) w 9 34 5 s Try.underlying9 Try.underlying34 Try.underlying5
  obtain ⟨H, hH⟩ : ∃ H, H = w.heap.size := ⟨_, rfl⟩
  obtain ⟨Cp, hCp⟩ : ∃ Cp, Cp = grownCap w s.size 0 5 := ⟨_, rfl⟩
  obtain ⟨W0, hW0⟩ : ∃ W0, W0 = Lib.bytesWorld w 5 s := ⟨_, rfl⟩
  have r0 := row_bytes w s
  have bl0 := below_bytes w s
  have sz0 := Lib.bytesWorld_size w 5 s
  rw [← hW0] at r0 bl0 sz0 kc
  rw [← hH] at r0 sz0 kc
  rw [← hCp] at kc
  clear hW0 hCp
  have HH := Lib.hid hH
  clear hH
  have hlen := Lib.size_eq s
  obtain ⟨L, hL⟩ : ∃ L, L = s.data.toList := ⟨_, rfl⟩
  rw [← hL] at r0 hlen
  rw [← hL]
  have hmod := refMod_any mask
  obtain ⟨M, hM⟩ : ∃ M : Nat, mask % 65536 = (M : Int) := ⟨(mask % 65536).toNat, by omega⟩
  have hMl : M < 65536 := by omega
  rw [hM] at hmod
  rw [hM, Int.toNat_natCast]
  have HMOD := Lib.hid hmod
  clear hmod hM hL
  have LEN := Lib.hid hlen
  clear hlen
  have SZ := Lib.hid sz0
  clear sz0
  have RZ := Lib.hid r0
  clear r0
  have hd1 : decide ((A : Int) < 0) = false := by simp
  have hd2 : decide (8 * (s.size : Int) ≤ (A : Int)) = false := by simp; omega
  go_enter Try.func17, Try.ntmps17
  go_wp2_with fail
  refine (HMOD.out _).mono ?_
  rintro e w1 ⟨rfl, rfl⟩
  go_wp2_with fail
  go_loopw [9] (fun v wr => ∃ (n : Nat) (l : List UInt8), n ≤ 16 ∧ A + n ≤ 8 * s.size + 16 ∧ v = .int .i64 n ∧ l = Crc16.burstTo L A M n ∧ Row wr H l ∧ Below w.heap.size w wr ∧ H < wr.heap.size) (fun v _ => 16 - (intOf v).toNat)
  case atStart => exact ⟨0, L, by omega, by omega, rfl, rfl, RZ.out, bl0, by have := SZ.out; omega⟩
  case round =>
    obtain ⟨n, l, hn, hA, rfl, hl, hRow, hBel, hSz⟩ := hrel
    have HL := Lib.hid hl; clear hl
    have HRow := Lib.hid hRow; clear hRow
    have HBel := Lib.hid hBel; clear hBel
    have HSz := Lib.hid hSz; clear hSz
    by_cases hgo : n < 16 ∧ A + n < 8 * s.size
    · obtain ⟨hn16, hgo2⟩ := hgo
      obtain ⟨Kn, hKn⟩ : ∃ Kn : Nat, Kn = A + n := ⟨_, rfl⟩
      obtain ⟨q, p, c, v, hq, hp, hp8, hqs, hc, hf, hv, hr⟩ := round_facts wr H Kn l (by rw [HL.out, Crc16.burstTo_length, ← LEN.out, hKn]; exact hgo2) HRow.out
      have b0 : (0 : Int) ≤ (q : Int) := by omega
      have b1 : (q : Int) < (s.size : Int) := by
        have h1 := LEN.out
        rw [HL.out, Crc16.burstTo_length] at hqs
        omega
      have HR := Lib.hid hr
      clear hr
      have hk : (A : Int) + (n : Int) = (Kn : Int) := by omega
      have hk8 : (Kn : Int) < 8 * (s.size : Int) := by omega
      have HKn := Lib.hid hKn; clear hKn
      obtain ⟨j, hj⟩ : ∃ j : Nat, 15 - (n : Int) = (j : Int) := ⟨15 - n, by omega⟩
      have hjn : j = 15 - n := by omega
      have HJ := Lib.hid hjn; clear hjn
      have hj15 : j ≤ 15 := by have := HJ.out; omega
      obtain ⟨p7, hp7⟩ : ∃ p7 : Nat, 7 - (p : Int) = (p7 : Int) := ⟨7 - p, by omega⟩
      have hp7l : p7 ≤ 7 := by omega
      have hsh := ref_shift p p7 hp8 hp7
      have k1 := low_bit M j hMl
      cases hb : M.testBit j
      · rw [hb] at k1
        have HB := Lib.hid hb; clear hb
        have k2 : bits BinOp.and IntKind.i64 ((M : Int) / 2 ^ j) 1 = 0 := k1
        clear k1
        go_wp2_with fail
        go_roundw
        case rel => exact ⟨n + 1, l, by omega, by omega, by go_num, by rw [burst_no L A M n (by rw [← HJ.out]; exact HB.out)]; exact HL.out, HRow.out, HBel.out, HSz.out⟩
        case measure => simp [intOf]; omega
      · rw [hb] at k1
        have HB := Lib.hid hb; clear hb
        have k2 : bits BinOp.and IntKind.i64 ((M : Int) / 2 ^ j) 1 = 1 := k1
        clear k1
        go_wp2_with fail
        go_region
        go_wp2_with fail
        go_roundw
        case rel => exact ⟨n + 1, Crc16.turn l Kn, by omega, by omega, by go_num, by rw [burst_yes L A M n (by rw [← HJ.out]; exact HB.out), ← HL.out, ← HKn.out], HR.out, below_set HBel.out (by have := HH.out; omega) _ _, by have := HSz.out; rw [size_set]; omega⟩
        case measure => simp [intOf]; omega
    · have hfin : l = Crc16.burst L A M := HL.out.trans (burst_end L A M n hn (by have := LEN.out; omega))
      have hx := row_text wr H s.size Cp l (by rw [LEN.out, HL.out, Crc16.burstTo_length]) HRow.out
      rw [hfin] at hx
      clear hfin
      by_cases h16 : n < 16
      · have hge : 8 * (s.size : Int) ≤ (A : Int) + (n : Int) := by omega
        clear hgo
        go_wp2_with fail
        go_ret
        exact ⟨rfl, HBel.out⟩
      · have hge : (16 : Int) ≤ (n : Int) := by omega
        clear hgo
        go_wp2_with fail
        go_ret
        exact ⟨rfl, HBel.out⟩

set_option maxHeartbeats 1000000 in
theorem refBurst_out (s : ByteArray) (at' mask : Int) (w : World) (hs : s.size < 2000) (ha : ¬ (0 ≤ at' ∧ at' < 8 * (s.size : Int))) :
    Calls Try.prog 17 #[.string s, .int .i64 at', .int .i64 mask] w fun e w' => e = .returned (.string s) ∧ Below w.heap.size w w' := by
  by_cases h : at' < 0
  · clear ha
    go_enter Try.func17, Try.ntmps17
    go_wp2
    go_ret
    exact ⟨rfl, Below.refl _ _⟩
  · have h2 : 8 * (s.size : Int) ≤ at' := by omega
    have h3 : 0 ≤ at' := by omega
    clear ha h
    go_enter Try.func17, Try.ntmps17
    go_wp2
    go_ret
    exact ⟨rfl, Below.refl _ _⟩

theorem refBurst_any (s : ByteArray) (at' mask : Int) (w : World) (hs : s.size < 2000) :
    Calls Try.prog 17 #[.string s, .int .i64 at', .int .i64 mask] w fun e w' => e = .returned (.string (txt (burstI s.data.toList at' mask))) ∧ Below w.heap.size w w' := by
  have hl := Lib.size_eq s
  unfold burstI
  by_cases h : 0 ≤ at' ∧ at' < 8 * (s.size : Int)
  · rw [if_pos (by rw [← hl]; exact h)]
    obtain ⟨A, rfl⟩ := Int.eq_ofNat_of_zero_le h.1
    exact refBurst_in s A mask w hs (by omega)
  · rw [if_neg (by rw [← hl]; exact h)]
    exact refBurst_out s at' mask w hs h

end Go.Proofs.Ytnalfgijjbofeaa

/-
  The walk of the law CrcBursts: Open undoes Close; a burst in a closed text is told; the same burst again makes it as it was.
-/
import Derived.Lib.ConvBytes
import Derived.ScopeJumps
import Derived.Test.YtmmbnjkdknnidaaGreatDoorCrcCloseV
import Derived.OpenShut
set_option maxHeartbeats 2000000
set_option maxRecDepth 100000
namespace Go.Proofs.YtmmbnjkdknnidaaGreatDoor.C
open Lib (hid)
open Go.RowKit
def Row (w : World) (H : Nat) (l : List UInt8) : Prop :=
 (∀ j, j < l.length → w.cell? ⟨H, j, none⟩ = some (.int .u8 ((l.getD j 0).toNat : Int))) ∧ (∀ j, j < l.length → w.frozen? ⟨H, j, none⟩ = false)
theorem row_text (W : World) (H len cap : Nat) (l : List UInt8) (hl : l.length = len) (h : Row W H l) :
  (convert 42 9 (.slice (some ⟨H, 0, none⟩) len cap)).run Tryz.prog W = .ok (.string (txt l)) W := by
 have h1 := run_convert_bytes_arg (P := Tryz.prog) W 42 5 Tryz.underlying42 Tryz.underlying5 H 0 len cap (l.map fun b => (b.toNat : Int)) (by rw [List.length_map, hl]) (by
  intro i hi
  rw [Nat.zero_add, h.1 i (by omega)]
  simp [List.getD]
  cases l[i]? <;> rfl) 9 Tryz.underlying9
 rw [h1]
 have e : strOfNums (l.map fun b => (b.toNat : Int)) = txt l := by
  unfold strOfNums txt
  rw [List.map_map]
  have : ((fun n : Int => UInt8.ofNat n.toNat) ∘ fun b : UInt8 => (b.toNat : Int)) = id := by
   funext b
   simp
  rw [this, List.map_id]
 rw [e]
theorem row_bytes (w : World) (s : ByteArray) : Row (Lib.bytesWorld w 5 s) w.heap.size s.data.toList := by
 have hl := Lib.size_eq s
 constructor
 ·intro j hj
  rw [Lib.bytesWorld_cell w _ s j (by omega)]
 ·intro j hj
  unfold World.frozen?
  rw [Lib.bytesWorld_at_new]
  have : (Lib.bytesCells w 5 s).size ≥ s.size := by
   unfold Lib.bytesCells
   rw [Array.size_append, Array.size_map]
   exact Nat.le_add_right _ _
  simp
  omega
theorem below_bytes (w : World) (s : ByteArray) : Below w.heap.size w (Lib.bytesWorld w 5 s) :=
 ⟨by simp [Lib.bytesWorld, World.freeze, World.alloc, World.drew, -World.alloc_eq, -World.drew_eq], by simp [Lib.bytesWorld, World.freeze, World.alloc, World.drew, -World.alloc_eq, -World.drew_eq], by simp [Lib.bytesWorld, World.freeze, World.alloc, World.drew, -World.alloc_eq, -World.drew_eq], by rw [Lib.bytesWorld_size]; omega, fun k hk => Lib.bytesWorld_at_old w _ s k hk⟩
theorem turn_at (l : List UInt8) (k j : Nat) (hj : j < l.length) : (Crc16.turn l k).getD j 0 = if k / 8 = j then Crc16.turnB (l.getD j 0) (k % 8) else l.getD j 0 := by
 simp only [Crc16.turn, List.getD, List.getElem?_modify, List.getElem?_eq_getElem hj]
 by_cases h : k / 8 = j
 ·simp only [if_pos h]; rfl
 ·simp only [if_neg h]; rfl
theorem turnB_toNat (c : UInt8) (p : Nat) : bits BinOp.xor IntKind.u8 (c.toNat : Int) (128 / 2 ^ p) = (((Crc16.turnB c p).toNat : Nat) : Int) := by
 have e : (128 : Int) / 2 ^ p = ((128 / 2 ^ p : Nat) : Int) := by simp
 have hd : 128 / 2 ^ p < 256 := Nat.lt_of_le_of_lt (Nat.div_le_self _ _) (by omega)
 rw [e, u8_xor_nat _ _ c.toNat_lt hd]
 unfold Crc16.turnB
 rw [UInt8.toNat_xor]
 have e2 : (UInt8.ofNat (128 / 2 ^ p)).toNat = 128 / 2 ^ p := by
  rw [UInt8.toNat_ofNat']
  exact Nat.mod_eq_of_lt hd
 rw [e2]
theorem round_facts (W : World) (H k : Nat) (l : List UInt8) (hk : k < 8 * l.length) (h : Row W H l) :
  ∃ q p c v : Nat, (k : Int) / 8 = (q : Int) ∧ (k : Int) % 8 = (p : Int) ∧ p < 8 ∧ q < l.length ∧ W.cell? ⟨H, q, none⟩ = some (.int .u8 (c : Int)) ∧ W.frozen? ⟨H, q, none⟩ = false ∧
   bits BinOp.xor IntKind.u8 (c : Int) (128 / 2 ^ p) = (v : Int) ∧ Row ((W.setCell ⟨H, q, none⟩ (.int .u8 (v : Int))).drew) H (Crc16.turn l k) := by
 have hq : k / 8 < l.length := by omega
 have hcell := h.1 (k / 8) hq
 refine ⟨k / 8, k % 8, (l.getD (k / 8) 0).toNat, (Crc16.turnB (l.getD (k / 8) 0) (k % 8)).toNat, by omega, by omega, by omega, hq, hcell, h.2 _ hq, turnB_toNat _ _, ?_, ?_⟩
 ·intro j hj
  rw [Crc16.turn_length] at hj
  show (W.setCell ⟨H, k / 8, none⟩ _).cell? ⟨H, j, none⟩ = _
  by_cases hjk : j = k / 8
  ·subst hjk
   rw [World.cell?_setCell_same _ _ _ hcell, turn_at _ _ _ hj, if_pos rfl]
  ·rw [World.cell?_setCell_other _ _ _ _ (by intro e; injection e with _ e2 _; exact hjk e2.symm), h.1 j hj, turn_at _ _ _ hj, if_neg (by omega)]
 ·intro j hj
  rw [Crc16.turn_length] at hj
  show (W.setCell ⟨H, k / 8, none⟩ _).frozen? ⟨H, j, none⟩ = _
  rw [World.frozen?_setCell]
  exact h.2 j hj
theorem size_set (W : World) (p : Addr) (v : Value) : ((W.setCell p v).drew).heap.size = W.heap.size := by
 show (W.setCell p v).heap.size = _
 simp [World.setCell]
theorem below_set {B H : Nat} {a W : World} (h : Below B a W) (hB : B ≤ H) (q : Nat) (v : Value) : Below B a ((W.setCell ⟨H, q, none⟩ v).drew) := (h.setCell hB v).drew
theorem turn_out (s : List UInt8) (k : Nat) (h : 8 * s.length ≤ k) : Crc16.turn s k = s := by
 unfold Crc16.turn
 apply List.modify_eq_self
 omega
theorem burst_stop (s : List UInt8) (A M n : Nat) (h : 8 * s.length ≤ A + n) (d : Nat) : Crc16.burstTo s A M (n + d) = Crc16.burstTo s A M n := by
 induction d with
 | zero => rfl
 | succ d ih =>
  rw [← Nat.add_assoc, Crc16.burstTo, ih, turn_out _ _ (by rw [Crc16.burstTo_length]; omega)]
  simp
theorem burst_end (s : List UInt8) (A M n : Nat) (hn : n ≤ 16) (h : n = 16 ∨ 8 * s.length ≤ A + n) : Crc16.burstTo s A M n = Crc16.burst s A M := by
 rcases h with rfl | h
 ·rfl
 ·have := burst_stop s A M n h (16 - n)
  rw [show n + (16 - n) = 16 from by omega] at this
  exact this.symm
theorem burst_yes (s : List UInt8) (A M n : Nat) (h : M.testBit (15 - n) = true) : Crc16.burstTo s A M (n + 1) = Crc16.turn (Crc16.burstTo s A M n) (A + n) := by
 rw [Crc16.burstTo, if_pos h]
theorem burst_no (s : List UInt8) (A M n : Nat) (h : M.testBit (15 - n) = false) : Crc16.burstTo s A M (n + 1) = Crc16.burstTo s A M n := by
 rw [Crc16.burstTo, h]; rfl
theorem mask_bit (mask : Int) (n T : Nat) (hn : n ≤ 15) (hT : T = 2 ^ (15 - n)) : (bits BinOp.and IntKind.i64 mask (T : Int) != 0) = (mask % 65536).toNat.testBit (15 - n) := by
 subst hT
 exact i64_bit_any mask (15 - n) (by omega)
theorem half_pow (n T : Nat) (hn : n < 15) (hT : T = 2 ^ (15 - n)) : T / 2 = 2 ^ (15 - (n + 1)) := by
 rw [hT, show 15 - n = (15 - (n + 1)) + 1 from by omega, Nat.pow_succ]
 omega
theorem one_pow (n T : Nat) (hn : n = 15) (hT : T = 2 ^ (15 - n)) : T = 1 := by subst hn; simpa using hT
theorem two_pow_le (n T : Nat) (hn : n < 15) (hT : T = 2 ^ (15 - n)) : 2 ≤ T := by
 rw [hT, show 15 - n = (15 - (n + 1)) + 1 from by omega, Nat.pow_succ]
 have : 0 < 2 ^ (15 - (n + 1)) := Nat.pow_pos (by omega)
 omega
theorem burst_in (s : ByteArray) (A : Nat) (mask : Int) (w : World) (hs : s.size < 2000) (ha : A < 8 * s.size) :
  Calls Tryz.prog 25 #[.string s, .int .i64 (A : Int), .int .i64 mask] w fun e w' => e = .returned (.string (txt (Crc16.burst s.data.toList A (mask % 65536).toNat))) ∧ Below w.heap.size w w' := by
 have kc := Lib.run_convert_string_bytes (P := Tryz.prog) w 9 42 5 s Tryz.underlying9 Tryz.underlying42 Tryz.underlying5
 obtain ⟨H, hH⟩ : ∃ H, H = w.heap.size := ⟨_, rfl⟩
 obtain ⟨Cp, hCp⟩ : ∃ Cp, Cp = grownCap w s.size 0 5 := ⟨_, rfl⟩
 obtain ⟨W0, hW0⟩ : ∃ W0, W0 = Lib.bytesWorld w 5 s := ⟨_, rfl⟩
 have r0 := row_bytes w s
 have bl0 := below_bytes w s
 have sz0 := Lib.bytesWorld_size w 5 s
 rw [← hW0] at r0 bl0 sz0 kc
 rw [← hH] at r0 sz0 kc
 rw [← hCp] at kc
 clear hW0 hCp
 have HH := hid hH
 clear hH
 have hlen := Lib.size_eq s
 obtain ⟨M, hM⟩ : ∃ M, M = (mask % 65536).toNat := ⟨_, rfl⟩
 obtain ⟨L, hL⟩ : ∃ L, L = s.data.toList := ⟨_, rfl⟩
 rw [← hL] at r0 hlen
 rw [← hL, ← hM]
 have mb : ∀ n T : Nat, n ≤ 15 → T = 2 ^ (15 - n) → (bits BinOp.and IntKind.i64 mask (T : Int) != 0) = M.testBit (15 - n) := fun n T hn hT => by rw [hM]; exact mask_bit mask n T hn hT
 have MB := hid mb
 clear mb hM hL
 have LEN := hid hlen
 clear hlen
 have SZ := hid sz0
 clear sz0
 have RZ := hid r0
 clear r0
 have m0 := MB.out 0 32768 (by omega) (by omega)
 have e0 : ((32768 : Nat) : Int) = 32768 := rfl
 rw [e0] at m0
 clear e0
 have hd1 : decide ((A : Int) < 0) = false := by simp
 have hd2 : decide (8 * (s.size : Int) ≤ (A : Int)) = false := by simp; omega
 obtain ⟨q, p, c, v, hq, hp, hp8, hqs, hc, hf, hv, hr⟩ := round_facts W0 H A L (by rw [← LEN.out]; exact ha) RZ.out
 have b0 : (0 : Int) ≤ (q : Int) := by omega
 have b1 : (q : Int) < (s.size : Int) := by have := LEN.out; omega
 have HR := hid hr
 clear hr
 go_enter Tryz.func25, Tryz.ntmps25
 go_wp2
 refine wp_scope_jumps 0 (fun a' w' => ∃ (n T K : Nat) (l : List UInt8) (u3 u4 u5 u6 u10 u11 u12 u13 u14 u15 u16 u17 u18 u19 u20 u21 u22 u23 u24 u25 u26 u27 u28 u29 u30 u31 u32 u33 u34 u35 u36 u37 u38 u39 u40 u41 u42 u43 u44 u45 u46 u47 u48 u49 u50 : Value),
  a' = { tmps := #[.string s, .int .i64 (K : Int), .int .i64 mask, u3, u4, u5, u6, .slice (some ⟨H, 0, none⟩) s.size Cp, .int .i64 (8 * (s.size : Int)), .int .i64 (T : Int), u10, u11, u12, u13, u14, u15, u16, u17, u18, u19, u20, u21, u22, u23, u24, u25, u26, u27, u28, u29, u30, u31, u32, u33, u34, u35, u36, u37, u38, u39, u40, u41, u42, u43, u44, u45, u46, u47, u48, u49, u50], defers := [] }
  ∧ 1 ≤ n ∧ n ≤ 15 ∧ K = A + n ∧ K < 8 * s.size ∧ T = 2 ^ (15 - n) ∧ l = Crc16.burstTo L A M n ∧ Row w' H l ∧ Below w.heap.size w w' ∧ H < w'.heap.size) (fun a' _ => (intOf (a'.tmps.getD 9 undef)).toNat) rfl ?_ ?_
 ·cases hb : M.testBit (15 - 0)
  ·rw [hb] at m0
   have HB := hid hb; clear hb
   have hl1 : L = Crc16.burstTo L A M 1 := (burst_no L A M 0 HB.out).symm
   have HL1 := hid hl1; clear hl1
   by_cases hend : A + 1 < 8 * s.size
   ·have hend2 : (A : Int) + 1 < 8 * (s.size : Int) := by omega
    go_wp2
    go_step3
    go_wp2
    go_step3
    exact ⟨rfl, 1, 16384, A + 1, L, _, _, _, _, _, _, _, _, _, _, _, _, _, _, _, _, _, _, _, _, _, _, _, _, _, _, _, _, _, _, _, _, _, _, _, _, _, _, _, _, _, _, _, _, _, rfl, by omega, by omega, by omega, hend, by decide, HL1.out, RZ.out, bl0, by have := SZ.out; omega⟩
   ·have hfin : L = Crc16.burst L A M := by
     exact HL1.out.trans (burst_end L A M 1 (by omega) (Or.inr (by have := LEN.out; omega)))
    have hx := row_text W0 H s.size Cp L (by rw [LEN.out]) RZ.out
    rw [hfin] at hx
    clear hfin
    have hend2 : ¬ (A : Int) + 1 < 8 * (s.size : Int) := by omega
    go_wp2
    go_step3
    go_wp2
    simp only [Exit.jump]
    go_ret
    exact ⟨rfl, bl0⟩
  ·rw [hb] at m0
   have HB := hid hb; clear hb
   have hl1 : (Crc16.turn L A) = Crc16.burstTo L A M 1 := (burst_yes L A M 0 HB.out).symm
   have HL1 := hid hl1; clear hl1
   by_cases hend : A + 1 < 8 * s.size
   ·have hend2 : (A : Int) + 1 < 8 * (s.size : Int) := by omega
    go_wp2
    go_step3
    go_wp2
    go_region
    go_wp2
    go_step3
    exact ⟨rfl, 1, 16384, A + 1, (Crc16.turn L A), _, _, _, _, _, _, _, _, _, _, _, _, _, _, _, _, _, _, _, _, _, _, _, _, _, _, _, _, _, _, _, _, _, _, _, _, _, _, _, _, _, _, _, _, _, rfl, by omega, by omega, by omega, hend, by decide, HL1.out, HR.out, (below_set bl0 (by have := HH.out; omega) _ _), by have := SZ.out; rw [size_set]; omega⟩
   ·have hfin : (Crc16.turn L A) = Crc16.burst L A M := by
     exact HL1.out.trans (burst_end L A M 1 (by omega) (Or.inr (by have := LEN.out; omega)))
    have hx := row_text ((W0.setCell ⟨H, q, none⟩ (.int .u8 (v : Int))).drew) H s.size Cp (Crc16.turn L A) (by rw [LEN.out, Crc16.turn_length]) HR.out
    rw [hfin] at hx
    clear hfin
    have hend2 : ¬ (A : Int) + 1 < 8 * (s.size : Int) := by omega
    go_wp2
    go_step3
    go_wp2
    go_region
    go_wp2
    simp only [Exit.jump]
    go_ret
    exact ⟨rfl, (below_set bl0 (by have := HH.out; omega) _ _)⟩
 ·rintro a' w' ⟨n, T, K, l, u3, u4, u5, u6, u10, u11, u12, u13, u14, u15, u16, u17, u18, u19, u20, u21, u22, u23, u24, u25, u26, u27, u28, u29, u30, u31, u32, u33, u34, u35, u36, u37, u38, u39, u40, u41, u42, u43, u44, u45, u46, u47, u48, u49, u50, rfl, hn1, hn15, hK, hK8, hT, hL, hRow, hBel, hSz⟩
  clear m0 hd1 hd2 b0 b1 hp8 hqs hc hf hv hq hp HR kc
  clear q p c v
  have HK := hid hK; clear hK
  have HT := hid hT; clear hT
  have HL := hid hL; clear hL
  have HRow := hid hRow; clear hRow
  have HBel := hid hBel; clear hBel
  have HSz := hid hSz; clear hSz
  have m0 := MB.out n T hn15 HT.out
  obtain ⟨q, p, c, v, hq, hp, hp8, hqs, hc, hf, hv, hr⟩ := round_facts w' H K l (by rw [HL.out, Crc16.burstTo_length, ← LEN.out]; exact hK8) HRow.out
  have b0 : (0 : Int) ≤ (q : Int) := by omega
  have b1 : (q : Int) < (s.size : Int) := by
   have h1 := LEN.out
   rw [HL.out, Crc16.burstTo_length] at hqs
   omega
  have HR := hid hr
  clear hr
  cases hb : M.testBit (15 - n)
  ·rw [hb] at m0
   have HB := hid hb; clear hb
   have hl1 : l = Crc16.burstTo L A M (n + 1) := by rw [burst_no L A M n HB.out]; exact HL.out
   have HL1 := hid hl1; clear hl1
   by_cases hend : K + 1 < 8 * s.size ∧ n < 15
   ·obtain ⟨hend, hn15⟩ := hend
    have hT2 := half_pow n T hn15 HT.out
    have HT2 := hid hT2; clear hT2
    have t2 := two_pow_le n T hn15 HT.out
    have HN := hid hn15; clear hn15
    have t3 : (0 : Int) < (T : Int) / 2 := by omega
    have hend2 : (K : Int) + 1 < 8 * (s.size : Int) := by omega
    go_wp2
    go_step3
    have eT : (T : Int) / 2 = ((T / 2 : Nat) : Int) := by omega
    rw [eT]
    exact ⟨rfl, ⟨n + 1, T / 2, K + 1, l, _, _, _, _, _, _, _, _, _, _, _, _, _, _, _, _, _, _, _, _, _, _, _, _, _, _, _, _, _, _, _, _, _, _, _, _, _, _, _, _, _, _, _, _, _, rfl, by omega, by have := HN.out; omega, by have := HK.out; omega, hend, HT2.out, HL1.out, HRow.out, HBel.out, by have := HSz.out; omega⟩, by simp [intOf]; omega⟩
   ·have hfin : l = Crc16.burst L A M := by
     exact HL1.out.trans (burst_end L A M (n + 1) (by omega) (by have := LEN.out; have := HK.out; omega))
    have hx := row_text w' H s.size Cp l (by rw [LEN.out, HL.out, Crc16.burstTo_length]) HRow.out
    rw [hfin] at hx
    clear hfin
    by_cases hn : n = 15
    ·have hT1 := one_pow n T hn HT.out
     have HN := hid hn; clear hn
     have t4 : (T : Int) / 2 = 0 := by omega
     clear hT1
     go_wp2
     simp only [Exit.jump]
     go_ret
     exact ⟨rfl, HBel.out⟩
    ·have hend2 : ¬ (K : Int) + 1 < 8 * (s.size : Int) := by omega
     have t2 := two_pow_le n T (by omega) HT.out
     have t3 : (0 : Int) < (T : Int) / 2 := by omega
     go_wp2
     simp only [Exit.jump]
     go_ret
     exact ⟨rfl, HBel.out⟩
  ·rw [hb] at m0
   have HB := hid hb; clear hb
   have hl1 : (Crc16.turn l K) = Crc16.burstTo L A M (n + 1) := by rw [burst_yes L A M n HB.out, ← HL.out, ← HK.out]
   have HL1 := hid hl1; clear hl1
   by_cases hend : K + 1 < 8 * s.size ∧ n < 15
   ·obtain ⟨hend, hn15⟩ := hend
    have hT2 := half_pow n T hn15 HT.out
    have HT2 := hid hT2; clear hT2
    have t2 := two_pow_le n T hn15 HT.out
    have HN := hid hn15; clear hn15
    have t3 : (0 : Int) < (T : Int) / 2 := by omega
    have hend2 : (K : Int) + 1 < 8 * (s.size : Int) := by omega
    go_wp2
    go_region
    go_wp2
    go_step3
    have eT : (T : Int) / 2 = ((T / 2 : Nat) : Int) := by omega
    rw [eT]
    exact ⟨rfl, ⟨n + 1, T / 2, K + 1, (Crc16.turn l K), _, _, _, _, _, _, _, _, _, _, _, _, _, _, _, _, _, _, _, _, _, _, _, _, _, _, _, _, _, _, _, _, _, _, _, _, _, _, _, _, _, _, _, _, _, rfl, by omega, by have := HN.out; omega, by have := HK.out; omega, hend, HT2.out, HL1.out, HR.out, (below_set HBel.out (by have := HH.out; omega) _ _), by have := HSz.out; rw [size_set]; omega⟩, by simp [intOf]; omega⟩
   ·have hfin : (Crc16.turn l K) = Crc16.burst L A M := by
     exact HL1.out.trans (burst_end L A M (n + 1) (by omega) (by have := LEN.out; have := HK.out; omega))
    have hx := row_text ((w'.setCell ⟨H, q, none⟩ (.int .u8 (v : Int))).drew) H s.size Cp (Crc16.turn l K) (by rw [LEN.out, Crc16.turn_length, HL.out, Crc16.burstTo_length]) HR.out
    rw [hfin] at hx
    clear hfin
    by_cases hn : n = 15
    ·have hT1 := one_pow n T hn HT.out
     have HN := hid hn; clear hn
     have t4 : (T : Int) / 2 = 0 := by omega
     clear hT1
     go_wp2
     go_region
     go_wp2
     simp only [Exit.jump]
     go_ret
     exact ⟨rfl, (below_set HBel.out (by have := HH.out; omega) _ _)⟩
    ·have hend2 : ¬ (K : Int) + 1 < 8 * (s.size : Int) := by omega
     have t2 := two_pow_le n T (by omega) HT.out
     have t3 : (0 : Int) < (T : Int) / 2 := by omega
     go_wp2
     go_region
     go_wp2
     simp only [Exit.jump]
     go_ret
     exact ⟨rfl, (below_set HBel.out (by have := HH.out; omega) _ _)⟩
def burstI (l : List UInt8) (at' mask : Int) : List UInt8 :=
 if 0 ≤ at' ∧ at' < 8 * (l.length : Int) then Crc16.burst l at'.toNat (mask % 65536).toNat else l
theorem burstI_nat (l : List UInt8) (k : Nat) (mask : Int) : burstI l (k : Int) mask = Crc16.burst l k (mask % 65536).toNat := by
 unfold burstI
 by_cases h : k < 8 * l.length
 ·rw [if_pos ⟨by omega, by omega⟩]; rfl
 ·rw [if_neg (by omega)]
  have := burst_stop l k (mask % 65536).toNat 0 (by omega) 16
  exact this.symm
theorem burstI_length (l : List UInt8) (at' mask : Int) : (burstI l at' mask).length = l.length := by
 unfold burstI
 split
 ·exact Crc16.burstTo_length ..
 ·rfl
theorem burst_out (s : ByteArray) (at' mask : Int) (w : World) (hs : s.size < 2000) (ha : ¬ (0 ≤ at' ∧ at' < 8 * (s.size : Int))) :
  Calls Tryz.prog 25 #[.string s, .int .i64 at', .int .i64 mask] w fun e w' => e = .returned (.string s) ∧ Below w.heap.size w w' := by
 have kc := Lib.run_convert_string_bytes (P := Tryz.prog) w 9 42 5 s Tryz.underlying9 Tryz.underlying42 Tryz.underlying5
 obtain ⟨H, hH⟩ : ∃ H, H = w.heap.size := ⟨_, rfl⟩
 obtain ⟨Cp, hCp⟩ : ∃ Cp, Cp = grownCap w s.size 0 5 := ⟨_, rfl⟩
 obtain ⟨W0, hW0⟩ : ∃ W0, W0 = Lib.bytesWorld w 5 s := ⟨_, rfl⟩
 have r0 := row_bytes w s
 have bl0 := below_bytes w s
 rw [← hW0] at r0 bl0 kc
 rw [← hH] at r0 kc
 rw [← hCp] at kc
 clear hW0 hCp hH
 have hx := row_text W0 H s.size Cp _ (Lib.size_eq s).symm r0
 rw [← txt_of] at hx
 clear r0
 by_cases h : at' < 0
 ·clear ha
  go_enter Tryz.func25, Tryz.ntmps25
  go_wp2
  go_step3
  go_wp2
  rw [Exit.noGoto_ret]
  go_ret
  exact ⟨rfl, bl0⟩
 ·have h2 : 8 * (s.size : Int) ≤ at' := by omega
  have h3 : 0 ≤ at' := by omega
  clear ha h
  go_enter Tryz.func25, Tryz.ntmps25
  go_wp2
  go_step3
  go_wp2
  rw [Exit.noGoto_ret]
  go_ret
  exact ⟨rfl, bl0⟩
theorem burst_any (s : ByteArray) (at' mask : Int) (w : World) (hs : s.size < 2000) :
  Calls Tryz.prog 25 #[.string s, .int .i64 at', .int .i64 mask] w fun e w' => e = .returned (.string (txt (burstI s.data.toList at' mask))) ∧ Below w.heap.size w w' := by
 have hl := Lib.size_eq s
 unfold burstI
 by_cases h : 0 ≤ at' ∧ at' < 8 * (s.size : Int)
 ·rw [if_pos (by rw [← hl]; exact h)]
  obtain ⟨A, rfl⟩ := Int.eq_ofNat_of_zero_le h.1
  exact burst_in s A mask w hs (by omega)
 ·rw [if_neg (by rw [← hl]; exact h)]
  exact burst_out s at' mask w hs h
theorem close_length (l : List UInt8) : (Crc16.close l).length = l.length + 2 := by
 unfold Crc16.close Crc16.tail
 rw [List.length_append]; rfl
theorem isClosed_close (l : List UInt8) : isClosed (Crc16.close l) = true := by
 unfold isClosed
 have e : (Crc16.close l).take ((Crc16.close l).length - 2) = l := by
  rw [close_length, show l.length + 2 - 2 = l.length from by omega]
  unfold Crc16.close
  rw [List.take_append_of_le_length (by omega), List.take_length]
 rw [e, decide_eq_true (by rw [close_length]; omega)]
 simp
theorem opened_close (l : List UInt8) : opened (Crc16.close l) = l := by
 unfold opened
 rw [isClosed_close, if_pos rfl, close_length, show l.length + 2 - 2 = l.length from by omega]
 unfold Crc16.close
 rw [List.take_append_of_le_length (by omega), List.take_length]
theorem sum_of_closed (l : List UInt8) (h : isClosed l = true) : Crc16.sum l = 0#16 := by
 unfold isClosed at h
 rw [Bool.and_eq_true, decide_eq_true_eq, beq_iff_eq] at h
 exact (Crc16.close_of_sum l h.1).1 h.2
theorem closed_burst (l : List UInt8) (K M : Nat) : isClosed (Crc16.burst (Crc16.close l) K M) = (Crc16.burst (Crc16.close l) K M == Crc16.close l) := by
 rw [Bool.eq_iff_iff, beq_iff_eq]
 constructor
 ·intro h
  have h1 := sum_of_closed _ h
  exact Crc16.burst_told (Crc16.close l) K M 65535#16 (h1.trans (Crc16.sum_close l).symm)
 ·intro h
  rw [h]
  exact isClosed_close l
end Go.Proofs.YtmmbnjkdknnidaaGreatDoor.C

/-
  Messages and their bytes: Decode undoes Encode, whatever stands behind; Encode undoes Decode.
-/
import Derived.IntWalk
import Derived.Test.YtlhopgadhkjflaaGreatDoorMsgOwnR
import Derived.Test.YtlhopgadhkjflaaGreatDoorOncePhaseR
import Derived.Test.YtlhopgadhkjflaaGreatDoorIdentPsR
set_option maxHeartbeats 4000000
set_option maxRecDepth 100000
namespace Go.Proofs.YtlhopgadhkjflaaGreatDoor
open Lib (hid)
open Go.RowKit
def twoL (n : Int) : List UInt8 := [octet (n / 256), octet n]
def encL (m : Msg) : List UInt8 := printI m.ext m.n ++ [octet m.sender] ++ twoL m.inc ++ twoL m.seq ++ twoL m.number ++ [octet m.data.size] ++ m.data.data.toList
def encT (m : Msg) : List UInt8 := if rightM m = true then encL m else []
def encE (m : Msg) : Int := if rightM m = true then 0 else 1
theorem two_bytes (w : World) (a b : Int) : (convert 42 9 (.slice (some ⟨w.heap.size, 0, none⟩) 2 2)).run Tryz.prog (w.alloc (.cells #[.int .u8 a, .int .u8 b] 5)) = .ok (.string (txt [UInt8.ofNat a.toNat, UInt8.ofNat b.toNat])) (w.alloc (.cells #[.int .u8 a, .int .u8 b] 5)) := by
 refine run_convert_bytes_arg (P := Tryz.prog) _ 42 5 Tryz.underlying42 Tryz.underlying5 w.heap.size 0 2 2 [a, b] rfl ?_ 9 Tryz.underlying9
 intro i hi
 have : i = 0 ∨ i = 1 := by omega
 rcases this with rfl | rfl <;> simp [go_sem]
theorem refTwo_any (n : Int) (h0 : 0 ≤ n) (h1 : n ≤ 65535) (w : World) :
  Calls Tryz.prog 114 #[.int .i64 n] w fun e w' => e = .returned (.string (txt (twoL n))) ∧ Below w.heap.size w w' := by
 have h2 := two_bytes
 go_enter Tryz.func114, Tryz.ntmps114
 go_wp2_with fail
 go_ret
 refine ⟨congrArg (fun l => Ending.returned (.string (txt l))) ?_, Joins.below_alloc1 _ _⟩
 unfold twoL
 rw [octet_of _ (n / 256) (by omega) (by omega), octet_of _ n (by omega) (by omega)]
theorem add_txt (A O C : List UInt8) (h : C = A ++ O) (hs : A.length + O.length ≤ 1000) : txt A ++ txt O = txt C ∧ ¬ 9223372036854775807 < (txt A).size + (txt O).size := by
 refine ⟨by rw [h]; apply ByteArray.ext; simp [txt], ?_⟩
 rw [txt_size, txt_size]; omega
theorem one_at (w : World) (g : Nat) (a : Int) (hc : w.cell? ⟨g, 0, none⟩ = some (.int .u8 a)) : (convert 42 9 (.slice (some ⟨g, 0, none⟩) 1 1)).run Tryz.prog w = .ok (.string (txt [UInt8.ofNat a.toNat])) w := by
 refine run_convert_bytes_arg (P := Tryz.prog) _ 42 5 Tryz.underlying42 Tryz.underlying5 g 0 1 1 [a] rfl ?_ 9 Tryz.underlying9
 intro i hi
 have : i = 0 := by omega
 subst this
 simpa using hc
theorem wrap_octet (n : Int) : UInt8.ofNat (IntKind.u8.wrap n).toNat = octet n := by
 unfold octet
 simp only [IntKind.wrap, IntKind.bits, IntKind.signed]
 simp
theorem refEnc_any (m : Msg) (hd : m.data.size ≤ maxLen) (w : World) :
  Calls Tryz.prog 71 #[mv m] w fun e w' => e = .returned (.tuple #[.string (txt (encT m)), .int .i64 (encE m)]) ∧ Below w.heap.size w w' := by
 have hnew := Holds.new w m
 have cr := fun w => refRightM_any m hd w
 have cp := fun w => refPrint_any m.ext m.n w
 cases hr : rightM m
 ·rw [hr] at cr
  rw [show encT m = [] by unfold encT; rw [hr]; rfl, show encE m = 1 by unfold encE; rw [hr]; rfl]
  have hW := hid (Joins.below_alloc1 w (.cells (mc m) 109))
  obtain ⟨b, n, se, ic, sq, nu, d⟩ := m
  simp only [mv, mc] at *
  obtain ⟨hlt, x0, x1, x2, x3, x4, x5, x6⟩ := hnew
  clear hr cp
  go_enter Tryz.func71, Tryz.ntmps71
  go_wp2_with fail; refine (cr _).mono ?_; rintro e w1 ⟨rfl, b1⟩
  go_wp2_with fail
  go_ret2
  exact ⟨rfl, hW.out.trans (b1.mono (by simp))⟩
 ·rw [hr] at cr
  rw [show encT m = encL m by unfold encT; rw [hr]; rfl, show encE m = 0 by unfold encE; rw [hr]; rfl]
  obtain ⟨r1, ⟨r2, r3⟩, ⟨r4, r5⟩, ⟨r6, r7⟩, ⟨r8, r9⟩, r10⟩ := (rightM_iff m).1 hr
  rw [keyE_right r1] at cp
  obtain ⟨b, n, se, ic, sq, nu, d⟩ := m
  simp only [mv, mc] at *
  have hW := Joins.below_alloc1 w (.cells #[.bool b, .int .i64 n, .int .i64 se, .int .i64 ic, .int .i64 sq, .int .i64 nu, .string d] 109)
  obtain ⟨hlt, x0, x1, x2, x3, x4, x5, x6⟩ := id hnew
  have hAl : (printI b n).length = 4 := by unfold printI; rw [r1]; rfl
  obtain ⟨A0, hA0⟩ : ∃ A, A = printI b n := ⟨_, rfl⟩
  rw [← hA0] at cp hAl
  obtain ⟨A1, hA1⟩ : ∃ A, A = A0 ++ [UInt8.ofNat (IntKind.u8.wrap se).toNat] := ⟨_, rfl⟩
  obtain ⟨A2, hA2⟩ : ∃ A, A = A1 ++ twoL ic := ⟨_, rfl⟩
  obtain ⟨A3, hA3⟩ : ∃ A, A = A2 ++ twoL sq := ⟨_, rfl⟩
  obtain ⟨A4, hA4⟩ : ∃ A, A = A3 ++ twoL nu := ⟨_, rfl⟩
  obtain ⟨A5, hA5⟩ : ∃ A, A = A4 ++ [UInt8.ofNat (IntKind.u8.wrap (d.size : Int)).toNat] := ⟨_, rfl⟩
  obtain ⟨A6, hA6⟩ : ∃ A, A = A5 ++ d.data.toList := ⟨_, rfl⟩
  have HA := hid (show encL ⟨b, n, se, ic, sq, nu, d⟩ = A6 by rw [hA6, hA5, hA4, hA3, hA2, hA1, hA0, wrap_octet, wrap_octet]; rfl)
  have hl1 : A1.length = 5 := by rw [hA1, List.length_append, hAl]; rfl
  have hl2 : A2.length = 7 := by rw [hA2, List.length_append, hl1]; rfl
  have hl3 : A3.length = 9 := by rw [hA3, List.length_append, hl2]; rfl
  have hl4 : A4.length = 11 := by rw [hA4, List.length_append, hl3]; rfl
  have hl5 : A5.length = 12 := by rw [hA5, List.length_append, hl4]; rfl
  have hdl : d.data.toList.length = d.size := (Lib.size_eq d).symm
  have K1 := hid (add_txt A0 _ A1 hA1 (by rw [hAl]; simp))
  have K2 := hid (add_txt A1 (twoL ic) A2 hA2 (by rw [hl1]; simp [twoL]))
  have K3 := hid (add_txt A2 (twoL sq) A3 hA3 (by rw [hl2]; simp [twoL]))
  have K4 := hid (add_txt A3 (twoL nu) A4 hA4 (by rw [hl3]; simp [twoL]))
  have K5 := hid (add_txt A4 _ A5 hA5 (by rw [hl4]; simp))
  have K6 : Hid (txt A5 ++ d = txt A6 ∧ ¬ 9223372036854775807 < (txt A5).size + d.size) := hid ⟨(add_txt A5 d.data.toList A6 hA6 (by rw [hl5, hdl]; omega)).1, by rw [txt_size]; omega⟩
  clear hl1 hl2 hl3 hl4 hl5 hdl hA0 hA1 hA2 hA3 hA4 hA5 hA6 hAl
  go_enter Tryz.func71, Tryz.ntmps71
  go_wp2_with fail; refine (cr _).mono ?_; rintro e w1 ⟨rfl, b1⟩
  obtain ⟨_, y0, y1, y2, y3, y4, y5, y6⟩ := hnew.below b1
  clear x0 x1 x2 x3 x4 x5 x6
  go_wp2_with fail; refine (cp _).mono ?_; rintro e w2 ⟨rfl, b2⟩
  have HM := hid ((hnew.below b1).below b2)
  have HB := hid ((hW.trans (b1.mono (by simp))).trans (b2.mono (by have := b1.size; simp at this; omega)))
  clear hnew hW b1 b2 y0 y1 y2 y3 y4 y5 y6 cr cp
  go_wp2_with fail
  generalize hBw : w.heap.size = B at HM ⊢
  have HV : ∃ V : Nat → (Nat → Value) → World → Prop, V = (fun ix u wv => match ix with
   | 0 => u 0 = .string (txt A0)
   | 1 => u 1 = .pointer (some ⟨B, 2, none⟩)
   | 2 => u 2 = .int .i64 se
   | 3 => u 3 = .int .u8 (IntKind.u8.wrap se)
   | 4 => ∃ g, u 4 = .slice (some ⟨g, 0, none⟩) 1 1 ∧ g < wv.heap.size ∧ wv.cell? ⟨g, 0, none⟩ = some (.int .u8 (IntKind.u8.wrap se))
   | 5 => u 5 = .string (txt [UInt8.ofNat (IntKind.u8.wrap se).toNat])
   | 6 => u 6 = .string (txt A1)
   | 7 => u 7 = .pointer (some ⟨B, 3, none⟩)
   | 8 => u 8 = .int .i64 ic
   | 9 => u 9 = .string (txt (twoL ic))
   | 10 => u 10 = .string (txt A2)
   | 11 => u 11 = .pointer (some ⟨B, 4, none⟩)
   | 12 => u 12 = .int .i64 sq
   | 13 => u 13 = .string (txt (twoL sq))
   | 14 => u 14 = .string (txt A3)
   | 15 => u 15 = .pointer (some ⟨B, 5, none⟩)
   | 16 => u 16 = .int .i64 nu
   | 17 => u 17 = .string (txt (twoL nu))
   | 18 => u 18 = .string (txt A4)
   | 19 => u 19 = .pointer (some ⟨B, 6, none⟩)
   | 20 => u 20 = .string d
   | 21 => u 21 = .int .i64 (d.size : Int)
   | 22 => u 22 = .int .u8 (IntKind.u8.wrap (d.size : Int))
   | 23 => ∃ g, u 23 = .slice (some ⟨g, 0, none⟩) 1 1 ∧ g < wv.heap.size ∧ wv.cell? ⟨g, 0, none⟩ = some (.int .u8 (IntKind.u8.wrap (d.size : Int)))
   | 24 => u 24 = .string (txt [UInt8.ofNat (IntKind.u8.wrap (d.size : Int)).toNat])
   | 25 => u 25 = .string (txt A5)
   | 26 => u 26 = .pointer (some ⟨B, 6, none⟩)
   | 27 => u 27 = .string d
   | 28 => u 28 = .string (txt A6)
   | 29 => u 29 = .string (txt A6)
   | 30 => u 30 = .int .i64 0
   | _ => True) := ⟨_, rfl⟩
  obtain ⟨V, hd7⟩ := HV
  have V0 : ∀ u wv, V 0 u wv = (u 0 = .string (txt A0)) := fun u wv => by subst hd7; rfl
  have V1 : ∀ u wv, V 1 u wv = (u 1 = .pointer (some ⟨B, 2, none⟩)) := fun u wv => by subst hd7; rfl
  have V2 : ∀ u wv, V 2 u wv = (u 2 = .int .i64 se) := fun u wv => by subst hd7; rfl
  have V3 : ∀ u wv, V 3 u wv = (u 3 = .int .u8 (IntKind.u8.wrap se)) := fun u wv => by subst hd7; rfl
  have V4 : ∀ u wv, V 4 u wv = (∃ g, u 4 = .slice (some ⟨g, 0, none⟩) 1 1 ∧ g < wv.heap.size ∧ wv.cell? ⟨g, 0, none⟩ = some (.int .u8 (IntKind.u8.wrap se))) := fun u wv => by subst hd7; rfl
  have V5 : ∀ u wv, V 5 u wv = (u 5 = .string (txt [UInt8.ofNat (IntKind.u8.wrap se).toNat])) := fun u wv => by subst hd7; rfl
  have V6 : ∀ u wv, V 6 u wv = (u 6 = .string (txt A1)) := fun u wv => by subst hd7; rfl
  have V7 : ∀ u wv, V 7 u wv = (u 7 = .pointer (some ⟨B, 3, none⟩)) := fun u wv => by subst hd7; rfl
  have V8 : ∀ u wv, V 8 u wv = (u 8 = .int .i64 ic) := fun u wv => by subst hd7; rfl
  have V9 : ∀ u wv, V 9 u wv = (u 9 = .string (txt (twoL ic))) := fun u wv => by subst hd7; rfl
  have V10 : ∀ u wv, V 10 u wv = (u 10 = .string (txt A2)) := fun u wv => by subst hd7; rfl
  have V11 : ∀ u wv, V 11 u wv = (u 11 = .pointer (some ⟨B, 4, none⟩)) := fun u wv => by subst hd7; rfl
  have V12 : ∀ u wv, V 12 u wv = (u 12 = .int .i64 sq) := fun u wv => by subst hd7; rfl
  have V13 : ∀ u wv, V 13 u wv = (u 13 = .string (txt (twoL sq))) := fun u wv => by subst hd7; rfl
  have V14 : ∀ u wv, V 14 u wv = (u 14 = .string (txt A3)) := fun u wv => by subst hd7; rfl
  have V15 : ∀ u wv, V 15 u wv = (u 15 = .pointer (some ⟨B, 5, none⟩)) := fun u wv => by subst hd7; rfl
  have V16 : ∀ u wv, V 16 u wv = (u 16 = .int .i64 nu) := fun u wv => by subst hd7; rfl
  have V17 : ∀ u wv, V 17 u wv = (u 17 = .string (txt (twoL nu))) := fun u wv => by subst hd7; rfl
  have V18 : ∀ u wv, V 18 u wv = (u 18 = .string (txt A4)) := fun u wv => by subst hd7; rfl
  have V19 : ∀ u wv, V 19 u wv = (u 19 = .pointer (some ⟨B, 6, none⟩)) := fun u wv => by subst hd7; rfl
  have V20 : ∀ u wv, V 20 u wv = (u 20 = .string d) := fun u wv => by subst hd7; rfl
  have V21 : ∀ u wv, V 21 u wv = (u 21 = .int .i64 (d.size : Int)) := fun u wv => by subst hd7; rfl
  have V22 : ∀ u wv, V 22 u wv = (u 22 = .int .u8 (IntKind.u8.wrap (d.size : Int))) := fun u wv => by subst hd7; rfl
  have V23 : ∀ u wv, V 23 u wv = (∃ g, u 23 = .slice (some ⟨g, 0, none⟩) 1 1 ∧ g < wv.heap.size ∧ wv.cell? ⟨g, 0, none⟩ = some (.int .u8 (IntKind.u8.wrap (d.size : Int)))) := fun u wv => by subst hd7; rfl
  have V24 : ∀ u wv, V 24 u wv = (u 24 = .string (txt [UInt8.ofNat (IntKind.u8.wrap (d.size : Int)).toNat])) := fun u wv => by subst hd7; rfl
  have V25 : ∀ u wv, V 25 u wv = (u 25 = .string (txt A5)) := fun u wv => by subst hd7; rfl
  have V26 : ∀ u wv, V 26 u wv = (u 26 = .pointer (some ⟨B, 6, none⟩)) := fun u wv => by subst hd7; rfl
  have V27 : ∀ u wv, V 27 u wv = (u 27 = .string d) := fun u wv => by subst hd7; rfl
  have V28 : ∀ u wv, V 28 u wv = (u 28 = .string (txt A6)) := fun u wv => by subst hd7; rfl
  have V29 : ∀ u wv, V 29 u wv = (u 29 = .string (txt A6)) := fun u wv => by subst hd7; rfl
  have V30 : ∀ u wv, V 30 u wv = (u 30 = .int .i64 0) := fun u wv => by subst hd7; rfl
  have HVD := hid hd7
  clear hd7
  refine region_each (V := V) (drop := fun _ _ => false) (G := fun wv => Below w2.heap.size w2 wv) (Rel := fun jx wv wv' => Below wv.heap.size wv wv') (by kernel_rfl) (by kernel_rfl) (Below.refl _ _).drew ?hmono1 ?hdep1 ⟨?s0_1, ?s1_1, ?s2_1, ?s3_1, ?s4_1, ?s5_1, ?s6_1, ?s7_1, ?s8_1, ?s9_1, ?s10_1, ?s11_1, ?s12_1, ?s13_1, ?s14_1, ?s15_1, ?s16_1, ?s17_1, ?s18_1, ?s19_1, ?s20_1, ?s21_1, ?s22_1, ?s23_1, ?s24_1, ?s25_1, ?s26_1, ?s27_1, ?s28_1, ?s29_1, ?s30_1, trivial⟩ ?behind1
  case hmono1 =>
   intro ix jx u wv wv' hij hw hd hr
   rw [HVD.out]
   dsimp only
   split <;> intro h <;> first | exact trivial | exact h | (obtain ⟨g, h1, h2, h3⟩ := h; exact ⟨g, h1, Nat.lt_of_lt_of_le h2 hr.size, (hr.cell (p := ⟨g, 0, none⟩) h2).trans h3⟩)
  case hdep1 =>
   intro ix u u' wv h1 h2
   rw [HVD.out]
   dsimp only
   split <;> intro h <;> first | exact trivial | (rw [← h1]; exact h) | (obtain ⟨g, e1, e2⟩ := h; exact ⟨g, h1 ▸ e1, e2⟩)
  case s0_1 =>
   refine owe rfl fun a wx val hG hV hN hO K hK => ?_
   have e4 : a.tmps[4]? = some (.string (txt A0)) := (hO 4 (by kernel_rfl)).trans (by rfl)
   clear hV hN hO
   go_simp
   exact hK.out _ _ (by rw [V0, upd_at]) (Below.refl _ _) hG
  case s1_1 =>
   refine owe rfl fun a wx val hG hV hN hO K hK => ?_
   have e1 : a.tmps[1]? = some (.pointer (some ⟨B, 0, none⟩)) := (hO 1 (by kernel_rfl)).trans (by rfl)
   clear hV hN hO
   go_simp
   exact hK.out _ _ (by rw [V1, upd_at]) (Below.refl _ _) hG
  case s2_1 =>
   refine owe rfl fun a wx val hG hV hN hO K hK => ?_
   have e16 := hN 1 16 (by kernel_rfl) (by kernel_rfl) (by simp)
   have f16 := hV 1 (by kernel_rfl) (by kernel_rfl)
   rw [V1] at f16
   rw [f16] at e16; clear f16
   clear hV hN hO
   obtain ⟨_, x0, x1, x2, x3, x4, x5, x6⟩ := HM.out.below hG
   go_simp
   exact hK.out _ _ (by rw [V2, upd_at]) (Below.refl _ _) hG
  case s3_1 =>
   refine owe rfl fun a wx val hG hV hN hO K hK => ?_
   have e17 := hN 2 17 (by kernel_rfl) (by kernel_rfl) (by simp)
   have f17 := hV 2 (by kernel_rfl) (by kernel_rfl)
   rw [V2] at f17
   rw [f17] at e17; clear f17
   clear hV hN hO
   go_simp
   exact hK.out _ _ (by rw [V3, upd_at]) (Below.refl _ _) hG
  case s4_1 =>
   refine owe rfl fun a wx val hG hV hN hO K hK => ?_
   have e18 := hN 3 18 (by kernel_rfl) (by kernel_rfl) (by simp)
   have f18 := hV 3 (by kernel_rfl) (by kernel_rfl)
   rw [V3] at f18
   rw [f18] at e18; clear f18
   clear hV hN hO
   go_simp
   exact hK.out _ _ (by rw [V4, upd_at]; exact ⟨_, rfl, by simp, by simp [go_sem]⟩) ((Below.refl _ _).alloc (Nat.le_refl _) _) (hG.alloc hG.size _)
  case s5_1 =>
   refine owe rfl fun a wx val hG hV hN hO K hK => ?_
   have e19 := hN 4 19 (by kernel_rfl) (by kernel_rfl) (by simp)
   have f19 := hV 4 (by kernel_rfl) (by kernel_rfl)
   rw [V4] at f19
   obtain ⟨g, hv, hg, hc⟩ := f19; rw [hv] at e19; clear hv
   clear hV hN hO
   have h1 := one_at wx g _ hc
   go_simp
   exact hK.out _ _ (by rw [V5, upd_at]) (Below.refl _ _) hG
  case s6_1 =>
   refine owe rfl fun a wx val hG hV hN hO K hK => ?_
   have e15 := hN 0 15 (by kernel_rfl) (by kernel_rfl) (by simp)
   have f15 := hV 0 (by kernel_rfl) (by kernel_rfl)
   rw [V0] at f15
   rw [f15] at e15; clear f15
   have e20 := hN 5 20 (by kernel_rfl) (by kernel_rfl) (by simp)
   have f20 := hV 5 (by kernel_rfl) (by kernel_rfl)
   rw [V5] at f20
   rw [f20] at e20; clear f20
   clear hV hN hO
   have kq := K1.out.1
   have kn := K1.out.2
   go_simp
   exact hK.out _ _ (by rw [V6, upd_at]) (Below.refl _ _) hG
  case s7_1 =>
   refine owe rfl fun a wx val hG hV hN hO K hK => ?_
   have e1 : a.tmps[1]? = some (.pointer (some ⟨B, 0, none⟩)) := (hO 1 (by kernel_rfl)).trans (by rfl)
   clear hV hN hO
   go_simp
   exact hK.out _ _ (by rw [V7, upd_at]) (Below.refl _ _) hG
  case s8_1 =>
   refine owe rfl fun a wx val hG hV hN hO K hK => ?_
   have e22 := hN 7 22 (by kernel_rfl) (by kernel_rfl) (by simp)
   have f22 := hV 7 (by kernel_rfl) (by kernel_rfl)
   rw [V7] at f22
   rw [f22] at e22; clear f22
   clear hV hN hO
   obtain ⟨_, x0, x1, x2, x3, x4, x5, x6⟩ := HM.out.below hG
   go_simp
   exact hK.out _ _ (by rw [V8, upd_at]) (Below.refl _ _) hG
  case s9_1 =>
   refine owe rfl fun a wx val hG hV hN hO K hK => ?_
   have e23 := hN 8 23 (by kernel_rfl) (by kernel_rfl) (by simp)
   have f23 := hV 8 (by kernel_rfl) (by kernel_rfl)
   rw [V8] at f23
   rw [f23] at e23; clear f23
   clear hV hN hO
   go_simp
   refine (refTwo_any ic (by omega) (by omega) _).mono ?_
   rintro e w3 ⟨rfl, hb⟩
   exact hK.out _ _ (by rw [V9, upd_at]) hb (hG.trans (hb.mono hG.size))
  case s10_1 =>
   refine owe rfl fun a wx val hG hV hN hO K hK => ?_
   have e21 := hN 6 21 (by kernel_rfl) (by kernel_rfl) (by simp)
   have f21 := hV 6 (by kernel_rfl) (by kernel_rfl)
   rw [V6] at f21
   rw [f21] at e21; clear f21
   have e24 := hN 9 24 (by kernel_rfl) (by kernel_rfl) (by simp)
   have f24 := hV 9 (by kernel_rfl) (by kernel_rfl)
   rw [V9] at f24
   rw [f24] at e24; clear f24
   clear hV hN hO
   have kq := K2.out.1
   have kn := K2.out.2
   go_simp
   exact hK.out _ _ (by rw [V10, upd_at]) (Below.refl _ _) hG
  case s11_1 =>
   refine owe rfl fun a wx val hG hV hN hO K hK => ?_
   have e1 : a.tmps[1]? = some (.pointer (some ⟨B, 0, none⟩)) := (hO 1 (by kernel_rfl)).trans (by rfl)
   clear hV hN hO
   go_simp
   exact hK.out _ _ (by rw [V11, upd_at]) (Below.refl _ _) hG
  case s12_1 =>
   refine owe rfl fun a wx val hG hV hN hO K hK => ?_
   have e26 := hN 11 26 (by kernel_rfl) (by kernel_rfl) (by simp)
   have f26 := hV 11 (by kernel_rfl) (by kernel_rfl)
   rw [V11] at f26
   rw [f26] at e26; clear f26
   clear hV hN hO
   obtain ⟨_, x0, x1, x2, x3, x4, x5, x6⟩ := HM.out.below hG
   go_simp
   exact hK.out _ _ (by rw [V12, upd_at]) (Below.refl _ _) hG
  case s13_1 =>
   refine owe rfl fun a wx val hG hV hN hO K hK => ?_
   have e27 := hN 12 27 (by kernel_rfl) (by kernel_rfl) (by simp)
   have f27 := hV 12 (by kernel_rfl) (by kernel_rfl)
   rw [V12] at f27
   rw [f27] at e27; clear f27
   clear hV hN hO
   go_simp
   refine (refTwo_any sq (by omega) (by omega) _).mono ?_
   rintro e w3 ⟨rfl, hb⟩
   exact hK.out _ _ (by rw [V13, upd_at]) hb (hG.trans (hb.mono hG.size))
  case s14_1 =>
   refine owe rfl fun a wx val hG hV hN hO K hK => ?_
   have e25 := hN 10 25 (by kernel_rfl) (by kernel_rfl) (by simp)
   have f25 := hV 10 (by kernel_rfl) (by kernel_rfl)
   rw [V10] at f25
   rw [f25] at e25; clear f25
   have e28 := hN 13 28 (by kernel_rfl) (by kernel_rfl) (by simp)
   have f28 := hV 13 (by kernel_rfl) (by kernel_rfl)
   rw [V13] at f28
   rw [f28] at e28; clear f28
   clear hV hN hO
   have kq := K3.out.1
   have kn := K3.out.2
   go_simp
   exact hK.out _ _ (by rw [V14, upd_at]) (Below.refl _ _) hG
  case s15_1 =>
   refine owe rfl fun a wx val hG hV hN hO K hK => ?_
   have e1 : a.tmps[1]? = some (.pointer (some ⟨B, 0, none⟩)) := (hO 1 (by kernel_rfl)).trans (by rfl)
   clear hV hN hO
   go_simp
   exact hK.out _ _ (by rw [V15, upd_at]) (Below.refl _ _) hG
  case s16_1 =>
   refine owe rfl fun a wx val hG hV hN hO K hK => ?_
   have e30 := hN 15 30 (by kernel_rfl) (by kernel_rfl) (by simp)
   have f30 := hV 15 (by kernel_rfl) (by kernel_rfl)
   rw [V15] at f30
   rw [f30] at e30; clear f30
   clear hV hN hO
   obtain ⟨_, x0, x1, x2, x3, x4, x5, x6⟩ := HM.out.below hG
   go_simp
   exact hK.out _ _ (by rw [V16, upd_at]) (Below.refl _ _) hG
  case s17_1 =>
   refine owe rfl fun a wx val hG hV hN hO K hK => ?_
   have e31 := hN 16 31 (by kernel_rfl) (by kernel_rfl) (by simp)
   have f31 := hV 16 (by kernel_rfl) (by kernel_rfl)
   rw [V16] at f31
   rw [f31] at e31; clear f31
   clear hV hN hO
   go_simp
   refine (refTwo_any nu (by omega) (by omega) _).mono ?_
   rintro e w3 ⟨rfl, hb⟩
   exact hK.out _ _ (by rw [V17, upd_at]) hb (hG.trans (hb.mono hG.size))
  case s18_1 =>
   refine owe rfl fun a wx val hG hV hN hO K hK => ?_
   have e29 := hN 14 29 (by kernel_rfl) (by kernel_rfl) (by simp)
   have f29 := hV 14 (by kernel_rfl) (by kernel_rfl)
   rw [V14] at f29
   rw [f29] at e29; clear f29
   have e32 := hN 17 32 (by kernel_rfl) (by kernel_rfl) (by simp)
   have f32 := hV 17 (by kernel_rfl) (by kernel_rfl)
   rw [V17] at f32
   rw [f32] at e32; clear f32
   clear hV hN hO
   have kq := K4.out.1
   have kn := K4.out.2
   go_simp
   exact hK.out _ _ (by rw [V18, upd_at]) (Below.refl _ _) hG
  case s19_1 =>
   refine owe rfl fun a wx val hG hV hN hO K hK => ?_
   have e1 : a.tmps[1]? = some (.pointer (some ⟨B, 0, none⟩)) := (hO 1 (by kernel_rfl)).trans (by rfl)
   clear hV hN hO
   go_simp
   exact hK.out _ _ (by rw [V19, upd_at]) (Below.refl _ _) hG
  case s20_1 =>
   refine owe rfl fun a wx val hG hV hN hO K hK => ?_
   have e34 := hN 19 34 (by kernel_rfl) (by kernel_rfl) (by simp)
   have f34 := hV 19 (by kernel_rfl) (by kernel_rfl)
   rw [V19] at f34
   rw [f34] at e34; clear f34
   clear hV hN hO
   obtain ⟨_, x0, x1, x2, x3, x4, x5, x6⟩ := HM.out.below hG
   go_simp
   exact hK.out _ _ (by rw [V20, upd_at]) (Below.refl _ _) hG
  case s21_1 =>
   refine owe rfl fun a wx val hG hV hN hO K hK => ?_
   have e35 := hN 20 35 (by kernel_rfl) (by kernel_rfl) (by simp)
   have f35 := hV 20 (by kernel_rfl) (by kernel_rfl)
   rw [V20] at f35
   rw [f35] at e35; clear f35
   clear hV hN hO
   go_simp
   exact hK.out _ _ (by rw [V21, upd_at]) (Below.refl _ _) hG
  case s22_1 =>
   refine owe rfl fun a wx val hG hV hN hO K hK => ?_
   have e36 := hN 21 36 (by kernel_rfl) (by kernel_rfl) (by simp)
   have f36 := hV 21 (by kernel_rfl) (by kernel_rfl)
   rw [V21] at f36
   rw [f36] at e36; clear f36
   clear hV hN hO
   go_simp
   exact hK.out _ _ (by rw [V22, upd_at]) (Below.refl _ _) hG
  case s23_1 =>
   refine owe rfl fun a wx val hG hV hN hO K hK => ?_
   have e37 := hN 22 37 (by kernel_rfl) (by kernel_rfl) (by simp)
   have f37 := hV 22 (by kernel_rfl) (by kernel_rfl)
   rw [V22] at f37
   rw [f37] at e37; clear f37
   clear hV hN hO
   go_simp
   exact hK.out _ _ (by rw [V23, upd_at]; exact ⟨_, rfl, by simp, by simp [go_sem]⟩) ((Below.refl _ _).alloc (Nat.le_refl _) _) (hG.alloc hG.size _)
  case s24_1 =>
   refine owe rfl fun a wx val hG hV hN hO K hK => ?_
   have e38 := hN 23 38 (by kernel_rfl) (by kernel_rfl) (by simp)
   have f38 := hV 23 (by kernel_rfl) (by kernel_rfl)
   rw [V23] at f38
   obtain ⟨g, hv, hg, hc⟩ := f38; rw [hv] at e38; clear hv
   clear hV hN hO
   have h1 := one_at wx g _ hc
   go_simp
   exact hK.out _ _ (by rw [V24, upd_at]) (Below.refl _ _) hG
  case s25_1 =>
   refine owe rfl fun a wx val hG hV hN hO K hK => ?_
   have e33 := hN 18 33 (by kernel_rfl) (by kernel_rfl) (by simp)
   have f33 := hV 18 (by kernel_rfl) (by kernel_rfl)
   rw [V18] at f33
   rw [f33] at e33; clear f33
   have e39 := hN 24 39 (by kernel_rfl) (by kernel_rfl) (by simp)
   have f39 := hV 24 (by kernel_rfl) (by kernel_rfl)
   rw [V24] at f39
   rw [f39] at e39; clear f39
   clear hV hN hO
   have kq := K5.out.1
   have kn := K5.out.2
   go_simp
   exact hK.out _ _ (by rw [V25, upd_at]) (Below.refl _ _) hG
  case s26_1 =>
   refine owe rfl fun a wx val hG hV hN hO K hK => ?_
   have e1 : a.tmps[1]? = some (.pointer (some ⟨B, 0, none⟩)) := (hO 1 (by kernel_rfl)).trans (by rfl)
   clear hV hN hO
   go_simp
   exact hK.out _ _ (by rw [V26, upd_at]) (Below.refl _ _) hG
  case s27_1 =>
   refine owe rfl fun a wx val hG hV hN hO K hK => ?_
   have e41 := hN 26 41 (by kernel_rfl) (by kernel_rfl) (by simp)
   have f41 := hV 26 (by kernel_rfl) (by kernel_rfl)
   rw [V26] at f41
   rw [f41] at e41; clear f41
   clear hV hN hO
   obtain ⟨_, x0, x1, x2, x3, x4, x5, x6⟩ := HM.out.below hG
   go_simp
   exact hK.out _ _ (by rw [V27, upd_at]) (Below.refl _ _) hG
  case s28_1 =>
   refine owe rfl fun a wx val hG hV hN hO K hK => ?_
   have e40 := hN 25 40 (by kernel_rfl) (by kernel_rfl) (by simp)
   have f40 := hV 25 (by kernel_rfl) (by kernel_rfl)
   rw [V25] at f40
   rw [f40] at e40; clear f40
   have e42 := hN 27 42 (by kernel_rfl) (by kernel_rfl) (by simp)
   have f42 := hV 27 (by kernel_rfl) (by kernel_rfl)
   rw [V27] at f42
   rw [f42] at e42; clear f42
   clear hV hN hO
   have kq := K6.out.1
   have kn := K6.out.2
   go_simp
   exact hK.out _ _ (by rw [V28, upd_at]) (Below.refl _ _) hG
  case s29_1 =>
   refine owe rfl fun a wx val hG hV hN hO K hK => ?_
   have e43 := hN 28 43 (by kernel_rfl) (by kernel_rfl) (by simp)
   have f43 := hV 28 (by kernel_rfl) (by kernel_rfl)
   rw [V28] at f43
   rw [f43] at e43; clear f43
   clear hV hN hO
   go_simp
   exact hK.out _ _ (by rw [V29, upd_at]) (Below.refl _ _) hG
  case s30_1 =>
   refine owe rfl fun a wx val hG hV hN hO K hK => ?_
   clear hV hN hO
   go_simp
   exact hK.out _ _ (by rw [V30, upd_at]) (Below.refl _ _) hG
  intro val wx hG hV
  have f0 := hV 0 (by simp) (fun _ _ => by rfl)
  rw [V0] at f0
  have f1 := hV 1 (by simp) (fun _ _ => by rfl)
  rw [V1] at f1
  have f2 := hV 2 (by simp) (fun _ _ => by rfl)
  rw [V2] at f2
  have f3 := hV 3 (by simp) (fun _ _ => by rfl)
  rw [V3] at f3
  have f4 := hV 4 (by simp) (fun _ _ => by rfl)
  rw [V4] at f4
  have f5 := hV 5 (by simp) (fun _ _ => by rfl)
  rw [V5] at f5
  have f6 := hV 6 (by simp) (fun _ _ => by rfl)
  rw [V6] at f6
  have f7 := hV 7 (by simp) (fun _ _ => by rfl)
  rw [V7] at f7
  have f8 := hV 8 (by simp) (fun _ _ => by rfl)
  rw [V8] at f8
  have f9 := hV 9 (by simp) (fun _ _ => by rfl)
  rw [V9] at f9
  have f10 := hV 10 (by simp) (fun _ _ => by rfl)
  rw [V10] at f10
  have f11 := hV 11 (by simp) (fun _ _ => by rfl)
  rw [V11] at f11
  have f12 := hV 12 (by simp) (fun _ _ => by rfl)
  rw [V12] at f12
  have f13 := hV 13 (by simp) (fun _ _ => by rfl)
  rw [V13] at f13
  have f14 := hV 14 (by simp) (fun _ _ => by rfl)
  rw [V14] at f14
  have f15 := hV 15 (by simp) (fun _ _ => by rfl)
  rw [V15] at f15
  have f16 := hV 16 (by simp) (fun _ _ => by rfl)
  rw [V16] at f16
  have f17 := hV 17 (by simp) (fun _ _ => by rfl)
  rw [V17] at f17
  have f18 := hV 18 (by simp) (fun _ _ => by rfl)
  rw [V18] at f18
  have f19 := hV 19 (by simp) (fun _ _ => by rfl)
  rw [V19] at f19
  have f20 := hV 20 (by simp) (fun _ _ => by rfl)
  rw [V20] at f20
  have f21 := hV 21 (by simp) (fun _ _ => by rfl)
  rw [V21] at f21
  have f22 := hV 22 (by simp) (fun _ _ => by rfl)
  rw [V22] at f22
  have f23 := hV 23 (by simp) (fun _ _ => by rfl)
  rw [V23] at f23
  have f24 := hV 24 (by simp) (fun _ _ => by rfl)
  rw [V24] at f24
  have f25 := hV 25 (by simp) (fun _ _ => by rfl)
  rw [V25] at f25
  have f26 := hV 26 (by simp) (fun _ _ => by rfl)
  rw [V26] at f26
  have f27 := hV 27 (by simp) (fun _ _ => by rfl)
  rw [V27] at f27
  have f28 := hV 28 (by simp) (fun _ _ => by rfl)
  rw [V28] at f28
  have f29 := hV 29 (by simp) (fun _ _ => by rfl)
  rw [V29] at f29
  have f30 := hV 30 (by simp) (fun _ _ => by rfl)
  rw [V30] at f30
  clear hV V0 V1 V2 V3 V4 V5 V6 V7 V8 V9 V10 V11 V12 V13 V14 V15 V16 V17 V18 V19 V20 V21 V22 V23 V24 V25 V26 V27 V28 V29 V30
  simp only [putAll, Act.put, List.setIfInBounds_toArray, List.set_cons_zero, List.set_cons_succ]
  generalize val 0 = z0, val 1 = z1, val 2 = z2, val 3 = z3, val 5 = z5, val 6 = z6, val 7 = z7, val 8 = z8, val 9 = z9, val 10 = z10, val 11 = z11, val 12 = z12, val 13 = z13, val 14 = z14, val 15 = z15, val 16 = z16, val 17 = z17, val 18 = z18, val 19 = z19, val 20 = z20, val 21 = z21, val 22 = z22, val 24 = z24, val 25 = z25, val 26 = z26, val 27 = z27, val 28 = z28, val 29 = z29, val 30 = z30 at *
  subst f0 f1 f2 f3 f5 f6 f7 f8 f9 f10 f11 f12 f13 f14 f15 f16 f17 f18 f19 f20 f21 f22 f24 f25 f26 f27 f28 f29 f30
  go_wp2_with fail
  go_ret2
  exact ⟨congrArg (fun l => Ending.returned (.tuple #[.string (txt l), .int .i64 0])) HA.out.symm, HB.out.trans (hG.mono HB.out.size)⟩
end Go.Proofs.YtlhopgadhkjflaaGreatDoor
namespace Go.Proofs.YtlhopgadhkjflaaGreatDoor
open Lib (hid)
open Go.RowKit
theorem set_blk {w : World} {g : Nat} {Z : Array Value} {T : TypeId} (h : w.heap[g]? = some (.cells Z T (0, 0))) (i : Nat) (v : Value) : (w.setCell ⟨g, i, none⟩ v).heap[g]? = some (.cells (Z.setIfInBounds i v) T (0, 0)) := by
 simp [World.setCell, Array.getElem?_modify, h]
def put7 (w : World) (g : Nat) (m : Msg) : World :=
 ((((((w.setCell ⟨g, 0, none⟩ (.bool m.ext)).setCell ⟨g, 1, none⟩ (.int .i64 m.n)).setCell ⟨g, 2, none⟩ (.int .i64 m.sender)).setCell ⟨g, 3, none⟩ (.int .i64 m.inc)).setCell ⟨g, 4, none⟩ (.int .i64 m.seq)).setCell ⟨g, 5, none⟩ (.int .i64 m.number)).setCell ⟨g, 6, none⟩ (.string m.data)
theorem put7_blk {w : World} {g : Nat} (h : Seven w g) (m : Msg) : (put7 w g m).heap[g]? = some (.cells (mc m) 109 (0, 0)) := by
 obtain ⟨Z, h1, h2⟩ := h
 obtain ⟨l, rfl⟩ : ∃ l : List Value, Z = l.toArray := ⟨Z.toList, by simp⟩
 have h3 : l.length = 7 := by simpa using h2
 match l, h3, h1 with
 | [z0, z1, z2, z3, z4, z5, z6], _, h1 =>
  have e0 := set_blk h1 0 (.bool m.ext)
  have e1 := set_blk e0 1 (.int .i64 m.n)
  have e2 := set_blk e1 2 (.int .i64 m.sender)
  have e3 := set_blk e2 3 (.int .i64 m.inc)
  have e4 := set_blk e3 4 (.int .i64 m.seq)
  have e5 := set_blk e4 5 (.int .i64 m.number)
  have e6 := set_blk e5 6 (.string m.data)
  simp only [List.setIfInBounds_toArray, List.set_cons_zero, List.set_cons_succ] at e6
  exact e6
theorem put7_far (w : World) {g g' : Nat} (h : g' ≠ g) (m : Msg) : (put7 w g m).heap[g']? = w.heap[g']? := by
 unfold put7
 rw [Below.heap_setCell _ _ _ _ h, Below.heap_setCell _ _ _ _ h, Below.heap_setCell _ _ _ _ h, Below.heap_setCell _ _ _ _ h, Below.heap_setCell _ _ _ _ h, Below.heap_setCell _ _ _ _ h, Below.heap_setCell _ _ _ _ h]
theorem put7_below {B : Nat} {a w : World} (h : Below B a w) {g : Nat} (hg : B ≤ g) (m : Msg) : Below B a (put7 w g m) :=
 (((((((h.setCell (p := ⟨g, 0, none⟩) hg _).setCell (p := ⟨g, 1, none⟩) hg _).setCell (p := ⟨g, 2, none⟩) hg _).setCell (p := ⟨g, 3, none⟩) hg _).setCell (p := ⟨g, 4, none⟩) hg _).setCell (p := ⟨g, 5, none⟩) hg _).setCell (p := ⟨g, 6, none⟩) hg _)
theorem Holds.of_blk {w : World} {g : Nat} {m : Msg} (h : w.heap[g]? = some (.cells (mc m) 109 (0, 0))) : Holds w g m := by
 have hl := (Array.getElem?_eq_some_iff.1 h).1
 refine ⟨hl, ?_, ?_, ?_, ?_, ?_, ?_, ?_⟩ <;> simp [World.cell?, h]
theorem Seven.put7 {w : World} {g g' : Nat} (h : Seven w g) (h' : Seven w g') (m : Msg) : Seven (put7 w g m) g' := by
 by_cases e : g' = g
 ·rw [e]; exact ⟨_, put7_blk h m, rfl⟩
 ·obtain ⟨Z, h1, h2⟩ := h'
  exact ⟨Z, (put7_far w e m).trans h1, h2⟩
theorem Seven.cells {w : World} {g : Nat} (h : Seven w g) : ∃ z0 z1 z2 z3 z4 z5 z6 : Value, (w.cell? ⟨g, 0, none⟩ = some z0 ∧ w.cell? ⟨g, 1, none⟩ = some z1 ∧ w.cell? ⟨g, 2, none⟩ = some z2 ∧ w.cell? ⟨g, 3, none⟩ = some z3 ∧ w.cell? ⟨g, 4, none⟩ = some z4 ∧ w.cell? ⟨g, 5, none⟩ = some z5 ∧ w.cell? ⟨g, 6, none⟩ = some z6) ∧ ∀ i, w.frozen? ⟨g, i, none⟩ = false := by
 obtain ⟨⟨l⟩, h1, h2⟩ := h
 match l, h2 with
 | [z0, z1, z2, z3, z4, z5, z6], _ =>
  refine ⟨z0, z1, z2, z3, z4, z5, z6, ?_, fun i => by simp [World.frozen?, h1]⟩
  refine ⟨?_, ?_, ?_, ?_, ?_, ?_, ?_⟩ <;> simp [World.cell?, h1]
def pairL (l : List UInt8) (k : Nat) : Int := 256 * ((l.getD k 0).toNat : Int) + ((l.getD (k + 1) 0).toNat : Int)
def decN (l : List UInt8) : Nat := (l.getD 11 0).toNat
def decM (l : List UInt8) : Msg := ⟨psRB (l.take 4), psRN (l.take 4), ((l.getD 4 0).toNat : Int), pairL l 5, pairL l 7, pairL l 9, txt ((l.drop 12).take (decN l))⟩
def decE (l : List UInt8) : Int := if l.length < 12 then 3 else if 8 < decN l then 2 else if l.length < 12 + decN l then 3 else if psE (l.take 4) = 0 then (if rightM (decM l) = true then 0 else 2) else 2
def decR (l : List UInt8) : Msg := if decE l = 0 then decM l else zeroM
def decRest (l : List UInt8) : List UInt8 := if decE l = 0 then l.drop (12 + decN l) else []
def DecPost (l : List UInt8) (w : World) (e : Ending) (w' : World) : Prop := e = .returned (.tuple #[mv (decR l), .string (txt (decRest l)), .int .i64 (decE l)]) ∧ Below w.heap.size w w'
theorem dec_none (l : List UInt8) (E : Int) (h : decE l = E) (hE : E ≠ 0) : ∀ w w', Below w.heap.size w w' → DecPost l w (.returned (.tuple #[mv zeroM, .string ⟨#[]⟩, .int .i64 E])) w' := by
 intro w w' hb
 have h0 : ¬ decE l = 0 := by rw [h]; exact hE
 refine ⟨?_, hb⟩
 unfold decR decRest
 rw [if_neg h0, if_neg h0, h]
 rfl
theorem dec_one (l : List UInt8) (h : decE l = 0) : ∀ w w', Below w.heap.size w w' → DecPost l w (.returned (.tuple #[mv (decM l), .string (txt (l.drop (12 + decN l))), .int .i64 0])) w' := by
 intro w w' hb
 refine ⟨?_, hb⟩
 unfold decR decRest
 rw [if_pos h, if_pos h, h]
theorem run_to (s : ByteArray) (e : Int) (n : Nat) (he : e = (n : Int)) (hn : n ≤ s.size) (w : World) :
  (Instr.slice 9 (.string s) none (some (.int .i64 e)) none).run Tryz.prog w = .ok (.string (txt (s.data.toList.take n))) w := by
 subst he
 rw [run_slice_string_to_if w 9 s .i64 n Tryz.underlying9, if_pos ⟨by omega, by omega⟩, Lib.extract_eq]
 rfl
theorem run_from (s : ByteArray) (e : Int) (n : Nat) (he : e = (n : Int)) (hn : n ≤ s.size) (w : World) :
  (Instr.slice 9 (.string s) (some (.int .i64 e)) none none).run Tryz.prog w = .ok (.string (txt (s.data.toList.drop n))) w := by
 subst he
 rw [run_slice_string_from_if w 9 s .i64 n Tryz.underlying9, if_pos ⟨by omega, by omega⟩, Lib.extract_eq]
 have : (s.data.toList.drop n).take (s.size - n) = s.data.toList.drop n := List.take_of_length_le (by rw [List.length_drop, ← Lib.size_eq]; omega)
 rw [Int.toNat_natCast, this]
 rfl
end Go.Proofs.YtlhopgadhkjflaaGreatDoor
namespace Go.Proofs.YtlhopgadhkjflaaGreatDoor
open Lib (hid)
open Go.RowKit
theorem rightM_data {m : Msg} (h : rightM m = true) : m.data.size ≤ 8 := ((rightM_iff m).1 h).2.2.2.2.2
theorem encT_right {m : Msg} (h : rightM m = true) : encT m = encL m := by unfold encT; rw [if_pos h]
theorem encE_right {m : Msg} (h : rightM m = true) : encE m = 0 := by unfold encE; rw [if_pos h]
theorem pair_two (n : Int) (h : 1 ≤ n ∧ n ≤ 65535) : 256 * ((octet (n / 256)).toNat : Int) + ((octet n).toNat : Int) = n := by
 rw [octet_nat, octet_nat]; omega
theorem enc_shape {m : Msg} (h : rightM m = true) : ∃ a b c d, printI m.ext m.n = [a, b, c, d] ∧ encL m = a :: b :: c :: d :: octet m.sender :: octet (m.inc / 256) :: octet m.inc :: octet (m.seq / 256) :: octet m.seq :: octet (m.number / 256) :: octet m.number :: octet m.data.size :: m.data.data.toList := by
 have hr := ((rightM_iff m).1 h).1
 have hp : printI m.ext m.n = four (numI m.ext m.n) := by unfold printI; rw [hr]; rfl
 refine ⟨_, _, _, _, hp.trans rfl, ?_⟩
 unfold encL
 rw [hp]
 rfl
theorem encL_length {m : Msg} (h : rightM m = true) : (encL m).length = 12 + m.data.size := by
 obtain ⟨a, b, c, d, _, e⟩ := enc_shape h
 rw [e]
 have := Lib.size_eq m.data
 simp only [List.length_cons]
 omega
theorem dec_enc {m : Msg} (h : rightM m = true) (r : List UInt8) : decE (encL m ++ r) = 0 ∧ decR (encL m ++ r) = m ∧ decRest (encL m ++ r) = r := by
 have H := (rightM_iff m).1 h
 obtain ⟨hr, hs, hi, hq, hn, hd⟩ := H
 obtain ⟨p1, p2, p3, p4⟩ := ps_print hr
 obtain ⟨a, b, c, d, hp, e⟩ := enc_shape h
 have hl := encL_length h
 have hz := Lib.size_eq m.data
 obtain ⟨X, hX⟩ : ∃ X, X = encL m ++ r := ⟨_, rfl⟩
 have e2 : X = a :: b :: c :: d :: octet m.sender :: octet (m.inc / 256) :: octet m.inc :: octet (m.seq / 256) :: octet m.seq :: octet (m.number / 256) :: octet m.number :: octet m.data.size :: (m.data.data.toList ++ r) := by rw [hX, e]; rfl
 have hXl : X.length = 12 + m.data.size + r.length := by rw [hX, List.length_append, hl]
 rw [← hX]
 have ht : X.take 4 = printI m.ext m.n := by rw [e2, hp]; rfl
 have hN : decN X = m.data.size := by
  have : decN X = (octet m.data.size).toNat := by rw [e2]; rfl
  rw [this]
  have := octet_nat m.data.size
  omega
 have hM : decM X = m := by
  unfold decM
  rw [ht, p1, p2, hN]
  have e4 : ((X.getD 4 0).toNat : Int) = m.sender := by
   have : X.getD 4 0 = octet m.sender := by rw [e2]; rfl
   rw [this, octet_nat]; omega
  have e5 : pairL X 5 = m.inc := by
   have : pairL X 5 = 256 * ((octet (m.inc / 256)).toNat : Int) + ((octet m.inc).toNat : Int) := by rw [e2]; rfl
   rw [this]; exact pair_two _ hi
  have e7 : pairL X 7 = m.seq := by
   have : pairL X 7 = 256 * ((octet (m.seq / 256)).toNat : Int) + ((octet m.seq).toNat : Int) := by rw [e2]; rfl
   rw [this]; exact pair_two _ hq
  have e9 : pairL X 9 = m.number := by
   have : pairL X 9 = 256 * ((octet (m.number / 256)).toNat : Int) + ((octet m.number).toNat : Int) := by rw [e2]; rfl
   rw [this]; exact pair_two _ hn
  have e12 : X.drop 12 = m.data.data.toList ++ r := by rw [e2]; rfl
  rw [e4, e5, e7, e9, e12, List.take_left' (by omega)]
  rfl
 have hE : decE X = 0 := by
  unfold decE
  rw [if_neg (by omega), if_neg (by omega), if_neg (by omega), ht, if_pos p3, hM, if_pos h]
 refine ⟨hE, ?_, ?_⟩
 ·unfold decR; rw [if_pos hE, hM]
 ·unfold decRest
  rw [if_pos hE, hN, e2]
  show List.drop (12 + m.data.size) _ = r
  rw [← List.drop_drop]
  show List.drop m.data.size (m.data.data.toList ++ r) = r
  exact List.drop_left' (by omega)
theorem decE_facts {l : List UInt8} (h : decE l = 0) : 12 + decN l ≤ l.length ∧ decN l ≤ 8 ∧ psE (l.take 4) = 0 ∧ rightM (decM l) = true := by
 unfold decE at h
 by_cases h1 : l.length < 12
 ·rw [if_pos h1] at h; omega
 rw [if_neg h1] at h
 by_cases h2 : 8 < decN l
 ·rw [if_pos h2] at h; omega
 rw [if_neg h2] at h
 by_cases h3 : l.length < 12 + decN l
 ·rw [if_pos h3] at h; omega
 rw [if_neg h3] at h
 by_cases h4 : psE (l.take 4) = 0
 ·rw [if_pos h4] at h
  by_cases h5 : rightM (decM l) = true
  ·exact ⟨by omega, by omega, h4, h5⟩
  ·rw [if_neg h5] at h; omega
 ·rw [if_neg h4] at h; omega
theorem enc_dec {l : List UInt8} (h : decE l = 0) : rightM (decR l) = true ∧ encL (decR l) ++ decRest l = l := by
 obtain ⟨h1, h2, h3, h4⟩ := decE_facts h
 have hR : decR l = decM l := by unfold decR; rw [if_pos h]
 have hT : decRest l = l.drop (12 + decN l) := by unfold decRest; rw [if_pos h]
 rw [hR, hT]
 refine ⟨h4, ?_⟩
 have hp := (print_ps h3).1
 clear h4 hR hT h
 match l, h1, h2, hp with
 | a :: b :: c :: d :: s :: i1 :: i2 :: q1 :: q2 :: n1 :: n2 :: z :: t, h1, h2, hp =>
  have hN : decN (a :: b :: c :: d :: s :: i1 :: i2 :: q1 :: q2 :: n1 :: n2 :: z :: t) = z.toNat := rfl
  rw [hN] at h1 h2 ⊢
  have ht : z.toNat ≤ t.length := by simp only [List.length_cons] at h1; omega
  have two : ∀ x y : UInt8, twoL (256 * (x.toNat : Int) + (y.toNat : Int)) = [x, y] := fun x y => by
   have hx := x.toNat_lt
   have hy := y.toNat_lt
   unfold twoL
   rw [octet_of_byte x _ (by omega), octet_of_byte y _ (by omega)]
  have one : octet (s.toNat : Int) = s := octet_of_byte s _ (by have := s.toNat_lt; omega)
  have hd : (txt (t.take z.toNat)).size = z.toNat := by rw [txt_size, List.length_take]; omega
  have oz : octet (z.toNat : Int) = z := octet_of_byte z _ (by have := z.toNat_lt; omega)
  have hM : decM (a :: b :: c :: d :: s :: i1 :: i2 :: q1 :: q2 :: n1 :: n2 :: z :: t) = ⟨psRB [a, b, c, d], psRN [a, b, c, d], (s.toNat : Int), 256 * (i1.toNat : Int) + (i2.toNat : Int), 256 * (q1.toNat : Int) + (q2.toNat : Int), 256 * (n1.toNat : Int) + (n2.toNat : Int), txt (t.take z.toNat)⟩ := rfl
  rw [hM]
  have hp' : printI (psRB [a, b, c, d]) (psRN [a, b, c, d]) = [a, b, c, d] := hp
  unfold encL
  simp only []
  rw [hp', two, two, two, one, hd, oz, txt_data, ← List.drop_drop]
  show a :: b :: c :: d :: s :: i1 :: i2 :: q1 :: q2 :: n1 :: n2 :: z :: (t.take z.toNat ++ t.drop z.toNat) = _
  rw [List.take_append_drop]
end Go.Proofs.YtlhopgadhkjflaaGreatDoor

/-
  What the program's Decode does.
-/
import Derived.Test.YtmmbnjkdknnidaaGreatDoorMsgNumV
import Derived.Test.YtmmbnjkdknnidaaGreatDoorMsgRowsV
import Derived.Test.YtmmbnjkdknnidaaGreatDoorCloneV
import Derived.Test.YtmmbnjkdknnidaaGreatDoorMsgOwnV
set_option maxHeartbeats 4000000
set_option maxRecDepth 100000
namespace Go.Proofs.YtmmbnjkdknnidaaGreatDoor
open Lib (hid)
open Go.RowKit
theorem clone_any (s : ByteArray) (hs : s.size ≤ 281474976710656) (w : World) :
  Calls Tryz.prog 104 #[.string s] w fun e w' => e = .returned (.string s) ∧ Below w.heap.size w w' := by
 go_enter Tryz.func104, Tryz.ntmps104
 go_wp2_with (go_at_call 138; refine (stringsliteClone _ _ hs).mono ?_; rintro e w' ⟨rfl, hb⟩)
 go_ret
 exact ⟨rfl, hb⟩
theorem getD_drop (l : List UInt8) (i j : Nat) : (l.drop i).getD j 0 = l.getD (i + j) 0 := by
 rw [List.getD_eq_getElem?_getD, List.getD_eq_getElem?_getD, List.getElem?_drop]
theorem pair_drop (l : List UInt8) (i : Nat) : pairL (l.drop i) 0 = pairL l i := by
 unfold pairL; rw [getD_drop, getD_drop]; rfl
theorem pair_range (l : List UInt8) (i : Nat) : 0 ≤ pairL l i ∧ pairL l i ≤ 65535 := by
 have h0 := (l.getD i 0).toNat_lt
 have h1 := (l.getD (i + 1) 0).toNat_lt
 unfold pairL
 omega
theorem msgAt_far {w : World} {g g' : Nat} (hne : ¬ g' = g) {m m' : Msg} (h' : MsgAt w g' m) : MsgAt (put7 w g m') g' m := (put7_far w hne _).trans h'
theorem msgAt_same {w : World} {g g' : Nat} (h : Seven w g) {m : Msg} (h' : MsgAt w g' m) : MsgAt (put7 w g m) g' m := by
 by_cases e : g' = g
 ·subst e; exact put7_blk h m
 ·exact msgAt_far e h'
theorem Seven.of_at {w : World} {g : Nat} {m : Msg} (h : MsgAt w g m) : Seven w g := ⟨_, h, rfl⟩
def asmM (l : List UInt8) : Msg := ⟨psRB (l.take 4), psRN (l.take 4), ((l.getD 4 0).toNat : Int), pairL l 5, pairL l 7, pairL l 9, txt (l.drop 12)⟩
theorem asm_eq (l : List UInt8) : asmM l = ⟨psRB (l.take 4), psRN (l.take 4), ((l.getD 4 0).toNat : Int), pairL l 5, pairL l 7, pairL l 9, txt (l.drop 12)⟩ := rfl
theorem assemble_any (s : ByteArray) (hs : 12 ≤ s.size) (hm : s.size ≤ 1000) (w : World) (L : Laid w) :
  Calls Tryz.prog 176 #[.string s] w fun e w' => e = .returned (.tuple #[mv (asmM s.data.toList), .int .i64 (psE (s.data.toList.take 4))]) ∧ Below w.heap.size w w' := by
 have hl : s.data.toList.length = s.size := (Lib.size_eq s).symm
 have k0 := run_to s 4 4 rfl (by omega)
 have k1 := run_from s 4 4 rfl (by omega)
 have HA := hid (asm_eq s.data.toList)
 have hp5 := pair_range s.data.toList 5
 have hp7 := pair_range s.data.toList 7
 have hp9 := pair_range s.data.toList 9
 have d4 : (txt (s.data.toList.drop 4)).size = s.size - 4 := by rw [txt_size, List.length_drop, hl]
 have d5 : (txt (s.data.toList.drop 5)).size = s.size - 5 := by rw [txt_size, List.length_drop, hl]
 have d7 : (txt (s.data.toList.drop 7)).size = s.size - 7 := by rw [txt_size, List.length_drop, hl]
 have d9 : (txt (s.data.toList.drop 9)).size = s.size - 9 := by rw [txt_size, List.length_drop, hl]
 have d11 : (txt (s.data.toList.drop 11)).size = s.size - 11 := by rw [txt_size, List.length_drop, hl]
 have d12 : (txt (s.data.toList.drop 12)).size = s.size - 12 := by rw [txt_size, List.length_drop, hl]
 have cp := fun w L => parse_any (txt (s.data.toList.take 4)) w L (by rw [txt_size, List.length_take]; unfold maxLen; omega)
 have c1 := fun w => read8_any (txt (s.data.toList.drop 4)) (by omega) w
 have c2 := fun w => read16_any (txt (s.data.toList.drop 5)) (by omega) w
 have c3 := fun w => read16_any (txt (s.data.toList.drop 7)) (by omega) w
 have c4 := fun w => read16_any (txt (s.data.toList.drop 9)) (by omega) w
 have c5 := fun w => read8_any (txt (s.data.toList.drop 11)) (by omega) w
 have cc := fun w => clone_any (txt (s.data.toList.drop 12)) (by omega) w
 unfold ParsePost at cp
 simp only [txt_data, List.drop_drop, getD_drop, pair_drop, Nat.reduceAdd] at cp c1 c2 c3 c4 c5
 clear d4 d5 d7 d9 d11 d12 hl hm hs
 have b4 := (s.data.toList.getD 4 0).toNat_lt
 generalize asmM s.data.toList = R at *
 generalize txt (s.data.toList.drop 12) = Y at *
 generalize txt (s.data.toList.drop 11) = Y11 at *
 generalize txt (s.data.toList.drop 9) = Y9 at *
 generalize txt (s.data.toList.drop 7) = Y7 at *
 generalize txt (s.data.toList.drop 5) = Y5 at *
 generalize txt (s.data.toList.drop 4) = Y4 at *
 generalize txt (s.data.toList.take 4) = Y0 at *
 generalize psRB (s.data.toList.take 4) = b at *
 generalize psRN (s.data.toList.take 4) = n at *
 generalize psE (s.data.toList.take 4) = E at *
 generalize (s.data.toList.getD 4 0).toNat = x4 at *
 generalize (s.data.toList.getD 11 0).toNat = x11 at *
 generalize pairL s.data.toList 5 = p5 at *
 generalize pairL s.data.toList 7 = p7 at *
 generalize pairL s.data.toList 9 = p9 at *
 go_enter Tryz.func176, Tryz.ntmps176
 go_wp2_with fail
 refine (cp _ (L.alloc _)).mono ?_; rintro e w1 ⟨rfl, hb1⟩
 go_wp2_with fail
 refine (c1 _).mono ?_; rintro e w2 ⟨rfl, hb2⟩
 go_wp2_with fail
 refine (c2 _).mono ?_; rintro e w3 ⟨rfl, hb3⟩
 go_wp2_with fail
 refine (c3 _).mono ?_; rintro e w4 ⟨rfl, hb4⟩
 go_wp2_with fail
 refine (c4 _).mono ?_; rintro e w5 ⟨rfl, hb5⟩
 go_wp2_with fail
 refine (c5 _).mono ?_; rintro e w6 ⟨rfl, hb6⟩
 have v4 : IntKind.i64.wrap (x4 : Int) = x4 := IntWalk.i64_in _ (by omega)
 have v5 : IntKind.i64.wrap p5 = p5 := IntWalk.i64_in _ (by omega)
 have v7 : IntKind.i64.wrap p7 = p7 := IntWalk.i64_in _ (by omega)
 have v9 : IntKind.i64.wrap p9 = p9 := IntWalk.i64_in _ (by omega)
 have hs0 := (Joins.below_alloc1 w (.cells (mc zeroM) 109))
 have hS0 : Seven (w.alloc (.cells (mc zeroM) 109)) w.heap.size := Seven.new w zeroM
 simp only [mc, zeroM] at hs0 hS0
 have B1 := hs0.trans (hb1.mono hs0.size)
 have S1 := hS0.below hb1
 have ha := Joins.below_alloc1 w1 (.cells #[.bool b, .int .i64 n] 107)
 have hI := IdAt.new w1 b n
 have B2 := (B1.trans (ha.mono B1.size)).trans (hb2.mono (Nat.le_trans B1.size ha.size))
 have S2 := (S1.below ha).below hb2
 have hI2 := hI.below hb2
 have B6 := (((B2.trans (hb3.mono B2.size)).trans (hb4.mono (Nat.le_trans B2.size hb3.size))).trans (hb5.mono (Nat.le_trans B2.size (Nat.le_trans hb3.size hb4.size)))).trans (hb6.mono (Nat.le_trans B2.size (Nat.le_trans hb3.size (Nat.le_trans hb4.size hb5.size))))
 have S6 := (((S2.below hb3).below hb4).below hb5).below hb6
 have hI6 := (((hI2.below hb3).below hb4).below hb5).below hb6
 clear hs0 hS0 hb1 B1 S1 ha hI hb2 B2 S2 hI2 hb3 hb4 hb5 hb6
 have HID : Hid (∀ wv, Below w6.heap.size w6 wv → wv.cell? ⟨w1.heap.size, 0, none⟩ = some (.bool b) ∧ wv.cell? ⟨w1.heap.size, 1, none⟩ = some (.int .i64 n)) := hid fun wv hb => ⟨(hI6.below hb).cells.1, (hI6.below hb).cells.2.1⟩
 have HB := hid B6
 have HS := hid S6
 clear B6 S6 hI6
 go_wp2_with fail
 have HV : ∃ V : Nat → (Nat → Value) → World → Prop, V = (fun ix u wv => match ix with
  | 0 => u 0 = .agg #[.bool b, .int .i64 n]
  | 1 => u 1 = .int .u8 (x4 : Int)
  | 2 => u 2 = .int .i64 (x4 : Int)
  | 3 => u 3 = .int .u16 p5
  | 4 => u 4 = .int .i64 p5
  | 5 => u 5 = .int .u16 p7
  | 6 => u 6 = .int .i64 p7
  | 7 => u 7 = .int .u16 p9
  | 8 => u 8 = .int .i64 p9
  | 9 => u 9 = .string Y
  | 10 => u 10 = .string Y
  | 11 => u 11 = .agg #[.bool b, .int .i64 n, .int .i64 (x4 : Int), .int .i64 p5, .int .i64 p7, .int .i64 p9, .string Y]
  | 12 => ∃ g, u 12 = .pointer (some ⟨g, 0, none⟩) ∧ w6.heap.size ≤ g ∧ Seven wv g
  | 13 => ∃ g, u 12 = .pointer (some ⟨g, 0, none⟩) ∧ w6.heap.size ≤ g ∧ MsgAt wv g ⟨b, n, (x4 : Int), p5, p7, p9, Y⟩
  | _ => True) := ⟨_, rfl⟩
 obtain ⟨V, hd7⟩ := HV
 have V0 : ∀ u wv, V 0 u wv = (u 0 = .agg #[.bool b, .int .i64 n]) := fun _ _ => by subst hd7; rfl
 have V1 : ∀ u wv, V 1 u wv = (u 1 = .int .u8 (x4 : Int)) := fun _ _ => by subst hd7; rfl
 have V2 : ∀ u wv, V 2 u wv = (u 2 = .int .i64 (x4 : Int)) := fun _ _ => by subst hd7; rfl
 have V3 : ∀ u wv, V 3 u wv = (u 3 = .int .u16 p5) := fun _ _ => by subst hd7; rfl
 have V4 : ∀ u wv, V 4 u wv = (u 4 = .int .i64 p5) := fun _ _ => by subst hd7; rfl
 have V5 : ∀ u wv, V 5 u wv = (u 5 = .int .u16 p7) := fun _ _ => by subst hd7; rfl
 have V6 : ∀ u wv, V 6 u wv = (u 6 = .int .i64 p7) := fun _ _ => by subst hd7; rfl
 have V7 : ∀ u wv, V 7 u wv = (u 7 = .int .u16 p9) := fun _ _ => by subst hd7; rfl
 have V8 : ∀ u wv, V 8 u wv = (u 8 = .int .i64 p9) := fun _ _ => by subst hd7; rfl
 have V9 : ∀ u wv, V 9 u wv = (u 9 = .string Y) := fun _ _ => by subst hd7; rfl
 have V10 : ∀ u wv, V 10 u wv = (u 10 = .string Y) := fun _ _ => by subst hd7; rfl
 have V11 : ∀ u wv, V 11 u wv = (u 11 = .agg #[.bool b, .int .i64 n, .int .i64 (x4 : Int), .int .i64 p5, .int .i64 p7, .int .i64 p9, .string Y]) := fun _ _ => by subst hd7; rfl
 have V12 : ∀ u wv, V 12 u wv = (∃ g, u 12 = .pointer (some ⟨g, 0, none⟩) ∧ w6.heap.size ≤ g ∧ Seven wv g) := fun _ _ => by subst hd7; rfl
 have V13 : ∀ u wv, V 13 u wv = (∃ g, u 12 = .pointer (some ⟨g, 0, none⟩) ∧ w6.heap.size ≤ g ∧ MsgAt wv g ⟨b, n, (x4 : Int), p5, p7, p9, Y⟩) := fun _ _ => by subst hd7; rfl
 have HVD := hid hd7
 clear hd7
 refine region_each (V := V) (drop := fun _ _ => false) (G := fun wv => Below w6.heap.size w6 wv) (Rel := fun jx wv wv' => Below w6.heap.size wv wv' ∧ (∀ g, Seven wv g → Seven wv' g) ∧ (∀ g, MsgAt wv g ⟨b, n, (x4 : Int), p5, p7, p9, Y⟩ → MsgAt wv' g ⟨b, n, (x4 : Int), p5, p7, p9, Y⟩)) (by kernel_rfl) (by kernel_rfl) (Below.refl _ _).drew ?hmono1 ?hdep1 ⟨?s0_1, ?s1_1, ?s2_1, ?s3_1, ?s4_1, ?s5_1, ?s6_1, ?s7_1, ?s8_1, ?s9_1, ?s10_1, ?s11_1, ?s12_1, ?s13_1, trivial⟩ ?behind1
 case hmono1 =>
  intro ix jx u wv wv' hij hw hd hr
  rw [HVD.out]
  dsimp only
  split <;> intro h <;> first | exact trivial | exact h | (obtain ⟨g, h1, h2, h3⟩ := h; first | exact ⟨g, h1, h2, hr.2.1 g h3⟩ | exact ⟨g, h1, h2, hr.2.2 g h3⟩)
 case hdep1 =>
  intro ix u u' wv h1 h2
  rw [HVD.out]
  dsimp only
  split <;> intro h <;> first | exact trivial | (rw [← h1]; exact h) | (obtain ⟨g, e1, e2⟩ := h; first | exact ⟨g, h1 ▸ e1, e2⟩ | exact ⟨g, (h2 12 (by kernel_rfl)) ▸ e1, e2⟩)
 case s0_1 =>
  refine owe rfl fun a wx val hG hV hN hO K hK => ?_
  have e4 : a.tmps[4]? = some (.pointer (some ⟨w1.heap.size, 0, none⟩)) := (hO 4).trans (by rfl)
  clear hV hN hO
  obtain ⟨a0, a1⟩ := HID.out _ hG
  go_simp
  exact hK.out _ _ (by rw [V0, upd_at]) ⟨Below.refl _ _, fun _ h => h, fun _ h => h⟩ hG
 case s1_1 =>
  refine owe rfl fun a wx val hG hV hN hO K hK => ?_
  have e6 : a.tmps[6]? = some (.int .u8 (x4 : Int)) := (hO 6).trans (by rfl)
  clear hV hN hO
  go_simp
  exact hK.out _ _ (by rw [V1, upd_at]) ⟨Below.refl _ _, fun _ h => h, fun _ h => h⟩ hG
 case s2_1 =>
  refine owe rfl fun a wx val hG hV hN hO K hK => ?_
  have e44 := hN 1 44
  have f44 := hV 1
  rw [V1] at f44
  rw [f44] at e44; clear f44
  clear hV hN hO
  go_simp
  exact hK.out _ _ (by rw [V2, upd_at]) ⟨Below.refl _ _, fun _ h => h, fun _ h => h⟩ hG
 case s3_1 =>
  refine owe rfl fun a wx val hG hV hN hO K hK => ?_
  have e7 : a.tmps[7]? = some (.int .u16 p5) := (hO 7).trans (by rfl)
  clear hV hN hO
  go_simp
  exact hK.out _ _ (by rw [V3, upd_at]) ⟨Below.refl _ _, fun _ h => h, fun _ h => h⟩ hG
 case s4_1 =>
  refine owe rfl fun a wx val hG hV hN hO K hK => ?_
  have e46 := hN 3 46
  have f46 := hV 3
  rw [V3] at f46
  rw [f46] at e46; clear f46
  clear hV hN hO
  go_simp
  exact hK.out _ _ (by rw [V4, upd_at]) ⟨Below.refl _ _, fun _ h => h, fun _ h => h⟩ hG
 case s5_1 =>
  refine owe rfl fun a wx val hG hV hN hO K hK => ?_
  have e8 : a.tmps[8]? = some (.int .u16 p7) := (hO 8).trans (by rfl)
  clear hV hN hO
  go_simp
  exact hK.out _ _ (by rw [V5, upd_at]) ⟨Below.refl _ _, fun _ h => h, fun _ h => h⟩ hG
 case s6_1 =>
  refine owe rfl fun a wx val hG hV hN hO K hK => ?_
  have e48 := hN 5 48
  have f48 := hV 5
  rw [V5] at f48
  rw [f48] at e48; clear f48
  clear hV hN hO
  go_simp
  exact hK.out _ _ (by rw [V6, upd_at]) ⟨Below.refl _ _, fun _ h => h, fun _ h => h⟩ hG
 case s7_1 =>
  refine owe rfl fun a wx val hG hV hN hO K hK => ?_
  have e9 : a.tmps[9]? = some (.int .u16 p9) := (hO 9).trans (by rfl)
  clear hV hN hO
  go_simp
  exact hK.out _ _ (by rw [V7, upd_at]) ⟨Below.refl _ _, fun _ h => h, fun _ h => h⟩ hG
 case s8_1 =>
  refine owe rfl fun a wx val hG hV hN hO K hK => ?_
  have e50 := hN 7 50
  have f50 := hV 7
  rw [V7] at f50
  rw [f50] at e50; clear f50
  clear hV hN hO
  go_simp
  exact hK.out _ _ (by rw [V8, upd_at]) ⟨Below.refl _ _, fun _ h => h, fun _ h => h⟩ hG
 case s9_1 =>
  refine owe rfl fun a wx val hG hV hN hO K hK => ?_
  have e0 : a.tmps[0]? = some (.string Y) := (hO 0).trans (by rfl)
  clear hV hN hO
  go_simp
  exact hK.out _ _ (by rw [V9, upd_at]) ⟨Below.refl _ _, fun _ h => h, fun _ h => h⟩ hG
 case s10_1 =>
  refine owe rfl fun a wx val hG hV hN hO K hK => ?_
  have e52 := hN 9 52
  have f52 := hV 9
  rw [V9] at f52
  rw [f52] at e52; clear f52
  clear hV hN hO
  go_simp
  refine (cc _).mono ?_
  rintro e w7 ⟨rfl, hb⟩
  exact hK.out _ _ (by rw [V10, upd_at]) ⟨hb.mono hG.size, fun _ h => h.below hb, fun _ h => h.on hb⟩ (hG.trans (hb.mono hG.size))
 case s11_1 =>
  refine owe rfl fun a wx val hG hV hN hO K hK => ?_
  have e43 := hN 0 43
  have f43 := hV 0
  rw [V0] at f43
  rw [f43] at e43; clear f43
  have e45 := hN 2 45
  have f45 := hV 2
  rw [V2] at f45
  rw [f45] at e45; clear f45
  have e47 := hN 4 47
  have f47 := hV 4
  rw [V4] at f47
  rw [f47] at e47; clear f47
  have e49 := hN 6 49
  have f49 := hV 6
  rw [V6] at f49
  rw [f49] at e49; clear f49
  have e51 := hN 8 51
  have f51 := hV 8
  rw [V8] at f51
  rw [f51] at e51; clear f51
  have e53 := hN 10 53
  have f53 := hV 10
  rw [V10] at f53
  rw [f53] at e53; clear f53
  clear hV hN hO
  go_simp
  exact hK.out _ _ (by rw [V11, upd_at]) ⟨Below.refl _ _, fun _ h => h, fun _ h => h⟩ hG
 case s12_1 =>
  refine owe rfl fun a wx val hG hV hN hO K hK => ?_
  clear hV hN hO
  go_simp
  have hb := Joins.below_alloc1 wx (.cells (mc zeroM) 109)
  exact hK.out _ _ (by rw [V12, upd_at]; exact ⟨_, rfl, hG.size, Seven.new wx zeroM⟩) ⟨hb.mono hG.size, fun _ h => h.below hb, fun _ h => h.on hb⟩ (hG.trans (hb.mono hG.size))
 case s13_1 =>
  refine owe rfl fun a wx val hG hV hN hO K hK => ?_
  have e10 := hN 12 10
  have f10 := hV 12
  rw [V12] at f10
  obtain ⟨g, hv, hg, hc⟩ := f10; rw [hv] at e10
  have e54 := hN 11 54
  have f54 := hV 11
  rw [V11] at f54
  rw [f54] at e54; clear f54
  clear hV hN hO
  obtain ⟨z0, z1, z2, z3, z4, z5, z6, ⟨d0, d1, d2, d3, d4, d5, d6⟩, hfz⟩ := hc.cells
  go_simp
  exact hK.out undef (put7 wx g ⟨b, n, (x4 : Int), p5, p7, p9, Y⟩) (by rw [V13]; exact ⟨g, (upd_ne _ _ (by decide)).trans hv, hg, put7_blk hc _⟩) ⟨put7_below (Below.refl _ _) hg _, fun _ h => Seven.put7 hc h _, fun _ h => msgAt_same hc h⟩ (put7_below hG hg _)
 intro val wx hG hV
 have f0 := hV 0 (by simp) (fun _ _ => by rfl)
 rw [V0] at f0
 have f1 := hV 1 (by simp) (fun _ _ => by rfl)
 rw [V1] at f1
 have f2 := hV 2 (by simp) (fun _ _ => by rfl)
 rw [V2] at f2
 have f3 := hV 3 (by simp) (fun _ _ => by rfl)
 rw [V3] at f3
 have f4 := hV 4 (by simp) (fun _ _ => by rfl)
 rw [V4] at f4
 have f5 := hV 5 (by simp) (fun _ _ => by rfl)
 rw [V5] at f5
 have f6 := hV 6 (by simp) (fun _ _ => by rfl)
 rw [V6] at f6
 have f7 := hV 7 (by simp) (fun _ _ => by rfl)
 rw [V7] at f7
 have f8 := hV 8 (by simp) (fun _ _ => by rfl)
 rw [V8] at f8
 have f9 := hV 9 (by simp) (fun _ _ => by rfl)
 rw [V9] at f9
 have f10 := hV 10 (by simp) (fun _ _ => by rfl)
 rw [V10] at f10
 have f11 := hV 11 (by simp) (fun _ _ => by rfl)
 rw [V11] at f11
 have f12 := hV 12 (by simp) (fun _ _ => by rfl)
 rw [V12] at f12
 have f13 := hV 13 (by simp) (fun _ _ => by rfl)
 rw [V13] at f13
 clear hV V0 V1 V2 V3 V4 V5 V6 V7 V8 V9 V10 V11 V12 V13
 simp only [putAll, Act.put, List.setIfInBounds_toArray, List.set_cons_zero, List.set_cons_succ]
 generalize val 0 = z0, val 1 = z1, val 2 = z2, val 3 = z3, val 4 = z4, val 5 = z5, val 6 = z6, val 7 = z7, val 8 = z8, val 9 = z9, val 10 = z10, val 11 = z11 at *
 subst f0 f1 f2 f3 f4 f5 f6 f7 f8 f9 f10 f11
 obtain ⟨g, e12, hg, hc⟩ := f12
 obtain ⟨g', e12', hg', hmg⟩ := f13
 rw [e12] at e12'
 obtain rfl : g = g' := by injection e12' with e; injection e with e; injection e
 generalize val 12 = z12 at *
 subst e12
 have h3 := HS.out.below hG
 have HB3 := hid (HB.out.trans (hG.mono HB.out.size))
 have hne : w.heap.size ≠ g := by
  have h := (Array.getElem?_eq_some_iff.1 HS.out.choose_spec.1).1
  omega
 clear hc e12' HS HB HID hG hg hg'
 obtain ⟨_, m0, m1, m2, m3, m4, m5, m6⟩ := Holds.of_blk hmg
 obtain ⟨z0, z1, z2, z3, z4, z5, z6, ⟨q0, q1, q2, q3, q4, q5, q6⟩, hfz⟩ := h3.cells
 have H3 := hid h3
 clear h3 hmg
 go_wp2_with fail
 have hf := Holds.of_blk (put7_blk H3.out ⟨b, n, (x4 : Int), p5, p7, p9, Y⟩)
 unfold put7 at hf
 simp only at hf
 obtain ⟨_, r0, r1, r2, r3, r4, r5, r6⟩ := hf
 exact bodyPost_ret (v := .tuple #[mv ⟨b, n, (x4 : Int), p5, p7, p9, Y⟩, .int .i64 E]) (by simp [results, Tryz.results176, go_sem, r0, r1, r2, r3, r4, r5, r6]) rfl ⟨by rw [HA.out], put7_below HB3.out (Nat.le_refl _) ⟨b, n, (x4 : Int), p5, p7, p9, Y⟩⟩
theorem getD_take (l : List UInt8) (n i : Nat) (h : i < n) : (l.take n).getD i 0 = l.getD i 0 := by
 rw [List.getD_eq_getElem?_getD, List.getD_eq_getElem?_getD, List.getElem?_take_of_lt h]
theorem pair_take (l : List UInt8) (n i : Nat) (h : i + 1 < n) : pairL (l.take n) i = pairL l i := by
 unfold pairL; rw [getD_take l n i (by omega), getD_take l n (i + 1) h]
theorem take4 (l : List UInt8) (n : Nat) (h : 4 ≤ n) : (l.take n).take 4 = l.take 4 := by
 rw [List.take_take, Nat.min_eq_left h]
theorem asm_take (l : List UInt8) : asmM (l.take (12 + decN l)) = decM l := by
 rw [asm_eq, take4 l _ (by omega), getD_take l _ 4 (by omega), pair_take l _ 5 (by omega), pair_take l _ 7 (by omega), pair_take l _ 9 (by omega), List.drop_take, Nat.add_sub_cancel_left]
 rfl
theorem decP_any (s : ByteArray) (w : World) (L : Laid w) (hs : s.size ≤ 1000) :
  Calls Tryz.prog 173 #[.string s] w (DecPost s.data.toList w) := by
 have hl := Lib.size_eq s
 by_cases h1 : s.size < 12
 ·have HE := hid (dec_none s.data.toList 3 (by unfold decE; rw [if_pos (by omega)]) (by omega))
  have h2 : (s.size : Int) < 12 := by omega
  have HL := hid hl; clear hl
  go_enter Tryz.func173, Tryz.ntmps173
  go_wp2_with fail
  exact bodyPost_ret (v := .tuple #[mv zeroM, .string ⟨#[]⟩, .int .i64 3]) (by simp [results, Tryz.results173, go_sem, zeroM]) rfl (HE.out _ _ (Joins.below_alloc1 _ _))
 ·have h2 : (12 : Int) ≤ s.size := by omega
  have k11 := run_at s 11 11 rfl (by omega)
  have e1 := fun E (h : decE s.data.toList = E) (hE : E ≠ 0) => dec_none s.data.toList E h hE
  have ed : ∀ E, (if 8 < decN s.data.toList then (2 : Int) else if s.data.toList.length < 12 + decN s.data.toList then 3 else if psE (s.data.toList.take 4) = 0 then (if rightM (decM s.data.toList) = true then 0 else 2) else 2) = E → decE s.data.toList = E := fun E h => by
   unfold decE; rw [if_neg (by omega)]; exact h
  have ex : decN s.data.toList = (s.data.toList.getD 11 0).toNat := rfl
  have bx := (s.data.toList.getD 11 0).toNat_lt
  rw [← ex] at k11 bx
  clear ex
  rcases Nat.lt_or_ge 8 (decN s.data.toList) with h3 | h3
  ·have HE := hid (e1 2 (ed 2 (by rw [if_pos h3])) (by omega))
   clear e1 ed
   generalize decN s.data.toList = x at *
   have h4 : (8 : Int) < x := by omega
   have w0 : IntKind.i64.wrap (x : Int) = x := IntWalk.i64_in _ (by omega)
   have HL := hid hl; clear hl
   go_enter Tryz.func173, Tryz.ntmps173
   go_wp2_with fail
   exact bodyPost_ret (v := .tuple #[mv zeroM, .string ⟨#[]⟩, .int .i64 2]) (by simp [results, Tryz.results173, go_sem, zeroM]) rfl (HE.out _ _ (Joins.below_alloc1 _ _))
  ·rcases Nat.lt_or_ge s.size (12 + decN s.data.toList) with h5 | h5
   ·have HE := hid (e1 3 (ed 3 (by rw [if_neg (by omega), if_pos (by omega)])) (by omega))
    clear e1 ed
    generalize decN s.data.toList = x at *
    have h4 : (x : Int) ≤ 8 := by omega
    have h6 : (s.size : Int) < 12 + x := by omega
    have w0 : IntKind.i64.wrap (x : Int) = x := IntWalk.i64_in _ (by omega)
    have HL := hid hl; clear hl
    go_enter Tryz.func173, Tryz.ntmps173
    go_wp2_with fail
    exact bodyPost_ret (v := .tuple #[mv zeroM, .string ⟨#[]⟩, .int .i64 3]) (by simp [results, Tryz.results173, go_sem, zeroM]) rfl (HE.out _ _ (Joins.below_alloc1 _ _))
   ·have km := run_to s (12 + (decN s.data.toList : Int)) (12 + decN s.data.toList) (by omega) h5
    have kb := run_from s (12 + (decN s.data.toList : Int)) (12 + decN s.data.toList) (by omega) h5
    have hts : (txt (s.data.toList.take (12 + decN s.data.toList))).size = 12 + decN s.data.toList := by rw [txt_size, List.length_take]; omega
    have ca := fun w L => assemble_any (txt (s.data.toList.take (12 + decN s.data.toList))) (by omega) (by omega) w L
    simp only [txt_data] at ca
    rw [asm_take, take4 _ _ (by omega)] at ca
    have cc := fun w => clone_any (txt (s.data.toList.drop (12 + decN s.data.toList))) (by rw [txt_size, List.length_drop]; omega) w
    have hE2 : psE (s.data.toList.take 4) ≠ 0 ∨ rightM (decM s.data.toList) = false → decE s.data.toList = 2 := fun h => ed 2 (by
     rw [if_neg (by omega), if_neg (by omega)]
     by_cases hp : psE (s.data.toList.take 4) = 0
     ·rw [if_pos hp, h.resolve_left (fun hn => hn hp)]; rfl
     ·rw [if_neg hp])
    have hE0 : psE (s.data.toList.take 4) = 0 → rightM (decM s.data.toList) = true → decE s.data.toList = 0 := fun h h' => ed 0 (by rw [if_neg (by omega), if_neg (by omega), if_pos h, if_pos h'])
    have d0 := fun h h' => dec_one s.data.toList (hE0 h h')
    have d2 := fun h => e1 2 (hE2 h) (by omega)
    have hds : (decM s.data.toList).data.size ≤ maxLen := by show (txt _).size ≤ _; rw [txt_size, List.length_take]; unfold maxLen; omega
    have cr := fun w L => rightM_any (decM s.data.toList) hds w L
    clear e1 ed hE2 hE0 hts hds
    generalize decM s.data.toList = M at *
    generalize psE (s.data.toList.take 4) = pe at *
    generalize txt (s.data.toList.take (12 + decN s.data.toList)) = Tt at *
    generalize txt (s.data.toList.drop (12 + decN s.data.toList)) = Rt at *
    generalize decN s.data.toList = x at *
    obtain ⟨b, nn, sd, p5, p7, p9, Dt⟩ := M
    simp only [mv] at ca cr
    have D0 := hid d0; clear d0
    have D2 := hid d2; clear d2
    have h4 : (x : Int) ≤ 8 := by omega
    have h6 : 12 + (x : Int) ≤ (s.size : Int) := by omega
    have w0 : IntKind.i64.wrap (x : Int) = x := IntWalk.i64_in _ (by omega)
    have KB := hid kb; clear kb
    have HL := hid hl; clear hl
    have hs0 := Joins.below_alloc1 w (.cells (mc zeroM) 109)
    have hS0 : Seven (w.alloc (.cells (mc zeroM) 109)) w.heap.size := Seven.new w zeroM
    have hL0 := L.alloc (.cells (mc zeroM) 109)
    simp only [mc, zeroM] at hs0 hS0 hL0
    go_enter Tryz.func173, Tryz.ntmps173
    go_wp2_with fail
    refine (ca _ hL0).mono ?_; rintro e w2 ⟨rfl, b2⟩
    have B2 := hs0.trans (b2.mono hs0.size)
    have S2 := hS0.below b2
    have L2 := hL0.below b2
    have hne : ¬ w2.heap.size = w.heap.size := by have := b2.size; simp at this; omega
    have b3 := Joins.below_alloc1 w2 (.cells (mc ⟨b, nn, sd, p5, p7, p9, Dt⟩) 109)
    have M3 : MsgAt (w2.alloc (.cells (mc ⟨b, nn, sd, p5, p7, p9, Dt⟩) 109)) w2.heap.size ⟨b, nn, sd, p5, p7, p9, Dt⟩ := heap_alloc_new w2 _
    have B3 := B2.trans (b3.mono B2.size)
    have S3 := S2.below b3
    have L3 := L2.below b3
    have HNE := hid hne
    clear hs0 hS0 hL0 b2 B2 S2 L2 b3 hne
    simp only [mc] at M3 B3 S3 L3
    generalize hW3 : w2.alloc (.cells #[.bool b, .int .i64 nn, .int .i64 sd, .int .i64 p5, .int .i64 p7, .int .i64 p9, .string Dt] 109) = W3 at *
    by_cases hp : pe = 0
    ·subst hp
     cases hr : rightM ⟨b, nn, sd, p5, p7, p9, Dt⟩
     ·rw [hr] at cr
      have HD := hid (D2.out (.inr hr))
      obtain ⟨_, m0, m1, m2, m3, m4, m5, m6⟩ := Holds.of_blk M3
      go_wp2_with fail
      refine (cr _ L3).mono ?_; rintro e w3 ⟨rfl, b3⟩
      have h3 := S3.below b3
      have H3 := hid h3
      have HB3 := hid (B3.trans (b3.mono B3.size))
      obtain ⟨z0, z1, z2, z3, z4, z5, z6, ⟨q0, q1, q2, q3, q4, q5, q6⟩, hfz⟩ := h3.cells
      clear m0 m1 m2 m3 m4 m5 m6 h3 b3 hW3
      go_wp2_with fail
      have hf := Holds.of_blk (put7_blk H3.out zeroM)
      unfold put7 at hf
      simp only [zeroM] at hf
      obtain ⟨_, r0, r1, r2, r3, r4, r5, r6⟩ := hf
      exact bodyPost_ret (v := .tuple #[mv zeroM, .string ⟨#[]⟩, .int .i64 2]) (by simp [results, Tryz.results173, go_sem, zeroM, r0, r1, r2, r3, r4, r5, r6]) rfl (HD.out _ _ (put7_below HB3.out (Nat.le_refl _) zeroM))
     ·rw [hr] at cr
      have HD := hid (D0.out rfl hr)
      obtain ⟨_, m0, m1, m2, m3, m4, m5, m6⟩ := Holds.of_blk M3
      go_wp2_with fail
      refine (cr _ L3).mono ?_; rintro e w3 ⟨rfl, b3⟩
      have H3 := hid (S3.below b3)
      have HB3 := hid (B3.trans (b3.mono B3.size))
      have HM3 := hid (M3.on b3)
      clear m0 m1 m2 m3 m4 m5 m6 b3 hW3 M3 B3 S3 L3
      go_wp2_with fail
      have HV : ∃ V : Nat → (Nat → Value) → World → Prop, V = (fun ix u wv => match ix with
       | 0 => u 0 = .agg #[.bool b, .int .i64 nn, .int .i64 sd, .int .i64 p5, .int .i64 p7, .int .i64 p9, .string Dt]
       | 1 => u 1 = .string s
       | 2 => u 2 = .int .i64 (12 + (x : Int))
       | 3 => u 3 = .string Rt
       | 4 => u 4 = .string Rt
       | 5 => MsgAt wv w.heap.size ⟨b, nn, sd, p5, p7, p9, Dt⟩
       | 6 => u 6 = .string Rt
       | 7 => u 7 = .int .i64 0
       | _ => True) := ⟨_, rfl⟩
      obtain ⟨V, hd7⟩ := HV
      have V0 : ∀ u wv, V 0 u wv = (u 0 = .agg #[.bool b, .int .i64 nn, .int .i64 sd, .int .i64 p5, .int .i64 p7, .int .i64 p9, .string Dt]) := fun _ _ => by subst hd7; rfl
      have V1 : ∀ u wv, V 1 u wv = (u 1 = .string s) := fun _ _ => by subst hd7; rfl
      have V2 : ∀ u wv, V 2 u wv = (u 2 = .int .i64 (12 + (x : Int))) := fun _ _ => by subst hd7; rfl
      have V3 : ∀ u wv, V 3 u wv = (u 3 = .string Rt) := fun _ _ => by subst hd7; rfl
      have V4 : ∀ u wv, V 4 u wv = (u 4 = .string Rt) := fun _ _ => by subst hd7; rfl
      have V5 : ∀ u wv, V 5 u wv = (MsgAt wv w.heap.size ⟨b, nn, sd, p5, p7, p9, Dt⟩) := fun _ _ => by subst hd7; rfl
      have V6 : ∀ u wv, V 6 u wv = (u 6 = .string Rt) := fun _ _ => by subst hd7; rfl
      have V7 : ∀ u wv, V 7 u wv = (u 7 = .int .i64 0) := fun _ _ => by subst hd7; rfl
      have HVD := hid hd7
      clear hd7
      refine region_each (V := V) (drop := fun _ _ => false) (G := fun wv => Below w.heap.size w wv ∧ (MsgAt wv w2.heap.size ⟨b, nn, sd, p5, p7, p9, Dt⟩ ∧ Seven wv w.heap.size)) (Rel := fun jx wv wv' => MsgAt wv w.heap.size ⟨b, nn, sd, p5, p7, p9, Dt⟩ → MsgAt wv' w.heap.size ⟨b, nn, sd, p5, p7, p9, Dt⟩) (by kernel_rfl) (by kernel_rfl) ⟨HB3.out.drew, HM3.out, H3.out⟩ ?hmono1 ?hdep1 ⟨?s0_1, ?s1_1, ?s2_1, ?s3_1, ?s4_1, ?s5_1, ?s6_1, ?s7_1, trivial⟩ ?behind1
      case hmono1 =>
       intro ix jx u wv wv' hij hw hd hr
       rw [HVD.out]
       dsimp only
       split <;> intro h <;> first | exact trivial | exact h | (exact hr h)
      case hdep1 =>
       intro ix u u' wv h1 h2
       rw [HVD.out]
       dsimp only
       split <;> intro h <;> first | exact trivial | (rw [← h1]; exact h) | (exact h)
      case s0_1 =>
       refine owe rfl fun a wx val hG hV hN hO K hK => ?_
       have e6 : a.tmps[6]? = some (.pointer (some ⟨w2.heap.size, 0, none⟩)) := (hO 6).trans (by rfl)
       clear hV hN hO
       obtain ⟨_, m0, m1, m2, m3, m4, m5, m6⟩ := Holds.of_blk hG.2.1
       go_simp
       exact hK.out _ _ (by rw [V0, upd_at]) id hG
      case s1_1 =>
       refine owe rfl fun a wx val hG hV hN hO K hK => ?_
       have e0 : a.tmps[0]? = some (.string s) := (hO 0).trans (by rfl)
       clear hV hN hO
       go_simp
       exact hK.out _ _ (by rw [V1, upd_at]) id hG
      case s2_1 =>
       refine owe rfl fun a wx val hG hV hN hO K hK => ?_
       have e5 : a.tmps[5]? = some (.int .i64 (12 + (x : Int))) := (hO 5).trans (by rfl)
       clear hV hN hO
       go_simp
       exact hK.out _ _ (by rw [V2, upd_at]) id hG
      case s3_1 =>
       refine owe rfl fun a wx val hG hV hN hO K hK => ?_
       have e41 := hN 1 41
       have f41 := hV 1
       rw [V1] at f41
       rw [f41] at e41; clear f41
       have e42 := hN 2 42
       have f42 := hV 2
       rw [V2] at f42
       rw [f42] at e42; clear f42
       clear hV hN hO
       have kb := KB.out
       go_simp
       exact hK.out _ _ (by rw [V3, upd_at]) id hG
      case s4_1 =>
       refine owe rfl fun a wx val hG hV hN hO K hK => ?_
       have e43 := hN 3 43
       have f43 := hV 3
       rw [V3] at f43
       rw [f43] at e43; clear f43
       clear hV hN hO
       go_simp
       refine (cc _).mono ?_
       rintro e w7 ⟨rfl, hb⟩
       exact hK.out _ _ (by rw [V4, upd_at]) (fun h => h.on hb) ⟨hG.1.trans (hb.mono hG.1.size), hG.2.1.on hb, hG.2.2.below hb⟩
      case s5_1 =>
       refine owe rfl fun a wx val hG hV hN hO K hK => ?_
       have e2 : a.tmps[2]? = some (.pointer (some ⟨w.heap.size, 0, none⟩)) := (hO 2).trans (by rfl)
       have e40 := hN 0 40
       have f40 := hV 0
       rw [V0] at f40
       rw [f40] at e40; clear f40
       clear hV hN hO
       obtain ⟨z0, z1, z2, z3, z4, z5, z6, ⟨d0, d1, d2, d3, d4, d5, d6⟩, hfz⟩ := hG.2.2.cells
       go_simp
       exact hK.out undef (put7 wx w.heap.size ⟨b, nn, sd, p5, p7, p9, Dt⟩) (by rw [V5]; exact put7_blk hG.2.2 _) (fun _ => put7_blk hG.2.2 _) ⟨put7_below hG.1 (Nat.le_refl _) _, msgAt_far HNE.out hG.2.1, Seven.put7 hG.2.2 hG.2.2 _⟩
      case s6_1 =>
       refine owe rfl fun a wx val hG hV hN hO K hK => ?_
       have e44 := hN 4 44
       have f44 := hV 4
       rw [V4] at f44
       rw [f44] at e44; clear f44
       clear hV hN hO
       go_simp
       exact hK.out _ _ (by rw [V6, upd_at]) id hG
      case s7_1 =>
       refine owe rfl fun a wx val hG hV hN hO K hK => ?_
       clear hV hN hO
       go_simp
       exact hK.out _ _ (by rw [V7, upd_at]) id hG
      intro val wx hG hV
      have f0 := hV 0 (by simp) (fun _ _ => by rfl)
      rw [V0] at f0
      have f1 := hV 1 (by simp) (fun _ _ => by rfl)
      rw [V1] at f1
      have f2 := hV 2 (by simp) (fun _ _ => by rfl)
      rw [V2] at f2
      have f3 := hV 3 (by simp) (fun _ _ => by rfl)
      rw [V3] at f3
      have f4 := hV 4 (by simp) (fun _ _ => by rfl)
      rw [V4] at f4
      have f5 := hV 5 (by simp) (fun _ _ => by rfl)
      rw [V5] at f5
      have f6 := hV 6 (by simp) (fun _ _ => by rfl)
      rw [V6] at f6
      have f7 := hV 7 (by simp) (fun _ _ => by rfl)
      rw [V7] at f7
      clear hV V0 V1 V2 V3 V4 V5 V6 V7
      simp only [putAll, Act.put, List.setIfInBounds_toArray, List.set_cons_zero, List.set_cons_succ]
      generalize val 0 = z0, val 1 = z1, val 2 = z2, val 3 = z3, val 4 = z4, val 6 = z6, val 7 = z7 at *
      subst f0 f1 f2 f3 f4 f6 f7
      obtain ⟨hB5, _, hS5⟩ := hG
      have HM5 := hid (Holds.of_blk f5)
      clear f5 H3 HB3 HM3
      go_wp2_with fail
      obtain ⟨_, r0, r1, r2, r3, r4, r5, r6⟩ := HM5.out
      exact bodyPost_ret (v := .tuple #[mv ⟨b, nn, sd, p5, p7, p9, Dt⟩, .string Rt, .int .i64 0]) (by simp [results, Tryz.results173, go_sem, r0, r1, r2, r3, r4, r5, r6]) rfl (HD.out _ _ hB5)
    ·have hp2 : ((pe : Int) != 0) = true := by simpa using hp
     have HD := hid (D2.out (.inl hp))
     have HP := hid hp; clear hp
     have h3 := S3
     have H3 := hid h3
     have HB3 := hid B3
     obtain ⟨z0, z1, z2, z3, z4, z5, z6, ⟨q0, q1, q2, q3, q4, q5, q6⟩, hfz⟩ := h3.cells
     go_wp2_with fail
     have hf := Holds.of_blk (put7_blk H3.out zeroM)
     unfold put7 at hf
     simp only [zeroM] at hf
     obtain ⟨_, r0, r1, r2, r3, r4, r5, r6⟩ := hf
     exact bodyPost_ret (v := .tuple #[mv zeroM, .string ⟨#[]⟩, .int .i64 2]) (by simp [results, Tryz.results173, go_sem, zeroM, r0, r1, r2, r3, r4, r5, r6]) rfl (HD.out _ _ (put7_below HB3.out (Nat.le_refl _) zeroM))
end Go.Proofs.YtmmbnjkdknnidaaGreatDoor

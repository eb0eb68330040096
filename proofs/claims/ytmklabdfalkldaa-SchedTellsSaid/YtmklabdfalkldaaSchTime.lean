/-
  Whether a spot's numbers are within their bounds, and the time that it is, by the program.
-/
import Derived.Test.YtmklabdfalkldaaSchAt
namespace Go.Proofs.Ytmklabdfalkldaa
open Go.RowKit

def insB (l : Pl) (c : Int) (s : Spot) : Bool := withinB 0 1099511627776 s.cyc && withinB 0 (c - 1) s.rnd && withinB 0 ((l.length : Int) - 1) s.slt && withinB 0 ((l.getD s.slt.toNat (0, 0)).2 - 1) s.tck
theorem inB_ins (l : Pl) (c : Int) (s : Spot) : inB l c s = (rightS l c && insB l c s) := by
  rw [Bool.eq_iff_iff, inB_iff, Bool.and_eq_true]
  unfold insB maxT
  simp only [Bool.and_eq_true, withinB_iff]
  constructor <;> (intro h; refine ⟨h.1, ?_⟩; omega)

set_option maxRecDepth 100000 in
set_option maxHeartbeats 4000000 in
theorem inside_any (A : Option Addr) (cp : Nat) (c : Int) (l : Pl) (hR : rightS l c = true) (s : Spot) (w : World) (hS : Sls w w.heap.size A l) :
    Calls Try.prog 37 #[pv A l.length cp c, sv s] w fun e w' => e = .returned (.bool (insB l c s)) ∧ Below w.heap.size w w' := by
  have hcy := rightS_cyc hR
  have hl2 := rightS_len hR
  have hB := Joins.below_alloc2 w (.cells #[.slice A l.length cp, .int .i64 c] 25) (.cells #[.int .i64 s.cyc, .int .i64 s.rnd, .int .i64 s.slt, .int .i64 s.tck] 27)
  have hP := (PlAt.new w A l.length cp c).on (Joins.below_alloc1 _ (.cells #[.int .i64 s.cyc, .int .i64 s.rnd, .int .i64 s.slt, .int .i64 s.tck] 27))
  have hZ := SpAt.new (w.alloc (.cells #[.slice A l.length cp, .int .i64 c] 25)) s
  rw [World.size_alloc] at hZ
  have hS0 := (hS.below hB (Nat.le_refl _)).more hB.size
  have hV : insB l c s = (withinB 0 1099511627776 s.cyc && withinB 0 (c - 1) s.rnd && withinB 0 ((l.length : Int) - 1) s.slt && withinB 0 ((l.getD s.slt.toNat (0, 0)).2 - 1) s.tck) := rfl
  rw [hV]
  clear hV
  have C1 := Lib.hid (fun W' => turned (within_any 0 1099511627776 s.cyc W'))
  have C2 := Lib.hid (fun W' => turned (within_any 0 (c - 1) s.rnd W'))
  have C3 := Lib.hid (fun W' => turned (within_any 0 ((l.length : Int) - 1) s.slt W'))
  generalize withinB 0 1099511627776 s.cyc = B1 at *
  generalize withinB 0 (c - 1) s.rnd = B2 at *
  have ec : IntKind.i64.wrap (c - 1) = c - 1 := IntWalk.i64_in _ (by omega)
  have el : IntKind.i64.wrap ((l.length : Int) - 1) = (l.length : Int) - 1 := IntWalk.i64_in _ (by omega)
  have HB := Lib.hid hB; clear hB hS
  generalize hW : (w.alloc (.cells #[.slice A l.length cp, .int .i64 c] 25)).alloc (.cells #[.int .i64 s.cyc, .int .i64 s.rnd, .int .i64 s.slt, .int .i64 s.tck] 27) = W at *
  cases hb3 : withinB 0 ((l.length : Int) - 1) s.slt
  · rw [hb3] at C3
    have HP := Lib.hid hP; clear hP
    have HZ := Lib.hid hZ; clear hZ
    clear hb3 hS0 hR
    obtain ⟨a1, a2, a3, a4⟩ := s
    simp only at *
    generalize l.getD a3.toNat (0, 0) = z at *
    generalize l.length = n at *
    generalize hg : w.heap.size = b at *
    go_enter Try.func37, Try.ntmps37
    go_wp2_with fail
    clear hW
    have HV : ∃ Vp : Nat → (Nat → Value) → World → Prop, Vp = (fun ix u wv => match ix with
      | 0 => u 0 = .pointer (some ⟨b + 1, 0, none⟩)
      | 1 => u 1 = .int .i64 a1
      | 2 => u 2 = .bool B1
      | 3 => u 3 = .bool B1
      | 4 => u 4 = if B1 = true then .pointer (some ⟨b, 1, none⟩) else undef
      | 5 => u 5 = if B1 = true then .int .i64 c else undef
      | 6 => u 6 = if B1 = true then .int .i64 (c - 1) else undef
      | 7 => u 7 = if B1 = true then .pointer (some ⟨b + 1, 1, none⟩) else undef
      | 8 => u 8 = if B1 = true then .int .i64 a2 else undef
      | 9 => u 9 = if B1 = true then .bool B2 else undef
      | 10 => u 10 = .bool (B1 && B2)
      | 11 => u 11 = .bool (B1 && B2)
      | 12 => u 12 = if (B1 && B2) = true then .pointer (some ⟨b, 0, none⟩) else undef
      | 13 => u 13 = if (B1 && B2) = true then .slice A n cp else undef
      | 14 => u 14 = if (B1 && B2) = true then .int .i64 (n : Int) else undef
      | 15 => u 15 = if (B1 && B2) = true then .int .i64 ((n : Int) - 1) else undef
      | 16 => u 16 = if (B1 && B2) = true then .pointer (some ⟨b + 1, 2, none⟩) else undef
      | 17 => u 17 = if (B1 && B2) = true then .int .i64 a3 else undef
      | 18 => u 18 = if (B1 && B2) = true then .bool false else undef
      | 19 => u 19 = .bool false
      | 20 => u 20 = .bool false
      | 21 => u 21 = if false = true then .pointer (some ⟨b, 0, none⟩) else undef
      | 22 => u 22 = if false = true then .slice A n cp else undef
      | 23 => u 23 = if false = true then .pointer (some ⟨b + 1, 2, none⟩) else undef
      | 24 => u 24 = if false = true then .int .i64 a3 else undef
      | 25 => u 25 = if false = true then undef else undef
      | 26 => u 26 = if false = true then undef else undef
      | 27 => u 27 = if false = true then undef else undef
      | 28 => u 28 = if false = true then undef else undef
      | 29 => u 29 = if false = true then .pointer (some ⟨b + 1, 3, none⟩) else undef
      | 30 => u 30 = if false = true then .int .i64 a4 else undef
      | 31 => u 31 = if false = true then .bool false else undef
      | 32 => u 32 = .bool false
      | 33 => u 33 = .bool false
      | _ => True) := ⟨_, rfl⟩
    obtain ⟨Vp, hVdef⟩ := HV
    have Vp0 : ∀ u wv, Vp 0 u wv = (u 0 = .pointer (some ⟨b + 1, 0, none⟩)) := fun u wv => by subst hVdef; rfl
    have Vp1 : ∀ u wv, Vp 1 u wv = (u 1 = .int .i64 a1) := fun u wv => by subst hVdef; rfl
    have Vp2 : ∀ u wv, Vp 2 u wv = (u 2 = .bool B1) := fun u wv => by subst hVdef; rfl
    have Vp3 : ∀ u wv, Vp 3 u wv = (u 3 = .bool B1) := fun u wv => by subst hVdef; rfl
    have Vp4 : ∀ u wv, Vp 4 u wv = (u 4 = if B1 = true then .pointer (some ⟨b, 1, none⟩) else undef) := fun u wv => by subst hVdef; rfl
    have Vp5 : ∀ u wv, Vp 5 u wv = (u 5 = if B1 = true then .int .i64 c else undef) := fun u wv => by subst hVdef; rfl
    have Vp6 : ∀ u wv, Vp 6 u wv = (u 6 = if B1 = true then .int .i64 (c - 1) else undef) := fun u wv => by subst hVdef; rfl
    have Vp7 : ∀ u wv, Vp 7 u wv = (u 7 = if B1 = true then .pointer (some ⟨b + 1, 1, none⟩) else undef) := fun u wv => by subst hVdef; rfl
    have Vp8 : ∀ u wv, Vp 8 u wv = (u 8 = if B1 = true then .int .i64 a2 else undef) := fun u wv => by subst hVdef; rfl
    have Vp9 : ∀ u wv, Vp 9 u wv = (u 9 = if B1 = true then .bool B2 else undef) := fun u wv => by subst hVdef; rfl
    have Vp10 : ∀ u wv, Vp 10 u wv = (u 10 = .bool (B1 && B2)) := fun u wv => by subst hVdef; rfl
    have Vp11 : ∀ u wv, Vp 11 u wv = (u 11 = .bool (B1 && B2)) := fun u wv => by subst hVdef; rfl
    have Vp12 : ∀ u wv, Vp 12 u wv = (u 12 = if (B1 && B2) = true then .pointer (some ⟨b, 0, none⟩) else undef) := fun u wv => by subst hVdef; rfl
    have Vp13 : ∀ u wv, Vp 13 u wv = (u 13 = if (B1 && B2) = true then .slice A n cp else undef) := fun u wv => by subst hVdef; rfl
    have Vp14 : ∀ u wv, Vp 14 u wv = (u 14 = if (B1 && B2) = true then .int .i64 (n : Int) else undef) := fun u wv => by subst hVdef; rfl
    have Vp15 : ∀ u wv, Vp 15 u wv = (u 15 = if (B1 && B2) = true then .int .i64 ((n : Int) - 1) else undef) := fun u wv => by subst hVdef; rfl
    have Vp16 : ∀ u wv, Vp 16 u wv = (u 16 = if (B1 && B2) = true then .pointer (some ⟨b + 1, 2, none⟩) else undef) := fun u wv => by subst hVdef; rfl
    have Vp17 : ∀ u wv, Vp 17 u wv = (u 17 = if (B1 && B2) = true then .int .i64 a3 else undef) := fun u wv => by subst hVdef; rfl
    have Vp18 : ∀ u wv, Vp 18 u wv = (u 18 = if (B1 && B2) = true then .bool false else undef) := fun u wv => by subst hVdef; rfl
    have Vp19 : ∀ u wv, Vp 19 u wv = (u 19 = .bool false) := fun u wv => by subst hVdef; rfl
    have Vp20 : ∀ u wv, Vp 20 u wv = (u 20 = .bool false) := fun u wv => by subst hVdef; rfl
    have Vp21 : ∀ u wv, Vp 21 u wv = (u 21 = if false = true then .pointer (some ⟨b, 0, none⟩) else undef) := fun u wv => by subst hVdef; rfl
    have Vp22 : ∀ u wv, Vp 22 u wv = (u 22 = if false = true then .slice A n cp else undef) := fun u wv => by subst hVdef; rfl
    have Vp23 : ∀ u wv, Vp 23 u wv = (u 23 = if false = true then .pointer (some ⟨b + 1, 2, none⟩) else undef) := fun u wv => by subst hVdef; rfl
    have Vp24 : ∀ u wv, Vp 24 u wv = (u 24 = if false = true then .int .i64 a3 else undef) := fun u wv => by subst hVdef; rfl
    have Vp25 : ∀ u wv, Vp 25 u wv = (u 25 = if false = true then undef else undef) := fun u wv => by subst hVdef; rfl
    have Vp26 : ∀ u wv, Vp 26 u wv = (u 26 = if false = true then undef else undef) := fun u wv => by subst hVdef; rfl
    have Vp27 : ∀ u wv, Vp 27 u wv = (u 27 = if false = true then undef else undef) := fun u wv => by subst hVdef; rfl
    have Vp28 : ∀ u wv, Vp 28 u wv = (u 28 = if false = true then undef else undef) := fun u wv => by subst hVdef; rfl
    have Vp29 : ∀ u wv, Vp 29 u wv = (u 29 = if false = true then .pointer (some ⟨b + 1, 3, none⟩) else undef) := fun u wv => by subst hVdef; rfl
    have Vp30 : ∀ u wv, Vp 30 u wv = (u 30 = if false = true then .int .i64 a4 else undef) := fun u wv => by subst hVdef; rfl
    have Vp31 : ∀ u wv, Vp 31 u wv = (u 31 = if false = true then .bool false else undef) := fun u wv => by subst hVdef; rfl
    have Vp32 : ∀ u wv, Vp 32 u wv = (u 32 = .bool false) := fun u wv => by subst hVdef; rfl
    have Vp33 : ∀ u wv, Vp 33 u wv = (u 33 = .bool false) := fun u wv => by subst hVdef; rfl
    have HVD := Lib.hid hVdef
    clear hVdef
    refine region_each (V := Vp) (drop := fun _ _ => false) (G := fun wv => Below W.heap.size W wv) (Rel := fun jx wv wv' => Below wv.heap.size wv wv') (by kernel_rfl) (by kernel_rfl) (Below.refl _ _).drew ?hmonoc1 ?hdepc1 ⟨?s0_c1, ?s1_c1, ?s2_c1, ?s3_c1, ?s4_c1, ?s5_c1, ?s6_c1, ?s7_c1, ?s8_c1, ?s9_c1, ?s10_c1, ?s11_c1, ?s12_c1, ?s13_c1, ?s14_c1, ?s15_c1, ?s16_c1, ?s17_c1, ?s18_c1, ?s19_c1, ?s20_c1, ?s21_c1, ?s22_c1, ?s23_c1, ?s24_c1, ?s25_c1, ?s26_c1, ?s27_c1, ?s28_c1, ?s29_c1, ?s30_c1, ?s31_c1, ?s32_c1, ?s33_c1, trivial⟩ ?behindc1
    case hmonoc1 =>
      intro ix jx u wv wv' hij hw hd hr
      rw [HVD.out]
      dsimp only
      split <;> intro h <;> first | exact trivial | exact h
    case hdepc1 =>
      intro ix u u' wv h1 h2
      rw [HVD.out]
      dsimp only
      split <;> intro h <;> first | exact trivial | (rw [← h1]; exact h)
    case s0_c1 =>
      refine owe rfl fun a wx val hG hV hN hO K hK => ?_
      have e3 : a.tmps[3]? = some (.pointer (some ⟨b + 1, 0, none⟩)) := (hO 3 (by kernel_rfl)).trans (by rfl)
      clear hV hN hO
      go_simp
      exact hK.out _ _ (by rw [Vp0, upd_at] <;> (congr 1 <;> omega)) (Below.refl _ _) hG
    case s1_c1 =>
      refine owe rfl fun a wx val hG hV hN hO K hK => ?_
      have e5 := hN 0 5 (by kernel_rfl) (by kernel_rfl) (by simp)
      have f5 := hV 0 (by kernel_rfl) (by kernel_rfl)
      rw [Vp0] at f5; rw [f5] at e5; clear f5
      clear hV hN hO
      obtain ⟨y0, y1⟩ := (HP.out.on hG).cells; obtain ⟨z0, z1, z2, z3⟩ := (HZ.out.on hG).cells
      go_simp
      exact hK.out _ _ (by rw [Vp1, upd_at] <;> (congr 1 <;> omega)) (Below.refl _ _) hG
    case s2_c1 =>
      refine owe rfl fun a wx val hG hV hN hO K hK => ?_
      have e6 := hN 1 6 (by kernel_rfl) (by kernel_rfl) (by simp)
      have f6 := hV 1 (by kernel_rfl) (by kernel_rfl)
      rw [Vp1] at f6; rw [f6] at e6; clear f6
      clear hV hN hO
      go_simp
      refine (C1.out _).mono ?_
      rintro e w11 ⟨rfl, rfl⟩
      exact hK.out _ _ (by rw [Vp2, upd_at]) (Below.refl _ _) hG
    case s3_c1 =>
      refine owe rfl fun a wx val hG hV hN hO K hK => ?_
      have e7 := hN 2 7 (by kernel_rfl) (by kernel_rfl) (by simp)
      have f7 := hV 2 (by kernel_rfl) (by kernel_rfl)
      rw [Vp2] at f7; rw [f7] at e7; clear f7
      clear hV hN hO
      go_simp
      exact hK.out _ _ (by rw [Vp3, upd_at] <;> (congr 1 <;> omega)) (Below.refl _ _) hG
    case s4_c1 =>
      refine owe_cond (g := 3) (t := 8) (b := true) (c := B1) (d := true) B1 (by first | rfl | simp) rfl (by kernel_rfl) (by kernel_rfl) (by kernel_rfl) (by simp) (fun val w h => by rw [Vp3] at h; first | exact h | simpa using h) (fun hd a wx val hG hV hN hO K hK => ?_) (fun hd val w => by rw [Vp4, upd_at, if_neg (by rw [hd]; decide)])
      have e2 : a.tmps[2]? = some (.pointer (some ⟨b, 0, none⟩)) := (hO 2 (by kernel_rfl)).trans (by rfl)
      clear hV hN hO
      go_simp
      exact hK.out _ _ (by rw [Vp4, upd_at, if_pos hd] <;> (congr 1 <;> omega)) (Below.refl _ _) hG
    case s5_c1 =>
      refine owe_cond (g := 3) (t := 8) (b := true) (c := B1) (d := true) B1 (by first | rfl | simp) rfl (by kernel_rfl) (by kernel_rfl) (by kernel_rfl) (by simp) (fun val w h => by rw [Vp3] at h; first | exact h | simpa using h) (fun hd a wx val hG hV hN hO K hK => ?_) (fun hd val w => by rw [Vp5, upd_at, if_neg (by rw [hd]; decide)])
      have e9 := hN 4 9 (by kernel_rfl) (by kernel_rfl) (by simp)
      have f9 := hV 4 (by kernel_rfl) (by kernel_rfl)
      rw [Vp4] at f9; rw [f9] at e9; clear f9
      rw [if_pos hd] at e9
      clear hV hN hO
      obtain ⟨y0, y1⟩ := (HP.out.on hG).cells; obtain ⟨z0, z1, z2, z3⟩ := (HZ.out.on hG).cells
      go_simp
      exact hK.out _ _ (by rw [Vp5, upd_at, if_pos hd] <;> (congr 1 <;> omega)) (Below.refl _ _) hG
    case s6_c1 =>
      refine owe_cond (g := 3) (t := 8) (b := true) (c := B1) (d := true) B1 (by first | rfl | simp) rfl (by kernel_rfl) (by kernel_rfl) (by kernel_rfl) (by simp) (fun val w h => by rw [Vp3] at h; first | exact h | simpa using h) (fun hd a wx val hG hV hN hO K hK => ?_) (fun hd val w => by rw [Vp6, upd_at, if_neg (by rw [hd]; decide)])
      have e10 := hN 5 10 (by kernel_rfl) (by kernel_rfl) (by simp)
      have f10 := hV 5 (by kernel_rfl) (by kernel_rfl)
      rw [Vp5] at f10; rw [f10] at e10; clear f10
      rw [if_pos hd] at e10
      clear hV hN hO
      go_simp
      exact hK.out _ _ (by rw [Vp6, upd_at, if_pos hd] <;> (congr 1 <;> omega)) (Below.refl _ _) hG
    case s7_c1 =>
      refine owe_cond (g := 3) (t := 8) (b := true) (c := B1) (d := true) B1 (by first | rfl | simp) rfl (by kernel_rfl) (by kernel_rfl) (by kernel_rfl) (by simp) (fun val w h => by rw [Vp3] at h; first | exact h | simpa using h) (fun hd a wx val hG hV hN hO K hK => ?_) (fun hd val w => by rw [Vp7, upd_at, if_neg (by rw [hd]; decide)])
      have e3 : a.tmps[3]? = some (.pointer (some ⟨b + 1, 0, none⟩)) := (hO 3 (by kernel_rfl)).trans (by rfl)
      clear hV hN hO
      go_simp
      exact hK.out _ _ (by rw [Vp7, upd_at, if_pos hd] <;> (congr 1 <;> omega)) (Below.refl _ _) hG
    case s8_c1 =>
      refine owe_cond (g := 3) (t := 8) (b := true) (c := B1) (d := true) B1 (by first | rfl | simp) rfl (by kernel_rfl) (by kernel_rfl) (by kernel_rfl) (by simp) (fun val w h => by rw [Vp3] at h; first | exact h | simpa using h) (fun hd a wx val hG hV hN hO K hK => ?_) (fun hd val w => by rw [Vp8, upd_at, if_neg (by rw [hd]; decide)])
      have e12 := hN 7 12 (by kernel_rfl) (by kernel_rfl) (by simp)
      have f12 := hV 7 (by kernel_rfl) (by kernel_rfl)
      rw [Vp7] at f12; rw [f12] at e12; clear f12
      rw [if_pos hd] at e12
      clear hV hN hO
      obtain ⟨y0, y1⟩ := (HP.out.on hG).cells; obtain ⟨z0, z1, z2, z3⟩ := (HZ.out.on hG).cells
      go_simp
      exact hK.out _ _ (by rw [Vp8, upd_at, if_pos hd] <;> (congr 1 <;> omega)) (Below.refl _ _) hG
    case s9_c1 =>
      refine owe_cond (g := 3) (t := 8) (b := true) (c := B1) (d := true) B1 (by first | rfl | simp) rfl (by kernel_rfl) (by kernel_rfl) (by kernel_rfl) (by simp) (fun val w h => by rw [Vp3] at h; first | exact h | simpa using h) (fun hd a wx val hG hV hN hO K hK => ?_) (fun hd val w => by rw [Vp9, upd_at, if_neg (by rw [hd]; decide)])
      have e11 := hN 6 11 (by kernel_rfl) (by kernel_rfl) (by simp)
      have f11 := hV 6 (by kernel_rfl) (by kernel_rfl)
      rw [Vp6] at f11; rw [f11] at e11; clear f11
      rw [if_pos hd] at e11
      have e13 := hN 8 13 (by kernel_rfl) (by kernel_rfl) (by simp)
      have f13 := hV 8 (by kernel_rfl) (by kernel_rfl)
      rw [Vp8] at f13; rw [f13] at e13; clear f13
      rw [if_pos hd] at e13
      clear hV hN hO
      go_simp
      refine (C2.out _).mono ?_
      rintro e w11 ⟨rfl, rfl⟩
      exact hK.out _ _ (by rw [Vp9, upd_at, if_pos hd]) (Below.refl _ _) hG
    case s10_c1 =>
      refine owe rfl fun a wx val hG hV hN hO K hK => ?_
      have e8 := hN 3 8 (by kernel_rfl) (by kernel_rfl) (by simp)
      have f8 := hV 3 (by kernel_rfl) (by kernel_rfl)
      rw [Vp3] at f8; rw [f8] at e8; clear f8
      have e14 := hN 9 14 (by kernel_rfl) (by kernel_rfl) (by simp)
      have f14 := hV 9 (by kernel_rfl) (by kernel_rfl)
      rw [Vp9] at f14; rw [f14] at e14; clear f14
      clear hV hN hO
      cases hcc : B1
      · rw [hcc] at e8
        rw [if_neg (by first | (rw [hcc]; decide) | simp [hcc])] at e14
        go_simp
        exact hK.out _ _ (by rw [Vp10, upd_at] <;> simp [hcc]) (Below.refl _ _) hG
      · rw [hcc] at e8
        rw [if_pos (by first | exact hcc | (rw [hcc]; rfl) | simp [hcc])] at e14
        go_simp
        exact hK.out _ _ (by rw [Vp10, upd_at] <;> simp [hcc]) (Below.refl _ _) hG
    case s11_c1 =>
      refine owe rfl fun a wx val hG hV hN hO K hK => ?_
      have e15 := hN 10 15 (by kernel_rfl) (by kernel_rfl) (by simp)
      have f15 := hV 10 (by kernel_rfl) (by kernel_rfl)
      rw [Vp10] at f15; rw [f15] at e15; clear f15
      clear hV hN hO
      go_simp
      exact hK.out _ _ (by rw [Vp11, upd_at] <;> (congr 1 <;> omega)) (Below.refl _ _) hG
    case s12_c1 =>
      refine owe_cond (g := 11) (t := 16) (b := true) (c := (B1 && B2)) (d := true) ((B1 && B2)) (by first | rfl | simp) rfl (by kernel_rfl) (by kernel_rfl) (by kernel_rfl) (by simp) (fun val w h => by rw [Vp11] at h; first | exact h | simpa using h) (fun hd a wx val hG hV hN hO K hK => ?_) (fun hd val w => by rw [Vp12, upd_at, if_neg (by rw [hd]; decide)])
      have e2 : a.tmps[2]? = some (.pointer (some ⟨b, 0, none⟩)) := (hO 2 (by kernel_rfl)).trans (by rfl)
      clear hV hN hO
      go_simp
      exact hK.out _ _ (by rw [Vp12, upd_at, if_pos hd] <;> (congr 1 <;> omega)) (Below.refl _ _) hG
    case s13_c1 =>
      refine owe_cond (g := 11) (t := 16) (b := true) (c := (B1 && B2)) (d := true) ((B1 && B2)) (by first | rfl | simp) rfl (by kernel_rfl) (by kernel_rfl) (by kernel_rfl) (by simp) (fun val w h => by rw [Vp11] at h; first | exact h | simpa using h) (fun hd a wx val hG hV hN hO K hK => ?_) (fun hd val w => by rw [Vp13, upd_at, if_neg (by rw [hd]; decide)])
      have e17 := hN 12 17 (by kernel_rfl) (by kernel_rfl) (by simp)
      have f17 := hV 12 (by kernel_rfl) (by kernel_rfl)
      rw [Vp12] at f17; rw [f17] at e17; clear f17
      rw [if_pos hd] at e17
      clear hV hN hO
      obtain ⟨y0, y1⟩ := (HP.out.on hG).cells; obtain ⟨z0, z1, z2, z3⟩ := (HZ.out.on hG).cells
      go_simp
      exact hK.out _ _ (by rw [Vp13, upd_at, if_pos hd] <;> (congr 1 <;> omega)) (Below.refl _ _) hG
    case s14_c1 =>
      refine owe_cond (g := 11) (t := 16) (b := true) (c := (B1 && B2)) (d := true) ((B1 && B2)) (by first | rfl | simp) rfl (by kernel_rfl) (by kernel_rfl) (by kernel_rfl) (by simp) (fun val w h => by rw [Vp11] at h; first | exact h | simpa using h) (fun hd a wx val hG hV hN hO K hK => ?_) (fun hd val w => by rw [Vp14, upd_at, if_neg (by rw [hd]; decide)])
      have e18 := hN 13 18 (by kernel_rfl) (by kernel_rfl) (by simp)
      have f18 := hV 13 (by kernel_rfl) (by kernel_rfl)
      rw [Vp13] at f18; rw [f18] at e18; clear f18
      rw [if_pos hd] at e18
      clear hV hN hO
      go_simp
      exact hK.out _ _ (by rw [Vp14, upd_at, if_pos hd] <;> (congr 1 <;> omega)) (Below.refl _ _) hG
    case s15_c1 =>
      refine owe_cond (g := 11) (t := 16) (b := true) (c := (B1 && B2)) (d := true) ((B1 && B2)) (by first | rfl | simp) rfl (by kernel_rfl) (by kernel_rfl) (by kernel_rfl) (by simp) (fun val w h => by rw [Vp11] at h; first | exact h | simpa using h) (fun hd a wx val hG hV hN hO K hK => ?_) (fun hd val w => by rw [Vp15, upd_at, if_neg (by rw [hd]; decide)])
      have e19 := hN 14 19 (by kernel_rfl) (by kernel_rfl) (by simp)
      have f19 := hV 14 (by kernel_rfl) (by kernel_rfl)
      rw [Vp14] at f19; rw [f19] at e19; clear f19
      rw [if_pos hd] at e19
      clear hV hN hO
      go_simp
      exact hK.out _ _ (by rw [Vp15, upd_at, if_pos hd] <;> (congr 1 <;> omega)) (Below.refl _ _) hG
    case s16_c1 =>
      refine owe_cond (g := 11) (t := 16) (b := true) (c := (B1 && B2)) (d := true) ((B1 && B2)) (by first | rfl | simp) rfl (by kernel_rfl) (by kernel_rfl) (by kernel_rfl) (by simp) (fun val w h => by rw [Vp11] at h; first | exact h | simpa using h) (fun hd a wx val hG hV hN hO K hK => ?_) (fun hd val w => by rw [Vp16, upd_at, if_neg (by rw [hd]; decide)])
      have e3 : a.tmps[3]? = some (.pointer (some ⟨b + 1, 0, none⟩)) := (hO 3 (by kernel_rfl)).trans (by rfl)
      clear hV hN hO
      go_simp
      exact hK.out _ _ (by rw [Vp16, upd_at, if_pos hd] <;> (congr 1 <;> omega)) (Below.refl _ _) hG
    case s17_c1 =>
      refine owe_cond (g := 11) (t := 16) (b := true) (c := (B1 && B2)) (d := true) ((B1 && B2)) (by first | rfl | simp) rfl (by kernel_rfl) (by kernel_rfl) (by kernel_rfl) (by simp) (fun val w h => by rw [Vp11] at h; first | exact h | simpa using h) (fun hd a wx val hG hV hN hO K hK => ?_) (fun hd val w => by rw [Vp17, upd_at, if_neg (by rw [hd]; decide)])
      have e21 := hN 16 21 (by kernel_rfl) (by kernel_rfl) (by simp)
      have f21 := hV 16 (by kernel_rfl) (by kernel_rfl)
      rw [Vp16] at f21; rw [f21] at e21; clear f21
      rw [if_pos hd] at e21
      clear hV hN hO
      obtain ⟨y0, y1⟩ := (HP.out.on hG).cells; obtain ⟨z0, z1, z2, z3⟩ := (HZ.out.on hG).cells
      go_simp
      exact hK.out _ _ (by rw [Vp17, upd_at, if_pos hd] <;> (congr 1 <;> omega)) (Below.refl _ _) hG
    case s18_c1 =>
      refine owe_cond (g := 11) (t := 16) (b := true) (c := (B1 && B2)) (d := true) ((B1 && B2)) (by first | rfl | simp) rfl (by kernel_rfl) (by kernel_rfl) (by kernel_rfl) (by simp) (fun val w h => by rw [Vp11] at h; first | exact h | simpa using h) (fun hd a wx val hG hV hN hO K hK => ?_) (fun hd val w => by rw [Vp18, upd_at, if_neg (by rw [hd]; decide)])
      have e20 := hN 15 20 (by kernel_rfl) (by kernel_rfl) (by simp)
      have f20 := hV 15 (by kernel_rfl) (by kernel_rfl)
      rw [Vp15] at f20; rw [f20] at e20; clear f20
      rw [if_pos hd] at e20
      have e22 := hN 17 22 (by kernel_rfl) (by kernel_rfl) (by simp)
      have f22 := hV 17 (by kernel_rfl) (by kernel_rfl)
      rw [Vp17] at f22; rw [f22] at e22; clear f22
      rw [if_pos hd] at e22
      clear hV hN hO
      go_simp
      refine (C3.out _).mono ?_
      rintro e w11 ⟨rfl, rfl⟩
      exact hK.out _ _ (by rw [Vp18, upd_at, if_pos hd]) (Below.refl _ _) hG
    case s19_c1 =>
      refine owe rfl fun a wx val hG hV hN hO K hK => ?_
      have e16 := hN 11 16 (by kernel_rfl) (by kernel_rfl) (by simp)
      have f16 := hV 11 (by kernel_rfl) (by kernel_rfl)
      rw [Vp11] at f16; rw [f16] at e16; clear f16
      have e23 := hN 18 23 (by kernel_rfl) (by kernel_rfl) (by simp)
      have f23 := hV 18 (by kernel_rfl) (by kernel_rfl)
      rw [Vp18] at f23; rw [f23] at e23; clear f23
      clear hV hN hO
      cases hcc : ((B1 && B2))
      · rw [hcc] at e16
        rw [if_neg (by first | (rw [hcc]; decide) | simp [hcc])] at e23
        go_simp
        exact hK.out _ _ (by rw [Vp19, upd_at] <;> simp [hcc]) (Below.refl _ _) hG
      · rw [hcc] at e16
        rw [if_pos (by first | exact hcc | (rw [hcc]; rfl) | simp [hcc])] at e23
        go_simp
        exact hK.out _ _ (by rw [Vp19, upd_at] <;> simp [hcc]) (Below.refl _ _) hG
    case s20_c1 =>
      refine owe rfl fun a wx val hG hV hN hO K hK => ?_
      have e24 := hN 19 24 (by kernel_rfl) (by kernel_rfl) (by simp)
      have f24 := hV 19 (by kernel_rfl) (by kernel_rfl)
      rw [Vp19] at f24; rw [f24] at e24; clear f24
      clear hV hN hO
      go_simp
      exact hK.out _ _ (by rw [Vp20, upd_at] <;> (congr 1 <;> omega)) (Below.refl _ _) hG
    case s21_c1 =>
      refine owe_cond (g := 20) (t := 25) (b := true) (c := false) (d := true) false (by first | rfl | simp) rfl (by kernel_rfl) (by kernel_rfl) (by kernel_rfl) (by simp) (fun val w h => by rw [Vp20] at h; first | exact h | simpa using h) (fun hd a wx val hG hV hN hO K hK => ?_) (fun hd val w => by rw [Vp21, upd_at, if_neg (by rw [hd]; decide)])
      exact absurd hd (by decide)
    case s22_c1 =>
      refine owe_cond (g := 20) (t := 25) (b := true) (c := false) (d := true) false (by first | rfl | simp) rfl (by kernel_rfl) (by kernel_rfl) (by kernel_rfl) (by simp) (fun val w h => by rw [Vp20] at h; first | exact h | simpa using h) (fun hd a wx val hG hV hN hO K hK => ?_) (fun hd val w => by rw [Vp22, upd_at, if_neg (by rw [hd]; decide)])
      exact absurd hd (by decide)
    case s23_c1 =>
      refine owe_cond (g := 20) (t := 25) (b := true) (c := false) (d := true) false (by first | rfl | simp) rfl (by kernel_rfl) (by kernel_rfl) (by kernel_rfl) (by simp) (fun val w h => by rw [Vp20] at h; first | exact h | simpa using h) (fun hd a wx val hG hV hN hO K hK => ?_) (fun hd val w => by rw [Vp23, upd_at, if_neg (by rw [hd]; decide)])
      exact absurd hd (by decide)
    case s24_c1 =>
      refine owe_cond (g := 20) (t := 25) (b := true) (c := false) (d := true) false (by first | rfl | simp) rfl (by kernel_rfl) (by kernel_rfl) (by kernel_rfl) (by simp) (fun val w h => by rw [Vp20] at h; first | exact h | simpa using h) (fun hd a wx val hG hV hN hO K hK => ?_) (fun hd val w => by rw [Vp24, upd_at, if_neg (by rw [hd]; decide)])
      exact absurd hd (by decide)
    case s25_c1 =>
      refine owe_cond (g := 20) (t := 25) (b := true) (c := false) (d := true) false (by first | rfl | simp) rfl (by kernel_rfl) (by kernel_rfl) (by kernel_rfl) (by simp) (fun val w h => by rw [Vp20] at h; first | exact h | simpa using h) (fun hd a wx val hG hV hN hO K hK => ?_) (fun hd val w => by rw [Vp25, upd_at, if_neg (by rw [hd]; decide)])
      exact absurd hd (by decide)
    case s26_c1 =>
      refine owe_cond (g := 20) (t := 25) (b := true) (c := false) (d := true) false (by first | rfl | simp) rfl (by kernel_rfl) (by kernel_rfl) (by kernel_rfl) (by simp) (fun val w h => by rw [Vp20] at h; first | exact h | simpa using h) (fun hd a wx val hG hV hN hO K hK => ?_) (fun hd val w => by rw [Vp26, upd_at, if_neg (by rw [hd]; decide)])
      exact absurd hd (by decide)
    case s27_c1 =>
      refine owe_cond (g := 20) (t := 25) (b := true) (c := false) (d := true) false (by first | rfl | simp) rfl (by kernel_rfl) (by kernel_rfl) (by kernel_rfl) (by simp) (fun val w h => by rw [Vp20] at h; first | exact h | simpa using h) (fun hd a wx val hG hV hN hO K hK => ?_) (fun hd val w => by rw [Vp27, upd_at, if_neg (by rw [hd]; decide)])
      exact absurd hd (by decide)
    case s28_c1 =>
      refine owe_cond (g := 20) (t := 25) (b := true) (c := false) (d := true) false (by first | rfl | simp) rfl (by kernel_rfl) (by kernel_rfl) (by kernel_rfl) (by simp) (fun val w h => by rw [Vp20] at h; first | exact h | simpa using h) (fun hd a wx val hG hV hN hO K hK => ?_) (fun hd val w => by rw [Vp28, upd_at, if_neg (by rw [hd]; decide)])
      exact absurd hd (by decide)
    case s29_c1 =>
      refine owe_cond (g := 20) (t := 25) (b := true) (c := false) (d := true) false (by first | rfl | simp) rfl (by kernel_rfl) (by kernel_rfl) (by kernel_rfl) (by simp) (fun val w h => by rw [Vp20] at h; first | exact h | simpa using h) (fun hd a wx val hG hV hN hO K hK => ?_) (fun hd val w => by rw [Vp29, upd_at, if_neg (by rw [hd]; decide)])
      exact absurd hd (by decide)
    case s30_c1 =>
      refine owe_cond (g := 20) (t := 25) (b := true) (c := false) (d := true) false (by first | rfl | simp) rfl (by kernel_rfl) (by kernel_rfl) (by kernel_rfl) (by simp) (fun val w h => by rw [Vp20] at h; first | exact h | simpa using h) (fun hd a wx val hG hV hN hO K hK => ?_) (fun hd val w => by rw [Vp30, upd_at, if_neg (by rw [hd]; decide)])
      exact absurd hd (by decide)
    case s31_c1 =>
      refine owe_cond (g := 20) (t := 25) (b := true) (c := false) (d := true) false (by first | rfl | simp) rfl (by kernel_rfl) (by kernel_rfl) (by kernel_rfl) (by simp) (fun val w h => by rw [Vp20] at h; first | exact h | simpa using h) (fun hd a wx val hG hV hN hO K hK => ?_) (fun hd val w => by rw [Vp31, upd_at, if_neg (by rw [hd]; decide)])
      exact absurd hd (by decide)
    case s32_c1 =>
      refine owe rfl fun a wx val hG hV hN hO K hK => ?_
      have e25 := hN 20 25 (by kernel_rfl) (by kernel_rfl) (by simp)
      have f25 := hV 20 (by kernel_rfl) (by kernel_rfl)
      rw [Vp20] at f25; rw [f25] at e25; clear f25
      have e36 := hN 31 36 (by kernel_rfl) (by kernel_rfl) (by simp)
      have f36 := hV 31 (by kernel_rfl) (by kernel_rfl)
      rw [Vp31] at f36; rw [f36] at e36; clear f36
      clear hV hN hO
      cases hcc : false
      · rw [hcc] at e25
        rw [if_neg (by first | (rw [hcc]; decide) | simp [hcc])] at e36
        go_simp
        exact hK.out _ _ (by rw [Vp32, upd_at] <;> simp [hcc]) (Below.refl _ _) hG
      · rw [hcc] at e25
        rw [if_pos (by first | exact hcc | (rw [hcc]; rfl) | simp [hcc])] at e36
        go_simp
        exact hK.out _ _ (by rw [Vp32, upd_at] <;> simp [hcc]) (Below.refl _ _) hG
    case s33_c1 =>
      refine owe rfl fun a wx val hG hV hN hO K hK => ?_
      have e37 := hN 32 37 (by kernel_rfl) (by kernel_rfl) (by simp)
      have f37 := hV 32 (by kernel_rfl) (by kernel_rfl)
      rw [Vp32] at f37; rw [f37] at e37; clear f37
      clear hV hN hO
      go_simp
      exact hK.out _ _ (by rw [Vp33, upd_at] <;> (congr 1 <;> omega)) (Below.refl _ _) hG
    intro val wx hG hV
    have f0 := hV 0 (by simp) (fun _ _ => by rfl)
    rw [Vp0] at f0
    have f1 := hV 1 (by simp) (fun _ _ => by rfl)
    rw [Vp1] at f1
    have f2 := hV 2 (by simp) (fun _ _ => by rfl)
    rw [Vp2] at f2
    have f3 := hV 3 (by simp) (fun _ _ => by rfl)
    rw [Vp3] at f3
    have f4 := hV 4 (by simp) (fun _ _ => by rfl)
    rw [Vp4] at f4
    have f5 := hV 5 (by simp) (fun _ _ => by rfl)
    rw [Vp5] at f5
    have f6 := hV 6 (by simp) (fun _ _ => by rfl)
    rw [Vp6] at f6
    have f7 := hV 7 (by simp) (fun _ _ => by rfl)
    rw [Vp7] at f7
    have f8 := hV 8 (by simp) (fun _ _ => by rfl)
    rw [Vp8] at f8
    have f9 := hV 9 (by simp) (fun _ _ => by rfl)
    rw [Vp9] at f9
    have f10 := hV 10 (by simp) (fun _ _ => by rfl)
    rw [Vp10] at f10
    have f11 := hV 11 (by simp) (fun _ _ => by rfl)
    rw [Vp11] at f11
    have f12 := hV 12 (by simp) (fun _ _ => by rfl)
    rw [Vp12] at f12
    have f13 := hV 13 (by simp) (fun _ _ => by rfl)
    rw [Vp13] at f13
    have f14 := hV 14 (by simp) (fun _ _ => by rfl)
    rw [Vp14] at f14
    have f15 := hV 15 (by simp) (fun _ _ => by rfl)
    rw [Vp15] at f15
    have f16 := hV 16 (by simp) (fun _ _ => by rfl)
    rw [Vp16] at f16
    have f17 := hV 17 (by simp) (fun _ _ => by rfl)
    rw [Vp17] at f17
    have f18 := hV 18 (by simp) (fun _ _ => by rfl)
    rw [Vp18] at f18
    have f19 := hV 19 (by simp) (fun _ _ => by rfl)
    rw [Vp19] at f19
    have f20 := hV 20 (by simp) (fun _ _ => by rfl)
    rw [Vp20] at f20
    have f21 := hV 21 (by simp) (fun _ _ => by rfl)
    rw [Vp21] at f21
    have f22 := hV 22 (by simp) (fun _ _ => by rfl)
    rw [Vp22] at f22
    have f23 := hV 23 (by simp) (fun _ _ => by rfl)
    rw [Vp23] at f23
    have f24 := hV 24 (by simp) (fun _ _ => by rfl)
    rw [Vp24] at f24
    have f25 := hV 25 (by simp) (fun _ _ => by rfl)
    rw [Vp25] at f25
    have f26 := hV 26 (by simp) (fun _ _ => by rfl)
    rw [Vp26] at f26
    have f27 := hV 27 (by simp) (fun _ _ => by rfl)
    rw [Vp27] at f27
    have f28 := hV 28 (by simp) (fun _ _ => by rfl)
    rw [Vp28] at f28
    have f29 := hV 29 (by simp) (fun _ _ => by rfl)
    rw [Vp29] at f29
    have f30 := hV 30 (by simp) (fun _ _ => by rfl)
    rw [Vp30] at f30
    have f31 := hV 31 (by simp) (fun _ _ => by rfl)
    rw [Vp31] at f31
    have f32 := hV 32 (by simp) (fun _ _ => by rfl)
    rw [Vp32] at f32
    have f33 := hV 33 (by simp) (fun _ _ => by rfl)
    rw [Vp33] at f33
    clear hV Vp0 Vp1 Vp2 Vp3 Vp4 Vp5 Vp6 Vp7 Vp8 Vp9 Vp10 Vp11 Vp12 Vp13 Vp14 Vp15 Vp16 Vp17 Vp18 Vp19 Vp20 Vp21 Vp22 Vp23 Vp24 Vp25 Vp26 Vp27 Vp28 Vp29 Vp30 Vp31 Vp32 Vp33
    simp only [putAll, Act.put, List.setIfInBounds_toArray, List.set_cons_zero, List.set_cons_succ]
    generalize val 0 = z0 at *; (subst f0)
    generalize val 1 = z1 at *; (subst f1)
    generalize val 2 = z2 at *; (subst f2)
    generalize val 3 = z3 at *; (subst f3)
    generalize val 4 = z4 at *; clear f4
    generalize val 5 = z5 at *; clear f5
    generalize val 6 = z6 at *; clear f6
    generalize val 7 = z7 at *; clear f7
    generalize val 8 = z8 at *; clear f8
    generalize val 9 = z9 at *; clear f9
    generalize val 10 = z10 at *; (subst f10)
    generalize val 11 = z11 at *; (subst f11)
    generalize val 12 = z12 at *; clear f12
    generalize val 13 = z13 at *; clear f13
    generalize val 14 = z14 at *; clear f14
    generalize val 15 = z15 at *; clear f15
    generalize val 16 = z16 at *; clear f16
    generalize val 17 = z17 at *; clear f17
    generalize val 18 = z18 at *; clear f18
    generalize val 19 = z19 at *; (subst f19)
    generalize val 20 = z20 at *; (subst f20)
    generalize val 21 = z21 at *; clear f21
    generalize val 22 = z22 at *; clear f22
    generalize val 23 = z23 at *; clear f23
    generalize val 24 = z24 at *; clear f24
    generalize val 25 = z25 at *; clear f25
    generalize val 26 = z26 at *; clear f26
    generalize val 27 = z27 at *; clear f27
    generalize val 28 = z28 at *; clear f28
    generalize val 29 = z29 at *; clear f29
    generalize val 30 = z30 at *; clear f30
    generalize val 31 = z31 at *; clear f31
    generalize val 32 = z32 at *; (subst f32)
    generalize val 33 = z33 at *; (subst f33)
    clear HVD
    go_wp2_with fail
    go_ret
    exact ⟨ret_b (by simp), HB.out.trans (hG.mono (by rw [← hg]; exact HB.out.size))⟩
  · rw [hb3] at C3
    obtain ⟨k0, k1⟩ := (withinB_iff _ _ _).1 hb3
    clear hb3
    obtain ⟨k, hk⟩ : ∃ k : Nat, s.slt = (k : Int) := ⟨s.slt.toNat, by omega⟩
    have hkn : k < l.length := by omega
    obtain ⟨p, hp⟩ : ∃ p, l[k]? = some p := ⟨_, List.getElem?_eq_getElem hkn⟩
    have hpt := rightS_ticked hR p (List.mem_of_getElem? hp)
    have eg : l.getD s.slt.toNat (0, 0) = p := by rw [hk]; simp [hp]
    rw [eg]
    clear eg
    obtain ⟨ad, rfl, hadb, hcc⟩ := hS0 (by omega)
    have hpc := hcc k p hp
    have et : IntKind.i64.wrap (p.2 - 1) = p.2 - 1 := IntWalk.i64_in _ (by omega)
    have C4 := Lib.hid (fun W' => turned (within_any 0 (p.2 - 1) s.tck W'))
    generalize withinB 0 (p.2 - 1) s.tck = B4 at *
    have HPC := Lib.hid hpc
    have HADB := Lib.hid hadb
    clear hcc hpc hadb hp hpt hS0 hR
    obtain ⟨a1, a2, a3, a4⟩ := s
    obtain ⟨p1, p2⟩ := p
    simp only at *
    subst hk
    have HP := Lib.hid hP; clear hP
    have HZ := Lib.hid hZ; clear hZ
    generalize l.length = n at *
    have hkI : (k : Int) < (n : Int) := by omega
    generalize hg : w.heap.size = b at *
    go_enter Try.func37, Try.ntmps37
    go_wp2_with fail
    clear hW
    have HV : ∃ Vp : Nat → (Nat → Value) → World → Prop, Vp = (fun ix u wv => match ix with
      | 0 => u 0 = .pointer (some ⟨b + 1, 0, none⟩)
      | 1 => u 1 = .int .i64 a1
      | 2 => u 2 = .bool B1
      | 3 => u 3 = .bool B1
      | 4 => u 4 = if B1 = true then .pointer (some ⟨b, 1, none⟩) else undef
      | 5 => u 5 = if B1 = true then .int .i64 c else undef
      | 6 => u 6 = if B1 = true then .int .i64 (c - 1) else undef
      | 7 => u 7 = if B1 = true then .pointer (some ⟨b + 1, 1, none⟩) else undef
      | 8 => u 8 = if B1 = true then .int .i64 a2 else undef
      | 9 => u 9 = if B1 = true then .bool B2 else undef
      | 10 => u 10 = .bool (B1 && B2)
      | 11 => u 11 = .bool (B1 && B2)
      | 12 => u 12 = if (B1 && B2) = true then .pointer (some ⟨b, 0, none⟩) else undef
      | 13 => u 13 = if (B1 && B2) = true then .slice (some ad) n cp else undef
      | 14 => u 14 = if (B1 && B2) = true then .int .i64 (n : Int) else undef
      | 15 => u 15 = if (B1 && B2) = true then .int .i64 ((n : Int) - 1) else undef
      | 16 => u 16 = if (B1 && B2) = true then .pointer (some ⟨b + 1, 2, none⟩) else undef
      | 17 => u 17 = if (B1 && B2) = true then .int .i64 (k : Int) else undef
      | 18 => u 18 = if (B1 && B2) = true then .bool true else undef
      | 19 => u 19 = .bool (B1 && B2)
      | 20 => u 20 = .bool (B1 && B2)
      | 21 => u 21 = if (B1 && B2) = true then .pointer (some ⟨b, 0, none⟩) else undef
      | 22 => u 22 = if (B1 && B2) = true then .slice (some ad) n cp else undef
      | 23 => u 23 = if (B1 && B2) = true then .pointer (some ⟨b + 1, 2, none⟩) else undef
      | 24 => u 24 = if (B1 && B2) = true then .int .i64 (k : Int) else undef
      | 25 => u 25 = if (B1 && B2) = true then .pointer (some (ad.add (k * 2))) else undef
      | 26 => u 26 = if (B1 && B2) = true then .pointer (some ⟨((ad.add (k * 2))).block, ((ad.add (k * 2))).off + 1, none⟩) else undef
      | 27 => u 27 = if (B1 && B2) = true then .int .i64 p2 else undef
      | 28 => u 28 = if (B1 && B2) = true then .int .i64 (p2 - 1) else undef
      | 29 => u 29 = if (B1 && B2) = true then .pointer (some ⟨b + 1, 3, none⟩) else undef
      | 30 => u 30 = if (B1 && B2) = true then .int .i64 a4 else undef
      | 31 => u 31 = if (B1 && B2) = true then .bool B4 else undef
      | 32 => u 32 = .bool ((B1 && B2) && B4)
      | 33 => u 33 = .bool ((B1 && B2) && B4)
      | _ => True) := ⟨_, rfl⟩
    obtain ⟨Vp, hVdef⟩ := HV
    have Vp0 : ∀ u wv, Vp 0 u wv = (u 0 = .pointer (some ⟨b + 1, 0, none⟩)) := fun u wv => by subst hVdef; rfl
    have Vp1 : ∀ u wv, Vp 1 u wv = (u 1 = .int .i64 a1) := fun u wv => by subst hVdef; rfl
    have Vp2 : ∀ u wv, Vp 2 u wv = (u 2 = .bool B1) := fun u wv => by subst hVdef; rfl
    have Vp3 : ∀ u wv, Vp 3 u wv = (u 3 = .bool B1) := fun u wv => by subst hVdef; rfl
    have Vp4 : ∀ u wv, Vp 4 u wv = (u 4 = if B1 = true then .pointer (some ⟨b, 1, none⟩) else undef) := fun u wv => by subst hVdef; rfl
    have Vp5 : ∀ u wv, Vp 5 u wv = (u 5 = if B1 = true then .int .i64 c else undef) := fun u wv => by subst hVdef; rfl
    have Vp6 : ∀ u wv, Vp 6 u wv = (u 6 = if B1 = true then .int .i64 (c - 1) else undef) := fun u wv => by subst hVdef; rfl
    have Vp7 : ∀ u wv, Vp 7 u wv = (u 7 = if B1 = true then .pointer (some ⟨b + 1, 1, none⟩) else undef) := fun u wv => by subst hVdef; rfl
    have Vp8 : ∀ u wv, Vp 8 u wv = (u 8 = if B1 = true then .int .i64 a2 else undef) := fun u wv => by subst hVdef; rfl
    have Vp9 : ∀ u wv, Vp 9 u wv = (u 9 = if B1 = true then .bool B2 else undef) := fun u wv => by subst hVdef; rfl
    have Vp10 : ∀ u wv, Vp 10 u wv = (u 10 = .bool (B1 && B2)) := fun u wv => by subst hVdef; rfl
    have Vp11 : ∀ u wv, Vp 11 u wv = (u 11 = .bool (B1 && B2)) := fun u wv => by subst hVdef; rfl
    have Vp12 : ∀ u wv, Vp 12 u wv = (u 12 = if (B1 && B2) = true then .pointer (some ⟨b, 0, none⟩) else undef) := fun u wv => by subst hVdef; rfl
    have Vp13 : ∀ u wv, Vp 13 u wv = (u 13 = if (B1 && B2) = true then .slice (some ad) n cp else undef) := fun u wv => by subst hVdef; rfl
    have Vp14 : ∀ u wv, Vp 14 u wv = (u 14 = if (B1 && B2) = true then .int .i64 (n : Int) else undef) := fun u wv => by subst hVdef; rfl
    have Vp15 : ∀ u wv, Vp 15 u wv = (u 15 = if (B1 && B2) = true then .int .i64 ((n : Int) - 1) else undef) := fun u wv => by subst hVdef; rfl
    have Vp16 : ∀ u wv, Vp 16 u wv = (u 16 = if (B1 && B2) = true then .pointer (some ⟨b + 1, 2, none⟩) else undef) := fun u wv => by subst hVdef; rfl
    have Vp17 : ∀ u wv, Vp 17 u wv = (u 17 = if (B1 && B2) = true then .int .i64 (k : Int) else undef) := fun u wv => by subst hVdef; rfl
    have Vp18 : ∀ u wv, Vp 18 u wv = (u 18 = if (B1 && B2) = true then .bool true else undef) := fun u wv => by subst hVdef; rfl
    have Vp19 : ∀ u wv, Vp 19 u wv = (u 19 = .bool (B1 && B2)) := fun u wv => by subst hVdef; rfl
    have Vp20 : ∀ u wv, Vp 20 u wv = (u 20 = .bool (B1 && B2)) := fun u wv => by subst hVdef; rfl
    have Vp21 : ∀ u wv, Vp 21 u wv = (u 21 = if (B1 && B2) = true then .pointer (some ⟨b, 0, none⟩) else undef) := fun u wv => by subst hVdef; rfl
    have Vp22 : ∀ u wv, Vp 22 u wv = (u 22 = if (B1 && B2) = true then .slice (some ad) n cp else undef) := fun u wv => by subst hVdef; rfl
    have Vp23 : ∀ u wv, Vp 23 u wv = (u 23 = if (B1 && B2) = true then .pointer (some ⟨b + 1, 2, none⟩) else undef) := fun u wv => by subst hVdef; rfl
    have Vp24 : ∀ u wv, Vp 24 u wv = (u 24 = if (B1 && B2) = true then .int .i64 (k : Int) else undef) := fun u wv => by subst hVdef; rfl
    have Vp25 : ∀ u wv, Vp 25 u wv = (u 25 = if (B1 && B2) = true then .pointer (some (ad.add (k * 2))) else undef) := fun u wv => by subst hVdef; rfl
    have Vp26 : ∀ u wv, Vp 26 u wv = (u 26 = if (B1 && B2) = true then .pointer (some ⟨((ad.add (k * 2))).block, ((ad.add (k * 2))).off + 1, none⟩) else undef) := fun u wv => by subst hVdef; rfl
    have Vp27 : ∀ u wv, Vp 27 u wv = (u 27 = if (B1 && B2) = true then .int .i64 p2 else undef) := fun u wv => by subst hVdef; rfl
    have Vp28 : ∀ u wv, Vp 28 u wv = (u 28 = if (B1 && B2) = true then .int .i64 (p2 - 1) else undef) := fun u wv => by subst hVdef; rfl
    have Vp29 : ∀ u wv, Vp 29 u wv = (u 29 = if (B1 && B2) = true then .pointer (some ⟨b + 1, 3, none⟩) else undef) := fun u wv => by subst hVdef; rfl
    have Vp30 : ∀ u wv, Vp 30 u wv = (u 30 = if (B1 && B2) = true then .int .i64 a4 else undef) := fun u wv => by subst hVdef; rfl
    have Vp31 : ∀ u wv, Vp 31 u wv = (u 31 = if (B1 && B2) = true then .bool B4 else undef) := fun u wv => by subst hVdef; rfl
    have Vp32 : ∀ u wv, Vp 32 u wv = (u 32 = .bool ((B1 && B2) && B4)) := fun u wv => by subst hVdef; rfl
    have Vp33 : ∀ u wv, Vp 33 u wv = (u 33 = .bool ((B1 && B2) && B4)) := fun u wv => by subst hVdef; rfl
    have HVD := Lib.hid hVdef
    clear hVdef
    refine region_each (V := Vp) (drop := fun _ _ => false) (G := fun wv => Below W.heap.size W wv) (Rel := fun jx wv wv' => Below wv.heap.size wv wv') (by kernel_rfl) (by kernel_rfl) (Below.refl _ _).drew ?hmonoc2 ?hdepc2 ⟨?s0_c2, ?s1_c2, ?s2_c2, ?s3_c2, ?s4_c2, ?s5_c2, ?s6_c2, ?s7_c2, ?s8_c2, ?s9_c2, ?s10_c2, ?s11_c2, ?s12_c2, ?s13_c2, ?s14_c2, ?s15_c2, ?s16_c2, ?s17_c2, ?s18_c2, ?s19_c2, ?s20_c2, ?s21_c2, ?s22_c2, ?s23_c2, ?s24_c2, ?s25_c2, ?s26_c2, ?s27_c2, ?s28_c2, ?s29_c2, ?s30_c2, ?s31_c2, ?s32_c2, ?s33_c2, trivial⟩ ?behindc2
    case hmonoc2 =>
      intro ix jx u wv wv' hij hw hd hr
      rw [HVD.out]
      dsimp only
      split <;> intro h <;> first | exact trivial | exact h
    case hdepc2 =>
      intro ix u u' wv h1 h2
      rw [HVD.out]
      dsimp only
      split <;> intro h <;> first | exact trivial | (rw [← h1]; exact h)
    case s0_c2 =>
      refine owe rfl fun a wx val hG hV hN hO K hK => ?_
      have e3 : a.tmps[3]? = some (.pointer (some ⟨b + 1, 0, none⟩)) := (hO 3 (by kernel_rfl)).trans (by rfl)
      clear hV hN hO
      go_simp
      exact hK.out _ _ (by rw [Vp0, upd_at] <;> (congr 1 <;> omega)) (Below.refl _ _) hG
    case s1_c2 =>
      refine owe rfl fun a wx val hG hV hN hO K hK => ?_
      have e5 := hN 0 5 (by kernel_rfl) (by kernel_rfl) (by simp)
      have f5 := hV 0 (by kernel_rfl) (by kernel_rfl)
      rw [Vp0] at f5; rw [f5] at e5; clear f5
      clear hV hN hO
      obtain ⟨y0, y1⟩ := (HP.out.on hG).cells; obtain ⟨z0, z1, z2, z3⟩ := (HZ.out.on hG).cells; obtain ⟨q0, q1⟩ := HPC.out.keep (w' := wx) (fun q hq => hG.cell (by rw [hq, adb]; exact HADB.out))
      go_simp
      exact hK.out _ _ (by rw [Vp1, upd_at] <;> (congr 1 <;> omega)) (Below.refl _ _) hG
    case s2_c2 =>
      refine owe rfl fun a wx val hG hV hN hO K hK => ?_
      have e6 := hN 1 6 (by kernel_rfl) (by kernel_rfl) (by simp)
      have f6 := hV 1 (by kernel_rfl) (by kernel_rfl)
      rw [Vp1] at f6; rw [f6] at e6; clear f6
      clear hV hN hO
      go_simp
      refine (C1.out _).mono ?_
      rintro e w11 ⟨rfl, rfl⟩
      exact hK.out _ _ (by rw [Vp2, upd_at]) (Below.refl _ _) hG
    case s3_c2 =>
      refine owe rfl fun a wx val hG hV hN hO K hK => ?_
      have e7 := hN 2 7 (by kernel_rfl) (by kernel_rfl) (by simp)
      have f7 := hV 2 (by kernel_rfl) (by kernel_rfl)
      rw [Vp2] at f7; rw [f7] at e7; clear f7
      clear hV hN hO
      go_simp
      exact hK.out _ _ (by rw [Vp3, upd_at] <;> (congr 1 <;> omega)) (Below.refl _ _) hG
    case s4_c2 =>
      refine owe_cond (g := 3) (t := 8) (b := true) (c := B1) (d := true) B1 (by first | rfl | simp) rfl (by kernel_rfl) (by kernel_rfl) (by kernel_rfl) (by simp) (fun val w h => by rw [Vp3] at h; first | exact h | simpa using h) (fun hd a wx val hG hV hN hO K hK => ?_) (fun hd val w => by rw [Vp4, upd_at, if_neg (by rw [hd]; decide)])
      have e2 : a.tmps[2]? = some (.pointer (some ⟨b, 0, none⟩)) := (hO 2 (by kernel_rfl)).trans (by rfl)
      clear hV hN hO
      go_simp
      exact hK.out _ _ (by rw [Vp4, upd_at, if_pos hd] <;> (congr 1 <;> omega)) (Below.refl _ _) hG
    case s5_c2 =>
      refine owe_cond (g := 3) (t := 8) (b := true) (c := B1) (d := true) B1 (by first | rfl | simp) rfl (by kernel_rfl) (by kernel_rfl) (by kernel_rfl) (by simp) (fun val w h => by rw [Vp3] at h; first | exact h | simpa using h) (fun hd a wx val hG hV hN hO K hK => ?_) (fun hd val w => by rw [Vp5, upd_at, if_neg (by rw [hd]; decide)])
      have e9 := hN 4 9 (by kernel_rfl) (by kernel_rfl) (by simp)
      have f9 := hV 4 (by kernel_rfl) (by kernel_rfl)
      rw [Vp4] at f9; rw [f9] at e9; clear f9
      rw [if_pos hd] at e9
      clear hV hN hO
      obtain ⟨y0, y1⟩ := (HP.out.on hG).cells; obtain ⟨z0, z1, z2, z3⟩ := (HZ.out.on hG).cells; obtain ⟨q0, q1⟩ := HPC.out.keep (w' := wx) (fun q hq => hG.cell (by rw [hq, adb]; exact HADB.out))
      go_simp
      exact hK.out _ _ (by rw [Vp5, upd_at, if_pos hd] <;> (congr 1 <;> omega)) (Below.refl _ _) hG
    case s6_c2 =>
      refine owe_cond (g := 3) (t := 8) (b := true) (c := B1) (d := true) B1 (by first | rfl | simp) rfl (by kernel_rfl) (by kernel_rfl) (by kernel_rfl) (by simp) (fun val w h => by rw [Vp3] at h; first | exact h | simpa using h) (fun hd a wx val hG hV hN hO K hK => ?_) (fun hd val w => by rw [Vp6, upd_at, if_neg (by rw [hd]; decide)])
      have e10 := hN 5 10 (by kernel_rfl) (by kernel_rfl) (by simp)
      have f10 := hV 5 (by kernel_rfl) (by kernel_rfl)
      rw [Vp5] at f10; rw [f10] at e10; clear f10
      rw [if_pos hd] at e10
      clear hV hN hO
      go_simp
      exact hK.out _ _ (by rw [Vp6, upd_at, if_pos hd] <;> (congr 1 <;> omega)) (Below.refl _ _) hG
    case s7_c2 =>
      refine owe_cond (g := 3) (t := 8) (b := true) (c := B1) (d := true) B1 (by first | rfl | simp) rfl (by kernel_rfl) (by kernel_rfl) (by kernel_rfl) (by simp) (fun val w h => by rw [Vp3] at h; first | exact h | simpa using h) (fun hd a wx val hG hV hN hO K hK => ?_) (fun hd val w => by rw [Vp7, upd_at, if_neg (by rw [hd]; decide)])
      have e3 : a.tmps[3]? = some (.pointer (some ⟨b + 1, 0, none⟩)) := (hO 3 (by kernel_rfl)).trans (by rfl)
      clear hV hN hO
      go_simp
      exact hK.out _ _ (by rw [Vp7, upd_at, if_pos hd] <;> (congr 1 <;> omega)) (Below.refl _ _) hG
    case s8_c2 =>
      refine owe_cond (g := 3) (t := 8) (b := true) (c := B1) (d := true) B1 (by first | rfl | simp) rfl (by kernel_rfl) (by kernel_rfl) (by kernel_rfl) (by simp) (fun val w h => by rw [Vp3] at h; first | exact h | simpa using h) (fun hd a wx val hG hV hN hO K hK => ?_) (fun hd val w => by rw [Vp8, upd_at, if_neg (by rw [hd]; decide)])
      have e12 := hN 7 12 (by kernel_rfl) (by kernel_rfl) (by simp)
      have f12 := hV 7 (by kernel_rfl) (by kernel_rfl)
      rw [Vp7] at f12; rw [f12] at e12; clear f12
      rw [if_pos hd] at e12
      clear hV hN hO
      obtain ⟨y0, y1⟩ := (HP.out.on hG).cells; obtain ⟨z0, z1, z2, z3⟩ := (HZ.out.on hG).cells; obtain ⟨q0, q1⟩ := HPC.out.keep (w' := wx) (fun q hq => hG.cell (by rw [hq, adb]; exact HADB.out))
      go_simp
      exact hK.out _ _ (by rw [Vp8, upd_at, if_pos hd] <;> (congr 1 <;> omega)) (Below.refl _ _) hG
    case s9_c2 =>
      refine owe_cond (g := 3) (t := 8) (b := true) (c := B1) (d := true) B1 (by first | rfl | simp) rfl (by kernel_rfl) (by kernel_rfl) (by kernel_rfl) (by simp) (fun val w h => by rw [Vp3] at h; first | exact h | simpa using h) (fun hd a wx val hG hV hN hO K hK => ?_) (fun hd val w => by rw [Vp9, upd_at, if_neg (by rw [hd]; decide)])
      have e11 := hN 6 11 (by kernel_rfl) (by kernel_rfl) (by simp)
      have f11 := hV 6 (by kernel_rfl) (by kernel_rfl)
      rw [Vp6] at f11; rw [f11] at e11; clear f11
      rw [if_pos hd] at e11
      have e13 := hN 8 13 (by kernel_rfl) (by kernel_rfl) (by simp)
      have f13 := hV 8 (by kernel_rfl) (by kernel_rfl)
      rw [Vp8] at f13; rw [f13] at e13; clear f13
      rw [if_pos hd] at e13
      clear hV hN hO
      go_simp
      refine (C2.out _).mono ?_
      rintro e w11 ⟨rfl, rfl⟩
      exact hK.out _ _ (by rw [Vp9, upd_at, if_pos hd]) (Below.refl _ _) hG
    case s10_c2 =>
      refine owe rfl fun a wx val hG hV hN hO K hK => ?_
      have e8 := hN 3 8 (by kernel_rfl) (by kernel_rfl) (by simp)
      have f8 := hV 3 (by kernel_rfl) (by kernel_rfl)
      rw [Vp3] at f8; rw [f8] at e8; clear f8
      have e14 := hN 9 14 (by kernel_rfl) (by kernel_rfl) (by simp)
      have f14 := hV 9 (by kernel_rfl) (by kernel_rfl)
      rw [Vp9] at f14; rw [f14] at e14; clear f14
      clear hV hN hO
      cases hcc : B1
      · rw [hcc] at e8
        rw [if_neg (by first | (rw [hcc]; decide) | simp [hcc])] at e14
        go_simp
        exact hK.out _ _ (by rw [Vp10, upd_at] <;> simp [hcc]) (Below.refl _ _) hG
      · rw [hcc] at e8
        rw [if_pos (by first | exact hcc | (rw [hcc]; rfl) | simp [hcc])] at e14
        go_simp
        exact hK.out _ _ (by rw [Vp10, upd_at] <;> simp [hcc]) (Below.refl _ _) hG
    case s11_c2 =>
      refine owe rfl fun a wx val hG hV hN hO K hK => ?_
      have e15 := hN 10 15 (by kernel_rfl) (by kernel_rfl) (by simp)
      have f15 := hV 10 (by kernel_rfl) (by kernel_rfl)
      rw [Vp10] at f15; rw [f15] at e15; clear f15
      clear hV hN hO
      go_simp
      exact hK.out _ _ (by rw [Vp11, upd_at] <;> (congr 1 <;> omega)) (Below.refl _ _) hG
    case s12_c2 =>
      refine owe_cond (g := 11) (t := 16) (b := true) (c := (B1 && B2)) (d := true) ((B1 && B2)) (by first | rfl | simp) rfl (by kernel_rfl) (by kernel_rfl) (by kernel_rfl) (by simp) (fun val w h => by rw [Vp11] at h; first | exact h | simpa using h) (fun hd a wx val hG hV hN hO K hK => ?_) (fun hd val w => by rw [Vp12, upd_at, if_neg (by rw [hd]; decide)])
      have e2 : a.tmps[2]? = some (.pointer (some ⟨b, 0, none⟩)) := (hO 2 (by kernel_rfl)).trans (by rfl)
      clear hV hN hO
      go_simp
      exact hK.out _ _ (by rw [Vp12, upd_at, if_pos hd] <;> (congr 1 <;> omega)) (Below.refl _ _) hG
    case s13_c2 =>
      refine owe_cond (g := 11) (t := 16) (b := true) (c := (B1 && B2)) (d := true) ((B1 && B2)) (by first | rfl | simp) rfl (by kernel_rfl) (by kernel_rfl) (by kernel_rfl) (by simp) (fun val w h => by rw [Vp11] at h; first | exact h | simpa using h) (fun hd a wx val hG hV hN hO K hK => ?_) (fun hd val w => by rw [Vp13, upd_at, if_neg (by rw [hd]; decide)])
      have e17 := hN 12 17 (by kernel_rfl) (by kernel_rfl) (by simp)
      have f17 := hV 12 (by kernel_rfl) (by kernel_rfl)
      rw [Vp12] at f17; rw [f17] at e17; clear f17
      rw [if_pos hd] at e17
      clear hV hN hO
      obtain ⟨y0, y1⟩ := (HP.out.on hG).cells; obtain ⟨z0, z1, z2, z3⟩ := (HZ.out.on hG).cells; obtain ⟨q0, q1⟩ := HPC.out.keep (w' := wx) (fun q hq => hG.cell (by rw [hq, adb]; exact HADB.out))
      go_simp
      exact hK.out _ _ (by rw [Vp13, upd_at, if_pos hd] <;> (congr 1 <;> omega)) (Below.refl _ _) hG
    case s14_c2 =>
      refine owe_cond (g := 11) (t := 16) (b := true) (c := (B1 && B2)) (d := true) ((B1 && B2)) (by first | rfl | simp) rfl (by kernel_rfl) (by kernel_rfl) (by kernel_rfl) (by simp) (fun val w h => by rw [Vp11] at h; first | exact h | simpa using h) (fun hd a wx val hG hV hN hO K hK => ?_) (fun hd val w => by rw [Vp14, upd_at, if_neg (by rw [hd]; decide)])
      have e18 := hN 13 18 (by kernel_rfl) (by kernel_rfl) (by simp)
      have f18 := hV 13 (by kernel_rfl) (by kernel_rfl)
      rw [Vp13] at f18; rw [f18] at e18; clear f18
      rw [if_pos hd] at e18
      clear hV hN hO
      go_simp
      exact hK.out _ _ (by rw [Vp14, upd_at, if_pos hd] <;> (congr 1 <;> omega)) (Below.refl _ _) hG
    case s15_c2 =>
      refine owe_cond (g := 11) (t := 16) (b := true) (c := (B1 && B2)) (d := true) ((B1 && B2)) (by first | rfl | simp) rfl (by kernel_rfl) (by kernel_rfl) (by kernel_rfl) (by simp) (fun val w h => by rw [Vp11] at h; first | exact h | simpa using h) (fun hd a wx val hG hV hN hO K hK => ?_) (fun hd val w => by rw [Vp15, upd_at, if_neg (by rw [hd]; decide)])
      have e19 := hN 14 19 (by kernel_rfl) (by kernel_rfl) (by simp)
      have f19 := hV 14 (by kernel_rfl) (by kernel_rfl)
      rw [Vp14] at f19; rw [f19] at e19; clear f19
      rw [if_pos hd] at e19
      clear hV hN hO
      go_simp
      exact hK.out _ _ (by rw [Vp15, upd_at, if_pos hd] <;> (congr 1 <;> omega)) (Below.refl _ _) hG
    case s16_c2 =>
      refine owe_cond (g := 11) (t := 16) (b := true) (c := (B1 && B2)) (d := true) ((B1 && B2)) (by first | rfl | simp) rfl (by kernel_rfl) (by kernel_rfl) (by kernel_rfl) (by simp) (fun val w h => by rw [Vp11] at h; first | exact h | simpa using h) (fun hd a wx val hG hV hN hO K hK => ?_) (fun hd val w => by rw [Vp16, upd_at, if_neg (by rw [hd]; decide)])
      have e3 : a.tmps[3]? = some (.pointer (some ⟨b + 1, 0, none⟩)) := (hO 3 (by kernel_rfl)).trans (by rfl)
      clear hV hN hO
      go_simp
      exact hK.out _ _ (by rw [Vp16, upd_at, if_pos hd] <;> (congr 1 <;> omega)) (Below.refl _ _) hG
    case s17_c2 =>
      refine owe_cond (g := 11) (t := 16) (b := true) (c := (B1 && B2)) (d := true) ((B1 && B2)) (by first | rfl | simp) rfl (by kernel_rfl) (by kernel_rfl) (by kernel_rfl) (by simp) (fun val w h => by rw [Vp11] at h; first | exact h | simpa using h) (fun hd a wx val hG hV hN hO K hK => ?_) (fun hd val w => by rw [Vp17, upd_at, if_neg (by rw [hd]; decide)])
      have e21 := hN 16 21 (by kernel_rfl) (by kernel_rfl) (by simp)
      have f21 := hV 16 (by kernel_rfl) (by kernel_rfl)
      rw [Vp16] at f21; rw [f21] at e21; clear f21
      rw [if_pos hd] at e21
      clear hV hN hO
      obtain ⟨y0, y1⟩ := (HP.out.on hG).cells; obtain ⟨z0, z1, z2, z3⟩ := (HZ.out.on hG).cells; obtain ⟨q0, q1⟩ := HPC.out.keep (w' := wx) (fun q hq => hG.cell (by rw [hq, adb]; exact HADB.out))
      go_simp
      exact hK.out _ _ (by rw [Vp17, upd_at, if_pos hd] <;> (congr 1 <;> omega)) (Below.refl _ _) hG
    case s18_c2 =>
      refine owe_cond (g := 11) (t := 16) (b := true) (c := (B1 && B2)) (d := true) ((B1 && B2)) (by first | rfl | simp) rfl (by kernel_rfl) (by kernel_rfl) (by kernel_rfl) (by simp) (fun val w h => by rw [Vp11] at h; first | exact h | simpa using h) (fun hd a wx val hG hV hN hO K hK => ?_) (fun hd val w => by rw [Vp18, upd_at, if_neg (by rw [hd]; decide)])
      have e20 := hN 15 20 (by kernel_rfl) (by kernel_rfl) (by simp)
      have f20 := hV 15 (by kernel_rfl) (by kernel_rfl)
      rw [Vp15] at f20; rw [f20] at e20; clear f20
      rw [if_pos hd] at e20
      have e22 := hN 17 22 (by kernel_rfl) (by kernel_rfl) (by simp)
      have f22 := hV 17 (by kernel_rfl) (by kernel_rfl)
      rw [Vp17] at f22; rw [f22] at e22; clear f22
      rw [if_pos hd] at e22
      clear hV hN hO
      go_simp
      refine (C3.out _).mono ?_
      rintro e w11 ⟨rfl, rfl⟩
      exact hK.out _ _ (by rw [Vp18, upd_at, if_pos hd]) (Below.refl _ _) hG
    case s19_c2 =>
      refine owe rfl fun a wx val hG hV hN hO K hK => ?_
      have e16 := hN 11 16 (by kernel_rfl) (by kernel_rfl) (by simp)
      have f16 := hV 11 (by kernel_rfl) (by kernel_rfl)
      rw [Vp11] at f16; rw [f16] at e16; clear f16
      have e23 := hN 18 23 (by kernel_rfl) (by kernel_rfl) (by simp)
      have f23 := hV 18 (by kernel_rfl) (by kernel_rfl)
      rw [Vp18] at f23; rw [f23] at e23; clear f23
      clear hV hN hO
      cases hcc : ((B1 && B2))
      · rw [hcc] at e16
        rw [if_neg (by first | (rw [hcc]; decide) | simp [hcc])] at e23
        go_simp
        exact hK.out _ _ (by rw [Vp19, upd_at] <;> simp [hcc]) (Below.refl _ _) hG
      · rw [hcc] at e16
        rw [if_pos (by first | exact hcc | (rw [hcc]; rfl) | simp [hcc])] at e23
        go_simp
        exact hK.out _ _ (by rw [Vp19, upd_at] <;> simp [hcc]) (Below.refl _ _) hG
    case s20_c2 =>
      refine owe rfl fun a wx val hG hV hN hO K hK => ?_
      have e24 := hN 19 24 (by kernel_rfl) (by kernel_rfl) (by simp)
      have f24 := hV 19 (by kernel_rfl) (by kernel_rfl)
      rw [Vp19] at f24; rw [f24] at e24; clear f24
      clear hV hN hO
      go_simp
      exact hK.out _ _ (by rw [Vp20, upd_at] <;> (congr 1 <;> omega)) (Below.refl _ _) hG
    case s21_c2 =>
      refine owe_cond (g := 20) (t := 25) (b := true) (c := (B1 && B2)) (d := true) ((B1 && B2)) (by first | rfl | simp) rfl (by kernel_rfl) (by kernel_rfl) (by kernel_rfl) (by simp) (fun val w h => by rw [Vp20] at h; first | exact h | simpa using h) (fun hd a wx val hG hV hN hO K hK => ?_) (fun hd val w => by rw [Vp21, upd_at, if_neg (by rw [hd]; decide)])
      have e2 : a.tmps[2]? = some (.pointer (some ⟨b, 0, none⟩)) := (hO 2 (by kernel_rfl)).trans (by rfl)
      clear hV hN hO
      go_simp
      exact hK.out _ _ (by rw [Vp21, upd_at, if_pos hd] <;> (congr 1 <;> omega)) (Below.refl _ _) hG
    case s22_c2 =>
      refine owe_cond (g := 20) (t := 25) (b := true) (c := (B1 && B2)) (d := true) ((B1 && B2)) (by first | rfl | simp) rfl (by kernel_rfl) (by kernel_rfl) (by kernel_rfl) (by simp) (fun val w h => by rw [Vp20] at h; first | exact h | simpa using h) (fun hd a wx val hG hV hN hO K hK => ?_) (fun hd val w => by rw [Vp22, upd_at, if_neg (by rw [hd]; decide)])
      have e26 := hN 21 26 (by kernel_rfl) (by kernel_rfl) (by simp)
      have f26 := hV 21 (by kernel_rfl) (by kernel_rfl)
      rw [Vp21] at f26; rw [f26] at e26; clear f26
      rw [if_pos hd] at e26
      clear hV hN hO
      obtain ⟨y0, y1⟩ := (HP.out.on hG).cells; obtain ⟨z0, z1, z2, z3⟩ := (HZ.out.on hG).cells; obtain ⟨q0, q1⟩ := HPC.out.keep (w' := wx) (fun q hq => hG.cell (by rw [hq, adb]; exact HADB.out))
      go_simp
      exact hK.out _ _ (by rw [Vp22, upd_at, if_pos hd] <;> (congr 1 <;> omega)) (Below.refl _ _) hG
    case s23_c2 =>
      refine owe_cond (g := 20) (t := 25) (b := true) (c := (B1 && B2)) (d := true) ((B1 && B2)) (by first | rfl | simp) rfl (by kernel_rfl) (by kernel_rfl) (by kernel_rfl) (by simp) (fun val w h => by rw [Vp20] at h; first | exact h | simpa using h) (fun hd a wx val hG hV hN hO K hK => ?_) (fun hd val w => by rw [Vp23, upd_at, if_neg (by rw [hd]; decide)])
      have e3 : a.tmps[3]? = some (.pointer (some ⟨b + 1, 0, none⟩)) := (hO 3 (by kernel_rfl)).trans (by rfl)
      clear hV hN hO
      go_simp
      exact hK.out _ _ (by rw [Vp23, upd_at, if_pos hd] <;> (congr 1 <;> omega)) (Below.refl _ _) hG
    case s24_c2 =>
      refine owe_cond (g := 20) (t := 25) (b := true) (c := (B1 && B2)) (d := true) ((B1 && B2)) (by first | rfl | simp) rfl (by kernel_rfl) (by kernel_rfl) (by kernel_rfl) (by simp) (fun val w h => by rw [Vp20] at h; first | exact h | simpa using h) (fun hd a wx val hG hV hN hO K hK => ?_) (fun hd val w => by rw [Vp24, upd_at, if_neg (by rw [hd]; decide)])
      have e28 := hN 23 28 (by kernel_rfl) (by kernel_rfl) (by simp)
      have f28 := hV 23 (by kernel_rfl) (by kernel_rfl)
      rw [Vp23] at f28; rw [f28] at e28; clear f28
      rw [if_pos hd] at e28
      clear hV hN hO
      obtain ⟨y0, y1⟩ := (HP.out.on hG).cells; obtain ⟨z0, z1, z2, z3⟩ := (HZ.out.on hG).cells; obtain ⟨q0, q1⟩ := HPC.out.keep (w' := wx) (fun q hq => hG.cell (by rw [hq, adb]; exact HADB.out))
      go_simp
      exact hK.out _ _ (by rw [Vp24, upd_at, if_pos hd] <;> (congr 1 <;> omega)) (Below.refl _ _) hG
    case s25_c2 =>
      refine owe_cond (g := 20) (t := 25) (b := true) (c := (B1 && B2)) (d := true) ((B1 && B2)) (by first | rfl | simp) rfl (by kernel_rfl) (by kernel_rfl) (by kernel_rfl) (by simp) (fun val w h => by rw [Vp20] at h; first | exact h | simpa using h) (fun hd a wx val hG hV hN hO K hK => ?_) (fun hd val w => by rw [Vp25, upd_at, if_neg (by rw [hd]; decide)])
      have e27 := hN 22 27 (by kernel_rfl) (by kernel_rfl) (by simp)
      have f27 := hV 22 (by kernel_rfl) (by kernel_rfl)
      rw [Vp22] at f27; rw [f27] at e27; clear f27
      rw [if_pos hd] at e27
      have e29 := hN 24 29 (by kernel_rfl) (by kernel_rfl) (by simp)
      have f29 := hV 24 (by kernel_rfl) (by kernel_rfl)
      rw [Vp24] at f29; rw [f29] at e29; clear f29
      rw [if_pos hd] at e29
      clear hV hN hO
      go_simp
      exact hK.out _ _ (by rw [Vp25, upd_at, if_pos hd] <;> (congr 1 <;> omega)) (Below.refl _ _) hG
    case s26_c2 =>
      refine owe_cond (g := 20) (t := 25) (b := true) (c := (B1 && B2)) (d := true) ((B1 && B2)) (by first | rfl | simp) rfl (by kernel_rfl) (by kernel_rfl) (by kernel_rfl) (by simp) (fun val w h => by rw [Vp20] at h; first | exact h | simpa using h) (fun hd a wx val hG hV hN hO K hK => ?_) (fun hd val w => by rw [Vp26, upd_at, if_neg (by rw [hd]; decide)])
      have e30 := hN 25 30 (by kernel_rfl) (by kernel_rfl) (by simp)
      have f30 := hV 25 (by kernel_rfl) (by kernel_rfl)
      rw [Vp25] at f30; rw [f30] at e30; clear f30
      rw [if_pos hd] at e30
      clear hV hN hO
      go_simp
      exact hK.out _ _ (by rw [Vp26, upd_at, if_pos hd] <;> (congr 1 <;> omega)) (Below.refl _ _) hG
    case s27_c2 =>
      refine owe_cond (g := 20) (t := 25) (b := true) (c := (B1 && B2)) (d := true) ((B1 && B2)) (by first | rfl | simp) rfl (by kernel_rfl) (by kernel_rfl) (by kernel_rfl) (by simp) (fun val w h => by rw [Vp20] at h; first | exact h | simpa using h) (fun hd a wx val hG hV hN hO K hK => ?_) (fun hd val w => by rw [Vp27, upd_at, if_neg (by rw [hd]; decide)])
      have e31 := hN 26 31 (by kernel_rfl) (by kernel_rfl) (by simp)
      have f31 := hV 26 (by kernel_rfl) (by kernel_rfl)
      rw [Vp26] at f31; rw [f31] at e31; clear f31
      rw [if_pos hd] at e31
      clear hV hN hO
      obtain ⟨y0, y1⟩ := (HP.out.on hG).cells; obtain ⟨z0, z1, z2, z3⟩ := (HZ.out.on hG).cells; obtain ⟨q0, q1⟩ := HPC.out.keep (w' := wx) (fun q hq => hG.cell (by rw [hq, adb]; exact HADB.out))
      go_simp
      exact hK.out _ _ (by rw [Vp27, upd_at, if_pos hd] <;> (congr 1 <;> omega)) (Below.refl _ _) hG
    case s28_c2 =>
      refine owe_cond (g := 20) (t := 25) (b := true) (c := (B1 && B2)) (d := true) ((B1 && B2)) (by first | rfl | simp) rfl (by kernel_rfl) (by kernel_rfl) (by kernel_rfl) (by simp) (fun val w h => by rw [Vp20] at h; first | exact h | simpa using h) (fun hd a wx val hG hV hN hO K hK => ?_) (fun hd val w => by rw [Vp28, upd_at, if_neg (by rw [hd]; decide)])
      have e32 := hN 27 32 (by kernel_rfl) (by kernel_rfl) (by simp)
      have f32 := hV 27 (by kernel_rfl) (by kernel_rfl)
      rw [Vp27] at f32; rw [f32] at e32; clear f32
      rw [if_pos hd] at e32
      clear hV hN hO
      go_simp
      exact hK.out _ _ (by rw [Vp28, upd_at, if_pos hd] <;> (congr 1 <;> omega)) (Below.refl _ _) hG
    case s29_c2 =>
      refine owe_cond (g := 20) (t := 25) (b := true) (c := (B1 && B2)) (d := true) ((B1 && B2)) (by first | rfl | simp) rfl (by kernel_rfl) (by kernel_rfl) (by kernel_rfl) (by simp) (fun val w h => by rw [Vp20] at h; first | exact h | simpa using h) (fun hd a wx val hG hV hN hO K hK => ?_) (fun hd val w => by rw [Vp29, upd_at, if_neg (by rw [hd]; decide)])
      have e3 : a.tmps[3]? = some (.pointer (some ⟨b + 1, 0, none⟩)) := (hO 3 (by kernel_rfl)).trans (by rfl)
      clear hV hN hO
      go_simp
      exact hK.out _ _ (by rw [Vp29, upd_at, if_pos hd] <;> (congr 1 <;> omega)) (Below.refl _ _) hG
    case s30_c2 =>
      refine owe_cond (g := 20) (t := 25) (b := true) (c := (B1 && B2)) (d := true) ((B1 && B2)) (by first | rfl | simp) rfl (by kernel_rfl) (by kernel_rfl) (by kernel_rfl) (by simp) (fun val w h => by rw [Vp20] at h; first | exact h | simpa using h) (fun hd a wx val hG hV hN hO K hK => ?_) (fun hd val w => by rw [Vp30, upd_at, if_neg (by rw [hd]; decide)])
      have e34 := hN 29 34 (by kernel_rfl) (by kernel_rfl) (by simp)
      have f34 := hV 29 (by kernel_rfl) (by kernel_rfl)
      rw [Vp29] at f34; rw [f34] at e34; clear f34
      rw [if_pos hd] at e34
      clear hV hN hO
      obtain ⟨y0, y1⟩ := (HP.out.on hG).cells; obtain ⟨z0, z1, z2, z3⟩ := (HZ.out.on hG).cells; obtain ⟨q0, q1⟩ := HPC.out.keep (w' := wx) (fun q hq => hG.cell (by rw [hq, adb]; exact HADB.out))
      go_simp
      exact hK.out _ _ (by rw [Vp30, upd_at, if_pos hd] <;> (congr 1 <;> omega)) (Below.refl _ _) hG
    case s31_c2 =>
      refine owe_cond (g := 20) (t := 25) (b := true) (c := (B1 && B2)) (d := true) ((B1 && B2)) (by first | rfl | simp) rfl (by kernel_rfl) (by kernel_rfl) (by kernel_rfl) (by simp) (fun val w h => by rw [Vp20] at h; first | exact h | simpa using h) (fun hd a wx val hG hV hN hO K hK => ?_) (fun hd val w => by rw [Vp31, upd_at, if_neg (by rw [hd]; decide)])
      have e33 := hN 28 33 (by kernel_rfl) (by kernel_rfl) (by simp)
      have f33 := hV 28 (by kernel_rfl) (by kernel_rfl)
      rw [Vp28] at f33; rw [f33] at e33; clear f33
      rw [if_pos hd] at e33
      have e35 := hN 30 35 (by kernel_rfl) (by kernel_rfl) (by simp)
      have f35 := hV 30 (by kernel_rfl) (by kernel_rfl)
      rw [Vp30] at f35; rw [f35] at e35; clear f35
      rw [if_pos hd] at e35
      clear hV hN hO
      go_simp
      refine (C4.out _).mono ?_
      rintro e w11 ⟨rfl, rfl⟩
      exact hK.out _ _ (by rw [Vp31, upd_at, if_pos hd]) (Below.refl _ _) hG
    case s32_c2 =>
      refine owe rfl fun a wx val hG hV hN hO K hK => ?_
      have e25 := hN 20 25 (by kernel_rfl) (by kernel_rfl) (by simp)
      have f25 := hV 20 (by kernel_rfl) (by kernel_rfl)
      rw [Vp20] at f25; rw [f25] at e25; clear f25
      have e36 := hN 31 36 (by kernel_rfl) (by kernel_rfl) (by simp)
      have f36 := hV 31 (by kernel_rfl) (by kernel_rfl)
      rw [Vp31] at f36; rw [f36] at e36; clear f36
      clear hV hN hO
      cases hcc : ((B1 && B2))
      · rw [hcc] at e25
        rw [if_neg (by first | (rw [hcc]; decide) | simp [hcc])] at e36
        go_simp
        exact hK.out _ _ (by rw [Vp32, upd_at] <;> simp [hcc]) (Below.refl _ _) hG
      · rw [hcc] at e25
        rw [if_pos (by first | exact hcc | (rw [hcc]; rfl) | simp [hcc])] at e36
        go_simp
        exact hK.out _ _ (by rw [Vp32, upd_at] <;> simp [hcc]) (Below.refl _ _) hG
    case s33_c2 =>
      refine owe rfl fun a wx val hG hV hN hO K hK => ?_
      have e37 := hN 32 37 (by kernel_rfl) (by kernel_rfl) (by simp)
      have f37 := hV 32 (by kernel_rfl) (by kernel_rfl)
      rw [Vp32] at f37; rw [f37] at e37; clear f37
      clear hV hN hO
      go_simp
      exact hK.out _ _ (by rw [Vp33, upd_at] <;> (congr 1 <;> omega)) (Below.refl _ _) hG
    intro val wx hG hV
    have f0 := hV 0 (by simp) (fun _ _ => by rfl)
    rw [Vp0] at f0
    have f1 := hV 1 (by simp) (fun _ _ => by rfl)
    rw [Vp1] at f1
    have f2 := hV 2 (by simp) (fun _ _ => by rfl)
    rw [Vp2] at f2
    have f3 := hV 3 (by simp) (fun _ _ => by rfl)
    rw [Vp3] at f3
    have f4 := hV 4 (by simp) (fun _ _ => by rfl)
    rw [Vp4] at f4
    have f5 := hV 5 (by simp) (fun _ _ => by rfl)
    rw [Vp5] at f5
    have f6 := hV 6 (by simp) (fun _ _ => by rfl)
    rw [Vp6] at f6
    have f7 := hV 7 (by simp) (fun _ _ => by rfl)
    rw [Vp7] at f7
    have f8 := hV 8 (by simp) (fun _ _ => by rfl)
    rw [Vp8] at f8
    have f9 := hV 9 (by simp) (fun _ _ => by rfl)
    rw [Vp9] at f9
    have f10 := hV 10 (by simp) (fun _ _ => by rfl)
    rw [Vp10] at f10
    have f11 := hV 11 (by simp) (fun _ _ => by rfl)
    rw [Vp11] at f11
    have f12 := hV 12 (by simp) (fun _ _ => by rfl)
    rw [Vp12] at f12
    have f13 := hV 13 (by simp) (fun _ _ => by rfl)
    rw [Vp13] at f13
    have f14 := hV 14 (by simp) (fun _ _ => by rfl)
    rw [Vp14] at f14
    have f15 := hV 15 (by simp) (fun _ _ => by rfl)
    rw [Vp15] at f15
    have f16 := hV 16 (by simp) (fun _ _ => by rfl)
    rw [Vp16] at f16
    have f17 := hV 17 (by simp) (fun _ _ => by rfl)
    rw [Vp17] at f17
    have f18 := hV 18 (by simp) (fun _ _ => by rfl)
    rw [Vp18] at f18
    have f19 := hV 19 (by simp) (fun _ _ => by rfl)
    rw [Vp19] at f19
    have f20 := hV 20 (by simp) (fun _ _ => by rfl)
    rw [Vp20] at f20
    have f21 := hV 21 (by simp) (fun _ _ => by rfl)
    rw [Vp21] at f21
    have f22 := hV 22 (by simp) (fun _ _ => by rfl)
    rw [Vp22] at f22
    have f23 := hV 23 (by simp) (fun _ _ => by rfl)
    rw [Vp23] at f23
    have f24 := hV 24 (by simp) (fun _ _ => by rfl)
    rw [Vp24] at f24
    have f25 := hV 25 (by simp) (fun _ _ => by rfl)
    rw [Vp25] at f25
    have f26 := hV 26 (by simp) (fun _ _ => by rfl)
    rw [Vp26] at f26
    have f27 := hV 27 (by simp) (fun _ _ => by rfl)
    rw [Vp27] at f27
    have f28 := hV 28 (by simp) (fun _ _ => by rfl)
    rw [Vp28] at f28
    have f29 := hV 29 (by simp) (fun _ _ => by rfl)
    rw [Vp29] at f29
    have f30 := hV 30 (by simp) (fun _ _ => by rfl)
    rw [Vp30] at f30
    have f31 := hV 31 (by simp) (fun _ _ => by rfl)
    rw [Vp31] at f31
    have f32 := hV 32 (by simp) (fun _ _ => by rfl)
    rw [Vp32] at f32
    have f33 := hV 33 (by simp) (fun _ _ => by rfl)
    rw [Vp33] at f33
    clear hV Vp0 Vp1 Vp2 Vp3 Vp4 Vp5 Vp6 Vp7 Vp8 Vp9 Vp10 Vp11 Vp12 Vp13 Vp14 Vp15 Vp16 Vp17 Vp18 Vp19 Vp20 Vp21 Vp22 Vp23 Vp24 Vp25 Vp26 Vp27 Vp28 Vp29 Vp30 Vp31 Vp32 Vp33
    simp only [putAll, Act.put, List.setIfInBounds_toArray, List.set_cons_zero, List.set_cons_succ]
    generalize val 0 = z0 at *; (subst f0)
    generalize val 1 = z1 at *; (subst f1)
    generalize val 2 = z2 at *; (subst f2)
    generalize val 3 = z3 at *; (subst f3)
    generalize val 4 = z4 at *; clear f4
    generalize val 5 = z5 at *; clear f5
    generalize val 6 = z6 at *; clear f6
    generalize val 7 = z7 at *; clear f7
    generalize val 8 = z8 at *; clear f8
    generalize val 9 = z9 at *; clear f9
    generalize val 10 = z10 at *; (subst f10)
    generalize val 11 = z11 at *; (subst f11)
    generalize val 12 = z12 at *; clear f12
    generalize val 13 = z13 at *; clear f13
    generalize val 14 = z14 at *; clear f14
    generalize val 15 = z15 at *; clear f15
    generalize val 16 = z16 at *; clear f16
    generalize val 17 = z17 at *; clear f17
    generalize val 18 = z18 at *; clear f18
    generalize val 19 = z19 at *; (subst f19)
    generalize val 20 = z20 at *; (subst f20)
    generalize val 21 = z21 at *; clear f21
    generalize val 22 = z22 at *; clear f22
    generalize val 23 = z23 at *; clear f23
    generalize val 24 = z24 at *; clear f24
    generalize val 25 = z25 at *; clear f25
    generalize val 26 = z26 at *; clear f26
    generalize val 27 = z27 at *; clear f27
    generalize val 28 = z28 at *; clear f28
    generalize val 29 = z29 at *; clear f29
    generalize val 30 = z30 at *; clear f30
    generalize val 31 = z31 at *; clear f31
    generalize val 32 = z32 at *; (subst f32)
    generalize val 33 = z33 at *; (subst f33)
    clear HVD
    go_wp2_with fail
    go_ret
    exact ⟨ret_b (by simp), HB.out.trans (hG.mono (by rw [← hg]; exact HB.out.size))⟩

theorem time_no {l : Pl} {c : Int} {s : Spot} (h : inB l c s = false) : timeE l c s = 1 ∧ timeV l c s = 0 := timeE_one l c s (by rw [h]; simp)
theorem time_late {l : Pl} {c : Int} {s : Spot} (h : 1099511627776 < valS l c s) : timeE l c s = 1 ∧ timeV l c s = 0 := timeE_one l c s (by unfold maxT; omega)
theorem time_ok {l : Pl} {c : Int} {s : Spot} (hb : inB l c s = true) (h : ¬ 1099511627776 < valS l c s) : timeE l c s = 0 ∧ timeV l c s = valS l c s := by
  have e : timeE l c s = 0 := (timeE_zero l c s).2 ⟨hb, by unfold maxT; omega⟩
  exact ⟨e, timeV_of e⟩

set_option maxRecDepth 100000 in
set_option maxHeartbeats 4000000 in
theorem time_any (A : Option Addr) (cp : Nat) (c : Int) (l : Pl) (hlm : l.length ≤ maxLen) (s : Spot) (w : World) (hS : Sls w w.heap.size A l) :
    Calls Try.prog 22 #[pv A l.length cp c, sv s] w fun e w' => e = .returned (.tuple #[.int .i64 (timeV l c s), .int .i64 (timeE l c s)]) ∧ Below w.heap.size w w' := by
  have hB := Joins.below_alloc2 w (.cells #[.slice A l.length cp, .int .i64 c] 25) (.cells #[.int .i64 s.cyc, .int .i64 s.rnd, .int .i64 s.slt, .int .i64 s.tck] 27)
  have hP := (PlAt.new w A l.length cp c).on (Joins.below_alloc1 _ (.cells #[.int .i64 s.cyc, .int .i64 s.rnd, .int .i64 s.slt, .int .i64 s.tck] 27))
  have hZ := SpAt.new (w.alloc (.cells #[.slice A l.length cp, .int .i64 c] 25)) s
  rw [World.size_alloc] at hZ
  have hS0 := (hS.below hB (Nat.le_refl _)).more hB.size
  have cr := right_any A cp c l hlm _ hS0
  have HB := Lib.hid hB; clear hB hS
  obtain ⟨y0, y1⟩ := hP.cells
  cases hR : rightS l c
  · obtain ⟨ev, ee⟩ := time_no (l := l) (c := c) (s := s) (by rw [inB_ins, hR]; rfl)
    rw [ev, ee]
    clear ev ee
    rw [hR] at cr
    go_enter Try.func22, Try.ntmps22
    go_wp2_with fail
    refine cr.mono ?_; rintro e w1 ⟨rfl, b1⟩
    have HB1 := Lib.hid (HB.out.trans (b1.mono HB.out.size))
    clear y0 y1 b1
    go_wp2_with fail
    go_ret2
    exact ⟨rfl, HB1.out⟩
  · rw [hR] at cr
    have CI := Lib.hid (fun W h => inside_any A cp c l hR s W h)
    have HS0 := Lib.hid hS0; clear hS0
    have HPP := Lib.hid hP; clear hP
    have HZ := Lib.hid hZ; clear hZ
    cases hI : insB l c s
    · obtain ⟨ev, ee⟩ := time_no (l := l) (c := c) (s := s) (by rw [inB_ins, hR, hI]; rfl)
      rw [ev, ee]
      clear ev ee
      rw [hI] at CI
      clear hR hI
      go_enter Try.func22, Try.ntmps22
      go_wp2_with fail
      refine cr.mono ?_; rintro e w1 ⟨rfl, b1⟩
      have HS1 := Lib.hid ((HS0.out.below b1 (Nat.le_refl _)).more b1.size)
      have HB1 := Lib.hid (HB.out.trans (b1.mono HB.out.size))
      clear y0 y1
      obtain ⟨y0, y1⟩ := (HPP.out.on b1).cells
      obtain ⟨z0, z1, z2, z3⟩ := (HZ.out.on b1).cells
      clear b1
      go_wp2_with fail
      refine (CI.out _ HS1.out).mono ?_; rintro e w2 ⟨rfl, b2⟩
      go_wp2_with fail
      go_ret2
      exact ⟨rfl, HB1.out.trans (b2.mono HB1.out.size)⟩
    · have hin : inB l c s = true := by rw [inB_ins, hR, hI]; rfl
      rw [hI] at CI
      obtain ⟨v1, v2, v3, v4, v5⟩ := valS_bounds hin
      obtain ⟨-, ⟨i1, i1'⟩, ⟨i2, i2'⟩, ⟨i3, i3'⟩, i4, i4'⟩ := (inB_iff l c s).1 hin
      have hl2 := rightS_len hR
      have hsum := rightS_sum hR
      have hrest := valS_rest (rightS_ticked hR) (inB_in hin)
      have hcm : 0 ≤ s.cyc * c := Int.mul_nonneg i1 (by have := rightS_cyc hR; omega)
      have hab := aheadS_bounds (rightS_ticked hR) s.slt.toNat (by omega)
      have CO := Lib.hid (fun W => turnOf_any A l.length cp c s hcm v2 i2 W)
      have CS := Lib.hid (fun W h => start_any A cp c l hR (s.cyc * c + s.rnd) s.slt ⟨v1, v2⟩ ⟨v3, v4⟩ ⟨i3, i3'⟩ W h)
      have hval : valS l c s = (s.cyc * c + s.rnd) * sumS l + aheadS l s.slt.toNat + s.tck := rfl
      have ew : IntKind.i64.wrap ((s.cyc * c + s.rnd) * sumS l + aheadS l s.slt.toNat + s.tck) = (s.cyc * c + s.rnd) * sumS l + aheadS l s.slt.toNat + s.tck := IntWalk.i64_in _ (by omega)
      have HIN := Lib.hid hin
      have HTL := Lib.hid (fun h => time_late (l := l) (c := c) (s := s) h)
      have HTO := Lib.hid (fun h => time_ok (l := l) (c := c) (s := s) hin h)
      generalize timeV l c s = TV at *
      generalize timeE l c s = TE at *
      have hvb : 0 ≤ valS l c s ∧ valS l c s ≤ 1125899906843648000 := by omega
      rw [← hval] at ew
      have HVAL := Lib.hid hval
      generalize valS l c s = VV at *
      clear hval hin hI v1 v2 v3 v4 v5 i1 i1' i2 i2' i3 i3' i4 i4' hrest hcm hab hsum hl2 hR
      generalize s.cyc * c + s.rnd = Q at *
      have hP2 : Q * sumS l + aheadS l s.slt.toNat = VV - s.tck := by have := HVAL.out; omega
      rw [hP2] at CS
      have evt : VV - s.tck + s.tck = VV := by omega
      clear HVAL hP2
      obtain ⟨a1, a2, a3, a4⟩ := s
      simp only at *
      generalize hW : (w.alloc (.cells #[.slice A l.length cp, .int .i64 c] 25)).alloc (.cells #[.int .i64 a1, .int .i64 a2, .int .i64 a3, .int .i64 a4] 27) = W at *
      generalize l.length = n at *
      generalize hg : w.heap.size = b at *
      go_enter Try.func22, Try.ntmps22
      go_wp2_with fail
      refine cr.mono ?_; rintro e w1 ⟨rfl, b1⟩
      have HS1 := Lib.hid ((HS0.out.below b1 (Nat.le_refl _)).more b1.size)
      have HP1 := Lib.hid (HPP.out.on b1)
      have HZ1 := Lib.hid (HZ.out.on b1)
      have HB1 := Lib.hid (HB.out.trans (b1.mono (by rw [← hg]; exact HB.out.size)))
      clear y0 y1 b1 hW
      obtain ⟨y0, y1⟩ := HP1.out.cells
      obtain ⟨z0, z1, z2, z3⟩ := HZ1.out.cells
      go_wp2_with fail
      refine (CI.out _ HS1.out).mono ?_; rintro e w2 ⟨rfl, b2⟩
      have HS2 := Lib.hid ((HS1.out.below b2 (Nat.le_refl _)).more b2.size)
      have HP2 := Lib.hid (HP1.out.on b2)
      have HZ2 := Lib.hid (HZ1.out.on b2)
      have HB2 := Lib.hid (HB1.out.trans (b2.mono (by rw [← hg]; exact HB1.out.size)))
      clear y0 y1 z0 z1 z2 z3 b2 cr CI HS1 HP1 HZ1
      go_wp2_with fail
      have HV : ∃ Vp : Nat → (Nat → Value) → World → Prop, Vp = (fun ix u wv => match ix with
        | 0 => u 0 = .agg #[.slice A n cp, .int .i64 c]
        | 1 => u 1 = .agg #[.slice A n cp, .int .i64 c]
        | 2 => u 2 = .agg #[.int .i64 a1, .int .i64 a2, .int .i64 a3, .int .i64 a4]
        | 3 => u 3 = cx Q a3
        | 4 => u 4 = .int .i64 (VV - a4)
        | 5 => u 5 = .pointer (some ⟨b + 1, 3, none⟩)
        | 6 => u 6 = .int .i64 a4
        | 7 => u 7 = .int .i64 VV
        | 8 => u 8 = .int .i64 VV
        | _ => True) := ⟨_, rfl⟩
      obtain ⟨Vp, hVdef⟩ := HV
      have Vp0 : ∀ u wv, Vp 0 u wv = (u 0 = .agg #[.slice A n cp, .int .i64 c]) := fun u wv => by subst hVdef; rfl
      have Vp1 : ∀ u wv, Vp 1 u wv = (u 1 = .agg #[.slice A n cp, .int .i64 c]) := fun u wv => by subst hVdef; rfl
      have Vp2 : ∀ u wv, Vp 2 u wv = (u 2 = .agg #[.int .i64 a1, .int .i64 a2, .int .i64 a3, .int .i64 a4]) := fun u wv => by subst hVdef; rfl
      have Vp3 : ∀ u wv, Vp 3 u wv = (u 3 = cx Q a3) := fun u wv => by subst hVdef; rfl
      have Vp4 : ∀ u wv, Vp 4 u wv = (u 4 = .int .i64 (VV - a4)) := fun u wv => by subst hVdef; rfl
      have Vp5 : ∀ u wv, Vp 5 u wv = (u 5 = .pointer (some ⟨b + 1, 3, none⟩)) := fun u wv => by subst hVdef; rfl
      have Vp6 : ∀ u wv, Vp 6 u wv = (u 6 = .int .i64 a4) := fun u wv => by subst hVdef; rfl
      have Vp7 : ∀ u wv, Vp 7 u wv = (u 7 = .int .i64 VV) := fun u wv => by subst hVdef; rfl
      have Vp8 : ∀ u wv, Vp 8 u wv = (u 8 = .int .i64 VV) := fun u wv => by subst hVdef; rfl
      have HVD := Lib.hid hVdef
      clear hVdef
      refine region_each (V := Vp) (drop := fun _ _ => false) (G := fun wv => Below w2.heap.size w2 wv) (Rel := fun jx wv wv' => Below wv.heap.size wv wv') (by kernel_rfl) (by kernel_rfl) (Below.refl _ _).drew ?hmonoc3 ?hdepc3 ⟨?s0_c3, ?s1_c3, ?s2_c3, ?s3_c3, ?s4_c3, ?s5_c3, ?s6_c3, ?s7_c3, ?s8_c3, trivial⟩ ?behindc3
      case hmonoc3 =>
        intro ix jx u wv wv' hij hw hd hr
        rw [HVD.out]
        dsimp only
        split <;> intro h <;> first | exact trivial | exact h
      case hdepc3 =>
        intro ix u u' wv h1 h2
        rw [HVD.out]
        dsimp only
        split <;> intro h <;> first | exact trivial | (rw [← h1]; exact h)
      case s0_c3 =>
        refine owe rfl fun a wx val hG hV hN hO K hK => ?_
        have e2 : a.tmps[2]? = some (.pointer (some ⟨b, 0, none⟩)) := (hO 2 (by kernel_rfl)).trans (by rfl)
        clear hV hN hO
        obtain ⟨y0, y1⟩ := (HP2.out.on hG).cells; obtain ⟨z0, z1, z2, z3⟩ := (HZ2.out.on hG).cells
        go_simp
        exact hK.out _ _ (by rw [Vp0, upd_at] <;> (congr 1 <;> omega)) (Below.refl _ _) hG
      case s1_c3 =>
        refine owe rfl fun a wx val hG hV hN hO K hK => ?_
        have e2 : a.tmps[2]? = some (.pointer (some ⟨b, 0, none⟩)) := (hO 2 (by kernel_rfl)).trans (by rfl)
        clear hV hN hO
        obtain ⟨y0, y1⟩ := (HP2.out.on hG).cells; obtain ⟨z0, z1, z2, z3⟩ := (HZ2.out.on hG).cells
        go_simp
        exact hK.out _ _ (by rw [Vp1, upd_at] <;> (congr 1 <;> omega)) (Below.refl _ _) hG
      case s2_c3 =>
        refine owe rfl fun a wx val hG hV hN hO K hK => ?_
        have e3 : a.tmps[3]? = some (.pointer (some ⟨b + 1, 0, none⟩)) := (hO 3 (by kernel_rfl)).trans (by rfl)
        clear hV hN hO
        obtain ⟨y0, y1⟩ := (HP2.out.on hG).cells; obtain ⟨z0, z1, z2, z3⟩ := (HZ2.out.on hG).cells
        go_simp
        exact hK.out _ _ (by rw [Vp2, upd_at] <;> (congr 1 <;> omega)) (Below.refl _ _) hG
      case s3_c3 =>
        refine owe rfl fun a wx val hG hV hN hO K hK => ?_
        have e17 := hN 1 17 (by kernel_rfl) (by kernel_rfl) (by simp)
        have f17 := hV 1 (by kernel_rfl) (by kernel_rfl)
        rw [Vp1] at f17; rw [f17] at e17; clear f17
        have e18 := hN 2 18 (by kernel_rfl) (by kernel_rfl) (by simp)
        have f18 := hV 2 (by kernel_rfl) (by kernel_rfl)
        rw [Vp2] at f18; rw [f18] at e18; clear f18
        clear hV hN hO
        go_simp
        refine (CO.out _).mono ?_
        rintro e w11 ⟨rfl, hb⟩
        exact hK.out _ _ (by rw [Vp3, upd_at]) hb (hG.trans (hb.mono hG.size))
      case s4_c3 =>
        refine owe rfl fun a wx val hG hV hN hO K hK => ?_
        have e16 := hN 0 16 (by kernel_rfl) (by kernel_rfl) (by simp)
        have f16 := hV 0 (by kernel_rfl) (by kernel_rfl)
        rw [Vp0] at f16; rw [f16] at e16; clear f16
        have e19 := hN 3 19 (by kernel_rfl) (by kernel_rfl) (by simp)
        have f19 := hV 3 (by kernel_rfl) (by kernel_rfl)
        rw [Vp3] at f19; rw [f19] at e19; clear f19
        clear hV hN hO
        go_simp
        refine (CS.out _ ((HS2.out.below hG (Nat.le_refl _)).more hG.size)).mono ?_
        rintro e w11 ⟨rfl, hb⟩
        exact hK.out _ _ (by rw [Vp4, upd_at]) hb (hG.trans (hb.mono hG.size))
      case s5_c3 =>
        refine owe rfl fun a wx val hG hV hN hO K hK => ?_
        have e3 : a.tmps[3]? = some (.pointer (some ⟨b + 1, 0, none⟩)) := (hO 3 (by kernel_rfl)).trans (by rfl)
        clear hV hN hO
        go_simp
        exact hK.out _ _ (by rw [Vp5, upd_at] <;> (congr 1 <;> omega)) (Below.refl _ _) hG
      case s6_c3 =>
        refine owe rfl fun a wx val hG hV hN hO K hK => ?_
        have e21 := hN 5 21 (by kernel_rfl) (by kernel_rfl) (by simp)
        have f21 := hV 5 (by kernel_rfl) (by kernel_rfl)
        rw [Vp5] at f21; rw [f21] at e21; clear f21
        clear hV hN hO
        obtain ⟨y0, y1⟩ := (HP2.out.on hG).cells; obtain ⟨z0, z1, z2, z3⟩ := (HZ2.out.on hG).cells
        go_simp
        exact hK.out _ _ (by rw [Vp6, upd_at] <;> (congr 1 <;> omega)) (Below.refl _ _) hG
      case s7_c3 =>
        refine owe rfl fun a wx val hG hV hN hO K hK => ?_
        have e20 := hN 4 20 (by kernel_rfl) (by kernel_rfl) (by simp)
        have f20 := hV 4 (by kernel_rfl) (by kernel_rfl)
        rw [Vp4] at f20; rw [f20] at e20; clear f20
        have e22 := hN 6 22 (by kernel_rfl) (by kernel_rfl) (by simp)
        have f22 := hV 6 (by kernel_rfl) (by kernel_rfl)
        rw [Vp6] at f22; rw [f22] at e22; clear f22
        clear hV hN hO
        go_simp
        exact hK.out _ _ (by rw [Vp7, upd_at] <;> (congr 1 <;> omega)) (Below.refl _ _) hG
      case s8_c3 =>
        refine owe rfl fun a wx val hG hV hN hO K hK => ?_
        have e23 := hN 7 23 (by kernel_rfl) (by kernel_rfl) (by simp)
        have f23 := hV 7 (by kernel_rfl) (by kernel_rfl)
        rw [Vp7] at f23; rw [f23] at e23; clear f23
        clear hV hN hO
        go_simp
        exact hK.out _ _ (by rw [Vp8, upd_at] <;> (congr 1 <;> omega)) (Below.refl _ _) hG
      intro val wx hG hV
      have f0 := hV 0 (by simp) (fun _ _ => by rfl)
      rw [Vp0] at f0
      have f1 := hV 1 (by simp) (fun _ _ => by rfl)
      rw [Vp1] at f1
      have f2 := hV 2 (by simp) (fun _ _ => by rfl)
      rw [Vp2] at f2
      have f3 := hV 3 (by simp) (fun _ _ => by rfl)
      rw [Vp3] at f3
      have f4 := hV 4 (by simp) (fun _ _ => by rfl)
      rw [Vp4] at f4
      have f5 := hV 5 (by simp) (fun _ _ => by rfl)
      rw [Vp5] at f5
      have f6 := hV 6 (by simp) (fun _ _ => by rfl)
      rw [Vp6] at f6
      have f7 := hV 7 (by simp) (fun _ _ => by rfl)
      rw [Vp7] at f7
      have f8 := hV 8 (by simp) (fun _ _ => by rfl)
      rw [Vp8] at f8
      clear hV Vp0 Vp1 Vp2 Vp3 Vp4 Vp5 Vp6 Vp7 Vp8
      simp only [putAll, Act.put, List.setIfInBounds_toArray, List.set_cons_zero, List.set_cons_succ]
      generalize val 0 = z0 at *; (subst f0)
      generalize val 1 = z1 at *; (subst f1)
      generalize val 2 = z2 at *; (subst f2)
      generalize val 3 = z3 at *; (subst f3)
      generalize val 4 = z4 at *; (subst f4)
      generalize val 5 = z5 at *; (subst f5)
      generalize val 6 = z6 at *; (subst f6)
      generalize val 7 = z7 at *; (subst f7)
      generalize val 8 = z8 at *; (subst f8)
      clear HVD
      have HG := Lib.hid (HB2.out.trans (hG.mono (by rw [← hg]; exact HB2.out.size)))
      clear hG
      by_cases hlate : 1099511627776 < VV
      · obtain ⟨rfl, rfl⟩ := HTL.out hlate
        go_wp2_with fail
        go_ret2
        exact ⟨rfl, HG.out⟩
      · obtain ⟨rfl, rfl⟩ := HTO.out (by omega)
        go_wp2_with fail
        go_ret2
        exact ⟨rfl, HG.out⟩

end Go.Proofs.Ytmklabdfalkldaa

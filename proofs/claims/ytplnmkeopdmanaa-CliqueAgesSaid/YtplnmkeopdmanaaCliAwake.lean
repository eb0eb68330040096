/-
  The laws' awake: the chapter's example, and more.
-/
import Derived.Test.YtplnmkeopdmanaaCliAcked
namespace Go.Proofs.Ytplnmkeopdmanaa
open Go.RowKit

def eN : Nat → Er
  | 0 => ⟨0, 0, 0⟩
  | k + 1 => hearE (eN k) k (1 + (k : Int) / 2 % 2)
theorem eN_five : eN 5 = ⟨19, 3, 2⟩ := by
  have h1 : (eN 5).h = 19 := by decide +kernel
  have h2 : (eN 5).g = 3 := by decide +kernel
  have h3 : (eN 5).b = 2 := by decide +kernel
  cases h : eN 5 with
  | mk a b c => rw [h] at h1 h2 h3; simp only at h1 h2 h3; rw [h1, h2, h3]
theorem f_is : hearE ⟨19, 3, 2⟩ 9 2 = ⟨19, 3, 3⟩ := by unfold hearE badE moreI nodeB; simp [wrap64]
theorem g_is : hearE ⟨19, 3, 3⟩ 1 2 = ⟨19, 3, 4⟩ := by unfold hearE badE moreI nodeB; simp [wrap64]
theorem ages_awake : agesL 4 (placed ([5, -9, 7].take 16)) = [6, 1, 0] := by decide +kernel
theorem alive_awake : aliveI 5 (placed ([6, 1, 0].take 16)) = 6 := by decide +kernel
theorem acked_awake : ackN 1 [2, 4, 3] = 2 := by decide +kernel
theorem clear_awake1 : clearB 1 4 [2, 2] = true := by decide +kernel
theorem clear_awake2 : clearB 1 4 [2] = false := by decide +kernel
theorem Own.row9 {w : World} {B : Nat} {u : Value} {l : List Int} (h : w.ownsRow B 3 1 u l.length (l.map (Value.int .i64))) : ∃ A c, u = .slice A l.length c ∧ l.length ≤ c ∧ Row w w.heap.size A l := Row.of_own h

set_option maxRecDepth 100000 in
set_option maxHeartbeats 4000000 in
theorem awake_any (w : World) : Calls Try.prog 9 #[] w fun e w' => e = .returned (.bool true) ∧ Below w.heap.size w w' := by
  have c1 := Lib.hid (fun (e : Er) n k W => hear_any e n k W)
  go_enter Try.func9, Try.ntmps9
  go_wp2
  go_loopw [2] (fun i wr => ∃ k : Nat, k ≤ 5 ∧ i = .int .i64 k ∧ ErAt wr w.heap.size (eN k) ∧ Below w.heap.size w wr) (fun i _ => 5 - (intOf i).toNat)
  case atStart => exact ⟨0, by omega, rfl, ErAt.new w ⟨0, 0, 0⟩, Joins.below_alloc1 w _⟩
  case round =>
    obtain ⟨k, hk, rfl, he, hb⟩ := hrel
    have HE := Lib.hid he
    have HB := Lib.hid hb
    clear he hb
    obtain ⟨y0, y1, y2⟩ := HE.out.cells
    by_cases hlt : k < 5
    · have HS : Hid (hearE (eN k) k (1 + (k : Int) / 2 % 2) = eN (k + 1)) := Lib.hid rfl
      have g1 : (k : Int).tdiv 2 = (k : Int) / 2 := Int.tdiv_eq_ediv_of_nonneg (by omega)
      have g2 : ((k : Int) / 2).tmod 2 = (k : Int) / 2 % 2 := Int.tmod_eq_emod_of_nonneg (by omega)
      have g3 : IntKind.i64.wrap ((k : Int) / 2) = (k : Int) / 2 := IntWalk.i64_in _ (by omega)
      have g4 : IntKind.i64.wrap ((k : Int) / 2 % 2) = (k : Int) / 2 % 2 := IntWalk.i64_in _ (by omega)
      have g5 : IntKind.i64.wrap (1 + (k : Int) / 2 % 2) = 1 + (k : Int) / 2 % 2 := IntWalk.i64_in _ (by omega)
      have ch := fun W => c1.out (eN k) k (1 + (k : Int) / 2 % 2) W
      rw [HS.out] at ch
      go_wp2_with fail
      (with_reducible refine (ch _).mono ?_); rintro e w1 ⟨rfl, hb1⟩
      have HE1 := Lib.hid (HE.out.on hb1)
      have HB1 := Lib.hid (HB.out.trans (hb1.mono HB.out.size))
      clear y0 y1 y2 hb1 ch
      obtain ⟨y0, y1, y2⟩ := HE1.out.cells
      have hf := HE1.out.frozen
      go_wp2
      go_roundw
      case rel => exact ⟨k + 1, by omega, by go_num, HE1.out.set _, below_set3 HB1.out (Nat.le_refl _) _ _ _⟩
      case measure => simp [intOf]; omega
    · have ek : k = 5 := by omega
      subst ek
      rw [eN_five] at HE
      have hh := fun W => c1.out ⟨19, 3, 2⟩ 9 2 W
      rw [f_is] at hh
      have hg := fun W => c1.out ⟨19, 3, 3⟩ 1 2 W
      rw [g_is] at hg
      have HG := Lib.hid hg
      clear hg y0 y1 y2
      obtain ⟨y0, y1, y2⟩ := HE.out.cells
      go_wp2_with fail
      (with_reducible refine (hh _).mono ?_); rintro e w1 ⟨rfl, hb1⟩
      have hb2 := Joins.below_alloc1 w1 (.cells #[.int .i64 19, .int .i64 3, .int .i64 3] 26)
      have HF := Lib.hid (ErAt.new w1 ⟨19, 3, 3⟩)
      replace HE := Lib.hid ((HE.out.on hb1).on hb2)
      replace HB := Lib.hid ((HB.out.trans (hb1.mono HB.out.size)).trans (hb2.mono (HB.out.trans (hb1.mono HB.out.size)).size))
      clear y0 y1 y2 hb1 hb2 hh
      go_wp2_with fail
      obtain ⟨X2, hX2⟩ : ∃ W, W = w1.alloc (.cells #[.int .i64 19, .int .i64 3, .int .i64 3] 26) := ⟨_, rfl⟩
      have hs2 : X2.heap.size = w1.heap.size + 1 := by rw [hX2, World.size_alloc]
      rw [← hX2] at HE HB HF ⊢
      rw [← hs2]
      generalize w1.heap.size = F at *
      clear hX2 hs2
      have hr := Row.new X2 [5, -9, 7]
      have hr : Row (X2.alloc (.cells #[.int .i64 5, .int .i64 (-9), .int .i64 7] 3)) (X2.alloc (.cells #[.int .i64 5, .int .i64 (-9), .int .i64 7] 3)).heap.size (some ⟨X2.heap.size, 0, none⟩) [5, -9, 7] := by rw [World.size_alloc]; exact hr
      have hb := Joins.below_alloc1 X2 (.cells #[.int .i64 5, .int .i64 (-9), .int .i64 7] 3)
      replace HE := Lib.hid (HE.out.on hb)
      replace HF := Lib.hid (HF.out.on hb)
      replace HB := Lib.hid (HB.out.trans (hb.mono HB.out.size))
      generalize hA : (some ⟨X2.heap.size, 0, none⟩ : Option Addr) = A3 at *
      generalize X2.alloc (.cells #[.int .i64 5, .int .i64 (-9), .int .i64 7] 3) = X3 at *
      clear hb hA
      have ca := ages_any 4 A3 3 [5, -9, 7] (by decide) X3 hr
      rw [ages_awake] at ca
      simp only [List.length_cons, List.length_nil, Nat.reduceAdd] at ca
      (with_reducible refine (ca).mono ?_); rintro e w4 ⟨u, rfl, hu, hb⟩
      replace HE := Lib.hid (HE.out.on hb)
      replace HF := Lib.hid (HF.out.on hb)
      replace HB := Lib.hid (HB.out.trans (hb.mono HB.out.size))
      obtain ⟨A, c, rfl, hc, hu⟩ := Row.of_own (l := [6, 1, 0]) hu
      simp only [List.length_cons, List.length_nil, Nat.reduceAdd] at hc ⊢
      have HU := Lib.hid hu; clear hb hr hu ca
      obtain ⟨y0, y1, y2⟩ := HE.out.cells; obtain ⟨z0, z1, z2⟩ := HF.out.cells
      go_wp2_with fail
      (with_reducible refine (stays_any ⟨19, 3, 3⟩ _).mono ?_); rintro e w5 ⟨rfl, hb⟩
      replace HE := Lib.hid (HE.out.on hb)
      replace HF := Lib.hid (HF.out.on hb)
      replace HB := Lib.hid (HB.out.trans (hb.mono HB.out.size))
      replace HU := Lib.hid (HU.out.on hb)
      have hq : staysB ⟨19, 3, 3⟩ = true := by decide
      clear y0 y1 y2 z0 z1 z2 hb
      obtain ⟨y0, y1, y2⟩ := HE.out.cells; obtain ⟨z0, z1, z2⟩ := HF.out.cells
      go_wp2_with fail
      (with_reducible refine (HG.out _).mono ?_); rintro e w6 ⟨rfl, hb⟩
      replace HE := Lib.hid (HE.out.on hb)
      replace HF := Lib.hid (HF.out.on hb)
      replace HB := Lib.hid (HB.out.trans (hb.mono HB.out.size))
      replace HU := Lib.hid (HU.out.on hb)
      clear y0 y1 y2 z0 z1 z2 hb
      obtain ⟨y0, y1, y2⟩ := HE.out.cells; obtain ⟨z0, z1, z2⟩ := HF.out.cells
      go_wp2_with fail
      (with_reducible refine (stays_any ⟨19, 3, 4⟩ _).mono ?_); rintro e w7 ⟨rfl, hb⟩
      replace HE := Lib.hid (HE.out.on hb)
      replace HF := Lib.hid (HF.out.on hb)
      replace HB := Lib.hid (HB.out.trans (hb.mono HB.out.size))
      replace HU := Lib.hid (HU.out.on hb)
      have hq2 : staysB ⟨19, 3, 4⟩ = false := by decide
      clear y0 y1 y2 z0 z1 z2 hb
      obtain ⟨y0, y1, y2⟩ := HE.out.cells; obtain ⟨z0, z1, z2⟩ := HF.out.cells
      go_wp2_with fail
      have hb := Joins.below_alloc1 w7 (.cells #[.int .i64 6, .int .i64 1, .int .i64 0] 3)
      have hr : Row (w7.alloc (.cells #[.int .i64 6, .int .i64 1, .int .i64 0] 3)) (w7.alloc (.cells #[.int .i64 6, .int .i64 1, .int .i64 0] 3)).heap.size (some ⟨w7.heap.size, 0, none⟩) [6, 1, 0] := by rw [World.size_alloc]; exact Row.new w7 [6, 1, 0]
      replace HU := Lib.hid (HU.out.on hb)
      replace HE := Lib.hid (HE.out.on hb)
      replace HF := Lib.hid (HF.out.on hb)
      replace HB := Lib.hid (HB.out.trans (hb.mono HB.out.size))
      clear hb
      generalize hA : (some ⟨w7.heap.size, 0, none⟩ : Option Addr) = AX8 at *
      generalize w7.alloc (.cells #[.int .i64 6, .int .i64 1, .int .i64 0] 3) = X8 at *
      clear hA
      have ci := ints_any A AX8 c 3 _ _ [6, 1, 0] [6, 1, 0] X8 HU.out hr (by decide)
      simp only [List.length_cons, List.length_nil, Nat.reduceAdd] at ci
      simp only [decide_true] at ci
      (with_reducible refine ci.mono ?_); rintro e w8 ⟨rfl, n8, rfl⟩
      clear ci hr y0 y1 y2 z0 z1 z2
      have hb := below_drewN (Below.refl X8.heap.size X8) n8
      replace HE := Lib.hid (HE.out.on hb)
      replace HF := Lib.hid (HF.out.on hb)
      replace HB := Lib.hid (HB.out.trans (hb.mono HB.out.size))
      clear HU HF HG hb
      generalize X8.drewN n8 = w8 at *
      obtain ⟨y0, y1, y2⟩ := HE.out.cells
      go_wp2_with fail
      have hb := Joins.below_alloc1 w8 (.cells #[.int .i64 6, .int .i64 1, .int .i64 0] 3)
      have hr : Row (w8.alloc (.cells #[.int .i64 6, .int .i64 1, .int .i64 0] 3)) (w8.alloc (.cells #[.int .i64 6, .int .i64 1, .int .i64 0] 3)).heap.size (some ⟨w8.heap.size, 0, none⟩) [6, 1, 0] := by rw [World.size_alloc]; exact Row.new w8 [6, 1, 0]
      replace HE := Lib.hid (HE.out.on hb)
      replace HB := Lib.hid (HB.out.trans (hb.mono HB.out.size))
      clear hb
      generalize hA : (some ⟨w8.heap.size, 0, none⟩ : Option Addr) = AX9 at *
      generalize w8.alloc (.cells #[.int .i64 6, .int .i64 1, .int .i64 0] 3) = X9 at *
      clear hA
      have cv := alive_any 5 AX9 3 [6, 1, 0] (by decide) X9 hr
      rw [alive_awake] at cv
      simp only [List.length_cons, List.length_nil, Nat.reduceAdd] at cv
      (with_reducible refine cv.mono ?_); rintro e w9 ⟨rfl, hb⟩
      replace HE := Lib.hid (HE.out.on hb)
      replace HB := Lib.hid (HB.out.trans (hb.mono HB.out.size))
      clear hb cv hr
      go_wp2_with fail
      have hb := Joins.below_alloc1 w9 (.cells #[.int .i64 2, .int .i64 4, .int .i64 3] 3)
      have hr : Row (w9.alloc (.cells #[.int .i64 2, .int .i64 4, .int .i64 3] 3)) (w9.alloc (.cells #[.int .i64 2, .int .i64 4, .int .i64 3] 3)).heap.size (some ⟨w9.heap.size, 0, none⟩) [2, 4, 3] := by rw [World.size_alloc]; exact Row.new w9 [2, 4, 3]
      replace HE := Lib.hid (HE.out.on hb)
      replace HB := Lib.hid (HB.out.trans (hb.mono HB.out.size))
      clear hb
      generalize hA : (some ⟨w9.heap.size, 0, none⟩ : Option Addr) = AX10 at *
      generalize w9.alloc (.cells #[.int .i64 2, .int .i64 4, .int .i64 3] 3) = X10 at *
      clear hA
      have cv := acked_any 1 AX10 3 _ [2, 4, 3] X10 hr (by decide)
      rw [acked_awake] at cv
      simp only [List.length_cons, List.length_nil, Nat.reduceAdd] at cv
      (with_reducible refine cv.mono ?_); rintro e w10 ⟨rfl, rfl⟩
      clear cv hr
      go_wp2_with fail
      have hb := Joins.below_alloc1 X10 (.cells #[.int .i64 2, .int .i64 2] 3)
      have hr : Row (X10.alloc (.cells #[.int .i64 2, .int .i64 2] 3)) (X10.alloc (.cells #[.int .i64 2, .int .i64 2] 3)).heap.size (some ⟨X10.heap.size, 0, none⟩) [2, 2] := by rw [World.size_alloc]; exact Row.new X10 [2, 2]
      replace HE := Lib.hid (HE.out.on hb)
      replace HB := Lib.hid (HB.out.trans (hb.mono HB.out.size))
      clear hb
      generalize hA : (some ⟨X10.heap.size, 0, none⟩ : Option Addr) = AX11 at *
      generalize X10.alloc (.cells #[.int .i64 2, .int .i64 2] 3) = X11 at *
      clear hA
      have cv := clear_any 1 4 AX11 2 _ [2, 2] X11 hr (by decide)
      rw [clear_awake1] at cv
      simp only [List.length_cons, List.length_nil, Nat.reduceAdd] at cv
      (with_reducible refine cv.mono ?_); rintro e w11 ⟨rfl, rfl⟩
      clear cv hr
      go_wp2_with fail
      have hb := Joins.below_alloc1 X11 (.cells #[.int .i64 2] 3)
      have hr : Row (X11.alloc (.cells #[.int .i64 2] 3)) (X11.alloc (.cells #[.int .i64 2] 3)).heap.size (some ⟨X11.heap.size, 0, none⟩) [2] := by rw [World.size_alloc]; exact Row.new X11 [2]
      replace HE := Lib.hid (HE.out.on hb)
      replace HB := Lib.hid (HB.out.trans (hb.mono HB.out.size))
      clear hb
      generalize hA : (some ⟨X11.heap.size, 0, none⟩ : Option Addr) = AX12 at *
      generalize X11.alloc (.cells #[.int .i64 2] 3) = X12 at *
      clear hA
      have cv := clear_any 1 4 AX12 1 _ [2] X12 hr (by decide)
      rw [clear_awake2] at cv
      simp only [List.length_cons, List.length_nil, Nat.reduceAdd] at cv
      (with_reducible refine cv.mono ?_); rintro e w12 ⟨rfl, rfl⟩
      clear cv hr
      go_wp2_with fail
      go_ret
      exact ⟨rfl, HB.out⟩

end Go.Proofs.Ytplnmkeopdmanaa

/-
  What the statements' own helpers of layer 5 do: pick, Text, Piece.
-/
import Derived.OpenShut
import Derived.Deep.RegionHeld3
import Derived.Deep.DeepCutAuto
import Derived.BigRegion
import Derived.Test.YtmmbnjkdknnidaaGreatDoorFragSplitV
import Derived.Test.YtmmbnjkdknnidaaGreatDoorFragTripV
import Derived.Test.YtmmbnjkdknnidaaGreatDoorFragEncPV
set_option maxHeartbeats 4000000
set_option maxRecDepth 100000
namespace Go.Proofs.YtmmbnjkdknnidaaGreatDoor.F
open Lib (hid)
open Go.RowKit
def pickI (c n : Int) : Int := (if c < 0 then -(c + 1) else c) % n
theorem pickI_range (c n : Int) (hn : 0 < n) : 0 ≤ pickI c n ∧ pickI c n < n := ⟨Int.emod_nonneg _ (by omega), Int.emod_lt_of_pos _ hn⟩
theorem w64 (n : Int) (h1 : -9223372036854775808 ≤ n) (h2 : n ≤ 9223372036854775807) : wrap64 n = n := by
 unfold wrap64
 omega
theorem pick_neg_value (c n : Int) (hc : (Lit.int .i64 c).wf = true) (h : c < 0) : (wrap64 (-wrap64 (c + 1))).tmod n = pickI c n := by
 have hb := bounds_i64 hc
 rw [w64 (c + 1) (by omega) (by omega), w64 _ (by omega) (by omega), Int.tmod_eq_emod_of_nonneg (by omega)]
 unfold pickI
 rw [if_pos h]
theorem pick_pos_value (c n : Int) (h : ¬ c < 0) : c % n = pickI c n := by
 unfold pickI
 rw [if_neg h]
theorem pick_any (c n : Int) (hc : (Lit.int .i64 c).wf = true) (hn : 0 < n) (w : World) :
  Calls Tryz.prog 77 #[.int .i64 c, .int .i64 n] w fun e w' => e = .returned (.int .i64 (pickI c n)) ∧ w = w' := by
 by_cases h : c < 0
 ·have hv := hid (pick_neg_value c n hc h)
  have HC := hid hc; clear hc
  go_enter Tryz.func77, Tryz.ntmps77
  go_wp2
  go_ret
  exact ⟨congrArg (fun n => Ending.returned (.int .i64 n)) hv.out, rfl⟩
 ·have hv := hid (pick_pos_value c n h)
  have h0 : 0 ≤ c := by omega
  have HC := hid hc; clear hc
  go_enter Tryz.func77, Tryz.ntmps77
  go_wp2
  go_ret
  exact ⟨congrArg (fun n => Ending.returned (.int .i64 n)) hv.out, rfl⟩
def letters : ByteArray := ⟨#[97, 98, 99, 100, 101, 102, 103, 104, 105, 106]⟩
structure Raw where
 a : Int
 b : Int
 c : Int
 d : Int
abbrev rv (r : Raw) : Value := .agg #[.int .i64 r.a, .int .i64 r.b, .int .i64 r.c, .int .i64 r.d]
def WfR (r : Raw) : Prop := (Lit.int .i64 r.a).wf = true ∧ (Lit.int .i64 r.b).wf = true ∧ (Lit.int .i64 r.c).wf = true ∧ (Lit.int .i64 r.d).wf = true
def rawQ (r : Raw) : Int := 1 + pickI r.b 3
def rawS (r : Raw) : ByteArray := txt (letters.data.toList.take (1 + (pickI r.c 9).toNat))
def rawN (r : Raw) : Nat := 1 + (pickI r.c 4).toNat
def rawI (r : Raw) : Int := 1 + pickI r.a 2
def rawK (r : Raw) : Nat := (pickI r.d (countP (rawS r).size (rawN r))).toNat
def rawP (r : Raw) : Pc := pieceP (rawQ r) (rawS r) (rawN r) (rawK r)
theorem rawS_size (r : Raw) : 1 ≤ (rawS r).size ∧ (rawS r).size ≤ 9 := by
 have := pickI_range r.c 9 (by omega)
 unfold rawS
 rw [txt_size, List.length_take]
 have e : letters.data.toList.length = 10 := rfl
 rw [e]
 omega
theorem raw_split (r : Raw) : splitB (rawQ r) (rawS r).size (rawN r : Int) = true := by
 have h1 := rawS_size r
 have h2 := pickI_range r.b 3 (by omega)
 have h3 := pickI_range r.c 4 (by omega)
 rw [splitB_iff]
 unfold rawQ rawN
 omega
theorem raw_count (r : Raw) : 1 ≤ countP (rawS r).size (rawN r) ∧ countP (rawS r).size (rawN r) ≤ 9 := by
 have h1 := rawS_size r
 have h4 : 1 ≤ rawN r := by unfold rawN; omega
 have h2 := countP_le (rawS r).size (rawN r) h1.1 h4
 have h3 := countP_pos (rawS r).size (rawN r) h1.1 h4
 omega
theorem rawK_lt (r : Raw) : rawK r < countP (rawS r).size (rawN r) := by
 have h1 := raw_count r
 have h2 := pickI_range r.d (countP (rawS r).size (rawN r)) (by omega)
 unfold rawK
 omega
theorem raw_right (r : Raw) : rightP (rawP r) = true := by
 have := piece_right (raw_split r) (k := rawK r) (by rw [Int.toNat_natCast]; exact rawK_lt r)
 rw [Int.toNat_natCast] at this
 exact this
def RawAt (w : World) (g : Nat) (r : Raw) : Prop := w.heap[g]? = some (.cells #[.int .i64 r.a, .int .i64 r.b, .int .i64 r.c, .int .i64 r.d] 23 (0, 0))
theorem piece_any (r : Raw) (hr : WfR r) (w : World) : Calls Tryz.prog 42 #[rv r] w fun e w' => e = .returned (.tuple #[.int .i64 (rawI r), pv (rawP r)]) ∧ Below w.heap.size w w' := by
 obtain ⟨wa, wb, wc, wd⟩ := hr
 have hS := rawS_size r
 have hN := raw_count r
 have hK := rawK_lt r
 have p2 := fun W => pick_any r.c 9 wc (by omega) W
 have p1 := fun W => pick_any r.b 3 wb (by omega) W
 have p3 := fun W => pick_any r.c 4 wc (by omega) W
 have p4 := fun W => pick_any r.a 2 wa (by omega) W
 have p5 := fun W => pick_any r.d (countP (rawS r).size (rawN r) : Nat) wd (by omega) W
 have cs := fun W => refSplit_any (rawQ r) (rawS r) (rawN r : Int) (by unfold maxLen; omega) W
 have r2 := pickI_range r.c 9 (by omega)
 have r1 := pickI_range r.b 3 (by omega)
 have r3 := pickI_range r.c 4 (by omega)
 have r4 := pickI_range r.a 2 (by omega)
 have hsl := fun W => run_to letters (1 + pickI r.c 9) (1 + (pickI r.c 9).toNat) (by omega) (by show _ ≤ 10; omega) W
 have hpos : ((rawK r : Nat) : Int) = pickI r.d (countP (rawS r).size (rawN r) : Nat) := by
  have := pickI_range r.d (countP (rawS r).size (rawN r)) (by omega)
  unfold rawK; omega
 have hx : splitR (rawQ r) (rawS r) (rawN r : Int) = splitL (rawQ r) (rawS r) (rawN r) := by unfold splitR; rw [raw_split]; rfl
 have hlen : (splitL (rawQ r) (rawS r) (rawN r)).length = countP (rawS r).size (rawN r) := splitL_length _ _ _
 have hat : (splitL (rawQ r) (rawS r) (rawN r))[rawK r]? = some (rawP r) := splitL_at _ _ _ _ hK
 have hq : rawQ r = 1 + pickI r.b 3 := rfl
 have hn : (rawN r : Int) = 1 + pickI r.c 4 := by unfold rawN; omega
 have hi : rawI r = 1 + pickI r.a 2 := rfl
 unfold SplitPost at cs
 rw [hx, hlen] at cs
 have HLL := hid hlen
 generalize hL : splitL (rawQ r) (rawS r) (rawN r) = L at *
 clear hL
 rw [hq, hn] at cs
 rw [← hpos] at p5
 have hss : txt (letters.data.toList.take (1 + (pickI r.c 9).toNat)) = rawS r := rfl
 rw [hss] at hsl
 rw [hi]
 clear hss hx hlen hq hn hi hpos
 generalize rawP r = P at *
 generalize rawK r = K at *
 generalize countP (rawS r).size (rawN r) = N at *
 generalize rawS r = S at *
 generalize pickI r.c 9 = A2 at *
 generalize pickI r.b 3 = A1 at *
 generalize pickI r.c 4 = A3 at *
 generalize pickI r.a 2 = A4 at *
 obtain ⟨ra, rb, rc, rd⟩ := r
 simp only at *
 obtain ⟨W1, h1⟩ : ∃ W1, w.alloc (.cells #[.int .i64 ra, .int .i64 rb, .int .i64 rc, .int .i64 rd] 23) = W1 := ⟨_, rfl⟩
 obtain ⟨W2, h2⟩ : ∃ W2, W1.alloc (.cells #[.int .i64 0, .int .i64 0, .int .i64 0, .string ⟨#[]⟩] 53) = W2 := ⟨_, rfl⟩
 have g1 : RawAt W1 w.heap.size ⟨ra, rb, rc, rd⟩ := by rw [← h1]; exact heap_alloc_new w _
 have b1 : Below w.heap.size w W1 := by rw [← h1]; exact Joins.below_alloc1 w _
 have b2 : Below W1.heap.size W1 W2 := by rw [← h2]; exact Joins.below_alloc1 W1 _
 have f2 : Four W2 W1.heap.size := by rw [← h2]; exact Four.new W1 zeroP
 have l1 : w.heap.size < W1.heap.size := (Array.getElem?_eq_some_iff.1 g1).1
 have g2 : RawAt W2 w.heap.size ⟨ra, rb, rc, rd⟩ := (b2.block _ l1).trans g1
 have HB2 := hid (b1.trans (b2.mono b1.size))
 have HG2 := hid g2
 have HF2 := hid f2
 have L2 := hid (And.intro l1 f2.lt)
 clear g1 b1 b2 f2 l1
 have x1 : W2.cell? ⟨w.heap.size, 1, none⟩ = some (.int .i64 rb) := (cell_of g2 1).trans rfl
 have x2 : W2.cell? ⟨w.heap.size, 2, none⟩ = some (.int .i64 rc) := (cell_of g2 2).trans rfl
 clear g2
 have CS := hid cs; clear cs
 have HAT := hid hat; clear hat
 have hS1 : 1 ≤ (S.size : Int) := by omega
 have hS2 : (S.size : Int) ≤ 9 := by omega
 unfold letters at hsl
 have q1 : IntKind.i64.wrap (1 + A1) = 1 + A1 := IntWalk.i64_in _ (by omega)
 have q3 : IntKind.i64.wrap (1 + A3) = 1 + A3 := IntWalk.i64_in _ (by omega)
 have q4 : IntKind.i64.wrap (1 + A4) = 1 + A4 := IntWalk.i64_in _ (by omega)
 go_enter Tryz.func42, Tryz.ntmps42
 go_wp2_with fail; refine (p2 _).mono ?_; rintro e w3 ⟨rfl, rfl⟩
 go_wp2_with fail
 have HST7 : Hid (∀ w', Below W2.heap.size W2 w' → (w'.cell? ⟨w.heap.size, 0, none⟩ = some (.int .i64 ra) ∧ w'.cell? ⟨w.heap.size, 1, none⟩ = some (.int .i64 rb) ∧ w'.cell? ⟨w.heap.size, 2, none⟩ = some (.int .i64 rc) ∧ w'.cell? ⟨w.heap.size, 3, none⟩ = some (.int .i64 rd) ∧ Below W2.heap.size W2 w')) := by
  apply hid
  intro w' hb
  have g := (hb.block w.heap.size (by have := L2.out; omega)).trans HG2.out
  exact ⟨(cell_of g 0).trans rfl, (cell_of g 1).trans rfl, (cell_of g 2).trans rfl, (cell_of g 3).trans rfl, hb⟩
 have HST8 : Hid (∀ w' w'', (w'.cell? ⟨w.heap.size, 0, none⟩ = some (.int .i64 ra) ∧ w'.cell? ⟨w.heap.size, 1, none⟩ = some (.int .i64 rb) ∧ w'.cell? ⟨w.heap.size, 2, none⟩ = some (.int .i64 rc) ∧ w'.cell? ⟨w.heap.size, 3, none⟩ = some (.int .i64 rd) ∧ Below W2.heap.size W2 w') → Below w'.heap.size w' w'' → (w''.cell? ⟨w.heap.size, 0, none⟩ = some (.int .i64 ra) ∧ w''.cell? ⟨w.heap.size, 1, none⟩ = some (.int .i64 rb) ∧ w''.cell? ⟨w.heap.size, 2, none⟩ = some (.int .i64 rc) ∧ w''.cell? ⟨w.heap.size, 3, none⟩ = some (.int .i64 rd) ∧ Below W2.heap.size W2 w'')) := hid fun w' w'' h hb => HST7.out w'' (h.2.2.2.2.trans (hb.mono h.2.2.2.2.size))
 go_region_held3 (fun w' => w'.cell? ⟨w.heap.size, 0, none⟩ = some (.int .i64 ra) ∧ w'.cell? ⟨w.heap.size, 1, none⟩ = some (.int .i64 rb) ∧ w'.cell? ⟨w.heap.size, 2, none⟩ = some (.int .i64 rc) ∧ w'.cell? ⟨w.heap.size, 3, none⟩ = some (.int .i64 rd) ∧ Below W2.heap.size W2 w') (first | assumption | exact HST7.out _ (Below.refl _ _).drew | exact HST8.out _ _ (by assumption) (by assumption)) (first | (go_at_call_of 77 (Value.int IntKind.i64 rb); refine (p1 _).mono ?_; rintro e w4 ⟨rfl, rfl⟩) | (go_at_call_of 77 (Value.int IntKind.i64 rc); refine (p3 _).mono ?_; rintro e w4 ⟨rfl, rfl⟩) | (go_at_call 78; refine (CS.out _).mono ?_; rintro e w5 ⟨As, cs, rfl, hps, hb5⟩))
 have hb : Below W2.heap.size W2 w5 := (Below.refl _ _).drew.trans hb5
 clear hb5
 have HB5 := hid (HB2.out.trans (hb.mono HB2.out.size))
 have HF5 := hid (HF2.out.on hb)
 have g5 := (hb.block w.heap.size (by have := L2.out; omega)).trans HG2.out
 have y0 : w5.cell? ⟨w.heap.size, 0, none⟩ = some (.int .i64 ra) := (cell_of g5 0).trans rfl
 have y3 : w5.cell? ⟨w.heap.size, 3, none⟩ = some (.int .i64 rd) := (cell_of g5 3).trans rfl
 clear g5 hb x1 x2 HST7 HST8 q1 q3 p1 p3 h1 h2
 obtain ⟨ad, rfl, hlt, hcl⟩ := hps (by rw [HLL.out]; omega)
 have hP := hcl K P HAT.out
 obtain ⟨f1, f2, f3, f4⟩ := hP
 have ea : ad.add (K * 4) = ad.add (K * 4) := rfl
 obtain ⟨ps, pa, po, pb⟩ := P
 simp only at f1 f2 f3 f4
 have HPP := hid (show Four w5 W1.heap.size from HF5.out)
 obtain ⟨z0, z1, z2, z3, ⟨u0, u1, u2, u3⟩, hfz⟩ := HF5.out.cells
 clear hcl hps
 have hKN : (K : Int) < N := by omega
 have hKK : (0 : Int) ≤ K := by omega
 go_wp2_with fail
 go_region_with ((first | (go_at_call_of 77 (Value.int IntKind.i64 ra); refine (p4 _).mono ?_; rintro e w6 ⟨rfl, rfl⟩) | (go_at_call_of 77 (Value.int IntKind.i64 rd); refine (p5 _).mono ?_; rintro e w6 ⟨rfl, rfl⟩)))
 all_goals
  have hf := (put4_blk HF5.out ⟨ps, pa, po, pb⟩).cells
  unfold put4 at hf
  simp only at hf
  obtain ⟨r0', r1', r2', r3'⟩ := hf
  have hbb := (put4_below HB5.out (Nat.le_of_lt L2.out.1) ⟨ps, pa, po, pb⟩).drew
  unfold put4 at hbb
  go_wp2_with fail
  exact bodyPost_ret (v := .tuple #[.int .i64 (1 + A4), .agg #[.int .i64 ps, .int .i64 pa, .int .i64 po, .string pb]]) (by simp [results, Tryz.results42, go_sem, r0', r1', r2', r3']) rfl ⟨rfl, hbb⟩
end Go.Proofs.YtmmbnjkdknnidaaGreatDoor.F

/-
  Layer 9: the laws' awake.
-/
import Derived.Deep.DeepCutAuto
import Derived.Test.YtmmbnjkdknnidaaGreatDoorBusAllV
import Derived.Test.YtmmbnjkdknnidaaGreatDoorBusDecV
set_option maxHeartbeats 8000000
set_option maxRecDepth 100000
namespace Go.Proofs.YtmmbnjkdknnidaaGreatDoor
open Lib (hid)
open Go.RowKit Go.Shelf
def busFr : Fr := ⟨0, 0, 1, 0, 0, -1, 0, 0, 0, 0, 0, 0, 0, [], []⟩
theorem busFr_right : rightF busFr = true := by decide
theorem spoilt9_dec {X : Fr} (hR : rightF X = true) (k : Nat) (mask : Int) {B : List UInt8} (hB : B = C.burstI (encTF X) (k : Int) mask) : (B = encTF X → decEF B = 0 ∧ decFF B = X) ∧ (B ≠ encTF X → decEF B = 5 ∧ decFF B = zeroFr) := by
 refine ⟨fun h => by rw [h]; exact dec_encF hR, fun h => ?_⟩
 have hc : C.isClosed B = false := by
  rw [hB, C.burstI_nat, encTF_right hR, C.closed_burst]
  rw [hB, C.burstI_nat, encTF_right hR] at h
  simpa using h
 have h5 : decEF B = 5 := by unfold decEF; rw [if_neg (by rw [hc]; decide)]
 exact ⟨h5, by unfold decFF; rw [if_neg (by rw [h5]; decide)]⟩
theorem bus_len : (encTF busFr).length = 27 := by rw [encTF_length busFr_right]; rfl
theorem bus_ne : (txt (encTF busFr)).data.toList ≠ [] := by
 rw [txt_data]
 intro h
 have := bus_len
 rw [h] at this
 cases this
theorem mayB_ok {k a m : Int} (h : (k = 0 ∨ k = 1 ∨ k = 2) ∧ (0 ≤ a ∧ a ≤ 65535) ∧ 0 ≤ m ∧ m ≤ 65535) : mayB k a m = true := (mayB_iff k a m).2 h
theorem pass_0 (s : ByteArray) : passS s 0 0 0 = s ∧ passB 0 0 0 = true := by
 have h := mayB_ok (k := 0) (a := 0) (m := 0) (by omega)
 constructor
 ·unfold passS; rw [if_pos h, if_pos rfl]
 ·unfold passB; rw [h]; rfl
theorem hear_0 (dev : Int) : hearV (passS (txt (encTF busFr)) 0 0 0) (passB 0 0 0) dev 3 = (if insideB dev 3 = true then 1 else 2) ∧ (insideB dev 3 = true → hearF (passS (txt (encTF busFr)) 0 0 0) (passB 0 0 0) dev 3 = busFr) ∧ (insideB dev 3 = false → hearF (passS (txt (encTF busFr)) 0 0 0) (passB 0 0 0) dev 3 = zeroFr) := by
 rw [(pass_0 _).1, (pass_0 noS).2]
 obtain ⟨d1, d2⟩ := dec_encF busFr_right
 have hv : hearV (txt (encTF busFr)) true dev 3 = (if insideB dev 3 = true then 1 else 2) := by
  unfold hearV
  rw [if_pos ⟨rfl, bus_ne⟩, txt_data, d1]
  cases insideB dev 3 <;> simp
 refine ⟨hv, fun h => ?_, fun h => ?_⟩
 ·unfold hearF
  rw [hv, h, if_pos rfl, txt_data, d2]
  rfl
 ·unfold hearF
  rw [hv, h]
  rfl
theorem hear_1 : hearV (passS (txt (encTF busFr)) 1 0 0) (passB 1 0 0) 0 3 = 0 ∧ hearF (passS (txt (encTF busFr)) 1 0 0) (passB 1 0 0) 0 3 = zeroFr := by
 have hb : passB 1 0 0 = false := by unfold passB; simp
 have hv : hearV (passS (txt (encTF busFr)) 1 0 0) (passB 1 0 0) 0 3 = 0 := by unfold hearV; rw [hb]; simp
 refine ⟨hv, ?_⟩
 unfold hearF; rw [hv]; rfl
theorem spoilT_bus : spoilT (encTF busFr) 9 1 = C.burstI (encTF busFr) ((9 : Nat) : Int) 1 := by
 have hl := bus_len
 have hne : encTF busFr ≠ [] := fun h => by rw [h] at hl; cases hl
 unfold spoilT
 rw [if_neg hne, hl]
 rfl
theorem burst_ne : C.burstI (encTF busFr) ((9 : Nat) : Int) 1 ≠ encTF busFr := by decide +kernel
theorem hear_2 : hearV (passS (txt (encTF busFr)) 2 9 1) (passB 2 9 1) 0 3 = 2 ∧ hearF (passS (txt (encTF busFr)) 2 9 1) (passB 2 9 1) 0 3 = zeroFr := by
 have h := mayB_ok (k := 2) (a := 9) (m := 1) (by omega)
 have hb : passB 2 9 1 = true := by unfold passB; rw [h]; rfl
 have hs : (passS (txt (encTF busFr)) 2 9 1).data.toList = C.burstI (encTF busFr) ((9 : Nat) : Int) 1 := by
  unfold passS
  rw [if_pos h, if_neg (by decide), if_neg (by decide), C.txt_data, txt_data, spoilT_bus]
 obtain ⟨d1, d2⟩ := (spoilt9_dec busFr_right 9 1 rfl).2 burst_ne
 have hne : (passS (txt (encTF busFr)) 2 9 1).data.toList ≠ [] := by
  rw [hs]
  intro h
  have := congrArg List.length h
  rw [C.burstI_length, bus_len] at this
  cases this
 have hv : hearV (passS (txt (encTF busFr)) 2 9 1) (passB 2 9 1) 0 3 = 2 := by
  unfold hearV
  rw [if_pos ⟨hb, hne⟩, hs, d1, if_neg (by decide)]
 refine ⟨hv, ?_⟩
 unfold hearF; rw [hv]; rfl
theorem howL_bus : howL (txt (encTF busFr)) 3 [9] [(0, 0, 0), (0, 0, 0)] 2 = [2, 1] := by
 have e0 : howAt (txt (encTF busFr)) 3 [9] [(0, 0, 0), (0, 0, 0)] 0 = 2 := (hear_0 9).1.trans (by decide)
 have e1 : howAt (txt (encTF busFr)) 3 [9] [(0, 0, 0), (0, 0, 0)] 1 = 1 := (hear_0 0).1.trans (by decide)
 show [howAt _ _ _ _ 0, howAt _ _ _ _ 1] = _
 rw [e0, e1]
theorem flts_new (W : World) : Flts (W.alloc (.cells #[.int .i64 0, .int .i64 0, .int .i64 0, .int .i64 0, .int .i64 0, .int .i64 0] 61)) (W.heap.size + 1) (some ⟨W.heap.size, 0, none⟩) [(0, 0, 0), (0, 0, 0)] := fun _ => ⟨_, rfl, Nat.lt_succ_self _, fun j f hf => by
 have hj : j < 2 := (List.getElem?_eq_some_iff.1 hf).1
 have hh := heap_alloc_new W (.cells #[.int .i64 0, .int .i64 0, .int .i64 0, .int .i64 0, .int .i64 0, .int .i64 0] 61)
 rcases (show j = 0 ∨ j = 1 by omega) with rfl | rfl
 ·simp at hf; subst hf
  exact ⟨cell_of hh 0, cell_of hh 1, cell_of hh 2⟩
 ·simp at hf; subst hf
  exact ⟨cell_of hh 3, cell_of hh 4, cell_of hh 5⟩⟩
theorem row9_one (W : World) (x : Int) : V.Row (W.alloc (.cells #[.int .i64 x] 3)) (W.heap.size + 1) (some ⟨W.heap.size, 0, none⟩) [x] := fun _ => ⟨_, rfl, Nat.lt_succ_self _, fun j y hy => by
 have hj : j < 1 := (List.getElem?_eq_some_iff.1 hy).1
 obtain rfl : j = 0 := by omega
 simp at hy; subst hy
 exact cell_of (heap_alloc_new W (.cells #[.int .i64 x] 3)) 0⟩
theorem bus15 {W : World} {b : Nat} {u v : Value} (h : W.heap[b]? = some (.cells #[.int .i64 0, .int .i64 0, .int .i64 1, .int .i64 0, .int .i64 0, .int .i64 (-1), .int .i64 0, .int .i64 0, .int .i64 0, .int .i64 0, .int .i64 0, .int .i64 0, .int .i64 0, u, v] 29 (0, 0))) : W.cell? ⟨b, 0, none⟩ = some (.int .i64 0) ∧ W.cell? ⟨b, 1, none⟩ = some (.int .i64 0) ∧ W.cell? ⟨b, 2, none⟩ = some (.int .i64 1) ∧ W.cell? ⟨b, 3, none⟩ = some (.int .i64 0) ∧ W.cell? ⟨b, 4, none⟩ = some (.int .i64 0) ∧ W.cell? ⟨b, 5, none⟩ = some (.int .i64 (-1)) ∧ W.cell? ⟨b, 6, none⟩ = some (.int .i64 0) ∧ W.cell? ⟨b, 7, none⟩ = some (.int .i64 0) ∧ W.cell? ⟨b, 8, none⟩ = some (.int .i64 0) ∧ W.cell? ⟨b, 9, none⟩ = some (.int .i64 0) ∧ W.cell? ⟨b, 10, none⟩ = some (.int .i64 0) ∧ W.cell? ⟨b, 11, none⟩ = some (.int .i64 0) ∧ W.cell? ⟨b, 12, none⟩ = some (.int .i64 0) ∧ W.cell? ⟨b, 13, none⟩ = some (u) ∧ W.cell? ⟨b, 14, none⟩ = some (v) :=
 ⟨cell_of h 0, cell_of h 1, cell_of h 2, cell_of h 3, cell_of h 4, cell_of h 5, cell_of h 6, cell_of h 7, cell_of h 8, cell_of h 9, cell_of h 10, cell_of h 11, cell_of h 12, cell_of h 13, cell_of h 14⟩
def HearT (L : Value → Value → Array Value) (h : Int) (W : World) (e : Ending) (w' : World) : Prop := Below W.heap.size W w' ∧ ∃ A c A' c', e = .returned (.tuple #[.agg (L (.slice A 0 c) (.slice A' 0 c')), .int .i64 h])
theorem aw_good (W : World) (L : Laid W) : Calls Tryz.prog 34 #[.string (txt (encTF busFr)), flt 0 0 0, .int .i64 0, .int .i64 3] W (HearT (fun u v => #[.int .i64 0, .int .i64 0, .int .i64 1, .int .i64 0, .int .i64 0, .int .i64 (-1), .int .i64 0, .int .i64 0, .int .i64 0, .int .i64 0, .int .i64 0, .int .i64 0, .int .i64 0, u, v]) 1 W) := by
 have h := hear_any (txt (encTF busFr)) 0 0 0 0 3 (by rw [txt_size, bus_len]; decide) W L
 unfold HearPost at h
 rw [show hearV (passS (txt (encTF busFr)) 0 0 0) (passB 0 0 0) 0 3 = 1 from (hear_0 0).1.trans (by decide), (hear_0 0).2.1 (by decide)] at h
 exact h.mono fun e w' ⟨hb, A, c, A', c', he, _, _⟩ => ⟨hb, A, c, A', c', he⟩
theorem aw_lost (W : World) (L : Laid W) : Calls Tryz.prog 34 #[.string (txt (encTF busFr)), flt 1 0 0, .int .i64 0, .int .i64 3] W (HearT (fun u v => #[.int .i64 0, .int .i64 0, .int .i64 0, .int .i64 0, .int .i64 0, .int .i64 0, .int .i64 0, .int .i64 0, .int .i64 0, .int .i64 0, .int .i64 0, .int .i64 0, .int .i64 0, u, v]) 0 W) := by
 have h := hear_any (txt (encTF busFr)) 1 0 0 0 3 (by rw [txt_size, bus_len]; decide) W L
 unfold HearPost at h
 rw [hear_1.1, hear_1.2] at h
 exact h.mono fun e w' ⟨hb, A, c, A', c', he, _, _⟩ => ⟨hb, A, c, A', c', he⟩
theorem aw_bad (W : World) (L : Laid W) : Calls Tryz.prog 34 #[.string (txt (encTF busFr)), flt 2 9 1, .int .i64 0, .int .i64 3] W (HearT (fun u v => #[.int .i64 0, .int .i64 0, .int .i64 0, .int .i64 0, .int .i64 0, .int .i64 0, .int .i64 0, .int .i64 0, .int .i64 0, .int .i64 0, .int .i64 0, .int .i64 0, .int .i64 0, u, v]) 2 W) := by
 have h := hear_any (txt (encTF busFr)) 2 9 1 0 3 (by rw [txt_size, bus_len]; decide) W L
 unfold HearPost at h
 rw [hear_2.1, hear_2.2] at h
 exact h.mono fun e w' ⟨hb, A, c, A', c', he, _, _⟩ => ⟨hb, A, c, A', c', he⟩
theorem aw_far (W : World) (L : Laid W) : Calls Tryz.prog 34 #[.string (txt (encTF busFr)), flt 0 0 0, .int .i64 4, .int .i64 3] W (HearT (fun u v => #[.int .i64 0, .int .i64 0, .int .i64 0, .int .i64 0, .int .i64 0, .int .i64 0, .int .i64 0, .int .i64 0, .int .i64 0, .int .i64 0, .int .i64 0, .int .i64 0, .int .i64 0, u, v]) 2 W) := by
 have h := hear_any (txt (encTF busFr)) 0 0 0 4 3 (by rw [txt_size, bus_len]; decide) W L
 unfold HearPost at h
 rw [show hearV (passS (txt (encTF busFr)) 0 0 0) (passB 0 0 0) 4 3 = 2 from (hear_0 4).1.trans (by decide), (hear_0 4).2.2 (by decide)] at h
 exact h.mono fun e w' ⟨hb, A, c, A', c', he, _, _⟩ => ⟨hb, A, c, A', c', he⟩
theorem awake9_any (w : World) (L : Laid w) : Calls Tryz.prog 28 #[] w fun e w' => e = .returned (.bool true) ∧ Below w.heap.size w w' := by
 have cE := fun W (h : Laid W) => encFP_any busFr none 0 none 0 W h (F.Pcs.nil _ _ _) (Ents.nil _ _ _) (SmallF.nil _ rfl rfl)
 rw [encEF_right busFr_right] at cE
 have CE : Hid (∀ W, Laid W → Calls Tryz.prog 17 #[.agg #[.int .i64 0, .int .i64 0, .int .i64 1, .int .i64 0, .int .i64 0, .int .i64 (-1), .int .i64 0, .int .i64 0, .int .i64 0, .int .i64 0, .int .i64 0, .int .i64 0, .int .i64 0, .slice none 0 0, .slice none 0 0]] W fun e w' => e = .returned (.tuple #[.string (txt (encTF busFr)), .int .i64 0]) ∧ Below W.heap.size W w') := hid cE
 have H1 : Hid (∀ W, Laid W → Calls Tryz.prog 34 #[.string (txt (encTF busFr)), flt 0 0 0, .int .i64 0, .int .i64 3] W (HearT (fun u v => #[.int .i64 0, .int .i64 0, .int .i64 1, .int .i64 0, .int .i64 0, .int .i64 (-1), .int .i64 0, .int .i64 0, .int .i64 0, .int .i64 0, .int .i64 0, .int .i64 0, .int .i64 0, u, v]) 1 W)) := hid aw_good
 have H2 : Hid (∀ W, Laid W → Calls Tryz.prog 34 #[.string (txt (encTF busFr)), flt 1 0 0, .int .i64 0, .int .i64 3] W (HearT (fun u v => #[.int .i64 0, .int .i64 0, .int .i64 0, .int .i64 0, .int .i64 0, .int .i64 0, .int .i64 0, .int .i64 0, .int .i64 0, .int .i64 0, .int .i64 0, .int .i64 0, .int .i64 0, u, v]) 0 W)) := hid aw_lost
 have H3 : Hid (∀ W, Laid W → Calls Tryz.prog 34 #[.string (txt (encTF busFr)), flt 2 9 1, .int .i64 0, .int .i64 3] W (HearT (fun u v => #[.int .i64 0, .int .i64 0, .int .i64 0, .int .i64 0, .int .i64 0, .int .i64 0, .int .i64 0, .int .i64 0, .int .i64 0, .int .i64 0, .int .i64 0, .int .i64 0, .int .i64 0, u, v]) 2 W)) := hid aw_bad
 have H4 : Hid (∀ W, Laid W → Calls Tryz.prog 34 #[.string (txt (encTF busFr)), flt 0 0 0, .int .i64 4, .int .i64 3] W (HearT (fun u v => #[.int .i64 0, .int .i64 0, .int .i64 0, .int .i64 0, .int .i64 0, .int .i64 0, .int .i64 0, .int .i64 0, .int .i64 0, .int .i64 0, .int .i64 0, .int .i64 0, .int .i64 0, u, v]) 2 W)) := hid aw_far
 have cp := fun W => passP_any ⟨#[97]⟩ 0 0 0 (by decide) W
 rw [(pass_0 _).1, (pass_0 noS).2] at cp
 have CP := hid cp
 have ca := fun (ad ad' : Addr) (W : World) (hL : Laid W) (hD : V.Row W W.heap.size (some ad) [9]) (hF : Flts W W.heap.size (some ad') [(0, 0, 0), (0, 0, 0)]) => all_any (txt (encTF busFr)) (by rw [txt_size, bus_len]; decide) 3 [9] (some ad) 1 [(0, 0, 0), (0, 0, 0)] (some ad') 2 (by decide) (by decide) W hL hD hF
 rw [show ([(0, 0, 0), (0, 0, 0)] : List (Int × Int × Int)).length = 2 from rfl, howL_bus] at ca
 have CA := hid ca
 have CS : Hid (∀ (A A' : Option Addr) (c c' : Nat) (W : World), Calls Tryz.prog 24 #[.agg #[.int .i64 0, .int .i64 0, .int .i64 1, .int .i64 0, .int .i64 0, .int .i64 (-1), .int .i64 0, .int .i64 0, .int .i64 0, .int .i64 0, .int .i64 0, .int .i64 0, .int .i64 0, .slice A 0 c, .slice A' 0 c'], .agg #[.int .i64 0, .int .i64 0, .int .i64 1, .int .i64 0, .int .i64 0, .int .i64 (-1), .int .i64 0, .int .i64 0, .int .i64 0, .int .i64 0, .int .i64 0, .int .i64 0, .int .i64 0, .slice none 0 0, .slice none 0 0]] W fun e w' => e = .returned (.bool true) ∧ Below W.heap.size W w') := hid (fun A A' c c' W => by
  have h := refSame7_any busFr busFr A none A' none c 0 c' 0 W (F.Pcs.nil _ _ _) (Ents.nil _ _ _) (F.Pcs.nil _ _ _) (Ents.nil _ _ _) (by decide) (by decide) (fun x hx => by cases hx)
  rw [same_self] at h
  exact h)
 have CI := hid (fun (A A' : Option Addr) (c c' B B' : Nat) (W : World) (ha : V.Row W B A [2, 1]) (hb : V.Row W B' A' [2, 1]) => V.ints_any A A' c c' B B' [2, 1] [2, 1] W ha hb (by decide))
 have i1 := fun W => inside_any (-3) 3 W
 rw [show insideB (-3) 3 = true from by decide] at i1
 have i2 := fun W => inside_any 4 3 W
 rw [show insideB 4 3 = false from by decide] at i2
 have m1 := fun W => may9_any 0 0 0 W
 rw [show mayB 0 0 0 = true from by decide] at m1
 have m2 := fun W => may9_any 3 0 0 W
 rw [show mayB 3 0 0 = false from by decide] at m2
 have I1 := hid i1
 have I2 := hid i2
 have M1 := hid m1
 have M2 := hid m2
 have HL := hid L
 generalize txt (encTF busFr) = S1 at *
 clear cE cp ca i1 i2 m1 m2 L
 have HB0 := hid (Joins.below_alloc1 w (.cells #[.int .i64 0, .int .i64 0, .int .i64 1, .int .i64 0, .int .i64 0, .int .i64 (-1), .int .i64 0, .int .i64 0, .int .i64 0, .int .i64 0, .int .i64 0, .int .i64 0, .int .i64 0, .slice none 0 0, .slice none 0 0] 29))
 have HF0 : Hid ((w.alloc (.cells #[.int .i64 0, .int .i64 0, .int .i64 1, .int .i64 0, .int .i64 0, .int .i64 (-1), .int .i64 0, .int .i64 0, .int .i64 0, .int .i64 0, .int .i64 0, .int .i64 0, .int .i64 0, .slice none 0 0, .slice none 0 0] 29)).heap[w.heap.size]? = some (.cells #[.int .i64 0, .int .i64 0, .int .i64 1, .int .i64 0, .int .i64 0, .int .i64 (-1), .int .i64 0, .int .i64 0, .int .i64 0, .int .i64 0, .int .i64 0, .int .i64 0, .int .i64 0, .slice none 0 0, .slice none 0 0] 29 (0, 0))) := hid (heap_alloc_new w _)
 go_enter Tryz.func28, Tryz.ntmps28
 go_upto_region 2 with fail
 generalize w.alloc (.cells #[.int .i64 0, .int .i64 0, .int .i64 1, .int .i64 0, .int .i64 0, .int .i64 (-1), .int .i64 0, .int .i64 0, .int .i64 0, .int .i64 0, .int .i64 0, .int .i64 0, .int .i64 0, .slice none 0 0, .slice none 0 0] 29) = W0 at *
 have HLE : Hid (w.heap.size ≤ W0.heap.size) := hid HB0.out.size
 generalize (Value.agg #[.int .i64 0, .int .i64 0, .int .i64 1, .int .i64 0, .int .i64 0, .int .i64 (-1), .int .i64 0, .int .i64 0, .int .i64 0, .int .i64 0, .int .i64 0, .int .i64 0, .int .i64 0, .slice none 0 0, .slice none 0 0]) = d0
 obtain ⟨y0, y1, y2, y3, y4, y5, y6, y7, y8, y9, y10, y11, y12, y13, y14⟩ := bus15 HF0.out
 go_wp2_with fail
 refine (CE.out _ (HL.out.below HB0.out)).mono ?_; rintro e v1 ⟨rfl, b⟩
 have HB1 := hid (HB0.out.trans (b.mono HLE.out))
 have HF1 := hid ((b.block _ (Array.getElem?_eq_some_iff.1 HF0.out).1).trans HF0.out)
 clear b y0 y1 y2 y3 y4 y5 y6 y7 y8 y9 y10 y11 y12 y13 y14 HB0 HF0 HLE CE
 go_wp2_with fail
 generalize (Value.agg #[.int .i64 0, .int .i64 0, .int .i64 1, .int .i64 0, .int .i64 0, .int .i64 (-1), .int .i64 0, .int .i64 0, .int .i64 0, .int .i64 0, .int .i64 0, .int .i64 0, .int .i64 0, .slice none 0 0, .slice none 0 0]) = d00
 refine (H1.out _ (HL.out.below HB1.out)).mono ?_; rintro e w1 ⟨b, A1, c1, A1', c1', rfl⟩
 have bb := b.trans ((Joins.below_alloc1 w1 (.cells #[.int .i64 0, .int .i64 0, .int .i64 1, .int .i64 0, .int .i64 0, .int .i64 (-1), .int .i64 0, .int .i64 0, .int .i64 0, .int .i64 0, .int .i64 0, .int .i64 0, .int .i64 0, .slice A1 0 c1, .slice A1' 0 c1'] 29)).mono b.size)
 have HB2 := hid (HB1.out.trans (bb.mono HB1.out.size))
 have HF2 := hid ((bb.block _ (Array.getElem?_eq_some_iff.1 HF1.out).1).trans HF1.out)
 have HG2 : Hid ((w1.alloc (.cells #[.int .i64 0, .int .i64 0, .int .i64 1, .int .i64 0, .int .i64 0, .int .i64 (-1), .int .i64 0, .int .i64 0, .int .i64 0, .int .i64 0, .int .i64 0, .int .i64 0, .int .i64 0, .slice A1 0 c1, .slice A1' 0 c1'] 29)).heap[w1.heap.size]? = some (.cells #[.int .i64 0, .int .i64 0, .int .i64 1, .int .i64 0, .int .i64 0, .int .i64 (-1), .int .i64 0, .int .i64 0, .int .i64 0, .int .i64 0, .int .i64 0, .int .i64 0, .int .i64 0, .slice A1 0 c1, .slice A1' 0 c1'] 29 (0, 0))) := hid (heap_alloc_new _ _)
 clear b bb HB1 HF1 H1
 go_upto_region 4 with fail
 generalize (Value.tuple #[Value.agg #[.int .i64 0, .int .i64 0, .int .i64 1, .int .i64 0, .int .i64 0, .int .i64 (-1), .int .i64 0, .int .i64 0, .int .i64 0, .int .i64 0, .int .i64 0, .int .i64 0, .int .i64 0, .slice A1 0 c1, .slice A1' 0 c1'], Value.int .i64 1]) = d1
 generalize (Value.agg #[.int .i64 0, .int .i64 0, .int .i64 1, .int .i64 0, .int .i64 0, .int .i64 (-1), .int .i64 0, .int .i64 0, .int .i64 0, .int .i64 0, .int .i64 0, .int .i64 0, .int .i64 0, .slice A1 0 c1, .slice A1' 0 c1']) = e1
 generalize w1.alloc (.cells #[.int .i64 0, .int .i64 0, .int .i64 1, .int .i64 0, .int .i64 0, .int .i64 (-1), .int .i64 0, .int .i64 0, .int .i64 0, .int .i64 0, .int .i64 0, .int .i64 0, .int .i64 0, .slice A1 0 c1, .slice A1' 0 c1'] 29) = X1 at *
 generalize hg4 : w1.heap.size = g4 at *
 clear hg4
 go_wp2_with fail
 refine (H2.out _ (HL.out.below HB2.out)).mono ?_; rintro e w2 ⟨b, A2, c2, A2', c2', rfl⟩
 have bb := b.trans ((Joins.below_alloc1 w2 (.cells #[.int .i64 0, .int .i64 0, .int .i64 0, .int .i64 0, .int .i64 0, .int .i64 0, .int .i64 0, .int .i64 0, .int .i64 0, .int .i64 0, .int .i64 0, .int .i64 0, .int .i64 0, .slice A2 0 c2, .slice A2' 0 c2'] 29)).mono b.size)
 have HB3 := hid (HB2.out.trans (bb.mono HB2.out.size))
 have HF3 := hid ((bb.block _ (Array.getElem?_eq_some_iff.1 HF2.out).1).trans HF2.out)
 have HG3 := hid ((bb.block _ (Array.getElem?_eq_some_iff.1 HG2.out).1).trans HG2.out)
 clear b bb HB2 HF2 HG2 H2
 go_upto_region 5 with fail
 generalize (Value.tuple #[Value.agg #[.int .i64 0, .int .i64 0, .int .i64 0, .int .i64 0, .int .i64 0, .int .i64 0, .int .i64 0, .int .i64 0, .int .i64 0, .int .i64 0, .int .i64 0, .int .i64 0, .int .i64 0, .slice A2 0 c2, .slice A2' 0 c2'], Value.int .i64 0]) = d2
 generalize (Value.agg #[.int .i64 0, .int .i64 0, .int .i64 0, .int .i64 0, .int .i64 0, .int .i64 0, .int .i64 0, .int .i64 0, .int .i64 0, .int .i64 0, .int .i64 0, .int .i64 0, .int .i64 0, .slice A2 0 c2, .slice A2' 0 c2']) = e2
 generalize w2.alloc (.cells #[.int .i64 0, .int .i64 0, .int .i64 0, .int .i64 0, .int .i64 0, .int .i64 0, .int .i64 0, .int .i64 0, .int .i64 0, .int .i64 0, .int .i64 0, .int .i64 0, .int .i64 0, .slice A2 0 c2, .slice A2' 0 c2'] 29) = X2 at *
 try generalize w2.heap.size = g5 at *
 go_wp2_with fail
 refine (H3.out _ (HL.out.below HB3.out)).mono ?_; rintro e w3 ⟨b, A3, c3, A3', c3', rfl⟩
 have bb := b.trans ((Joins.below_alloc1 w3 (.cells #[.int .i64 0, .int .i64 0, .int .i64 0, .int .i64 0, .int .i64 0, .int .i64 0, .int .i64 0, .int .i64 0, .int .i64 0, .int .i64 0, .int .i64 0, .int .i64 0, .int .i64 0, .slice A3 0 c3, .slice A3' 0 c3'] 29)).mono b.size)
 have HB4 := hid (HB3.out.trans (bb.mono HB3.out.size))
 have HF4 := hid ((bb.block _ (Array.getElem?_eq_some_iff.1 HF3.out).1).trans HF3.out)
 have HG4 := hid ((bb.block _ (Array.getElem?_eq_some_iff.1 HG3.out).1).trans HG3.out)
 clear b bb HB3 HF3 HG3 H3
 go_upto_region 6 with fail
 generalize (Value.tuple #[Value.agg #[.int .i64 0, .int .i64 0, .int .i64 0, .int .i64 0, .int .i64 0, .int .i64 0, .int .i64 0, .int .i64 0, .int .i64 0, .int .i64 0, .int .i64 0, .int .i64 0, .int .i64 0, .slice A3 0 c3, .slice A3' 0 c3'], Value.int .i64 2]) = d3
 generalize (Value.agg #[.int .i64 0, .int .i64 0, .int .i64 0, .int .i64 0, .int .i64 0, .int .i64 0, .int .i64 0, .int .i64 0, .int .i64 0, .int .i64 0, .int .i64 0, .int .i64 0, .int .i64 0, .slice A3 0 c3, .slice A3' 0 c3']) = e3
 generalize w3.alloc (.cells #[.int .i64 0, .int .i64 0, .int .i64 0, .int .i64 0, .int .i64 0, .int .i64 0, .int .i64 0, .int .i64 0, .int .i64 0, .int .i64 0, .int .i64 0, .int .i64 0, .int .i64 0, .slice A3 0 c3, .slice A3' 0 c3'] 29) = X3 at *
 try generalize w3.heap.size = g6 at *
 go_wp2_with fail
 refine (H4.out _ (HL.out.below HB4.out)).mono ?_; rintro e w4 ⟨b, A4, c4, A4', c4', rfl⟩
 have bb := b.trans ((Joins.below_alloc1 w4 (.cells #[.int .i64 0, .int .i64 0, .int .i64 0, .int .i64 0, .int .i64 0, .int .i64 0, .int .i64 0, .int .i64 0, .int .i64 0, .int .i64 0, .int .i64 0, .int .i64 0, .int .i64 0, .slice A4 0 c4, .slice A4' 0 c4'] 29)).mono b.size)
 have HB5 := hid (HB4.out.trans (bb.mono HB4.out.size))
 have HF5 := hid ((bb.block _ (Array.getElem?_eq_some_iff.1 HF4.out).1).trans HF4.out)
 have HG5 := hid ((bb.block _ (Array.getElem?_eq_some_iff.1 HG4.out).1).trans HG4.out)
 clear b bb HB4 HF4 HG4 H4
 go_upto_region 7 with fail
 generalize (Value.tuple #[Value.agg #[.int .i64 0, .int .i64 0, .int .i64 0, .int .i64 0, .int .i64 0, .int .i64 0, .int .i64 0, .int .i64 0, .int .i64 0, .int .i64 0, .int .i64 0, .int .i64 0, .int .i64 0, .slice A4 0 c4, .slice A4' 0 c4'], Value.int .i64 2]) = d4
 generalize (Value.agg #[.int .i64 0, .int .i64 0, .int .i64 0, .int .i64 0, .int .i64 0, .int .i64 0, .int .i64 0, .int .i64 0, .int .i64 0, .int .i64 0, .int .i64 0, .int .i64 0, .int .i64 0, .slice A4 0 c4, .slice A4' 0 c4']) = e4
 generalize w4.alloc (.cells #[.int .i64 0, .int .i64 0, .int .i64 0, .int .i64 0, .int .i64 0, .int .i64 0, .int .i64 0, .int .i64 0, .int .i64 0, .int .i64 0, .int .i64 0, .int .i64 0, .int .i64 0, .slice A4 0 c4, .slice A4' 0 c4'] 29) = X4 at *
 try generalize w4.heap.size = g7 at *
 go_wp2_with fail
 refine (CP.out _).mono ?_; rintro e v6 ⟨rfl, b⟩
 have HB6 := hid (HB5.out.trans (b.mono HB5.out.size))
 have HF6 := hid ((b.block _ (Array.getElem?_eq_some_iff.1 HF5.out).1).trans HF5.out)
 have HG6 := hid ((b.block _ (Array.getElem?_eq_some_iff.1 HG5.out).1).trans HG5.out)
 clear b HB5 HF5 HG5 CP
 go_upto_region 8 with fail
 have b1 := Joins.below_alloc1 v6 (.cells #[.int .i64 9] 3)
 have hD := row9_one v6 9
 have hz := flts_new (v6.alloc (.cells #[.int .i64 9] 3))
 have b2 := Joins.below_alloc1 (v6.alloc (.cells #[.int .i64 9] 3)) (.cells #[.int .i64 0, .int .i64 0, .int .i64 0, .int .i64 0, .int .i64 0, .int .i64 0] 61)
 obtain ⟨P1, hP1⟩ : ∃ P, P = v6.alloc (.cells #[.int .i64 9] 3) := ⟨_, rfl⟩
 have hs1 : P1.heap.size = v6.heap.size + 1 := by rw [hP1, World.size_alloc]
 replace hD : V.Row P1 P1.heap.size (some ⟨v6.heap.size, 0, none⟩) [9] := by rw [hs1, hP1]; exact hD
 rw [← hP1] at hz b1 b2
 obtain ⟨P2, hP2⟩ : ∃ P, P = P1.alloc (.cells #[.int .i64 0, .int .i64 0, .int .i64 0, .int .i64 0, .int .i64 0, .int .i64 0] 61) := ⟨_, rfl⟩
 have hs2 : P2.heap.size = P1.heap.size + 1 := by rw [hP2, World.size_alloc]
 rw [← hP2] at hz b2
 rw [← hs2] at hz
 have b3 := b1.trans (b2.mono (by omega))
 have HB7 := hid (HB6.out.trans (b3.mono HB6.out.size))
 have HF7 := hid ((b3.block _ (Array.getElem?_eq_some_iff.1 HF6.out).1).trans HF6.out)
 have HG7 := hid ((b3.block _ (Array.getElem?_eq_some_iff.1 HG6.out).1).trans HG6.out)
 have CA7 := hid (CA.out ⟨v6.heap.size, 0, none⟩ ⟨P1.heap.size, 0, none⟩ P2 (HL.out.below HB7.out) ((hD.below b2 (Nat.le_refl _)).more b2.size) hz)
 clear CA hz hD b1 b2 b3 hs2 HB6 HF6 HG6
 subst hP2
 rw [hs1] at CA7
 subst hP1
 clear hs1
 go_wp2_with fail
 refine CA7.out.mono ?_; rintro e v7 ⟨u, rfl, ho, b⟩
 have HB8 := hid (HB7.out.trans (b.mono HB7.out.size))
 have HF8 := hid ((b.block _ (Array.getElem?_eq_some_iff.1 HF7.out).1).trans HF7.out)
 have HG8 := hid ((b.block _ (Array.getElem?_eq_some_iff.1 HG7.out).1).trans HG7.out)
 obtain ⟨U, uc, rfl, huc, hur⟩ := V.Row.of_own ho
 have HU := hid hur
 clear b HB7 HF7 HG7 CA7 ho hur huc
 go_upto_region 9 with fail
 obtain ⟨y0, y1, y2, y3, y4, y5, y6, y7, y8, y9, y10, y11, y12, y13, y14⟩ := bus15 HF8.out
 obtain ⟨z0, z1, z2, z3, z4, z5, z6, z7, z8, z9, z10, z11, z12, z13, z14⟩ := bus15 HG8.out
 go_wp2_with fail
 refine (CS.out A1 A1' c1 c1' _).mono ?_; rintro e v8 ⟨rfl, b⟩
 have HB9 := hid (HB8.out.trans (b.mono HB8.out.size))
 have hu9 := (HU.out.below b (Nat.le_refl _)).more b.size
 have b1 := Joins.below_alloc1 v8 (.cells #[.int .i64 2, .int .i64 1] 3)
 have CI9 := hid (CI.out U (some ⟨v8.heap.size, 0, none⟩) uc 2 _ _ (v8.alloc (.cells #[.int .i64 2, .int .i64 1] 3)) (hu9.below b1 (Nat.le_refl _)) (V.Row.two v8 2 1))
 have HBA := hid (HB9.out.trans (b1.mono HB9.out.size))
 clear b b1 hu9 HB8 HB9 HU HF8 HG8 CS CI y0 y1 y2 y3 y4 y5 y6 y7 y8 y9 y10 y11 y12 y13 y14 z0 z1 z2 z3 z4 z5 z6 z7 z8 z9 z10 z11 z12 z13 z14
 go_wp2_with fail
 refine CI9.out.mono ?_; rintro e v9 ⟨rfl, dn, rfl⟩
 have HBC := hid (below_drewN HBA.out dn)
 clear HBA CI9
 have hd : decide (([2, 1] : List Int) = [2, 1]) = true := by decide
 go_wp2_with fail
 refine (I1.out _).mono ?_; rintro e v10 ⟨rfl, rfl⟩
 go_wp2_with fail
 refine (I2.out _).mono ?_; rintro e v10 ⟨rfl, rfl⟩
 go_wp2_with fail
 refine (M1.out _).mono ?_; rintro e v11 ⟨rfl, b⟩
 have HBD := hid (HBC.out.trans (b.mono HBC.out.size)); clear b
 go_wp2_with fail
 refine (M2.out _).mono ?_; rintro e v12 ⟨rfl, b⟩
 have HBE := hid (HBD.out.trans (b.mono HBD.out.size)); clear b
 go_wp2_with fail
 go_ret
 exact ⟨rfl, HBE.out⟩
end Go.Proofs.YtmmbnjkdknnidaaGreatDoor

/-
  Frames compared: the document's Same.
-/
import Derived.Test.YtmmbnjkdknnidaaGreatDoorFrRightV
import Derived.Test.YtmmbnjkdknnidaaGreatDoorFragEncPV
import Derived.Test.YtmmbnjkdknnidaaGreatDoorFragTripV
import Derived.Test.YtmmbnjkdknnidaaGreatDoorEntEncPV
set_option maxHeartbeats 8000000
set_option maxRecDepth 100000
namespace Go.Proofs.YtmmbnjkdknnidaaGreatDoor
open Lib (hid)
open Go.RowKit
theorem piece_txt {p : F.Pc} (h : F.rightP p = true) : F.encP p = txt (F.encL p) := by
 rw [← F.encP_list h, txt_data']
theorem oneB_all {α : Type} {r : α → Bool} {l : List α} (h : oneB r l = true) : ∀ x ∈ l, r x = true := by
 rcases oneB_cases h with e | ⟨x, e, hx⟩
 ·rw [e]; intro y hy; cases hy
 ·rw [e]; intro y hy; rw [List.mem_singleton.1 hy]; exact hx
theorem oneB_len {α : Type} {r : α → Bool} {l : List α} (h : oneB r l = true) : l.length ≤ 1 := by
 rcases oneB_cases h with e | ⟨x, e, hx⟩ <;> rw [e] <;> simp
theorem flat_take {α : Type} {l : List α} {k : Nat} {x : α} (f : α → List UInt8) (h : l[k]? = some x) : (l.take (k + 1)).flatMap f = (l.take k).flatMap f ++ f x := by
 rw [List.take_add_one, h, List.flatMap_append]; simp
theorem flat_small {α : Type} (f : α → List UInt8) (b : Nat) : ∀ (l : List α), (∀ x ∈ l, (f x).length ≤ b) → (l.flatMap f).length ≤ b * l.length
 | [], _ => by simp
 | x :: l, h => by
  have h1 := flat_small f b l (fun y hy => h y (List.mem_cons_of_mem _ hy))
  have h2 := h x (List.mem_cons_self ..)
  rw [List.flatMap_cons, List.length_append, List.length_cons, Nat.mul_add]
  omega
theorem piece_small {p : F.Pc} (h : F.rightP p = true) : (F.encL p).length ≤ 21 := by
 have h1 := ((F.rightP_iff p).1 h).2.2.2.2
 unfold F.encL
 rw [List.length_append, ← Lib.size_eq]
 simp; omega
theorem partsP_any (A : Option Addr) (c : Nat) (l : List F.Pc) (w : World) (h : F.Pcs w w.heap.size A l) (hr : oneB F.rightP l = true) :
  Calls Tryz.prog 46 #[.slice A l.length c, .func (.func 47) #[] #[]] w fun e w' => e = .returned (.string (txt (l.flatMap F.encL))) ∧ Below w.heap.size w w' := by
 have hl1 := oneB_len hr
 have hall := oneB_all hr
 have HALL := hid hall
 have HSM : Hid (∀ k, ((l.take k).flatMap F.encL).length ≤ 21) := hid (fun k => by
  have h1 := flat_small F.encL 21 (l.take k) (fun x hx => piece_small (hall x (List.mem_of_mem_take hx)))
  rw [List.length_take] at h1
  omega)
 clear hall hr
 have hbk : (w.alloc (.cells #[.pointer none, .slice none 0 0] 130)).heap[w.heap.size]? = some (.cells #[.pointer none, .slice none 0 0] 130 (0, 0)) := World.alloc_heap_new w _
 have hbld : Lib.IsBuilder 130 5 w.heap.size w.heap.size (Lib.byteCells ((l.take 0).flatMap F.encL)) (w.alloc (.cells #[.pointer none, .slice none 0 0] 130)) := .inl ⟨Nat.le_refl _, _, hbk, World.ownsRow_nil _ _ _ _, by simp [Value.ownBlock]⟩
 have HBL := hid hbld; clear hbld hbk
 have hb0 := Joins.below_alloc1 w (.cells #[.pointer none, .slice none 0 0] 130)
 have HB := hid hb0
 have HP := hid h
 clear hb0 h
 generalize hg : w.heap.size = g at *
 have HGW : Hid (w.heap.size = g) := hid hg; clear hg
 go_enter Tryz.func46, Tryz.ntmps46
 go_upto_region 2 with (fail)
 generalize w.alloc (.cells #[.pointer none, .slice none 0 0] 130) = W1 at *
 (try rw [HGW.out])
 have HQ : Hid (g ≤ W1.heap.size) := hid (by have := HB.out.size; have := HGW.out; omega)
 go_wp2_with fail
 go_loopw [7, 8, 9, 12] (fun _ _ _ ix wr => ∃ k : Nat, k ≤ l.length ∧ ix = .int .i64 k ∧ Lib.IsBuilder 130 5 g g (Lib.byteCells ((l.take k).flatMap F.encL)) wr ∧ g ≤ wr.heap.size ∧ Below g w wr) (fun _ _ _ ix _ => l.length - (intOf ix).toNat)
 case atStart => exact ⟨0, by omega, rfl, HBL.out, HQ.out, HB.out⟩
 case round =>
  obtain ⟨k, hk, rfl, hbl, hqr, hb⟩ := hrel
  have HBLR := hid hbl; clear hbl
  have HQR := hid hqr; clear hqr
  have HBR := hid hb; clear hb HBL HB HQ
  by_cases hlt : k < l.length
  ·obtain ⟨m, hm⟩ : ∃ m, l[k]? = some m := ⟨_, List.getElem?_eq_getElem hlt⟩
   have hmr := HALL.out m (List.mem_of_getElem? hm)
   have hkI : (k : Int) < (l.length : Int) := by omega
   obtain ⟨ad, rfl, hadb, hcc⟩ := HP.out (by omega)
   have ce := fun W' => F.encP_any m (by have := ((F.rightP_iff m).1 hmr).2.2.2.2; unfold maxLen; omega) W'
   rw [piece_txt hmr, show F.encPE m = 0 by unfold F.encPE; rw [if_pos hmr]] at ce
   have hlen : (Lib.byteCells ((l.take k).flatMap F.encL)).length + (txt (F.encL m)).size ≤ 1000 := by
    have h1 := HSM.out k
    have h3 := piece_small hmr
    rw [lib_byteCells_length, txt_size]; omega
   have hnx : Lib.byteCells ((l.take k).flatMap F.encL) ++ Lib.strCells (txt (F.encL m)) = Lib.byteCells ((l.take (k + 1)).flatMap F.encL) := by
    rw [strCells_txt, ← byteCells_append, flat_take F.encL hm]
   have HLEN := hid hlen; clear hlen
   have HNX := hid hnx; clear hnx
   have qj : IntKind.i64.wrap ((k : Int) + 1) = (k : Int) + 1 := IntWalk.i64_in _ (by omega)
   obtain ⟨x0, x1, x2, x3⟩ := (hcc k m hm).keep (w' := wr) fun q hq => HBR.out.cell (by rw [hq, F.adb]; exact hadb)
   have hbn := Joins.below_alloc1 wr (.cells (F.pcl m) 53)
   have hM1 := F.PcAt.new wr m
   obtain ⟨m0, m1, m2, m3⟩ := m
   have HBL1 : Hid (Lib.IsBuilder 130 5 g g (Lib.byteCells ((l.take k).flatMap F.encL)) (wr.alloc (.cells #[.int .i64 m0, .int .i64 m1, .int .i64 m2, .string m3] 53))) := hid (HBLR.out.imp (fun h => builderAt_on h hbn) (fun h => builderAt_on h hbn))
   have HB1 := hid (HBR.out.trans (hbn.mono HQR.out))
   have HQ1 : Hid (g ≤ (wr.alloc (.cells #[.int .i64 m0, .int .i64 m1, .int .i64 m2, .string m3] 53)).heap.size) := hid (Nat.le_trans HQR.out hbn.size)
   have HM1 := hid hM1; clear hM1 hbn HBLR
   clear hcc hm hmr
   go_upto_region 5 with (fail)
   generalize wr.alloc (.cells #[.int .i64 m0, .int .i64 m1, .int .i64 m2, .string m3] 53) = W2 at *
   generalize wr.heap.size = gm at *
   clear x0 x1 x2 x3
   obtain ⟨x0, x1, x2, x3⟩ := HM1.out.cells
   generalize F.encL ⟨m0, m1, m2, m3⟩ = EM at *
   go_wp2_with fail; refine (ce _).mono ?_; rintro e w2 ⟨rfl, b2⟩
   have HBL2 : Hid (Lib.IsBuilder 130 5 g g (Lib.byteCells ((l.take k).flatMap F.encL)) w2) := hid (HBL1.out.imp (fun h => builderAt_on h b2) (fun h => builderAt_on h b2))
   have HB2 := hid (HB1.out.trans (b2.mono HQ1.out))
   have HQ2 : Hid (g ≤ w2.heap.size) := hid (Nat.le_trans HQ1.out b2.size)
   clear b2 HBL1 HB1 HQ1 x0 x1 x2 x3 HM1
   go_wp2_with fail; refine (writeString_any g g _ (txt EM) _ HBL2.out HLEN.out HQ2.out).mono ?_; rintro e w3 ⟨rfl, h3, b3, -⟩
   rw [HNX.out] at h3
   have HBL3 := hid h3; clear h3
   have HB3 := hid (HB2.out.trans b3)
   have HQ3 : Hid (g ≤ w3.heap.size) := hid (Nat.le_trans HQ2.out b3.size)
   clear b3
   go_wp2_with fail
   go_roundw
   case rel => exact ⟨k + 1, by omega, by go_num, .inr HBL3.out, HQ3.out, HB3.out⟩
   case measure => simp [intOf]; omega
  ·have ek : k = l.length := by omega
   have hkI : ¬ (k : Int) < (l.length : Int) := by omega
   have hbl := HBLR.out
   rw [ek, List.take_length] at hbl
   have HBLF := hid hbl; clear hbl HBLR
   have hsm := HSM.out l.length
   rw [List.take_length] at hsm
   obtain ⟨T, hT⟩ : ∃ T, T = l.flatMap F.encL := ⟨_, rfl⟩
   rw [← hT] at HBLF hsm
   have HT := hid hT; clear hT
   go_wp2_with fail
   refine (Builder_String_any_k g g T _ (Lib.IsBuilderF.of HBLF.out) HQR.out).mono ?_; rintro e w3 ⟨rfl, -, b3, -⟩
   have HB3 := hid (HBR.out.trans b3); clear b3
   go_wp2_with fail
   go_ret
   exact ⟨by rw [← HT.out]; rfl, HB3.out⟩
theorem partsE_any (A : Option Addr) (c : Nat) (l : List Ent) (w : World) (L : Laid w) (h : Ents w w.heap.size A l) (hr : oneB rightE l = true) :
  Calls Tryz.prog 48 #[.slice A l.length c, .func (.func 49) #[] #[]] w fun e w' => e = .returned (.string (txt (l.flatMap encEnt))) ∧ Below w.heap.size w w' := by
 have hl1 := oneB_len hr
 have hall := oneB_all hr
 have HALL := hid hall
 have HSM : Hid (∀ k, ((l.take k).flatMap encEnt).length ≤ 359) := hid (fun k => by
  have h1 := flat_small encEnt 359 (l.take k) (fun x hx => encEnt_small (hall x (List.mem_of_mem_take hx)))
  rw [List.length_take] at h1
  omega)
 clear hall hr
 have hbk : (w.alloc (.cells #[.pointer none, .slice none 0 0] 130)).heap[w.heap.size]? = some (.cells #[.pointer none, .slice none 0 0] 130 (0, 0)) := World.alloc_heap_new w _
 have hbld : Lib.IsBuilder 130 5 w.heap.size w.heap.size (Lib.byteCells ((l.take 0).flatMap encEnt)) (w.alloc (.cells #[.pointer none, .slice none 0 0] 130)) := .inl ⟨Nat.le_refl _, _, hbk, World.ownsRow_nil _ _ _ _, by simp [Value.ownBlock]⟩
 have HBL := hid hbld; clear hbld hbk
 have hb0 := Joins.below_alloc1 w (.cells #[.pointer none, .slice none 0 0] 130)
 have HB := hid hb0
 have HP := hid h
 have HL := hid L
 clear hb0 h L
 generalize hg : w.heap.size = g at *
 have HGW : Hid (w.heap.size = g) := hid hg; clear hg
 go_enter Tryz.func48, Tryz.ntmps48
 go_upto_region 2 with (fail)
 generalize w.alloc (.cells #[.pointer none, .slice none 0 0] 130) = W1 at *
 (try rw [HGW.out])
 have HQ : Hid (g ≤ W1.heap.size) := hid (by have := HB.out.size; have := HGW.out; omega)
 go_wp2_with fail
 go_loopw [7, 8, 9, 12] (fun _ _ _ ix wr => ∃ k : Nat, k ≤ l.length ∧ ix = .int .i64 k ∧ Lib.IsBuilder 130 5 g g (Lib.byteCells ((l.take k).flatMap encEnt)) wr ∧ g ≤ wr.heap.size ∧ Below g w wr) (fun _ _ _ ix _ => l.length - (intOf ix).toNat)
 case atStart => exact ⟨0, by omega, rfl, HBL.out, HQ.out, HB.out⟩
 case round =>
  obtain ⟨k, hk, rfl, hbl, hqr, hb⟩ := hrel
  have HBLR := hid hbl; clear hbl
  have HQR := hid hqr; clear hqr
  have HBR := hid hb; clear hb HBL HB HQ
  by_cases hlt : k < l.length
  ·obtain ⟨m, hm⟩ : ∃ m, l[k]? = some m := ⟨_, List.getElem?_eq_getElem hlt⟩
   have hmr := HALL.out m (List.mem_of_getElem? hm)
   have hkI : (k : Int) < (l.length : Int) := by omega
   obtain ⟨ad, rfl, hadb, hcc⟩ := HP.out (by omega)
   obtain ⟨P1, q1, P2, q2, hcl, hrow, hms⟩ := hcc k m hm
   have ce := fun W' (hb : Below g w W') => encEP_any m P1 q1 P2 q2 W' (HL.out.below (by rw [HGW.out]; exact hb)) ((hrow.below hb (Nat.le_refl _)).more (by have := hb.size; rw [HGW.out] at this; exact this)) ((hms.below hb (Nat.le_refl _)).more (by have := hb.size; rw [HGW.out] at this; exact this)) (by have := rightE_incs hmr; unfold maxLen; omega) (by have := rightE_msgs hmr; unfold maxLen; omega) (fun x hx => by have := rightM_data (rightE_each hmr x hx); unfold maxLen; omega)
   rw [encTE_right hmr, encEE_right hmr] at ce
   have hlen : (Lib.byteCells ((l.take k).flatMap encEnt)).length + (txt (encEnt m)).size ≤ 1000 := by
    have h1 := HSM.out k
    have h3 := encEnt_small hmr
    rw [lib_byteCells_length, txt_size]; omega
   have hnx : Lib.byteCells ((l.take k).flatMap encEnt) ++ Lib.strCells (txt (encEnt m)) = Lib.byteCells ((l.take (k + 1)).flatMap encEnt) := by
    rw [strCells_txt, ← byteCells_append, flat_take encEnt hm]
   have HLEN := hid hlen; clear hlen
   have HNX := hid hnx; clear hnx
   have qj : IntKind.i64.wrap ((k : Int) + 1) = (k : Int) + 1 := IntWalk.i64_in _ (by omega)
   obtain ⟨x0, x1, x2, x3, x4⟩ := hcl.keep (w' := wr) fun q hq => HBR.out.cell (by rw [hq, adb]; exact hadb)
   have hbn := Joins.below_alloc1 wr (.cells #[.int .i64 m.t, .int .i64 m.ep, .int .i64 m.mem, .slice P1 m.incs.length q1, .slice P2 m.msgs.length q2] 37)
   have hM1 := EntAt.new wr m.t m.ep m.mem (.slice P1 m.incs.length q1) (.slice P2 m.msgs.length q2)
   have HBL1 : Hid (Lib.IsBuilder 130 5 g g (Lib.byteCells ((l.take k).flatMap encEnt)) (wr.alloc (.cells #[.int .i64 m.t, .int .i64 m.ep, .int .i64 m.mem, .slice P1 m.incs.length q1, .slice P2 m.msgs.length q2] 37))) := hid (HBLR.out.imp (fun h => builderAt_on h hbn) (fun h => builderAt_on h hbn))
   have HB1 := hid (HBR.out.trans (hbn.mono HQR.out))
   have HQ1 : Hid (g ≤ (wr.alloc (.cells #[.int .i64 m.t, .int .i64 m.ep, .int .i64 m.mem, .slice P1 m.incs.length q1, .slice P2 m.msgs.length q2] 37)).heap.size) := hid (Nat.le_trans HQR.out hbn.size)
   have HM1 := hid hM1; clear hM1 hbn HBLR
   clear hcc hm hmr hcl hrow hms
   go_upto_region 5 with (fail)
   generalize wr.alloc (.cells #[.int .i64 m.t, .int .i64 m.ep, .int .i64 m.mem, .slice P1 m.incs.length q1, .slice P2 m.msgs.length q2] 37) = W2 at *
   generalize wr.heap.size = gm at *
   clear x0 x1 x2 x3 x4
   obtain ⟨x0, x1, x2, x3, x4⟩ := HM1.out.cells
   generalize encEnt m = EM at *
   go_wp2_with fail; refine (ce _ HB1.out).mono ?_; rintro e w2 ⟨rfl, b2⟩
   have HBL2 : Hid (Lib.IsBuilder 130 5 g g (Lib.byteCells ((l.take k).flatMap encEnt)) w2) := hid (HBL1.out.imp (fun h => builderAt_on h b2) (fun h => builderAt_on h b2))
   have HB2 := hid (HB1.out.trans (b2.mono HQ1.out))
   have HQ2 : Hid (g ≤ w2.heap.size) := hid (Nat.le_trans HQ1.out b2.size)
   clear b2 HBL1 HB1 HQ1 x0 x1 x2 x3 x4 HM1
   go_wp2_with fail; refine (writeString_any g g _ (txt EM) _ HBL2.out HLEN.out HQ2.out).mono ?_; rintro e w3 ⟨rfl, h3, b3, -⟩
   rw [HNX.out] at h3
   have HBL3 := hid h3; clear h3
   have HB3 := hid (HB2.out.trans b3)
   have HQ3 : Hid (g ≤ w3.heap.size) := hid (Nat.le_trans HQ2.out b3.size)
   clear b3
   go_wp2_with fail
   go_roundw
   case rel => exact ⟨k + 1, by omega, by go_num, .inr HBL3.out, HQ3.out, HB3.out⟩
   case measure => simp [intOf]; omega
  ·have ek : k = l.length := by omega
   have hkI : ¬ (k : Int) < (l.length : Int) := by omega
   have hbl := HBLR.out
   rw [ek, List.take_length] at hbl
   have HBLF := hid hbl; clear hbl HBLR
   have hsm := HSM.out l.length
   rw [List.take_length] at hsm
   obtain ⟨T, hT⟩ : ∃ T, T = l.flatMap encEnt := ⟨_, rfl⟩
   rw [← hT] at HBLF hsm
   have HT := hid hT; clear hT
   go_wp2_with fail
   refine (Builder_String_any_k g g T _ (Lib.IsBuilderF.of HBLF.out) HQR.out).mono ?_; rintro e w3 ⟨rfl, -, b3, -⟩
   have HB3 := hid (HBR.out.trans b3); clear b3
   go_wp2_with fail
   go_ret
   exact ⟨by rw [← HT.out]; rfl, HB3.out⟩
def sameEs : List Ent → List Ent → Bool
 | [], [] => true
 | a :: l, b :: m => sameE a b && sameEs l m
 | _, _ => false
theorem sameEs_iff : ∀ (a b : List Ent), sameEs a b = true ↔ a = b
 | [], [] => by simp [sameEs]
 | [], _ :: _ => by simp [sameEs]
 | _ :: _, [] => by simp [sameEs]
 | a :: l, b :: m => by
  unfold sameEs
  rw [Bool.and_eq_true, sameE_iff, sameEs_iff l m, List.cons.injEq]
theorem sameEs_no {a b : List Ent} (h : a ≠ b) : sameEs a b = false := by
 rw [← Bool.not_eq_true, sameEs_iff]; exact h
theorem refAll_any (A A' : Option Addr) (c c' B B' : Nat) (a b : List Ent) (w : World) (ha : Ents w B A a) (hb : Ents w B' A' b) (hB : B ≤ w.heap.size) (hB' : B' ≤ w.heap.size) (hl : a.length ≤ maxLen) (hea : ∀ x ∈ a, x.incs.length ≤ maxLen ∧ x.msgs.length ≤ maxLen) :
  Calls Tryz.prog 69 #[.slice A a.length c, .slice A' b.length c'] w fun e w' => e = .returned (.bool (sameEs a b)) ∧ Below w.heap.size w w' := by
 unfold maxLen at hl
 have HA := hid (ha.more hB)
 have HB := hid (hb.more hB')
 have HEA := hid hea
 have HS := hid (fun h => sameEs_no (a := a) (b := b) h)
 have HS1 := hid (sameEs_iff a b)
 clear ha hb hea hB hB'
 generalize sameEs a b = R at *
 go_enter Tryz.func69, Tryz.ntmps69
 by_cases hn : (a.length : Int) = (b.length : Int)
 ·have hq : ((a.length : Int) != (b.length : Int)) = false := by simpa using hn
  have HN : Hid (a.length = b.length) := hid (by omega)
  clear hn
  go_wp2_with fail
  go_loopw [5] (fun ix wr => ∃ k : Nat, k ≤ a.length ∧ ix = .int .i64 (k : Int) ∧ a.take k = b.take k ∧ Below w.heap.size w wr) (fun ix _ => a.length - (intOf ix).toNat)
  case atStart => exact ⟨0, by omega, rfl, rfl, Below.refl _ _⟩
  case round =>
   obtain ⟨k, hk, rfl, htk, hbr⟩ := hrel
   have HBR := hid hbr; clear hbr
   have HTK := hid htk; clear htk
   by_cases hlt : k < a.length
   ·have hkI : (k : Int) < (a.length : Int) := by omega
    have hkJ : (k : Int) < (b.length : Int) := by have := HN.out; omega
    have hk0 : (0 : Int) ≤ (k : Int) := by omega
    have hkw : IntKind.i64.wrap ((k : Int) + 1) = (k : Int) + 1 := IntWalk.i64_in _ (by omega)
    obtain ⟨x, hx⟩ : ∃ x, a[k]? = some x := ⟨_, List.getElem?_eq_getElem hlt⟩
    obtain ⟨y, hy⟩ : ∃ y, b[k]? = some y := ⟨_, List.getElem?_eq_getElem (by have := HN.out; omega)⟩
    have hxl := HEA.out x (List.mem_of_getElem? hx)
    obtain ⟨ad, rfl, hadb, hcc⟩ := HA.out (by omega)
    obtain ⟨bd, rfl, hbdb, hdd⟩ := HB.out (by have := HN.out; omega)
    obtain ⟨P1, q1, P2, q2, hcl, hrow, hms⟩ := hcc k x hx
    obtain ⟨R1, s1, R2, s2, hcl', hrow', hms'⟩ := hdd k y hy
    have CS := hid (fun W (hb : Below wr.heap.size wr W) => refSameE_any x y P1 P2 q1 q2 R1 R2 s1 s2 W ((hrow.below (HBR.out.trans (hb.mono HBR.out.size)) (Nat.le_refl _)).more (Nat.le_trans HBR.out.size hb.size)) ((hms.below (HBR.out.trans (hb.mono HBR.out.size)) (Nat.le_refl _)).more (Nat.le_trans HBR.out.size hb.size)) ((hrow'.below (HBR.out.trans (hb.mono HBR.out.size)) (Nat.le_refl _)).more (Nat.le_trans HBR.out.size hb.size)) ((hms'.below (HBR.out.trans (hb.mono HBR.out.size)) (Nat.le_refl _)).more (Nat.le_trans HBR.out.size hb.size)) hxl.1 hxl.2)
    have H1 := hid hcl
    have H2 := hid hcl'
    have HX := hid hx
    have HY := hid hy
    have HAD := hid hadb
    have HBD := hid hbdb
    have HSX := hid (sameE_iff x y)
    clear hcc hdd hcl hcl' hrow hrow' hms hms' hx hy hxl hadb hbdb
    generalize sameE x y = D at *
    go_wp2_with fail
    have HST : Hid (∀ w', Below wr.heap.size wr w' → (((w'.cell? (ad.add (k * 5)) = some (.int .i64 x.t) ∧ w'.cell? ⟨(ad.add (k * 5)).block, (ad.add (k * 5)).off + 1, none⟩ = some (.int .i64 x.ep) ∧ w'.cell? ⟨(ad.add (k * 5)).block, (ad.add (k * 5)).off + 2, none⟩ = some (.int .i64 x.mem) ∧ w'.cell? ⟨(ad.add (k * 5)).block, (ad.add (k * 5)).off + 3, none⟩ = some (.slice P1 x.incs.length q1) ∧ w'.cell? ⟨(ad.add (k * 5)).block, (ad.add (k * 5)).off + 4, none⟩ = some (.slice P2 x.msgs.length q2)) ∧ (w'.cell? (bd.add (k * 5)) = some (.int .i64 y.t) ∧ w'.cell? ⟨(bd.add (k * 5)).block, (bd.add (k * 5)).off + 1, none⟩ = some (.int .i64 y.ep) ∧ w'.cell? ⟨(bd.add (k * 5)).block, (bd.add (k * 5)).off + 2, none⟩ = some (.int .i64 y.mem) ∧ w'.cell? ⟨(bd.add (k * 5)).block, (bd.add (k * 5)).off + 3, none⟩ = some (.slice R1 y.incs.length s1) ∧ w'.cell? ⟨(bd.add (k * 5)).block, (bd.add (k * 5)).off + 4, none⟩ = some (.slice R2 y.msgs.length s2))) ∧ Below wr.heap.size wr w')) := hid fun w' hb => ⟨⟨H1.out.keep fun q hq => (HBR.out.trans (hb.mono HBR.out.size)).cell (by rw [hq, adb]; exact HAD.out), H2.out.keep fun q hq => (HBR.out.trans (hb.mono HBR.out.size)).cell (by rw [hq, adb]; exact HBD.out)⟩, hb⟩
    have HST2 : Hid (∀ w' w'', (((w'.cell? (ad.add (k * 5)) = some (.int .i64 x.t) ∧ w'.cell? ⟨(ad.add (k * 5)).block, (ad.add (k * 5)).off + 1, none⟩ = some (.int .i64 x.ep) ∧ w'.cell? ⟨(ad.add (k * 5)).block, (ad.add (k * 5)).off + 2, none⟩ = some (.int .i64 x.mem) ∧ w'.cell? ⟨(ad.add (k * 5)).block, (ad.add (k * 5)).off + 3, none⟩ = some (.slice P1 x.incs.length q1) ∧ w'.cell? ⟨(ad.add (k * 5)).block, (ad.add (k * 5)).off + 4, none⟩ = some (.slice P2 x.msgs.length q2)) ∧ (w'.cell? (bd.add (k * 5)) = some (.int .i64 y.t) ∧ w'.cell? ⟨(bd.add (k * 5)).block, (bd.add (k * 5)).off + 1, none⟩ = some (.int .i64 y.ep) ∧ w'.cell? ⟨(bd.add (k * 5)).block, (bd.add (k * 5)).off + 2, none⟩ = some (.int .i64 y.mem) ∧ w'.cell? ⟨(bd.add (k * 5)).block, (bd.add (k * 5)).off + 3, none⟩ = some (.slice R1 y.incs.length s1) ∧ w'.cell? ⟨(bd.add (k * 5)).block, (bd.add (k * 5)).off + 4, none⟩ = some (.slice R2 y.msgs.length s2))) ∧ Below wr.heap.size wr w') → Below w'.heap.size w' w'' → (((w''.cell? (ad.add (k * 5)) = some (.int .i64 x.t) ∧ w''.cell? ⟨(ad.add (k * 5)).block, (ad.add (k * 5)).off + 1, none⟩ = some (.int .i64 x.ep) ∧ w''.cell? ⟨(ad.add (k * 5)).block, (ad.add (k * 5)).off + 2, none⟩ = some (.int .i64 x.mem) ∧ w''.cell? ⟨(ad.add (k * 5)).block, (ad.add (k * 5)).off + 3, none⟩ = some (.slice P1 x.incs.length q1) ∧ w''.cell? ⟨(ad.add (k * 5)).block, (ad.add (k * 5)).off + 4, none⟩ = some (.slice P2 x.msgs.length q2)) ∧ (w''.cell? (bd.add (k * 5)) = some (.int .i64 y.t) ∧ w''.cell? ⟨(bd.add (k * 5)).block, (bd.add (k * 5)).off + 1, none⟩ = some (.int .i64 y.ep) ∧ w''.cell? ⟨(bd.add (k * 5)).block, (bd.add (k * 5)).off + 2, none⟩ = some (.int .i64 y.mem) ∧ w''.cell? ⟨(bd.add (k * 5)).block, (bd.add (k * 5)).off + 3, none⟩ = some (.slice R1 y.incs.length s1) ∧ w''.cell? ⟨(bd.add (k * 5)).block, (bd.add (k * 5)).off + 4, none⟩ = some (.slice R2 y.msgs.length s2))) ∧ Below wr.heap.size wr w'')) := hid fun w' w'' h hb => HST.out w'' (below_trans h.2 hb)
    go_region_held3 (fun w' => ((w'.cell? (ad.add (k * 5)) = some (.int .i64 x.t) ∧ w'.cell? ⟨(ad.add (k * 5)).block, (ad.add (k * 5)).off + 1, none⟩ = some (.int .i64 x.ep) ∧ w'.cell? ⟨(ad.add (k * 5)).block, (ad.add (k * 5)).off + 2, none⟩ = some (.int .i64 x.mem) ∧ w'.cell? ⟨(ad.add (k * 5)).block, (ad.add (k * 5)).off + 3, none⟩ = some (.slice P1 x.incs.length q1) ∧ w'.cell? ⟨(ad.add (k * 5)).block, (ad.add (k * 5)).off + 4, none⟩ = some (.slice P2 x.msgs.length q2)) ∧ (w'.cell? (bd.add (k * 5)) = some (.int .i64 y.t) ∧ w'.cell? ⟨(bd.add (k * 5)).block, (bd.add (k * 5)).off + 1, none⟩ = some (.int .i64 y.ep) ∧ w'.cell? ⟨(bd.add (k * 5)).block, (bd.add (k * 5)).off + 2, none⟩ = some (.int .i64 y.mem) ∧ w'.cell? ⟨(bd.add (k * 5)).block, (bd.add (k * 5)).off + 3, none⟩ = some (.slice R1 y.incs.length s1) ∧ w'.cell? ⟨(bd.add (k * 5)).block, (bd.add (k * 5)).off + 4, none⟩ = some (.slice R2 y.msgs.length s2))) ∧ Below wr.heap.size wr w') (first | assumption | exact HST.out _ (Below.refl _ _).drew | exact HST2.out _ _ (by assumption) (by assumption)) (first | (go_at_call 112; refine (CS.out _ (by first | assumption | exact (Below.refl _ _).drew)).mono ?_; rintro e w3 ⟨rfl, b3⟩))
    have HB3 := hid (HBR.out.trans ((((Below.refl wr.heap.size wr).drew).trans b3).mono HBR.out.size))
    clear b3 HST HST2
    cases D
    ·go_wp2_with fail
     go_ret
     exact ⟨ret_b (HS.out (fun e => by
      subst e
      have : x = y := Option.some.inj (HX.out.symm.trans HY.out)
      have h9 := HSX.out.2 this
      cases h9)).symm, HB3.out⟩
    ·go_wp2_with fail
     go_roundw
     case rel => exact ⟨k + 1, by omega, by go_num, by
      rw [List.take_add_one, List.take_add_one, HTK.out, HX.out, HY.out, HSX.out.1 rfl], HB3.out⟩
     case measure => simp [intOf]; omega
   ·have hkI : ¬ (k : Int) < (a.length : Int) := by omega
    have HT : Hid (true = R) := hid (by
     have h1 := HTK.out
     have h2 := HN.out
     rw [List.take_of_length_le (by omega), List.take_of_length_le (by omega)] at h1
     exact (HS1.out.2 h1).symm)
    go_wp2_with fail
    go_ret
    exact ⟨ret_b HT.out, HBR.out⟩
 ·have hq : ((a.length : Int) != (b.length : Int)) = true := by simpa using hn
  have HT : Hid (false = R) := hid (HS.out (fun e => hn (by rw [e]))).symm
  clear hn
  go_wp2_with fail
  go_ret
  exact ⟨ret_b HT.out, Below.refl _ _⟩
def sameF (a b : Fr) : Bool := decide (numsF a = numsF b) && (decide (a.snd = b.snd) && (decide (a.role = b.role) && (decide (a.vote = b.vote) && (F.samePL a.ps b.ps && sameEs a.es b.es))))
theorem sameF_iff (a b : Fr) : sameF a b = true ↔ a = b := by
 unfold sameF
 rw [Bool.and_eq_true, Bool.and_eq_true, Bool.and_eq_true, Bool.and_eq_true, Bool.and_eq_true, F.samePL_iff, sameEs_iff]
 simp only [decide_eq_true_iff]
 obtain ⟨a0, a1, a2, a3, a4, a5, a6, a7, a8, a9, a10, a11, a12, ps, es⟩ := a
 obtain ⟨b0, b1, b2, b3, b4, b5, b6, b7, b8, b9, b10, b11, b12, ps', es'⟩ := b
 unfold numsF
 simp only [List.cons.injEq, Fr.mk.injEq]
 constructor
 ·rintro ⟨⟨h1, h2, h3, h4, h5, h6, h7, h8, h9, h10, -⟩, g1, g2, g3, g4, g5⟩
  exact ⟨g1, h1, h2, h3, g2, g3, h4, h5, h6, h7, h8, h9, h10, g4, g5⟩
 ·rintro ⟨g1, h1, h2, h3, g2, g3, h4, h5, h6, h7, h8, h9, h10, g4, g5⟩
  exact ⟨⟨h1, h2, h3, h4, h5, h6, h7, h8, h9, h10, trivial⟩, g1, g2, g3, g4, g5⟩
theorem ne_of_nums {l m : List Int} {k : Nat} {x y : Int} (hx : l[k]? = some x) (hy : m[k]? = some y) (h : x ≠ y) : l ≠ m := by
 rintro rfl
 exact h (Option.some.inj (hx.symm.trans hy))
theorem refSame7_any (a b : Fr) (A B A' B' : Option Addr) (c d c' d' : Nat) (w : World) (hP : F.Pcs w w.heap.size A a.ps) (hE : Ents w w.heap.size A' a.es) (hQ : F.Pcs w w.heap.size B b.ps) (hG : Ents w w.heap.size B' b.es) (hpl : a.ps.length ≤ maxLen) (hel : a.es.length ≤ maxLen) (hed : ∀ x ∈ a.es, x.incs.length ≤ maxLen ∧ x.msgs.length ≤ maxLen) :
  Calls Tryz.prog 24 #[fv a (.slice A a.ps.length c) (.slice A' a.es.length c'), fv b (.slice B b.ps.length d) (.slice B' b.es.length d')] w fun e w' => e = .returned (.bool (sameF a b)) ∧ Below w.heap.size w w' := by
 have HD : Hid (sameF a b = (decide (numsF a = numsF b) && (decide (a.snd = b.snd) && (decide (a.role = b.role) && (decide (a.vote = b.vote) && (F.samePL a.ps b.ps && sameEs a.es b.es)))))) := hid rfl
 generalize sameF a b = R at *
 have b0 := Joins.below_alloc2 w (.cells (fc a (.slice A a.ps.length c) (.slice A' a.es.length c')) 29) (.cells (fc b (.slice B b.ps.length d) (.slice B' b.es.length d')) 29)
 have a0 := (FrAt.new w a (.slice A a.ps.length c) (.slice A' a.es.length c')).on (Joins.below_alloc1 _ (.cells (fc b (.slice B b.ps.length d) (.slice B' b.es.length d')) 29))
 have a1 := FrAt.new (w.alloc (.cells (fc a (.slice A a.ps.length c) (.slice A' a.es.length c')) 29)) b (.slice B b.ps.length d) (.slice B' b.es.length d')
 rw [World.size_alloc] at a1
 have CN1 := hid (fun W => refNumbers_any a (.slice A a.ps.length c) (.slice A' a.es.length c') W)
 have CN2 := hid (fun W => refNumbers_any b (.slice B b.ps.length d) (.slice B' b.es.length d') W)
 have CP := hid (fun W (h : Below w.heap.size w W) => F.refPieces_any A B c d _ _ a.ps b.ps W ((hP.below h (Nat.le_refl _)).more h.size) ((hQ.below h (Nat.le_refl _)).more h.size) hpl)
 have CE := hid (fun W (h : Below w.heap.size w W) => refAll_any A' B' c' d' _ _ a.es b.es W ((hE.below h (Nat.le_refl _)).more h.size) ((hG.below h (Nat.le_refl _)).more h.size) (Nat.le_refl _) (Nat.le_refl _) hel hed)
 have HB0 := hid b0
 have HA0 := hid a0
 have HC0 := hid a1
 have hn1 : (numsF a).length = 10 := rfl
 have hn2 : (numsF b).length = 10 := rfl
 have HN1 := hid hn1; have HN2 := hid hn2
 clear b0 a0 a1 hP hE hQ hG hpl hel hed hn1 hn2
 obtain ⟨y0, y1, y2, y3, y4, y5, y6, y7, y8, y9, y10, y11, y12, y13, y14⟩ := HA0.out.cells
 go_enter Tryz.func24, Tryz.ntmps24
 go_wp2_with fail
 generalize (w.alloc (.cells (fc a (.slice A a.ps.length c) (.slice A' a.es.length c')) 29)).alloc (.cells (fc b (.slice B b.ps.length d) (.slice B' b.es.length d')) 29) = W0 at *
 refine (CN1.out _).mono ?_; rintro e w1 ⟨M1, rfl, hr1, b1⟩
 have HB1 := hid (HB0.out.trans (b1.mono HB0.out.size))
 have HA1 := hid (HA0.out.on b1)
 have HC1 := hid (HC0.out.on b1)
 have HR1 := hid hr1
 clear y0 y1 y2 y3 y4 y5 y6 y7 y8 y9 y10 y11 y12 y13 y14 b1 hr1 HA0 HC0
 obtain ⟨y0, y1, y2, y3, y4, y5, y6, y7, y8, y9, y10, y11, y12, y13, y14⟩ := HC1.out.cells
 go_wp2_with fail
 refine (CN2.out _).mono ?_; rintro e w2 ⟨M2, rfl, hr2, b2⟩
 have HB2 := hid (HB1.out.trans (b2.mono HB1.out.size))
 have HA2 := hid (HA1.out.on b2)
 have HC2 := hid (HC1.out.on b2)
 have HR2 := hid hr2
 have HR12 := hid (HR1.out.below b2 (Nat.le_refl _))
 have HSZ := hid b2.size
 clear y0 y1 y2 y3 y4 y5 y6 y7 y8 y9 y10 y11 y12 y13 y14 b2 hr2 HA1 HC1 HR1
 go_wp2_with fail
 go_loopw [7] (fun ix wr => ∃ k : Nat, k ≤ 10 ∧ ix = .int .i64 (k : Int) ∧ (numsF a).take k = (numsF b).take k ∧ Below w2.heap.size w2 wr) (fun ix _ => 10 - (intOf ix).toNat)
 case atStart => exact ⟨0, by omega, rfl, rfl, Below.refl _ _⟩
 case round =>
  obtain ⟨k, hk, rfl, htk, hbr⟩ := hrel
  have HBR := hid hbr; clear hbr
  have HTK := hid htk; clear htk
  have HBA := hid (HB2.out.trans (HBR.out.mono HB2.out.size))
  by_cases hlt : k < 10
  ·have hkI : (k : Int) < 10 := by omega
   have hk0 : (0 : Int) ≤ (k : Int) := by omega
   have hkw : IntKind.i64.wrap ((k : Int) + 1) = (k : Int) + 1 := IntWalk.i64_in _ (by omega)
   obtain ⟨x, hx⟩ : ∃ x, (numsF a)[k]? = some x := ⟨_, List.getElem?_eq_getElem (by have := HN1.out; omega)⟩
   obtain ⟨y, hy⟩ : ∃ y, (numsF b)[k]? = some y := ⟨_, List.getElem?_eq_getElem (by have := HN2.out; omega)⟩
   obtain ⟨ad, rfl, hadb, hcc⟩ := HR12.out (by have := HN1.out; omega)
   obtain ⟨bd, rfl, hbdb, hdd⟩ := HR2.out (by have := HN2.out; omega)
   have hc1 := (HBR.out.cell (p := ad.add k) (by rw [V.adb]; exact Nat.lt_of_lt_of_le hadb HSZ.out)).trans (hcc k x hx)
   have hc2 := (HBR.out.cell (p := bd.add k) (by rw [V.adb]; exact hbdb)).trans (hdd k y hy)
   have HX := hid hx; have HY := hid hy
   clear hcc hdd hx hy hadb hbdb
   by_cases hxy : x = y
   ·subst hxy
    go_wp2_with fail
    go_quiet (fail)
    go_wp2_with fail
    go_roundw
    case rel => exact ⟨k + 1, by omega, by go_num, by rw [List.take_add_one, List.take_add_one, HTK.out, HX.out, HY.out], below_drewN HBR.out _⟩
    case measure => simp [intOf]; omega
   ·have hne : (x != y) = true := by simpa using hxy
    have HF : Hid (false = R) := hid (by rw [HD.out, decide_eq_false (ne_of_nums HX.out HY.out hxy)]; rfl)
    clear hxy
    go_wp2_with fail
    go_quiet (fail)
    go_wp2_with fail
    go_ret
    exact ⟨ret_b HF.out, below_drewN HBA.out _⟩
  ·have hkI : ¬ (k : Int) < 10 := by omega
   have HNN : Hid (R = (decide (a.snd = b.snd) && (decide (a.role = b.role) && (decide (a.vote = b.vote) && (F.samePL a.ps b.ps && sameEs a.es b.es))))) := hid (by
    have h1 := HTK.out
    rw [List.take_of_length_le (by have := HN1.out; omega), List.take_of_length_le (by have := HN2.out; omega)] at h1
    rw [HD.out, decide_eq_true h1]; rfl)
   clear HD HTK
   obtain ⟨y0, y1, y2, y3, y4, y5, y6, y7, y8, y9, y10, y11, y12, y13, y14⟩ := (HA2.out.on HBR.out).cells
   obtain ⟨z0, z1, z2, z3, z4, z5, z6, z7, z8, z9, z10, z11, z12, z13, z14⟩ := (HC2.out.on HBR.out).cells
   clear y1 y2 y3 y6 y7 y8 y9 y10 y11 y12 z1 z2 z3 z6 z7 z8 z9 z10 z11 z12
   by_cases g1 : a.snd = b.snd
   ·have q1 : ((a.snd : Int) == b.snd) = true := by simpa using g1
    have H1 := hid g1; clear g1
    by_cases g2 : a.role = b.role
    ·have q2 : ((a.role : Int) == b.role) = true := by simpa using g2
     have H2 := hid g2; clear g2
     by_cases g3 : a.vote = b.vote
     ·have q3 : ((a.vote : Int) == b.vote) = true := by simpa using g3
      have H3 := hid g3; clear g3
      have HX : Hid (R = (F.samePL a.ps b.ps && sameEs a.es b.es)) := hid (by rw [HNN.out, decide_eq_true H1.out, decide_eq_true H2.out, decide_eq_true H3.out]; simp)
      clear HNN
      generalize F.samePL a.ps b.ps = D at *
      generalize sameEs a.es b.es = E at *
      go_wp2_with fail
      refine (CP.out _ HBA.out).mono ?_; rintro e w5 ⟨rfl, n5, rfl⟩
      clear y13 z13 y14 z14
      obtain ⟨-, -, -, -, -, -, -, -, -, -, -, -, -, -, y14⟩ := (HA2.out.on (below_drewN HBR.out n5)).cells
      obtain ⟨-, -, -, -, -, -, -, -, -, -, -, -, -, -, z14⟩ := (HC2.out.on (below_drewN HBR.out n5)).cells
      have HB5 := hid (below_drewN HBA.out n5)
      generalize wr.drewN n5 = W5 at *
      cases D
      ·go_wp2_with fail
       go_ret
       exact ⟨ret_b (by rw [HX.out]; rfl), HB5.out⟩
      ·go_wp2_with fail
       refine (CE.out _ HB5.out).mono ?_; rintro e w6 ⟨rfl, b6⟩
       go_wp2_with fail
       go_ret
       exact ⟨ret_b (by rw [HX.out]; rfl), HB5.out.trans (b6.mono HB5.out.size)⟩
     ·have q3 : ((a.vote : Int) == b.vote) = false := by simpa using g3
      have HF : Hid (false = R) := hid (by rw [HNN.out, decide_eq_false g3]; simp)
      clear g3
      go_wp2_with fail
      go_ret
      exact ⟨ret_b HF.out, HBA.out⟩
    ·have q2 : ((a.role : Int) == b.role) = false := by simpa using g2
     have HF : Hid (false = R) := hid (by rw [HNN.out, decide_eq_false g2]; simp)
     clear g2
     go_wp2_with fail
     go_ret
     exact ⟨ret_b HF.out, HBA.out⟩
   ·have q1 : ((a.snd : Int) == b.snd) = false := by simpa using g1
    have HF : Hid (false = R) := hid (by rw [HNN.out, decide_eq_false g1]; simp)
    clear g1
    go_wp2_with fail
    go_ret
    exact ⟨ret_b HF.out, HBA.out⟩
end Go.Proofs.YtmmbnjkdknnidaaGreatDoor

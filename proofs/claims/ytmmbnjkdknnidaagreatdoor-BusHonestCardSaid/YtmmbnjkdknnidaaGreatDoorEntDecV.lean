/-
  The entry that bytes are, by the document.
-/
import Derived.Deep.DeepCutAuto
import Derived.Test.YtmmbnjkdknnidaaGreatDoorEntEncPV
import Derived.Test.YtmmbnjkdknnidaaGreatDoorVecAppV
import Derived.Test.YtmmbnjkdknnidaaGreatDoorMsgRowsV
import Derived.Deep.RegionHeld3
import Derived.Deep.RegionWith
import Derived.Deep.RegionLaw
import Derived.Test.YtmmbnjkdknnidaaGreatDoorMsgTripV
import Derived.Test.YtmmbnjkdknnidaaGreatDoorOncePhaseV
set_option maxHeartbeats 4000000
set_option maxRecDepth 100000
namespace Go.Proofs.YtmmbnjkdknnidaaGreatDoor
open Lib (hid)
open Go.RowKit
def sameE (a b : Ent) : Bool := decide (a.t = b.t) && (decide (a.ep = b.ep) && (decide (a.mem = b.mem) && (decide (a.incs = b.incs) && sameL a.msgs b.msgs)))
theorem sameE_iff (a b : Ent) : sameE a b = true ↔ a = b := by
 unfold sameE
 obtain ⟨t, ep, mem, incs, l⟩ := a
 obtain ⟨t', ep', mem', incs', l'⟩ := b
 simp only [Bool.and_eq_true, decide_eq_true_iff, sameL_iff, Ent.mk.injEq]
theorem refSameE_any (a b : Ent) (A A' : Option Addr) (c c' : Nat) (B B' : Option Addr) (d d' : Nat) (w : World) (hA : V.Row w w.heap.size A a.incs) (hM : Msgs w w.heap.size A' a.msgs) (hB : V.Row w w.heap.size B b.incs) (hN : Msgs w w.heap.size B' b.msgs) (hil : a.incs.length ≤ maxLen) (hl : a.msgs.length ≤ maxLen) :
  Calls Tryz.prog 112 #[ev a.t a.ep a.mem (.slice A a.incs.length c) (.slice A' a.msgs.length c'), ev b.t b.ep b.mem (.slice B b.incs.length d) (.slice B' b.msgs.length d')] w fun e w' => e = .returned (.bool (sameE a b)) ∧ Below w.heap.size w w' := by
 have HS : Hid (sameE a b = (decide (a.t = b.t) && (decide (a.ep = b.ep) && (decide (a.mem = b.mem) && (decide (a.incs = b.incs) && sameL a.msgs b.msgs))))) := hid rfl
 obtain ⟨t, ep, mem, incs, l⟩ := a
 obtain ⟨t', ep', mem', incs', l'⟩ := b
 simp only at *
 generalize sameE ⟨t, ep, mem, incs, l⟩ ⟨t', ep', mem', incs', l'⟩ = R at *
 have b1 := Joins.below_alloc2 w (.cells #[.int .i64 t, .int .i64 ep, .int .i64 mem, .slice A incs.length c, .slice A' l.length c'] 37) (.cells #[.int .i64 t', .int .i64 ep', .int .i64 mem', .slice B incs'.length d, .slice B' l'.length d'] 37)
 have e1 := (EntAt.new w t ep mem (.slice A incs.length c) (.slice A' l.length c')).on (Joins.below_alloc1 _ (.cells #[.int .i64 t', .int .i64 ep', .int .i64 mem', .slice B incs'.length d, .slice B' l'.length d'] 37))
 have e2 := EntAt.new (w.alloc (.cells #[.int .i64 t, .int .i64 ep, .int .i64 mem, .slice A incs.length c, .slice A' l.length c'] 37)) t' ep' mem' (.slice B incs'.length d) (.slice B' l'.length d')
 rw [World.size_alloc] at e2
 have r1 := hA.below b1 (Nat.le_refl _)
 have m1 := hM.below b1 (Nat.le_refl _)
 have r2 := hB.below b1 (Nat.le_refl _)
 have m2 := hN.below b1 (Nat.le_refl _)
 generalize hW : (w.alloc (.cells #[.int .i64 t, .int .i64 ep, .int .i64 mem, .slice A incs.length c, .slice A' l.length c'] 37)).alloc (.cells #[.int .i64 t', .int .i64 ep', .int .i64 mem', .slice B incs'.length d, .slice B' l'.length d'] 37) = W at *
 have ci := fun W' (hG : Below W.heap.size W W') => V.ints_any A B c d _ _ incs incs' W' ((r1.more b1.size).below hG (Nat.le_refl _)) ((r2.more b1.size).below hG (Nat.le_refl _)) hil
 have cm := fun W' (hG : Below W.heap.size W W') => same_any A' B' c' d' _ _ l l' W' ((m1.more b1.size).below hG (Nat.le_refl _)) ((m2.more b1.size).below hG (Nat.le_refl _)) hl
 obtain ⟨y0, y1, y2, y3, y4⟩ := e1.cells
 obtain ⟨z0, z1, z2, z3, z4⟩ := e2.cells
 have HB := hid b1; clear b1 r1 m1 r2 m2 hA hM hB hN
 have HE1 := hid e1; clear e1
 have HE2 := hid e2; clear e2
 go_enter Tryz.func112, Tryz.ntmps112
 by_cases h1 : t = t'
 ·have q1 : ((t : Int) == t') = true := by simpa using h1
  by_cases h2 : ep = ep'
  ·have q2 : ((ep : Int) == ep') = true := by simpa using h2
   by_cases h3 : mem = mem'
   ·have q3 : ((mem : Int) == mem') = true := by simpa using h3
    have HX : Hid (R = (decide (incs = incs') && sameL l l')) := hid (by rw [HS.out, decide_eq_true h1, decide_eq_true h2, decide_eq_true h3]; simp)
    clear HS h1 h2 h3
    generalize decide (incs = incs') = D at *
    generalize sameL l l' = M at *
    cases D
    ·go_wp2_with fail; refine (ci _ (Below.refl _ _)).mono ?_; rintro e w2 ⟨rfl, n2, rfl⟩
     clear hW
     go_wp2_with fail
     go_ret
     exact ⟨ret_b (by rw [HX.out]; rfl), below_drewN HB.out _⟩
    ·go_wp2_with fail; refine (ci _ (Below.refl _ _)).mono ?_; rintro e w2 ⟨rfl, n2, rfl⟩
     clear hW
     go_wp2_with fail; refine (cm _ (below_drewN (Below.refl _ _) _)).mono ?_; rintro e w3 ⟨rfl, n3, rfl⟩
     go_wp2_with fail
     go_ret
     exact ⟨ret_b (by rw [HX.out]; rfl), below_drewN HB.out _⟩
   ·have q3 : ((mem : Int) == mem') = false := by simpa using h3
    have HX : Hid (R = false) := hid (by rw [HS.out, decide_eq_false h3]; simp)
    clear HS h1 h2 h3
    go_wp2_with fail
    go_ret
    exact ⟨ret_b HX.out.symm, HB.out⟩
  ·have q2 : ((ep : Int) == ep') = false := by simpa using h2
   have HX : Hid (R = false) := hid (by rw [HS.out, decide_eq_false h2]; simp)
   clear HS h1 h2
   go_wp2_with fail
   go_ret
   exact ⟨ret_b HX.out.symm, HB.out⟩
 ·have q1 : ((t : Int) == t') = false := by simpa using h1
  have HX : Hid (R = false) := hid (by rw [HS.out, decide_eq_false h1]; simp)
  clear HS h1
  go_wp2_with fail
  go_ret
  exact ⟨ret_b HX.out.symm, HB.out⟩
theorem EntAt.frozen {w : World} {b : Nat} {t ep mem : Int} {u v : Value} (h : EntAt w b t ep mem u v) (i : Nat) : w.frozen? ⟨b, i, none⟩ = false := by simp [World.frozen?, show w.heap[b]? = _ from h]
theorem EntAt.set3 {w : World} {b : Nat} {t ep mem : Int} {u v : Value} (h : EntAt w b t ep mem u v) (x : Value) : EntAt (w.setCell ⟨b, 3, none⟩ x) b t ep mem x v := set_blk h 3 x
theorem EntAt.set4 {w : World} {b : Nat} {t ep mem : Int} {u v : Value} (h : EntAt w b t ep mem u v) (x : Value) : EntAt (w.setCell ⟨b, 4, none⟩ x) b t ep mem u x := set_blk h 4 x
theorem EntAt.far {w : World} {b : Nat} {t ep mem : Int} {u v : Value} (h : EntAt w b t ep mem u v) {b' i : Nat} (hne : b ≠ b') (x : Value) : EntAt (w.setCell ⟨b', i, none⟩ x) b t ep mem u v := (Below.heap_setCell _ _ _ _ hne).trans h
def putE (w : World) (b : Nat) (t ep mem : Int) (u v : Value) : World := ((((w.setCell ⟨b, 0, none⟩ (.int .i64 t)).setCell ⟨b, 1, none⟩ (.int .i64 ep)).setCell ⟨b, 2, none⟩ (.int .i64 mem)).setCell ⟨b, 3, none⟩ u).setCell ⟨b, 4, none⟩ v
theorem putE_at {w : World} {b : Nat} {t ep mem : Int} {u v : Value} (h : EntAt w b t ep mem u v) (t' ep' mem' : Int) (u' v' : Value) : EntAt (putE w b t' ep' mem' u' v') b t' ep' mem' u' v' :=
 set_blk (set_blk (set_blk (set_blk (set_blk h 0 (.int .i64 t')) 1 (.int .i64 ep')) 2 (.int .i64 mem')) 3 u') 4 v'
theorem putE_below {B : Nat} {a w : World} (h : Below B a w) {b : Nat} (hb : B ≤ b) (t ep mem : Int) (u v : Value) : Below B a (putE w b t ep mem u v) :=
 ((((h.setCell (p := ⟨b, 0, none⟩) hb _).setCell (p := ⟨b, 1, none⟩) hb _).setCell (p := ⟨b, 2, none⟩) hb _).setCell (p := ⟨b, 3, none⟩) hb _).setCell (p := ⟨b, 4, none⟩) hb _
theorem putE_far (w : World) {b g : Nat} (h : g ≠ b) (t ep mem : Int) (u v : Value) : (putE w b t ep mem u v).heap[g]? = w.heap[g]? := by
 unfold putE
 rw [Below.heap_setCell _ _ _ _ h, Below.heap_setCell _ _ _ _ h, Below.heap_setCell _ _ _ _ h, Below.heap_setCell _ _ _ _ h, Below.heap_setCell _ _ _ _ h]
theorem own_far {w w' : World} {B : Nat} {e : TypeId} {k n : Nat} {u : Value} {xs : List Value} (h : w.ownsRow B e k u n xs) (hk : ∀ g, u.ownBlock = some g → w'.heap[g]? = w.heap[g]?) : w'.ownsRow B e k u n xs := by
 refine ⟨h.1, h.2.imp id ?_⟩
 rintro ⟨g, cap, cur, rfl, e2, e3, e4⟩
 exact ⟨g, cap, cur, rfl, e2, (hk g rfl).trans e3, e4⟩
theorem own_apart {w : World} {B : Nat} {e : TypeId} {k n : Nat} {u : Value} {xs : List Value} (h : w.ownsRow B e k u n xs) {b : Nat} {cs : Array Value} {T : TypeId} (hb : w.heap[b]? = some (.cells cs T (0, 0))) (hT : T ≠ e) : ∀ g, u.ownBlock = some g → g ≠ b := by
 intro g hg hgb
 subst hgb
 rcases h.2 with ⟨rfl, _⟩ | ⟨g', cap, cur, rfl, _, hh, _⟩
 ·cases hg
 ·have e1 : g' = g := by simpa [Value.ownBlock] using hg
  subst e1
  rw [hb] at hh
  injection hh with hh
  injection hh with h1 h2
  exact hT h2
theorem own_slice {w : World} {B n c : Nat} {A : Option Addr} {l : List Int} (h : V.Own w B (.slice A n c) l) : n = l.length ∧ V.Row w w.heap.size A l := by
 obtain ⟨A', c', e, -, hr⟩ := V.Own.row h
 injection e with e1 e2 e3
 subst e1
 exact ⟨e2, hr⟩
theorem ownM_slice {w : World} {B n c : Nat} {A : Option Addr} {l : List Msg} (h : OwnM w B (.slice A n c) l) : n = l.length ∧ Msgs w w.heap.size A l := by
 obtain ⟨A', c', e, -, hr⟩ := h.row
 injection e with e1 e2 e3
 subst e1
 exact ⟨e2, hr⟩
theorem decR_small (l : List UInt8) : (decR l).data.size ≤ 255 := by
 unfold decR
 split
 ·show (txt _).size ≤ 255
  rw [txt_size, List.length_take]
  have : decN l < 256 := (l.getD 11 0).toNat_lt
  omega
 ·decide
theorem msgK_small (l : List UInt8) : ∀ k, ∀ m ∈ msgK l k, m.data.size ≤ 255
 | 0 => fun m hm => by cases hm
 | k + 1 => fun m hm => by
  rcases List.mem_append.1 hm with h | h
  ·exact msgK_small l k m h
  ·rw [List.mem_singleton] at h
   rw [h]; exact decR_small _
theorem own_kinds {w : World} {B B' : Nat} {e e' : TypeId} {k k' n n' : Nat} {u u' : Value} {xs xs' : List Value} (h : w.ownsRow B e k u n xs) (h' : w.ownsRow B' e' k' u' n' xs') (hne : e ≠ e') : ∀ g, u.ownBlock = some g → ∀ g', u'.ownBlock = some g' → g ≠ g' := by
 intro g hg g' hg' hgg
 subst hgg
 rcases h.2 with ⟨rfl, _⟩ | ⟨a, cap, cur, rfl, _, hh, _⟩
 ·cases hg
 ·rcases h'.2 with ⟨rfl, _⟩ | ⟨a', cap', cur', rfl, _, hh', _⟩
  ·cases hg'
  ·have e1 : a = g := by simpa [Value.ownBlock] using hg
   have e2 : a' = g := by simpa [Value.ownBlock] using hg'
   subst e1 e2
   rw [hh] at hh'
   injection hh' with hh'
   injection hh' with h1 h2
   exact hne h2
theorem EntAt.grown {w w' : World} {b : Nat} {t ep mem : Int} {u v : Value} {ob : Option Nat} (h : EntAt w b t ep mem u v) (hg : w.grownBy w' ob) (hne : ∀ g, ob = some g → g ≠ b) : EntAt w' b t ep mem u v :=
 (hg.block b (Array.getElem?_eq_some_iff.1 h).1 (fun e => hne b e.symm rfl)).trans h
theorem row_one {w : World} {g : Nat} {a : Int} (h : w.heap[g]? = some (.cells #[.int .i64 a] 3 (0, 0))) : V.Row w (g + 1) (some ⟨g, 0, none⟩) [a] := fun _ => by
 refine ⟨_, rfl, by show g < g + 1; omega, fun j x hx => ?_⟩
 have hj : j = 0 := by have := (List.getElem?_eq_some_iff.1 hx).1; simp at this; exact this
 subst hj
 have e : a = x := by simpa using hx
 subst e; exact (cell_of h 0).trans rfl
def DecEPost (l : List UInt8) (w : World) (e : Ending) (w' : World) : Prop :=
 ∃ u v, e = .returned (.tuple #[ev (decRE l).t (decRE l).ep (decRE l).mem u v, .string (txt (decRestE l)), .int .i64 (decEE l)]) ∧ V.Own w' w.heap.size u (decRE l).incs ∧ OwnM w' w.heap.size v (decRE l).msgs ∧ Below w.heap.size w w'
theorem decE_none {l : List UInt8} {E : Int} (h : decEE l = E) (hE : E ≠ 0) (w : World) : ∀ (_ : Unit) w', Below w.heap.size w w' → DecEPost l w (.returned (.tuple #[ev 0 0 0 (.slice none 0 0) (.slice none 0 0), .string ⟨#[]⟩, .int .i64 E])) w' := by
 intro _ w' hb
 have hne : ¬ decEE l = 0 := by rw [h]; exact hE
 refine ⟨.slice none 0 0, .slice none 0 0, ?_, ?_, ?_, hb⟩
 ·unfold decRE decRestE
  rw [if_neg hne, if_neg hne, h]; rfl
 ·unfold decRE; rw [if_neg hne]; exact V.Own.nil _ _
 ·unfold decRE; rw [if_neg hne]; exact OwnM.nil _ _
theorem decE_one {l : List UInt8} (h : decEE l = 0) (w : World) : ∀ u v w', V.Own w' w.heap.size u (incsN l (hMany l)) → OwnM w' w.heap.size v (msgK (bodyL l) (eN l)) → Below w.heap.size w w' →
  DecEPost l w (.returned (.tuple #[ev (pairL l 0) (pairL l 2) (pairL l 4) u v, .string (txt (restK (bodyL l) (eN l))), .int .i64 0])) w' := by
 intro u v w' h1 h2 h3
 unfold DecEPost
 unfold decRE decRestE
 rw [if_pos h, if_pos h, h]
 exact ⟨u, v, rfl, h1, h2, h3⟩
end Go.Proofs.YtmmbnjkdknnidaaGreatDoor

/-
  Layer 9: the law BusHonest, its inner loop.
-/
import Derived.Deep.DeepCutAuto
import Derived.Test.YtmmbnjkdknnidaaGreatDoorBusAwakeV
import Derived.Test.YtmmbnjkdknnidaaGreatDoorBusDecV
import Derived.Test.YtmmbnjkdknnidaaGreatDoorOncePhaseV
set_option maxHeartbeats 8000000
namespace Go.Proofs.YtmmbnjkdknnidaaGreatDoor
open Lib (hid)
open Go.RowKit Go.Shelf
def Trips (w : World) (g : Nat) (l : List (Int × Int × Int)) : Prop := ∀ j f, l[j]? = some f → w.cell? ⟨g, j * 3, none⟩ = some (.int .i64 f.1) ∧ w.cell? ⟨g, j * 3 + 1, none⟩ = some (.int .i64 f.2.1) ∧ w.cell? ⟨g, j * 3 + 2, none⟩ = some (.int .i64 f.2.2)
theorem Trips.on {w w' : World} {g : Nat} {l : List (Int × Int × Int)} (h : Trips w g l) (hb : Below w.heap.size w w') : Trips w' g l := fun j p hp => by
 obtain ⟨h1, h2, h3⟩ := h j p hp
 have hg := World.block_lt_of_cell? w _ h1
 exact ⟨(hb.cell (p := ⟨g, j * 3, none⟩) hg).trans h1, (hb.cell (p := ⟨g, j * 3 + 1, none⟩) hg).trans h2, (hb.cell (p := ⟨g, j * 3 + 2, none⟩) hg).trans h3⟩
theorem trips_new (W : World) (t : TypeId) (x1 x2 x3 x4 x5 x6 : Int) : Trips (W.alloc (.cells #[.int .i64 x1, .int .i64 x2, .int .i64 x3, .int .i64 x4, .int .i64 x5, .int .i64 x6] t)) W.heap.size [(x1, x2, x3), (x4, x5, x6)] := fun j x hx => by
 have hj : j < 2 := (List.getElem?_eq_some_iff.1 hx).1
 have hh := heap_alloc_new W (.cells #[.int .i64 x1, .int .i64 x2, .int .i64 x3, .int .i64 x4, .int .i64 x5, .int .i64 x6] t)
 rcases (show j = 0 ∨ j = 1 by omega) with rfl | rfl
 ·simp at hx; subst hx; exact ⟨cell_of hh 0, cell_of hh 1, cell_of hh 2⟩
 ·simp at hx; subst hx; exact ⟨cell_of hh 3, cell_of hh 4, cell_of hh 5⟩
theorem pass2_eq9 (x : ByteArray) {p m : Int} (h : mayB 2 p m = true) : passS x 2 p m = C.txt (spoilT x.data.toList p m) := by
 unfold passS
 rw [if_pos h, if_neg (by decide), if_neg (by decide)]
theorem honest {X : Fr} (hR : rightF X = true) (k a m dev win : Int) :
  ((hearV (passS (txt (encTF X)) k a m) (passB k a m) dev win = 1 ∧ hearF (passS (txt (encTF X)) k a m) (passB k a m) dev win = X) ∨ ((hearV (passS (txt (encTF X)) k a m) (passB k a m) dev win = 0 ∨ hearV (passS (txt (encTF X)) k a m) (passB k a m) dev win = 2) ∧ hearF (passS (txt (encTF X)) k a m) (passB k a m) dev win = zeroFr)) ∧
  (hearV (passS (txt (encTF X)) k a m) (passB k a m) dev win = 1 → hearV (passS (txt (encTF X)) k a m) (passB k a m) 0 0 = 1) ∧ (k = 0 → mayB k a m = true → hearV (passS (txt (encTF X)) k a m) (passB k a m) 0 0 = 1) := by
 have hlen := encTF_length hR
 have hne : encTF X ≠ [] := fun e => by rw [e] at hlen; simp only [List.length_nil] at hlen; omega
 obtain ⟨d1, d2⟩ := dec_encF hR
 have i0 : insideB 0 0 = true := by decide
 have key : passB k a m = true → (passS (txt (encTF X)) k a m).data.toList ≠ [] → decEF (passS (txt (encTF X)) k a m).data.toList = 0 → decFF (passS (txt (encTF X)) k a m).data.toList = X := by
  intro hb _ hd
  have hm : mayB k a m = true := by unfold passB at hb; rw [Bool.and_eq_true] at hb; exact hb.1
  obtain ⟨hk, ⟨ha0, ha1⟩, hmm⟩ := (mayB_iff k a m).1 hm
  rcases hk with rfl | rfl | rfl
  ·have e : passS (txt (encTF X)) 0 a m = txt (encTF X) := by unfold passS; rw [if_pos hm, if_pos rfl]
   rw [e, txt_data, d2]
  ·unfold passB at hb
   rw [hm] at hb
   simp at hb
  ·rw [pass2_eq9 _ hm, C.txt_data, txt_data] at hd ⊢
   have hs : spoilT (encTF X) a m = C.burstI (encTF X) ((a.tmod (8 * ((encTF X).length : Int))).toNat : Int) m := by
    unfold spoilT
    rw [if_neg hne, Int.toNat_of_nonneg (Int.tmod_nonneg _ ha0)]
   obtain ⟨h1, h2⟩ := spoilt9_dec hR _ m hs
   by_cases hB : spoilT (encTF X) a m = encTF X
   ·exact (h1 hB).2
   ·rw [(h2 hB).1] at hd; cases hd
 refine ⟨?_, ?_, ?_⟩
 ·by_cases hc : passB k a m = true ∧ (passS (txt (encTF X)) k a m).data.toList ≠ []
  ·by_cases hi : insideB dev win = true ∧ decEF (passS (txt (encTF X)) k a m).data.toList = 0
   ·have hv : hearV (passS (txt (encTF X)) k a m) (passB k a m) dev win = 1 := by unfold hearV; rw [if_pos hc, if_pos hi]
    exact .inl ⟨hv, by unfold hearF; rw [if_pos hv]; exact key hc.1 hc.2 hi.2⟩
   ·have hv : hearV (passS (txt (encTF X)) k a m) (passB k a m) dev win = 2 := by unfold hearV; rw [if_pos hc, if_neg hi]
    exact .inr ⟨.inr hv, by unfold hearF; rw [if_neg (by rw [hv]; decide)]⟩
  ·have hv : hearV (passS (txt (encTF X)) k a m) (passB k a m) dev win = 0 := by unfold hearV; rw [if_neg hc]
   exact .inr ⟨.inl hv, by unfold hearF; rw [if_neg (by rw [hv]; decide)]⟩
 ·intro h
  unfold hearV at h ⊢
  by_cases hc : passB k a m = true ∧ (passS (txt (encTF X)) k a m).data.toList ≠ []
  ·rw [if_pos hc] at h ⊢
   by_cases hi : insideB dev win = true ∧ decEF (passS (txt (encTF X)) k a m).data.toList = 0
   ·rw [if_pos ⟨i0, hi.2⟩]
   ·rw [if_neg hi] at h; cases h
  ·rw [if_neg hc] at h; cases h
 ·rintro rfl hm
  have e : passS (txt (encTF X)) 0 a m = txt (encTF X) := by unfold passS; rw [if_pos hm, if_pos rfl]
  have e2 : passB 0 a m = true := by unfold passB; rw [hm]; rfl
  unfold hearV
  rw [e, e2, txt_data, if_pos ⟨rfl, hne⟩, if_pos ⟨i0, d1⟩]
def Sixteen (w : World) (g b : Nat) (Y : Fr) (P : Option Addr) (m : Nat) (P' : Option Addr) (m' : Nat) (V : Int) : Prop :=
 w.cell? ⟨g, b, none⟩ = some (.int .i64 Y.snd) ∧ w.cell? ⟨g, b + 1, none⟩ = some (.int .i64 Y.rnd) ∧ w.cell? ⟨g, b + 2, none⟩ = some (.int .i64 Y.inc) ∧ w.cell? ⟨g, b + 3, none⟩ = some (.int .i64 Y.term) ∧ w.cell? ⟨g, b + 4, none⟩ = some (.int .i64 Y.role) ∧ w.cell? ⟨g, b + 5, none⟩ = some (.int .i64 Y.vote) ∧ w.cell? ⟨g, b + 6, none⟩ = some (.int .i64 Y.hrd) ∧ w.cell? ⟨g, b + 7, none⟩ = some (.int .i64 Y.last) ∧ w.cell? ⟨g, b + 8, none⟩ = some (.int .i64 Y.lterm) ∧ w.cell? ⟨g, b + 9, none⟩ = some (.int .i64 Y.ack) ∧ w.cell? ⟨g, b + 10, none⟩ = some (.int .i64 Y.com) ∧ w.cell? ⟨g, b + 11, none⟩ = some (.int .i64 Y.prv) ∧ w.cell? ⟨g, b + 12, none⟩ = some (.int .i64 Y.pterm) ∧ w.cell? ⟨g, b + 13, none⟩ = some (.slice P Y.ps.length m) ∧ w.cell? ⟨g, b + 14, none⟩ = some (.slice P' Y.es.length m') ∧ w.cell? ⟨g, b + 15, none⟩ = some (.int .i64 V)
def Two (w : World) (g : Nat) (X : Fr) : Prop := ∀ j, j < 2 → ∃ (Y : Fr) (V : Int) (P P' : Option Addr) (m m' : Nat), ((V = 1 ∧ Y = X) ∨ ((V = 0 ∨ V = 2) ∧ Y = zeroFr)) ∧ F.Pcs w w.heap.size P Y.ps ∧ Ents w w.heap.size P' Y.es ∧ Sixteen w g (j * 16) Y P m P' m' V
theorem Sixteen.on {w w' : World} {g b : Nat} {Y : Fr} {P P' : Option Addr} {m m' : Nat} {V : Int} (h : Sixteen w g b Y P m P' m' V) (hb : Below w.heap.size w w') : Sixteen w' g b Y P m P' m' V := by
 have hg : g < w.heap.size := World.block_lt_of_cell? w _ h.1
 have hc : ∀ o, w'.cell? ⟨g, o, none⟩ = w.cell? ⟨g, o, none⟩ := fun o => hb.cell (p := ⟨g, o, none⟩) hg
 unfold Sixteen at h ⊢
 simp only [hc]
 exact h
theorem Two.on {w w' : World} {g : Nat} {X : Fr} (h : Two w g X) (hb : Below w.heap.size w w') : Two w' g X := fun j hj => by
 obtain ⟨Y, V, P, P', m, m', h1, h2, h3, h4⟩ := h j hj
 exact ⟨Y, V, P, P', m, m', h1, (h2.below hb (Nat.le_refl _)).more hb.size, (h3.below hb (Nat.le_refl _)).more hb.size, h4.on hb⟩
theorem two_new {W : World} {X F0 F1 : Fr} {V0 V1 : Int} {P0 P0' P1 P1' : Option Addr} {m0 m0' m1 m1' : Nat}
  (h0 : (V0 = 1 ∧ F0 = X) ∨ ((V0 = 0 ∨ V0 = 2) ∧ F0 = zeroFr)) (h1 : (V1 = 1 ∧ F1 = X) ∨ ((V1 = 0 ∨ V1 = 2) ∧ F1 = zeroFr))
  (p0 : F.Pcs W W.heap.size P0 F0.ps) (e0 : Ents W W.heap.size P0' F0.es) (p1 : F.Pcs W W.heap.size P1 F1.ps) (e1 : Ents W W.heap.size P1' F1.es) :
  Two (W.alloc (.cells #[.int .i64 F0.snd, .int .i64 F0.rnd, .int .i64 F0.inc, .int .i64 F0.term, .int .i64 F0.role, .int .i64 F0.vote, .int .i64 F0.hrd, .int .i64 F0.last, .int .i64 F0.lterm, .int .i64 F0.ack, .int .i64 F0.com, .int .i64 F0.prv, .int .i64 F0.pterm, .slice P0 F0.ps.length m0, .slice P0' F0.es.length m0', .int .i64 V0, .int .i64 F1.snd, .int .i64 F1.rnd, .int .i64 F1.inc, .int .i64 F1.term, .int .i64 F1.role, .int .i64 F1.vote, .int .i64 F1.hrd, .int .i64 F1.last, .int .i64 F1.lterm, .int .i64 F1.ack, .int .i64 F1.com, .int .i64 F1.prv, .int .i64 F1.pterm, .slice P1 F1.ps.length m1, .slice P1' F1.es.length m1', .int .i64 V1] 70)) W.heap.size X := by
 have hb := Joins.below_alloc1 W (.cells #[.int .i64 F0.snd, .int .i64 F0.rnd, .int .i64 F0.inc, .int .i64 F0.term, .int .i64 F0.role, .int .i64 F0.vote, .int .i64 F0.hrd, .int .i64 F0.last, .int .i64 F0.lterm, .int .i64 F0.ack, .int .i64 F0.com, .int .i64 F0.prv, .int .i64 F0.pterm, .slice P0 F0.ps.length m0, .slice P0' F0.es.length m0', .int .i64 V0, .int .i64 F1.snd, .int .i64 F1.rnd, .int .i64 F1.inc, .int .i64 F1.term, .int .i64 F1.role, .int .i64 F1.vote, .int .i64 F1.hrd, .int .i64 F1.last, .int .i64 F1.lterm, .int .i64 F1.ack, .int .i64 F1.com, .int .i64 F1.prv, .int .i64 F1.pterm, .slice P1 F1.ps.length m1, .slice P1' F1.es.length m1', .int .i64 V1] 70)
 have hh := heap_alloc_new W (.cells #[.int .i64 F0.snd, .int .i64 F0.rnd, .int .i64 F0.inc, .int .i64 F0.term, .int .i64 F0.role, .int .i64 F0.vote, .int .i64 F0.hrd, .int .i64 F0.last, .int .i64 F0.lterm, .int .i64 F0.ack, .int .i64 F0.com, .int .i64 F0.prv, .int .i64 F0.pterm, .slice P0 F0.ps.length m0, .slice P0' F0.es.length m0', .int .i64 V0, .int .i64 F1.snd, .int .i64 F1.rnd, .int .i64 F1.inc, .int .i64 F1.term, .int .i64 F1.role, .int .i64 F1.vote, .int .i64 F1.hrd, .int .i64 F1.last, .int .i64 F1.lterm, .int .i64 F1.ack, .int .i64 F1.com, .int .i64 F1.prv, .int .i64 F1.pterm, .slice P1 F1.ps.length m1, .slice P1' F1.es.length m1', .int .i64 V1] 70)
 intro j hj
 rcases (show j = 0 ∨ j = 1 by omega) with rfl | rfl
 ·exact ⟨F0, V0, P0, P0', m0, m0', h0, (p0.below hb (Nat.le_refl _)).more hb.size, (e0.below hb (Nat.le_refl _)).more hb.size, cell_of hh 0, cell_of hh 1, cell_of hh 2, cell_of hh 3, cell_of hh 4, cell_of hh 5, cell_of hh 6, cell_of hh 7, cell_of hh 8, cell_of hh 9, cell_of hh 10, cell_of hh 11, cell_of hh 12, cell_of hh 13, cell_of hh 14, cell_of hh 15⟩
 ·exact ⟨F1, V1, P1, P1', m1, m1', h1, (p1.below hb (Nat.le_refl _)).more hb.size, (e1.below hb (Nat.le_refl _)).more hb.size, cell_of hh 16, cell_of hh 17, cell_of hh 18, cell_of hh 19, cell_of hh 20, cell_of hh 21, cell_of hh 22, cell_of hh 23, cell_of hh 24, cell_of hh 25, cell_of hh 26, cell_of hh 27, cell_of hh 28, cell_of hh 29, cell_of hh 30, cell_of hh 31⟩
def firstLoop : Code → Option Code
 | .loop c => some c
 | .seq a b => match firstLoop a with
  | some c => some c
  | none => firstLoop b
 | .block _ c => firstLoop c
 | .scope c => firstLoop c
 | .cond _ a b => match firstLoop a with
  | some c => some c
  | none => firstLoop b
 | _ => none
def SamesX (X : Fr) : Prop := ∀ A B A' B' c d c' d' W, F.Pcs W W.heap.size A X.ps → Ents W W.heap.size A' X.es → F.Pcs W W.heap.size B X.ps → Ents W W.heap.size B' X.es → Calls Tryz.prog 24 #[fv X (.slice A X.ps.length c) (.slice A' X.es.length c'), fv X (.slice B X.ps.length d) (.slice B' X.es.length d')] W fun e w' => e = .returned (.bool true) ∧ Below W.heap.size W w'
def SamesZ : Prop := ∀ A A' c c' W, Calls Tryz.prog 24 #[fv zeroFr (.slice A zeroFr.ps.length c) (.slice A' zeroFr.es.length c'), fv zeroFr (.slice none 0 0) (.slice none 0 0)] W fun e w' => e = .returned (.bool true) ∧ Below W.heap.size W w'
noncomputable def honBody : Code := ((Tryz.f9.body.bind firstLoop).getD .skip)
noncomputable def honIn : Code := ((Tryz.f9.body.bind firstLoop).bind firstLoop).getD .skip
end Go.Proofs.YtmmbnjkdknnidaaGreatDoor
namespace Go.Proofs.YtmmbnjkdknnidaaGreatDoor
open Lib (hid)
open Go.RowKit Go.Shelf
set_option maxRecDepth 1000000 in
def HonJ (g gs : Nat) (c0 c1 c2 c3 c4 c5 c6 c7 c8 c9 c10 c11 c12 c13 c15 c17 c18 c19 c20 c21 c22 c23 c24 c25 c27 c28 c29 c30 c31 c32 c33 c34 c35 c36 c37 c38 c39 c40 c41 c42 c43 c44 c45 c46 c47 c48 c49 c50 c51 c52 c53 c54 c55 c56 c57 c58 c59 c60 c61 c62 c63 c64 c65 c66 c67 c68 c69 c70 c71 c72 c73 c74 c75 c76 c116 c117 c118 c119 c120 c121 c122 c123 c124 c125 c126 c127 c128 c129 c130 c131 c132 c133 c134 c135 c136 : Value) (X0 : World) (a : Act) (w' : World) : Prop := ∃ u14 u26 u79 u80 u81 u82 u83 u84 u85 u86 u87 u88 u89 u90 u91 u92 u93 u94 u95 u96 u97 u98 u99 u100 u101 u102 u103 u104 u105 u106 u107 u108 u109 u110 u111 u112 u113 u114 u115 : Value, (∃ k : Nat, k ≤ 2 ∧ u79 = .int .i64 k ∧ Below X0.heap.size X0 w') ∧ a = ⟨#[c0, c1, c2, c3, c4, c5, c6, c7, c8, c9, c10, c11, c12, c13, u14, c15, .pointer (some ⟨g, 0, none⟩), c17, c18, c19, c20, c21, c22, c23, c24, c25, u26, c27, c28, c29, c30, c31, c32, c33, c34, c35, c36, c37, c38, c39, c40, c41, c42, c43, c44, c45, c46, c47, c48, c49, c50, c51, c52, c53, c54, c55, c56, c57, c58, c59, c60, c61, c62, c63, c64, c65, c66, c67, c68, c69, c70, c71, c72, c73, c74, c75, c76, .slice (some ⟨gs, 0, none⟩) 2 2, .int .i64 2, u79, u80, u81, u82, u83, u84, u85, u86, u87, u88, u89, u90, u91, u92, u93, u94, u95, u96, u97, u98, u99, u100, u101, u102, u103, u104, u105, u106, u107, u108, u109, u110, u111, u112, u113, u114, u115, c116, c117, c118, c119, c120, c121, c122, c123, c124, c125, c126, c127, c128, c129, c130, c131, c132, c133, c134, c135, c136], []⟩
def honMuJ (a : Act) (_ : World) : Nat := 2 - (intOf (a.tmps.getD 79 undef)).toNat
set_option maxRecDepth 1000000 in
def JG (Q0 : Exit → Act → World → Prop) (k : Nat) (wr : World) (g gs : Nat) (c0 c1 c2 c3 c4 c5 c6 c7 c8 c9 c10 c11 c12 c13 c15 c17 c18 c19 c20 c21 c22 c23 c24 c25 c27 c28 c29 c30 c31 c32 c33 c34 c35 c36 c37 c38 c39 c40 c41 c42 c43 c44 c45 c46 c47 c48 c49 c50 c51 c52 c53 c54 c55 c56 c57 c58 c59 c60 c61 c62 c63 c64 c65 c66 c67 c68 c69 c70 c71 c72 c73 c74 c75 c76 c116 c117 c118 c119 c120 c121 c122 c123 c124 c125 c126 c127 c128 c129 c130 c131 c132 c133 c134 c135 c136 : Value) (X0 : World) (u14 u26 u80 u81 u82 u83 u84 u85 u86 u87 u88 u89 u90 u91 u92 u93 u94 u95 u96 u97 u98 u99 u100 u101 u102 u103 u104 u105 u106 u107 u108 u109 u110 u111 u112 u113 u114 u115 : Value) : Prop :=
 Code.wp Tryz.prog honIn (Exit.then (fun a' w'' => HonJ g gs c0 c1 c2 c3 c4 c5 c6 c7 c8 c9 c10 c11 c12 c13 c15 c17 c18 c19 c20 c21 c22 c23 c24 c25 c27 c28 c29 c30 c31 c32 c33 c34 c35 c36 c37 c38 c39 c40 c41 c42 c43 c44 c45 c46 c47 c48 c49 c50 c51 c52 c53 c54 c55 c56 c57 c58 c59 c60 c61 c62 c63 c64 c65 c66 c67 c68 c69 c70 c71 c72 c73 c74 c75 c76 c116 c117 c118 c119 c120 c121 c122 c123 c124 c125 c126 c127 c128 c129 c130 c131 c132 c133 c134 c135 c136 X0 a' w'' ∧ honMuJ a' w'' < honMuJ ⟨#[c0, c1, c2, c3, c4, c5, c6, c7, c8, c9, c10, c11, c12, c13, u14, c15, .pointer (some ⟨g, 0, none⟩), c17, c18, c19, c20, c21, c22, c23, c24, c25, u26, c27, c28, c29, c30, c31, c32, c33, c34, c35, c36, c37, c38, c39, c40, c41, c42, c43, c44, c45, c46, c47, c48, c49, c50, c51, c52, c53, c54, c55, c56, c57, c58, c59, c60, c61, c62, c63, c64, c65, c66, c67, c68, c69, c70, c71, c72, c73, c74, c75, c76, .slice (some ⟨gs, 0, none⟩) 2 2, .int .i64 2, .int .i64 k, u80, u81, u82, u83, u84, u85, u86, u87, u88, u89, u90, u91, u92, u93, u94, u95, u96, u97, u98, u99, u100, u101, u102, u103, u104, u105, u106, u107, u108, u109, u110, u111, u112, u113, u114, u115, c116, c117, c118, c119, c120, c121, c122, c123, c124, c125, c126, c127, c128, c129, c130, c131, c132, c133, c134, c135, c136], []⟩ wr) Q0) ⟨#[c0, c1, c2, c3, c4, c5, c6, c7, c8, c9, c10, c11, c12, c13, u14, c15, .pointer (some ⟨g, 0, none⟩), c17, c18, c19, c20, c21, c22, c23, c24, c25, u26, c27, c28, c29, c30, c31, c32, c33, c34, c35, c36, c37, c38, c39, c40, c41, c42, c43, c44, c45, c46, c47, c48, c49, c50, c51, c52, c53, c54, c55, c56, c57, c58, c59, c60, c61, c62, c63, c64, c65, c66, c67, c68, c69, c70, c71, c72, c73, c74, c75, c76, .slice (some ⟨gs, 0, none⟩) 2 2, .int .i64 2, .int .i64 k, u80, u81, u82, u83, u84, u85, u86, u87, u88, u89, u90, u91, u92, u93, u94, u95, u96, u97, u98, u99, u100, u101, u102, u103, u104, u105, u106, u107, u108, u109, u110, u111, u112, u113, u114, u115, c116, c117, c118, c119, c120, c121, c122, c123, c124, c125, c126, c127, c128, c129, c130, c131, c132, c133, c134, c135, c136], []⟩ wr
section
variable {X : Fr} {A1 A2 : Option Addr} {k1 k2 k : Nat} {wr : World} {Q0 : Exit → Act → World → Prop} {g gs : Nat} {c0 c1 c2 c3 c4 c5 c6 c7 c8 c9 c10 c11 c12 c13 c15 c17 c18 c19 c20 c21 c22 c23 c24 c25 c27 c28 c29 c30 c31 c32 c33 c34 c35 c36 c37 c38 c39 c40 c41 c42 c43 c44 c45 c46 c47 c48 c49 c50 c51 c52 c53 c54 c55 c56 c57 c58 c59 c60 c61 c62 c63 c64 c65 c66 c67 c68 c69 c70 c71 c72 c73 c74 c75 c76 c116 c117 c118 c119 c120 c121 c122 c123 c124 c125 c126 c127 c128 c129 c130 c131 c132 c133 c134 c135 c136 u14 u26 u79 u80 u81 u82 u83 u84 u85 u86 u87 u88 u89 u90 u91 u92 u93 u94 u95 u96 u97 u98 u99 u100 u101 u102 u103 u104 u105 u106 u107 u108 u109 u110 u111 u112 u113 u114 u115 : Value} {X0 : World}
set_option maxRecDepth 1000000 in
theorem honIn_case1 (HTX : Hid (SamesX X)) (HX4 : Hid (Box7 X0 g X A1 k1 A2 k2)) (hlt : k < 2) (HB : Hid (Below X0.heap.size X0 wr)) {P P' : Option Addr} {m m' : Nat}
  (hp : F.Pcs wr wr.heap.size P X.ps) (he : Ents wr wr.heap.size P' X.es) (h16 : Sixteen wr gs (k * 16) X P m P' m' 1) :
  @JG Q0 k wr g gs c0 c1 c2 c3 c4 c5 c6 c7 c8 c9 c10 c11 c12 c13 c15 c17 c18 c19 c20 c21 c22 c23 c24 c25 c27 c28 c29 c30 c31 c32 c33 c34 c35 c36 c37 c38 c39 c40 c41 c42 c43 c44 c45 c46 c47 c48 c49 c50 c51 c52 c53 c54 c55 c56 c57 c58 c59 c60 c61 c62 c63 c64 c65 c66 c67 c68 c69 c70 c71 c72 c73 c74 c75 c76 c116 c117 c118 c119 c120 c121 c122 c123 c124 c125 c126 c127 c128 c129 c130 c131 c132 c133 c134 c135 c136 X0 u14 u26 u80 u81 u82 u83 u84 u85 u86 u87 u88 u89 u90 u91 u92 u93 u94 u95 u96 u97 u98 u99 u100 u101 u102 u103 u104 u105 u106 u107 u108 u109 u110 u111 u112 u113 u114 u115 := by
 unfold JG
 conv => arg 2; whnf
 have hkI : (k : Int) < 2 := by omega
 obtain ⟨x0, x1, x2, x3, x4, x5, x6, x7, x8, x9, x10, x11, x12, x13, x14, x15⟩ := h16
 have hb1 := Joins.below_alloc1 wr (.cells #[.int .i64 X.snd, .int .i64 X.rnd, .int .i64 X.inc, .int .i64 X.term, .int .i64 X.role, .int .i64 X.vote, .int .i64 X.hrd, .int .i64 X.last, .int .i64 X.lterm, .int .i64 X.ack, .int .i64 X.com, .int .i64 X.prv, .int .i64 X.pterm, .slice P X.ps.length m, .slice P' X.es.length m', .int .i64 1] 70)
 have hh := heap_alloc_new wr (.cells #[.int .i64 X.snd, .int .i64 X.rnd, .int .i64 X.inc, .int .i64 X.term, .int .i64 X.role, .int .i64 X.vote, .int .i64 X.hrd, .int .i64 X.last, .int .i64 X.lterm, .int .i64 X.ack, .int .i64 X.com, .int .i64 X.prv, .int .i64 X.pterm, .slice P X.ps.length m, .slice P' X.es.length m', .int .i64 1] 70)
 have HS : Hid (Sixteen (wr.alloc (.cells #[.int .i64 X.snd, .int .i64 X.rnd, .int .i64 X.inc, .int .i64 X.term, .int .i64 X.role, .int .i64 X.vote, .int .i64 X.hrd, .int .i64 X.last, .int .i64 X.lterm, .int .i64 X.ack, .int .i64 X.com, .int .i64 X.prv, .int .i64 X.pterm, .slice P X.ps.length m, .slice P' X.es.length m', .int .i64 1] 70)) wr.heap.size 0 X P m P' m' 1) := hid ⟨cell_of hh 0, cell_of hh 1, cell_of hh 2, cell_of hh 3, cell_of hh 4, cell_of hh 5, cell_of hh 6, cell_of hh 7, cell_of hh 8, cell_of hh 9, cell_of hh 10, cell_of hh 11, cell_of hh 12, cell_of hh 13, cell_of hh 14, cell_of hh 15⟩
 have HPs := hid ((hp.below hb1 (Nat.le_refl _)).more hb1.size)
 have HEs := hid ((he.below hb1 (Nat.le_refl _)).more hb1.size)
 have HB1 := hid (HB.out.trans (hb1.mono HB.out.size))
 have HX5 := hid ((HX4.out.on HB.out).on hb1)
 have HK : Hid (wr.heap.size < (wr.alloc (.cells #[.int .i64 X.snd, .int .i64 X.rnd, .int .i64 X.inc, .int .i64 X.term, .int .i64 X.role, .int .i64 X.vote, .int .i64 X.hrd, .int .i64 X.last, .int .i64 X.lterm, .int .i64 X.ack, .int .i64 X.com, .int .i64 X.prv, .int .i64 X.pterm, .slice P X.ps.length m, .slice P' X.es.length m', .int .i64 1] 70)).heap.size) := hid (by rw [World.size_alloc]; omega)
 clear hp he hb1 hh HB
 go_upto_region 14 with fail
 generalize wr.alloc (.cells #[.int .i64 X.snd, .int .i64 X.rnd, .int .i64 X.inc, .int .i64 X.term, .int .i64 X.role, .int .i64 X.vote, .int .i64 X.hrd, .int .i64 X.last, .int .i64 X.lterm, .int .i64 X.ack, .int .i64 X.com, .int .i64 X.prv, .int .i64 X.pterm, .slice P X.ps.length m, .slice P' X.es.length m', .int .i64 1] 70) = W1 at *
 generalize wr.heap.size = gk at *
 clear x0 x1 x2 x3 x4 x5 x6 x7 x8 x9 x10 x11 x12 x13 x14 x15
 obtain ⟨y0, y1, y2, y3, y4, y5, y6, y7, y8, y9, y10, y11, y12, y13, y14, y15⟩ := HS.out
 obtain ⟨t0, t1, t2, t3, t4, t5, t6, t7, t8, t9, t10, t11, t12, t13, t14⟩ := HX5.out.fr.cells
 go_wp2_with fail
 refine (HTX.out _ _ _ _ _ _ _ _ _ HPs.out HEs.out HX5.out.ps HX5.out.es).mono ?_; rintro e v ⟨rfl, q⟩
 have HB2 := hid (HB1.out.trans (q.mono HB1.out.size))
 clear y0 y1 y2 y3 y4 y5 y6 y7 y8 y9 y10 y11 y12 y13 y14 t0 t1 t2 t3 t4 t5 t6 t7 t8 t9 t10 t11 t12 t13 t14
 replace y15 := (q.cell (p := ⟨gk, 15, none⟩) HK.out).trans y15
 clear q
 go_wp2_with fail
 refine ⟨?_, by simp [honMuJ, intOf]; omega⟩
 unfold HonJ
 refine ⟨_, _, _, _, _, _, _, _, _, _, _, _, _, _, _, _, _, _, _, _, _, _, _, _, _, _, _, _, _, _, _, _, _, _, _, _, _, _, _, ?_, rfl⟩
 exact ⟨k + 1, by omega, by go_num, HB2.out⟩
set_option maxRecDepth 1000000 in
theorem honIn_case0 (HZX : Hid SamesZ) (HX4 : Hid (Box7 X0 g X A1 k1 A2 k2)) (hlt : k < 2) (HB : Hid (Below X0.heap.size X0 wr)) {P P' : Option Addr} {m m' : Nat} {V : Int} (h1 : (V == 1) = false) (h2 : (V != 1) = true) (h3 : ¬ V < 0) (h4 : ¬ V > 2)
  (hp : F.Pcs wr wr.heap.size P zeroFr.ps) (he : Ents wr wr.heap.size P' zeroFr.es) (h16 : Sixteen wr gs (k * 16) zeroFr P m P' m' V) :
  @JG Q0 k wr g gs c0 c1 c2 c3 c4 c5 c6 c7 c8 c9 c10 c11 c12 c13 c15 c17 c18 c19 c20 c21 c22 c23 c24 c25 c27 c28 c29 c30 c31 c32 c33 c34 c35 c36 c37 c38 c39 c40 c41 c42 c43 c44 c45 c46 c47 c48 c49 c50 c51 c52 c53 c54 c55 c56 c57 c58 c59 c60 c61 c62 c63 c64 c65 c66 c67 c68 c69 c70 c71 c72 c73 c74 c75 c76 c116 c117 c118 c119 c120 c121 c122 c123 c124 c125 c126 c127 c128 c129 c130 c131 c132 c133 c134 c135 c136 X0 u14 u26 u80 u81 u82 u83 u84 u85 u86 u87 u88 u89 u90 u91 u92 u93 u94 u95 u96 u97 u98 u99 u100 u101 u102 u103 u104 u105 u106 u107 u108 u109 u110 u111 u112 u113 u114 u115 := by
 unfold JG
 conv => arg 2; whnf
 have hkI : (k : Int) < 2 := by omega
 obtain ⟨x0, x1, x2, x3, x4, x5, x6, x7, x8, x9, x10, x11, x12, x13, x14, x15⟩ := h16
 have hb1 := Joins.below_alloc1 wr (.cells #[.int .i64 zeroFr.snd, .int .i64 zeroFr.rnd, .int .i64 zeroFr.inc, .int .i64 zeroFr.term, .int .i64 zeroFr.role, .int .i64 zeroFr.vote, .int .i64 zeroFr.hrd, .int .i64 zeroFr.last, .int .i64 zeroFr.lterm, .int .i64 zeroFr.ack, .int .i64 zeroFr.com, .int .i64 zeroFr.prv, .int .i64 zeroFr.pterm, .slice P zeroFr.ps.length m, .slice P' zeroFr.es.length m', .int .i64 V] 70)
 have hh := heap_alloc_new wr (.cells #[.int .i64 zeroFr.snd, .int .i64 zeroFr.rnd, .int .i64 zeroFr.inc, .int .i64 zeroFr.term, .int .i64 zeroFr.role, .int .i64 zeroFr.vote, .int .i64 zeroFr.hrd, .int .i64 zeroFr.last, .int .i64 zeroFr.lterm, .int .i64 zeroFr.ack, .int .i64 zeroFr.com, .int .i64 zeroFr.prv, .int .i64 zeroFr.pterm, .slice P zeroFr.ps.length m, .slice P' zeroFr.es.length m', .int .i64 V] 70)
 have HS : Hid (Sixteen (wr.alloc (.cells #[.int .i64 zeroFr.snd, .int .i64 zeroFr.rnd, .int .i64 zeroFr.inc, .int .i64 zeroFr.term, .int .i64 zeroFr.role, .int .i64 zeroFr.vote, .int .i64 zeroFr.hrd, .int .i64 zeroFr.last, .int .i64 zeroFr.lterm, .int .i64 zeroFr.ack, .int .i64 zeroFr.com, .int .i64 zeroFr.prv, .int .i64 zeroFr.pterm, .slice P zeroFr.ps.length m, .slice P' zeroFr.es.length m', .int .i64 V] 70)) wr.heap.size 0 zeroFr P m P' m' V) := hid ⟨cell_of hh 0, cell_of hh 1, cell_of hh 2, cell_of hh 3, cell_of hh 4, cell_of hh 5, cell_of hh 6, cell_of hh 7, cell_of hh 8, cell_of hh 9, cell_of hh 10, cell_of hh 11, cell_of hh 12, cell_of hh 13, cell_of hh 14, cell_of hh 15⟩
 have HPs := hid ((hp.below hb1 (Nat.le_refl _)).more hb1.size)
 have HEs := hid ((he.below hb1 (Nat.le_refl _)).more hb1.size)
 have HB1 := hid (HB.out.trans (hb1.mono HB.out.size))
 have HX5 := hid ((HX4.out.on HB.out).on hb1)
 have HK : Hid (wr.heap.size < (wr.alloc (.cells #[.int .i64 zeroFr.snd, .int .i64 zeroFr.rnd, .int .i64 zeroFr.inc, .int .i64 zeroFr.term, .int .i64 zeroFr.role, .int .i64 zeroFr.vote, .int .i64 zeroFr.hrd, .int .i64 zeroFr.last, .int .i64 zeroFr.lterm, .int .i64 zeroFr.ack, .int .i64 zeroFr.com, .int .i64 zeroFr.prv, .int .i64 zeroFr.pterm, .slice P zeroFr.ps.length m, .slice P' zeroFr.es.length m', .int .i64 V] 70)).heap.size) := hid (by rw [World.size_alloc]; omega)
 clear hp he hb1 hh HB
 go_upto_region 14 with fail
 generalize wr.alloc (.cells #[.int .i64 zeroFr.snd, .int .i64 zeroFr.rnd, .int .i64 zeroFr.inc, .int .i64 zeroFr.term, .int .i64 zeroFr.role, .int .i64 zeroFr.vote, .int .i64 zeroFr.hrd, .int .i64 zeroFr.last, .int .i64 zeroFr.lterm, .int .i64 zeroFr.ack, .int .i64 zeroFr.com, .int .i64 zeroFr.prv, .int .i64 zeroFr.pterm, .slice P zeroFr.ps.length m, .slice P' zeroFr.es.length m', .int .i64 V] 70) = W1 at *
 generalize wr.heap.size = gk at *
 clear x0 x1 x2 x3 x4 x5 x6 x7 x8 x9 x10 x11 x12 x13 x14 x15
 obtain ⟨y0, y1, y2, y3, y4, y5, y6, y7, y8, y9, y10, y11, y12, y13, y14, y15⟩ := HS.out
 obtain ⟨t0, t1, t2, t3, t4, t5, t6, t7, t8, t9, t10, t11, t12, t13, t14⟩ := HX5.out.fr.cells
 go_wp2_with fail
 refine (HZX.out _ _ _ _ _).mono ?_; rintro e v ⟨rfl, q⟩
 have HB2 := hid (HB1.out.trans (q.mono HB1.out.size))
 clear y0 y1 y2 y3 y4 y5 y6 y7 y8 y9 y10 y11 y12 y13 y14 t0 t1 t2 t3 t4 t5 t6 t7 t8 t9 t10 t11 t12 t13 t14
 replace y15 := (q.cell (p := ⟨gk, 15, none⟩) HK.out).trans y15
 clear q
 go_wp2_with fail
 refine ⟨?_, by simp [honMuJ, intOf]; omega⟩
 unfold HonJ
 refine ⟨_, _, _, _, _, _, _, _, _, _, _, _, _, _, _, _, _, _, _, _, _, _, _, _, _, _, _, _, _, _, _, _, _, _, _, _, _, _, _, ?_, rfl⟩
 exact ⟨k + 1, by omega, by go_num, HB2.out⟩
set_option maxRecDepth 1000000 in
theorem honIn_round (HTX : Hid (SamesX X)) (HZX : Hid SamesZ) (HTw : Hid (Two X0 gs X)) (HX4 : Hid (Box7 X0 g X A1 k1 A2 k2))
  (HE : Hid (∀ u14 u26 u79 u80 u81 u82 u83 u84 u85 u86 u87 u88 u89 u90 u91 u92 u93 u94 u95 u96 u97 u98 u99 u100 u101 u102 u103 u104 u105 u106 u107 u108 u109 u110 u111 u112 u113 u114 u115 w'', Below X0.heap.size X0 w'' → Q0 (.exit 2) ⟨#[c0, c1, c2, c3, c4, c5, c6, c7, c8, c9, c10, c11, c12, c13, u14, c15, .pointer (some ⟨g, 0, none⟩), c17, c18, c19, c20, c21, c22, c23, c24, c25, u26, c27, c28, c29, c30, c31, c32, c33, c34, c35, c36, c37, c38, c39, c40, c41, c42, c43, c44, c45, c46, c47, c48, c49, c50, c51, c52, c53, c54, c55, c56, c57, c58, c59, c60, c61, c62, c63, c64, c65, c66, c67, c68, c69, c70, c71, c72, c73, c74, c75, c76, .slice (some ⟨gs, 0, none⟩) 2 2, .int .i64 2, u79, u80, u81, u82, u83, u84, u85, u86, u87, u88, u89, u90, u91, u92, u93, u94, u95, u96, u97, u98, u99, u100, u101, u102, u103, u104, u105, u106, u107, u108, u109, u110, u111, u112, u113, u114, u115, c116, c117, c118, c119, c120, c121, c122, c123, c124, c125, c126, c127, c128, c129, c130, c131, c132, c133, c134, c135, c136], []⟩ w''))
  (hb : Below X0.heap.size X0 wr) :
  @JG Q0 k wr g gs c0 c1 c2 c3 c4 c5 c6 c7 c8 c9 c10 c11 c12 c13 c15 c17 c18 c19 c20 c21 c22 c23 c24 c25 c27 c28 c29 c30 c31 c32 c33 c34 c35 c36 c37 c38 c39 c40 c41 c42 c43 c44 c45 c46 c47 c48 c49 c50 c51 c52 c53 c54 c55 c56 c57 c58 c59 c60 c61 c62 c63 c64 c65 c66 c67 c68 c69 c70 c71 c72 c73 c74 c75 c76 c116 c117 c118 c119 c120 c121 c122 c123 c124 c125 c126 c127 c128 c129 c130 c131 c132 c133 c134 c135 c136 X0 u14 u26 u80 u81 u82 u83 u84 u85 u86 u87 u88 u89 u90 u91 u92 u93 u94 u95 u96 u97 u98 u99 u100 u101 u102 u103 u104 u105 u106 u107 u108 u109 u110 u111 u112 u113 u114 u115 := by
 have HB := hid hb; clear hb
 by_cases hlt : k < 2
 ·obtain ⟨Y, V, P, P', m, m', hV, hp, he, h16⟩ := (HTw.out.on HB.out) k hlt
  rcases hV with ⟨hv, hy⟩ | ⟨hv, hy⟩
  ·rw [hv, hy] at h16; rw [hy] at hp he
   exact honIn_case1 HTX HX4 hlt HB hp he h16
  ·rw [hy] at h16 hp he
   exact honIn_case0 HZX HX4 hlt HB (by rcases hv with rfl | rfl <;> rfl) (by rcases hv with rfl | rfl <;> rfl) (by omega) (by omega) hp he h16
 ·unfold JG
  conv => arg 2; whnf
  have hkI : ¬ (k : Int) < 2 := by omega
  go_wp2_with fail
  exact HE.out _ _ _ _ _ _ _ _ _ _ _ _ _ _ _ _ _ _ _ _ _ _ _ _ _ _ _ _ _ _ _ _ _ _ _ _ _ _ _ _ HB.out
set_option maxRecDepth 1000000 in
theorem honIn_loop (HTX : Hid (SamesX X)) (HZX : Hid SamesZ) (HTw : Hid (Two X0 gs X)) (HX4 : Hid (Box7 X0 g X A1 k1 A2 k2))
  (HE : Hid (∀ u14 u26 u79 u80 u81 u82 u83 u84 u85 u86 u87 u88 u89 u90 u91 u92 u93 u94 u95 u96 u97 u98 u99 u100 u101 u102 u103 u104 u105 u106 u107 u108 u109 u110 u111 u112 u113 u114 u115 w'', Below X0.heap.size X0 w'' → Q0 (.exit 2) ⟨#[c0, c1, c2, c3, c4, c5, c6, c7, c8, c9, c10, c11, c12, c13, u14, c15, .pointer (some ⟨g, 0, none⟩), c17, c18, c19, c20, c21, c22, c23, c24, c25, u26, c27, c28, c29, c30, c31, c32, c33, c34, c35, c36, c37, c38, c39, c40, c41, c42, c43, c44, c45, c46, c47, c48, c49, c50, c51, c52, c53, c54, c55, c56, c57, c58, c59, c60, c61, c62, c63, c64, c65, c66, c67, c68, c69, c70, c71, c72, c73, c74, c75, c76, .slice (some ⟨gs, 0, none⟩) 2 2, .int .i64 2, u79, u80, u81, u82, u83, u84, u85, u86, u87, u88, u89, u90, u91, u92, u93, u94, u95, u96, u97, u98, u99, u100, u101, u102, u103, u104, u105, u106, u107, u108, u109, u110, u111, u112, u113, u114, u115, c116, c117, c118, c119, c120, c121, c122, c123, c124, c125, c126, c127, c128, c129, c130, c131, c132, c133, c134, c135, c136], []⟩ w'')) :
  Code.wp Tryz.prog (Code.loop honIn) Q0 ⟨#[c0, c1, c2, c3, c4, c5, c6, c7, c8, c9, c10, c11, c12, c13, u14, c15, .pointer (some ⟨g, 0, none⟩), c17, c18, c19, c20, c21, c22, c23, c24, c25, u26, c27, c28, c29, c30, c31, c32, c33, c34, c35, c36, c37, c38, c39, c40, c41, c42, c43, c44, c45, c46, c47, c48, c49, c50, c51, c52, c53, c54, c55, c56, c57, c58, c59, c60, c61, c62, c63, c64, c65, c66, c67, c68, c69, c70, c71, c72, c73, c74, c75, c76, .slice (some ⟨gs, 0, none⟩) 2 2, .int .i64 2, .int .i64 0, u80, u81, u82, u83, u84, u85, u86, u87, u88, u89, u90, u91, u92, u93, u94, u95, u96, u97, u98, u99, u100, u101, u102, u103, u104, u105, u106, u107, u108, u109, u110, u111, u112, u113, u114, u115, c116, c117, c118, c119, c120, c121, c122, c123, c124, c125, c126, c127, c128, c129, c130, c131, c132, c133, c134, c135, c136], []⟩ X0 := by
 refine wp_loop (HonJ g gs c0 c1 c2 c3 c4 c5 c6 c7 c8 c9 c10 c11 c12 c13 c15 c17 c18 c19 c20 c21 c22 c23 c24 c25 c27 c28 c29 c30 c31 c32 c33 c34 c35 c36 c37 c38 c39 c40 c41 c42 c43 c44 c45 c46 c47 c48 c49 c50 c51 c52 c53 c54 c55 c56 c57 c58 c59 c60 c61 c62 c63 c64 c65 c66 c67 c68 c69 c70 c71 c72 c73 c74 c75 c76 c116 c117 c118 c119 c120 c121 c122 c123 c124 c125 c126 c127 c128 c129 c130 c131 c132 c133 c134 c135 c136 X0) honMuJ ?_ (fun a wr hI => ?_)
 ·unfold HonJ
  exact ⟨u14, u26, .int .i64 0, u80, u81, u82, u83, u84, u85, u86, u87, u88, u89, u90, u91, u92, u93, u94, u95, u96, u97, u98, u99, u100, u101, u102, u103, u104, u105, u106, u107, u108, u109, u110, u111, u112, u113, u114, u115, ⟨0, by omega, rfl, Below.refl _ _⟩, rfl⟩
 ·unfold HonJ at hI
  obtain ⟨u14, hI⟩ := hI
  obtain ⟨u26, hI⟩ := hI
  obtain ⟨u79, hI⟩ := hI
  obtain ⟨u80, hI⟩ := hI
  obtain ⟨u81, hI⟩ := hI
  obtain ⟨u82, hI⟩ := hI
  obtain ⟨u83, hI⟩ := hI
  obtain ⟨u84, hI⟩ := hI
  obtain ⟨u85, hI⟩ := hI
  obtain ⟨u86, hI⟩ := hI
  obtain ⟨u87, hI⟩ := hI
  obtain ⟨u88, hI⟩ := hI
  obtain ⟨u89, hI⟩ := hI
  obtain ⟨u90, hI⟩ := hI
  obtain ⟨u91, hI⟩ := hI
  obtain ⟨u92, hI⟩ := hI
  obtain ⟨u93, hI⟩ := hI
  obtain ⟨u94, hI⟩ := hI
  obtain ⟨u95, hI⟩ := hI
  obtain ⟨u96, hI⟩ := hI
  obtain ⟨u97, hI⟩ := hI
  obtain ⟨u98, hI⟩ := hI
  obtain ⟨u99, hI⟩ := hI
  obtain ⟨u100, hI⟩ := hI
  obtain ⟨u101, hI⟩ := hI
  obtain ⟨u102, hI⟩ := hI
  obtain ⟨u103, hI⟩ := hI
  obtain ⟨u104, hI⟩ := hI
  obtain ⟨u105, hI⟩ := hI
  obtain ⟨u106, hI⟩ := hI
  obtain ⟨u107, hI⟩ := hI
  obtain ⟨u108, hI⟩ := hI
  obtain ⟨u109, hI⟩ := hI
  obtain ⟨u110, hI⟩ := hI
  obtain ⟨u111, hI⟩ := hI
  obtain ⟨u112, hI⟩ := hI
  obtain ⟨u113, hI⟩ := hI
  obtain ⟨u114, hI⟩ := hI
  obtain ⟨u115, hI⟩ := hI
  obtain ⟨⟨k, hk, rfl, hb⟩, rfl⟩ := hI
  exact honIn_round HTX HZX HTw HX4 HE hb
end
end Go.Proofs.YtmmbnjkdknnidaaGreatDoor

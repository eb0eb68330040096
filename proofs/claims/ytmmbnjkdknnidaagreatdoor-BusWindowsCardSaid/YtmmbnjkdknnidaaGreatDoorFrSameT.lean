/-
  Frames compared: the document's Same.
-/
import Derived.Test.YtmmbnjkdknnidaaGreatDoorFrAllT
namespace Go.Proofs.YtmmbnjkdknnidaaGreatDoor
open Go.RowKit
def sameF (a b : Fr) : Bool := decide (numsF a = numsF b) && (decide (a.snd = b.snd) && (decide (a.role = b.role) && (decide (a.vote = b.vote) && (F.samePL a.ps b.ps && sameEs a.es b.es))))
theorem sameF_iff (a b : Fr) : sameF a b = true ↔ a = b := by
 unfold sameF
 rw [Bool.and_eq_true, Bool.and_eq_true, Bool.and_eq_true, Bool.and_eq_true, Bool.and_eq_true, F.samePL_iff, sameEs_iff]
 simp only [decide_eq_true_iff]
 obtain ⟨a0, a1, a2, a3, a4, a5, a6, a7, a8, a9, a10, a11, a12, ps, es⟩ := a
 obtain ⟨b0, b1, b2, b3, b4, b5, b6, b7, b8, b9, b10, b11, b12, ps', es'⟩ := b
 unfold numsF
 simp only [List.cons.injEq, Fr.mk.injEq]
 constructor
 ·rintro ⟨⟨h1, h2, h3, h4, h5, h6, h7, h8, h9, h10, -⟩, g1, g2, g3, g4, g5⟩
  exact ⟨g1, h1, h2, h3, g2, g3, h4, h5, h6, h7, h8, h9, h10, g4, g5⟩
 ·rintro ⟨g1, h1, h2, h3, g2, g3, h4, h5, h6, h7, h8, h9, h10, g4, g5⟩
  exact ⟨⟨h1, h2, h3, h4, h5, h6, h7, h8, h9, h10, trivial⟩, g1, g2, g3, g4, g5⟩
theorem ne_of_nums {l m : List Int} {k : Nat} {x y : Int} (hx : l[k]? = some x) (hy : m[k]? = some y) (h : x ≠ y) : l ≠ m := by
 rintro rfl
 exact h (Option.some.inj (hx.symm.trans hy))
set_option maxRecDepth 100000 in
set_option maxHeartbeats 8000000 in
theorem refSame7_any (a b : Fr) (A B A' B' : Option Addr) (c d c' d' : Nat) (w : World) (hP : F.Pcs w w.heap.size A a.ps) (hE : Ents w w.heap.size A' a.es) (hQ : F.Pcs w w.heap.size B b.ps) (hG : Ents w w.heap.size B' b.es) (hpl : a.ps.length ≤ maxLen) (hel : a.es.length ≤ maxLen) (hed : ∀ x ∈ a.es, x.incs.length ≤ maxLen ∧ x.msgs.length ≤ maxLen) :
  Calls Tryz.prog 24 #[fv a (.slice A a.ps.length c) (.slice A' a.es.length c'), fv b (.slice B b.ps.length d) (.slice B' b.es.length d')] w fun e w' => e = .returned (.bool (sameF a b)) ∧ Below w.heap.size w w' := by
 have HD : Hid (sameF a b = (decide (numsF a = numsF b) && (decide (a.snd = b.snd) && (decide (a.role = b.role) && (decide (a.vote = b.vote) && (F.samePL a.ps b.ps && sameEs a.es b.es)))))) := Lib.hid rfl
 generalize sameF a b = R at *
 have b0 := Joins.below_alloc2 w (.cells (fc a (.slice A a.ps.length c) (.slice A' a.es.length c')) 29) (.cells (fc b (.slice B b.ps.length d) (.slice B' b.es.length d')) 29)
 have a0 := (FrAt.new w a (.slice A a.ps.length c) (.slice A' a.es.length c')).on (Joins.below_alloc1 _ (.cells (fc b (.slice B b.ps.length d) (.slice B' b.es.length d')) 29))
 have a1 := FrAt.new (w.alloc (.cells (fc a (.slice A a.ps.length c) (.slice A' a.es.length c')) 29)) b (.slice B b.ps.length d) (.slice B' b.es.length d')
 rw [World.size_alloc] at a1
 have CN1 := Lib.hid (fun W => refNumbers_any a (.slice A a.ps.length c) (.slice A' a.es.length c') W)
 have CN2 := Lib.hid (fun W => refNumbers_any b (.slice B b.ps.length d) (.slice B' b.es.length d') W)
 have CP := Lib.hid (fun W (h : Below w.heap.size w W) => F.refPieces_any A B c d _ _ a.ps b.ps W ((hP.below h (Nat.le_refl _)).more h.size) ((hQ.below h (Nat.le_refl _)).more h.size) hpl)
 have CE := Lib.hid (fun W (h : Below w.heap.size w W) => refAll_any A' B' c' d' _ _ a.es b.es W ((hE.below h (Nat.le_refl _)).more h.size) ((hG.below h (Nat.le_refl _)).more h.size) (Nat.le_refl _) (Nat.le_refl _) hel hed)
 have HB0 := Lib.hid b0
 have HA0 := Lib.hid a0
 have HC0 := Lib.hid a1
 have hn1 : (numsF a).length = 10 := rfl
 have hn2 : (numsF b).length = 10 := rfl
 have HN1 := Lib.hid hn1; have HN2 := Lib.hid hn2
 clear b0 a0 a1 hP hE hQ hG hpl hel hed hn1 hn2
 obtain ⟨y0, y1, y2, y3, y4, y5, y6, y7, y8, y9, y10, y11, y12, y13, y14⟩ := HA0.out.cells
 go_enter Tryz.func24, Tryz.ntmps24
 go_wp2_with fail
 generalize (w.alloc (.cells (fc a (.slice A a.ps.length c) (.slice A' a.es.length c')) 29)).alloc (.cells (fc b (.slice B b.ps.length d) (.slice B' b.es.length d')) 29) = W0 at *
 refine (CN1.out _).mono ?_; rintro e w1 ⟨M1, rfl, hr1, b1⟩
 have HB1 := Lib.hid (HB0.out.trans (b1.mono HB0.out.size))
 have HA1 := Lib.hid (HA0.out.on b1)
 have HC1 := Lib.hid (HC0.out.on b1)
 have HR1 := Lib.hid hr1
 clear y0 y1 y2 y3 y4 y5 y6 y7 y8 y9 y10 y11 y12 y13 y14 b1 hr1 HA0 HC0
 obtain ⟨y0, y1, y2, y3, y4, y5, y6, y7, y8, y9, y10, y11, y12, y13, y14⟩ := HC1.out.cells
 go_wp2_with fail
 refine (CN2.out _).mono ?_; rintro e w2 ⟨M2, rfl, hr2, b2⟩
 have HB2 := Lib.hid (HB1.out.trans (b2.mono HB1.out.size))
 have HA2 := Lib.hid (HA1.out.on b2)
 have HC2 := Lib.hid (HC1.out.on b2)
 have HR2 := Lib.hid hr2
 have HR12 := Lib.hid (HR1.out.below b2 (Nat.le_refl _))
 have HSZ := Lib.hid b2.size
 clear y0 y1 y2 y3 y4 y5 y6 y7 y8 y9 y10 y11 y12 y13 y14 b2 hr2 HA1 HC1 HR1
 go_wp2_with fail
 go_loopw [7] (fun ix wr => ∃ k : Nat, k ≤ 10 ∧ ix = .int .i64 (k : Int) ∧ (numsF a).take k = (numsF b).take k ∧ Below w2.heap.size w2 wr) (fun ix _ => 10 - (intOf ix).toNat)
 case atStart => exact ⟨0, by omega, rfl, rfl, Below.refl _ _⟩
 case round =>
  obtain ⟨k, hk, rfl, htk, hbr⟩ := hrel
  have HBR := Lib.hid hbr; clear hbr
  have HTK := Lib.hid htk; clear htk
  have HBA := Lib.hid (HB2.out.trans (HBR.out.mono HB2.out.size))
  by_cases hlt : k < 10
  ·have hkI : (k : Int) < 10 := by omega
   have hk0 : (0 : Int) ≤ (k : Int) := by omega
   have hkw : IntKind.i64.wrap ((k : Int) + 1) = (k : Int) + 1 := IntWalk.i64_in _ (by omega)
   obtain ⟨x, hx⟩ : ∃ x, (numsF a)[k]? = some x := ⟨_, List.getElem?_eq_getElem (by have := HN1.out; omega)⟩
   obtain ⟨y, hy⟩ : ∃ y, (numsF b)[k]? = some y := ⟨_, List.getElem?_eq_getElem (by have := HN2.out; omega)⟩
   obtain ⟨ad, rfl, hadb, hcc⟩ := HR12.out (by have := HN1.out; omega)
   obtain ⟨bd, rfl, hbdb, hdd⟩ := HR2.out (by have := HN2.out; omega)
   have hc1 := (HBR.out.cell (p := ad.add k) (by rw [V.adb]; exact Nat.lt_of_lt_of_le hadb HSZ.out)).trans (hcc k x hx)
   have hc2 := (HBR.out.cell (p := bd.add k) (by rw [V.adb]; exact hbdb)).trans (hdd k y hy)
   have HX := Lib.hid hx; have HY := Lib.hid hy
   clear hcc hdd hx hy hadb hbdb
   by_cases hxy : x = y
   ·subst hxy
    go_wp2_with fail
    go_quiet (fail)
    go_wp2_with fail
    go_roundw
    case rel => exact ⟨k + 1, by omega, by go_num, by rw [List.take_add_one, List.take_add_one, HTK.out, HX.out, HY.out], below_drewN HBR.out _⟩
    case measure => simp [intOf]; omega
   ·have hne : (x != y) = true := by simpa using hxy
    have HF : Hid (false = R) := Lib.hid (by rw [HD.out, decide_eq_false (ne_of_nums HX.out HY.out hxy)]; rfl)
    clear hxy
    go_wp2_with fail
    go_quiet (fail)
    go_wp2_with fail
    go_ret
    exact ⟨ret_b HF.out, below_drewN HBA.out _⟩
  ·have hkI : ¬ (k : Int) < 10 := by omega
   have HNN : Hid (R = (decide (a.snd = b.snd) && (decide (a.role = b.role) && (decide (a.vote = b.vote) && (F.samePL a.ps b.ps && sameEs a.es b.es))))) := Lib.hid (by
    have h1 := HTK.out
    rw [List.take_of_length_le (by have := HN1.out; omega), List.take_of_length_le (by have := HN2.out; omega)] at h1
    rw [HD.out, decide_eq_true h1]; rfl)
   clear HD HTK
   obtain ⟨y0, y1, y2, y3, y4, y5, y6, y7, y8, y9, y10, y11, y12, y13, y14⟩ := (HA2.out.on HBR.out).cells
   obtain ⟨z0, z1, z2, z3, z4, z5, z6, z7, z8, z9, z10, z11, z12, z13, z14⟩ := (HC2.out.on HBR.out).cells
   clear y1 y2 y3 y6 y7 y8 y9 y10 y11 y12 z1 z2 z3 z6 z7 z8 z9 z10 z11 z12
   by_cases g1 : a.snd = b.snd
   ·have q1 : ((a.snd : Int) == b.snd) = true := by simpa using g1
    have H1 := Lib.hid g1; clear g1
    by_cases g2 : a.role = b.role
    ·have q2 : ((a.role : Int) == b.role) = true := by simpa using g2
     have H2 := Lib.hid g2; clear g2
     by_cases g3 : a.vote = b.vote
     ·have q3 : ((a.vote : Int) == b.vote) = true := by simpa using g3
      have H3 := Lib.hid g3; clear g3
      have HX : Hid (R = (F.samePL a.ps b.ps && sameEs a.es b.es)) := Lib.hid (by rw [HNN.out, decide_eq_true H1.out, decide_eq_true H2.out, decide_eq_true H3.out]; simp)
      clear HNN
      generalize F.samePL a.ps b.ps = D at *
      generalize sameEs a.es b.es = E at *
      go_wp2_with fail
      refine (CP.out _ HBA.out).mono ?_; rintro e w5 ⟨rfl, n5, rfl⟩
      clear y13 z13 y14 z14
      obtain ⟨-, -, -, -, -, -, -, -, -, -, -, -, -, -, y14⟩ := (HA2.out.on (below_drewN HBR.out n5)).cells
      obtain ⟨-, -, -, -, -, -, -, -, -, -, -, -, -, -, z14⟩ := (HC2.out.on (below_drewN HBR.out n5)).cells
      have HB5 := Lib.hid (below_drewN HBA.out n5)
      generalize wr.drewN n5 = W5 at *
      cases D
      ·go_wp2_with fail
       go_ret
       exact ⟨ret_b (by rw [HX.out]; rfl), HB5.out⟩
      ·go_wp2_with fail
       refine (CE.out _ HB5.out).mono ?_; rintro e w6 ⟨rfl, b6⟩
       go_wp2_with fail
       go_ret
       exact ⟨ret_b (by rw [HX.out]; rfl), HB5.out.trans (b6.mono HB5.out.size)⟩
     ·have q3 : ((a.vote : Int) == b.vote) = false := by simpa using g3
      have HF : Hid (false = R) := Lib.hid (by rw [HNN.out, decide_eq_false g3]; simp)
      clear g3
      go_wp2_with fail
      go_ret
      exact ⟨ret_b HF.out, HBA.out⟩
    ·have q2 : ((a.role : Int) == b.role) = false := by simpa using g2
     have HF : Hid (false = R) := Lib.hid (by rw [HNN.out, decide_eq_false g2]; simp)
     clear g2
     go_wp2_with fail
     go_ret
     exact ⟨ret_b HF.out, HBA.out⟩
   ·have q1 : ((a.snd : Int) == b.snd) = false := by simpa using g1
    have HF : Hid (false = R) := Lib.hid (by rw [HNN.out, decide_eq_false g1]; simp)
    clear g1
    go_wp2_with fail
    go_ret
    exact ⟨ret_b HF.out, HBA.out⟩
end Go.Proofs.YtmmbnjkdknnidaaGreatDoor

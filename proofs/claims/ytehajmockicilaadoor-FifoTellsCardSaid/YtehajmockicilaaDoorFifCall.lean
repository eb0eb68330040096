/-
  What the program's Lost and Offer tell.
-/
import Derived.Test.YtehajmockicilaaDoorFifOffK
import Derived.Test.YtehajmockicilaaDoorFifOff
namespace Go.Proofs.YtehajmockicilaaDoor
open Go Go.RowKit

abbrev kpv (L T : Int) (u : Value) (m : Msg) (F : Value) : Value := .agg (kpc L T u m F)

set_option maxRecDepth 100000 in
set_option maxHeartbeats 4000000 in
theorem ansForget_any (LQ T : Int) (A : Option Addr) (c : Nat) (l : List Msg) (m : Msg) (AF : Option Addr) (cf : Nat) (fs : List (Bool × Int × Int)) (w : World) (LL : Laid w) (hq : QIn w A c l) :
    Calls Tryd.prog 51 #[kpv LQ T (.slice A l.length c) m (.slice AF fs.length cf), (.func (.func 52) #[] #[])] w (FiPost A LQ (lostFiT LQ T l) l (lostFiN LQ T l) (lostFiE LQ T l) w) := by
  have q1 := KpAt.new w LQ T (.slice A l.length c) m (.slice AF fs.length cf)
  have b1 := Joins.below_alloc1 w (.cells (kpc LQ T (.slice A l.length c) m (.slice AF fs.length cf)) 86)
  have q2 := FiAt.new (w.alloc (.cells (kpc LQ T (.slice A l.length c) m (.slice AF fs.length cf)) 86)) 0 0 none 0 0
  have b2 := Joins.below_alloc1 (w.alloc (.cells (kpc LQ T (.slice A l.length c) m (.slice AF fs.length cf)) 86)) (.cells #[.int .i64 0, .int .i64 0, .slice none 0 0] 30)
  have q3 := FiAt.new ((w.alloc (.cells (kpc LQ T (.slice A l.length c) m (.slice AF fs.length cf)) 86)).alloc (.cells #[.int .i64 0, .int .i64 0, .slice none 0 0] 30)) LQ T A l.length c
  have b3 := Joins.below_alloc1 ((w.alloc (.cells (kpc LQ T (.slice A l.length c) m (.slice AF fs.length cf)) 86)).alloc (.cells #[.int .i64 0, .int .i64 0, .slice none 0 0] 30)) (.cells #[.int .i64 LQ, .int .i64 T, .slice A l.length c] 30)
  rw [World.size_alloc] at q2
  rw [World.size_alloc, World.size_alloc] at q3
  have b23 := b2.trans (b3.mono b2.size)
  have q1a := q1.on b2
  obtain ⟨y0, y1, y2⟩ := q1a.fifo
  have q1' := q1.on b23
  have q2' := q2.on b3
  have hB := b1.trans (b23.mono b1.size)
  have hsz : (((w.alloc (.cells (kpc LQ T (.slice A l.length c) m (.slice AF fs.length cf)) 86)).alloc (.cells #[.int .i64 0, .int .i64 0, .slice none 0 0] 30)).alloc (.cells #[.int .i64 LQ, .int .i64 T, .slice A l.length c] 30)).heap.size = w.heap.size + 3 := by simp only [World.size_alloc]
  have hqx := hq.on hB
  obtain ⟨u0, u1, u2⟩ := q3.cells
  clear q1 q2 b1 b2 b3 b23 q1a
  have HK := Lib.hid q1'
  have HQ2 : Hid (FiAt _ (w.heap.size + 1) 0 0 none 0 0) := Lib.hid q2'
  have HQ7 : Hid (FiAt _ (w.heap.size + 2) LQ T A l.length c) := Lib.hid q3
  have HB := Lib.hid hB
  have HSZ := Lib.hid hsz
  have HQ := Lib.hid hqx
  have HLL := Lib.hid (LL.below hB)
  have HQW := Lib.hid hq
  have CR := Lib.hid (rightFi_any LQ T A c l _ (LL.below hB) hqx)
  have hfew := hq.few
  clear hq q1' q2' q3 hB hqx hsz LL
  have HET : Hid (lostFiT LQ T l = if rightFi LQ T l = true then 0 else T) := Lib.hid rfl
  have HEN : Hid (lostFiN LQ T l = if rightFi LQ T l = true then T else 0) := Lib.hid rfl
  have HEE : Hid (lostFiE LQ T l = if rightFi LQ T l = true then 0 else 1) := Lib.hid rfl
  rw [HET.out, HEN.out, HEE.out]
  clear HET HEN HEE
  generalize rightFi LQ T l = R at *
  cases R
  · show Calls _ _ _ _ (FiPost A LQ T l 0 1 w)
    obtain ⟨e1, n1, s1, i1, q1, k1, d1⟩ := m
    simp only [kpv, kpc] at *
    go_enter Tryd.func51, Tryd.ntmps51
    go_wp2_with fail
    generalize ((w.alloc (.cells #[.int .i64 LQ, .int .i64 T, .slice A l.length c, .bool e1, .int .i64 n1, .int .i64 s1, .int .i64 i1, .int .i64 q1, .int .i64 k1, .string d1, .slice AF fs.length cf] 86)).alloc (.cells #[.int .i64 0, .int .i64 0, .slice none 0 0] 30)).alloc (.cells #[.int .i64 LQ, .int .i64 T, .slice A l.length c] 30) = X at *
    refine CR.out.mono ?_; rintro e w3 ⟨rfl, b3⟩
    have HB := Lib.hid (HB.out.trans (b3.mono HB.out.size))
    have HK := Lib.hid (HK.out.on b3)
    have HQ2 := Lib.hid (HQ2.out.on b3)
    have HQ7 := Lib.hid (HQ7.out.on b3)
    have HQ := Lib.hid (HQ.out.on b3)
    have HLL := Lib.hid (HLL.out.below b3)
    have HX3 : Hid (w.heap.size + 3 ≤ w3.heap.size) := Lib.hid (by have := b3.size; have := HSZ.out; omega)
    clear y0 y1 y2 u0 u1 u2 b3 CR HSZ
    obtain ⟨u0, u1, u2⟩ := HQ7.out.cells
    obtain ⟨z0, z1, z2⟩ := HQ2.out.cells
    have zf := HQ2.out.frozen
    have HR := Lib.hid (HQ2.out.set LQ T A l.length c)
    have HBR := Lib.hid (below_set3 HB.out (b := w.heap.size + 1) (by omega) (.int .i64 LQ) (.int .i64 T) (.slice A l.length c))
    have HP : Hid (FiPost A LQ T l 0 1 w (.returned (.tuple #[fiv LQ T A l.length c, .int .i64 0, .int .i64 1])) _) := Lib.hid ⟨A, c, rfl, QTold.is (HQW.out.on HBR.out), HBR.out⟩
    go_wp2_with fail
    exact bodyPost_ret (fii_res Tryd.results51 HR.out rfl rfl rfl) rfl HP.out
  · show Calls _ _ _ _ (FiPost A LQ 0 l T 0 w)
    obtain ⟨e1, n1, s1, i1, q1, k1, d1⟩ := m
    simp only [kpv, kpc] at *
    go_enter Tryd.func51, Tryd.ntmps51
    go_wp2_with fail
    generalize ((w.alloc (.cells #[.int .i64 LQ, .int .i64 T, .slice A l.length c, .bool e1, .int .i64 n1, .int .i64 s1, .int .i64 i1, .int .i64 q1, .int .i64 k1, .string d1, .slice AF fs.length cf] 86)).alloc (.cells #[.int .i64 0, .int .i64 0, .slice none 0 0] 30)).alloc (.cells #[.int .i64 LQ, .int .i64 T, .slice A l.length c] 30) = X at *
    refine CR.out.mono ?_; rintro e w3 ⟨rfl, b3⟩
    have HB := Lib.hid (HB.out.trans (b3.mono HB.out.size))
    have HK := Lib.hid (HK.out.on b3)
    have HQ2 := Lib.hid (HQ2.out.on b3)
    have HQ7 := Lib.hid (HQ7.out.on b3)
    have HQ := Lib.hid (HQ.out.on b3)
    have HLL := Lib.hid (HLL.out.below b3)
    have HX3 : Hid (w.heap.size + 3 ≤ w3.heap.size) := Lib.hid (by have := b3.size; have := HSZ.out; omega)
    clear y0 y1 y2 u0 u1 u2 b3 CR HSZ
    obtain ⟨u0, u1, u2⟩ := HQ7.out.cells
    have co := fiOwned_any A c l w3 HQ.out
    have HK2 := Lib.hid HK.out
    have hkf := HK.out.frozen
    obtain ⟨y0, y1, y2⟩ := HK.out.fifo
    clear y0 y1 hkf y2
    go_wp2_with fail; refine co.mono ?_; rintro e w4 ⟨v, rfl, ho4, b4⟩
    obtain ⟨A5, c5, hv5, hc5, hm5⟩ := ho4.row
    subst hv5
    have HB := Lib.hid (HB.out.trans (b4.mono HB.out.size))
    have HK := Lib.hid (HK.out.on b4)
    have HQ2 := Lib.hid (HQ2.out.on b4)
    have HQ7 := Lib.hid (HQ7.out.on b4)
    have HLL := Lib.hid (HLL.out.below b4)
    have HO4 := Lib.hid (ho4.base HX3.out)
    have HS4 : Hid (w.heap.size + 3 ≤ w4.heap.size) := Lib.hid (Nat.le_trans HX3.out b4.size)
    obtain ⟨y0, y1, y2⟩ := HK.out.fifo
    have yf := HK.out.frozen
    have HK5 := Lib.hid (HK.out.list (.slice A5 l.length c5))
    have HQ25 := Lib.hid (HQ2.out.cell1 (b := w.heap.size) (i := 2) (by omega) (.slice A5 l.length c5))
    have HQ75 := Lib.hid (HQ7.out.cell1 (b := w.heap.size) (i := 2) (by omega) (.slice A5 l.length c5))
    have HO5 := Lib.hid (HO4.out.cell1 (b := w.heap.size) (i := 2) (by omega) (.slice A5 l.length c5))
    have HB5 := Lib.hid (HB.out.setCell (p := ⟨w.heap.size, 2, none⟩) (Nat.le_refl _) (.slice A5 l.length c5))
    have HS5 : Hid (w.heap.size + 3 ≤ (w4.setCell ⟨w.heap.size, 2, none⟩ (.slice A5 l.length c5)).heap.size) := Lib.hid (by rw [World.size_setCell]; exact HS4.out)
    clear u0 u1 u2 hm5 hc5 ho4 b4 co HK2 HQ
    go_upto_region 6 with (fail)
    clear y0 y1 y2 yf HK HQ2 HQ7 HO4 HB HS4
    generalize w4.setCell ⟨w.heap.size, 2, none⟩ (.slice A5 l.length c5) = W5 at *
    have cf7 := forget_any w.heap.size LQ T (.slice A5 l.length c5) ⟨e1, n1, s1, i1, q1, k1, d1⟩ (.slice AF fs.length cf) W5 HK5.out
    go_wp2_with fail; refine cf7.mono ?_; rintro e w7 ⟨rfl, rfl⟩
    have HK9 := Lib.hid (HK5.out.lost 0)
    have HQ29 := Lib.hid (HQ25.out.cell1 (b := w.heap.size) (i := 1) (by omega) (.int .i64 0))
    have HB9 := Lib.hid (HB5.out.setCell (p := ⟨w.heap.size, 1, none⟩) (Nat.le_refl _) (.int .i64 0))
    have HT9 := Lib.hid ((QTold.ofOwn (A0 := none) HO5.out).cell1 (b := w.heap.size) (i := 1) (by omega) (.int .i64 0))
    clear cf7
    generalize W5.setCell ⟨w.heap.size, 1, none⟩ (.int .i64 0) = Y at *
    obtain ⟨y0, y1, y2⟩ := HK9.out.fifo
    obtain ⟨z0, z1, z2⟩ := HQ29.out.cells
    have zf := HQ29.out.frozen
    have HR := Lib.hid (HQ29.out.set LQ (0) A5 (l.length) c5)
    have HBR := Lib.hid (below_set3 HB9.out (b := w.heap.size + 1) (by omega) (.int .i64 LQ) (.int .i64 (0)) (.slice A5 (l.length) c5))
    have HTR := Lib.hid ((HT9.out.put3 (b := w.heap.size + 1) (by omega) (.int .i64 LQ) (.int .i64 (0)) (.slice A5 (l.length) c5)).less (S' := w.heap.size) (by omega))
    have HP : Hid (FiPost A LQ (0) (l) T 0 w (.returned (.tuple #[fiv LQ (0) A5 (l.length) c5, .int .i64 (T), .int .i64 0])) _) := Lib.hid ⟨A5, c5, rfl, HTR.out.any, HBR.out⟩
    clear HT9 HQ29 HB9 HO5
    go_wp2_with fail
    exact bodyPost_ret (fii_res Tryd.results51 HR.out rfl rfl rfl) rfl HP.out

set_option maxRecDepth 100000 in
set_option maxHeartbeats 4000000 in
theorem ansOffer_any (LQ T : Int) (A : Option Addr) (c : Nat) (l : List Msg) (m : Msg) (AF : Option Addr) (cf : Nat) (fs : List (Bool × Int × Int)) (w : World) (LL : Laid w) (hq : QIn w A c l) (hd : m.data.size ≤ 140737488351232) (hf : LieIn w AF fs) (hfl : fs.length ≤ 281474976710656) :
    Calls Tryd.prog 51 #[kpv LQ T (.slice A l.length c) m (.slice AF fs.length cf), (.func (.func 58) #[] #[])] w (FiPost A LQ (offFiT LQ T l m (anyI m.ext m.n fs)) (offFiL LQ T l m (anyI m.ext m.n fs)) (offFiH LQ T l m (anyI m.ext m.n fs)) (offFiE LQ T l m) w) := by
  have q1 := KpAt.new w LQ T (.slice A l.length c) m (.slice AF fs.length cf)
  have b1 := Joins.below_alloc1 w (.cells (kpc LQ T (.slice A l.length c) m (.slice AF fs.length cf)) 86)
  have q2 := FiAt.new (w.alloc (.cells (kpc LQ T (.slice A l.length c) m (.slice AF fs.length cf)) 86)) 0 0 none 0 0
  have b2 := Joins.below_alloc1 (w.alloc (.cells (kpc LQ T (.slice A l.length c) m (.slice AF fs.length cf)) 86)) (.cells #[.int .i64 0, .int .i64 0, .slice none 0 0] 30)
  have q3 := FiAt.new ((w.alloc (.cells (kpc LQ T (.slice A l.length c) m (.slice AF fs.length cf)) 86)).alloc (.cells #[.int .i64 0, .int .i64 0, .slice none 0 0] 30)) LQ T A l.length c
  have b3 := Joins.below_alloc1 ((w.alloc (.cells (kpc LQ T (.slice A l.length c) m (.slice AF fs.length cf)) 86)).alloc (.cells #[.int .i64 0, .int .i64 0, .slice none 0 0] 30)) (.cells #[.int .i64 LQ, .int .i64 T, .slice A l.length c] 30)
  rw [World.size_alloc] at q2
  rw [World.size_alloc, World.size_alloc] at q3
  have b23 := b2.trans (b3.mono b2.size)
  have q1a := q1.on b2
  obtain ⟨y0, y1, y2⟩ := q1a.fifo
  have q1' := q1.on b23
  have q2' := q2.on b3
  have hB := b1.trans (b23.mono b1.size)
  have hsz : (((w.alloc (.cells (kpc LQ T (.slice A l.length c) m (.slice AF fs.length cf)) 86)).alloc (.cells #[.int .i64 0, .int .i64 0, .slice none 0 0] 30)).alloc (.cells #[.int .i64 LQ, .int .i64 T, .slice A l.length c] 30)).heap.size = w.heap.size + 3 := by simp only [World.size_alloc]
  have hqx := hq.on hB
  obtain ⟨u0, u1, u2⟩ := q3.cells
  clear q1 q2 b1 b2 b3 b23 q1a
  have HK := Lib.hid q1'
  have HQ2 : Hid (FiAt _ (w.heap.size + 1) 0 0 none 0 0) := Lib.hid q2'
  have HQ7 : Hid (FiAt _ (w.heap.size + 2) LQ T A l.length c) := Lib.hid q3
  have HB := Lib.hid hB
  have HSZ := Lib.hid hsz
  have HQ := Lib.hid hqx
  have HLL := Lib.hid (LL.below hB)
  have HQW := Lib.hid hq
  have CR := Lib.hid (rightFi_any LQ T A c l _ (LL.below hB) hqx)
  have HLW := Lib.hid LL
  have HFW := Lib.hid hf
  have HF := Lib.hid (hf.below hB)
  have HD := Lib.hid hd
  clear hf hd
  have hfew := hq.few
  clear hq q1' q2' q3 hB hqx hsz LL
  cases hR : rightFi LQ T l
  · obtain ⟨he, hh, ht, hl⟩ := off_bad (L := LQ) (T := T) (l := l) (m := m) (by rw [hR]; rintro ⟨h, _⟩; cases h) (anyI m.ext m.n fs)
    rw [he, hh, ht, hl]
    rw [hR] at CR
    clear he hh ht hl hR
    obtain ⟨e1, n1, s1, i1, q1, k1, d1⟩ := m
    simp only [kpv, kpc] at *
    go_enter Tryd.func51, Tryd.ntmps51
    go_wp2_with fail
    generalize ((w.alloc (.cells #[.int .i64 LQ, .int .i64 T, .slice A l.length c, .bool e1, .int .i64 n1, .int .i64 s1, .int .i64 i1, .int .i64 q1, .int .i64 k1, .string d1, .slice AF fs.length cf] 86)).alloc (.cells #[.int .i64 0, .int .i64 0, .slice none 0 0] 30)).alloc (.cells #[.int .i64 LQ, .int .i64 T, .slice A l.length c] 30) = X at *
    refine CR.out.mono ?_; rintro e w3 ⟨rfl, b3⟩
    have HB := Lib.hid (HB.out.trans (b3.mono HB.out.size))
    have HK := Lib.hid (HK.out.on b3)
    have HQ2 := Lib.hid (HQ2.out.on b3)
    have HQ7 := Lib.hid (HQ7.out.on b3)
    have HQ := Lib.hid (HQ.out.on b3)
    have HLL := Lib.hid (HLL.out.below b3)
    have HF := Lib.hid (HF.out.below b3)
    have HX3 : Hid (w.heap.size + 3 ≤ w3.heap.size) := Lib.hid (by have := b3.size; have := HSZ.out; omega)
    clear y0 y1 y2 u0 u1 u2 b3 CR HSZ
    obtain ⟨u0, u1, u2⟩ := HQ7.out.cells
    obtain ⟨z0, z1, z2⟩ := HQ2.out.cells
    have zf := HQ2.out.frozen
    have HR := Lib.hid (HQ2.out.set LQ T A l.length c)
    have HBR := Lib.hid (below_set3 HB.out (b := w.heap.size + 1) (by omega) (.int .i64 LQ) (.int .i64 T) (.slice A l.length c))
    have HP : Hid (FiPost A LQ T l 0 1 w (.returned (.tuple #[fiv LQ T A l.length c, .int .i64 0, .int .i64 1])) _) := Lib.hid ⟨A, c, rfl, QTold.is (HQW.out.on HBR.out), HBR.out⟩
    go_wp2_with fail
    exact bodyPost_ret (fii_res Tryd.results51 HR.out rfl rfl rfl) rfl HP.out
  · have hlL := ((rightFi_iff LQ T l).1 hR).2.1
    have hTT := ((rightFi_iff LQ T l).1 hR).2.2.1
    cases hM : rightM m
    · obtain ⟨he, hh, ht, hl⟩ := off_bad (L := LQ) (T := T) (l := l) (m := m) (by rw [hM]; rintro ⟨_, h⟩; cases h) (anyI m.ext m.n fs)
      rw [he, hh, ht, hl]
      rw [hR] at CR
      have HM := Lib.hid hM
      clear he hh ht hl hR hM hTT hlL
      obtain ⟨e1, n1, s1, i1, q1, k1, d1⟩ := m
      simp only [kpv, kpc] at *
      go_enter Tryd.func51, Tryd.ntmps51
      go_wp2_with fail
      generalize ((w.alloc (.cells #[.int .i64 LQ, .int .i64 T, .slice A l.length c, .bool e1, .int .i64 n1, .int .i64 s1, .int .i64 i1, .int .i64 q1, .int .i64 k1, .string d1, .slice AF fs.length cf] 86)).alloc (.cells #[.int .i64 0, .int .i64 0, .slice none 0 0] 30)).alloc (.cells #[.int .i64 LQ, .int .i64 T, .slice A l.length c] 30) = X at *
      refine CR.out.mono ?_; rintro e w3 ⟨rfl, b3⟩
      have HB := Lib.hid (HB.out.trans (b3.mono HB.out.size))
      have HK := Lib.hid (HK.out.on b3)
      have HQ2 := Lib.hid (HQ2.out.on b3)
      have HQ7 := Lib.hid (HQ7.out.on b3)
      have HQ := Lib.hid (HQ.out.on b3)
      have HLL := Lib.hid (HLL.out.below b3)
      have HF := Lib.hid (HF.out.below b3)
      have HX3 : Hid (w.heap.size + 3 ≤ w3.heap.size) := Lib.hid (by have := b3.size; have := HSZ.out; omega)
      clear y0 y1 y2 u0 u1 u2 b3 CR HSZ
      obtain ⟨u0, u1, u2⟩ := HQ7.out.cells
      have co := fiOwned_any A c l w3 HQ.out
      have HK2 := Lib.hid HK.out
      have hkf := HK.out.frozen
      obtain ⟨y0, y1, y2⟩ := HK.out.fifo
      clear y0 y1 hkf y2
      go_wp2_with fail; refine co.mono ?_; rintro e w4 ⟨v, rfl, ho4, b4⟩
      obtain ⟨A5, c5, hv5, hc5, hm5⟩ := ho4.row
      subst hv5
      have HB := Lib.hid (HB.out.trans (b4.mono HB.out.size))
      have HK := Lib.hid (HK.out.on b4)
      have HQ2 := Lib.hid (HQ2.out.on b4)
      have HQ7 := Lib.hid (HQ7.out.on b4)
      have HLL := Lib.hid (HLL.out.below b4)
      have HO4 := Lib.hid (ho4.base HX3.out)
      have HS4 : Hid (w.heap.size + 3 ≤ w4.heap.size) := Lib.hid (Nat.le_trans HX3.out b4.size)
      obtain ⟨y0, y1, y2⟩ := HK.out.fifo
      have yf := HK.out.frozen
      have HK5 := Lib.hid (HK.out.list (.slice A5 l.length c5))
      have HQ25 := Lib.hid (HQ2.out.cell1 (b := w.heap.size) (i := 2) (by omega) (.slice A5 l.length c5))
      have HQ75 := Lib.hid (HQ7.out.cell1 (b := w.heap.size) (i := 2) (by omega) (.slice A5 l.length c5))
      have HO5 := Lib.hid (HO4.out.cell1 (b := w.heap.size) (i := 2) (by omega) (.slice A5 l.length c5))
      have HB5 := Lib.hid (HB.out.setCell (p := ⟨w.heap.size, 2, none⟩) (Nat.le_refl _) (.slice A5 l.length c5))
      have HS5 : Hid (w.heap.size + 3 ≤ (w4.setCell ⟨w.heap.size, 2, none⟩ (.slice A5 l.length c5)).heap.size) := Lib.hid (by rw [World.size_setCell]; exact HS4.out)
      have HL5 : Hid (Laid (w4.setCell ⟨w.heap.size, 2, none⟩ (.slice A5 l.length c5))) := Lib.hid (HLW.out.below HB5.out)
      clear u0 u1 u2 hm5 hc5 ho4 b4 co HK2 HQ
      go_upto_region 6 with (fail)
      clear y0 y1 y2 yf HK HQ2 HQ7 HO4 HB HS4
      generalize w4.setCell ⟨w.heap.size, 2, none⟩ (.slice A5 l.length c5) = W5 at *
      have co7 := offerK_bad w.heap.size LQ T A5 c5 l ⟨e1, n1, s1, i1, q1, k1, d1⟩ AF cf fs W5 HK5.out HL5.out HD.out HM.out
      go_wp2_with fail; refine co7.mono ?_; rintro e w7 ⟨rfl, b7⟩
      have HQ7 := Lib.hid (HQ75.out.on b7)
      have HQ2 := Lib.hid (HQ25.out.on b7)
      have HB := Lib.hid (HB5.out.trans (b7.mono HB5.out.size))
      clear co7 b7 HQ75 HQ25 HB5 HK5 HO5
      obtain ⟨u0, u1, u2⟩ := HQ7.out.cells
      obtain ⟨z0, z1, z2⟩ := HQ2.out.cells
      have zf := HQ2.out.frozen
      have HR := Lib.hid (HQ2.out.set LQ T A l.length c)
      have HBR := Lib.hid (below_set3 HB.out (b := w.heap.size + 1) (by omega) (.int .i64 LQ) (.int .i64 T) (.slice A l.length c))
      have HP : Hid (FiPost A LQ T l 0 1 w (.returned (.tuple #[fiv LQ T A l.length c, .int .i64 0, .int .i64 1])) _) := Lib.hid ⟨A, c, rfl, QTold.is (HQW.out.on HBR.out), HBR.out⟩
      go_wp2_with fail
      exact bodyPost_ret (fii_res Tryd.results51 HR.out rfl rfl rfl) rfl HP.out
    · cases hA : anyI m.ext m.n fs
      · obtain ⟨he, hh, ht, hl⟩ := off_pass hR hM
        rw [he, hh, ht, hl]
        rw [hR] at CR
        have HM := Lib.hid hM
        have HA := Lib.hid hA
        clear he hh ht hl hR hM hTT hlL hA
        obtain ⟨e1, n1, s1, i1, q1, k1, d1⟩ := m
        simp only [kpv, kpc] at *
        go_enter Tryd.func51, Tryd.ntmps51
        go_wp2_with fail
        generalize ((w.alloc (.cells #[.int .i64 LQ, .int .i64 T, .slice A l.length c, .bool e1, .int .i64 n1, .int .i64 s1, .int .i64 i1, .int .i64 q1, .int .i64 k1, .string d1, .slice AF fs.length cf] 86)).alloc (.cells #[.int .i64 0, .int .i64 0, .slice none 0 0] 30)).alloc (.cells #[.int .i64 LQ, .int .i64 T, .slice A l.length c] 30) = X at *
        refine CR.out.mono ?_; rintro e w3 ⟨rfl, b3⟩
        have HB := Lib.hid (HB.out.trans (b3.mono HB.out.size))
        have HK := Lib.hid (HK.out.on b3)
        have HQ2 := Lib.hid (HQ2.out.on b3)
        have HQ7 := Lib.hid (HQ7.out.on b3)
        have HQ := Lib.hid (HQ.out.on b3)
        have HLL := Lib.hid (HLL.out.below b3)
        have HF := Lib.hid (HF.out.below b3)
        have HX3 : Hid (w.heap.size + 3 ≤ w3.heap.size) := Lib.hid (by have := b3.size; have := HSZ.out; omega)
        clear y0 y1 y2 u0 u1 u2 b3 CR HSZ
        obtain ⟨u0, u1, u2⟩ := HQ7.out.cells
        have co := fiOwned_any A c l w3 HQ.out
        have HK2 := Lib.hid HK.out
        have hkf := HK.out.frozen
        obtain ⟨y0, y1, y2⟩ := HK.out.fifo
        clear y0 y1 hkf y2
        go_wp2_with fail; refine co.mono ?_; rintro e w4 ⟨v, rfl, ho4, b4⟩
        obtain ⟨A5, c5, hv5, hc5, hm5⟩ := ho4.row
        subst hv5
        have HB := Lib.hid (HB.out.trans (b4.mono HB.out.size))
        have HK := Lib.hid (HK.out.on b4)
        have HQ2 := Lib.hid (HQ2.out.on b4)
        have HQ7 := Lib.hid (HQ7.out.on b4)
        have HLL := Lib.hid (HLL.out.below b4)
        have HO4 := Lib.hid (ho4.base HX3.out)
        have HS4 : Hid (w.heap.size + 3 ≤ w4.heap.size) := Lib.hid (Nat.le_trans HX3.out b4.size)
        obtain ⟨y0, y1, y2⟩ := HK.out.fifo
        have yf := HK.out.frozen
        have HK5 := Lib.hid (HK.out.list (.slice A5 l.length c5))
        have HQ25 := Lib.hid (HQ2.out.cell1 (b := w.heap.size) (i := 2) (by omega) (.slice A5 l.length c5))
        have HQ75 := Lib.hid (HQ7.out.cell1 (b := w.heap.size) (i := 2) (by omega) (.slice A5 l.length c5))
        have HO5 := Lib.hid (HO4.out.cell1 (b := w.heap.size) (i := 2) (by omega) (.slice A5 l.length c5))
        have HB5 := Lib.hid (HB.out.setCell (p := ⟨w.heap.size, 2, none⟩) (Nat.le_refl _) (.slice A5 l.length c5))
        have HS5 : Hid (w.heap.size + 3 ≤ (w4.setCell ⟨w.heap.size, 2, none⟩ (.slice A5 l.length c5)).heap.size) := Lib.hid (by rw [World.size_setCell]; exact HS4.out)
        have HL5 : Hid (Laid (w4.setCell ⟨w.heap.size, 2, none⟩ (.slice A5 l.length c5))) := Lib.hid (HLW.out.below HB5.out)
        have HF5 : Hid (LieIn (w4.setCell ⟨w.heap.size, 2, none⟩ (.slice A5 l.length c5)) AF fs) := Lib.hid (HFW.out.below HB5.out)
        clear u0 u1 u2 hm5 hc5 ho4 b4 co HK2 HQ
        go_upto_region 6 with (fail)
        clear y0 y1 y2 yf HK HQ2 HQ7 HO4 HB HS4
        generalize w4.setCell ⟨w.heap.size, 2, none⟩ (.slice A5 l.length c5) = W5 at *
        have co7 := offerK_pass w.heap.size LQ T A5 c5 l ⟨e1, n1, s1, i1, q1, k1, d1⟩ AF cf fs W5 HK5.out HL5.out HD.out HF5.out hfl HM.out HA.out
        go_wp2_with fail; refine co7.mono ?_; rintro e w7 ⟨rfl, b7⟩
        have HK9 := Lib.hid (HK5.out.on b7)
        have HQ29 := Lib.hid (HQ25.out.on b7)
        have HB9 := Lib.hid (HB5.out.trans (b7.mono HB5.out.size))
        have HT9 := Lib.hid (QTold.ofOwn (A0 := none) (HO5.out.on b7))
        clear co7 b7
        obtain ⟨y0, y1, y2⟩ := HK9.out.fifo
        obtain ⟨z0, z1, z2⟩ := HQ29.out.cells
        have zf := HQ29.out.frozen
        have HR := Lib.hid (HQ29.out.set LQ (T) A5 (l.length) c5)
        have HBR := Lib.hid (below_set3 HB9.out (b := w.heap.size + 1) (by omega) (.int .i64 LQ) (.int .i64 (T)) (.slice A5 (l.length) c5))
        have HTR := Lib.hid ((HT9.out.put3 (b := w.heap.size + 1) (by omega) (.int .i64 LQ) (.int .i64 (T)) (.slice A5 (l.length) c5)).less (S' := w.heap.size) (by omega))
        have HP : Hid (FiPost A LQ (T) (l) 0 0 w (.returned (.tuple #[fiv LQ (T) A5 (l.length) c5, .int .i64 (0), .int .i64 0])) _) := Lib.hid ⟨A5, c5, rfl, HTR.out.any, HBR.out⟩
        clear HT9 HQ29 HB9 HO5
        go_wp2_with fail
        exact bodyPost_ret (fii_res Tryd.results51 HR.out rfl rfl rfl) rfl HP.out
      · by_cases hfu : (l.length : Int) = LQ
        · obtain ⟨he, hh, ht, hl⟩ := off_full hR hM hfu
          rw [he, hh, ht, hl]
          rw [hR] at CR
          have HM := Lib.hid hM
          have HA := Lib.hid hA
          have HFU := Lib.hid hfu
          have HTT := Lib.hid hTT
          clear he hh ht hl hR hM hTT hlL hA hfu
          obtain ⟨e1, n1, s1, i1, q1, k1, d1⟩ := m
          simp only [kpv, kpc] at *
          go_enter Tryd.func51, Tryd.ntmps51
          go_wp2_with fail
          generalize ((w.alloc (.cells #[.int .i64 LQ, .int .i64 T, .slice A l.length c, .bool e1, .int .i64 n1, .int .i64 s1, .int .i64 i1, .int .i64 q1, .int .i64 k1, .string d1, .slice AF fs.length cf] 86)).alloc (.cells #[.int .i64 0, .int .i64 0, .slice none 0 0] 30)).alloc (.cells #[.int .i64 LQ, .int .i64 T, .slice A l.length c] 30) = X at *
          refine CR.out.mono ?_; rintro e w3 ⟨rfl, b3⟩
          have HB := Lib.hid (HB.out.trans (b3.mono HB.out.size))
          have HK := Lib.hid (HK.out.on b3)
          have HQ2 := Lib.hid (HQ2.out.on b3)
          have HQ7 := Lib.hid (HQ7.out.on b3)
          have HQ := Lib.hid (HQ.out.on b3)
          have HLL := Lib.hid (HLL.out.below b3)
          have HF := Lib.hid (HF.out.below b3)
          have HX3 : Hid (w.heap.size + 3 ≤ w3.heap.size) := Lib.hid (by have := b3.size; have := HSZ.out; omega)
          clear y0 y1 y2 u0 u1 u2 b3 CR HSZ
          obtain ⟨u0, u1, u2⟩ := HQ7.out.cells
          have co := fiOwned_any A c l w3 HQ.out
          have HK2 := Lib.hid HK.out
          have hkf := HK.out.frozen
          obtain ⟨y0, y1, y2⟩ := HK.out.fifo
          clear y0 y1 hkf y2
          go_wp2_with fail; refine co.mono ?_; rintro e w4 ⟨v, rfl, ho4, b4⟩
          obtain ⟨A5, c5, hv5, hc5, hm5⟩ := ho4.row
          subst hv5
          have HB := Lib.hid (HB.out.trans (b4.mono HB.out.size))
          have HK := Lib.hid (HK.out.on b4)
          have HQ2 := Lib.hid (HQ2.out.on b4)
          have HQ7 := Lib.hid (HQ7.out.on b4)
          have HLL := Lib.hid (HLL.out.below b4)
          have HO4 := Lib.hid (ho4.base HX3.out)
          have HS4 : Hid (w.heap.size + 3 ≤ w4.heap.size) := Lib.hid (Nat.le_trans HX3.out b4.size)
          obtain ⟨y0, y1, y2⟩ := HK.out.fifo
          have yf := HK.out.frozen
          have HK5 := Lib.hid (HK.out.list (.slice A5 l.length c5))
          have HQ25 := Lib.hid (HQ2.out.cell1 (b := w.heap.size) (i := 2) (by omega) (.slice A5 l.length c5))
          have HQ75 := Lib.hid (HQ7.out.cell1 (b := w.heap.size) (i := 2) (by omega) (.slice A5 l.length c5))
          have HO5 := Lib.hid (HO4.out.cell1 (b := w.heap.size) (i := 2) (by omega) (.slice A5 l.length c5))
          have HB5 := Lib.hid (HB.out.setCell (p := ⟨w.heap.size, 2, none⟩) (Nat.le_refl _) (.slice A5 l.length c5))
          have HS5 : Hid (w.heap.size + 3 ≤ (w4.setCell ⟨w.heap.size, 2, none⟩ (.slice A5 l.length c5)).heap.size) := Lib.hid (by rw [World.size_setCell]; exact HS4.out)
          have HL5 : Hid (Laid (w4.setCell ⟨w.heap.size, 2, none⟩ (.slice A5 l.length c5))) := Lib.hid (HLW.out.below HB5.out)
          have HF5 : Hid (LieIn (w4.setCell ⟨w.heap.size, 2, none⟩ (.slice A5 l.length c5)) AF fs) := Lib.hid (HFW.out.below HB5.out)
          clear u0 u1 u2 hm5 hc5 ho4 b4 co HK2 HQ
          go_upto_region 6 with (fail)
          clear y0 y1 y2 yf HK HQ2 HQ7 HO4 HB HS4
          generalize w4.setCell ⟨w.heap.size, 2, none⟩ (.slice A5 l.length c5) = W5 at *
          have co7 := offerK_full w.heap.size LQ T A5 c5 l ⟨e1, n1, s1, i1, q1, k1, d1⟩ AF cf fs W5 HK5.out HL5.out HD.out HF5.out hfl HM.out HA.out HFU.out HTT.out
          go_wp2_with fail; refine co7.mono ?_; rintro e w7 ⟨rfl, b7, hk7⟩
          have HK9 := Lib.hid hk7
          have hs5 := HS5.out
          have HQ29 := Lib.hid (HQ25.out.kept (b7.rest _ (by omega) (by omega)))
          have HB9 := Lib.hid (HB5.out.trans b7.low)
          have HT9 : Hid (QTold none (w.heap.size + 3) w7 l A5 c5) := Lib.hid (by
            have h1 : QTold none (w.heap.size + 3) W5 l A5 c5 := QTold.ofOwn HO5.out
            refine ⟨h1.cap, fun hn => ?_, fun ad e => Nat.lt_of_lt_of_le (h1.low ad e) b7.low.size, h1.fresh⟩
            obtain ⟨ad, e, hlt, hc⟩ := h1.msgs hn
            refine ⟨ad, e, Nat.lt_of_lt_of_le hlt b7.low.size, fun k m hm => (hc k m hm).keep fun q hq => World.cell?_of_block ?_⟩
            rw [hq, adb]
            refine b7.rest _ hlt ?_
            rcases h1.fresh with h2 | h2
            · rw [h2] at e; cases e
            · have := h2 ad e; omega)
          clear co7 b7 hk7 hs5
          obtain ⟨y0, y1, y2⟩ := HK9.out.fifo
          obtain ⟨z0, z1, z2⟩ := HQ29.out.cells
          have zf := HQ29.out.frozen
          have HR := Lib.hid (HQ29.out.set LQ (min (T + 1) 65535) A5 (l.length) c5)
          have HBR := Lib.hid (below_set3 HB9.out (b := w.heap.size + 1) (by omega) (.int .i64 LQ) (.int .i64 (min (T + 1) 65535)) (.slice A5 (l.length) c5))
          have HTR := Lib.hid ((HT9.out.put3 (b := w.heap.size + 1) (by omega) (.int .i64 LQ) (.int .i64 (min (T + 1) 65535)) (.slice A5 (l.length) c5)).less (S' := w.heap.size) (by omega))
          have HP : Hid (FiPost A LQ (min (T + 1) 65535) (l) 2 0 w (.returned (.tuple #[fiv LQ (min (T + 1) 65535) A5 (l.length) c5, .int .i64 (2), .int .i64 0])) _) := Lib.hid ⟨A5, c5, rfl, HTR.out.any, HBR.out⟩
          clear HT9 HQ29 HB9 HO5
          go_wp2_with fail
          exact bodyPost_ret (fii_res Tryd.results51 HR.out rfl rfl rfl) rfl HP.out
        · obtain ⟨he, hh, ht, hl⟩ := off_room hR hM hfu
          rw [he, hh, ht, hl]
          rw [hR] at CR
          have HM := Lib.hid hM
          have HA := Lib.hid hA
          have HFU := Lib.hid hfu
          clear he hh ht hl hR hM hTT hlL hA hfu
          obtain ⟨e1, n1, s1, i1, q1, k1, d1⟩ := m
          simp only [kpv, kpc] at *
          go_enter Tryd.func51, Tryd.ntmps51
          go_wp2_with fail
          generalize ((w.alloc (.cells #[.int .i64 LQ, .int .i64 T, .slice A l.length c, .bool e1, .int .i64 n1, .int .i64 s1, .int .i64 i1, .int .i64 q1, .int .i64 k1, .string d1, .slice AF fs.length cf] 86)).alloc (.cells #[.int .i64 0, .int .i64 0, .slice none 0 0] 30)).alloc (.cells #[.int .i64 LQ, .int .i64 T, .slice A l.length c] 30) = X at *
          refine CR.out.mono ?_; rintro e w3 ⟨rfl, b3⟩
          have HB := Lib.hid (HB.out.trans (b3.mono HB.out.size))
          have HK := Lib.hid (HK.out.on b3)
          have HQ2 := Lib.hid (HQ2.out.on b3)
          have HQ7 := Lib.hid (HQ7.out.on b3)
          have HQ := Lib.hid (HQ.out.on b3)
          have HLL := Lib.hid (HLL.out.below b3)
          have HF := Lib.hid (HF.out.below b3)
          have HX3 : Hid (w.heap.size + 3 ≤ w3.heap.size) := Lib.hid (by have := b3.size; have := HSZ.out; omega)
          clear y0 y1 y2 u0 u1 u2 b3 CR HSZ
          obtain ⟨u0, u1, u2⟩ := HQ7.out.cells
          have co := fiOwned_any A c l w3 HQ.out
          have HK2 := Lib.hid HK.out
          have hkf := HK.out.frozen
          obtain ⟨y0, y1, y2⟩ := HK.out.fifo
          clear y0 y1 hkf y2
          go_wp2_with fail; refine co.mono ?_; rintro e w4 ⟨v, rfl, ho4, b4⟩
          obtain ⟨A5, c5, hv5, hc5, hm5⟩ := ho4.row
          subst hv5
          have HB := Lib.hid (HB.out.trans (b4.mono HB.out.size))
          have HK := Lib.hid (HK.out.on b4)
          have HQ2 := Lib.hid (HQ2.out.on b4)
          have HQ7 := Lib.hid (HQ7.out.on b4)
          have HLL := Lib.hid (HLL.out.below b4)
          have HO4 := Lib.hid (ho4.base HX3.out)
          have HS4 : Hid (w.heap.size + 3 ≤ w4.heap.size) := Lib.hid (Nat.le_trans HX3.out b4.size)
          obtain ⟨y0, y1, y2⟩ := HK.out.fifo
          have yf := HK.out.frozen
          have HK5 := Lib.hid (HK.out.list (.slice A5 l.length c5))
          have HQ25 := Lib.hid (HQ2.out.cell1 (b := w.heap.size) (i := 2) (by omega) (.slice A5 l.length c5))
          have HQ75 := Lib.hid (HQ7.out.cell1 (b := w.heap.size) (i := 2) (by omega) (.slice A5 l.length c5))
          have HO5 := Lib.hid (HO4.out.cell1 (b := w.heap.size) (i := 2) (by omega) (.slice A5 l.length c5))
          have HB5 := Lib.hid (HB.out.setCell (p := ⟨w.heap.size, 2, none⟩) (Nat.le_refl _) (.slice A5 l.length c5))
          have HS5 : Hid (w.heap.size + 3 ≤ (w4.setCell ⟨w.heap.size, 2, none⟩ (.slice A5 l.length c5)).heap.size) := Lib.hid (by rw [World.size_setCell]; exact HS4.out)
          have HL5 : Hid (Laid (w4.setCell ⟨w.heap.size, 2, none⟩ (.slice A5 l.length c5))) := Lib.hid (HLW.out.below HB5.out)
          have HF5 : Hid (LieIn (w4.setCell ⟨w.heap.size, 2, none⟩ (.slice A5 l.length c5)) AF fs) := Lib.hid (HFW.out.below HB5.out)
          clear u0 u1 u2 hm5 hc5 ho4 b4 co HK2 HQ
          go_upto_region 6 with (fail)
          clear y0 y1 y2 yf HK HQ2 HQ7 HO4 HB HS4
          generalize w4.setCell ⟨w.heap.size, 2, none⟩ (.slice A5 l.length c5) = W5 at *
          have co7 := offerK_room w.heap.size LQ T A5 c5 l ⟨e1, n1, s1, i1, q1, k1, d1⟩ AF cf fs W5 HK5.out HL5.out HD.out HF5.out hfl HM.out HA.out HFU.out hfew (w.heap.size + 3) (by omega) HS5.out HO5.out
          go_wp2_with fail; refine co7.mono ?_; rintro e w7 ⟨A7, c7, rfl, hk7, ht7, hb7, hr7⟩
          have HK9 := Lib.hid hk7
          have HQ29 := Lib.hid (HQ25.out.kept (hr7 _ (by omega) (by omega)))
          have HB9 := Lib.hid (HB5.out.trans hb7)
          have HT9 := Lib.hid ht7
          clear co7 hk7 ht7 hb7 hr7
          obtain ⟨y0, y1, y2⟩ := HK9.out.fifo
          obtain ⟨z0, z1, z2⟩ := HQ29.out.cells
          have zf := HQ29.out.frozen
          have HR := Lib.hid (HQ29.out.set LQ (T) A7 (l.length + 1) c7)
          have HBR := Lib.hid (below_set3 HB9.out (b := w.heap.size + 1) (by omega) (.int .i64 LQ) (.int .i64 (T)) (.slice A7 (l.length + 1) c7))
          have HTR := Lib.hid ((HT9.out.put3 (b := w.heap.size + 1) (by omega) (.int .i64 LQ) (.int .i64 (T)) (.slice A7 (l.length + 1) c7)).less (S' := w.heap.size) (by omega))
          have HP : Hid (FiPost A LQ (T) (l ++ [⟨e1, n1, s1, i1, q1, k1, d1⟩]) 1 0 w (.returned (.tuple #[fiv LQ (T) A7 (l.length + 1) c7, .int .i64 (1), .int .i64 0])) _) := Lib.hid ⟨A7, c7, (by simp), HTR.out.any, HBR.out⟩
          clear HT9 HQ29 HB9 HO5
          go_wp2_with fail
          exact bodyPost_ret (fii_res Tryd.results51 HR.out rfl rfl rfl) rfl HP.out

end Go.Proofs.YtehajmockicilaaDoor

/-
  What the program's Take tells.
-/
import Derived.Test.YtehajmockicilaaDoorFifProg
namespace Go.Proofs.YtehajmockicilaaDoor
open Go Go.RowKit

/-- The first of an own list away. -/
theorem OwnM.cut1 {w : World} {S : Nat} {ad : Addr} {c : Nat} {l : List Msg} (h : OwnM w S (.slice (some ad) l.length c) l) (hl : 0 < l.length) : ∃ A1 c1, QTold none S w l.tail A1 c1 ∧
    ∀ W, (Instr.slice 28 (.slice (some ad) l.length c) (some (.int .i64 1)) none none).run Tryd.prog W = .ok (.slice A1 (l.length - 1) c1) W := by
  have ht : QTold none S w l (some ad) c := QTold.ofOwn h
  have hu : Tryd.prog.underlying 28 = some (.slice (Tryd.prog.elem 28)) := by kernel_rfl
  have hs : ∀ w, (sizeOf (Tryd.prog.elem 28)).run Tryd.prog w = .ok 7 w := fun w => by
    obtain ⟨i0, hi, hz0, hz1, hz2⟩ := info_parts msg_info
    have he : Tryd.prog.elem 28 = 26 := by kernel_rfl
    rw [he]
    simp [sizeOf, typeInfo, hi, hz1]
  have hcap := ht.cap
  refine ⟨if c = 1 then some ad else some (ad.add (1 * 7)), c - 1, ⟨by rw [List.length_tail]; omega, fun hn => ?_, fun a e => ?_, .inr fun a e => ?_⟩, fun W => ?_⟩
  · rw [List.length_tail] at hn
    obtain ⟨a, e, hb, hc⟩ := ht.msgs (by omega)
    cases e
    rw [if_neg (by omega)]
    refine ⟨_, rfl, by rw [adb]; exact hb, fun j m hm => ?_⟩
    have hm' : l[1 + j]? = some m := by rw [← hm, ← List.drop_one, List.getElem?_drop]
    have := hc _ m hm'
    rw [Go.Deep.add_add, ← Nat.add_mul]
    exact this
  · have hlo := ht.low ad rfl
    by_cases h1 : c = 1
    · rw [if_pos h1] at e; cases e; exact hlo
    · rw [if_neg h1] at e; cases e; rw [adb]; exact hlo
  · have hfr : S ≤ ad.block := by
      rcases ht.fresh with h2 | h2
      · cases h2
      · exact h2 ad rfl
    by_cases h1 : c = 1
    · rw [if_pos h1] at e; cases e; exact hfr
    · rw [if_neg h1] at e; cases e; rw [adb]; exact hfr
  · rw [run_slice_l W 28 (some ad) l.length c hu .i64 1 (by omega) (by omega), hs]
    by_cases h1 : c = 1
    · simp [Result.andThen, sliced, h1]
    · simp [Result.andThen, sliced, h1]

set_option maxRecDepth 100000 in
set_option maxHeartbeats 4000000 in
theorem ansTake_any (LQ T : Int) (A : Option Addr) (c : Nat) (l : List Msg) (w : World) (LL : Laid w) (hq : QIn w A c l) :
    Calls Tryd.prog 49 #[kpv LQ T (.slice A l.length c) ⟨false, 0, 0, 0, 0, 0, ⟨#[]⟩⟩ (.slice none 0 0), (.func (.func 50) #[] #[])] w (FiPostM A LQ T (takeFiL LQ T l) (takeFiM LQ T l) (takeFiE LQ T l) w) := by
  have q1 := KpAt.new w LQ T (.slice A l.length c) ⟨false, 0, 0, 0, 0, 0, ⟨#[]⟩⟩ (.slice none 0 0)
  have b1 := Joins.below_alloc1 w (.cells #[.int .i64 LQ, .int .i64 T, .slice A l.length c, .bool false, .int .i64 0, .int .i64 0, .int .i64 0, .int .i64 0, .int .i64 0, .string ⟨#[]⟩, .slice none 0 0] 86)
  have q2 := FiAt.new (w.alloc (.cells #[.int .i64 LQ, .int .i64 T, .slice A l.length c, .bool false, .int .i64 0, .int .i64 0, .int .i64 0, .int .i64 0, .int .i64 0, .string ⟨#[]⟩, .slice none 0 0] 86)) 0 0 none 0 0
  have b2 := Joins.below_alloc1 (w.alloc (.cells #[.int .i64 LQ, .int .i64 T, .slice A l.length c, .bool false, .int .i64 0, .int .i64 0, .int .i64 0, .int .i64 0, .int .i64 0, .string ⟨#[]⟩, .slice none 0 0] 86)) (.cells #[.int .i64 0, .int .i64 0, .slice none 0 0] 30)
  have q3 := MsgAt.new ((w.alloc (.cells #[.int .i64 LQ, .int .i64 T, .slice A l.length c, .bool false, .int .i64 0, .int .i64 0, .int .i64 0, .int .i64 0, .int .i64 0, .string ⟨#[]⟩, .slice none 0 0] 86)).alloc (.cells #[.int .i64 0, .int .i64 0, .slice none 0 0] 30)) ⟨false, 0, 0, 0, 0, 0, ⟨#[]⟩⟩
  have b3 := Joins.below_alloc1 ((w.alloc (.cells #[.int .i64 LQ, .int .i64 T, .slice A l.length c, .bool false, .int .i64 0, .int .i64 0, .int .i64 0, .int .i64 0, .int .i64 0, .string ⟨#[]⟩, .slice none 0 0] 86)).alloc (.cells #[.int .i64 0, .int .i64 0, .slice none 0 0] 30)) (.cells #[.bool false, .int .i64 0, .int .i64 0, .int .i64 0, .int .i64 0, .int .i64 0, .string ⟨#[]⟩] 26)
  have q4 := FiAt.new (((w.alloc (.cells #[.int .i64 LQ, .int .i64 T, .slice A l.length c, .bool false, .int .i64 0, .int .i64 0, .int .i64 0, .int .i64 0, .int .i64 0, .string ⟨#[]⟩, .slice none 0 0] 86)).alloc (.cells #[.int .i64 0, .int .i64 0, .slice none 0 0] 30)).alloc (.cells #[.bool false, .int .i64 0, .int .i64 0, .int .i64 0, .int .i64 0, .int .i64 0, .string ⟨#[]⟩] 26)) LQ T A l.length c
  have b4 := Joins.below_alloc1 (((w.alloc (.cells #[.int .i64 LQ, .int .i64 T, .slice A l.length c, .bool false, .int .i64 0, .int .i64 0, .int .i64 0, .int .i64 0, .int .i64 0, .string ⟨#[]⟩, .slice none 0 0] 86)).alloc (.cells #[.int .i64 0, .int .i64 0, .slice none 0 0] 30)).alloc (.cells #[.bool false, .int .i64 0, .int .i64 0, .int .i64 0, .int .i64 0, .int .i64 0, .string ⟨#[]⟩] 26)) (.cells #[.int .i64 LQ, .int .i64 T, .slice A l.length c] 30)
  have q5 := MsgAt.new ((((w.alloc (.cells #[.int .i64 LQ, .int .i64 T, .slice A l.length c, .bool false, .int .i64 0, .int .i64 0, .int .i64 0, .int .i64 0, .int .i64 0, .string ⟨#[]⟩, .slice none 0 0] 86)).alloc (.cells #[.int .i64 0, .int .i64 0, .slice none 0 0] 30)).alloc (.cells #[.bool false, .int .i64 0, .int .i64 0, .int .i64 0, .int .i64 0, .int .i64 0, .string ⟨#[]⟩] 26)).alloc (.cells #[.int .i64 LQ, .int .i64 T, .slice A l.length c] 30)) ⟨false, 0, 0, 0, 0, 0, ⟨#[]⟩⟩
  have b5 := Joins.below_alloc1 ((((w.alloc (.cells #[.int .i64 LQ, .int .i64 T, .slice A l.length c, .bool false, .int .i64 0, .int .i64 0, .int .i64 0, .int .i64 0, .int .i64 0, .string ⟨#[]⟩, .slice none 0 0] 86)).alloc (.cells #[.int .i64 0, .int .i64 0, .slice none 0 0] 30)).alloc (.cells #[.bool false, .int .i64 0, .int .i64 0, .int .i64 0, .int .i64 0, .int .i64 0, .string ⟨#[]⟩] 26)).alloc (.cells #[.int .i64 LQ, .int .i64 T, .slice A l.length c] 30)) (.cells #[.bool false, .int .i64 0, .int .i64 0, .int .i64 0, .int .i64 0, .int .i64 0, .string ⟨#[]⟩] 26)
  rw [World.size_alloc] at q2
  rw [World.size_alloc, World.size_alloc] at q3
  rw [World.size_alloc, World.size_alloc, World.size_alloc] at q4
  rw [World.size_alloc, World.size_alloc, World.size_alloc, World.size_alloc] at q5
  have b45 := b4.trans (b5.mono b4.size)
  have b345 := b3.trans (b45.mono b3.size)
  have b2345 := b2.trans (b345.mono b2.size)
  have q1a := q1.on (b2.trans (b3.mono b2.size))
  obtain ⟨y0, y1, y2⟩ := q1a.fifo
  have q1' := q1.on b2345
  have q2' := q2.on b345
  have q3' := MsgAt.on q3 b45
  have q4' := q4.on b5
  obtain ⟨u0, u1, u2⟩ := q4'.cells
  have hB := b1.trans (b2345.mono b1.size)
  have hsz : (((((w.alloc (.cells #[.int .i64 LQ, .int .i64 T, .slice A l.length c, .bool false, .int .i64 0, .int .i64 0, .int .i64 0, .int .i64 0, .int .i64 0, .string ⟨#[]⟩, .slice none 0 0] 86)).alloc (.cells #[.int .i64 0, .int .i64 0, .slice none 0 0] 30)).alloc (.cells #[.bool false, .int .i64 0, .int .i64 0, .int .i64 0, .int .i64 0, .int .i64 0, .string ⟨#[]⟩] 26)).alloc (.cells #[.int .i64 LQ, .int .i64 T, .slice A l.length c] 30)).alloc (.cells #[.bool false, .int .i64 0, .int .i64 0, .int .i64 0, .int .i64 0, .int .i64 0, .string ⟨#[]⟩] 26)).heap.size = w.heap.size + 5 := by simp only [World.size_alloc]
  have hqx := hq.on hB
  clear q1 q2 q3 q4 b1 b2 b3 b4 b5 b45 b345 b2345 q1a
  have HK := Lib.hid q1'
  have HQ2 : Hid (FiAt _ (w.heap.size + 1) 0 0 none 0 0) := Lib.hid q2'
  have HM3 : Hid (MsgAt _ (w.heap.size + 2) ⟨false, 0, 0, 0, 0, 0, ⟨#[]⟩⟩) := Lib.hid q3'
  have HQ7 : Hid (FiAt _ (w.heap.size + 3) LQ T A l.length c) := Lib.hid q4'
  have HM8 : Hid (MsgAt _ (w.heap.size + 4) ⟨false, 0, 0, 0, 0, 0, ⟨#[]⟩⟩) := Lib.hid q5
  have HB := Lib.hid hB
  have HSZ := Lib.hid hsz
  have HQ := Lib.hid hqx
  have HLL := Lib.hid (LL.below hB)
  have HQW := Lib.hid hq
  have CR := Lib.hid (rightFi_any LQ T A c l _ (LL.below hB) hqx)
  have hfew := hq.few
  clear hq q1' q2' q3' q4' q5 hB hqx hsz LL
  simp only [kpv, kpc] at *
  cases hR : rightFi LQ T l
  · obtain ⟨he, hm, hl⟩ := take_bad hR
    rw [he, hm, hl]
    rw [hR] at CR
    clear he hm hl hR
    go_enter Tryd.func49, Tryd.ntmps49
    go_wp2_with fail
    generalize (((((w.alloc (.cells #[.int .i64 LQ, .int .i64 T, .slice A l.length c, .bool false, .int .i64 0, .int .i64 0, .int .i64 0, .int .i64 0, .int .i64 0, .string ⟨#[]⟩, .slice none 0 0] 86)).alloc (.cells #[.int .i64 0, .int .i64 0, .slice none 0 0] 30)).alloc (.cells #[.bool false, .int .i64 0, .int .i64 0, .int .i64 0, .int .i64 0, .int .i64 0, .string ⟨#[]⟩] 26)).alloc (.cells #[.int .i64 LQ, .int .i64 T, .slice A l.length c] 30)).alloc (.cells #[.bool false, .int .i64 0, .int .i64 0, .int .i64 0, .int .i64 0, .int .i64 0, .string ⟨#[]⟩] 26)) = X at *
    refine CR.out.mono ?_; rintro e w3 ⟨rfl, b3⟩
    have HB := Lib.hid (HB.out.trans (b3.mono HB.out.size))
    have HK := Lib.hid (HK.out.on b3)
    have HQ2 := Lib.hid (HQ2.out.on b3)
    have HM3 : Hid (MsgAt _ (w.heap.size + 2) ⟨false, 0, 0, 0, 0, 0, ⟨#[]⟩⟩) := Lib.hid (MsgAt.on HM3.out b3)
    have HQ7 := Lib.hid (HQ7.out.on b3)
    have HM8 : Hid (MsgAt _ (w.heap.size + 4) ⟨false, 0, 0, 0, 0, 0, ⟨#[]⟩⟩) := Lib.hid (MsgAt.on HM8.out b3)
    have HQ := Lib.hid (HQ.out.on b3)
    have HLL := Lib.hid (HLL.out.below b3)
    have HX3 : Hid (w.heap.size + 5 ≤ w3.heap.size) := Lib.hid (by have := b3.size; have := HSZ.out; omega)
    clear y0 y1 y2 u0 u1 u2 b3 CR HSZ
    go_upto_region 4 with (fail)
    have HV : ∃ Vp : Nat → (Nat → Value) → World → Prop, Vp = (fun ix u wv => match ix with
      | 0 => u 0 = .agg #[.int .i64 LQ, .int .i64 T, .slice A l.length c]
      | 1 => u 1 = .agg #[.bool false, .int .i64 0, .int .i64 0, .int .i64 0, .int .i64 0, .int .i64 0, .string ⟨#[]⟩]
      | 2 => FiAt wv (w.heap.size + 1) LQ T A l.length c
      | 3 => MsgAt wv (w.heap.size + 2) ⟨false, 0, 0, 0, 0, 0, ⟨#[]⟩⟩
      | 4 => u 4 = .int .i64 1
      | _ => True) := ⟨_, rfl⟩
    obtain ⟨Vp, hVdef⟩ := HV
    have Vp0 : ∀ u wv, Vp 0 u wv = (u 0 = .agg #[.int .i64 LQ, .int .i64 T, .slice A l.length c]) := fun u wv => by subst hVdef; rfl
    have Vp1 : ∀ u wv, Vp 1 u wv = (u 1 = .agg #[.bool false, .int .i64 0, .int .i64 0, .int .i64 0, .int .i64 0, .int .i64 0, .string ⟨#[]⟩]) := fun u wv => by subst hVdef; rfl
    have Vp2 : ∀ u wv, Vp 2 u wv = (FiAt wv (w.heap.size + 1) LQ T A l.length c) := fun u wv => by subst hVdef; rfl
    have Vp3 : ∀ u wv, Vp 3 u wv = (MsgAt wv (w.heap.size + 2) ⟨false, 0, 0, 0, 0, 0, ⟨#[]⟩⟩) := fun u wv => by subst hVdef; rfl
    have Vp4 : ∀ u wv, Vp 4 u wv = (u 4 = .int .i64 1) := fun u wv => by subst hVdef; rfl
    have HVD := Lib.hid hVdef
    clear hVdef
    refine region_phase (V := Vp) (drop := fun _ _ => false) (G := fun L wv => (L 2 = false → FiAt wv (w.heap.size + 1) 0 0 none 0 0) ∧ (L 3 = false → MsgAt wv (w.heap.size + 2) ⟨false, 0, 0, 0, 0, 0, ⟨#[]⟩⟩) ∧ FiAt wv (w.heap.size + 3) LQ T A l.length c ∧ MsgAt wv (w.heap.size + 4) ⟨false, 0, 0, 0, 0, 0, ⟨#[]⟩⟩ ∧ Below w.heap.size w wv) (Rel := fun jx wv wv' => jx = 2 ∨ (jx = 3 ∧ ((∀ k, k ≠ w.heap.size + 2 → wv'.heap[k]? = wv.heap[k]?))) ∨ Below wv.heap.size wv wv') (by kernel_rfl) (by kernel_rfl) ⟨fun _ => HQ2.out.on (Below.refl _ _).drew, fun _ => MsgAt.on HM3.out (Below.refl _ _).drew, HQ7.out.on (Below.refl _ _).drew, MsgAt.on HM8.out (Below.refl _ _).drew, HB.out.trans ((Below.refl _ _).drew.mono HB.out.size)⟩ ?hmonop1 ?hdepp1 ⟨?s0_p1, ?s1_p1, ?s2_p1, ?s3_p1, ?s4_p1, trivial⟩ ?behindp1
    case hmonop1 =>
      intro ix jx u wv wv' hij hw hd hr
      rw [HVD.out]
      dsimp only
      split <;> intro h <;> first | exact trivial | exact h | (rcases hr with rfl | ⟨rfl, hpk⟩ | hb; (focus first | exact absurd rfl hij | (simp at hd; done) | (exact Bool.noConfusion (hw.symm.trans (show _ = true from by kernel_rfl)))); (focus first | exact absurd rfl hij | (simp at hd; done) | (exact (hpk _ (by omega)).trans h) | (exact Bool.noConfusion (hw.symm.trans (show _ = true from by kernel_rfl)))); (first | (exact h.on hb) | (exact MsgAt.on h hb)))
    case hdepp1 =>
      intro ix u u' wv h1 h2
      rw [HVD.out]
      dsimp only
      split <;> intro h <;> first | exact trivial | (rw [← h1]; exact h) | exact h
    case s0_p1 =>
      refine oweP rfl fun a wx val L hG hi hW hV hN hO K hK => ?_
      have e7 : a.tmps[7]? = some (.pointer (some ⟨w.heap.size + 3, 0, none⟩)) := (hO 7 (by kernel_rfl)).trans (by rfl)
      clear hV hN hO
      obtain ⟨v0, v1, v2⟩ := hG.2.2.1.cells
      go_simp
      exact hK.out _ _ (by rw [Vp0, upd_at] <;> (congr 1 <;> omega)) (.inr (.inr (Below.refl _ _))) (⟨fun h => hG.1 (upL_false h), fun h => hG.2.1 (upL_false h), hG.2.2⟩)
    case s1_p1 =>
      refine oweP rfl fun a wx val L hG hi hW hV hN hO K hK => ?_
      have e8 : a.tmps[8]? = some (.pointer (some ⟨w.heap.size + 4, 0, none⟩)) := (hO 8 (by kernel_rfl)).trans (by rfl)
      clear hV hN hO
      obtain ⟨x0, x1, x2, x3, x4, x5, x6⟩ := hG.2.2.2.1.cells
      go_simp
      exact hK.out _ _ (by rw [Vp1, upd_at] <;> (congr 1 <;> omega)) (.inr (.inr (Below.refl _ _))) (⟨fun h => hG.1 (upL_false h), fun h => hG.2.1 (upL_false h), hG.2.2⟩)
    case s2_p1 =>
      refine oweP rfl fun a wx val L hG hi hW hV hN hO K hK => ?_
      have e4 : a.tmps[4]? = some (.pointer (some ⟨w.heap.size + 1, 0, none⟩)) := (hO 4 (by kernel_rfl)).trans (by rfl)
      have e16 := hN 0 16 (by kernel_rfl) (by kernel_rfl) (by simp)
      have f16 := hV 0 (by kernel_rfl) (by kernel_rfl)
      rw [Vp0] at f16; rw [f16] at e16; clear f16
      clear hV hN hO
      have hqa := hG.1 hi
      obtain ⟨v0, v1, v2⟩ := hqa.cells
      have vf := hqa.frozen
      have hms := fun h => (hG.2.1 (upL_false (i := 2) h)).put3 (b := w.heap.size + 1) (by omega) (.int .i64 LQ) (.int .i64 T) (.slice A l.length c)
      have h7s := hG.2.2.1.put3 (b := w.heap.size + 1) (by omega) (.int .i64 LQ) (.int .i64 T) (.slice A l.length c)
      have h8s := hG.2.2.2.1.put3 (b := w.heap.size + 1) (by omega) (.int .i64 LQ) (.int .i64 T) (.slice A l.length c)
      have hbs := below_set3 hG.2.2.2.2 (b := w.heap.size + 1) (by omega) (.int .i64 LQ) (.int .i64 T) (.slice A l.length c)
      go_simp
      exact hK.out undef _ (by rw [Vp2]; exact hqa.set LQ T A l.length c) (.inl rfl) ⟨fun h => (upL_self h).elim, hms, h7s, h8s, hbs⟩
    case s3_p1 =>
      refine oweP rfl fun a wx val L hG hi hW hV hN hO K hK => ?_
      have e5 : a.tmps[5]? = some (.pointer (some ⟨w.heap.size + 2, 0, none⟩)) := (hO 5 (by kernel_rfl)).trans (by rfl)
      have e17 := hN 1 17 (by kernel_rfl) (by kernel_rfl) (by simp)
      have f17 := hV 1 (by kernel_rfl) (by kernel_rfl)
      rw [Vp1] at f17; rw [f17] at e17; clear f17
      clear hV hN hO
      have hma := hG.2.1 hi
      obtain ⟨x0, x1, x2, x3, x4, x5, x6⟩ := hma.cells
      have xf := hma.frozen
      have hpk := fun k (hk : k ≠ w.heap.size + 2) => set7_far wx hk ⟨false, 0, 0, 0, 0, 0, ⟨#[]⟩⟩
      have hqz := fun h => (hG.1 (upL_false (i := 3) h)).put7 (b := w.heap.size + 2) (by omega) ⟨false, 0, 0, 0, 0, 0, ⟨#[]⟩⟩
      have h7s := hG.2.2.1.put7 (b := w.heap.size + 2) (by omega) ⟨false, 0, 0, 0, 0, 0, ⟨#[]⟩⟩
      have h8s := (set7_far wx (show w.heap.size + 4 ≠ w.heap.size + 2 by omega) ⟨false, 0, 0, 0, 0, 0, ⟨#[]⟩⟩).trans hG.2.2.2.1
      have hp7 := hma.set7 ⟨false, 0, 0, 0, 0, 0, ⟨#[]⟩⟩
      have hb7 := below_set7 hG.2.2.2.2 (b := w.heap.size + 2) (by omega) ⟨false, 0, 0, 0, 0, 0, ⟨#[]⟩⟩
      unfold set7 at hpk hp7 hb7 hqz h7s h8s
      go_simp
      exact hK.out undef _ (by rw [Vp3]; exact hp7) (.inr (.inl ⟨rfl, hpk⟩)) ⟨hqz, fun h => (upL_self h).elim, h7s, h8s, hb7⟩
    case s4_p1 =>
      refine oweP rfl fun a wx val L hG hi hW hV hN hO K hK => ?_
      clear hV hN hO
      go_simp
      exact hK.out _ _ (by rw [Vp4, upd_at] <;> (congr 1 <;> omega)) (.inr (.inr (Below.refl _ _))) (⟨fun h => hG.1 (upL_false h), fun h => hG.2.1 (upL_false h), hG.2.2⟩)
    intro val wx L hG hV
    have f0 := hV 0 (by simp) (fun _ _ => by simp)
    rw [Vp0] at f0
    have f1 := hV 1 (by simp) (fun _ _ => by simp)
    rw [Vp1] at f1
    have f2 := hV 2 (by simp) (fun _ _ => by simp)
    rw [Vp2] at f2
    have f3 := hV 3 (by simp) (fun _ _ => by simp)
    rw [Vp3] at f3
    have f4 := hV 4 (by simp) (fun _ _ => by simp)
    rw [Vp4] at f4
    clear hV Vp0 Vp1 Vp2 Vp3 Vp4
    simp only [putAll, Act.put, List.setIfInBounds_toArray, List.set_cons_zero, List.set_cons_succ]
    generalize val 0 = z0 at *; (subst f0)
    generalize val 1 = z1 at *; (subst f1)
    generalize val 4 = z4 at *; (subst f4)
    clear HVD
    have HP : Hid (FiPostM A LQ T l ⟨false, 0, 0, 0, 0, 0, ⟨#[]⟩⟩ 1 w (.returned (.tuple #[fiv LQ T A l.length c, mv ⟨false, 0, 0, 0, 0, 0, ⟨#[]⟩⟩, .int .i64 1])) wx) := Lib.hid ⟨A, c, rfl, QTold.is (HQW.out.on hG.2.2.2.2), hG.2.2.2.2⟩
    have HQQ := Lib.hid f2
    have HMM := Lib.hid f3
    clear hG f2 f3
    go_wp2_with fail
    exact bodyPost_ret (fim_res Tryd.results49 HQQ.out HMM.out rfl rfl rfl) rfl HP.out
  · rw [hR] at CR
    by_cases hn : l.length = 0
    · obtain ⟨he, hm, hl⟩ := take_nil hR (List.length_eq_zero_iff.1 hn)
      rw [he, hm, hl]
      have HN := Lib.hid hn
      clear he hm hl hR hn
      go_enter Tryd.func49, Tryd.ntmps49
      go_wp2_with fail
      generalize (((((w.alloc (.cells #[.int .i64 LQ, .int .i64 T, .slice A l.length c, .bool false, .int .i64 0, .int .i64 0, .int .i64 0, .int .i64 0, .int .i64 0, .string ⟨#[]⟩, .slice none 0 0] 86)).alloc (.cells #[.int .i64 0, .int .i64 0, .slice none 0 0] 30)).alloc (.cells #[.bool false, .int .i64 0, .int .i64 0, .int .i64 0, .int .i64 0, .int .i64 0, .string ⟨#[]⟩] 26)).alloc (.cells #[.int .i64 LQ, .int .i64 T, .slice A l.length c] 30)).alloc (.cells #[.bool false, .int .i64 0, .int .i64 0, .int .i64 0, .int .i64 0, .int .i64 0, .string ⟨#[]⟩] 26)) = X at *
      refine CR.out.mono ?_; rintro e w3 ⟨rfl, b3⟩
      have HB := Lib.hid (HB.out.trans (b3.mono HB.out.size))
      have HK := Lib.hid (HK.out.on b3)
      have HQ2 := Lib.hid (HQ2.out.on b3)
      have HM3 : Hid (MsgAt _ (w.heap.size + 2) ⟨false, 0, 0, 0, 0, 0, ⟨#[]⟩⟩) := Lib.hid (MsgAt.on HM3.out b3)
      have HQ7 := Lib.hid (HQ7.out.on b3)
      have HM8 : Hid (MsgAt _ (w.heap.size + 4) ⟨false, 0, 0, 0, 0, 0, ⟨#[]⟩⟩) := Lib.hid (MsgAt.on HM8.out b3)
      have HQ := Lib.hid (HQ.out.on b3)
      have HLL := Lib.hid (HLL.out.below b3)
      have HX3 : Hid (w.heap.size + 5 ≤ w3.heap.size) := Lib.hid (by have := b3.size; have := HSZ.out; omega)
      clear y0 y1 y2 u0 u1 u2 b3 CR HSZ
      obtain ⟨u0, u1, u2⟩ := HQ7.out.cells
      have co := fiOwned_any A c l w3 HQ.out
      go_wp2_with fail; refine co.mono ?_; rintro e w4 ⟨v, rfl, ho4, b4⟩
      obtain ⟨A5, c5, hv5, hc5, hm5⟩ := ho4.row
      subst hv5
      have HB := Lib.hid (HB.out.trans (b4.mono HB.out.size))
      have HK := Lib.hid (HK.out.on b4)
      have HQ2 := Lib.hid (HQ2.out.on b4)
      have HM3 : Hid (MsgAt _ (w.heap.size + 2) ⟨false, 0, 0, 0, 0, 0, ⟨#[]⟩⟩) := Lib.hid (MsgAt.on HM3.out b4)
      have HQ7 := Lib.hid (HQ7.out.on b4)
      have HM8 : Hid (MsgAt _ (w.heap.size + 4) ⟨false, 0, 0, 0, 0, 0, ⟨#[]⟩⟩) := Lib.hid (MsgAt.on HM8.out b4)
      have HO4 := Lib.hid (ho4.base HX3.out)
      have HC5 := Lib.hid hc5
      have HS4 : Hid (w.heap.size + 5 ≤ w4.heap.size) := Lib.hid (Nat.le_trans HX3.out b4.size)
      obtain ⟨y0, y1, y2⟩ := HK.out.fifo
      have yf := HK.out.frozen
      have HK5 := Lib.hid (HK.out.list (.slice A5 l.length c5))
      have HQ25 := Lib.hid (HQ2.out.cell1 (b := w.heap.size) (i := 2) (by omega) (.slice A5 l.length c5))
      have HM35 : Hid (MsgAt _ (w.heap.size + 2) ⟨false, 0, 0, 0, 0, 0, ⟨#[]⟩⟩) := Lib.hid (MsgAt.cell1 HM3.out (b := w.heap.size) (i := 2) (by omega) (.slice A5 l.length c5))
      have HQ75 := Lib.hid (HQ7.out.cell1 (b := w.heap.size) (i := 2) (by omega) (.slice A5 l.length c5))
      have HM85 : Hid (MsgAt _ (w.heap.size + 4) ⟨false, 0, 0, 0, 0, 0, ⟨#[]⟩⟩) := Lib.hid (MsgAt.cell1 HM8.out (b := w.heap.size) (i := 2) (by omega) (.slice A5 l.length c5))
      have HO5 := Lib.hid (HO4.out.cell1 (b := w.heap.size) (i := 2) (by omega) (.slice A5 l.length c5))
      have HB5 := Lib.hid (HB.out.setCell (p := ⟨w.heap.size, 2, none⟩) (Nat.le_refl _) (.slice A5 l.length c5))
      have HS5 : Hid (w.heap.size + 5 ≤ (w4.setCell ⟨w.heap.size, 2, none⟩ (.slice A5 l.length c5)).heap.size) := Lib.hid (by rw [World.size_setCell]; exact HS4.out)
      clear u0 u1 u2 hm5 hc5 ho4 b4 co HQ
      go_upto_region 6 with (fail)
      clear y0 y1 y2 yf HK HQ2 HM3 HQ7 HM8 HO4 HB HS4
      generalize w4.setCell ⟨w.heap.size, 2, none⟩ (.slice A5 l.length c5) = W5 at *
      have hk0 := HK5.out
      rw [HN.out] at hk0
      have ct := takeK_nil w.heap.size LQ T A5 c5 ⟨false, 0, 0, 0, 0, 0, ⟨#[]⟩⟩ (.slice none 0 0) W5 hk0
      go_wp2_with fail; refine ct.mono ?_; rintro e w7 ⟨rfl, b7⟩
      have HB := Lib.hid (HB5.out.trans (b7.mono HB5.out.size))
      have hbm := Joins.below_alloc1 w7 (.cells #[.bool false, .int .i64 0, .int .i64 0, .int .i64 0, .int .i64 0, .int .i64 0, .string ⟨#[]⟩] 26)
      have b79 := b7.trans (hbm.mono b7.size)
      have HB := Lib.hid (HB5.out.trans (b79.mono HB5.out.size))
      have HQ2 := Lib.hid (HQ25.out.on b79)
      have HM3 : Hid (MsgAt _ (w.heap.size + 2) ⟨false, 0, 0, 0, 0, 0, ⟨#[]⟩⟩) := Lib.hid (MsgAt.on HM35.out b79)
      have HQ7 := Lib.hid (HQ75.out.on b79)
      have HM8 : Hid (MsgAt _ (w.heap.size + 4) ⟨false, 0, 0, 0, 0, 0, ⟨#[]⟩⟩) := Lib.hid (MsgAt.on HM85.out b79)
      clear ct b7 hbm b79 hk0 HQ25 HM35 HQ75 HM85 HB5 HK5 HO5 HS5
      go_upto_region 8 with (fail)
      have HV : ∃ Vp : Nat → (Nat → Value) → World → Prop, Vp = (fun ix u wv => match ix with
        | 0 => u 0 = .agg #[.int .i64 LQ, .int .i64 T, .slice A l.length c]
        | 1 => u 1 = .agg #[.bool false, .int .i64 0, .int .i64 0, .int .i64 0, .int .i64 0, .int .i64 0, .string ⟨#[]⟩]
        | 2 => u 2 = .int .i64 41
        | 3 => FiAt wv (w.heap.size + 1) LQ T A l.length c
        | 4 => MsgAt wv (w.heap.size + 2) ⟨false, 0, 0, 0, 0, 0, ⟨#[]⟩⟩
        | 5 => u 5 = .int .i64 41
        | _ => True) := ⟨_, rfl⟩
      obtain ⟨Vp, hVdef⟩ := HV
      have Vp0 : ∀ u wv, Vp 0 u wv = (u 0 = .agg #[.int .i64 LQ, .int .i64 T, .slice A l.length c]) := fun u wv => by subst hVdef; rfl
      have Vp1 : ∀ u wv, Vp 1 u wv = (u 1 = .agg #[.bool false, .int .i64 0, .int .i64 0, .int .i64 0, .int .i64 0, .int .i64 0, .string ⟨#[]⟩]) := fun u wv => by subst hVdef; rfl
      have Vp2 : ∀ u wv, Vp 2 u wv = (u 2 = .int .i64 41) := fun u wv => by subst hVdef; rfl
      have Vp3 : ∀ u wv, Vp 3 u wv = (FiAt wv (w.heap.size + 1) LQ T A l.length c) := fun u wv => by subst hVdef; rfl
      have Vp4 : ∀ u wv, Vp 4 u wv = (MsgAt wv (w.heap.size + 2) ⟨false, 0, 0, 0, 0, 0, ⟨#[]⟩⟩) := fun u wv => by subst hVdef; rfl
      have Vp5 : ∀ u wv, Vp 5 u wv = (u 5 = .int .i64 41) := fun u wv => by subst hVdef; rfl
      have HVD := Lib.hid hVdef
      clear hVdef
      refine region_phase (V := Vp) (drop := fun _ _ => false) (G := fun L wv => (L 3 = false → FiAt wv (w.heap.size + 1) 0 0 none 0 0) ∧ (L 4 = false → MsgAt wv (w.heap.size + 2) ⟨false, 0, 0, 0, 0, 0, ⟨#[]⟩⟩) ∧ FiAt wv (w.heap.size + 3) LQ T A l.length c ∧ MsgAt wv (w.heap.size + 4) ⟨false, 0, 0, 0, 0, 0, ⟨#[]⟩⟩ ∧ Below w.heap.size w wv) (Rel := fun jx wv wv' => jx = 3 ∨ (jx = 4 ∧ ((∀ k, k ≠ w.heap.size + 2 → wv'.heap[k]? = wv.heap[k]?))) ∨ Below wv.heap.size wv wv') (by kernel_rfl) (by kernel_rfl) ⟨fun _ => HQ2.out.on (Below.refl _ _).drew, fun _ => MsgAt.on HM3.out (Below.refl _ _).drew, HQ7.out.on (Below.refl _ _).drew, MsgAt.on HM8.out (Below.refl _ _).drew, HB.out.trans ((Below.refl _ _).drew.mono HB.out.size)⟩ ?hmonop2 ?hdepp2 ⟨?s0_p2, ?s1_p2, ?s2_p2, ?s3_p2, ?s4_p2, ?s5_p2, trivial⟩ ?behindp2
      case hmonop2 =>
        intro ix jx u wv wv' hij hw hd hr
        rw [HVD.out]
        dsimp only
        split <;> intro h <;> first | exact trivial | exact h | (rcases hr with rfl | ⟨rfl, hpk⟩ | hb; (focus first | exact absurd rfl hij | (simp at hd; done) | (exact Bool.noConfusion (hw.symm.trans (show _ = true from by kernel_rfl)))); (focus first | exact absurd rfl hij | (simp at hd; done) | (exact (hpk _ (by omega)).trans h) | (exact Bool.noConfusion (hw.symm.trans (show _ = true from by kernel_rfl)))); (first | (exact h.on hb) | (exact MsgAt.on h hb)))
      case hdepp2 =>
        intro ix u u' wv h1 h2
        rw [HVD.out]
        dsimp only
        split <;> intro h <;> first | exact trivial | (rw [← h1]; exact h) | exact h
      case s0_p2 =>
        refine oweP rfl fun a wx val L hG hi hW hV hN hO K hK => ?_
        have e7 : a.tmps[7]? = some (.pointer (some ⟨w.heap.size + 3, 0, none⟩)) := (hO 7 (by kernel_rfl)).trans (by rfl)
        clear hV hN hO
        obtain ⟨v0, v1, v2⟩ := hG.2.2.1.cells
        go_simp
        exact hK.out _ _ (by rw [Vp0, upd_at] <;> (congr 1 <;> omega)) (.inr (.inr (Below.refl _ _))) (⟨fun h => hG.1 (upL_false h), fun h => hG.2.1 (upL_false h), hG.2.2⟩)
      case s1_p2 =>
        refine oweP rfl fun a wx val L hG hi hW hV hN hO K hK => ?_
        have e8 : a.tmps[8]? = some (.pointer (some ⟨w.heap.size + 4, 0, none⟩)) := (hO 8 (by kernel_rfl)).trans (by rfl)
        clear hV hN hO
        obtain ⟨x0, x1, x2, x3, x4, x5, x6⟩ := hG.2.2.2.1.cells
        go_simp
        exact hK.out _ _ (by rw [Vp1, upd_at] <;> (congr 1 <;> omega)) (.inr (.inr (Below.refl _ _))) (⟨fun h => hG.1 (upL_false h), fun h => hG.2.1 (upL_false h), hG.2.2⟩)
      case s2_p2 =>
        refine oweP rfl fun a wx val L hG hi hW hV hN hO K hK => ?_
        have e10 : a.tmps[10]? = some (.int .i64 41) := (hO 10 (by kernel_rfl)).trans (by rfl)
        clear hV hN hO
        go_simp
        exact hK.out _ _ (by rw [Vp2, upd_at] <;> (congr 1 <;> omega)) (.inr (.inr (Below.refl _ _))) (⟨fun h => hG.1 (upL_false h), fun h => hG.2.1 (upL_false h), hG.2.2⟩)
      case s3_p2 =>
        refine oweP rfl fun a wx val L hG hi hW hV hN hO K hK => ?_
        have e4 : a.tmps[4]? = some (.pointer (some ⟨w.heap.size + 1, 0, none⟩)) := (hO 4 (by kernel_rfl)).trans (by rfl)
        have e30 := hN 0 30 (by kernel_rfl) (by kernel_rfl) (by simp)
        have f30 := hV 0 (by kernel_rfl) (by kernel_rfl)
        rw [Vp0] at f30; rw [f30] at e30; clear f30
        clear hV hN hO
        have hqa := hG.1 hi
        obtain ⟨v0, v1, v2⟩ := hqa.cells
        have vf := hqa.frozen
        have hms := fun h => (hG.2.1 (upL_false (i := 3) h)).put3 (b := w.heap.size + 1) (by omega) (.int .i64 LQ) (.int .i64 T) (.slice A l.length c)
        have h7s := hG.2.2.1.put3 (b := w.heap.size + 1) (by omega) (.int .i64 LQ) (.int .i64 T) (.slice A l.length c)
        have h8s := hG.2.2.2.1.put3 (b := w.heap.size + 1) (by omega) (.int .i64 LQ) (.int .i64 T) (.slice A l.length c)
        have hbs := below_set3 hG.2.2.2.2 (b := w.heap.size + 1) (by omega) (.int .i64 LQ) (.int .i64 T) (.slice A l.length c)
        go_simp
        exact hK.out undef _ (by rw [Vp3]; exact hqa.set LQ T A l.length c) (.inl rfl) ⟨fun h => (upL_self h).elim, hms, h7s, h8s, hbs⟩
      case s4_p2 =>
        refine oweP rfl fun a wx val L hG hi hW hV hN hO K hK => ?_
        have e5 : a.tmps[5]? = some (.pointer (some ⟨w.heap.size + 2, 0, none⟩)) := (hO 5 (by kernel_rfl)).trans (by rfl)
        have e31 := hN 1 31 (by kernel_rfl) (by kernel_rfl) (by simp)
        have f31 := hV 1 (by kernel_rfl) (by kernel_rfl)
        rw [Vp1] at f31; rw [f31] at e31; clear f31
        clear hV hN hO
        have hma := hG.2.1 hi
        obtain ⟨x0, x1, x2, x3, x4, x5, x6⟩ := hma.cells
        have xf := hma.frozen
        have hpk := fun k (hk : k ≠ w.heap.size + 2) => set7_far wx hk ⟨false, 0, 0, 0, 0, 0, ⟨#[]⟩⟩
        have hqz := fun h => (hG.1 (upL_false (i := 4) h)).put7 (b := w.heap.size + 2) (by omega) ⟨false, 0, 0, 0, 0, 0, ⟨#[]⟩⟩
        have h7s := hG.2.2.1.put7 (b := w.heap.size + 2) (by omega) ⟨false, 0, 0, 0, 0, 0, ⟨#[]⟩⟩
        have h8s := (set7_far wx (show w.heap.size + 4 ≠ w.heap.size + 2 by omega) ⟨false, 0, 0, 0, 0, 0, ⟨#[]⟩⟩).trans hG.2.2.2.1
        have hp7 := hma.set7 ⟨false, 0, 0, 0, 0, 0, ⟨#[]⟩⟩
        have hb7 := below_set7 hG.2.2.2.2 (b := w.heap.size + 2) (by omega) ⟨false, 0, 0, 0, 0, 0, ⟨#[]⟩⟩
        unfold set7 at hpk hp7 hb7 hqz h7s h8s
        go_simp
        exact hK.out undef _ (by rw [Vp4]; exact hp7) (.inr (.inl ⟨rfl, hpk⟩)) ⟨hqz, fun h => (upL_self h).elim, h7s, h8s, hb7⟩
      case s5_p2 =>
        refine oweP rfl fun a wx val L hG hi hW hV hN hO K hK => ?_
        have e32 := hN 2 32 (by kernel_rfl) (by kernel_rfl) (by simp)
        have f32 := hV 2 (by kernel_rfl) (by kernel_rfl)
        rw [Vp2] at f32; rw [f32] at e32; clear f32
        clear hV hN hO
        go_simp
        exact hK.out _ _ (by rw [Vp5, upd_at] <;> (congr 1 <;> omega)) (.inr (.inr (Below.refl _ _))) (⟨fun h => hG.1 (upL_false h), fun h => hG.2.1 (upL_false h), hG.2.2⟩)
      intro val wx L hG hV
      have f0 := hV 0 (by simp) (fun _ _ => by simp)
      rw [Vp0] at f0
      have f1 := hV 1 (by simp) (fun _ _ => by simp)
      rw [Vp1] at f1
      have f2 := hV 2 (by simp) (fun _ _ => by simp)
      rw [Vp2] at f2
      have f3 := hV 3 (by simp) (fun _ _ => by simp)
      rw [Vp3] at f3
      have f4 := hV 4 (by simp) (fun _ _ => by simp)
      rw [Vp4] at f4
      have f5 := hV 5 (by simp) (fun _ _ => by simp)
      rw [Vp5] at f5
      clear hV Vp0 Vp1 Vp2 Vp3 Vp4 Vp5
      simp only [putAll, Act.put, List.setIfInBounds_toArray, List.set_cons_zero, List.set_cons_succ]
      generalize val 0 = z0 at *; (subst f0)
      generalize val 1 = z1 at *; (subst f1)
      generalize val 2 = z2 at *; (subst f2)
      generalize val 5 = z5 at *; (subst f5)
      clear HVD
      have HP : Hid (FiPostM A LQ T l ⟨false, 0, 0, 0, 0, 0, ⟨#[]⟩⟩ 41 w (.returned (.tuple #[fiv LQ T A l.length c, mv ⟨false, 0, 0, 0, 0, 0, ⟨#[]⟩⟩, .int .i64 41])) wx) := Lib.hid ⟨A, c, rfl, QTold.is (HQW.out.on hG.2.2.2.2), hG.2.2.2.2⟩
      have HQQ := Lib.hid f3
      have HMM := Lib.hid f4
      clear hG f3 f4
      go_wp2_with fail
      exact bodyPost_ret (fim_res Tryd.results49 HQQ.out HMM.out rfl rfl rfl) rfl HP.out
    · obtain ⟨m, hm0⟩ : ∃ m, l[0]? = some m := ⟨_, List.getElem?_eq_getElem (by omega)⟩
      obtain ⟨he, hm, hl⟩ := take_has hR hm0
      rw [he, hm, hl]
      have hlp : 0 < l.length := by omega
      have HM0 := Lib.hid hm0
      have HLT : Hid (l.tail.length = l.length - 1) := Lib.hid List.length_tail
      clear he hm hl hR hn hm0
      obtain ⟨e1, n1, s1, i1, q1, k1, d1⟩ := m
      go_enter Tryd.func49, Tryd.ntmps49
      go_wp2_with fail
      generalize (((((w.alloc (.cells #[.int .i64 LQ, .int .i64 T, .slice A l.length c, .bool false, .int .i64 0, .int .i64 0, .int .i64 0, .int .i64 0, .int .i64 0, .string ⟨#[]⟩, .slice none 0 0] 86)).alloc (.cells #[.int .i64 0, .int .i64 0, .slice none 0 0] 30)).alloc (.cells #[.bool false, .int .i64 0, .int .i64 0, .int .i64 0, .int .i64 0, .int .i64 0, .string ⟨#[]⟩] 26)).alloc (.cells #[.int .i64 LQ, .int .i64 T, .slice A l.length c] 30)).alloc (.cells #[.bool false, .int .i64 0, .int .i64 0, .int .i64 0, .int .i64 0, .int .i64 0, .string ⟨#[]⟩] 26)) = X at *
      refine CR.out.mono ?_; rintro e w3 ⟨rfl, b3⟩
      have HB := Lib.hid (HB.out.trans (b3.mono HB.out.size))
      have HK := Lib.hid (HK.out.on b3)
      have HQ2 := Lib.hid (HQ2.out.on b3)
      have HM3 : Hid (MsgAt _ (w.heap.size + 2) ⟨false, 0, 0, 0, 0, 0, ⟨#[]⟩⟩) := Lib.hid (MsgAt.on HM3.out b3)
      have HQ7 := Lib.hid (HQ7.out.on b3)
      have HM8 : Hid (MsgAt _ (w.heap.size + 4) ⟨false, 0, 0, 0, 0, 0, ⟨#[]⟩⟩) := Lib.hid (MsgAt.on HM8.out b3)
      have HQ := Lib.hid (HQ.out.on b3)
      have HLL := Lib.hid (HLL.out.below b3)
      have HX3 : Hid (w.heap.size + 5 ≤ w3.heap.size) := Lib.hid (by have := b3.size; have := HSZ.out; omega)
      clear y0 y1 y2 u0 u1 u2 b3 CR HSZ
      obtain ⟨u0, u1, u2⟩ := HQ7.out.cells
      have co := fiOwned_any A c l w3 HQ.out
      go_wp2_with fail; refine co.mono ?_; rintro e w4 ⟨v, rfl, ho4, b4⟩
      obtain ⟨A5, c5, hv5, hc5, hm5⟩ := ho4.row
      subst hv5
      have HB := Lib.hid (HB.out.trans (b4.mono HB.out.size))
      have HK := Lib.hid (HK.out.on b4)
      have HQ2 := Lib.hid (HQ2.out.on b4)
      have HM3 : Hid (MsgAt _ (w.heap.size + 2) ⟨false, 0, 0, 0, 0, 0, ⟨#[]⟩⟩) := Lib.hid (MsgAt.on HM3.out b4)
      have HQ7 := Lib.hid (HQ7.out.on b4)
      have HM8 : Hid (MsgAt _ (w.heap.size + 4) ⟨false, 0, 0, 0, 0, 0, ⟨#[]⟩⟩) := Lib.hid (MsgAt.on HM8.out b4)
      have HO4 := Lib.hid (ho4.base HX3.out)
      have HC5 := Lib.hid hc5
      have HS4 : Hid (w.heap.size + 5 ≤ w4.heap.size) := Lib.hid (Nat.le_trans HX3.out b4.size)
      obtain ⟨y0, y1, y2⟩ := HK.out.fifo
      have yf := HK.out.frozen
      have HK5 := Lib.hid (HK.out.list (.slice A5 l.length c5))
      have HQ25 := Lib.hid (HQ2.out.cell1 (b := w.heap.size) (i := 2) (by omega) (.slice A5 l.length c5))
      have HM35 : Hid (MsgAt _ (w.heap.size + 2) ⟨false, 0, 0, 0, 0, 0, ⟨#[]⟩⟩) := Lib.hid (MsgAt.cell1 HM3.out (b := w.heap.size) (i := 2) (by omega) (.slice A5 l.length c5))
      have HQ75 := Lib.hid (HQ7.out.cell1 (b := w.heap.size) (i := 2) (by omega) (.slice A5 l.length c5))
      have HM85 : Hid (MsgAt _ (w.heap.size + 4) ⟨false, 0, 0, 0, 0, 0, ⟨#[]⟩⟩) := Lib.hid (MsgAt.cell1 HM8.out (b := w.heap.size) (i := 2) (by omega) (.slice A5 l.length c5))
      have HO5 := Lib.hid (HO4.out.cell1 (b := w.heap.size) (i := 2) (by omega) (.slice A5 l.length c5))
      have HB5 := Lib.hid (HB.out.setCell (p := ⟨w.heap.size, 2, none⟩) (Nat.le_refl _) (.slice A5 l.length c5))
      have HS5 : Hid (w.heap.size + 5 ≤ (w4.setCell ⟨w.heap.size, 2, none⟩ (.slice A5 l.length c5)).heap.size) := Lib.hid (by rw [World.size_setCell]; exact HS4.out)
      clear u0 u1 u2 hm5 hc5 ho4 b4 co HQ
      go_upto_region 6 with (fail)
      clear y0 y1 y2 yf HK HQ2 HM3 HQ7 HM8 HO4 HB HS4
      generalize w4.setCell ⟨w.heap.size, 2, none⟩ (.slice A5 l.length c5) = W5 at *
      have hmsg := (QTold.ofOwn (A0 := none) HO5.out).msgs
      obtain ⟨ad, rfl, hadb, hcc⟩ := hmsg hlp
      have hm0 := hcc 0 _ HM0.out
      rw [show ad.add (0 * 7) = ad by unfold Addr.add; rfl] at hm0
      obtain ⟨A1, c1, ht1, hr1⟩ := HO5.out.cut1 hlp
      have ct := takeK_one w.heap.size LQ T ad c5 l ⟨e1, n1, s1, i1, q1, k1, d1⟩ ⟨false, 0, 0, 0, 0, 0, ⟨#[]⟩⟩ (.slice none 0 0) A1 c1 W5 HK5.out hm0 hadb hlp hr1
      have HT1 := Lib.hid ht1
      clear hm0 hadb hr1 hcc hmsg ht1
      go_wp2_with fail; refine ct.mono ?_; rintro e w7 ⟨rfl, b7, hk7⟩
      have hs5 := HS5.out
      have hs7 := b7.low.size
      have hbm := Joins.below_alloc1 w7 (.cells #[.bool e1, .int .i64 n1, .int .i64 s1, .int .i64 i1, .int .i64 q1, .int .i64 k1, .string d1] 26)
      have hq29 := HQ25.out.kept (b7.rest _ (by omega) (by omega))
      have hm39 : MsgAt w7 (w.heap.size + 2) ⟨false, 0, 0, 0, 0, 0, ⟨#[]⟩⟩ := (b7.rest _ (by omega) (by omega)).trans HM35.out
      have ht7 : QTold none (w.heap.size + 5) w7 l.tail A1 c1 := by
        have h1 := HT1.out
        refine ⟨h1.cap, fun hn => ?_, fun ad e => Nat.lt_of_lt_of_le (h1.low ad e) b7.low.size, h1.fresh⟩
        obtain ⟨ad, e, hlt, hc⟩ := h1.msgs hn
        refine ⟨ad, e, Nat.lt_of_lt_of_le hlt b7.low.size, fun k m hm => (hc k m hm).keep fun q hq => World.cell?_of_block ?_⟩
        rw [hq, adb]
        refine b7.rest _ hlt ?_
        rcases h1.fresh with h2 | h2
        · rw [h2] at e; cases e
        · have := h2 ad e; omega
      have HQ29 := Lib.hid (hq29.on hbm)
      have HM39 : Hid (MsgAt _ (w.heap.size + 2) ⟨false, 0, 0, 0, 0, 0, ⟨#[]⟩⟩) := Lib.hid (MsgAt.on hm39 hbm)
      have HK9 := Lib.hid (hk7.on hbm)
      have HM9 : Hid (MsgAt _ w7.heap.size ⟨e1, n1, s1, i1, q1, k1, d1⟩) := Lib.hid (MsgAt.new w7 ⟨e1, n1, s1, i1, q1, k1, d1⟩)
      have HB9 := Lib.hid (HB5.out.trans (b7.low.trans (hbm.mono (by omega))))
      have HT9 := Lib.hid (ht7.onw hbm)
      have HX9 : Hid (w.heap.size + 5 ≤ w7.heap.size) := Lib.hid (by omega)
      clear ct b7 hk7 hs5 hs7 hbm hq29 hm39 ht7 HQ25 HM35 HQ75 HM85 HB5 HK5 HO5 HS5 HT1
      go_upto_region 7 with (fail)
      generalize w7.alloc (.cells #[.bool e1, .int .i64 n1, .int .i64 s1, .int .i64 i1, .int .i64 q1, .int .i64 k1, .string d1] 26) = W8 at *
      generalize w7.heap.size = b9 at *
      go_upto_region 9 with (fail)
      have HV : ∃ Vp : Nat → (Nat → Value) → World → Prop, Vp = (fun ix u wv => match ix with
        | 0 => u 0 = .pointer (some ⟨w.heap.size, 0, none⟩)
        | 1 => u 1 = .agg #[.int .i64 LQ, .int .i64 T, .slice A1 (l.length - 1) c1]
        | 2 => u 2 = .agg #[.bool e1, .int .i64 n1, .int .i64 s1, .int .i64 i1, .int .i64 q1, .int .i64 k1, .string d1]
        | 3 => FiAt wv (w.heap.size + 1) LQ T A1 (l.length - 1) c1
        | 4 => MsgAt wv (w.heap.size + 2) ⟨e1, n1, s1, i1, q1, k1, d1⟩
        | 5 => u 5 = .int .i64 0
        | _ => True) := ⟨_, rfl⟩
      obtain ⟨Vp, hVdef⟩ := HV
      have Vp0 : ∀ u wv, Vp 0 u wv = (u 0 = .pointer (some ⟨w.heap.size, 0, none⟩)) := fun u wv => by subst hVdef; rfl
      have Vp1 : ∀ u wv, Vp 1 u wv = (u 1 = .agg #[.int .i64 LQ, .int .i64 T, .slice A1 (l.length - 1) c1]) := fun u wv => by subst hVdef; rfl
      have Vp2 : ∀ u wv, Vp 2 u wv = (u 2 = .agg #[.bool e1, .int .i64 n1, .int .i64 s1, .int .i64 i1, .int .i64 q1, .int .i64 k1, .string d1]) := fun u wv => by subst hVdef; rfl
      have Vp3 : ∀ u wv, Vp 3 u wv = (FiAt wv (w.heap.size + 1) LQ T A1 (l.length - 1) c1) := fun u wv => by subst hVdef; rfl
      have Vp4 : ∀ u wv, Vp 4 u wv = (MsgAt wv (w.heap.size + 2) ⟨e1, n1, s1, i1, q1, k1, d1⟩) := fun u wv => by subst hVdef; rfl
      have Vp5 : ∀ u wv, Vp 5 u wv = (u 5 = .int .i64 0) := fun u wv => by subst hVdef; rfl
      have HVD := Lib.hid hVdef
      clear hVdef
      refine region_phase (V := Vp) (drop := fun _ _ => false) (G := fun L wv => (L 3 = false → FiAt wv (w.heap.size + 1) 0 0 none 0 0) ∧ (L 4 = false → MsgAt wv (w.heap.size + 2) ⟨false, 0, 0, 0, 0, 0, ⟨#[]⟩⟩) ∧ KpAt wv w.heap.size LQ T (.slice A1 (l.length - 1) c1) ⟨false, 0, 0, 0, 0, 0, ⟨#[]⟩⟩ (.slice none 0 0) ∧ MsgAt wv b9 ⟨e1, n1, s1, i1, q1, k1, d1⟩ ∧ Below w.heap.size w wv ∧ QTold none (w.heap.size + 5) wv l.tail A1 c1) (Rel := fun jx wv wv' => jx = 3 ∨ (jx = 4 ∧ ((∀ k, k ≠ w.heap.size + 2 → wv'.heap[k]? = wv.heap[k]?))) ∨ Below wv.heap.size wv wv') (by kernel_rfl) (by kernel_rfl) ⟨fun _ => HQ29.out.on (Below.refl _ _).drew, fun _ => MsgAt.on HM39.out (Below.refl _ _).drew, HK9.out.on (Below.refl _ _).drew, MsgAt.on HM9.out (Below.refl _ _).drew, HB9.out.trans ((Below.refl _ _).drew.mono HB9.out.size), HT9.out.onw (Below.refl _ _).drew⟩ ?hmonop3 ?hdepp3 ⟨?s0_p3, ?s1_p3, ?s2_p3, ?s3_p3, ?s4_p3, ?s5_p3, trivial⟩ ?behindp3
      case hmonop3 =>
        intro ix jx u wv wv' hij hw hd hr
        rw [HVD.out]
        dsimp only
        split <;> intro h <;> first | exact trivial | exact h | (rcases hr with rfl | ⟨rfl, hpk⟩ | hb; (focus first | exact absurd rfl hij | (simp at hd; done) | (exact Bool.noConfusion (hw.symm.trans (show _ = true from by kernel_rfl)))); (focus first | exact absurd rfl hij | (simp at hd; done) | (exact (hpk _ (by omega)).trans h) | (exact Bool.noConfusion (hw.symm.trans (show _ = true from by kernel_rfl)))); (first | (exact h.on hb) | (exact MsgAt.on h hb)))
      case hdepp3 =>
        intro ix u u' wv h1 h2
        rw [HVD.out]
        dsimp only
        split <;> intro h <;> first | exact trivial | (rw [← h1]; exact h) | exact h
      case s0_p3 =>
        refine oweP rfl fun a wx val L hG hi hW hV hN hO K hK => ?_
        have e2 : a.tmps[2]? = some (.pointer (some ⟨w.heap.size, 0, none⟩)) := (hO 2 (by kernel_rfl)).trans (by rfl)
        clear hV hN hO
        go_simp
        exact hK.out _ _ (by rw [Vp0, upd_at] <;> (congr 1 <;> omega)) (.inr (.inr (Below.refl _ _))) (⟨fun h => hG.1 (upL_false h), fun h => hG.2.1 (upL_false h), hG.2.2⟩)
      case s1_p3 =>
        refine oweP rfl fun a wx val L hG hi hW hV hN hO K hK => ?_
        have e33 := hN 0 33 (by kernel_rfl) (by kernel_rfl) (by simp)
        have f33 := hV 0 (by kernel_rfl) (by kernel_rfl)
        rw [Vp0] at f33; rw [f33] at e33; clear f33
        clear hV hN hO
        obtain ⟨v0, v1, v2⟩ := hG.2.2.1.fifo
        go_simp
        exact hK.out _ _ (by rw [Vp1, upd_at] <;> (congr 1 <;> omega)) (.inr (.inr (Below.refl _ _))) (⟨fun h => hG.1 (upL_false h), fun h => hG.2.1 (upL_false h), hG.2.2⟩)
      case s2_p3 =>
        refine oweP rfl fun a wx val L hG hi hW hV hN hO K hK => ?_
        have e9 : a.tmps[9]? = some (.pointer (some ⟨b9, 0, none⟩)) := (hO 9 (by kernel_rfl)).trans (by rfl)
        clear hV hN hO
        obtain ⟨x0, x1, x2, x3, x4, x5, x6⟩ := hG.2.2.2.1.cells
        go_simp
        exact hK.out _ _ (by rw [Vp2, upd_at] <;> (congr 1 <;> omega)) (.inr (.inr (Below.refl _ _))) (⟨fun h => hG.1 (upL_false h), fun h => hG.2.1 (upL_false h), hG.2.2⟩)
      case s3_p3 =>
        refine oweP rfl fun a wx val L hG hi hW hV hN hO K hK => ?_
        have e4 : a.tmps[4]? = some (.pointer (some ⟨w.heap.size + 1, 0, none⟩)) := (hO 4 (by kernel_rfl)).trans (by rfl)
        have e34 := hN 1 34 (by kernel_rfl) (by kernel_rfl) (by simp)
        have f34 := hV 1 (by kernel_rfl) (by kernel_rfl)
        rw [Vp1] at f34; rw [f34] at e34; clear f34
        clear hV hN hO
        have hqa := hG.1 hi
        obtain ⟨v0, v1, v2⟩ := hqa.cells
        have vf := hqa.frozen
        have hx9 := HX9.out
        have hms := fun h => (hG.2.1 (upL_false (i := 3) h)).put3 (b := w.heap.size + 1) (by omega) (.int .i64 LQ) (.int .i64 T) (.slice A1 (l.length - 1) c1)
        have h7s := hG.2.2.1.kept (far3 wx (.int .i64 LQ) (.int .i64 T) (.slice A1 (l.length - 1) c1) (show w.heap.size ≠ w.heap.size + 1 by omega))
        have h8s := hG.2.2.2.1.put3 (b := w.heap.size + 1) (by omega) (.int .i64 LQ) (.int .i64 T) (.slice A1 (l.length - 1) c1)
        have hbs := below_set3 hG.2.2.2.2.1 (b := w.heap.size + 1) (by omega) (.int .i64 LQ) (.int .i64 T) (.slice A1 (l.length - 1) c1)
        have hts := hG.2.2.2.2.2.put3 (b := w.heap.size + 1) (by omega) (.int .i64 LQ) (.int .i64 T) (.slice A1 (l.length - 1) c1)
        clear hx9
        go_simp
        exact hK.out undef _ (by rw [Vp3]; exact hqa.set LQ T A1 (l.length - 1) c1) (.inl rfl) ⟨fun h => (upL_self h).elim, hms, h7s, h8s, hbs, hts⟩
      case s4_p3 =>
        refine oweP rfl fun a wx val L hG hi hW hV hN hO K hK => ?_
        have e5 : a.tmps[5]? = some (.pointer (some ⟨w.heap.size + 2, 0, none⟩)) := (hO 5 (by kernel_rfl)).trans (by rfl)
        have e35 := hN 2 35 (by kernel_rfl) (by kernel_rfl) (by simp)
        have f35 := hV 2 (by kernel_rfl) (by kernel_rfl)
        rw [Vp2] at f35; rw [f35] at e35; clear f35
        clear hV hN hO
        have hma := hG.2.1 hi
        obtain ⟨x0, x1, x2, x3, x4, x5, x6⟩ := hma.cells
        have xf := hma.frozen
        have hx9 := HX9.out
        have hpk := fun k (hk : k ≠ w.heap.size + 2) => set7_far wx hk ⟨e1, n1, s1, i1, q1, k1, d1⟩
        have hqz := fun h => (hG.1 (upL_false (i := 4) h)).put7 (b := w.heap.size + 2) (by omega) ⟨e1, n1, s1, i1, q1, k1, d1⟩
        have h7s := hG.2.2.1.kept (set7_far wx (show w.heap.size ≠ w.heap.size + 2 by omega) ⟨e1, n1, s1, i1, q1, k1, d1⟩)
        have h8s := (set7_far wx (show b9 ≠ w.heap.size + 2 by omega) ⟨e1, n1, s1, i1, q1, k1, d1⟩).trans hG.2.2.2.1
        have hp7 := hma.set7 ⟨e1, n1, s1, i1, q1, k1, d1⟩
        have hb7 := below_set7 hG.2.2.2.2.1 (b := w.heap.size + 2) (by omega) ⟨e1, n1, s1, i1, q1, k1, d1⟩
        have hts := hG.2.2.2.2.2.put7 (b := w.heap.size + 2) (by omega) ⟨e1, n1, s1, i1, q1, k1, d1⟩
        clear hx9
        unfold set7 at hpk hp7 hb7 hqz h7s h8s hts
        go_simp
        exact hK.out undef _ (by rw [Vp4]; exact hp7) (.inr (.inl ⟨rfl, hpk⟩)) ⟨hqz, fun h => (upL_self h).elim, h7s, h8s, hb7, hts⟩
      case s5_p3 =>
        refine oweP rfl fun a wx val L hG hi hW hV hN hO K hK => ?_
        clear hV hN hO
        go_simp
        exact hK.out _ _ (by rw [Vp5, upd_at] <;> (congr 1 <;> omega)) (.inr (.inr (Below.refl _ _))) (⟨fun h => hG.1 (upL_false h), fun h => hG.2.1 (upL_false h), hG.2.2⟩)
      intro val wx L hG hV
      have f0 := hV 0 (by simp) (fun _ _ => by simp)
      rw [Vp0] at f0
      have f1 := hV 1 (by simp) (fun _ _ => by simp)
      rw [Vp1] at f1
      have f2 := hV 2 (by simp) (fun _ _ => by simp)
      rw [Vp2] at f2
      have f3 := hV 3 (by simp) (fun _ _ => by simp)
      rw [Vp3] at f3
      have f4 := hV 4 (by simp) (fun _ _ => by simp)
      rw [Vp4] at f4
      have f5 := hV 5 (by simp) (fun _ _ => by simp)
      rw [Vp5] at f5
      clear hV Vp0 Vp1 Vp2 Vp3 Vp4 Vp5
      simp only [putAll, Act.put, List.setIfInBounds_toArray, List.set_cons_zero, List.set_cons_succ]
      generalize val 0 = z0 at *; (subst f0)
      generalize val 1 = z1 at *; (subst f1)
      generalize val 2 = z2 at *; (subst f2)
      generalize val 5 = z5 at *; (subst f5)
      clear HVD
      have HP : Hid (FiPostM A LQ T l.tail ⟨e1, n1, s1, i1, q1, k1, d1⟩ 0 w (.returned (.tuple #[fiv LQ T A1 (l.length - 1) c1, mv ⟨e1, n1, s1, i1, q1, k1, d1⟩, .int .i64 0])) wx) := Lib.hid ⟨A1, c1, by rw [HLT.out], (hG.2.2.2.2.2.less (by omega)).any, hG.2.2.2.2.1⟩
      have HQQ := Lib.hid f3
      have HMM := Lib.hid f4
      clear hG f3 f4
      go_wp2_with fail
      exact bodyPost_ret (fim_res Tryd.results49 HQQ.out HMM.out rfl rfl rfl) rfl HP.out

end Go.Proofs.YtehajmockicilaaDoor

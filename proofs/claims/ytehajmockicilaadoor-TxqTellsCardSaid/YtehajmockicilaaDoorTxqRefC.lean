/-
  What the document's without, First, Take and Abort tell.
-/
import Derived.Test.YtehajmockicilaaDoorTxqRefB
namespace Go.Proofs.YtehajmockicilaaDoor
open Go Go.RowKit

set_option maxRecDepth 100000 in
set_option maxHeartbeats 4000000 in
theorem refWithout_any (LQ : Int) (A : Option Addr) (c : Nat) (l : List Msg) (I : Nat) (m : Msg) (w : World) (hq : QIn w A c l) (hm : l[I]? = some m) :
    Calls Tryd.prog 65 #[qv LQ A l.length c, .int .i64 (I : Int)] w fun e w' => ∃ A' c', e = .returned (.tuple #[qv LQ A' (l.eraseIdx I).length c', mv m, .int .i64 0]) ∧ QTold none w.heap.size w' (l.eraseIdx I) A' c' ∧ Below w.heap.size w w' := by
  have q1 := QAt.new w LQ A l.length c
  have b1 := Joins.below_alloc1 w (.cells #[.int .i64 LQ, .slice A l.length c] 64)
  have q2 := QAt.new (w.alloc (.cells #[.int .i64 LQ, .slice A l.length c] 64)) 0 none 0 0
  have b2 := Joins.below_alloc1 (w.alloc (.cells #[.int .i64 LQ, .slice A l.length c] 64)) (.cells #[.int .i64 0, .slice none 0 0] 64)
  have q3 := MsgAt.new ((w.alloc (.cells #[.int .i64 LQ, .slice A l.length c] 64)).alloc (.cells #[.int .i64 0, .slice none 0 0] 64)) zeroM
  have b3 := Joins.below_alloc1 ((w.alloc (.cells #[.int .i64 LQ, .slice A l.length c] 64)).alloc (.cells #[.int .i64 0, .slice none 0 0] 64)) (.cells (mc zeroM) 26)
  rw [World.size_alloc] at q2
  rw [World.size_alloc, World.size_alloc] at q3
  have q1' := (q1.on b2).on b3
  have q2' := q2.on b3
  have hB := (b1.trans (b2.mono b1.size)).trans (b3.mono (Nat.le_trans b1.size b2.size))
  have hq3 := hq.on hB
  have hsz : w.heap.size + 3 = (((w.alloc (.cells #[.int .i64 LQ, .slice A l.length c] 64)).alloc (.cells #[.int .i64 0, .slice none 0 0] 64)).alloc (.cells (mc zeroM) 26)).heap.size := by simp only [World.size_alloc]
  simp only [mc, zeroM] at q1' q2' q3 hB hq3 hsz
  clear q1 q2 b1 b2 b3
  have hfew := hq.few
  have hcap := hq.cap
  have hlt := (List.getElem?_eq_some_iff.1 hm).1
  have hltI : (I : Int) < (l.length : Int) := by omega
  have HQ := Lib.hid hq
  have HB := Lib.hid hB
  have HQ1 := Lib.hid q1'
  have HQ2 := Lib.hid q2'
  have HM3 : Hid (MsgAt _ (w.heap.size + 2) zeroM) := Lib.hid q3
  have HSZ := Lib.hid hsz
  have HQ3 := Lib.hid hq3
  have hrt := run_takeM A c l hcap I (by omega)
  obtain ⟨A1, c1, hm1, hr1⟩ := run_dropM A c l hcap (I + 1) (by omega)
  simp only [Int.natCast_add, Int.natCast_one] at hr1
  have HM1 := Lib.hid hm1
  have hw1 : IntKind.i64.wrap ((I : Int) + 1) = (I : Int) + 1 := IntWalk.i64_in _ (by omega)
  have hlt2 : (l.take I).length = I := by rw [List.length_take]; omega
  rw [hlt2] at hrt
  have HLT := Lib.hid hlt2
  have HER : Hid (l.take I ++ l.drop (I + 1) = l.eraseIdx I) := Lib.hid (List.eraseIdx_eq_take_drop_succ l I).symm
  rw [List.length_drop] at hr1
  obtain ⟨ad, rfl, -⟩ := hq.at hm
  have HC : Hid (∀ W, Below w.heap.size w W → At7 W (ad.add (I * 7)) m) := Lib.hid (fun W hW => by
    obtain ⟨ad', e, h7⟩ := (HQ.out.on hW).at hm
    cases e; exact h7)
  clear hq q1' q2' q3 hB hsz hq3 hm1 hlt2 hm
  obtain ⟨e1, n1, s1, i1, q1, k1, d1⟩ := m
  simp only [mv] at *
  go_enter Tryd.func65, Tryd.ntmps65
  go_upto_region 1 with (fail)
  generalize ((w.alloc (.cells #[.int .i64 LQ, .slice (some ad) l.length c] 64)).alloc (.cells #[.int .i64 0, .slice none 0 0] 64)).alloc (.cells #[.bool false, .int .i64 0, .int .i64 0, .int .i64 0, .int .i64 0, .int .i64 0, .string ⟨#[]⟩] 26) = X at *
  have HV : ∃ Vp : Nat → (Nat → Value) → World → Prop, Vp = (fun ix u wv => match ix with
    | 0 => u 0 = .pointer (some ⟨w.heap.size, 1, none⟩)
    | 1 => u 1 = .slice (some ad) l.length c
    | 2 => u 2 = .int .i64 (I : Int)
    | 3 => u 3 = .slice (some ad) I c
    | 4 => OwnM wv X.heap.size (u 4) (l.take I)
    | 5 => u 5 = .pointer (some ⟨w.heap.size, 1, none⟩)
    | 6 => u 6 = .slice (some ad) l.length c
    | 7 => u 7 = .int .i64 (I : Int)
    | 8 => u 8 = .int .i64 ((I : Int) + 1)
    | 9 => u 9 = .slice A1 (l.length - (I + 1)) c1
    | 10 => OwnM wv X.heap.size (u 10) (l.eraseIdx I)
    | 11 => OwnM wv X.heap.size (u 11) (l.eraseIdx I)
    | _ => True) := ⟨_, rfl⟩
  obtain ⟨Vp, hVdef⟩ := HV
  have Vp0 : ∀ u wv, Vp 0 u wv = (u 0 = .pointer (some ⟨w.heap.size, 1, none⟩)) := fun u wv => by subst hVdef; rfl
  have Vp1 : ∀ u wv, Vp 1 u wv = (u 1 = .slice (some ad) l.length c) := fun u wv => by subst hVdef; rfl
  have Vp2 : ∀ u wv, Vp 2 u wv = (u 2 = .int .i64 (I : Int)) := fun u wv => by subst hVdef; rfl
  have Vp3 : ∀ u wv, Vp 3 u wv = (u 3 = .slice (some ad) I c) := fun u wv => by subst hVdef; rfl
  have Vp4 : ∀ u wv, Vp 4 u wv = (OwnM wv X.heap.size (u 4) (l.take I)) := fun u wv => by subst hVdef; rfl
  have Vp5 : ∀ u wv, Vp 5 u wv = (u 5 = .pointer (some ⟨w.heap.size, 1, none⟩)) := fun u wv => by subst hVdef; rfl
  have Vp6 : ∀ u wv, Vp 6 u wv = (u 6 = .slice (some ad) l.length c) := fun u wv => by subst hVdef; rfl
  have Vp7 : ∀ u wv, Vp 7 u wv = (u 7 = .int .i64 (I : Int)) := fun u wv => by subst hVdef; rfl
  have Vp8 : ∀ u wv, Vp 8 u wv = (u 8 = .int .i64 ((I : Int) + 1)) := fun u wv => by subst hVdef; rfl
  have Vp9 : ∀ u wv, Vp 9 u wv = (u 9 = .slice A1 (l.length - (I + 1)) c1) := fun u wv => by subst hVdef; rfl
  have Vp10 : ∀ u wv, Vp 10 u wv = (OwnM wv X.heap.size (u 10) (l.eraseIdx I)) := fun u wv => by subst hVdef; rfl
  have Vp11 : ∀ u wv, Vp 11 u wv = (OwnM wv X.heap.size (u 11) (l.eraseIdx I)) := fun u wv => by subst hVdef; rfl
  have HVD := Lib.hid hVdef
  clear hVdef
  refine region_phase (V := Vp) (drop := fun jx ix => (jx == 10 && ix == 4)) (G := fun L wv => Below X.heap.size X wv) (Rel := fun jx wv wv' => jx = 10 ∨ Below wv.heap.size wv wv') (by kernel_rfl) (by kernel_rfl) (Below.refl _ _).drew ?hmonop1 ?hdepp1 ⟨?s0_p1, ?s1_p1, ?s2_p1, ?s3_p1, ?s4_p1, ?s5_p1, ?s6_p1, ?s7_p1, ?s8_p1, ?s9_p1, ?s10_p1, ?s11_p1, trivial⟩ ?behindp1
  case hmonop1 =>
    intro ix jx u wv wv' hij hw hd hr
    rw [HVD.out]
    dsimp only
    split <;> intro h <;> first | exact trivial | exact h | (rcases hr with rfl | hb; (focus first | exact absurd rfl hij | (simp at hd; done) | (exact Bool.noConfusion (hw.symm.trans (show _ = true from by kernel_rfl)))); (first | (exact h.on hb)))
  case hdepp1 =>
    intro ix u u' wv h1 h2
    rw [HVD.out]
    dsimp only
    split <;> intro h <;> first | exact trivial | (rw [← h1]; exact h) | exact h
  case s0_p1 =>
    refine oweP rfl fun a wx val L hG hi hW hV hN hO K hK => ?_
    have e2 : a.tmps[2]? = some (.pointer (some ⟨w.heap.size, 0, none⟩)) := (hO 2 (by kernel_rfl)).trans (by rfl)
    clear hV hN hO
    go_simp
    exact hK.out _ _ (by rw [Vp0, upd_at] <;> (congr 1 <;> omega)) (.inr (Below.refl _ _)) (hG)
  case s1_p1 =>
    refine oweP rfl fun a wx val L hG hi hW hV hN hO K hK => ?_
    have e8 := hN 0 8 (by kernel_rfl) (by kernel_rfl) (by simp)
    have f8 := hV 0 (by kernel_rfl) (by kernel_rfl)
    rw [Vp0] at f8; rw [f8] at e8; clear f8
    clear hV hN hO
    obtain ⟨v0, v1⟩ := (HQ1.out.on hG).cells
    go_simp
    exact hK.out _ _ (by rw [Vp1, upd_at] <;> (congr 1 <;> omega)) (.inr (Below.refl _ _)) (hG)
  case s2_p1 =>
    refine oweP rfl fun a wx val L hG hi hW hV hN hO K hK => ?_
    have e1 : a.tmps[1]? = some (.int .i64 (I : Int)) := (hO 1 (by kernel_rfl)).trans (by rfl)
    clear hV hN hO
    go_simp
    exact hK.out _ _ (by rw [Vp2, upd_at] <;> (congr 1 <;> omega)) (.inr (Below.refl _ _)) (hG)
  case s3_p1 =>
    refine oweP rfl fun a wx val L hG hi hW hV hN hO K hK => ?_
    have e9 := hN 1 9 (by kernel_rfl) (by kernel_rfl) (by simp)
    have f9 := hV 1 (by kernel_rfl) (by kernel_rfl)
    rw [Vp1] at f9; rw [f9] at e9; clear f9
    have e10 := hN 2 10 (by kernel_rfl) (by kernel_rfl) (by simp)
    have f10 := hV 2 (by kernel_rfl) (by kernel_rfl)
    rw [Vp2] at f10; rw [f10] at e10; clear f10
    clear hV hN hO
    go_simp
    exact hK.out _ _ (by rw [Vp3, upd_at] <;> (congr 1 <;> omega)) (.inr (Below.refl _ _)) (hG)
  case s4_p1 =>
    refine oweP rfl fun a wx val L hG hi hW hV hN hO K hK => ?_
    have e11 := hN 3 11 (by kernel_rfl) (by kernel_rfl) (by simp)
    have f11 := hV 3 (by kernel_rfl) (by kernel_rfl)
    rw [Vp3] at f11; rw [f11] at e11; clear f11
    clear hV hN hO
    have hqx := HQ3.out.on hG
    have htk := (hqx.take I).msgs
    have hlt2 := HLT.out
    refine wp_appM (.const (.slice none 0 0)) (.tmp 11) rfl X.heap.size wx.heap.size _ [] (l.take I) (some ad) c rfl (by simp [Act.eval, e11]; omega) (OwnM.nil _ _) htk hG.size (by rw [hlt2]; simp; omega) ?_
    intro u' w5 hown5 hg5
    have hb := OwnM.below (OwnM.nil wx wx.heap.size) hg5 (Nat.le_refl _)
    exact hK.out _ _ (by rw [Vp4, upd_at]; exact hown5) (.inr hb) (hG.trans (hb.mono hG.size))
  case s5_p1 =>
    refine oweP rfl fun a wx val L hG hi hW hV hN hO K hK => ?_
    have e2 : a.tmps[2]? = some (.pointer (some ⟨w.heap.size, 0, none⟩)) := (hO 2 (by kernel_rfl)).trans (by rfl)
    clear hV hN hO
    go_simp
    exact hK.out _ _ (by rw [Vp5, upd_at] <;> (congr 1 <;> omega)) (.inr (Below.refl _ _)) (hG)
  case s6_p1 =>
    refine oweP rfl fun a wx val L hG hi hW hV hN hO K hK => ?_
    have e13 := hN 5 13 (by kernel_rfl) (by kernel_rfl) (by simp)
    have f13 := hV 5 (by kernel_rfl) (by kernel_rfl)
    rw [Vp5] at f13; rw [f13] at e13; clear f13
    clear hV hN hO
    obtain ⟨v0, v1⟩ := (HQ1.out.on hG).cells
    go_simp
    exact hK.out _ _ (by rw [Vp6, upd_at] <;> (congr 1 <;> omega)) (.inr (Below.refl _ _)) (hG)
  case s7_p1 =>
    refine oweP rfl fun a wx val L hG hi hW hV hN hO K hK => ?_
    have e1 : a.tmps[1]? = some (.int .i64 (I : Int)) := (hO 1 (by kernel_rfl)).trans (by rfl)
    clear hV hN hO
    go_simp
    exact hK.out _ _ (by rw [Vp7, upd_at] <;> (congr 1 <;> omega)) (.inr (Below.refl _ _)) (hG)
  case s8_p1 =>
    refine oweP rfl fun a wx val L hG hi hW hV hN hO K hK => ?_
    have e15 := hN 7 15 (by kernel_rfl) (by kernel_rfl) (by simp)
    have f15 := hV 7 (by kernel_rfl) (by kernel_rfl)
    rw [Vp7] at f15; rw [f15] at e15; clear f15
    clear hV hN hO
    go_simp
    exact hK.out _ _ (by rw [Vp8, upd_at] <;> (congr 1 <;> omega)) (.inr (Below.refl _ _)) (hG)
  case s9_p1 =>
    refine oweP rfl fun a wx val L hG hi hW hV hN hO K hK => ?_
    have e14 := hN 6 14 (by kernel_rfl) (by kernel_rfl) (by simp)
    have f14 := hV 6 (by kernel_rfl) (by kernel_rfl)
    rw [Vp6] at f14; rw [f14] at e14; clear f14
    have e16 := hN 8 16 (by kernel_rfl) (by kernel_rfl) (by simp)
    have f16 := hV 8 (by kernel_rfl) (by kernel_rfl)
    rw [Vp8] at f16; rw [f16] at e16; clear f16
    clear hV hN hO
    go_simp
    exact hK.out _ _ (by rw [Vp9, upd_at] <;> (congr 1 <;> omega)) (.inr (Below.refl _ _)) (hG)
  case s10_p1 =>
    refine oweP rfl fun a wx val L hG hi hW hV hN hO K hK => ?_
    have e12 := hN 4 12 (by kernel_rfl) (by kernel_rfl) (by simp)
    have f12 := hV 4 (by kernel_rfl) (by kernel_rfl)
    rw [Vp4] at f12; skip
    have e17 := hN 9 17 (by kernel_rfl) (by kernel_rfl) (by simp)
    have f17 := hV 9 (by kernel_rfl) (by kernel_rfl)
    rw [Vp9] at f17; rw [f17] at e17; clear f17
    clear hV hN hO
    have hqx := HQ3.out.on hG
    have hdr := HM1.out wx wx.heap.size hqx.msgs
    have hlt2 := HLT.out
    refine wp_appM (.tmp 12) (.tmp 17) rfl X.heap.size wx.heap.size _ (l.take I) (l.drop (I + 1)) A1 c1 (by simp [Act.eval, e12]) (by simp [Act.eval, e17]) f12 hdr hG.size (by rw [hlt2, List.length_drop]; omega) ?_
    intro u' w5 hown5 hg5
    have hb5 := OwnM.below f12 hg5 hG.size
    rw [HER.out] at hown5
    exact hK.out _ _ (by rw [Vp10, upd_at]; exact hown5) (.inl rfl) (hG.trans hb5)
  case s11_p1 =>
    refine oweP rfl fun a wx val L hG hi hW hV hN hO K hK => ?_
    have e18 := hN 10 18 (by kernel_rfl) (by kernel_rfl) (by simp)
    have f18 := hV 10 (by kernel_rfl) (by kernel_rfl)
    rw [Vp10] at f18; skip
    clear hV hN hO
    go_simp
    exact hK.out _ _ (by rw [Vp11, upd_at]; exact f18) (.inr (Below.refl _ _)) (hG)
  intro val wx L hG hV
  have f0 := hV 0 (by simp) (fun _ _ => by simp)
  rw [Vp0] at f0
  have f1 := hV 1 (by simp) (fun _ _ => by simp)
  rw [Vp1] at f1
  have f2 := hV 2 (by simp) (fun _ _ => by simp)
  rw [Vp2] at f2
  have f3 := hV 3 (by simp) (fun _ _ => by simp)
  rw [Vp3] at f3
  have f5 := hV 5 (by simp) (fun _ _ => by simp)
  rw [Vp5] at f5
  have f6 := hV 6 (by simp) (fun _ _ => by simp)
  rw [Vp6] at f6
  have f7 := hV 7 (by simp) (fun _ _ => by simp)
  rw [Vp7] at f7
  have f8 := hV 8 (by simp) (fun _ _ => by simp)
  rw [Vp8] at f8
  have f9 := hV 9 (by simp) (fun _ _ => by simp)
  rw [Vp9] at f9
  have f10 := hV 10 (by simp) (fun _ _ => by simp)
  rw [Vp10] at f10
  have f11 := hV 11 (by simp) (fun _ _ => by simp)
  rw [Vp11] at f11
  clear hV Vp0 Vp1 Vp2 Vp3 Vp4 Vp5 Vp6 Vp7 Vp8 Vp9 Vp10 Vp11
  simp only [putAll, Act.put, List.setIfInBounds_toArray, List.set_cons_zero, List.set_cons_succ]
  generalize val 0 = z0 at *; (subst f0)
  generalize val 1 = z1 at *; (subst f1)
  generalize val 2 = z2 at *; (subst f2)
  generalize val 3 = z3 at *; (subst f3)
  generalize val 4 = z4 at *
  generalize val 5 = z5 at *; (subst f5)
  generalize val 6 = z6 at *; (subst f6)
  generalize val 7 = z7 at *; (subst f7)
  generalize val 8 = z8 at *; (subst f8)
  generalize val 9 = z9 at *; (subst f9)
  generalize val 10 = z10 at *
  generalize val 11 = z11 at *
  clear HVD
  obtain ⟨A5, c5, hz7, ht5⟩ := QTold.own (A0 := none) f11
  subst hz7
  have HT5 := Lib.hid ht5
  have HQ1b := Lib.hid (HQ1.out.on hG)
  have HQ2b := Lib.hid (HQ2.out.on hG)
  have HM3b := Lib.hid (MsgAt.on HM3.out hG)
  have HB1 := Lib.hid (HB.out.trans (hG.mono HB.out.size))
  clear ht5 hG f11 hrt hr1 hw1 f10
  go_upto_region 2 with (fail)
  have HV : ∃ Vp : Nat → (Nat → Value) → World → Prop, Vp = (fun ix u wv => match ix with
    | 0 => u 0 = .pointer (some ⟨w.heap.size, 0, none⟩)
    | 1 => u 1 = .int .i64 LQ
    | 2 => u 2 = .slice A5 (l.eraseIdx I).length c5
    | 3 => u 3 = .agg #[.int .i64 LQ, .slice A5 (l.eraseIdx I).length c5]
    | 4 => u 4 = .pointer (some ⟨w.heap.size, 1, none⟩)
    | 5 => u 5 = .slice (some ad) l.length c
    | 6 => u 6 = .int .i64 (I : Int)
    | 7 => u 7 = .pointer (some (ad.add (I * 7)))
    | 8 => u 8 = .agg #[.bool e1, .int .i64 n1, .int .i64 s1, .int .i64 i1, .int .i64 q1, .int .i64 k1, .string d1]
    | 9 => QAt wv (w.heap.size + 1) LQ A5 (l.eraseIdx I).length c5
    | 10 => MsgAt wv (w.heap.size + 2) ⟨e1, n1, s1, i1, q1, k1, d1⟩
    | 11 => u 11 = .int .i64 0
    | _ => True) := ⟨_, rfl⟩
  obtain ⟨Vp, hVdef⟩ := HV
  have Vp0 : ∀ u wv, Vp 0 u wv = (u 0 = .pointer (some ⟨w.heap.size, 0, none⟩)) := fun u wv => by subst hVdef; rfl
  have Vp1 : ∀ u wv, Vp 1 u wv = (u 1 = .int .i64 LQ) := fun u wv => by subst hVdef; rfl
  have Vp2 : ∀ u wv, Vp 2 u wv = (u 2 = .slice A5 (l.eraseIdx I).length c5) := fun u wv => by subst hVdef; rfl
  have Vp3 : ∀ u wv, Vp 3 u wv = (u 3 = .agg #[.int .i64 LQ, .slice A5 (l.eraseIdx I).length c5]) := fun u wv => by subst hVdef; rfl
  have Vp4 : ∀ u wv, Vp 4 u wv = (u 4 = .pointer (some ⟨w.heap.size, 1, none⟩)) := fun u wv => by subst hVdef; rfl
  have Vp5 : ∀ u wv, Vp 5 u wv = (u 5 = .slice (some ad) l.length c) := fun u wv => by subst hVdef; rfl
  have Vp6 : ∀ u wv, Vp 6 u wv = (u 6 = .int .i64 (I : Int)) := fun u wv => by subst hVdef; rfl
  have Vp7 : ∀ u wv, Vp 7 u wv = (u 7 = .pointer (some (ad.add (I * 7)))) := fun u wv => by subst hVdef; rfl
  have Vp8 : ∀ u wv, Vp 8 u wv = (u 8 = .agg #[.bool e1, .int .i64 n1, .int .i64 s1, .int .i64 i1, .int .i64 q1, .int .i64 k1, .string d1]) := fun u wv => by subst hVdef; rfl
  have Vp9 : ∀ u wv, Vp 9 u wv = (QAt wv (w.heap.size + 1) LQ A5 (l.eraseIdx I).length c5) := fun u wv => by subst hVdef; rfl
  have Vp10 : ∀ u wv, Vp 10 u wv = (MsgAt wv (w.heap.size + 2) ⟨e1, n1, s1, i1, q1, k1, d1⟩) := fun u wv => by subst hVdef; rfl
  have Vp11 : ∀ u wv, Vp 11 u wv = (u 11 = .int .i64 0) := fun u wv => by subst hVdef; rfl
  have HVD := Lib.hid hVdef
  clear hVdef
  refine region_phase (V := Vp) (drop := fun _ _ => false) (G := fun L wv => (L 9 = false → QAt wv (w.heap.size + 1) 0 none 0 0) ∧ (L 10 = false → MsgAt wv (w.heap.size + 2) zeroM) ∧ (L 10 = false → QAt wv w.heap.size LQ (some ad) l.length c) ∧ Below w.heap.size w wv ∧ QTold none X.heap.size wv (l.eraseIdx I) A5 c5) (Rel := fun jx wv wv' => jx = 9 ∨ (jx = 10 ∧ ((∀ k, k ≠ w.heap.size + 2 → wv'.heap[k]? = wv.heap[k]?))) ∨ Below wv.heap.size wv wv') (by kernel_rfl) (by kernel_rfl) ⟨fun _ => HQ2b.out.on (Below.refl _ _).drew, fun _ => MsgAt.on HM3b.out (Below.refl _ _).drew, fun _ => HQ1b.out.on (Below.refl _ _).drew, HB1.out.trans ((Below.refl _ _).drew.mono HB1.out.size), HT5.out.on (Below.refl _ _).drew⟩ ?hmonop2 ?hdepp2 ⟨?s0_p2, ?s1_p2, ?s2_p2, ?s3_p2, ?s4_p2, ?s5_p2, ?s6_p2, ?s7_p2, ?s8_p2, ?s9_p2, ?s10_p2, ?s11_p2, trivial⟩ ?behindp2
  case hmonop2 =>
    intro ix jx u wv wv' hij hw hd hr
    rw [HVD.out]
    dsimp only
    split <;> intro h <;> first | exact trivial | exact h | (rcases hr with rfl | ⟨rfl, hpk⟩ | hb; (focus first | exact absurd rfl hij | (simp at hd; done) | (exact Bool.noConfusion (hw.symm.trans (show _ = true from by kernel_rfl)))); (focus first | exact absurd rfl hij | (simp at hd; done) | (exact (hpk _ (by omega)).trans h) | (exact Bool.noConfusion (hw.symm.trans (show _ = true from by kernel_rfl)))); (first | (exact h.on hb)))
  case hdepp2 =>
    intro ix u u' wv h1 h2
    rw [HVD.out]
    dsimp only
    split <;> intro h <;> first | exact trivial | (rw [← h1]; exact h) | exact h
  case s0_p2 =>
    refine oweP rfl fun a wx val L hG hi hW hV hN hO K hK => ?_
    have e2 : a.tmps[2]? = some (.pointer (some ⟨w.heap.size, 0, none⟩)) := (hO 2 (by kernel_rfl)).trans (by rfl)
    clear hV hN hO
    go_simp
    exact hK.out _ _ (by rw [Vp0, upd_at] <;> (congr 1 <;> omega)) (.inr (.inr (Below.refl _ _))) (⟨fun h => hG.1 (upL_false h), fun h => hG.2.1 (upL_false h), fun h => hG.2.2.1 (upL_false h), hG.2.2.2⟩)
  case s1_p2 =>
    refine oweP rfl fun a wx val L hG hi hW hV hN hO K hK => ?_
    have e19 := hN 0 19 (by kernel_rfl) (by kernel_rfl) (by simp)
    have f19 := hV 0 (by kernel_rfl) (by kernel_rfl)
    rw [Vp0] at f19; rw [f19] at e19; clear f19
    clear hV hN hO
    obtain ⟨v0, v1⟩ := (hG.2.2.1 (hW 10 (by kernel_rfl))).cells
    go_simp
    exact hK.out _ _ (by rw [Vp1, upd_at] <;> (congr 1 <;> omega)) (.inr (.inr (Below.refl _ _))) (⟨fun h => hG.1 (upL_false h), fun h => hG.2.1 (upL_false h), fun h => hG.2.2.1 (upL_false h), hG.2.2.2⟩)
  case s2_p2 =>
    refine oweP rfl fun a wx val L hG hi hW hV hN hO K hK => ?_
    have e7 : a.tmps[7]? = some (.slice A5 (l.eraseIdx I).length c5) := (hO 7 (by kernel_rfl)).trans (by rfl)
    clear hV hN hO
    go_simp
    exact hK.out _ _ (by rw [Vp2, upd_at] <;> (congr 1 <;> omega)) (.inr (.inr (Below.refl _ _))) (⟨fun h => hG.1 (upL_false h), fun h => hG.2.1 (upL_false h), fun h => hG.2.2.1 (upL_false h), hG.2.2.2⟩)
  case s3_p2 =>
    refine oweP rfl fun a wx val L hG hi hW hV hN hO K hK => ?_
    have e20 := hN 1 20 (by kernel_rfl) (by kernel_rfl) (by simp)
    have f20 := hV 1 (by kernel_rfl) (by kernel_rfl)
    rw [Vp1] at f20; rw [f20] at e20; clear f20
    have e21 := hN 2 21 (by kernel_rfl) (by kernel_rfl) (by simp)
    have f21 := hV 2 (by kernel_rfl) (by kernel_rfl)
    rw [Vp2] at f21; rw [f21] at e21; clear f21
    clear hV hN hO
    go_simp
    exact hK.out _ _ (by rw [Vp3, upd_at] <;> (congr 1 <;> omega)) (.inr (.inr (Below.refl _ _))) (⟨fun h => hG.1 (upL_false h), fun h => hG.2.1 (upL_false h), fun h => hG.2.2.1 (upL_false h), hG.2.2.2⟩)
  case s4_p2 =>
    refine oweP rfl fun a wx val L hG hi hW hV hN hO K hK => ?_
    have e2 : a.tmps[2]? = some (.pointer (some ⟨w.heap.size, 0, none⟩)) := (hO 2 (by kernel_rfl)).trans (by rfl)
    clear hV hN hO
    go_simp
    exact hK.out _ _ (by rw [Vp4, upd_at] <;> (congr 1 <;> omega)) (.inr (.inr (Below.refl _ _))) (⟨fun h => hG.1 (upL_false h), fun h => hG.2.1 (upL_false h), fun h => hG.2.2.1 (upL_false h), hG.2.2.2⟩)
  case s5_p2 =>
    refine oweP rfl fun a wx val L hG hi hW hV hN hO K hK => ?_
    have e23 := hN 4 23 (by kernel_rfl) (by kernel_rfl) (by simp)
    have f23 := hV 4 (by kernel_rfl) (by kernel_rfl)
    rw [Vp4] at f23; rw [f23] at e23; clear f23
    clear hV hN hO
    obtain ⟨v0, v1⟩ := (hG.2.2.1 (hW 10 (by kernel_rfl))).cells
    go_simp
    exact hK.out _ _ (by rw [Vp5, upd_at] <;> (congr 1 <;> omega)) (.inr (.inr (Below.refl _ _))) (⟨fun h => hG.1 (upL_false h), fun h => hG.2.1 (upL_false h), fun h => hG.2.2.1 (upL_false h), hG.2.2.2⟩)
  case s6_p2 =>
    refine oweP rfl fun a wx val L hG hi hW hV hN hO K hK => ?_
    have e1 : a.tmps[1]? = some (.int .i64 (I : Int)) := (hO 1 (by kernel_rfl)).trans (by rfl)
    clear hV hN hO
    go_simp
    exact hK.out _ _ (by rw [Vp6, upd_at] <;> (congr 1 <;> omega)) (.inr (.inr (Below.refl _ _))) (⟨fun h => hG.1 (upL_false h), fun h => hG.2.1 (upL_false h), fun h => hG.2.2.1 (upL_false h), hG.2.2.2⟩)
  case s7_p2 =>
    refine oweP rfl fun a wx val L hG hi hW hV hN hO K hK => ?_
    have e24 := hN 5 24 (by kernel_rfl) (by kernel_rfl) (by simp)
    have f24 := hV 5 (by kernel_rfl) (by kernel_rfl)
    rw [Vp5] at f24; rw [f24] at e24; clear f24
    have e25 := hN 6 25 (by kernel_rfl) (by kernel_rfl) (by simp)
    have f25 := hV 6 (by kernel_rfl) (by kernel_rfl)
    rw [Vp6] at f25; rw [f25] at e25; clear f25
    clear hV hN hO
    go_simp
    exact hK.out _ _ (by rw [Vp7, upd_at] <;> (congr 1 <;> omega)) (.inr (.inr (Below.refl _ _))) (⟨fun h => hG.1 (upL_false h), fun h => hG.2.1 (upL_false h), fun h => hG.2.2.1 (upL_false h), hG.2.2.2⟩)
  case s8_p2 =>
    refine oweP rfl fun a wx val L hG hi hW hV hN hO K hK => ?_
    have e26 := hN 7 26 (by kernel_rfl) (by kernel_rfl) (by simp)
    have f26 := hV 7 (by kernel_rfl) (by kernel_rfl)
    rw [Vp7] at f26; rw [f26] at e26; clear f26
    clear hV hN hO
    obtain ⟨x0, x1, x2, x3, x4, x5, x6⟩ := HC.out _ hG.2.2.2.1
    go_simp
    exact hK.out _ _ (by rw [Vp8, upd_at] <;> (congr 1 <;> omega)) (.inr (.inr (Below.refl _ _))) (⟨fun h => hG.1 (upL_false h), fun h => hG.2.1 (upL_false h), fun h => hG.2.2.1 (upL_false h), hG.2.2.2⟩)
  case s9_p2 =>
    refine oweP rfl fun a wx val L hG hi hW hV hN hO K hK => ?_
    have e4 : a.tmps[4]? = some (.pointer (some ⟨w.heap.size + 1, 0, none⟩)) := (hO 4 (by kernel_rfl)).trans (by rfl)
    have e22 := hN 3 22 (by kernel_rfl) (by kernel_rfl) (by simp)
    have f22 := hV 3 (by kernel_rfl) (by kernel_rfl)
    rw [Vp3] at f22; rw [f22] at e22; clear f22
    clear hV hN hO
    have hqa := hG.1 hi
    obtain ⟨v0, v1⟩ := hqa.cells
    have vf := hqa.frozen
    have hs3 := HSZ.out
    have hms := fun h => msg_far2 (hG.2.1 (upL_false (i := 9) h)) (b := w.heap.size + 1) (by omega) (.int .i64 LQ) (.slice A5 (l.eraseIdx I).length c5)
    have hqs := fun h => que_far2 (hG.2.2.1 (upL_false (i := 9) h)) (b := w.heap.size + 1) (by omega) (.int .i64 LQ) (.slice A5 (l.eraseIdx I).length c5)
    have hbs := below_set2 hG.2.2.2.1 (b := w.heap.size + 1) (by omega) (.int .i64 LQ) (.slice A5 (l.eraseIdx I).length c5)
    have hts := hG.2.2.2.2.far (b := w.heap.size) (W := (wx.setCell ⟨w.heap.size + 1, 0, none⟩ (.int .i64 LQ)).setCell ⟨w.heap.size + 1, 1, none⟩ (.slice A5 (l.eraseIdx I).length c5)) (fun ad e => by cases e) (by omega) (fun k hk1 hk2 => far2 wx _ _ hk1) (by rw [World.size_setCell, World.size_setCell])
    clear hs3
    go_simp
    exact hK.out undef _ (by rw [Vp9]; exact hqa.set LQ A5 (l.eraseIdx I).length c5) (.inl rfl) ⟨fun h => (upL_self h).elim, hms, hqs, hbs, hts⟩
  case s10_p2 =>
    refine oweP rfl fun a wx val L hG hi hW hV hN hO K hK => ?_
    have e5 : a.tmps[5]? = some (.pointer (some ⟨w.heap.size + 2, 0, none⟩)) := (hO 5 (by kernel_rfl)).trans (by rfl)
    have e27 := hN 8 27 (by kernel_rfl) (by kernel_rfl) (by simp)
    have f27 := hV 8 (by kernel_rfl) (by kernel_rfl)
    rw [Vp8] at f27; rw [f27] at e27; clear f27
    clear hV hN hO
    have hma := hG.2.1 hi
    obtain ⟨x0, x1, x2, x3, x4, x5, x6⟩ := hma.cells
    have xf := hma.frozen
    have hs3 := HSZ.out
    have hpk := fun k (hk : k ≠ w.heap.size + 2) => set7_far wx hk ⟨e1, n1, s1, i1, q1, k1, d1⟩
    have hts := hG.2.2.2.2.far (b := w.heap.size) (W := set7 wx (w.heap.size + 2) ⟨e1, n1, s1, i1, q1, k1, d1⟩) (fun ad e => by cases e) (by omega) (fun k hk1 hk2 => hpk k hk2) (set7_size _ _ _)
    have hqz := fun h => que_far7 (hG.1 (upL_false (i := 10) h)) (b := w.heap.size + 2) (by omega) ⟨e1, n1, s1, i1, q1, k1, d1⟩
    have hp7 := hma.set7 ⟨e1, n1, s1, i1, q1, k1, d1⟩
    have hb7 := below_set7 hG.2.2.2.1 (b := w.heap.size + 2) (by omega) ⟨e1, n1, s1, i1, q1, k1, d1⟩
    unfold set7 at hpk hp7 hb7 hts hqz
    clear hs3
    go_simp
    exact hK.out undef _ (by rw [Vp10]; exact hp7) (.inr (.inl ⟨rfl, hpk⟩)) ⟨hqz, fun h => (upL_self h).elim, fun h => (upL_self h).elim, hb7, hts⟩
  case s11_p2 =>
    refine oweP rfl fun a wx val L hG hi hW hV hN hO K hK => ?_
    clear hV hN hO
    go_simp
    exact hK.out _ _ (by rw [Vp11, upd_at] <;> (congr 1 <;> omega)) (.inr (.inr (Below.refl _ _))) (⟨fun h => hG.1 (upL_false h), fun h => hG.2.1 (upL_false h), fun h => hG.2.2.1 (upL_false h), hG.2.2.2⟩)
  intro val wx L hG hV
  have f0 := hV 0 (by simp) (fun _ _ => by simp)
  rw [Vp0] at f0
  have f1 := hV 1 (by simp) (fun _ _ => by simp)
  rw [Vp1] at f1
  have f2 := hV 2 (by simp) (fun _ _ => by simp)
  rw [Vp2] at f2
  have f3 := hV 3 (by simp) (fun _ _ => by simp)
  rw [Vp3] at f3
  have f4 := hV 4 (by simp) (fun _ _ => by simp)
  rw [Vp4] at f4
  have f5 := hV 5 (by simp) (fun _ _ => by simp)
  rw [Vp5] at f5
  have f6 := hV 6 (by simp) (fun _ _ => by simp)
  rw [Vp6] at f6
  have f7 := hV 7 (by simp) (fun _ _ => by simp)
  rw [Vp7] at f7
  have f8 := hV 8 (by simp) (fun _ _ => by simp)
  rw [Vp8] at f8
  have f9 := hV 9 (by simp) (fun _ _ => by simp)
  rw [Vp9] at f9
  have f10 := hV 10 (by simp) (fun _ _ => by simp)
  rw [Vp10] at f10
  have f11 := hV 11 (by simp) (fun _ _ => by simp)
  rw [Vp11] at f11
  clear hV Vp0 Vp1 Vp2 Vp3 Vp4 Vp5 Vp6 Vp7 Vp8 Vp9 Vp10 Vp11
  simp only [putAll, Act.put, List.setIfInBounds_toArray, List.set_cons_zero, List.set_cons_succ]
  generalize val 0 = z0 at *; (subst f0)
  generalize val 1 = z1 at *; (subst f1)
  generalize val 2 = z2 at *; (subst f2)
  generalize val 3 = z3 at *; (subst f3)
  generalize val 4 = z4 at *; (subst f4)
  generalize val 5 = z5 at *; (subst f5)
  generalize val 6 = z6 at *; (subst f6)
  generalize val 7 = z7 at *; (subst f7)
  generalize val 8 = z8 at *; (subst f8)
  generalize val 11 = z11 at *; (subst f11)
  clear HVD
  have HT9 : Hid (QTold none w.heap.size wx (l.eraseIdx I) A5 c5) := Lib.hid (hG.2.2.2.2.less (by have := HSZ.out; omega))
  have HB9 := Lib.hid hG.2.2.2.1
  have HQQ := Lib.hid f9
  have HMM := Lib.hid f10
  clear hG f9 f10
  go_wp2_with fail
  exact bodyPost_ret (qm_res Tryd.results65 HQQ.out HMM.out rfl rfl rfl) rfl ⟨_, _, rfl, HT9.out, HB9.out⟩

end Go.Proofs.YtehajmockicilaaDoor


/-
  The document's own order: Sort.
-/
import Derived.Test.YtehajmockicilaaDoorMsgApp
namespace Go.Proofs.YtehajmockicilaaDoor
open Go.RowKit

/-- Where a message belongs among the first k of some: behind the last one that it is not less than. -/
def placeM (m : Msg) (out : List Msg) : Nat → Nat
  | 0 => 0
  | k + 1 => if lessM m (out.getD k zeroM) = true then placeM m out k else k + 1
theorem placeM_le (m : Msg) (out : List Msg) (k : Nat) : placeM m out k ≤ k := by
  induction k with
  | zero => exact Nat.le_refl _
  | succ k ih => unfold placeM; split <;> omega
def insM (m : Msg) (out : List Msg) : List Msg := out.take (placeM m out out.length) ++ [m] ++ out.drop (placeM m out out.length)
/-- Some in order. -/
def sortL (l : List Msg) : List Msg := l.foldl (fun out m => if rightI m.ext m.n = true then insM m out else out) []
set_option maxRecDepth 100000 in
theorem insM_length (m : Msg) (out : List Msg) : (insM m out).length = out.length + 1 := by
  unfold insM
  have := placeM_le m out out.length
  simp [List.length_append, List.length_take, List.length_drop]
  omega
theorem sortL_snoc (l : List Msg) (m : Msg) : sortL (l ++ [m]) = if rightI m.ext m.n = true then insM m (sortL l) else sortL l := by
  unfold sortL; rw [List.foldl_append]; rfl
set_option maxRecDepth 100000 in
theorem sortL_length (l : List Msg) : (sortL l).length ≤ l.length := by
  suffices h : ∀ (l out : List Msg), (l.foldl (fun out m => if rightI m.ext m.n = true then insM m out else out) out).length ≤ out.length + l.length by
    have := h l []
    simpa [sortL] using this
  intro l
  induction l with
  | nil => intro out; simp
  | cons m l ih =>
    intro out
    rw [List.foldl_cons]
    refine Nat.le_trans (ih _) ?_
    split
    · rw [insM_length, List.length_cons]; omega
    · rw [List.length_cons]; omega
theorem sort_take (l : List Msg) (k : Nat) (m : Msg) (hm : l[k]? = some m) : sortL (l.take (k + 1)) = if rightI m.ext m.n = true then insM m (sortL (l.take k)) else sortL (l.take k) := by
  obtain ⟨hk, he⟩ := List.getElem?_eq_some_iff.1 hm
  rw [List.take_succ_eq_append_getElem hk, he, sortL_snoc]

set_option maxRecDepth 100000 in
/-- What stands behind the first k of some. -/
theorem run_dropM (A : Option Addr) (c : Nat) (l : List Msg) (hl : l.length ≤ c) (k : Nat) (hk : k ≤ l.length) : ∃ (A1 : Option Addr) (c1 : Nat), (∀ w B, Msgs w B A l → Msgs w B A1 (l.drop k)) ∧
    ∀ w, (Instr.slice 28 (.slice A l.length c) (some (.int .i64 (k : Int))) none none).run Tryd.prog w = .ok (.slice A1 (l.drop k).length c1) w := by
  refine ⟨if c = k then A else A.map (·.add (k * 7)), c - k, fun w B h hn => ?_, fun w => ?_⟩
  · rw [List.length_drop] at hn
    obtain ⟨ad, rfl, hb, hc⟩ := h (by omega)
    rw [if_neg (by omega)]
    refine ⟨_, rfl, by rw [adb]; exact hb, fun j m hm => ?_⟩
    rw [List.getElem?_drop] at hm
    have := hc _ m hm
    rw [Go.Deep.add_add, ← Nat.add_mul]
    exact this
  · have hu : Tryd.prog.underlying 28 = some (.slice (Tryd.prog.elem 28)) := by kernel_rfl
    have hs : ∀ w, (sizeOf (Tryd.prog.elem 28)).run Tryd.prog w = .ok 7 w := fun w => by
      obtain ⟨i0, hi, hz0, hz1, hz2⟩ := info_parts msg_info
      have he : Tryd.prog.elem 28 = 26 := by kernel_rfl
      rw [he]
      simp [sizeOf, typeInfo, hi, hz1]
    rw [run_slice_l w 28 A l.length c hu .i64 (k : Int) (by omega) (by omega), hs]
    simp only [Result.andThen, sliced, List.length_drop, Int.toNat_natCast]
set_option maxRecDepth 100000 in
theorem run_takeM (A : Option Addr) (c : Nat) (l : List Msg) (hl : l.length ≤ c) (k : Nat) (hk : k ≤ l.length) :
    ∀ w, (Instr.slice 28 (.slice A l.length c) none (some (.int .i64 (k : Int))) none).run Tryd.prog w = .ok (.slice A (l.take k).length c) w := by
  intro w
  have hu : Tryd.prog.underlying 28 = some (.slice (Tryd.prog.elem 28)) := by kernel_rfl
  have hs : ∀ w, (sizeOf (Tryd.prog.elem 28)).run Tryd.prog w = .ok 7 w := fun w => by
    obtain ⟨i0, hi, hz0, hz1, hz2⟩ := info_parts msg_info
    have he : Tryd.prog.elem 28 = 26 := by kernel_rfl
    rw [he]
    simp [sizeOf, typeInfo, hi, hz1]
  rw [run_slice_h w 28 A l.length c hu .i64 (k : Int) (by omega) (by omega), hs]
  have e : (l.take k).length = k := by rw [List.length_take]; omega
  rw [e]
  simp only [Result.andThen, sliced, Nat.zero_mul, Nat.sub_zero, Int.toNat_natCast]
  cases A <;> simp [Addr.add]
set_option maxRecDepth 100000 in
theorem Msgs.front {w : World} {B : Nat} {A : Option Addr} {l : List Msg} (h : Msgs w B A l) (n : Nat) : Msgs w B A (l.take n) := fun hn => by
  rw [List.length_take] at hn
  obtain ⟨ad, e, hb, hc⟩ := h (by omega)
  refine ⟨ad, e, hb, fun j x hx => hc j x ?_⟩
  have hj := (List.getElem?_eq_some_iff.1 hx).1
  rw [List.length_take] at hj
  rw [List.getElem?_take_of_lt (by omega)] at hx
  exact hx
theorem MsgAt.on {w w' : World} {g : Nat} {m : Msg} (h : MsgAt w g m) (hb : Below w.heap.size w w') : MsgAt w' g m :=
  (hb.block g (Array.getElem?_eq_some_iff.1 h).1).trans h
set_option maxRecDepth 100000 in
/-- One message that the call's own statement laid. -/
theorem Msgs.one {w : World} {g : Nat} {m : Msg} (h : MsgAt w g m) : Msgs w w.heap.size (some ⟨g, 0, none⟩) [m] := fun _ => by
  have hl := (Array.getElem?_eq_some_iff.1 h).1
  refine ⟨_, rfl, hl, fun j x hx => ?_⟩
  have hj : j < 1 := (List.getElem?_eq_some_iff.1 hx).1
  have ej : j = 0 := by omega
  subst ej
  have e : x = m := by simpa using hx.symm
  subst e
  obtain ⟨_, h0, h1, h2, h3, h4, h5, h6⟩ := Holds.of_blk h
  exact ⟨h0, h1, h2, h3, h4, h5, h6⟩

set_option maxRecDepth 100000 in
set_option maxHeartbeats 4000000 in
theorem refSort_any (A0 : Option Addr) (c0 B0 : Nat) (l : List Msg) (w : World) (h : Msgs w B0 A0 l) (hB0 : B0 ≤ w.heap.size) (hl : l.length ≤ 500) :
    Calls Tryd.prog 73 #[.slice A0 l.length c0] w fun e w' => ∃ u, e = .returned u ∧ OwnM w' w.heap.size u (sortL l) ∧ Below w.heap.size w w' := by
  go_enter Tryd.func73, Tryd.ntmps73
  go_wp2
  go_loopw [3, 4] (fun u i wr => ∃ k : Nat, k ≤ l.length ∧ i = .int .i64 k ∧ OwnM wr w.heap.size u (sortL (l.take k)) ∧ Below w.heap.size w wr) (fun _ i _ => l.length - (intOf i).toNat)
  case atStart => exact ⟨0, by omega, rfl, OwnM.nil _ _, Below.refl _ _⟩
  case round =>
    obtain ⟨k, hk, rfl, hrow, hb⟩ := hrel
    have hl0 := h.below hb hB0
    have HB := Lib.hid hb; clear hb
    have hol := sortL_length (l.take k)
    rw [List.length_take] at hol
    by_cases hlt : k < l.length
    · obtain ⟨m, hm⟩ : ∃ m, l[k]? = some m := ⟨_, List.getElem?_eq_getElem hlt⟩
      have hst := sort_take l k m hm
      obtain ⟨ad, rfl, hadb, hc⟩ := hl0 (by omega)
      have hcm := hc k m hm
      generalize sortL (l.take k) = out at *
      have hcr := fun w => refRight_any m.ext m.n w
      have HST := Lib.hid hst; clear hst
      have HROW := Lib.hid hrow; clear hrow
      have HCM := Lib.hid hcm
      have HM := Lib.hid hm; clear hm
      clear hc
      obtain ⟨x0, x1, x2, x3, x4, x5, x6⟩ := hcm
      cases hri : rightI m.ext m.n
      · rw [hri] at hcr
        have HRI := Lib.hid hri; clear hri
        go_wp2_with fail; refine (hcr _).mono ?_; rintro e w1 ⟨rfl, b1⟩
        have HO := Lib.hid (HROW.out.on b1)
        have HB1 := Lib.hid (HB.out.trans (b1.mono HB.out.size))
        clear b1 x0 x1 x2 x3 x4 x5 x6
        go_wp2_with fail
        go_roundw
        case rel => exact ⟨k + 1, by omega, by go_num, by rw [HST.out, HRI.out]; exact HO.out, HB1.out⟩
        case measure => simp [intOf]; omega
      · rw [hri] at hcr
        have HRI := Lib.hid hri; clear hri
        go_wp2_with fail; refine (hcr _).mono ?_; rintro e w1 ⟨rfl, b1⟩
        have HO := Lib.hid (HROW.out.on b1)
        have HB1 := Lib.hid (HB.out.trans (b1.mono HB.out.size))
        have HL1 := Lib.hid ((h.below HB.out hB0).below b1 (by have := HB.out.size; omega))
        clear b1 x0 x1 x2 x3 x4 x5 x6
        obtain ⟨A, c, rfl, hcap, hms⟩ := HO.out.row
        have HMS := Lib.hid hms; clear hms
        go_wp2_with fail
        have HCM1 := Lib.hid (HL1.out)
        have BW := Lib.hid (Below.refl w1.heap.size w1)
        go_loopw [5] (fun v wq => ∃ j : Nat, j ≤ out.length ∧ v = .int .i64 (j : Int) ∧ placeM m out out.length = placeM m out j ∧ Below w1.heap.size w1 wq) (fun v _ => (intOf v).toNat)
        case atStart => exact ⟨out.length, Nat.le_refl _, rfl, rfl, BW.out⟩
        case round =>
          generalize wr = wq at *
          obtain ⟨j, hj, rfl, hpl, hbq⟩ := hrel
          have HPL := Lib.hid hpl; clear hpl
          have HBQ := Lib.hid hbq; clear hbq
          rcases Nat.eq_zero_or_pos j with hj0 | hj0
          · have hj1 : (j : Int) ≤ 0 := by omega
            have hjd : decide (0 < j) = false := by simp; omega
            have HPJ : Hid (placeM m out out.length = j) := Lib.hid (by rw [HPL.out, hj0]; rfl)
            clear hj0
            obtain ⟨ad', e', hadw, hc1⟩ := (HL1.out.below HBQ.out (by have := HB1.out.size; omega)) (by omega)
            obtain rfl : ad = ad' := by injection e'
            have HXQ := Lib.hid (hc1 k m HM.out)
            have HADQ : Hid (ad.block < wq.heap.size) := Lib.hid (by have := HB1.out.size; have := HBQ.out.size; omega)
            have HK1 : Hid ((k : Int) < (l.length : Int) ∧ (0 : Int) ≤ k) := Lib.hid ⟨by omega, by omega⟩
            clear hc1 e' hadw
            go_wp2_with fail
            go_quiet (fail)
            go_wp2_with fail
            have hbz := below_drewN HBQ.out nq
            have hxz : At7 (wq.drewN nq) (ad.add (k * 7)) m := HXQ.out
            have hadz : ad.block < (wq.drewN nq).heap.size := HADQ.out
            generalize wq.drewN nq = Wz at *
            have HBZ := Lib.hid hbz; clear hbz
            have HXZ := Lib.hid hxz; clear hxz
            have HADZ := Lib.hid hadz; clear hadz
            have HP : Hid (j ≤ out.length) := Lib.hid (by omega)
            have HPE : Hid (insM m out = out.take j ++ [m] ++ out.drop j) := Lib.hid (by unfold insM; rw [HPJ.out])
            have HLT : Hid ((out.take j).length = j) := Lib.hid (by rw [List.length_take]; omega)
            have HLD : Hid ((out.drop j).length = out.length - j) := Lib.hid (by rw [List.length_drop])
            have KT := Lib.hid (run_takeM A c out hcap j (by omega))
            obtain ⟨A2, c2, hmd, hkd⟩ := run_dropM A c out hcap j (by omega)
            have KD := Lib.hid hkd; clear hkd
            have HMT := Lib.hid ((HMS.out.below HBZ.out (Nat.le_refl _)).more HBZ.out.size |>.front j)
            have HMD := Lib.hid (hmd _ _ ((HMS.out.below HBZ.out (Nat.le_refl _)).more HBZ.out.size)); clear hmd
            have HV : ∃ V : Nat → (Nat → Value) → World → Prop, V = (fun ix u wv => match ix with
              | 0 => u 0 = .slice A out.length c
              | 1 => u 1 = .int .i64 (j : Int)
              | 2 => u 2 = .slice A j c
              | 3 => OwnM wv Wz.heap.size (u 3) (out.take j)
              | 4 => u 4 = .slice (some ad) l.length c0
              | 5 => u 5 = .int .i64 (k : Int)
              | 6 => u 6 = .pointer (some (ad.add (k * 7)))
              | 7 => u 7 = .agg #[.bool m.ext, .int .i64 m.n, .int .i64 m.sender, .int .i64 m.inc, .int .i64 m.seq, .int .i64 m.number, .string m.data]
              | 8 => ∃ g, u 8 = .slice (some ⟨g, 0, none⟩) 1 1 ∧ Wz.heap.size ≤ g ∧ MsgAt wv g m
              | 9 => OwnM wv Wz.heap.size (u 9) (out.take j ++ [m])
              | 10 => u 10 = .slice A out.length c
              | 11 => u 11 = .int .i64 (j : Int)
              | 12 => u 12 = .slice A2 (out.length - j) c2
              | 13 => OwnM wv Wz.heap.size (u 13) (out.take j ++ [m] ++ out.drop j)
              | 14 => OwnM wv Wz.heap.size (u 14) (out.take j ++ [m] ++ out.drop j)
              | _ => True) := ⟨_, rfl⟩
            obtain ⟨V, hVdef⟩ := HV
            have V0 : ∀ u wv, V 0 u wv = (u 0 = .slice A out.length c) := fun u wv => by subst hVdef; rfl
            have V1 : ∀ u wv, V 1 u wv = (u 1 = .int .i64 (j : Int)) := fun u wv => by subst hVdef; rfl
            have V2 : ∀ u wv, V 2 u wv = (u 2 = .slice A j c) := fun u wv => by subst hVdef; rfl
            have V3 : ∀ u wv, V 3 u wv = (OwnM wv Wz.heap.size (u 3) (out.take j)) := fun u wv => by subst hVdef; rfl
            have V4 : ∀ u wv, V 4 u wv = (u 4 = .slice (some ad) l.length c0) := fun u wv => by subst hVdef; rfl
            have V5 : ∀ u wv, V 5 u wv = (u 5 = .int .i64 (k : Int)) := fun u wv => by subst hVdef; rfl
            have V6 : ∀ u wv, V 6 u wv = (u 6 = .pointer (some (ad.add (k * 7)))) := fun u wv => by subst hVdef; rfl
            have V7 : ∀ u wv, V 7 u wv = (u 7 = .agg #[.bool m.ext, .int .i64 m.n, .int .i64 m.sender, .int .i64 m.inc, .int .i64 m.seq, .int .i64 m.number, .string m.data]) := fun u wv => by subst hVdef; rfl
            have V8 : ∀ u wv, V 8 u wv = (∃ g, u 8 = .slice (some ⟨g, 0, none⟩) 1 1 ∧ Wz.heap.size ≤ g ∧ MsgAt wv g m) := fun u wv => by subst hVdef; rfl
            have V9 : ∀ u wv, V 9 u wv = (OwnM wv Wz.heap.size (u 9) (out.take j ++ [m])) := fun u wv => by subst hVdef; rfl
            have V10 : ∀ u wv, V 10 u wv = (u 10 = .slice A out.length c) := fun u wv => by subst hVdef; rfl
            have V11 : ∀ u wv, V 11 u wv = (u 11 = .int .i64 (j : Int)) := fun u wv => by subst hVdef; rfl
            have V12 : ∀ u wv, V 12 u wv = (u 12 = .slice A2 (out.length - j) c2) := fun u wv => by subst hVdef; rfl
            have V13 : ∀ u wv, V 13 u wv = (OwnM wv Wz.heap.size (u 13) (out.take j ++ [m] ++ out.drop j)) := fun u wv => by subst hVdef; rfl
            have V14 : ∀ u wv, V 14 u wv = (OwnM wv Wz.heap.size (u 14) (out.take j ++ [m] ++ out.drop j)) := fun u wv => by subst hVdef; rfl
            have HVD := Lib.hid hVdef
            clear hVdef
            refine region_each (V := V) (drop := fun jx ix => (jx == 9 && ix == 3) || (jx == 13 && ix == 3) || (jx == 9 && ix == 8) || (jx == 13 && ix == 8) || (jx == 13 && ix == 9)) (G := fun wv => Below Wz.heap.size Wz wv) (Rel := fun jx wv wv' => jx = 9 ∨ jx = 13 ∨ Below wv.heap.size wv wv') (by kernel_rfl) (by kernel_rfl) (Below.refl _ _).drew ?hmono21 ?hdep21 ⟨?s0_21, ?s1_21, ?s2_21, ?s3_21, ?s4_21, ?s5_21, ?s6_21, ?s7_21, ?s8_21, ?s9_21, ?s10_21, ?s11_21, ?s12_21, ?s13_21, ?s14_21, trivial⟩ ?behind21
            case hmono21 =>
              intro ix jx u wv wv' hij hw hd hr
              rw [HVD.out]
              dsimp only
              split <;> intro h <;> first | exact trivial | exact h | (rcases hr with rfl | rfl | hb <;> first | exact absurd rfl hij | (simp at hd; done) | exact h.on hb | (obtain ⟨g, e1, e2, e3⟩ := h; exact ⟨g, e1, e2, e3.on hb⟩) | (have ht := Eq.trans (Eq.symm hw) (by kernel_rfl : _ = true); cases ht))
            case hdep21 =>
              intro ix u u' wv h1 h2
              rw [HVD.out]
              dsimp only
              split <;> intro h <;> first | exact trivial | (rw [← h1]; exact h) | (obtain ⟨g, e1, e2⟩ := h; exact ⟨g, h1 ▸ e1, e2⟩)
            case s0_21 =>
              refine owe rfl fun a wx val hG hV hN hO K hK => ?_
              have e3 : a.tmps[3]? = some (.slice A out.length c) := (hO 3 (by kernel_rfl)).trans (by rfl)
              clear hV hN hO
              go_simp
              exact hK.out _ _ (by rw [V0, upd_at]) (.inr (.inr (Below.refl _ _))) hG
            case s1_21 =>
              refine owe rfl fun a wx val hG hV hN hO K hK => ?_
              have e5 : a.tmps[5]? = some (.int .i64 (j : Int)) := (hO 5 (by kernel_rfl)).trans (by rfl)
              clear hV hN hO
              go_simp
              exact hK.out _ _ (by rw [V1, upd_at]) (.inr (.inr (Below.refl _ _))) hG
            case s2_21 =>
              refine owe rfl fun a wx val hG hV hN hO K hK => ?_
              have e37 := hN 0 37 (by kernel_rfl) (by kernel_rfl) (by simp)
              have f37 := hV 0 (by kernel_rfl) (by kernel_rfl)
              rw [V0] at f37
              rw [f37] at e37; clear f37
              have e38 := hN 1 38 (by kernel_rfl) (by kernel_rfl) (by simp)
              have f38 := hV 1 (by kernel_rfl) (by kernel_rfl)
              rw [V1] at f38
              rw [f38] at e38; clear f38
              clear hV hN hO
              have kt := KT.out
              go_simp
              exact hK.out _ _ (by rw [V2, upd_at]) (.inr (.inr (Below.refl _ _))) hG
            case s3_21 =>
              refine owe rfl fun a wx val hG hV hN hO K hK => ?_
              have e39 := hN 2 39 (by kernel_rfl) (by kernel_rfl) (by simp)
              have f39 := hV 2 (by kernel_rfl) (by kernel_rfl)
              rw [V2] at f39
              rw [f39] at e39; clear f39
              clear hV hN hO
              refine wp_appM (.const (.slice none 0 0)) (.tmp 39) rfl wx.heap.size Wz.heap.size (.slice none 0 0) [] (out.take j) A c rfl (by rw [HLT.out]; simp [Act.eval, e39]) (OwnM.nil _ _) ((HMT.out).below hG (Nat.le_refl _)) (Nat.le_refl _) (by simp only [List.length_nil, List.length_take]; omega) ?_
              intro u3 w3 hown hgr
              have hb := OwnM.below (OwnM.nil wx wx.heap.size) hgr (Nat.le_refl _)
              exact hK.out _ _ (by rw [V3, upd_at]; rw [List.nil_append] at hown; exact hown.base hG.size) (.inr (.inr hb)) (hG.trans (hb.mono hG.size))
            case s4_21 =>
              refine owe rfl fun a wx val hG hV hN hO K hK => ?_
              have e0 : a.tmps[0]? = some (.slice (some ad) l.length c0) := (hO 0 (by kernel_rfl)).trans (by rfl)
              clear hV hN hO
              go_simp
              exact hK.out _ _ (by rw [V4, upd_at]) (.inr (.inr (Below.refl _ _))) hG
            case s5_21 =>
              refine owe rfl fun a wx val hG hV hN hO K hK => ?_
              have e4 : a.tmps[4]? = some (.int .i64 (k : Int)) := (hO 4 (by kernel_rfl)).trans (by rfl)
              clear hV hN hO
              go_simp
              exact hK.out _ _ (by rw [V5, upd_at]) (.inr (.inr (Below.refl _ _))) hG
            case s6_21 =>
              refine owe rfl fun a wx val hG hV hN hO K hK => ?_
              have e41 := hN 4 41 (by kernel_rfl) (by kernel_rfl) (by simp)
              have f41 := hV 4 (by kernel_rfl) (by kernel_rfl)
              rw [V4] at f41
              rw [f41] at e41; clear f41
              have e42 := hN 5 42 (by kernel_rfl) (by kernel_rfl) (by simp)
              have f42 := hV 5 (by kernel_rfl) (by kernel_rfl)
              rw [V5] at f42
              rw [f42] at e42; clear f42
              clear hV hN hO
              have hk1 := HK1.out.1
              have hk2 := HK1.out.2
              go_simp
              exact hK.out _ _ (by rw [V6, upd_at]) (.inr (.inr (Below.refl _ _))) hG
            case s7_21 =>
              refine owe rfl fun a wx val hG hV hN hO K hK => ?_
              have e43 := hN 6 43 (by kernel_rfl) (by kernel_rfl) (by simp)
              have f43 := hV 6 (by kernel_rfl) (by kernel_rfl)
              rw [V6] at f43
              rw [f43] at e43; clear f43
              clear hV hN hO
              obtain ⟨x0, x1, x2, x3, x4, x5, x6⟩ := HXZ.out.keep (fun q hq => hG.cell (by rw [hq, adb]; exact HADZ.out))
              go_simp
              exact hK.out _ _ (by rw [V7, upd_at]) (.inr (.inr (Below.refl _ _))) hG
            case s8_21 =>
              refine owe rfl fun a wx val hG hV hN hO K hK => ?_
              have e44 := hN 7 44 (by kernel_rfl) (by kernel_rfl) (by simp)
              have f44 := hV 7 (by kernel_rfl) (by kernel_rfl)
              rw [V7] at f44
              rw [f44] at e44; clear f44
              clear hV hN hO
              go_simp
              have hb := Joins.below_alloc1 wx (.cells (mc m) 26)
              exact hK.out _ _ (by rw [V8, upd_at]; exact ⟨_, rfl, hG.size, heap_alloc_new wx _⟩) (.inr (.inr hb)) (hG.trans (hb.mono hG.size))
            case s9_21 =>
              refine owe rfl fun a wx val hG hV hN hO K hK => ?_
              have e40 := hN 3 40 (by kernel_rfl) (by kernel_rfl) (by simp)
              have f40 := hV 3 (by kernel_rfl) (by kernel_rfl)
              rw [V3] at f40
              have hu3 := f40
              have e45 := hN 8 45 (by kernel_rfl) (by kernel_rfl) (by simp)
              have f45 := hV 8 (by kernel_rfl) (by kernel_rfl)
              rw [V8] at f45
              obtain ⟨g, hv, hg, hmg⟩ := f45; rw [hv] at e45
              clear hV hN hO
              refine wp_appM (.tmp 40) (.tmp 45) rfl Wz.heap.size wx.heap.size (val 3) (out.take j) [m] (some ⟨g, 0, none⟩) 1 (by simp [Act.eval, e40]) (by simp [Act.eval, e45]) hu3 (Msgs.one hmg) hG.size (by simp only [List.length_take, List.length_cons, List.length_nil]; omega) ?_
              intro u9 w9 hown hgr
              exact hK.out _ _ (by rw [V9, upd_at]; exact hown) (.inl rfl) (hG.trans (OwnM.below hu3 hgr hG.size))
            case s10_21 =>
              refine owe rfl fun a wx val hG hV hN hO K hK => ?_
              have e3 : a.tmps[3]? = some (.slice A out.length c) := (hO 3 (by kernel_rfl)).trans (by rfl)
              clear hV hN hO
              go_simp
              exact hK.out _ _ (by rw [V10, upd_at]) (.inr (.inr (Below.refl _ _))) hG
            case s11_21 =>
              refine owe rfl fun a wx val hG hV hN hO K hK => ?_
              have e5 : a.tmps[5]? = some (.int .i64 (j : Int)) := (hO 5 (by kernel_rfl)).trans (by rfl)
              clear hV hN hO
              go_simp
              exact hK.out _ _ (by rw [V11, upd_at]) (.inr (.inr (Below.refl _ _))) hG
            case s12_21 =>
              refine owe rfl fun a wx val hG hV hN hO K hK => ?_
              have e47 := hN 10 47 (by kernel_rfl) (by kernel_rfl) (by simp)
              have f47 := hV 10 (by kernel_rfl) (by kernel_rfl)
              rw [V10] at f47
              rw [f47] at e47; clear f47
              have e48 := hN 11 48 (by kernel_rfl) (by kernel_rfl) (by simp)
              have f48 := hV 11 (by kernel_rfl) (by kernel_rfl)
              rw [V11] at f48
              rw [f48] at e48; clear f48
              clear hV hN hO
              have kd := KD.out
              go_simp
              exact hK.out _ _ (by rw [V12, upd_at]) (.inr (.inr (Below.refl _ _))) hG
            case s13_21 =>
              refine owe rfl fun a wx val hG hV hN hO K hK => ?_
              have e46 := hN 9 46 (by kernel_rfl) (by kernel_rfl) (by simp)
              have f46 := hV 9 (by kernel_rfl) (by kernel_rfl)
              rw [V9] at f46
              have hu9 := f46
              have e49 := hN 12 49 (by kernel_rfl) (by kernel_rfl) (by simp)
              have f49 := hV 12 (by kernel_rfl) (by kernel_rfl)
              rw [V12] at f49
              rw [f49] at e49; clear f49
              clear hV hN hO
              refine wp_appM (.tmp 46) (.tmp 49) rfl Wz.heap.size Wz.heap.size (val 9) (out.take j ++ [m]) (out.drop j) A2 c2 (by simp [Act.eval, e46]) (by rw [HLD.out]; simp [Act.eval, e49]) hu9 (HMD.out.below hG (Nat.le_refl _)) hG.size (by simp only [List.length_append, List.length_take, List.length_drop, List.length_cons, List.length_nil]; omega) ?_
              intro u13 w13 hown hgr
              exact hK.out _ _ (by rw [V13, upd_at]; exact hown) (.inr (.inl rfl)) (hG.trans (OwnM.below hu9 hgr hG.size))
            case s14_21 =>
              refine owe rfl fun a wx val hG hV hN hO K hK => ?_
              have e50 := hN 13 50 (by kernel_rfl) (by kernel_rfl) (by simp)
              have f50 := hV 13 (by kernel_rfl) (by kernel_rfl)
              rw [V13] at f50
              have hu13 := f50
              clear hV hN hO
              go_simp
              exact hK.out _ _ (by rw [V14, upd_at]; exact hu13) (.inr (.inr (Below.refl _ _))) hG
            intro val wx hG hV
            have f0 := hV 0 (by simp) (fun _ _ => by simp)
            rw [V0] at f0
            have f1 := hV 1 (by simp) (fun _ _ => by simp)
            rw [V1] at f1
            have f2 := hV 2 (by simp) (fun _ _ => by simp)
            rw [V2] at f2
            have f4 := hV 4 (by simp) (fun _ _ => by simp)
            rw [V4] at f4
            have f5 := hV 5 (by simp) (fun _ _ => by simp)
            rw [V5] at f5
            have f6 := hV 6 (by simp) (fun _ _ => by simp)
            rw [V6] at f6
            have f7 := hV 7 (by simp) (fun _ _ => by simp)
            rw [V7] at f7
            have f10 := hV 10 (by simp) (fun _ _ => by simp)
            rw [V10] at f10
            have f11 := hV 11 (by simp) (fun _ _ => by simp)
            rw [V11] at f11
            have f12 := hV 12 (by simp) (fun _ _ => by simp)
            rw [V12] at f12
            have f13 := hV 13 (by simp) (fun _ _ => by simp)
            rw [V13] at f13
            have f14 := hV 14 (by simp) (fun _ _ => by simp)
            rw [V14] at f14
            clear hV V0 V1 V2 V3 V4 V5 V6 V7 V8 V9 V10 V11 V12 V13 V14
            simp only [putAll, Act.put, List.setIfInBounds_toArray, List.set_cons_zero, List.set_cons_succ]
            generalize val 0 = z0 at *; (subst f0)
            generalize val 1 = z1 at *; (subst f1)
            generalize val 2 = z2 at *; (subst f2)
            generalize val 4 = z4 at *; (subst f4)
            generalize val 5 = z5 at *; (subst f5)
            generalize val 6 = z6 at *; (subst f6)
            generalize val 7 = z7 at *; (subst f7)
            generalize val 10 = z10 at *; (subst f10)
            generalize val 11 = z11 at *; (subst f11)
            generalize val 12 = z12 at *; (subst f12)
            have HO14 := Lib.hid f14; clear f14
            have HBG := Lib.hid hG; clear hG
            go_wp2_with fail
            go_roundw
            case rel => exact ⟨k + 1, by omega, by go_num, by rw [HST.out, if_pos HRI.out, HPE.out]; exact HO14.out.base (by have := HB1.out.size; have := HBZ.out.size; omega), (HB1.out.trans (HBZ.out.mono HB1.out.size)).trans (HBG.out.mono (by have := HB1.out.size; have := HBZ.out.size; omega))⟩
            case measure => simp [intOf]; omega
          · obtain ⟨i, hji⟩ : ∃ i, j = i + 1 := ⟨j - 1, by omega⟩
            have HJ1 : Hid (decide (0 < j) = true) := Lib.hid (by simp; omega)
            have HJI := Lib.hid hji
            obtain ⟨y, hy⟩ : ∃ y, out[i]? = some y := ⟨_, List.getElem?_eq_getElem (by omega)⟩
            obtain ⟨ad2, rfl, had2, hc2⟩ := (HMS.out.below HBQ.out (Nat.le_refl _)) (by omega)
            obtain ⟨ad', e', _, hc1⟩ := (HL1.out.below HBQ.out (by have := HB1.out.size; omega)) (by omega)
            obtain rfl : ad = ad' := by injection e'
            have HX := Lib.hid (hc1 k m HM.out)
            have HY := Lib.hid (hc2 i y hy)
            have HAD2 : Hid (ad2.block < wq.heap.size) := Lib.hid (Nat.lt_of_lt_of_le had2 HBQ.out.size)
            have HADB : Hid (ad.block < wq.heap.size) := Lib.hid (by have := HB1.out.size; have := HBQ.out.size; omega)
            have HK1 : Hid ((k : Int) < (l.length : Int) ∧ (0 : Int) ≤ k) := Lib.hid ⟨by omega, by omega⟩
            have HK2 : Hid ((i : Int) < (out.length : Int) ∧ (0 : Int) ≤ i) := Lib.hid ⟨by omega, by omega⟩
            have EK : Hid (IntKind.i64.wrap (i : Int) = (i : Int)) := Lib.hid (IntWalk.i64_in _ (by omega))
            have EK2 : Hid ((j : Int) - 1 = (i : Int)) := Lib.hid (by omega)
            have cl := fun w => refLessM_any m y w
            have hgd : out.getD i zeroM = y := by rw [List.getD_eq_getElem?_getD, hy]; rfl
            have HST2 : Hid (placeM m out j = if lessM m y = true then placeM m out i else j) := Lib.hid (by rw [hji, ← hgd]; rfl)
            clear hc1 hc2 hy e' had2 hgd hji hj0
            generalize lessM m y = b at *
            simp only [mv] at cl
            go_wp2_with fail
            have HV : ∃ V : Nat → (Nat → Value) → World → Prop, V = (fun ix u wv => match ix with
              | 0 => u 0 = .int .i64 (j : Int)
              | 1 => u 1 = .bool true
              | 2 => u 2 = .bool true
              | 3 => u 3 = .slice (some ad) l.length c0
              | 4 => u 4 = .int .i64 (k : Int)
              | 5 => u 5 = .pointer (some (ad.add (k * 7)))
              | 6 => u 6 = .agg #[.bool m.ext, .int .i64 m.n, .int .i64 m.sender, .int .i64 m.inc, .int .i64 m.seq, .int .i64 m.number, .string m.data]
              | 7 => u 7 = .slice (some ad2) out.length c
              | 8 => u 8 = .int .i64 (j : Int)
              | 9 => u 9 = .int .i64 (i : Int)
              | 10 => u 10 = .pointer (some (ad2.add (i * 7)))
              | 11 => u 11 = .agg #[.bool y.ext, .int .i64 y.n, .int .i64 y.sender, .int .i64 y.inc, .int .i64 y.seq, .int .i64 y.number, .string y.data]
              | 12 => u 12 = .bool b
              | 13 => u 13 = .bool b
              | _ => True) := ⟨_, rfl⟩
            obtain ⟨V, hVdef⟩ := HV
            have V0 : ∀ u wv, V 0 u wv = (u 0 = .int .i64 (j : Int)) := fun u wv => by subst hVdef; rfl
            have V1 : ∀ u wv, V 1 u wv = (u 1 = .bool true) := fun u wv => by subst hVdef; rfl
            have V2 : ∀ u wv, V 2 u wv = (u 2 = .bool true) := fun u wv => by subst hVdef; rfl
            have V3 : ∀ u wv, V 3 u wv = (u 3 = .slice (some ad) l.length c0) := fun u wv => by subst hVdef; rfl
            have V4 : ∀ u wv, V 4 u wv = (u 4 = .int .i64 (k : Int)) := fun u wv => by subst hVdef; rfl
            have V5 : ∀ u wv, V 5 u wv = (u 5 = .pointer (some (ad.add (k * 7)))) := fun u wv => by subst hVdef; rfl
            have V6 : ∀ u wv, V 6 u wv = (u 6 = .agg #[.bool m.ext, .int .i64 m.n, .int .i64 m.sender, .int .i64 m.inc, .int .i64 m.seq, .int .i64 m.number, .string m.data]) := fun u wv => by subst hVdef; rfl
            have V7 : ∀ u wv, V 7 u wv = (u 7 = .slice (some ad2) out.length c) := fun u wv => by subst hVdef; rfl
            have V8 : ∀ u wv, V 8 u wv = (u 8 = .int .i64 (j : Int)) := fun u wv => by subst hVdef; rfl
            have V9 : ∀ u wv, V 9 u wv = (u 9 = .int .i64 (i : Int)) := fun u wv => by subst hVdef; rfl
            have V10 : ∀ u wv, V 10 u wv = (u 10 = .pointer (some (ad2.add (i * 7)))) := fun u wv => by subst hVdef; rfl
            have V11 : ∀ u wv, V 11 u wv = (u 11 = .agg #[.bool y.ext, .int .i64 y.n, .int .i64 y.sender, .int .i64 y.inc, .int .i64 y.seq, .int .i64 y.number, .string y.data]) := fun u wv => by subst hVdef; rfl
            have V12 : ∀ u wv, V 12 u wv = (u 12 = .bool b) := fun u wv => by subst hVdef; rfl
            have V13 : ∀ u wv, V 13 u wv = (u 13 = .bool b) := fun u wv => by subst hVdef; rfl
            have HVD := Lib.hid hVdef
            clear hVdef
            refine region_each (V := V) (drop := fun _ _ => false) (G := fun wv => Below wq.heap.size wq wv) (Rel := fun jx wv wv' => Below wv.heap.size wv wv') (by kernel_rfl) (by kernel_rfl) (Below.refl _ _).drew ?hmono11 ?hdep11 ⟨?s0_11, ?s1_11, ?s2_11, ?s3_11, ?s4_11, ?s5_11, ?s6_11, ?s7_11, ?s8_11, ?s9_11, ?s10_11, ?s11_11, ?s12_11, ?s13_11, trivial⟩ ?behind11
            case hmono11 =>
              intro ix jx u wv wv' hij hw hd hr
              rw [HVD.out]
              dsimp only
              split <;> intro h <;> first | exact trivial | exact h | (exact h)
            case hdep11 =>
              intro ix u u' wv h1 h2
              rw [HVD.out]
              dsimp only
              split <;> intro h <;> first | exact trivial | (rw [← h1]; exact h) | (exact h)
            case s0_11 =>
              refine owe rfl fun a wx val hG hV hN hO K hK => ?_
              have e5 : a.tmps[5]? = some (.int .i64 (j : Int)) := (hO 5 (by kernel_rfl)).trans (by rfl)
              clear hV hN hO
              go_simp
              exact hK.out _ _ (by rw [V0, upd_at]) (Below.refl _ _) hG
            case s1_11 =>
              refine owe rfl fun a wx val hG hV hN hO K hK => ?_
              have e21 := hN 0 21 (by kernel_rfl) (by kernel_rfl) (by simp)
              have f21 := hV 0 (by kernel_rfl) (by kernel_rfl)
              rw [V0] at f21
              rw [f21] at e21; clear f21
              clear hV hN hO
              go_simp
              exact hK.out _ _ (by rw [V1, upd_at, HJ1.out]) (Below.refl _ _) hG
            case s2_11 =>
              refine owe rfl fun a wx val hG hV hN hO K hK => ?_
              have e22 := hN 1 22 (by kernel_rfl) (by kernel_rfl) (by simp)
              have f22 := hV 1 (by kernel_rfl) (by kernel_rfl)
              rw [V1] at f22
              rw [f22] at e22; clear f22
              clear hV hN hO
              go_simp
              exact hK.out _ _ (by rw [V2, upd_at]) (Below.refl _ _) hG
            case s3_11 =>
              refine owe_if (g := 2) (t := 23) (b := true) rfl (by kernel_rfl) (by kernel_rfl) (by kernel_rfl) (by simp) (fun val w h => by rw [V2] at h; exact h) fun a wx val hG hV hN hO K hK => ?_
              have e0 : a.tmps[0]? = some (.slice (some ad) l.length c0) := (hO 0 (by kernel_rfl)).trans (by rfl)
              clear hV hN hO
              go_simp
              exact hK.out _ _ (by rw [V3, upd_at]) (Below.refl _ _) hG
            case s4_11 =>
              refine owe_if (g := 2) (t := 23) (b := true) rfl (by kernel_rfl) (by kernel_rfl) (by kernel_rfl) (by simp) (fun val w h => by rw [V2] at h; exact h) fun a wx val hG hV hN hO K hK => ?_
              have e4 : a.tmps[4]? = some (.int .i64 (k : Int)) := (hO 4 (by kernel_rfl)).trans (by rfl)
              clear hV hN hO
              go_simp
              exact hK.out _ _ (by rw [V4, upd_at]) (Below.refl _ _) hG
            case s5_11 =>
              refine owe_if (g := 2) (t := 23) (b := true) rfl (by kernel_rfl) (by kernel_rfl) (by kernel_rfl) (by simp) (fun val w h => by rw [V2] at h; exact h) fun a wx val hG hV hN hO K hK => ?_
              have e24 := hN 3 24 (by kernel_rfl) (by kernel_rfl) (by simp)
              have f24 := hV 3 (by kernel_rfl) (by kernel_rfl)
              rw [V3] at f24
              rw [f24] at e24; clear f24
              have e25 := hN 4 25 (by kernel_rfl) (by kernel_rfl) (by simp)
              have f25 := hV 4 (by kernel_rfl) (by kernel_rfl)
              rw [V4] at f25
              rw [f25] at e25; clear f25
              clear hV hN hO
              have hk1 := HK1.out.1
              have hk2 := HK1.out.2
              go_simp
              exact hK.out _ _ (by rw [V5, upd_at]) (Below.refl _ _) hG
            case s6_11 =>
              refine owe_if (g := 2) (t := 23) (b := true) rfl (by kernel_rfl) (by kernel_rfl) (by kernel_rfl) (by simp) (fun val w h => by rw [V2] at h; exact h) fun a wx val hG hV hN hO K hK => ?_
              have e26 := hN 5 26 (by kernel_rfl) (by kernel_rfl) (by simp)
              have f26 := hV 5 (by kernel_rfl) (by kernel_rfl)
              rw [V5] at f26
              rw [f26] at e26; clear f26
              clear hV hN hO
              obtain ⟨x0, x1, x2, x3, x4, x5, x6⟩ := HX.out.keep (fun q hq => hG.cell (by rw [hq, adb]; exact HADB.out))
              go_simp
              exact hK.out _ _ (by rw [V6, upd_at]) (Below.refl _ _) hG
            case s7_11 =>
              refine owe_if (g := 2) (t := 23) (b := true) rfl (by kernel_rfl) (by kernel_rfl) (by kernel_rfl) (by simp) (fun val w h => by rw [V2] at h; exact h) fun a wx val hG hV hN hO K hK => ?_
              have e3 : a.tmps[3]? = some (.slice (some ad2) out.length c) := (hO 3 (by kernel_rfl)).trans (by rfl)
              clear hV hN hO
              go_simp
              exact hK.out _ _ (by rw [V7, upd_at]) (Below.refl _ _) hG
            case s8_11 =>
              refine owe_if (g := 2) (t := 23) (b := true) rfl (by kernel_rfl) (by kernel_rfl) (by kernel_rfl) (by simp) (fun val w h => by rw [V2] at h; exact h) fun a wx val hG hV hN hO K hK => ?_
              have e5 : a.tmps[5]? = some (.int .i64 (j : Int)) := (hO 5 (by kernel_rfl)).trans (by rfl)
              clear hV hN hO
              go_simp
              exact hK.out _ _ (by rw [V8, upd_at]) (Below.refl _ _) hG
            case s9_11 =>
              refine owe_if (g := 2) (t := 23) (b := true) rfl (by kernel_rfl) (by kernel_rfl) (by kernel_rfl) (by simp) (fun val w h => by rw [V2] at h; exact h) fun a wx val hG hV hN hO K hK => ?_
              have e29 := hN 8 29 (by kernel_rfl) (by kernel_rfl) (by simp)
              have f29 := hV 8 (by kernel_rfl) (by kernel_rfl)
              rw [V8] at f29
              rw [f29] at e29; clear f29
              clear hV hN hO
              have ek := EK.out
              have ek2 := EK2.out
              go_simp
              exact hK.out _ _ (by rw [V9, upd_at]) (Below.refl _ _) hG
            case s10_11 =>
              refine owe_if (g := 2) (t := 23) (b := true) rfl (by kernel_rfl) (by kernel_rfl) (by kernel_rfl) (by simp) (fun val w h => by rw [V2] at h; exact h) fun a wx val hG hV hN hO K hK => ?_
              have e28 := hN 7 28 (by kernel_rfl) (by kernel_rfl) (by simp)
              have f28 := hV 7 (by kernel_rfl) (by kernel_rfl)
              rw [V7] at f28
              rw [f28] at e28; clear f28
              have e30 := hN 9 30 (by kernel_rfl) (by kernel_rfl) (by simp)
              have f30 := hV 9 (by kernel_rfl) (by kernel_rfl)
              rw [V9] at f30
              rw [f30] at e30; clear f30
              clear hV hN hO
              have hk1 := HK2.out.1
              have hk2 := HK2.out.2
              go_simp
              exact hK.out _ _ (by rw [V10, upd_at]) (Below.refl _ _) hG
            case s11_11 =>
              refine owe_if (g := 2) (t := 23) (b := true) rfl (by kernel_rfl) (by kernel_rfl) (by kernel_rfl) (by simp) (fun val w h => by rw [V2] at h; exact h) fun a wx val hG hV hN hO K hK => ?_
              have e31 := hN 10 31 (by kernel_rfl) (by kernel_rfl) (by simp)
              have f31 := hV 10 (by kernel_rfl) (by kernel_rfl)
              rw [V10] at f31
              rw [f31] at e31; clear f31
              clear hV hN hO
              obtain ⟨x0, x1, x2, x3, x4, x5, x6⟩ := HY.out.keep (fun q hq => hG.cell (by rw [hq, adb]; exact HAD2.out))
              go_simp
              exact hK.out _ _ (by rw [V11, upd_at]) (Below.refl _ _) hG
            case s12_11 =>
              refine owe_if (g := 2) (t := 23) (b := true) rfl (by kernel_rfl) (by kernel_rfl) (by kernel_rfl) (by simp) (fun val w h => by rw [V2] at h; exact h) fun a wx val hG hV hN hO K hK => ?_
              have e27 := hN 6 27 (by kernel_rfl) (by kernel_rfl) (by simp)
              have f27 := hV 6 (by kernel_rfl) (by kernel_rfl)
              rw [V6] at f27
              rw [f27] at e27; clear f27
              have e32 := hN 11 32 (by kernel_rfl) (by kernel_rfl) (by simp)
              have f32 := hV 11 (by kernel_rfl) (by kernel_rfl)
              rw [V11] at f32
              rw [f32] at e32; clear f32
              clear hV hN hO
              go_simp
              refine (cl _).mono ?_
              rintro e w3 ⟨rfl, hb⟩
              exact hK.out _ _ (by rw [V12, upd_at]) hb (hG.trans (hb.mono hG.size))
            case s13_11 =>
              refine owe rfl fun a wx val hG hV hN hO K hK => ?_
              have e23 := hN 2 23 (by kernel_rfl) (by kernel_rfl) (by simp)
              have f23 := hV 2 (by kernel_rfl) (by kernel_rfl)
              rw [V2] at f23
              rw [f23] at e23; clear f23
              have e33 := hN 12 33 (by kernel_rfl) (by kernel_rfl) (by simp)
              have f33 := hV 12 (by kernel_rfl) (by kernel_rfl)
              rw [V12] at f33
              rw [f33] at e33; clear f33
              clear hV hN hO
              go_simp
              exact hK.out _ _ (by rw [V13, upd_at]) (Below.refl _ _) hG
            intro val wx hG hV
            have f0 := hV 0 (by simp) (fun _ _ => by rfl)
            rw [V0] at f0
            have f1 := hV 1 (by simp) (fun _ _ => by rfl)
            rw [V1] at f1
            have f2 := hV 2 (by simp) (fun _ _ => by rfl)
            rw [V2] at f2
            have f3 := hV 3 (by simp) (fun _ _ => by rfl)
            rw [V3] at f3
            have f4 := hV 4 (by simp) (fun _ _ => by rfl)
            rw [V4] at f4
            have f5 := hV 5 (by simp) (fun _ _ => by rfl)
            rw [V5] at f5
            have f6 := hV 6 (by simp) (fun _ _ => by rfl)
            rw [V6] at f6
            have f7 := hV 7 (by simp) (fun _ _ => by rfl)
            rw [V7] at f7
            have f8 := hV 8 (by simp) (fun _ _ => by rfl)
            rw [V8] at f8
            have f9 := hV 9 (by simp) (fun _ _ => by rfl)
            rw [V9] at f9
            have f10 := hV 10 (by simp) (fun _ _ => by rfl)
            rw [V10] at f10
            have f11 := hV 11 (by simp) (fun _ _ => by rfl)
            rw [V11] at f11
            have f12 := hV 12 (by simp) (fun _ _ => by rfl)
            rw [V12] at f12
            have f13 := hV 13 (by simp) (fun _ _ => by rfl)
            rw [V13] at f13
            clear hV V0 V1 V2 V3 V4 V5 V6 V7 V8 V9 V10 V11 V12 V13
            simp only [putAll, Act.put, List.setIfInBounds_toArray, List.set_cons_zero, List.set_cons_succ]
            generalize val 0 = z0 at *; (subst f0)
            generalize val 1 = z1 at *; (subst f1)
            generalize val 2 = z2 at *; (subst f2)
            generalize val 3 = z3 at *; (subst f3)
            generalize val 4 = z4 at *; (subst f4)
            generalize val 5 = z5 at *; (subst f5)
            generalize val 6 = z6 at *; (subst f6)
            generalize val 7 = z7 at *; (subst f7)
            generalize val 8 = z8 at *; (subst f8)
            generalize val 9 = z9 at *; (subst f9)
            generalize val 10 = z10 at *; (subst f10)
            generalize val 11 = z11 at *; (subst f11)
            generalize val 12 = z12 at *; (subst f12)
            generalize val 13 = z13 at *; (subst f13)
            have HB7 := Lib.hid hG; clear hG
            cases b
            · go_wp2_with fail
              have HPJ : Hid (placeM m out out.length = j) := Lib.hid (by rw [HPL.out, HST2.out]; rfl)
              have hbz := HBQ.out.trans (HB7.out.mono HBQ.out.size)
              have hxz := HX.out.keep (fun q hq => HB7.out.cell (by rw [hq, adb]; exact HADB.out))
              have hadz := Nat.lt_of_lt_of_le HADB.out HB7.out.size
              generalize wx = Wz at *
              have HBZ := Lib.hid hbz; clear hbz
              have HXZ := Lib.hid hxz; clear hxz
              have HADZ := Lib.hid hadz; clear hadz
              have HP : Hid (j ≤ out.length) := Lib.hid (by omega)
              have HPE : Hid (insM m out = out.take j ++ [m] ++ out.drop j) := Lib.hid (by unfold insM; rw [HPJ.out])
              have HLT : Hid ((out.take j).length = j) := Lib.hid (by rw [List.length_take]; omega)
              have HLD : Hid ((out.drop j).length = out.length - j) := Lib.hid (by rw [List.length_drop])
              have KT := Lib.hid (run_takeM (some ad2) c out hcap j (by omega))
              obtain ⟨A2, c2, hmd, hkd⟩ := run_dropM (some ad2) c out hcap j (by omega)
              have KD := Lib.hid hkd; clear hkd
              have HMT := Lib.hid ((HMS.out.below HBZ.out (Nat.le_refl _)).more HBZ.out.size |>.front j)
              have HMD := Lib.hid (hmd _ _ ((HMS.out.below HBZ.out (Nat.le_refl _)).more HBZ.out.size)); clear hmd
              have HV : ∃ V : Nat → (Nat → Value) → World → Prop, V = (fun ix u wv => match ix with
                | 0 => u 0 = .slice (some ad2) out.length c
                | 1 => u 1 = .int .i64 (j : Int)
                | 2 => u 2 = .slice (some ad2) j c
                | 3 => OwnM wv Wz.heap.size (u 3) (out.take j)
                | 4 => u 4 = .slice (some ad) l.length c0
                | 5 => u 5 = .int .i64 (k : Int)
                | 6 => u 6 = .pointer (some (ad.add (k * 7)))
                | 7 => u 7 = .agg #[.bool m.ext, .int .i64 m.n, .int .i64 m.sender, .int .i64 m.inc, .int .i64 m.seq, .int .i64 m.number, .string m.data]
                | 8 => ∃ g, u 8 = .slice (some ⟨g, 0, none⟩) 1 1 ∧ Wz.heap.size ≤ g ∧ MsgAt wv g m
                | 9 => OwnM wv Wz.heap.size (u 9) (out.take j ++ [m])
                | 10 => u 10 = .slice (some ad2) out.length c
                | 11 => u 11 = .int .i64 (j : Int)
                | 12 => u 12 = .slice A2 (out.length - j) c2
                | 13 => OwnM wv Wz.heap.size (u 13) (out.take j ++ [m] ++ out.drop j)
                | 14 => OwnM wv Wz.heap.size (u 14) (out.take j ++ [m] ++ out.drop j)
                | _ => True) := ⟨_, rfl⟩
              obtain ⟨V, hVdef⟩ := HV
              have V0 : ∀ u wv, V 0 u wv = (u 0 = .slice (some ad2) out.length c) := fun u wv => by subst hVdef; rfl
              have V1 : ∀ u wv, V 1 u wv = (u 1 = .int .i64 (j : Int)) := fun u wv => by subst hVdef; rfl
              have V2 : ∀ u wv, V 2 u wv = (u 2 = .slice (some ad2) j c) := fun u wv => by subst hVdef; rfl
              have V3 : ∀ u wv, V 3 u wv = (OwnM wv Wz.heap.size (u 3) (out.take j)) := fun u wv => by subst hVdef; rfl
              have V4 : ∀ u wv, V 4 u wv = (u 4 = .slice (some ad) l.length c0) := fun u wv => by subst hVdef; rfl
              have V5 : ∀ u wv, V 5 u wv = (u 5 = .int .i64 (k : Int)) := fun u wv => by subst hVdef; rfl
              have V6 : ∀ u wv, V 6 u wv = (u 6 = .pointer (some (ad.add (k * 7)))) := fun u wv => by subst hVdef; rfl
              have V7 : ∀ u wv, V 7 u wv = (u 7 = .agg #[.bool m.ext, .int .i64 m.n, .int .i64 m.sender, .int .i64 m.inc, .int .i64 m.seq, .int .i64 m.number, .string m.data]) := fun u wv => by subst hVdef; rfl
              have V8 : ∀ u wv, V 8 u wv = (∃ g, u 8 = .slice (some ⟨g, 0, none⟩) 1 1 ∧ Wz.heap.size ≤ g ∧ MsgAt wv g m) := fun u wv => by subst hVdef; rfl
              have V9 : ∀ u wv, V 9 u wv = (OwnM wv Wz.heap.size (u 9) (out.take j ++ [m])) := fun u wv => by subst hVdef; rfl
              have V10 : ∀ u wv, V 10 u wv = (u 10 = .slice (some ad2) out.length c) := fun u wv => by subst hVdef; rfl
              have V11 : ∀ u wv, V 11 u wv = (u 11 = .int .i64 (j : Int)) := fun u wv => by subst hVdef; rfl
              have V12 : ∀ u wv, V 12 u wv = (u 12 = .slice A2 (out.length - j) c2) := fun u wv => by subst hVdef; rfl
              have V13 : ∀ u wv, V 13 u wv = (OwnM wv Wz.heap.size (u 13) (out.take j ++ [m] ++ out.drop j)) := fun u wv => by subst hVdef; rfl
              have V14 : ∀ u wv, V 14 u wv = (OwnM wv Wz.heap.size (u 14) (out.take j ++ [m] ++ out.drop j)) := fun u wv => by subst hVdef; rfl
              have HVD := Lib.hid hVdef
              clear hVdef
              refine region_each (V := V) (drop := fun jx ix => (jx == 9 && ix == 3) || (jx == 13 && ix == 3) || (jx == 9 && ix == 8) || (jx == 13 && ix == 8) || (jx == 13 && ix == 9)) (G := fun wv => Below Wz.heap.size Wz wv) (Rel := fun jx wv wv' => jx = 9 ∨ jx = 13 ∨ Below wv.heap.size wv wv') (by kernel_rfl) (by kernel_rfl) (Below.refl _ _).drew ?hmono31 ?hdep31 ⟨?s0_31, ?s1_31, ?s2_31, ?s3_31, ?s4_31, ?s5_31, ?s6_31, ?s7_31, ?s8_31, ?s9_31, ?s10_31, ?s11_31, ?s12_31, ?s13_31, ?s14_31, trivial⟩ ?behind31
              case hmono31 =>
                intro ix jx u wv wv' hij hw hd hr
                rw [HVD.out]
                dsimp only
                split <;> intro h <;> first | exact trivial | exact h | (rcases hr with rfl | rfl | hb <;> first | exact absurd rfl hij | (simp at hd; done) | exact h.on hb | (obtain ⟨g, e1, e2, e3⟩ := h; exact ⟨g, e1, e2, e3.on hb⟩) | (have ht := Eq.trans (Eq.symm hw) (by kernel_rfl : _ = true); cases ht))
              case hdep31 =>
                intro ix u u' wv h1 h2
                rw [HVD.out]
                dsimp only
                split <;> intro h <;> first | exact trivial | (rw [← h1]; exact h) | (obtain ⟨g, e1, e2⟩ := h; exact ⟨g, h1 ▸ e1, e2⟩)
              case s0_31 =>
                refine owe rfl fun a wx val hG hV hN hO K hK => ?_
                have e3 : a.tmps[3]? = some (.slice (some ad2) out.length c) := (hO 3 (by kernel_rfl)).trans (by rfl)
                clear hV hN hO
                go_simp
                exact hK.out _ _ (by rw [V0, upd_at]) (.inr (.inr (Below.refl _ _))) hG
              case s1_31 =>
                refine owe rfl fun a wx val hG hV hN hO K hK => ?_
                have e5 : a.tmps[5]? = some (.int .i64 (j : Int)) := (hO 5 (by kernel_rfl)).trans (by rfl)
                clear hV hN hO
                go_simp
                exact hK.out _ _ (by rw [V1, upd_at]) (.inr (.inr (Below.refl _ _))) hG
              case s2_31 =>
                refine owe rfl fun a wx val hG hV hN hO K hK => ?_
                have e37 := hN 0 37 (by kernel_rfl) (by kernel_rfl) (by simp)
                have f37 := hV 0 (by kernel_rfl) (by kernel_rfl)
                rw [V0] at f37
                rw [f37] at e37; clear f37
                have e38 := hN 1 38 (by kernel_rfl) (by kernel_rfl) (by simp)
                have f38 := hV 1 (by kernel_rfl) (by kernel_rfl)
                rw [V1] at f38
                rw [f38] at e38; clear f38
                clear hV hN hO
                have kt := KT.out
                go_simp
                exact hK.out _ _ (by rw [V2, upd_at]) (.inr (.inr (Below.refl _ _))) hG
              case s3_31 =>
                refine owe rfl fun a wx val hG hV hN hO K hK => ?_
                have e39 := hN 2 39 (by kernel_rfl) (by kernel_rfl) (by simp)
                have f39 := hV 2 (by kernel_rfl) (by kernel_rfl)
                rw [V2] at f39
                rw [f39] at e39; clear f39
                clear hV hN hO
                refine wp_appM (.const (.slice none 0 0)) (.tmp 39) rfl wx.heap.size Wz.heap.size (.slice none 0 0) [] (out.take j) (some ad2) c rfl (by rw [HLT.out]; simp [Act.eval, e39]) (OwnM.nil _ _) ((HMT.out).below hG (Nat.le_refl _)) (Nat.le_refl _) (by simp only [List.length_nil, List.length_take]; omega) ?_
                intro u3 w3 hown hgr
                have hb := OwnM.below (OwnM.nil wx wx.heap.size) hgr (Nat.le_refl _)
                exact hK.out _ _ (by rw [V3, upd_at]; rw [List.nil_append] at hown; exact hown.base hG.size) (.inr (.inr hb)) (hG.trans (hb.mono hG.size))
              case s4_31 =>
                refine owe rfl fun a wx val hG hV hN hO K hK => ?_
                have e0 : a.tmps[0]? = some (.slice (some ad) l.length c0) := (hO 0 (by kernel_rfl)).trans (by rfl)
                clear hV hN hO
                go_simp
                exact hK.out _ _ (by rw [V4, upd_at]) (.inr (.inr (Below.refl _ _))) hG
              case s5_31 =>
                refine owe rfl fun a wx val hG hV hN hO K hK => ?_
                have e4 : a.tmps[4]? = some (.int .i64 (k : Int)) := (hO 4 (by kernel_rfl)).trans (by rfl)
                clear hV hN hO
                go_simp
                exact hK.out _ _ (by rw [V5, upd_at]) (.inr (.inr (Below.refl _ _))) hG
              case s6_31 =>
                refine owe rfl fun a wx val hG hV hN hO K hK => ?_
                have e41 := hN 4 41 (by kernel_rfl) (by kernel_rfl) (by simp)
                have f41 := hV 4 (by kernel_rfl) (by kernel_rfl)
                rw [V4] at f41
                rw [f41] at e41; clear f41
                have e42 := hN 5 42 (by kernel_rfl) (by kernel_rfl) (by simp)
                have f42 := hV 5 (by kernel_rfl) (by kernel_rfl)
                rw [V5] at f42
                rw [f42] at e42; clear f42
                clear hV hN hO
                have hk1 := HK1.out.1
                have hk2 := HK1.out.2
                go_simp
                exact hK.out _ _ (by rw [V6, upd_at]) (.inr (.inr (Below.refl _ _))) hG
              case s7_31 =>
                refine owe rfl fun a wx val hG hV hN hO K hK => ?_
                have e43 := hN 6 43 (by kernel_rfl) (by kernel_rfl) (by simp)
                have f43 := hV 6 (by kernel_rfl) (by kernel_rfl)
                rw [V6] at f43
                rw [f43] at e43; clear f43
                clear hV hN hO
                obtain ⟨x0, x1, x2, x3, x4, x5, x6⟩ := HXZ.out.keep (fun q hq => hG.cell (by rw [hq, adb]; exact HADZ.out))
                go_simp
                exact hK.out _ _ (by rw [V7, upd_at]) (.inr (.inr (Below.refl _ _))) hG
              case s8_31 =>
                refine owe rfl fun a wx val hG hV hN hO K hK => ?_
                have e44 := hN 7 44 (by kernel_rfl) (by kernel_rfl) (by simp)
                have f44 := hV 7 (by kernel_rfl) (by kernel_rfl)
                rw [V7] at f44
                rw [f44] at e44; clear f44
                clear hV hN hO
                go_simp
                have hb := Joins.below_alloc1 wx (.cells (mc m) 26)
                exact hK.out _ _ (by rw [V8, upd_at]; exact ⟨_, rfl, hG.size, heap_alloc_new wx _⟩) (.inr (.inr hb)) (hG.trans (hb.mono hG.size))
              case s9_31 =>
                refine owe rfl fun a wx val hG hV hN hO K hK => ?_
                have e40 := hN 3 40 (by kernel_rfl) (by kernel_rfl) (by simp)
                have f40 := hV 3 (by kernel_rfl) (by kernel_rfl)
                rw [V3] at f40
                have hu3 := f40
                have e45 := hN 8 45 (by kernel_rfl) (by kernel_rfl) (by simp)
                have f45 := hV 8 (by kernel_rfl) (by kernel_rfl)
                rw [V8] at f45
                obtain ⟨g, hv, hg, hmg⟩ := f45; rw [hv] at e45
                clear hV hN hO
                refine wp_appM (.tmp 40) (.tmp 45) rfl Wz.heap.size wx.heap.size (val 3) (out.take j) [m] (some ⟨g, 0, none⟩) 1 (by simp [Act.eval, e40]) (by simp [Act.eval, e45]) hu3 (Msgs.one hmg) hG.size (by simp only [List.length_take, List.length_cons, List.length_nil]; omega) ?_
                intro u9 w9 hown hgr
                exact hK.out _ _ (by rw [V9, upd_at]; exact hown) (.inl rfl) (hG.trans (OwnM.below hu3 hgr hG.size))
              case s10_31 =>
                refine owe rfl fun a wx val hG hV hN hO K hK => ?_
                have e3 : a.tmps[3]? = some (.slice (some ad2) out.length c) := (hO 3 (by kernel_rfl)).trans (by rfl)
                clear hV hN hO
                go_simp
                exact hK.out _ _ (by rw [V10, upd_at]) (.inr (.inr (Below.refl _ _))) hG
              case s11_31 =>
                refine owe rfl fun a wx val hG hV hN hO K hK => ?_
                have e5 : a.tmps[5]? = some (.int .i64 (j : Int)) := (hO 5 (by kernel_rfl)).trans (by rfl)
                clear hV hN hO
                go_simp
                exact hK.out _ _ (by rw [V11, upd_at]) (.inr (.inr (Below.refl _ _))) hG
              case s12_31 =>
                refine owe rfl fun a wx val hG hV hN hO K hK => ?_
                have e47 := hN 10 47 (by kernel_rfl) (by kernel_rfl) (by simp)
                have f47 := hV 10 (by kernel_rfl) (by kernel_rfl)
                rw [V10] at f47
                rw [f47] at e47; clear f47
                have e48 := hN 11 48 (by kernel_rfl) (by kernel_rfl) (by simp)
                have f48 := hV 11 (by kernel_rfl) (by kernel_rfl)
                rw [V11] at f48
                rw [f48] at e48; clear f48
                clear hV hN hO
                have kd := KD.out
                go_simp
                exact hK.out _ _ (by rw [V12, upd_at]) (.inr (.inr (Below.refl _ _))) hG
              case s13_31 =>
                refine owe rfl fun a wx val hG hV hN hO K hK => ?_
                have e46 := hN 9 46 (by kernel_rfl) (by kernel_rfl) (by simp)
                have f46 := hV 9 (by kernel_rfl) (by kernel_rfl)
                rw [V9] at f46
                have hu9 := f46
                have e49 := hN 12 49 (by kernel_rfl) (by kernel_rfl) (by simp)
                have f49 := hV 12 (by kernel_rfl) (by kernel_rfl)
                rw [V12] at f49
                rw [f49] at e49; clear f49
                clear hV hN hO
                refine wp_appM (.tmp 46) (.tmp 49) rfl Wz.heap.size Wz.heap.size (val 9) (out.take j ++ [m]) (out.drop j) A2 c2 (by simp [Act.eval, e46]) (by rw [HLD.out]; simp [Act.eval, e49]) hu9 (HMD.out.below hG (Nat.le_refl _)) hG.size (by simp only [List.length_append, List.length_take, List.length_drop, List.length_cons, List.length_nil]; omega) ?_
                intro u13 w13 hown hgr
                exact hK.out _ _ (by rw [V13, upd_at]; exact hown) (.inr (.inl rfl)) (hG.trans (OwnM.below hu9 hgr hG.size))
              case s14_31 =>
                refine owe rfl fun a wx val hG hV hN hO K hK => ?_
                have e50 := hN 13 50 (by kernel_rfl) (by kernel_rfl) (by simp)
                have f50 := hV 13 (by kernel_rfl) (by kernel_rfl)
                rw [V13] at f50
                have hu13 := f50
                clear hV hN hO
                go_simp
                exact hK.out _ _ (by rw [V14, upd_at]; exact hu13) (.inr (.inr (Below.refl _ _))) hG
              intro val wx hG hV
              have f0 := hV 0 (by simp) (fun _ _ => by simp)
              rw [V0] at f0
              have f1 := hV 1 (by simp) (fun _ _ => by simp)
              rw [V1] at f1
              have f2 := hV 2 (by simp) (fun _ _ => by simp)
              rw [V2] at f2
              have f4 := hV 4 (by simp) (fun _ _ => by simp)
              rw [V4] at f4
              have f5 := hV 5 (by simp) (fun _ _ => by simp)
              rw [V5] at f5
              have f6 := hV 6 (by simp) (fun _ _ => by simp)
              rw [V6] at f6
              have f7 := hV 7 (by simp) (fun _ _ => by simp)
              rw [V7] at f7
              have f10 := hV 10 (by simp) (fun _ _ => by simp)
              rw [V10] at f10
              have f11 := hV 11 (by simp) (fun _ _ => by simp)
              rw [V11] at f11
              have f12 := hV 12 (by simp) (fun _ _ => by simp)
              rw [V12] at f12
              have f13 := hV 13 (by simp) (fun _ _ => by simp)
              rw [V13] at f13
              have f14 := hV 14 (by simp) (fun _ _ => by simp)
              rw [V14] at f14
              clear hV V0 V1 V2 V3 V4 V5 V6 V7 V8 V9 V10 V11 V12 V13 V14
              simp only [putAll, Act.put, List.setIfInBounds_toArray, List.set_cons_zero, List.set_cons_succ]
              generalize val 0 = z0 at *; (subst f0)
              generalize val 1 = z1 at *; (subst f1)
              generalize val 2 = z2 at *; (subst f2)
              generalize val 4 = z4 at *; (subst f4)
              generalize val 5 = z5 at *; (subst f5)
              generalize val 6 = z6 at *; (subst f6)
              generalize val 7 = z7 at *; (subst f7)
              generalize val 10 = z10 at *; (subst f10)
              generalize val 11 = z11 at *; (subst f11)
              generalize val 12 = z12 at *; (subst f12)
              have HO14 := Lib.hid f14; clear f14
              have HBG := Lib.hid hG; clear hG
              go_wp2_with fail
              go_roundw
              case rel => exact ⟨k + 1, by omega, by go_num, by rw [HST.out, if_pos HRI.out, HPE.out]; exact HO14.out.base (by have := HB1.out.size; have := HBZ.out.size; omega), (HB1.out.trans (HBZ.out.mono HB1.out.size)).trans (HBG.out.mono (by have := HB1.out.size; have := HBZ.out.size; omega))⟩
              case measure => simp [intOf]; omega
            · go_wp2_with fail
              go_roundw
              case rel => exact ⟨i, by have := HJI.out; omega, by rw [EK2.out], by rw [HPL.out, HST2.out, if_pos rfl], HBQ.out.trans (HB7.out.mono HBQ.out.size)⟩
              case measure => have := HJI.out; simp [intOf]; omega
    · have ek : k = l.length := by omega
      subst ek
      rw [List.take_length] at hrow
      go_wp2_with fail
      go_ret
      exact ⟨_, rfl, hrow, HB.out⟩

end Go.Proofs.YtehajmockicilaaDoor

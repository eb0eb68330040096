/-
  The law FifoRoom, walked.
-/
import Derived.Test.YtehajmockicilaaDoorFifTaken
namespace Go.Proofs.YtehajmockicilaaDoor
open Go Go.RowKit

theorem right_one {L T : Int} {m : Msg} (h1 : 1 ≤ L) (h2 : L ≤ 32) (h3 : 0 ≤ T) (h4 : T ≤ 65535) (hm : rightM m = true) : rightFi L T [m] = true :=
  (rightFi_iff _ _ _).2 ⟨⟨h1, h2⟩, by simp; omega, ⟨h3, h4⟩, fun x hx => by rw [List.mem_singleton.1 hx]; exact hm⟩
theorem right_small {L T : Int} {l : List Msg} (h : rightFi L T l = true) : l.length ≤ 32 := by
  obtain ⟨h1, h2, _⟩ := (rightFi_iff _ _ _).1 h
  omega

set_option maxRecDepth 100000 in
set_option maxHeartbeats 8000000 in
theorem fifoRoom_walk (lim lost : Int) (A : Option Addr) (c : Nat) (rs : List Raw) (hlim : (Lit.int .i64 lim).wf = true) (hlost : (Lit.int .i64 lost).wf = true)
    (w : World) (L : Laid w) (f2 : RowsOk w A c rs) :
    Calls Tryd.prog 5 #[.int .i64 lim, .int .i64 lost, .slice A rs.length c] w fun e w' => e = .returned (.bool true) ∧ Below w.heap.size w w' := by
  have HRW := Lib.hid f2
  have HRS := Lib.hid f2.1
  have HWF := Lib.hid f2.2.2
  have hlc := f2.2.1.1
  have hcm := f2.2.1.2
  unfold maxLen at hcm
  have HLW := Lib.hid L
  have cA := fun W LL => fiAwake_any W LL
  have hpl := pickI_range lim 32 (by omega)
  have hpt := pickI_range lost 65536 (by omega)
  have HCQ : Hid (∀ W, RowsOk W A c rs → Calls Tryd.prog 14 #[.int .i64 lim, .int .i64 lost, .slice A rs.length c] W fun e w' => ∃ A' c', e = .returned (fiv (1 + pickI lim 32) (pickI lost 65536) A' (fiL (1 + pickI lim 32) rs).length c') ∧ QTold none W.heap.size w' (fiL (1 + pickI lim 32) rs) A' c' ∧ Below W.heap.size W w') := Lib.hid (fun W h => rawFi_any lim lost hlim hlost A c rs W h)
  have hfr := fiL_right (L := 1 + pickI lim 32) (T := pickI lost 65536) rs (by omega) (by omega) (by omega) (by omega)
  have hfd : ∀ m ∈ fiL (1 + pickI lim 32) rs, m.data.size ≤ 140737488351232 := map_data fdT _
  generalize fiL (1 + pickI lim 32) rs = l at *
  have hL32 : 1 ≤ 1 + pickI lim 32 ∧ 1 + pickI lim 32 ≤ 32 := by omega
  have hTT : 0 ≤ pickI lost 65536 ∧ pickI lost 65536 ≤ 65535 := by omega
  generalize 1 + pickI lim 32 = LQ at *
  generalize pickI lost 65536 = T at *
  have HFL := Lib.hid (right_small hfr)
  have HFD := Lib.hid hfd
  have HFR := Lib.hid hfr
  have HLL := Lib.hid hL32
  have HTT := Lib.hid hTT
  clear hpl hpt hfr hfd hL32 hTT hlim hlost L f2
  go_enter Tryd.func5, Tryd.ntmps5
  go_wp2_with fail; refine (cA _ HLW.out).mono ?_; rintro e w1 ⟨rfl, b1⟩
  have HB := Lib.hid b1
  have cq := HCQ.out w1 (rowsOk_on HRW.out b1)
  clear b1 cA HCQ
  go_wp2_with fail; refine cq.mono ?_; rintro e w2 ⟨A8, c8, rfl, ht, b2⟩
  clear cq
  have hi := ht.qin (by have := HFL.out; omega) HFD.out
  have hb := Joins.below_alloc1 w2 (.cells #[.int .i64 LQ, .int .i64 T, .slice A8 l.length c8] 30)
  have HF := Lib.hid (FVar.new (L := LQ) (T := T) hi)
  have hb2 := b2.trans (hb.mono b2.size)
  have HS8 : Hid (w.heap.size ≤ w2.heap.size) := Lib.hid (Nat.le_trans HB.out.size b2.size)
  have HB1 := Lib.hid (HB.out.trans (Below.mono hb2 HB.out.size)); clear HB; have HB := HB1; clear HB1
  clear ht hi hb b2 hb2
  go_upto_region 3 with (fail)
  generalize w2.alloc (.cells #[.int .i64 LQ, .int .i64 T, .slice A8 l.length c8] 30) = W2 at *
  generalize w2.heap.size = b8 at *
  obtain ⟨A9, c9, hfa, hfi⟩ := HF.out
  obtain ⟨y0, y1, y2⟩ := hfa.cells
  clear hfa hfi
  go_upto_region 4 with (fail)
  clear y0 y1 y2
  go_wp2_with fail
  go_loopw [10, 11, 12, 13, 14, 15, 16, 17] (fun i _ _ _ _ _ _ _ wr => ∃ k : Nat, k ≤ rs.length ∧ k ≤ 40 ∧ i = .int .i64 k ∧ (∃ lf, FVar wr b8 LQ T lf ∧ rightFi LQ T lf = true) ∧ Below w.heap.size w wr) (fun i _ _ _ _ _ _ _ _ => 40 - (intOf i).toNat)
  case atStart => exact ⟨0, by omega, by omega, rfl, ⟨l, HF.out, HFR.out⟩, HB.out⟩
  case round =>
    clear HF HB HFL HFD HFR
    obtain ⟨k, hk, hk40, rfl, ⟨lf, hvf, hrf⟩, hbo⟩ := hrel
    generalize wr = wo at *
    have HVF := Lib.hid hvf
    have HRF := Lib.hid hrf
    have HBO := Lib.hid hbo
    clear hvf hrf hbo
    by_cases hgo : k < rs.length ∧ k < 40
    · obtain ⟨hlt, hlt40⟩ := hgo
      have hltI : (k : Int) < (rs.length : Int) := by omega
      have hlt40I : (k : Int) < 40 := by omega
      go_upto_region 7 with (fail)
      go_loopw [11, 12, 13] (fun _ _ _ wr => (∃ lf, FVar wr b8 LQ T lf ∧ rightFi LQ T lf = true) ∧ Below w.heap.size w wr) (fun _ _ _ wr => fiLen wr b8)
      case atStart => exact ⟨⟨lf, HVF.out, HRF.out⟩, HBO.out⟩
      case round =>
        clear HVF HRF HBO
        obtain ⟨⟨l2, hv, hr2⟩, hb⟩ := hrel
        have HML := Lib.hid hv.len
        have HV := Lib.hid hv
        have HBR := Lib.hid hb
        have HR2 := Lib.hid hr2
        obtain ⟨A9, c9, hfa, hfi⟩ := hv
        obtain ⟨y0, y1, y2⟩ := hfa.cells
        cases l2 with
        | nil =>
          simp only [List.length_nil] at y2
          clear hfa hfi hb hr2
          obtain ⟨r, hr⟩ : ∃ r, rs[k]? = some r := ⟨_, List.getElem?_eq_getElem hlt⟩
          have hwr := HWF.out k r hr
          obtain ⟨ad, rfl, hadb, hcc⟩ := HRS.out (by omega)
          obtain ⟨x0, x1, x2, x3, x4, x5⟩ : At6 wr (ad.add (k * 6)) r := (hcc k r hr).keep fun q hq => HBR.out.cell (by rw [hq, adb]; exact hadb)
          have cm := fun W => rmsg_any r hwr fdT (by decide) W
          have hmr := rmsg_right fdT r
          have hmd := rmsg_data fdT r
          clear hcc hwr hr
          generalize rmsg fdT r = m at *
          obtain ⟨he0, hh0, ht0, hl0⟩ := off_room (L := LQ) (T := T) (l := []) (m := m) HR2.out hmr (by simp; have := HLL.out; omega)
          have HCO : Hid (∀ A9 c9 AF W, Laid W → QIn W A9 c9 [] → LieIn W AF [(m.ext, 0, 0)] → Calls Tryd.prog 25 #[fiv LQ T A9 0 c9, mv m, .slice AF 1 1] W (FiIn LQ T [m] 1 0 W)) := Lib.hid (fun A9 c9 AF W h1 h2 h3 => by
            have h := offer_in LQ T A9 c9 [] m AF 1 [(m.ext, 0, 0)] W h1 h2 (by simp) (by omega) h3 (by simp)
            rw [any_open (rightM_ident hmr), he0, hh0, ht0, hl0] at h
            exact h)
          have HRM : Hid (rightFi LQ T [m] = true) := Lib.hid (right_one HLL.out.1 HLL.out.2 HTT.out.1 HTT.out.2 hmr)
          clear he0 hh0 ht0 hl0 hmr hmd
          obtain ⟨e1, n1, s1, i1, q1, k1, d1⟩ := m
          obtain ⟨r0, r1, r2, r3, r4, r5⟩ := r
          simp only [mv, fdT] at *
          go_wp2_with fail; refine (cm _).mono ?_; rintro e w3 ⟨rfl, b3⟩
          have hbm := Joins.below_alloc1 w3 (.cells #[.bool e1, .int .i64 n1, .int .i64 s1, .int .i64 i1, .int .i64 q1, .int .i64 k1, .string d1] 26)
          have hb3 := b3.trans (hbm.mono b3.size)
          have HM : Hid (MsgAt _ w3.heap.size ⟨e1, n1, s1, i1, q1, k1, d1⟩) := Lib.hid (MsgAt.new w3 ⟨e1, n1, s1, i1, q1, k1, d1⟩)
          have HV1 := Lib.hid (HV.out.on hb3); clear HV; have HV := HV1; clear HV1
          have HB := Lib.hid (HBR.out.trans (hb3.mono HBR.out.size))
          clear b3 hbm hb3 cm x0 x1 x2 x3 x4 x5 y0 y1 y2 HBR
          go_upto_region 13 with (fail)
          generalize w3.alloc (.cells #[.bool e1, .int .i64 n1, .int .i64 s1, .int .i64 i1, .int .i64 q1, .int .i64 k1, .string d1] 26) = W3 at *
          generalize w3.heap.size = b14 at *
          have hbf := Joins.below_alloc1 W3 (.cells #[.bool e1, .int .i64 0, .int .i64 0] 58)
          have hlie : LieIn (W3.alloc (.cells #[.bool e1, .int .i64 0, .int .i64 0] 58)) (some ⟨W3.heap.size, 0, none⟩) [(e1, 0, 0)] := LieIn.one (heap_alloc_new W3 _)
          obtain ⟨A9, c9, hfa, hfi⟩ := HV.out
          obtain ⟨y0, y1, y2⟩ := hfa.cells
          obtain ⟨x0, x1, x2, x3, x4, x5, x6⟩ := HM.out.cells
          simp only [List.length_nil] at y2
          have hpc := HCO.out A9 c9 (some ⟨W3.heap.size, 0, none⟩) (W3.alloc (.cells #[.bool e1, .int .i64 0, .int .i64 0] 58)) (HLW.out.below (HB.out.trans (hbf.mono HB.out.size))) (hfi.on hbf) hlie
          clear hlie hfi hfa
          have HV1 := Lib.hid (HV.out.on hbf); clear HV; have HV := HV1; clear HV1
          have HM1 : Hid (MsgAt _ _ _) := Lib.hid (MsgAt.on HM.out hbf); clear HM; have HM := HM1; clear HM1
          have HB1 := Lib.hid (HB.out.trans (Below.mono hbf HB.out.size)); clear HB; have HB := HB1; clear HB1
          clear hbf
          go_wp2_with fail
          generalize W3.alloc (.cells #[.bool e1, .int .i64 0, .int .i64 0] 58) = W4 at *
          refine hpc.mono ?_; rintro e w5 ⟨A5, c5, rfl, hi5, b5⟩
          clear y0 y1 y2 x0 x1 x2 x3 x4 x5 x6 hpc HCO
          have HV1 := Lib.hid (HV.out.on b5); clear HV; have HV := HV1; clear HV1
          have HB1 := Lib.hid (HB.out.trans (Below.mono b5 HB.out.size)); clear HB; have HB := HB1; clear HB1
          have hb := Joins.below_alloc1 w5 (.cells #[.int .i64 LQ, .int .i64 T, .slice A5 1 c5] 30)
          have HG : Hid (FiAt (w5.alloc (.cells #[.int .i64 LQ, .int .i64 T, .slice A5 1 c5] 30)) w5.heap.size LQ T A5 1 c5) := Lib.hid (FiAt.new w5 LQ T A5 1 c5)
          have HI := Lib.hid (hi5.on hb)
          have HV1 := Lib.hid (HV.out.on hb); clear HV; have HV := HV1; clear HV1
          have HB1 := Lib.hid (HB.out.trans (Below.mono hb HB.out.size)); clear HB; have HB := HB1; clear HB1
          clear b5 hb hi5 HM
          go_upto_region 14 with (fail)
          generalize w5.alloc (.cells #[.int .i64 LQ, .int .i64 T, .slice A5 1 c5] 30) = W6 at *
          generalize w5.heap.size = b15 at *
          go_upto_region 16 with (fail)
          have hbb : w.heap.size ≤ b8 := HS8.out
          obtain ⟨A9, c9, hfa, hfi⟩ := HV.out
          have HRL : Hid (FVar (set3 W6 b8 (.int .i64 LQ) (.int .i64 T) (.slice A5 1 c5)) b8 LQ T [⟨e1, n1, s1, i1, q1, k1, d1⟩] ∧ Below w.heap.size w (set3 W6 b8 (.int .i64 LQ) (.int .i64 T) (.slice A5 1 c5))) := Lib.hid ⟨⟨A5, c5, hfa.set LQ T A5 1 c5, HI.out.farF hfa _ _ _⟩, below_set3 HB.out hbb _ _ _⟩
          obtain ⟨y0, y1, y2⟩ := hfa.cells
          have yf := hfa.frozen
          obtain ⟨z0, z1, z2⟩ := HG.out.cells
          clear hbb hfa hfi
          go_wp2_with fail
          go_roundw
          case rel => exact ⟨k + 1, by omega, by omega, by go_num, ⟨_, HRL.out.1, HRM.out⟩, HRL.out.2⟩
          case measure => simp [intOf]; omega
        | cons x tl =>
          have HFI := Lib.hid hfi
          have HFA := Lib.hid hfa
          obtain ⟨hE, hM, hL, hrt⟩ := take_cons hr2
          have hpc := take_in LQ T A9 c9 (x :: tl) wr (HLW.out.below hb) hfi
          rw [hE, hM, hL] at hpc
          have HRT := Lib.hid hrt
          obtain ⟨n2, hn2⟩ : ∃ n2 : Nat, n2 = tl.length := ⟨_, rfl⟩
          obtain ⟨n, hn⟩ : ∃ n : Nat, n = n2 + 1 := ⟨_, rfl⟩
          have hxl : (x :: tl).length = n := by rw [List.length_cons, ← hn2, hn]
          rw [hxl] at hpc y2
          have hnp : (0 : Int) < (n : Int) := by omega
          have hw1 : IntKind.i64.wrap ((n : Int) - 1) = (n2 : Int) := by rw [show (n : Int) - 1 = (n2 : Int) by omega]; exact IntWalk.i64_in _ (by have := hfi.few; rw [hxl] at this; omega)
          have HN2 := Lib.hid hn2
          have HNN := Lib.hid hxl
          clear hE hM hL hrt hn2 hn hxl hfa hfi hb hr2
          obtain ⟨f1, g1, t1, j1, p1, u1, v1⟩ := x
          go_wp2_with fail; refine hpc.mono ?_; rintro e w9 ⟨A5, c5, rfl, hi5, b5⟩
          have hba := Joins.below_alloc1 w9 (.cells #[.int .i64 LQ, .int .i64 T, .slice A5 tl.length c5] 30)
          have hbb := Joins.below_alloc1 (w9.alloc (.cells #[.int .i64 LQ, .int .i64 T, .slice A5 tl.length c5] 30)) (.cells #[.bool f1, .int .i64 g1, .int .i64 t1, .int .i64 j1, .int .i64 p1, .int .i64 u1, .string v1] 26)
          have hab := hba.trans (hbb.mono hba.size)
          have hall := b5.trans (hab.mono b5.size)
          have HQ19 := Lib.hid ((FiAt.new w9 LQ T A5 tl.length c5).on hbb)
          have HI19 := Lib.hid (hi5.on hab)
          have HQ15 := Lib.hid (HFA.out.on hall)
          have HB9 := Lib.hid (HBR.out.trans (hall.mono HBR.out.size))
          clear hba hbb hab hall hi5 b5 y0 y1 y2 hpc HV HBR HFA HFI
          go_upto_region 9 with (fail)
          generalize (w9.alloc (.cells #[.int .i64 LQ, .int .i64 T, .slice A5 tl.length c5] 30)).alloc (.cells #[.bool f1, .int .i64 g1, .int .i64 t1, .int .i64 j1, .int .i64 p1, .int .i64 u1, .string v1] 26) = W at *
          generalize w9.heap.size = b19 at *
          obtain ⟨y0, y1, y2⟩ := HQ15.out.cells
          obtain ⟨z0, z1, z2⟩ := HQ19.out.cells
          rw [HNN.out] at y2
          rw [← HN2.out] at z2
          go_upto_region 11 with (fail)
          have hbb : w.heap.size ≤ b8 := HS8.out
          have HRL : Hid (FVar (set3 W b8 (.int .i64 LQ) (.int .i64 T) (.slice A5 tl.length c5)) b8 LQ T tl ∧ Below w.heap.size w (set3 W b8 (.int .i64 LQ) (.int .i64 T) (.slice A5 tl.length c5))) := Lib.hid ⟨⟨A5, c5, HQ15.out.set LQ T A5 tl.length c5, HI19.out.farF HQ15.out _ _ _⟩, below_set3 HB9.out hbb _ _ _⟩
          clear y0 y1 y2 z0 z1 z2 hbb
          obtain ⟨y0, y1, y2⟩ := HQ15.out.cells
          have yf := HQ15.out.frozen
          obtain ⟨z0, z1, z2⟩ := HQ19.out.cells
          go_wp2_with fail
          go_roundw
          case rel => exact ⟨⟨tl, HRL.out.1, HRT.out⟩, HRL.out.2⟩
          case measure => rw [HML.out, HRL.out.1.len, List.length_cons]; omega
    · by_cases hlt : (k : Int) < (rs.length : Int)
      · have hlt40I : ¬ (k : Int) < 40 := fun h => hgo ⟨by omega, by omega⟩
        clear hgo
        have cm0 := fun W => rmsg_any ⟨0, 0, 0, 0, 0, 0⟩ ⟨rfl, rfl, rfl, rfl, rfl, rfl⟩ ⟨#[]⟩ (by decide) W
        have hm0 := rmsg_right ⟨#[]⟩ ⟨0, 0, 0, 0, 0, 0⟩
        have hd0 := rmsg_data ⟨#[]⟩ ⟨0, 0, 0, 0, 0, 0⟩
        have cm1 := fun W => rmsg_any ⟨1, 1, 1, 1, 1, 1⟩ ⟨rfl, rfl, rfl, rfl, rfl, rfl⟩ ⟨#[120]⟩ (by decide) W
        have hm1 := rmsg_right ⟨#[120]⟩ ⟨1, 1, 1, 1, 1, 1⟩
        have hd1 := rmsg_data ⟨#[120]⟩ ⟨1, 1, 1, 1, 1, 1⟩
        generalize rmsg ⟨#[]⟩ ⟨0, 0, 0, 0, 0, 0⟩ = m0 at *
        generalize rmsg ⟨#[120]⟩ ⟨1, 1, 1, 1, 1, 1⟩ = m at *
        have hr1 : rightFi 1 T [m0] = true := right_one (by omega) (by omega) HTT.out.1 HTT.out.2 hm0
        obtain ⟨he0, hh0, ht0, hl0⟩ := off_full hr1 hm1 (by simp)
        have HCO : Hid (∀ A9 c9 AF W, Laid W → QIn W A9 c9 [m0] → LieIn W AF [(m.ext, 0, 0)] → Calls Tryd.prog 25 #[fiv 1 T A9 1 c9, mv m, .slice AF 1 1] W (FiIn 1 (min (T + 1) 65535) [m0] 2 0 W)) := Lib.hid (fun A9 c9 AF W h1 h2 h3 => by
          have h := offer_in 1 T A9 c9 [m0] m AF 1 [(m.ext, 0, 0)] W h1 h2 (by simp) (by omega) h3 (by simp)
          rw [any_open (rightM_ident hm1), he0, hh0, ht0, hl0] at h
          exact h)
        have HD0 : Hid (m0.data.size ≤ 140737488351232) := Lib.hid (by omega)
        clear he0 hh0 ht0 hl0 hm0 hm1 hd0 hd1 hr1
        have HSA : Hid (∀ A1 A2 c1 c2 W, Msgs W W.heap.size A1 [m0] → Msgs W W.heap.size A2 [m0] → Calls Tryd.prog 28 #[.slice A1 1 c1, .slice A2 1 c2] W fun e w' => e = .returned (.bool true) ∧ ∃ n, w' = W.drewN n) := Lib.hid (fun A1 A2 c1 c2 W h1 h2 => by
          have h := same_any A1 A2 c1 c2 _ _ [m0] [m0] W h1 h2 (by simp [maxLen])
          rw [(sameL_iff _ _).2 rfl] at h
          exact h)
        obtain ⟨e1, n1, s1, i1, q1, k1, d1⟩ := m
        obtain ⟨f1, g1, t1, j1, p1, u1, v1⟩ := m0
        simp only [mv] at cm0 cm1
        go_wp2_with fail; refine (cm0 _).mono ?_; rintro e w3 ⟨rfl, b3⟩
        have hb1 := Joins.below_alloc1 w3 (.cells #[.bool f1, .int .i64 g1, .int .i64 t1, .int .i64 j1, .int .i64 p1, .int .i64 u1, .string v1] 26)
        have hb2 := Joins.below_alloc1 (w3.alloc (.cells #[.bool f1, .int .i64 g1, .int .i64 t1, .int .i64 j1, .int .i64 p1, .int .i64 u1, .string v1] 26)) (.cells #[.int .i64 1, .int .i64 T, .slice (some ⟨w3.heap.size, 0, none⟩) 1 1] 30)
        have hg0 : MsgAt (w3.alloc (.cells #[.bool f1, .int .i64 g1, .int .i64 t1, .int .i64 j1, .int .i64 p1, .int .i64 u1, .string v1] 26)) w3.heap.size ⟨f1, g1, t1, j1, p1, u1, v1⟩ := MsgAt.new w3 ⟨f1, g1, t1, j1, p1, u1, v1⟩
        have hin := QIn.one hg0 HD0.out
        have HK := Lib.hid (FVar.new (L := 1) (T := T) hin)
        have hb12 := hb1.trans (hb2.mono hb1.size)
        have hball := b3.trans (hb12.mono b3.size)
        have HV1 := Lib.hid (HVF.out.on hball)
        have HB := Lib.hid (HBO.out.trans (hball.mono HBO.out.size))
        clear b3 hb1 hb2 hg0 hin hb12 hball cm0 HVF HBO
        simp only [List.length_cons, List.length_nil, Nat.zero_add] at HK
        go_upto_region 18 with (fail)
        generalize (w3.alloc (.cells #[.bool f1, .int .i64 g1, .int .i64 t1, .int .i64 j1, .int .i64 p1, .int .i64 u1, .string v1] 26)).alloc (.cells #[.int .i64 1, .int .i64 T, .slice (some ⟨w3.heap.size, 0, none⟩) 1 1] 30) = W3 at *
        skip
        simp only [World.size_alloc] at HK
        generalize w3.heap.size = b17 at *
        go_wp2_with fail; refine (cm1 _).mono ?_; rintro e w4 ⟨rfl, b4⟩
        have hbm := Joins.below_alloc1 w4 (.cells #[.bool e1, .int .i64 n1, .int .i64 s1, .int .i64 i1, .int .i64 q1, .int .i64 k1, .string d1] 26)
        have hb4 := b4.trans (hbm.mono b4.size)
        have HM : Hid (MsgAt _ w4.heap.size ⟨e1, n1, s1, i1, q1, k1, d1⟩) := Lib.hid (MsgAt.new w4 ⟨e1, n1, s1, i1, q1, k1, d1⟩)
        have HV2 := Lib.hid (HV1.out.on hb4)
        have HK1 := Lib.hid (HK.out.on hb4)
        have HB1 := Lib.hid (HB.out.trans (Below.mono hb4 HB.out.size)); clear HB; have HB := HB1; clear HB1
        clear b4 hbm hb4 cm1 HV1 HK
        go_upto_region 19 with (fail)
        generalize w4.alloc (.cells #[.bool e1, .int .i64 n1, .int .i64 s1, .int .i64 i1, .int .i64 q1, .int .i64 k1, .string d1] 26) = W4 at *
        generalize w4.heap.size = b19 at *
        have hbf := Joins.below_alloc1 W4 (.cells #[.bool e1, .int .i64 0, .int .i64 0] 58)
        have hlie : LieIn (W4.alloc (.cells #[.bool e1, .int .i64 0, .int .i64 0] 58)) (some ⟨W4.heap.size, 0, none⟩) [(e1, 0, 0)] := LieIn.one (heap_alloc_new W4 _)
        obtain ⟨A9, c9, hfa, hfi⟩ := HK1.out
        obtain ⟨y0, y1, y2⟩ := hfa.cells
        obtain ⟨x0, x1, x2, x3, x4, x5, x6⟩ := HM.out.cells
        simp only [List.length_cons, List.length_nil, Nat.zero_add] at y2
        have hpc := HCO.out A9 c9 (some ⟨W4.heap.size, 0, none⟩) (W4.alloc (.cells #[.bool e1, .int .i64 0, .int .i64 0] 58)) (HLW.out.below (HB.out.trans (hbf.mono HB.out.size))) (hfi.on hbf) hlie
        clear hlie hfi hfa
        have HV3 := Lib.hid (HV2.out.on hbf)
        have HK2 := Lib.hid (HK1.out.on hbf)
        have HB1 := Lib.hid (HB.out.trans (Below.mono hbf HB.out.size)); clear HB; have HB := HB1; clear HB1
        clear hbf HV2 HK1
        skip
        go_wp2_with fail
        generalize W4.alloc (.cells #[.bool e1, .int .i64 0, .int .i64 0] 58) = W5 at *
        refine hpc.mono ?_; rintro e w5 ⟨A5, c5, rfl, hi5, b5⟩
        clear y0 y1 y2 x0 x1 x2 x3 x4 x5 x6 hpc HCO HM
        have hb := Joins.below_alloc1 w5 (.cells #[.int .i64 1, .int .i64 (min (T + 1) 65535), .slice A5 1 c5] 30)
        have h5 := b5.trans (hb.mono b5.size)
        have HG : Hid (FiAt _ w5.heap.size 1 (min (T + 1) 65535) A5 1 c5) := Lib.hid (FiAt.new w5 1 (min (T + 1) 65535) A5 1 c5)
        have HI := Lib.hid (hi5.on hb)
        have HV4 := Lib.hid (HV3.out.on h5)
        have HK3 := Lib.hid (HK2.out.on h5)
        have HB1 := Lib.hid (HB.out.trans (Below.mono h5 HB.out.size)); clear HB; have HB := HB1; clear HB1
        clear b5 hb h5 hi5 HV3 HK2
        go_upto_region 20 with (fail)
        generalize w5.alloc (.cells #[.int .i64 1, .int .i64 (min (T + 1) 65535), .slice A5 1 c5] 30) = W6 at *
        generalize w5.heap.size = b20 at *
        obtain ⟨A9, c9, hfa, hfi⟩ := HV4.out
        obtain ⟨y0, y1, y2⟩ := hfa.cells
        obtain ⟨A7, c7, hka, hki⟩ := HK3.out
        obtain ⟨z0, z1, z2⟩ := hka.cells
        obtain ⟨u0, u1x, u2⟩ := HG.out.cells
        simp only [List.length_cons, List.length_nil, Nat.zero_add] at z2
        have hm1 : IntKind.i64.wrap (T + 1) = T + 1 := IntWalk.i64_in _ (by have := HTT.out; omega)
        have hsa := HSA.out A5 A7 c5 c7 W6 HI.out.msgs hki.msgs
        have HBZ := Lib.hid HB.out
        clear hfa hfi hka hki HSA
        go_wp2_with fail; refine hsa.mono ?_; rintro e w9 ⟨rfl, n9, rfl⟩
        clear y0 y1 y2 z0 z1 z2
        have hu := HG.out.on (below_drewN (Below.refl _ W6) n9)
        clear u0 u1x u2
        obtain ⟨u0, u1x, u2⟩ := hu.cells
        clear hu
        go_wp2_with fail
        go_ret
        exact ⟨rfl, below_drewN HBZ.out n9⟩
      · clear hgo
        have cm0 := fun W => rmsg_any ⟨0, 0, 0, 0, 0, 0⟩ ⟨rfl, rfl, rfl, rfl, rfl, rfl⟩ ⟨#[]⟩ (by decide) W
        have hm0 := rmsg_right ⟨#[]⟩ ⟨0, 0, 0, 0, 0, 0⟩
        have hd0 := rmsg_data ⟨#[]⟩ ⟨0, 0, 0, 0, 0, 0⟩
        have cm1 := fun W => rmsg_any ⟨1, 1, 1, 1, 1, 1⟩ ⟨rfl, rfl, rfl, rfl, rfl, rfl⟩ ⟨#[120]⟩ (by decide) W
        have hm1 := rmsg_right ⟨#[120]⟩ ⟨1, 1, 1, 1, 1, 1⟩
        have hd1 := rmsg_data ⟨#[120]⟩ ⟨1, 1, 1, 1, 1, 1⟩
        generalize rmsg ⟨#[]⟩ ⟨0, 0, 0, 0, 0, 0⟩ = m0 at *
        generalize rmsg ⟨#[120]⟩ ⟨1, 1, 1, 1, 1, 1⟩ = m at *
        have hr1 : rightFi 1 T [m0] = true := right_one (by omega) (by omega) HTT.out.1 HTT.out.2 hm0
        obtain ⟨he0, hh0, ht0, hl0⟩ := off_full hr1 hm1 (by simp)
        have HCO : Hid (∀ A9 c9 AF W, Laid W → QIn W A9 c9 [m0] → LieIn W AF [(m.ext, 0, 0)] → Calls Tryd.prog 25 #[fiv 1 T A9 1 c9, mv m, .slice AF 1 1] W (FiIn 1 (min (T + 1) 65535) [m0] 2 0 W)) := Lib.hid (fun A9 c9 AF W h1 h2 h3 => by
          have h := offer_in 1 T A9 c9 [m0] m AF 1 [(m.ext, 0, 0)] W h1 h2 (by simp) (by omega) h3 (by simp)
          rw [any_open (rightM_ident hm1), he0, hh0, ht0, hl0] at h
          exact h)
        have HD0 : Hid (m0.data.size ≤ 140737488351232) := Lib.hid (by omega)
        clear he0 hh0 ht0 hl0 hm0 hm1 hd0 hd1 hr1
        have HSA : Hid (∀ A1 A2 c1 c2 W, Msgs W W.heap.size A1 [m0] → Msgs W W.heap.size A2 [m0] → Calls Tryd.prog 28 #[.slice A1 1 c1, .slice A2 1 c2] W fun e w' => e = .returned (.bool true) ∧ ∃ n, w' = W.drewN n) := Lib.hid (fun A1 A2 c1 c2 W h1 h2 => by
          have h := same_any A1 A2 c1 c2 _ _ [m0] [m0] W h1 h2 (by simp [maxLen])
          rw [(sameL_iff _ _).2 rfl] at h
          exact h)
        obtain ⟨e1, n1, s1, i1, q1, k1, d1⟩ := m
        obtain ⟨f1, g1, t1, j1, p1, u1, v1⟩ := m0
        simp only [mv] at cm0 cm1
        go_wp2_with fail; refine (cm0 _).mono ?_; rintro e w3 ⟨rfl, b3⟩
        have hb1 := Joins.below_alloc1 w3 (.cells #[.bool f1, .int .i64 g1, .int .i64 t1, .int .i64 j1, .int .i64 p1, .int .i64 u1, .string v1] 26)
        have hb2 := Joins.below_alloc1 (w3.alloc (.cells #[.bool f1, .int .i64 g1, .int .i64 t1, .int .i64 j1, .int .i64 p1, .int .i64 u1, .string v1] 26)) (.cells #[.int .i64 1, .int .i64 T, .slice (some ⟨w3.heap.size, 0, none⟩) 1 1] 30)
        have hg0 : MsgAt (w3.alloc (.cells #[.bool f1, .int .i64 g1, .int .i64 t1, .int .i64 j1, .int .i64 p1, .int .i64 u1, .string v1] 26)) w3.heap.size ⟨f1, g1, t1, j1, p1, u1, v1⟩ := MsgAt.new w3 ⟨f1, g1, t1, j1, p1, u1, v1⟩
        have hin := QIn.one hg0 HD0.out
        have HK := Lib.hid (FVar.new (L := 1) (T := T) hin)
        have hb12 := hb1.trans (hb2.mono hb1.size)
        have hball := b3.trans (hb12.mono b3.size)
        have HV1 := Lib.hid (HVF.out.on hball)
        have HB := Lib.hid (HBO.out.trans (hball.mono HBO.out.size))
        clear b3 hb1 hb2 hg0 hin hb12 hball cm0 HVF HBO
        simp only [List.length_cons, List.length_nil, Nat.zero_add] at HK
        go_upto_region 18 with (fail)
        generalize (w3.alloc (.cells #[.bool f1, .int .i64 g1, .int .i64 t1, .int .i64 j1, .int .i64 p1, .int .i64 u1, .string v1] 26)).alloc (.cells #[.int .i64 1, .int .i64 T, .slice (some ⟨w3.heap.size, 0, none⟩) 1 1] 30) = W3 at *
        skip
        simp only [World.size_alloc] at HK
        generalize w3.heap.size = b17 at *
        go_wp2_with fail; refine (cm1 _).mono ?_; rintro e w4 ⟨rfl, b4⟩
        have hbm := Joins.below_alloc1 w4 (.cells #[.bool e1, .int .i64 n1, .int .i64 s1, .int .i64 i1, .int .i64 q1, .int .i64 k1, .string d1] 26)
        have hb4 := b4.trans (hbm.mono b4.size)
        have HM : Hid (MsgAt _ w4.heap.size ⟨e1, n1, s1, i1, q1, k1, d1⟩) := Lib.hid (MsgAt.new w4 ⟨e1, n1, s1, i1, q1, k1, d1⟩)
        have HV2 := Lib.hid (HV1.out.on hb4)
        have HK1 := Lib.hid (HK.out.on hb4)
        have HB1 := Lib.hid (HB.out.trans (Below.mono hb4 HB.out.size)); clear HB; have HB := HB1; clear HB1
        clear b4 hbm hb4 cm1 HV1 HK
        go_upto_region 19 with (fail)
        generalize w4.alloc (.cells #[.bool e1, .int .i64 n1, .int .i64 s1, .int .i64 i1, .int .i64 q1, .int .i64 k1, .string d1] 26) = W4 at *
        generalize w4.heap.size = b19 at *
        have hbf := Joins.below_alloc1 W4 (.cells #[.bool e1, .int .i64 0, .int .i64 0] 58)
        have hlie : LieIn (W4.alloc (.cells #[.bool e1, .int .i64 0, .int .i64 0] 58)) (some ⟨W4.heap.size, 0, none⟩) [(e1, 0, 0)] := LieIn.one (heap_alloc_new W4 _)
        obtain ⟨A9, c9, hfa, hfi⟩ := HK1.out
        obtain ⟨y0, y1, y2⟩ := hfa.cells
        obtain ⟨x0, x1, x2, x3, x4, x5, x6⟩ := HM.out.cells
        simp only [List.length_cons, List.length_nil, Nat.zero_add] at y2
        have hpc := HCO.out A9 c9 (some ⟨W4.heap.size, 0, none⟩) (W4.alloc (.cells #[.bool e1, .int .i64 0, .int .i64 0] 58)) (HLW.out.below (HB.out.trans (hbf.mono HB.out.size))) (hfi.on hbf) hlie
        clear hlie hfi hfa
        have HV3 := Lib.hid (HV2.out.on hbf)
        have HK2 := Lib.hid (HK1.out.on hbf)
        have HB1 := Lib.hid (HB.out.trans (Below.mono hbf HB.out.size)); clear HB; have HB := HB1; clear HB1
        clear hbf HV2 HK1
        skip
        go_wp2_with fail
        generalize W4.alloc (.cells #[.bool e1, .int .i64 0, .int .i64 0] 58) = W5 at *
        refine hpc.mono ?_; rintro e w5 ⟨A5, c5, rfl, hi5, b5⟩
        clear y0 y1 y2 x0 x1 x2 x3 x4 x5 x6 hpc HCO HM
        have hb := Joins.below_alloc1 w5 (.cells #[.int .i64 1, .int .i64 (min (T + 1) 65535), .slice A5 1 c5] 30)
        have h5 := b5.trans (hb.mono b5.size)
        have HG : Hid (FiAt _ w5.heap.size 1 (min (T + 1) 65535) A5 1 c5) := Lib.hid (FiAt.new w5 1 (min (T + 1) 65535) A5 1 c5)
        have HI := Lib.hid (hi5.on hb)
        have HV4 := Lib.hid (HV3.out.on h5)
        have HK3 := Lib.hid (HK2.out.on h5)
        have HB1 := Lib.hid (HB.out.trans (Below.mono h5 HB.out.size)); clear HB; have HB := HB1; clear HB1
        clear b5 hb h5 hi5 HV3 HK2
        go_upto_region 20 with (fail)
        generalize w5.alloc (.cells #[.int .i64 1, .int .i64 (min (T + 1) 65535), .slice A5 1 c5] 30) = W6 at *
        generalize w5.heap.size = b20 at *
        obtain ⟨A9, c9, hfa, hfi⟩ := HV4.out
        obtain ⟨y0, y1, y2⟩ := hfa.cells
        obtain ⟨A7, c7, hka, hki⟩ := HK3.out
        obtain ⟨z0, z1, z2⟩ := hka.cells
        obtain ⟨u0, u1x, u2⟩ := HG.out.cells
        simp only [List.length_cons, List.length_nil, Nat.zero_add] at z2
        have hm1 : IntKind.i64.wrap (T + 1) = T + 1 := IntWalk.i64_in _ (by have := HTT.out; omega)
        have hsa := HSA.out A5 A7 c5 c7 W6 HI.out.msgs hki.msgs
        have HBZ := Lib.hid HB.out
        clear hfa hfi hka hki HSA
        go_wp2_with fail; refine hsa.mono ?_; rintro e w9 ⟨rfl, n9, rfl⟩
        clear y0 y1 y2 z0 z1 z2
        have hu := HG.out.on (below_drewN (Below.refl _ W6) n9)
        clear u0 u1x u2
        obtain ⟨u0, u1x, u2⟩ := hu.cells
        clear hu
        go_wp2_with fail
        go_ret
        exact ⟨rfl, below_drewN HBZ.out n9⟩

end Go.Proofs.YtehajmockicilaaDoor

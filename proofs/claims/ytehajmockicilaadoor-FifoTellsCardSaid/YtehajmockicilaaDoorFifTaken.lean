/-
  The law FifoTaken, walked.
-/
import Derived.Test.YtehajmockicilaaDoorFifRaw
namespace Go.Proofs.YtehajmockicilaaDoor
open Go Go.RowKit

theorem any_open {b : Bool} {n : Int} (h : rightI b n = true) : anyI b n [(b, 0, 0)] = true := by
  have h0 : rightI b 0 = true := by cases b <;> rfl
  unfold anyI matchI fitsI
  rw [List.any_cons, h0, h]
  simp [alike]
theorem rightM_ident {m : Msg} (h : rightM m = true) : rightI m.ext m.n = true := ((rightM_iff m).1 h).1
theorem taken_off {L T : Int} {l : List Msg} {m : Msg} (hr : rightFi L T l = true) (hm : rightM m = true) : ∃ H T' lg, offFiE L T l m = 0 ∧ offFiH L T l m (anyI m.ext m.n [(m.ext, 0, 0)]) = H ∧ offFiT L T l m (anyI m.ext m.n [(m.ext, 0, 0)]) = T' ∧ offFiL L T l m (anyI m.ext m.n [(m.ext, 0, 0)]) = lg ∧ rightFi L T' lg = true ∧ ((H = 1 ∧ (l.length : Int) < L ∧ lg = l ++ [m]) ∨ (H = 2 ∧ ¬ (l.length : Int) < L ∧ lg = l)) := by
  rw [any_open (rightM_ident hm)]
  obtain ⟨h1, h2, h3, h4⟩ := (rightFi_iff _ _ _).1 hr
  by_cases hf : (l.length : Int) = L
  · obtain ⟨he, hh, ht, hl⟩ := off_full hr hm hf
    exact ⟨2, min (T + 1) 65535, l, he, hh, ht, hl, (rightFi_iff _ _ _).2 ⟨h1, h2, ⟨by omega, by omega⟩, h4⟩, .inr ⟨rfl, by omega, rfl⟩⟩
  · obtain ⟨he, hh, ht, hl⟩ := off_room hr hm hf
    refine ⟨1, T, l ++ [m], he, hh, ht, hl, (rightFi_iff _ _ _).2 ⟨h1, by rw [List.length_append]; simp; omega, h3, fun x hx => ?_⟩, .inl ⟨rfl, by omega, rfl⟩⟩
    rcases List.mem_append.1 hx with hx | hx
    · exact h4 x hx
    · rw [List.mem_singleton.1 hx]; exact hm
theorem lost_right {L T : Int} {l : List Msg} (h : rightFi L T l = true) : lostFiT L T l = 0 ∧ lostFiN L T l = T ∧ lostFiE L T l = 0 ∧ rightFi L 0 l = true := by
  refine ⟨by unfold lostFiT; rw [if_pos h], by unfold lostFiN; rw [if_pos h], by unfold lostFiE; rw [if_pos h], ?_⟩
  obtain ⟨h1, h2, h3, h4⟩ := (rightFi_iff _ _ _).1 h
  exact (rightFi_iff _ _ _).2 ⟨h1, h2, ⟨by omega, by omega⟩, h4⟩
theorem take_cons {L T : Int} {x : Msg} {l : List Msg} (h : rightFi L T (x :: l) = true) : takeFiE L T (x :: l) = 0 ∧ takeFiM L T (x :: l) = x ∧ takeFiL L T (x :: l) = l ∧ rightFi L T l = true := by
  obtain ⟨a, b, c⟩ := take_has (m := x) h rfl
  refine ⟨a, b, c, ?_⟩
  obtain ⟨h1, h2, h3, h4⟩ := (rightFi_iff _ _ _).1 h
  exact (rightFi_iff _ _ _).2 ⟨h1, by simp at h2; omega, h3, fun m hm => h4 m (List.mem_cons_of_mem _ hm)⟩
/-- How many messages a fifo's box tells. -/
def fiLen (w : World) (b : Nat) : Nat := match w.cell? ⟨b, 2, none⟩ with
  | some (.slice _ n _) => n
  | _ => 0
theorem FVar.len {w : World} {b : Nat} {L T : Int} {l : List Msg} (h : FVar w b L T l) : fiLen w b = l.length := by
  obtain ⟨A, c, h1, _⟩ := h
  unfold fiLen
  rw [h1.cells.2.2]
/-- The last of what stands behind. -/
theorem drop_last {l : List Msg} {m x : Msg} {k : Nat} (h : (l ++ [m]).drop k = [x]) : x = m := by
  have h1 : ((l ++ [m]).drop k).getLast? = some x := by rw [h]; rfl
  have hk : ¬ (l ++ [m]).length ≤ k := fun h2 => by rw [List.drop_eq_nil_of_le h2] at h; cases h
  rw [List.getLast?_drop, if_neg hk] at h1
  simp at h1
  exact h1.symm
theorem right_drop {L T : Int} {l : List Msg} (h : rightFi L T l = true) (k : Nat) : rightFi L T (l.drop k) = true := by
  obtain ⟨h1, h2, h3, h4⟩ := (rightFi_iff _ _ _).1 h
  exact (rightFi_iff _ _ _).2 ⟨h1, by rw [List.length_drop]; omega, h3, fun m hm => h4 m (List.mem_of_mem_drop hm)⟩
/-- Six cells of a box. -/
def SixAt (w : World) (b : Nat) (r : Raw) : Prop := w.heap[b]? = some (.cells #[.int .i64 r.r0, .int .i64 r.r1, .int .i64 r.r2, .int .i64 r.r3, .int .i64 r.r4, .int .i64 r.r5] 27 (0, 0))
theorem SixAt.on {w w' : World} {b : Nat} {r : Raw} (h : SixAt w b r) (hb : Below w.heap.size w w') : SixAt w' b r := (hb.block b (Array.getElem?_eq_some_iff.1 h).1).trans h
theorem SixAt.cells {w : World} {b : Nat} {r : Raw} (h : SixAt w b r) : w.cell? ⟨b, 0, none⟩ = some (.int .i64 r.r0) ∧ w.cell? ⟨b, 1, none⟩ = some (.int .i64 r.r1) ∧ w.cell? ⟨b, 2, none⟩ = some (.int .i64 r.r2) ∧ w.cell? ⟨b, 3, none⟩ = some (.int .i64 r.r3) ∧ w.cell? ⟨b, 4, none⟩ = some (.int .i64 r.r4) ∧ w.cell? ⟨b, 5, none⟩ = some (.int .i64 r.r5) := ⟨cell_of h 0, cell_of h 1, cell_of h 2, cell_of h 3, cell_of h 4, cell_of h 5⟩

set_option maxRecDepth 100000 in
set_option maxHeartbeats 8000000 in
theorem fifoTaken_walk (lim lost : Int) (A : Option Addr) (c : Nat) (rs : List Raw) (r0 r1 r2 r3 r4 r5 : Int) (hlim : (Lit.int .i64 lim).wf = true) (hlost : (Lit.int .i64 lost).wf = true)
    (k0 : (Lit.int .i64 r0).wf = true) (k1 : (Lit.int .i64 r1).wf = true) (k2 : (Lit.int .i64 r2).wf = true) (k3 : (Lit.int .i64 r3).wf = true) (k4 : (Lit.int .i64 r4).wf = true) (k5 : (Lit.int .i64 r5).wf = true)
    (w : World) (L : Laid w) (f2 : RowsOk w A c rs) :
    Calls Tryd.prog 7 #[.int .i64 lim, .int .i64 lost, .slice A rs.length c, .agg #[.int .i64 r0, .int .i64 r1, .int .i64 r2, .int .i64 r3, .int .i64 r4, .int .i64 r5]] w fun e w' => e = .returned (.bool true) ∧ Below w.heap.size w w' := by
  have hba := Joins.below_alloc1 w (.cells #[.int .i64 r0, .int .i64 r1, .int .i64 r2, .int .i64 r3, .int .i64 r4, .int .i64 r5] 27)
  have HRA : Hid (SixAt _ w.heap.size ⟨r0, r1, r2, r3, r4, r5⟩) := Lib.hid (show SixAt (w.alloc (.cells #[.int .i64 r0, .int .i64 r1, .int .i64 r2, .int .i64 r3, .int .i64 r4, .int .i64 r5] 27)) w.heap.size ⟨r0, r1, r2, r3, r4, r5⟩ from heap_alloc_new w _)
  have HBA := Lib.hid hba
  have HRW := Lib.hid f2
  have HLW := Lib.hid L
  have HLB := Lib.hid (L.below hba)
  have cA := fun W LL => fiAwake_any W LL
  have hpl := pickI_range lim 32 (by omega)
  have hpt := pickI_range lost 65536 (by omega)
  have HCQ : Hid (∀ W, RowsOk W A c rs → Calls Tryd.prog 14 #[.int .i64 lim, .int .i64 lost, .slice A rs.length c] W fun e w' => ∃ A' c', e = .returned (fiv (1 + pickI lim 32) (pickI lost 65536) A' (fiL (1 + pickI lim 32) rs).length c') ∧ QTold none W.heap.size w' (fiL (1 + pickI lim 32) rs) A' c' ∧ Below W.heap.size W w') := Lib.hid (fun W h => rawFi_any lim lost hlim hlost A c rs W h)
  have hfr := fiL_right (L := 1 + pickI lim 32) (T := pickI lost 65536) rs (by omega) (by omega) (by omega) (by omega)
  have hfd : ∀ m ∈ fiL (1 + pickI lim 32) rs, m.data.size ≤ 140737488351232 := map_data fdT _
  have hfl := fiL_length (1 + pickI lim 32) rs
  generalize fiL (1 + pickI lim 32) rs = l at *
  have hL32 : 1 + pickI lim 32 ≤ 32 := by omega
  generalize 1 + pickI lim 32 = LQ at *
  generalize pickI lost 65536 = T at *
  have HFL : Hid (l.length ≤ 32) := Lib.hid (by omega)
  have HFD := Lib.hid hfd
  have HCM := Lib.hid (fun W => rmsg_any ⟨r0, r1, r2, r3, r4, r5⟩ ⟨k0, k1, k2, k3, k4, k5⟩ ⟨#[108, 97, 115, 116]⟩ (by decide) W)
  have hmr := rmsg_right ⟨#[108, 97, 115, 116]⟩ ⟨r0, r1, r2, r3, r4, r5⟩
  have hmd := rmsg_data ⟨#[108, 97, 115, 116]⟩ ⟨r0, r1, r2, r3, r4, r5⟩
  generalize rmsg ⟨#[108, 97, 115, 116]⟩ ⟨r0, r1, r2, r3, r4, r5⟩ = m at *
  obtain ⟨H, T2, lg, hE, hH, hT, hG, hrg, hcase⟩ := taken_off hfr hmr
  have HCO : Hid (∀ A9 c9 AF W, Laid W → QIn W A9 c9 l → LieIn W AF [(m.ext, 0, 0)] → Calls Tryd.prog 25 #[fiv LQ T A9 l.length c9, mv m, .slice AF 1 1] W (FiIn LQ T2 lg H 0 W)) := Lib.hid (fun A9 c9 AF W h1 h2 h3 => by
    have h := offer_in LQ T A9 c9 l m AF 1 [(m.ext, 0, 0)] W h1 h2 (by have := HFL.out; omega) (by omega) h3 (by simp)
    rw [hE, hH, hT, hG] at h
    exact h)
  obtain ⟨hlT, hlN, hlE, hr0⟩ := lost_right hrg
  have HCL : Hid (∀ A9 c9 W, Laid W → QIn W A9 c9 lg → Calls Tryd.prog 19 #[fiv LQ T2 A9 lg.length c9] W (FiIn LQ 0 lg T2 0 W)) := Lib.hid (fun A9 c9 W h1 h2 => by
    have h := lost_in LQ T2 A9 c9 lg W h1 h2
    rw [hlT, hlN, hlE] at h
    exact h)
  have HRG := Lib.hid hr0
  have HM0 : Hid (H = 1 → lg = l ++ [m]) := Lib.hid (fun h => by rcases hcase with h1 | h1; exact h1.2.2; (rw [h1.1] at h; cases h))
  have HLAST : Hid (H = 1 → ∀ k x, lg.drop k = [x] → x = m) := Lib.hid (fun h k x hx => by rw [HM0.out h] at hx; exact drop_last hx)
  have hcase2 : (H = 1 ∧ (l.length : Int) < LQ) ∨ (H = 2 ∧ ¬ (l.length : Int) < LQ) := by
    rcases hcase with h | h
    · exact .inl ⟨h.1, h.2.1⟩
    · exact .inr ⟨h.1, h.2.1⟩
  clear hE hH hT hG hrg hcase hlT hlN hlE hr0 hfr hfd hfl hL32 hmr hmd HM0 hba L f2 hlim hlost k0 k1 k2 k3 k4 k5 hpl hpt
  obtain ⟨e1, n1, s1, i1, q1, k1, d1⟩ := m
  simp only [mv] at HCM HCO HLAST
  rcases hcase2 with ⟨hH, hlt⟩ | ⟨hH, hlt⟩
  · subst hH
    have HLT := Lib.hid hlt
    have HLS := Lib.hid (HLAST.out rfl)
    clear hlt HLAST
    go_enter Tryd.func7, Tryd.ntmps7
    go_wp2_with fail; refine (cA _ HLB.out).mono ?_; rintro e w1 ⟨rfl, b1⟩
    have HB := Lib.hid (HBA.out.trans (b1.mono HBA.out.size))
    have HR1 := Lib.hid (HRA.out.on b1)
    have cq := HCQ.out w1 (rowsOk_on HRW.out (HBA.out.trans (b1.mono HBA.out.size)))
    clear b1 cA
    go_wp2_with fail; refine cq.mono ?_; rintro e w2 ⟨A8, c8, rfl, ht, b2⟩
    clear cq HCQ
    have hi := ht.qin (by have := HFL.out; omega) HFD.out
    have hb := Joins.below_alloc1 w2 (.cells #[.int .i64 LQ, .int .i64 T, .slice A8 l.length c8] 30)
    have HF := Lib.hid (FVar.new (L := LQ) (T := T) hi)
    have hb2 := b2.trans (hb.mono b2.size)
    have HB1 := Lib.hid (HB.out.trans (Below.mono hb2 HB.out.size)); clear HB; have HB := HB1; clear HB1
    have HR := Lib.hid (HR1.out.on hb2)
    obtain ⟨x0, x1, x2, x3, x4, x5⟩ := HR.out.cells
    clear ht hi hb b2 hb2 HR1
    have cm := HCM.out
    go_wp2_with fail
    generalize w2.alloc (.cells #[.int .i64 LQ, .int .i64 T, .slice A8 l.length c8] 30) = W2 at *
    generalize w2.heap.size = b10 at *
    refine (cm _).mono ?_; rintro e w3 ⟨rfl, b3⟩
    have HF1 := Lib.hid (HF.out.on b3); clear HF; have HF := HF1; clear HF1
    have HB1 := Lib.hid (HB.out.trans (Below.mono b3 HB.out.size)); clear HB; have HB := HB1; clear HB1
    have hbm := Joins.below_alloc1 w3 (.cells #[.bool e1, .int .i64 n1, .int .i64 s1, .int .i64 i1, .int .i64 q1, .int .i64 k1, .string d1] 26)
    have HM : Hid (MsgAt _ w3.heap.size ⟨e1, n1, s1, i1, q1, k1, d1⟩) := Lib.hid (MsgAt.new w3 ⟨e1, n1, s1, i1, q1, k1, d1⟩)
    have HF1 := Lib.hid (HF.out.on hbm); clear HF; have HF := HF1; clear HF1
    have HB1 := Lib.hid (HB.out.trans (Below.mono hbm HB.out.size)); clear HB; have HB := HB1; clear HB1
    clear b3 hbm cm x0 x1 x2 x3 x4 x5 HR HRA
    go_upto_region 4 with (fail)
    generalize w3.alloc (.cells #[.bool e1, .int .i64 n1, .int .i64 s1, .int .i64 i1, .int .i64 q1, .int .i64 k1, .string d1] 26) = W3 at *
    generalize w3.heap.size = b11 at *
    have hbf := Joins.below_alloc1 W3 (.cells #[.bool e1, .int .i64 0, .int .i64 0] 58)
    have hlie : LieIn (W3.alloc (.cells #[.bool e1, .int .i64 0, .int .i64 0] 58)) (some ⟨W3.heap.size, 0, none⟩) [(e1, 0, 0)] := LieIn.one (heap_alloc_new W3 _)
    obtain ⟨A9, c9, hfa, hfi⟩ := HF.out
    obtain ⟨y0, y1, y2⟩ := hfa.cells
    obtain ⟨x0, x1, x2, x3, x4, x5, x6⟩ := HM.out.cells
    have hpc := HCO.out A9 c9 (some ⟨W3.heap.size, 0, none⟩) (W3.alloc (.cells #[.bool e1, .int .i64 0, .int .i64 0] 58)) (HLW.out.below (HB.out.trans (hbf.mono HB.out.size))) (hfi.on hbf) hlie
    clear hlie hfi hfa
    have HF1 := Lib.hid (HF.out.on hbf); clear HF; have HF := HF1; clear HF1
    have HM1 : Hid (MsgAt _ _ _) := Lib.hid (MsgAt.on HM.out hbf); clear HM; have HM := HM1; clear HM1
    have HB1 := Lib.hid (HB.out.trans (Below.mono hbf HB.out.size)); clear HB; have HB := HB1; clear HB1
    clear hbf
    go_wp2_with fail
    generalize W3.alloc (.cells #[.bool e1, .int .i64 0, .int .i64 0] 58) = W4 at *
    refine hpc.mono ?_; rintro e w5 ⟨A5, c5, rfl, hi5, b5⟩
    clear y0 y1 y2 x0 x1 x2 x3 x4 x5 x6 hpc
    have HF1 := Lib.hid (HF.out.on b5); clear HF; have HF := HF1; clear HF1
    have HM1 : Hid (MsgAt _ _ _) := Lib.hid (MsgAt.on HM.out b5); clear HM; have HM := HM1; clear HM1
    have HB1 := Lib.hid (HB.out.trans (Below.mono b5 HB.out.size)); clear HB; have HB := HB1; clear HB1
    have hb := Joins.below_alloc1 w5 (.cells #[.int .i64 LQ, .int .i64 T2, .slice A5 lg.length c5] 30)
    have HG := Lib.hid (FVar.new (L := LQ) (T := T2) hi5)
    have HF1 := Lib.hid (HF.out.on hb); clear HF; have HF := HF1; clear HF1
    have HM1 : Hid (MsgAt _ _ _) := Lib.hid (MsgAt.on HM.out hb); clear HM; have HM := HM1; clear HM1
    have HB1 := Lib.hid (HB.out.trans (Below.mono hb HB.out.size)); clear HB; have HB := HB1; clear HB1
    clear b5 hb hi5 HCO
    go_upto_region 5 with (fail)
    generalize w5.alloc (.cells #[.int .i64 LQ, .int .i64 T2, .slice A5 lg.length c5] 30) = W6 at *
    generalize w5.heap.size = b12 at *
    obtain ⟨A9, c9, hfa, hfi⟩ := HF.out
    obtain ⟨y0, y1, y2⟩ := hfa.cells
    have hltL := HLT.out
    clear hfa hfi
    go_upto_region 7 with (fail)
    clear y0 y1 y2 hltL HF
    obtain ⟨A9, c9, hfa, hfi⟩ := HG.out
    obtain ⟨y0, y1, y2⟩ := hfa.cells
    have hpc := HCL.out A9 c9 W6 (HLW.out.below HB.out) hfi
    clear hfa hfi
    go_wp2_with fail; refine hpc.mono ?_; rintro e w7 ⟨A5, c5, rfl, hi5, b5⟩
    clear y0 y1 y2 hpc
    have HG1 := Lib.hid (HG.out.on b5); clear HG; have HG := HG1; clear HG1
    have HM1 : Hid (MsgAt _ _ _) := Lib.hid (MsgAt.on HM.out b5); clear HM; have HM := HM1; clear HM1
    have HB1 := Lib.hid (HB.out.trans (Below.mono b5 HB.out.size)); clear HB; have HB := HB1; clear HB1
    have HS15 : Hid (w.heap.size ≤ w7.heap.size) := Lib.hid HB.out.size
    have HNE : Hid (b11 ≠ w7.heap.size) := Lib.hid (Nat.ne_of_lt (MsgAt.lt HM.out))
    have hb := Joins.below_alloc1 w7 (.cells #[.int .i64 LQ, .int .i64 0, .slice A5 lg.length c5] 30)
    have HH := Lib.hid (FVar.new (L := LQ) (T := 0) hi5)
    have HG1 := Lib.hid (HG.out.on hb); clear HG; have HG := HG1; clear HG1
    have HM1 : Hid (MsgAt _ _ _) := Lib.hid (MsgAt.on HM.out hb); clear HM; have HM := HM1; clear HM1
    have HB1 := Lib.hid (HB.out.trans (Below.mono hb HB.out.size)); clear HB; have HB := HB1; clear HB1
    clear b5 hb hi5 HCL
    skip
    go_upto_region 8 with (fail)
    generalize w7.alloc (.cells #[.int .i64 LQ, .int .i64 0, .slice A5 lg.length c5] 30) = W8 at *
    generalize hb15 : w7.heap.size = b15 at *
    obtain ⟨A9, c9, hfa, hfi⟩ := HG.out
    obtain ⟨y0, y1, y2⟩ := hfa.cells
    obtain ⟨A7, c7, hga, hgi⟩ := HH.out
    obtain ⟨z0, z1, z2⟩ := hga.cells
    clear hfa hfi hga hgi
    go_upto_region 10 with (fail)
    clear y0 y1 y2 z0 z1 z2 HG
    go_loopw [18, 19, 20, 21] (fun _ _ _ _ wr => ∃ k : Nat, k ≤ lg.length ∧ FVar wr b15 LQ 0 (lg.drop k) ∧ MsgAt wr b11 ⟨e1, n1, s1, i1, q1, k1, d1⟩ ∧ Below w.heap.size w wr) (fun _ _ _ _ wr => fiLen wr b15)
    case atStart => exact ⟨0, by omega, by rw [List.drop_zero]; exact HH.out, HM.out, HB.out⟩
    case round =>
      obtain ⟨k, hk, hv, hm, hb⟩ := hrel
      have HML := Lib.hid hv.len
      have HV := Lib.hid hv
      have HMM : Hid (MsgAt wr b11 ⟨e1, n1, s1, i1, q1, k1, d1⟩) := Lib.hid hm
      have HBR := Lib.hid hb
      obtain ⟨A9, c9, hfa, hfi⟩ := hv
      obtain ⟨y0, y1, y2⟩ := hfa.cells
      have HFI := Lib.hid hfi
      have HFA := Lib.hid hfa
      by_cases hlt : k < lg.length
      · obtain ⟨x, tl, hxt⟩ : ∃ x tl, lg.drop k = x :: tl := ⟨lg[k], lg.drop (k + 1), List.drop_eq_getElem_cons hlt⟩
        have HXT := Lib.hid hxt
        have HTL : Hid (lg.drop (k + 1) = tl) := Lib.hid (by rw [← List.drop_drop, hxt]; rfl)
        have hrx : rightFi LQ 0 (x :: tl) = true := by rw [← hxt]; exact right_drop HRG.out k
        obtain ⟨hE, hM, hL, -⟩ := take_cons hrx
        have hpc := take_in LQ 0 A9 c9 (x :: tl) wr (HLW.out.below hb) (by rw [← hxt]; exact hfi)
        rw [hE, hM, hL] at hpc
        rw [hxt] at y2
        have HLA : Hid (∀ (_ : tl.length = 0), x = ⟨e1, n1, s1, i1, q1, k1, d1⟩) := Lib.hid (fun h => HLS.out k x (by rw [hxt, List.length_eq_zero_iff.1 h]))
        obtain ⟨n2, hn2⟩ : ∃ n2 : Nat, n2 = tl.length := ⟨_, rfl⟩
        obtain ⟨n, hn⟩ : ∃ n : Nat, n = n2 + 1 := ⟨_, rfl⟩
        have hxl : (x :: tl).length = n := by rw [List.length_cons, ← hn2, hn]
        rw [hxl] at hpc y2
        have hnp : (0 : Int) < (n : Int) := by omega
        have hw1 : IntKind.i64.wrap ((n : Int) - 1) = (n2 : Int) := by rw [show (n : Int) - 1 = (n2 : Int) by omega]; exact IntWalk.i64_in _ (by have := hfi.few; rw [hxt, hxl] at this; omega)
        obtain ⟨lb, hlb⟩ : ∃ lb, ((n : Int) == 1) = lb := ⟨_, rfl⟩
        have HLB2 : Hid (lb = true → tl.length = 0) := Lib.hid (fun h => by rw [h] at hlb; simp at hlb; omega)
        obtain ⟨ad, hA9, -⟩ := hfi.msgs (by rw [hxt, hxl]; omega)
        subst hA9
        have HX0 : Hid (∀ W, Below wr.heap.size wr W → At7 W ad x) := Lib.hid (fun W h => by
          obtain ⟨ad2, e2, h7⟩ := (HFI.out.on h).at (show (lg.drop k)[0]? = some x by rw [HXT.out]; rfl)
          cases e2; rw [show ad.add (0 * 7) = ad by unfold Addr.add; rfl] at h7; exact h7)
        have HN2 := Lib.hid hn2
        have HNN : Hid ((lg.drop k).length = n) := Lib.hid (by rw [hxt, hxl])
        clear hE hM hL hrx hn2 hn hxl hfa hfi hm hb hxt
        obtain ⟨f1, g1, t1, j1, p1, u1, v1⟩ := x
        go_wp2_with fail; refine hpc.mono ?_; rintro e w9 ⟨A5, c5, rfl, hi5, b5⟩
        have hba := Joins.below_alloc1 w9 (.cells #[.int .i64 LQ, .int .i64 0, .slice A5 tl.length c5] 30)
        have hbb := Joins.below_alloc1 (w9.alloc (.cells #[.int .i64 LQ, .int .i64 0, .slice A5 tl.length c5] 30)) (.cells #[.bool f1, .int .i64 g1, .int .i64 t1, .int .i64 j1, .int .i64 p1, .int .i64 u1, .string v1] 26)
        have hq19 := FiAt.new w9 LQ 0 A5 tl.length c5
        have hm20 := MsgAt.new (w9.alloc (.cells #[.int .i64 LQ, .int .i64 0, .slice A5 tl.length c5] 30)) ⟨f1, g1, t1, j1, p1, u1, v1⟩
        have hab := hba.trans (hbb.mono hba.size)
        have hall := b5.trans (hab.mono b5.size)
        have HQ19 := Lib.hid (hq19.on hbb)
        have HM20 : Hid (MsgAt _ (w9.heap.size + 1) ⟨f1, g1, t1, j1, p1, u1, v1⟩) := Lib.hid (by rw [World.size_alloc] at hm20; exact hm20)
        have HI19 := Lib.hid (hi5.on hab)
        have HV9 := Lib.hid (HV.out.on hall)
        have HQ15 := Lib.hid (HFA.out.on hall)
        have HM9 : Hid (MsgAt _ b11 ⟨e1, n1, s1, i1, q1, k1, d1⟩) := Lib.hid (MsgAt.on HMM.out hall)
        have HB9 := Lib.hid (HBR.out.trans (hall.mono HBR.out.size))
        have HX9 := Lib.hid (HX0.out _ hall)
        have HN19 : Hid (b15 < w9.heap.size) := Lib.hid (Nat.lt_of_lt_of_le HV.out.lt b5.size)
        have HB11 : Hid (b11 < w9.heap.size) := Lib.hid (Nat.lt_of_lt_of_le HMM.out.lt b5.size)
        clear hba hbb hq19 hm20 hab hall hi5 b5 y0 y1 y2 hpc HV HMM HBR HFA HFI HX0 hnp
        simp only [mc] at HM20 HQ19 HI19 HV9 HM9 HB9 HX9 HQ15
        go_upto_region 13 with (fail)
        generalize (w9.alloc (.cells #[.int .i64 LQ, .int .i64 0, .slice A5 tl.length c5] 30)).alloc (.cells #[.bool f1, .int .i64 g1, .int .i64 t1, .int .i64 j1, .int .i64 p1, .int .i64 u1, .string v1] 26) = W at *
        generalize w9.heap.size = b19 at *
        obtain ⟨y0, y1, y2⟩ := HQ15.out.cells
        obtain ⟨z0, z1, z2⟩ := HQ19.out.cells
        rw [HNN.out] at y2
        rw [← HN2.out] at z2
        obtain ⟨a0, a1, a2, a3, a4, a5, a6⟩ := MsgAt.cells HM20.out
        obtain ⟨c0, c1, c2, c3, c4, c5x, c6⟩ := HX9.out
        obtain ⟨q0, q1x, q2, q3, q4, q5, q6⟩ := MsgAt.cells HM9.out
        have hg1 := fun x y W => eqM_guard .neq x y ⟨f1, g1, t1, j1, p1, u1, v1⟩ ⟨f1, g1, t1, j1, p1, u1, v1⟩ W
        have hg2 := neqM ⟨f1, g1, t1, j1, p1, u1, v1⟩ ⟨f1, g1, t1, j1, p1, u1, v1⟩
        have hg3 := fun x y W => eqM_guard .neq x y ⟨f1, g1, t1, j1, p1, u1, v1⟩ ⟨e1, n1, s1, i1, q1, k1, d1⟩ W
        have hg4 := neqM ⟨f1, g1, t1, j1, p1, u1, v1⟩ ⟨e1, n1, s1, i1, q1, k1, d1⟩
        rw [(sameM_iff _ _).2 rfl, Bool.not_true] at hg2
        simp only [mv] at hg1 hg2 hg3 hg4 a0 a1 a2 a3 a4 a5 a6 c0 c1 c2 c3 c4 c5x c6 q0 q1x q2 q3 q4 q5 q6
        have hnp : (0 : Int) < (n : Int) := by have := HNN.out; rw [HXT.out] at this; simp at this; omega
        cases lb
        · generalize sameM (⟨f1, g1, t1, j1, p1, u1, v1⟩ : Msg) ⟨e1, n1, s1, i1, q1, k1, d1⟩ = sm at hg4
          go_quiet (fail)
          go_upto_region 15 with (fail)
          clear a0 a1 a2 a3 a4 a5 a6 c0 c1 c2 c3 c4 c5x c6 q0 q1x q2 q3 q4 q5 q6 hg1 hg2 hg3 hg4 y0 y1 y2 z0 z1 z2
          have HQ15n := Lib.hid (HQ15.out.on (below_drewN (Below.refl _ W) nq))
          have HI19n := Lib.hid (HI19.out.on (below_drewN (Below.refl _ W) nq))
          have HQ19n := Lib.hid (HQ19.out.on (below_drewN (Below.refl _ W) nq))
          have HM9n : Hid (MsgAt _ b11 ⟨e1, n1, s1, i1, q1, k1, d1⟩) := Lib.hid (MsgAt.on HM9.out (below_drewN (Below.refl _ W) nq))
          have HB9n := Lib.hid (below_drewN HB9.out nq)
          generalize W.drewN nq = W2 at *
          have hbb : w.heap.size ≤ b15 := HS15.out
          have hne11 := HNE.out
          have HRL : Hid (FVar (set3 W2 b15 (.int .i64 LQ) (.int .i64 0) (.slice A5 tl.length c5)) b15 LQ 0 (lg.drop (k + 1)) ∧ MsgAt (set3 W2 b15 (.int .i64 LQ) (.int .i64 0) (.slice A5 tl.length c5)) b11 ⟨e1, n1, s1, i1, q1, k1, d1⟩ ∧ Below w.heap.size w (set3 W2 b15 (.int .i64 LQ) (.int .i64 0) (.slice A5 tl.length c5))) := Lib.hid ⟨by rw [HTL.out]; exact ⟨A5, c5, HQ15n.out.set LQ 0 A5 tl.length c5, HI19n.out.farF HQ15n.out _ _ _⟩, MsgAt.put3 HM9n.out hne11 _ _ _, below_set3 HB9n.out hbb _ _ _⟩
          obtain ⟨y0, y1, y2⟩ := HQ15n.out.cells
          have yf := HQ15n.out.frozen
          obtain ⟨z0, z1, z2⟩ := HQ19n.out.cells
          clear hbb hne11
          go_wp2_with fail
          go_roundw
          case rel => exact ⟨k + 1, by omega, HRL.out⟩
          case measure => rw [HML.out, HRL.out.1.len, List.length_drop, List.length_drop]; omega
        · have hsm : sameM (⟨f1, g1, t1, j1, p1, u1, v1⟩ : Msg) ⟨e1, n1, s1, i1, q1, k1, d1⟩ = true := (sameM_iff _ _).2 (HLA.out (HLB2.out rfl))
          rw [hsm, Bool.not_true] at hg4
          clear hsm
          go_quiet (fail)
          go_upto_region 15 with (fail)
          clear a0 a1 a2 a3 a4 a5 a6 c0 c1 c2 c3 c4 c5x c6 q0 q1x q2 q3 q4 q5 q6 hg1 hg2 hg3 hg4 y0 y1 y2 z0 z1 z2
          have HQ15n := Lib.hid (HQ15.out.on (below_drewN (Below.refl _ W) nq))
          have HI19n := Lib.hid (HI19.out.on (below_drewN (Below.refl _ W) nq))
          have HQ19n := Lib.hid (HQ19.out.on (below_drewN (Below.refl _ W) nq))
          have HM9n : Hid (MsgAt _ b11 ⟨e1, n1, s1, i1, q1, k1, d1⟩) := Lib.hid (MsgAt.on HM9.out (below_drewN (Below.refl _ W) nq))
          have HB9n := Lib.hid (below_drewN HB9.out nq)
          generalize W.drewN nq = W2 at *
          have hbb : w.heap.size ≤ b15 := HS15.out
          have hne11 := HNE.out
          have HRL : Hid (FVar (set3 W2 b15 (.int .i64 LQ) (.int .i64 0) (.slice A5 tl.length c5)) b15 LQ 0 (lg.drop (k + 1)) ∧ MsgAt (set3 W2 b15 (.int .i64 LQ) (.int .i64 0) (.slice A5 tl.length c5)) b11 ⟨e1, n1, s1, i1, q1, k1, d1⟩ ∧ Below w.heap.size w (set3 W2 b15 (.int .i64 LQ) (.int .i64 0) (.slice A5 tl.length c5))) := Lib.hid ⟨by rw [HTL.out]; exact ⟨A5, c5, HQ15n.out.set LQ 0 A5 tl.length c5, HI19n.out.farF HQ15n.out _ _ _⟩, MsgAt.put3 HM9n.out hne11 _ _ _, below_set3 HB9n.out hbb _ _ _⟩
          obtain ⟨y0, y1, y2⟩ := HQ15n.out.cells
          have yf := HQ15n.out.frozen
          obtain ⟨z0, z1, z2⟩ := HQ19n.out.cells
          clear hbb hne11
          go_wp2_with fail
          go_roundw
          case rel => exact ⟨k + 1, by omega, HRL.out⟩
          case measure => rw [HML.out, HRL.out.1.len, List.length_drop, List.length_drop]; omega
      · have hlg : lg.drop k = [] := List.drop_eq_nil_of_le (by omega)
        rw [hlg] at y2
        simp only [List.length_nil] at y2
        clear hfa hfi hm hb
        go_wp2_with fail
        go_ret
        exact ⟨rfl, HBR.out⟩
  · subst hH
    have HLT := Lib.hid hlt
    clear hlt HLAST
    go_enter Tryd.func7, Tryd.ntmps7
    go_wp2_with fail; refine (cA _ HLB.out).mono ?_; rintro e w1 ⟨rfl, b1⟩
    have HB := Lib.hid (HBA.out.trans (b1.mono HBA.out.size))
    have HR1 := Lib.hid (HRA.out.on b1)
    have cq := HCQ.out w1 (rowsOk_on HRW.out (HBA.out.trans (b1.mono HBA.out.size)))
    clear b1 cA
    go_wp2_with fail; refine cq.mono ?_; rintro e w2 ⟨A8, c8, rfl, ht, b2⟩
    clear cq HCQ
    have hi := ht.qin (by have := HFL.out; omega) HFD.out
    have hb := Joins.below_alloc1 w2 (.cells #[.int .i64 LQ, .int .i64 T, .slice A8 l.length c8] 30)
    have HF := Lib.hid (FVar.new (L := LQ) (T := T) hi)
    have hb2 := b2.trans (hb.mono b2.size)
    have HB1 := Lib.hid (HB.out.trans (Below.mono hb2 HB.out.size)); clear HB; have HB := HB1; clear HB1
    have HR := Lib.hid (HR1.out.on hb2)
    obtain ⟨x0, x1, x2, x3, x4, x5⟩ := HR.out.cells
    clear ht hi hb b2 hb2 HR1
    have cm := HCM.out
    go_wp2_with fail
    generalize w2.alloc (.cells #[.int .i64 LQ, .int .i64 T, .slice A8 l.length c8] 30) = W2 at *
    generalize w2.heap.size = b10 at *
    refine (cm _).mono ?_; rintro e w3 ⟨rfl, b3⟩
    have HF1 := Lib.hid (HF.out.on b3); clear HF; have HF := HF1; clear HF1
    have HB1 := Lib.hid (HB.out.trans (Below.mono b3 HB.out.size)); clear HB; have HB := HB1; clear HB1
    have hbm := Joins.below_alloc1 w3 (.cells #[.bool e1, .int .i64 n1, .int .i64 s1, .int .i64 i1, .int .i64 q1, .int .i64 k1, .string d1] 26)
    have HM : Hid (MsgAt _ w3.heap.size ⟨e1, n1, s1, i1, q1, k1, d1⟩) := Lib.hid (MsgAt.new w3 ⟨e1, n1, s1, i1, q1, k1, d1⟩)
    have HF1 := Lib.hid (HF.out.on hbm); clear HF; have HF := HF1; clear HF1
    have HB1 := Lib.hid (HB.out.trans (Below.mono hbm HB.out.size)); clear HB; have HB := HB1; clear HB1
    clear b3 hbm cm x0 x1 x2 x3 x4 x5 HR HRA
    go_upto_region 4 with (fail)
    generalize w3.alloc (.cells #[.bool e1, .int .i64 n1, .int .i64 s1, .int .i64 i1, .int .i64 q1, .int .i64 k1, .string d1] 26) = W3 at *
    generalize w3.heap.size = b11 at *
    have hbf := Joins.below_alloc1 W3 (.cells #[.bool e1, .int .i64 0, .int .i64 0] 58)
    have hlie : LieIn (W3.alloc (.cells #[.bool e1, .int .i64 0, .int .i64 0] 58)) (some ⟨W3.heap.size, 0, none⟩) [(e1, 0, 0)] := LieIn.one (heap_alloc_new W3 _)
    obtain ⟨A9, c9, hfa, hfi⟩ := HF.out
    obtain ⟨y0, y1, y2⟩ := hfa.cells
    obtain ⟨x0, x1, x2, x3, x4, x5, x6⟩ := HM.out.cells
    have hpc := HCO.out A9 c9 (some ⟨W3.heap.size, 0, none⟩) (W3.alloc (.cells #[.bool e1, .int .i64 0, .int .i64 0] 58)) (HLW.out.below (HB.out.trans (hbf.mono HB.out.size))) (hfi.on hbf) hlie
    clear hlie hfi hfa
    have HF1 := Lib.hid (HF.out.on hbf); clear HF; have HF := HF1; clear HF1
    have HM1 : Hid (MsgAt _ _ _) := Lib.hid (MsgAt.on HM.out hbf); clear HM; have HM := HM1; clear HM1
    have HB1 := Lib.hid (HB.out.trans (Below.mono hbf HB.out.size)); clear HB; have HB := HB1; clear HB1
    clear hbf
    go_wp2_with fail
    generalize W3.alloc (.cells #[.bool e1, .int .i64 0, .int .i64 0] 58) = W4 at *
    refine hpc.mono ?_; rintro e w5 ⟨A5, c5, rfl, hi5, b5⟩
    clear y0 y1 y2 x0 x1 x2 x3 x4 x5 x6 hpc
    have HF1 := Lib.hid (HF.out.on b5); clear HF; have HF := HF1; clear HF1
    have HM1 : Hid (MsgAt _ _ _) := Lib.hid (MsgAt.on HM.out b5); clear HM; have HM := HM1; clear HM1
    have HB1 := Lib.hid (HB.out.trans (Below.mono b5 HB.out.size)); clear HB; have HB := HB1; clear HB1
    have hb := Joins.below_alloc1 w5 (.cells #[.int .i64 LQ, .int .i64 T2, .slice A5 lg.length c5] 30)
    have HG := Lib.hid (FVar.new (L := LQ) (T := T2) hi5)
    have HF1 := Lib.hid (HF.out.on hb); clear HF; have HF := HF1; clear HF1
    have HM1 : Hid (MsgAt _ _ _) := Lib.hid (MsgAt.on HM.out hb); clear HM; have HM := HM1; clear HM1
    have HB1 := Lib.hid (HB.out.trans (Below.mono hb HB.out.size)); clear HB; have HB := HB1; clear HB1
    clear b5 hb hi5 HCO
    go_upto_region 5 with (fail)
    generalize w5.alloc (.cells #[.int .i64 LQ, .int .i64 T2, .slice A5 lg.length c5] 30) = W6 at *
    generalize w5.heap.size = b12 at *
    obtain ⟨A9, c9, hfa, hfi⟩ := HF.out
    obtain ⟨y0, y1, y2⟩ := hfa.cells
    have hltL := HLT.out
    clear hfa hfi
    go_upto_region 7 with (fail)
    clear y0 y1 y2 hltL HF
    obtain ⟨A9, c9, hfa, hfi⟩ := HG.out
    obtain ⟨y0, y1, y2⟩ := hfa.cells
    have hpc := HCL.out A9 c9 W6 (HLW.out.below HB.out) hfi
    clear hfa hfi
    go_wp2_with fail; refine hpc.mono ?_; rintro e w7 ⟨A5, c5, rfl, hi5, b5⟩
    clear y0 y1 y2 hpc
    have HG1 := Lib.hid (HG.out.on b5); clear HG; have HG := HG1; clear HG1
    have HM1 : Hid (MsgAt _ _ _) := Lib.hid (MsgAt.on HM.out b5); clear HM; have HM := HM1; clear HM1
    have HB1 := Lib.hid (HB.out.trans (Below.mono b5 HB.out.size)); clear HB; have HB := HB1; clear HB1
    have HS15 : Hid (w.heap.size ≤ w7.heap.size) := Lib.hid HB.out.size
    have HNE : Hid (b11 ≠ w7.heap.size) := Lib.hid (Nat.ne_of_lt (MsgAt.lt HM.out))
    have hb := Joins.below_alloc1 w7 (.cells #[.int .i64 LQ, .int .i64 0, .slice A5 lg.length c5] 30)
    have HH := Lib.hid (FVar.new (L := LQ) (T := 0) hi5)
    have HG1 := Lib.hid (HG.out.on hb); clear HG; have HG := HG1; clear HG1
    have HM1 : Hid (MsgAt _ _ _) := Lib.hid (MsgAt.on HM.out hb); clear HM; have HM := HM1; clear HM1
    have HB1 := Lib.hid (HB.out.trans (Below.mono hb HB.out.size)); clear HB; have HB := HB1; clear HB1
    clear b5 hb hi5 HCL
    skip
    go_upto_region 8 with (fail)
    generalize w7.alloc (.cells #[.int .i64 LQ, .int .i64 0, .slice A5 lg.length c5] 30) = W8 at *
    generalize hb15 : w7.heap.size = b15 at *
    obtain ⟨A9, c9, hfa, hfi⟩ := HG.out
    obtain ⟨y0, y1, y2⟩ := hfa.cells
    obtain ⟨A7, c7, hga, hgi⟩ := HH.out
    obtain ⟨z0, z1, z2⟩ := hga.cells
    clear hfa hfi hga hgi
    go_upto_region 10 with (fail)
    clear y0 y1 y2 z0 z1 z2 HG
    go_loopw [18, 19, 20, 21] (fun _ _ _ _ wr => ∃ k : Nat, k ≤ lg.length ∧ FVar wr b15 LQ 0 (lg.drop k) ∧ MsgAt wr b11 ⟨e1, n1, s1, i1, q1, k1, d1⟩ ∧ Below w.heap.size w wr) (fun _ _ _ _ wr => fiLen wr b15)
    case atStart => exact ⟨0, by omega, by rw [List.drop_zero]; exact HH.out, HM.out, HB.out⟩
    case round =>
      obtain ⟨k, hk, hv, hm, hb⟩ := hrel
      have HML := Lib.hid hv.len
      have HV := Lib.hid hv
      have HMM : Hid (MsgAt wr b11 ⟨e1, n1, s1, i1, q1, k1, d1⟩) := Lib.hid hm
      have HBR := Lib.hid hb
      obtain ⟨A9, c9, hfa, hfi⟩ := hv
      obtain ⟨y0, y1, y2⟩ := hfa.cells
      have HFI := Lib.hid hfi
      have HFA := Lib.hid hfa
      by_cases hlt : k < lg.length
      · obtain ⟨x, tl, hxt⟩ : ∃ x tl, lg.drop k = x :: tl := ⟨lg[k], lg.drop (k + 1), List.drop_eq_getElem_cons hlt⟩
        have HXT := Lib.hid hxt
        have HTL : Hid (lg.drop (k + 1) = tl) := Lib.hid (by rw [← List.drop_drop, hxt]; rfl)
        have hrx : rightFi LQ 0 (x :: tl) = true := by rw [← hxt]; exact right_drop HRG.out k
        obtain ⟨hE, hM, hL, -⟩ := take_cons hrx
        have hpc := take_in LQ 0 A9 c9 (x :: tl) wr (HLW.out.below hb) (by rw [← hxt]; exact hfi)
        rw [hE, hM, hL] at hpc
        rw [hxt] at y2
        skip
        obtain ⟨n2, hn2⟩ : ∃ n2 : Nat, n2 = tl.length := ⟨_, rfl⟩
        obtain ⟨n, hn⟩ : ∃ n : Nat, n = n2 + 1 := ⟨_, rfl⟩
        have hxl : (x :: tl).length = n := by rw [List.length_cons, ← hn2, hn]
        rw [hxl] at hpc y2
        have hnp : (0 : Int) < (n : Int) := by omega
        have hw1 : IntKind.i64.wrap ((n : Int) - 1) = (n2 : Int) := by rw [show (n : Int) - 1 = (n2 : Int) by omega]; exact IntWalk.i64_in _ (by have := hfi.few; rw [hxt, hxl] at this; omega)
        obtain ⟨lb, hlb⟩ : ∃ lb, ((n : Int) == 1) = lb := ⟨_, rfl⟩
        have HLB2 : Hid (lb = true → tl.length = 0) := Lib.hid (fun h => by rw [h] at hlb; simp at hlb; omega)
        obtain ⟨ad, hA9, -⟩ := hfi.msgs (by rw [hxt, hxl]; omega)
        subst hA9
        have HX0 : Hid (∀ W, Below wr.heap.size wr W → At7 W ad x) := Lib.hid (fun W h => by
          obtain ⟨ad2, e2, h7⟩ := (HFI.out.on h).at (show (lg.drop k)[0]? = some x by rw [HXT.out]; rfl)
          cases e2; rw [show ad.add (0 * 7) = ad by unfold Addr.add; rfl] at h7; exact h7)
        have HN2 := Lib.hid hn2
        have HNN : Hid ((lg.drop k).length = n) := Lib.hid (by rw [hxt, hxl])
        clear hE hM hL hrx hn2 hn hxl hfa hfi hm hb hxt
        obtain ⟨f1, g1, t1, j1, p1, u1, v1⟩ := x
        go_wp2_with fail; refine hpc.mono ?_; rintro e w9 ⟨A5, c5, rfl, hi5, b5⟩
        have hba := Joins.below_alloc1 w9 (.cells #[.int .i64 LQ, .int .i64 0, .slice A5 tl.length c5] 30)
        have hbb := Joins.below_alloc1 (w9.alloc (.cells #[.int .i64 LQ, .int .i64 0, .slice A5 tl.length c5] 30)) (.cells #[.bool f1, .int .i64 g1, .int .i64 t1, .int .i64 j1, .int .i64 p1, .int .i64 u1, .string v1] 26)
        have hq19 := FiAt.new w9 LQ 0 A5 tl.length c5
        have hm20 := MsgAt.new (w9.alloc (.cells #[.int .i64 LQ, .int .i64 0, .slice A5 tl.length c5] 30)) ⟨f1, g1, t1, j1, p1, u1, v1⟩
        have hab := hba.trans (hbb.mono hba.size)
        have hall := b5.trans (hab.mono b5.size)
        have HQ19 := Lib.hid (hq19.on hbb)
        have HM20 : Hid (MsgAt _ (w9.heap.size + 1) ⟨f1, g1, t1, j1, p1, u1, v1⟩) := Lib.hid (by rw [World.size_alloc] at hm20; exact hm20)
        have HI19 := Lib.hid (hi5.on hab)
        have HV9 := Lib.hid (HV.out.on hall)
        have HQ15 := Lib.hid (HFA.out.on hall)
        have HM9 : Hid (MsgAt _ b11 ⟨e1, n1, s1, i1, q1, k1, d1⟩) := Lib.hid (MsgAt.on HMM.out hall)
        have HB9 := Lib.hid (HBR.out.trans (hall.mono HBR.out.size))
        have HX9 := Lib.hid (HX0.out _ hall)
        have HN19 : Hid (b15 < w9.heap.size) := Lib.hid (Nat.lt_of_lt_of_le HV.out.lt b5.size)
        have HB11 : Hid (b11 < w9.heap.size) := Lib.hid (Nat.lt_of_lt_of_le HMM.out.lt b5.size)
        clear hba hbb hq19 hm20 hab hall hi5 b5 y0 y1 y2 hpc HV HMM HBR HFA HFI HX0 hnp
        simp only [mc] at HM20 HQ19 HI19 HV9 HM9 HB9 HX9 HQ15
        go_upto_region 13 with (fail)
        generalize (w9.alloc (.cells #[.int .i64 LQ, .int .i64 0, .slice A5 tl.length c5] 30)).alloc (.cells #[.bool f1, .int .i64 g1, .int .i64 t1, .int .i64 j1, .int .i64 p1, .int .i64 u1, .string v1] 26) = W at *
        generalize w9.heap.size = b19 at *
        obtain ⟨y0, y1, y2⟩ := HQ15.out.cells
        obtain ⟨z0, z1, z2⟩ := HQ19.out.cells
        rw [HNN.out] at y2
        rw [← HN2.out] at z2
        obtain ⟨a0, a1, a2, a3, a4, a5, a6⟩ := MsgAt.cells HM20.out
        obtain ⟨c0, c1, c2, c3, c4, c5x, c6⟩ := HX9.out
        obtain ⟨q0, q1x, q2, q3, q4, q5, q6⟩ := MsgAt.cells HM9.out
        have hg1 := fun x y W => eqM_guard .neq x y ⟨f1, g1, t1, j1, p1, u1, v1⟩ ⟨f1, g1, t1, j1, p1, u1, v1⟩ W
        have hg2 := neqM ⟨f1, g1, t1, j1, p1, u1, v1⟩ ⟨f1, g1, t1, j1, p1, u1, v1⟩
        have hg3 := fun x y W => eqM_guard .neq x y ⟨f1, g1, t1, j1, p1, u1, v1⟩ ⟨e1, n1, s1, i1, q1, k1, d1⟩ W
        have hg4 := neqM ⟨f1, g1, t1, j1, p1, u1, v1⟩ ⟨e1, n1, s1, i1, q1, k1, d1⟩
        rw [(sameM_iff _ _).2 rfl, Bool.not_true] at hg2
        simp only [mv] at hg1 hg2 hg3 hg4 a0 a1 a2 a3 a4 a5 a6 c0 c1 c2 c3 c4 c5x c6 q0 q1x q2 q3 q4 q5 q6
        have hnp : (0 : Int) < (n : Int) := by have := HNN.out; rw [HXT.out] at this; simp at this; omega
        cases lb
        · generalize sameM (⟨f1, g1, t1, j1, p1, u1, v1⟩ : Msg) ⟨e1, n1, s1, i1, q1, k1, d1⟩ = sm at hg4
          go_quiet (fail)
          go_upto_region 15 with (fail)
          clear a0 a1 a2 a3 a4 a5 a6 c0 c1 c2 c3 c4 c5x c6 q0 q1x q2 q3 q4 q5 q6 hg1 hg2 hg3 hg4 y0 y1 y2 z0 z1 z2
          have HQ15n := Lib.hid (HQ15.out.on (below_drewN (Below.refl _ W) nq))
          have HI19n := Lib.hid (HI19.out.on (below_drewN (Below.refl _ W) nq))
          have HQ19n := Lib.hid (HQ19.out.on (below_drewN (Below.refl _ W) nq))
          have HM9n : Hid (MsgAt _ b11 ⟨e1, n1, s1, i1, q1, k1, d1⟩) := Lib.hid (MsgAt.on HM9.out (below_drewN (Below.refl _ W) nq))
          have HB9n := Lib.hid (below_drewN HB9.out nq)
          generalize W.drewN nq = W2 at *
          have hbb : w.heap.size ≤ b15 := HS15.out
          have hne11 := HNE.out
          have HRL : Hid (FVar (set3 W2 b15 (.int .i64 LQ) (.int .i64 0) (.slice A5 tl.length c5)) b15 LQ 0 (lg.drop (k + 1)) ∧ MsgAt (set3 W2 b15 (.int .i64 LQ) (.int .i64 0) (.slice A5 tl.length c5)) b11 ⟨e1, n1, s1, i1, q1, k1, d1⟩ ∧ Below w.heap.size w (set3 W2 b15 (.int .i64 LQ) (.int .i64 0) (.slice A5 tl.length c5))) := Lib.hid ⟨by rw [HTL.out]; exact ⟨A5, c5, HQ15n.out.set LQ 0 A5 tl.length c5, HI19n.out.farF HQ15n.out _ _ _⟩, MsgAt.put3 HM9n.out hne11 _ _ _, below_set3 HB9n.out hbb _ _ _⟩
          obtain ⟨y0, y1, y2⟩ := HQ15n.out.cells
          have yf := HQ15n.out.frozen
          obtain ⟨z0, z1, z2⟩ := HQ19n.out.cells
          clear hbb hne11
          go_wp2_with fail
          go_roundw
          case rel => exact ⟨k + 1, by omega, HRL.out⟩
          case measure => rw [HML.out, HRL.out.1.len, List.length_drop, List.length_drop]; omega
        · generalize sameM (⟨f1, g1, t1, j1, p1, u1, v1⟩ : Msg) ⟨e1, n1, s1, i1, q1, k1, d1⟩ = sm at hg4
          go_quiet (fail)
          go_upto_region 15 with (fail)
          clear a0 a1 a2 a3 a4 a5 a6 c0 c1 c2 c3 c4 c5x c6 q0 q1x q2 q3 q4 q5 q6 hg1 hg2 hg3 hg4 y0 y1 y2 z0 z1 z2
          have HQ15n := Lib.hid (HQ15.out.on (below_drewN (Below.refl _ W) nq))
          have HI19n := Lib.hid (HI19.out.on (below_drewN (Below.refl _ W) nq))
          have HQ19n := Lib.hid (HQ19.out.on (below_drewN (Below.refl _ W) nq))
          have HM9n : Hid (MsgAt _ b11 ⟨e1, n1, s1, i1, q1, k1, d1⟩) := Lib.hid (MsgAt.on HM9.out (below_drewN (Below.refl _ W) nq))
          have HB9n := Lib.hid (below_drewN HB9.out nq)
          generalize W.drewN nq = W2 at *
          have hbb : w.heap.size ≤ b15 := HS15.out
          have hne11 := HNE.out
          have HRL : Hid (FVar (set3 W2 b15 (.int .i64 LQ) (.int .i64 0) (.slice A5 tl.length c5)) b15 LQ 0 (lg.drop (k + 1)) ∧ MsgAt (set3 W2 b15 (.int .i64 LQ) (.int .i64 0) (.slice A5 tl.length c5)) b11 ⟨e1, n1, s1, i1, q1, k1, d1⟩ ∧ Below w.heap.size w (set3 W2 b15 (.int .i64 LQ) (.int .i64 0) (.slice A5 tl.length c5))) := Lib.hid ⟨by rw [HTL.out]; exact ⟨A5, c5, HQ15n.out.set LQ 0 A5 tl.length c5, HI19n.out.farF HQ15n.out _ _ _⟩, MsgAt.put3 HM9n.out hne11 _ _ _, below_set3 HB9n.out hbb _ _ _⟩
          obtain ⟨y0, y1, y2⟩ := HQ15n.out.cells
          have yf := HQ15n.out.frozen
          obtain ⟨z0, z1, z2⟩ := HQ19n.out.cells
          clear hbb hne11
          go_wp2_with fail
          go_roundw
          case rel => exact ⟨k + 1, by omega, HRL.out⟩
          case measure => rw [HML.out, HRL.out.1.len, List.length_drop, List.length_drop]; omega
      · have hlg : lg.drop k = [] := List.drop_eq_nil_of_le (by omega)
        rw [hlg] at y2
        simp only [List.length_nil] at y2
        clear hfa hfi hm hb
        go_wp2_with fail
        go_ret
        exact ⟨rfl, HBR.out⟩

end Go.Proofs.YtehajmockicilaaDoor

/-
  The law TxqFull, walked.
-/
import Derived.Test.YtmikcgofhlbimaaDoorTxqSeq
import Derived.Deep.DeepCutAuto
namespace Go.Proofs.YtmikcgofhlbimaaDoor
open Go Go.RowKit

/-- Block b is six raw numbers. -/
def RawAt (w : World) (b : Nat) (r : Raw) : Prop := w.heap[b]? = some (.cells #[.int .i64 r.r0, .int .i64 r.r1, .int .i64 r.r2, .int .i64 r.r3, .int .i64 r.r4, .int .i64 r.r5] 23 (0, 0))
theorem RawAt.new (w : World) (r : Raw) : RawAt (w.alloc (.cells #[.int .i64 r.r0, .int .i64 r.r1, .int .i64 r.r2, .int .i64 r.r3, .int .i64 r.r4, .int .i64 r.r5] 23)) w.heap.size r := heap_alloc_new w _
theorem RawAt.on {w w' : World} {b : Nat} {r : Raw} (h : RawAt w b r) (hb : Below w.heap.size w w') : RawAt w' b r := (hb.block b (Array.getElem?_eq_some_iff.1 h).1).trans h
theorem RawAt.cells {w : World} {b : Nat} {r : Raw} (h : RawAt w b r) : w.cell? ⟨b, 0, none⟩ = some (.int .i64 r.r0) ∧ w.cell? ⟨b, 1, none⟩ = some (.int .i64 r.r1) ∧ w.cell? ⟨b, 2, none⟩ = some (.int .i64 r.r2) ∧ w.cell? ⟨b, 3, none⟩ = some (.int .i64 r.r3) ∧ w.cell? ⟨b, 4, none⟩ = some (.int .i64 r.r4) ∧ w.cell? ⟨b, 5, none⟩ = some (.int .i64 r.r5) :=
  ⟨cell_of h 0, cell_of h 1, cell_of h 2, cell_of h 3, cell_of h 4, cell_of h 5⟩
theorem RawAt.far2 {w : World} {g b : Nat} {r : Raw} (h : RawAt w g r) (hg : g ≠ b) (x y : Value) : RawAt ((w.setCell ⟨b, 0, none⟩ x).setCell ⟨b, 1, none⟩ y) g r := (Go.Proofs.YtmikcgofhlbimaaDoor.far2 w x y hg).trans h
theorem sameQ_self (L : Int) (a : List Msg) : sameQ L L a a = true := by unfold sameQ; rw [(sameL_iff a a).2 rfl]; simp
/-- The same raw numbers, numbered on. -/
def fullF (r : Raw) (i : Nat) : Msg := numM r ((i : Int) + 1)
theorem full_ok {L : Int} {N : Nat} (h1 : 1 ≤ L) (h2 : L ≤ 32) (hN : (N : Int) = L) (r : Raw) : SeqOk L N (fullF r) :=
  ⟨h1, h2, by omega, fun i hi => numM_right _ _ (by omega) (by omega), fun i j hi hj hij => by
    show ((i : Int) + 1) ≠ ((j : Int) + 1)
    omega⟩

set_option maxRecDepth 100000 in
set_option maxHeartbeats 8000000 in
theorem txqFull_walk (lim r0 r1 r2 r3 r4 r5 : Int) (hlim : (Lit.int .i64 lim).wf = true) (k0 : (Lit.int .i64 r0).wf = true) (k1 : (Lit.int .i64 r1).wf = true) (k2 : (Lit.int .i64 r2).wf = true) (k3 : (Lit.int .i64 r3).wf = true) (k4 : (Lit.int .i64 r4).wf = true) (k5 : (Lit.int .i64 r5).wf = true) (w : World) (L : Laid w) :
    Calls Tryd.prog 5 #[.int .i64 lim, .agg #[.int .i64 r0, .int .i64 r1, .int .i64 r2, .int .i64 r3, .int .i64 r4, .int .i64 r5]] w fun e w' => e = .returned (.bool true) ∧ Below w.heap.size w w' := by
  have HWF : Hid (WfR ⟨r0, r1, r2, r3, r4, r5⟩) := Lib.hid ⟨k0, k1, k2, k3, k4, k5⟩
  have cP := fun W => pick13_any lim 32 hlim (by omega) W
  have hpl := pickI_range lim 32 (by omega)
  generalize pickI lim 32 = P at *
  obtain ⟨N, hN⟩ : ∃ N : Nat, (N : Int) = 1 + P := ⟨(1 + P).toNat, by omega⟩
  obtain ⟨LQ, hLQ⟩ : ∃ LQ : Int, LQ = 1 + P := ⟨_, rfl⟩
  have hNL : (N : Int) = LQ := by omega
  have hL1 : 1 ≤ LQ := by omega
  have hL2 : LQ ≤ 32 := by omega
  have hPL : 1 + P = LQ := hLQ.symm
  have HPL := Lib.hid hPL
  clear hLQ hN hPL hpl
  have hok := full_ok hL1 hL2 hNL ⟨r0, r1, r2, r3, r4, r5⟩
  have HOK := Lib.hid hok
  have HSP := Lib.hid (seq_spec hok)
  have HPE := Lib.hid (fun k (hk : k < N) => seq_put hok hk)
  have HSD : Hid (∀ k, ∀ x ∈ seqL LQ (fullF ⟨r0, r1, r2, r3, r4, r5⟩) k, x.data.size ≤ 140737488351232) := Lib.hid (seq_data (fun i => numM_data _ _))
  have HSN : Hid (∀ k : Nat, seqL LQ (fullF ⟨r0, r1, r2, r3, r4, r5⟩) (k + 1) = putL LQ (seqL LQ (fullF ⟨r0, r1, r2, r3, r4, r5⟩) k) (numM ⟨r0, r1, r2, r3, r4, r5⟩ ((k : Int) + 1))) := Lib.hid (fun k => rfl)
  have HPP : Hid (∀ k : Nat, k < N → putE LQ (seqL LQ (fullF ⟨r0, r1, r2, r3, r4, r5⟩) k) (numM ⟨r0, r1, r2, r3, r4, r5⟩ ((k : Int) + 1)) = 0) := Lib.hid (fun k hk => seq_put hok hk)
  have hmem : ∀ x, x ∈ seqL LQ (fullF ⟨r0, r1, r2, r3, r4, r5⟩) N ↔ ∃ i, i < N ∧ fullF ⟨r0, r1, r2, r3, r4, r5⟩ i = x := (seq_spec hok N (Nat.le_refl _)).2.2
  have hrN := (seq_spec hok N (Nat.le_refl _)).1
  have hlN := (seq_spec hok N (Nat.le_refl _)).2.1
  have hq0 : seqL LQ (fullF ⟨r0, r1, r2, r3, r4, r5⟩) 0 = [] := rfl
  generalize hqq : seqL LQ (fullF ⟨r0, r1, r2, r3, r4, r5⟩) = q at *
  clear hqq hok
  -- what the queue comes to at the end
  have hE1 : putE LQ (q N) (numM ⟨r0, r1, r2, r3, r4, r5⟩ (LQ + 1)) = 40 := by
    have hn : hasN (q N) (numM ⟨r0, r1, r2, r3, r4, r5⟩ (LQ + 1)).number = false := by
      rw [← Bool.not_eq_true, has_iff]
      rintro ⟨x, hx, e⟩
      obtain ⟨i, hi, rfl⟩ := (hmem x).1 hx
      have : ((i : Int) + 1) = LQ + 1 := e
      omega
    unfold putE
    rw [if_pos hrN, if_pos (numM_right _ _ (by omega) (by omega)), hn, if_neg (by decide), if_pos (by rw [hlN]; exact hNL)]
  have hmN : numM ⟨r0, r1, r2, r3, r4, r5⟩ LQ ∈ q N := (hmem _).2 ⟨N - 1, by omega, by
    show numM _ (((N - 1 : Nat) : Int) + 1) = _
    congr 1; omega⟩
  have hE2 : putE LQ (q N) (numM ⟨r0, r1, r2, r3, r4, r5⟩ LQ) = 42 := by
    have hn : hasN (q N) (numM ⟨r0, r1, r2, r3, r4, r5⟩ LQ).number = true := (has_iff _ _).2 ⟨_, hmN, rfl⟩
    unfold putE
    rw [if_pos hrN, if_pos (numM_right _ _ (by omega) (by omega)), if_pos hn]
  have hA := abort_one hrN hmN
  have hcr := cut_right (i := (q N).findIdx (isNum (numM ⟨r0, r1, r2, r3, r4, r5⟩ LQ).number)) hrN
  rw [numM_number] at hA hcr
  obtain ⟨a1, a2, a3, a4⟩ := hA
  have hcd : ∀ x ∈ cutL LQ (q N) ((q N).findIdx (isNum LQ)), x.data.size ≤ 140737488351232 := fun x hx => HSD.out N x (cutL_mem hx)
  have hCA : ∀ A8 c8 W, Laid W → QIn W A8 c8 (q N) → Calls Tryd.prog 24 #[qv LQ A8 (q N).length c8, .int .i64 LQ] W (TakePost LQ A8 (q N) ((q N).findIdx (isNum LQ)) W) := fun A8 c8 W h1 h2 => abortQ_any LQ A8 c8 (q N) LQ W h1 h2
  obtain ⟨lc, hlc⟩ : ∃ lc, cutL LQ (q N) ((q N).findIdx (isNum LQ)) = lc := ⟨_, rfl⟩
  rw [hlc] at a3 a4 hcr hcd
  have hE3 := put_fits (m := numM ⟨r0, r1, r2, r3, r4, r5⟩ LQ) hcr (numM_right _ _ (by omega) (by omega)) (fun x hx e => by
    obtain ⟨h5, h6⟩ := (a3 x).1 hx
    have hun := (rightQ_parts hrN).2.2.unlike
    obtain ⟨i, hi, e1⟩ := List.getElem_of_mem h5
    obtain ⟨j, hj, e2⟩ := List.getElem_of_mem hmN
    rcases Nat.lt_trichotomy i j with h7 | h7 | h7
    · have := List.pairwise_iff_getElem.1 hun i j hi hj h7; rw [e1, e2] at this; exact this e
    · subst h7; exact h6 (e1.symm.trans e2)
    · have := List.pairwise_iff_getElem.1 hun j i hj hi h7; rw [e1, e2] at this; exact this e.symm) (by rw [hlN] at a4; omega)
  have hE4 : putL LQ lc (numM ⟨r0, r1, r2, r3, r4, r5⟩ LQ) = q N := right_one (putL_right hcr) hrN (fun x => by
    rw [put_mem hE3.1, a3]
    constructor
    · rintro (rfl | h)
      · exact hmN
      · exact h.1
    · intro h
      by_cases hx : x = numM ⟨r0, r1, r2, r3, r4, r5⟩ LQ
      · exact .inl hx
      · exact .inr ⟨h, hx⟩)
  have HEND := Lib.hid (And.intro (And.intro hE1 hE2) (And.intro hE3.1 hE4))
  have HCUT := Lib.hid (And.intro a1 (And.intro a2 hlc))
  have hlc2 : lc.length ≤ 200 := by rw [hlN] at a4; omega
  have HLC : Hid (lc.length + 1 = N) := Lib.hid (by rw [hlN] at a4; exact a4)
  have HCD := Lib.hid hcd
  have HCA := Lib.hid hCA
  have HRN := Lib.hid hrN
  have HLN := Lib.hid hlN
  have HQ0 := Lib.hid hq0
  have hN32 : N ≤ 32 := by omega
  have HNL := Lib.hid hNL
  clear hE1 hE2 hE3 hE4 hmN hrN hlN hmem a1 a2 a3 a4 hcr hcd hCA hlc hq0
  have cn := fun W => new_any LQ W
  have hnl : newL LQ = LQ := by unfold newL; rw [(limB_iff LQ).2 ⟨hL1, hL2⟩, if_pos rfl]
  have hne : newE LQ = 0 := by unfold newE; rw [(limB_iff LQ).2 ⟨hL1, hL2⟩, if_pos rfl]
  rw [hnl, hne] at cn
  have HCN := Lib.hid cn
  have hraw := RawAt.new w ⟨r0, r1, r2, r3, r4, r5⟩
  have hb1 := Joins.below_alloc1 w (.cells #[.int .i64 r0, .int .i64 r1, .int .i64 r2, .int .i64 r3, .int .i64 r4, .int .i64 r5] 23)
  have HRB := Lib.hid hraw
  have HB := Lib.hid hb1
  have HLL := Lib.hid L
  have cA := fun W LL => awake_any W LL
  have HCA0 := Lib.hid cA
  have HCP := Lib.hid cP
  clear hnl hne cn hraw hb1 L cA cP k0 k1 k2 k3 k4 k5 hlim
  go_enter Tryd.func5, Tryd.ntmps5
  go_wp2_with fail; refine (HCA0.out _ (HLL.out.below HB.out)).mono ?_; rintro e w1 ⟨rfl, b1⟩
  have HRB1 := Lib.hid (HRB.out.on b1); clear HRB; have HRB := HRB1; clear HRB1
  have HB1 := Lib.hid (HB.out.trans (b1.mono HB.out.size)); clear HB; have HB := HB1; clear HB1
  clear b1
  have cP := HCP.out
  have hpl := HPL.out
  go_wp2_with fail; refine (cP _).mono ?_; rintro e w2 ⟨rfl, rfl⟩
  clear cP
  have cn := HCN.out
  go_wp2_with fail; refine (cn _).mono ?_; rintro e w2 ⟨rfl, b2⟩
  have hb := Joins.below_alloc1 w2 (.cells #[.int .i64 LQ, .slice none 0 0] 31)
  have hq := QVar.new (Bs := []) (w := w2) (L := LQ) (l := []) (A := none) (c := 0) ⟨Msgs.nil _ _ _, Nat.le_refl _, by decide, (fun m h => by cases h), fun ad e => by cases e⟩ (off_none _)
  simp only [List.length_nil] at hq
  have HQV := Lib.hid hq
  have HS7 : Hid (w.heap.size < w2.heap.size) := Lib.hid (Nat.lt_of_lt_of_le (Array.getElem?_eq_some_iff.1 HRB.out).1 b2.size)
  have HRB1 := Lib.hid ((HRB.out.on b2).on hb); clear HRB; have HRB := HRB1; clear HRB1
  have HB1 := Lib.hid ((HB.out.trans (b2.mono HB.out.size)).trans (hb.mono (Nat.le_trans HB.out.size b2.size))); clear HB; have HB := HB1; clear HB1
  clear b2 hb hq cn hpl HCN HCP HCA0
  go_wp2_with fail
  generalize hW1 : w2.alloc (.cells #[.int .i64 LQ, .slice none 0 0] 31) = W1 at *
  clear hW1
  generalize w2.heap.size = b7 at *
  go_loopw [9] (fun i wr => ∃ k : Nat, k ≤ N ∧ i = .int .i64 k ∧ QVar [b7] wr b7 LQ (q k) ∧ Below w.heap.size w wr ∧ RawAt wr w.heap.size ⟨r0, r1, r2, r3, r4, r5⟩) (fun i _ => N - (intOf i).toNat)
  case atStart => exact ⟨0, by omega, rfl, by rw [HQ0.out]; exact HQV.out, HB.out, HRB.out⟩
  case round =>
    obtain ⟨k, hk, rfl, hqv, hb, hrb⟩ := hrel
    clear HQV HB HRB
    have HQV := Lib.hid hqv
    have HB := Lib.hid hb
    have HRB := Lib.hid hrb
    clear hqv hb hrb
    by_cases hlt : k < N
    · have hltI : (k : Int) < LQ := by have := HNL.out; omega
      obtain ⟨Aq, cq, hqa, hqi, hqo⟩ := HQV.out
      have HQA := Lib.hid hqa
      have HRAW : Hid (∀ W, Below wr.heap.size wr W → W.cell? ⟨w.heap.size, 0, none⟩ = some (.int .i64 r0) ∧ W.cell? ⟨w.heap.size, 1, none⟩ = some (.int .i64 r1) ∧ W.cell? ⟨w.heap.size, 2, none⟩ = some (.int .i64 r2) ∧ W.cell? ⟨w.heap.size, 3, none⟩ = some (.int .i64 r3) ∧ W.cell? ⟨w.heap.size, 4, none⟩ = some (.int .i64 r4) ∧ W.cell? ⟨w.heap.size, 5, none⟩ = some (.int .i64 r5)) := Lib.hid (fun W h => RawAt.cells (HRB.out.on h))
      have CN : Hid (∀ W, Calls Tryd.prog 21 #[rv ⟨r0, r1, r2, r3, r4, r5⟩, .int .i64 ((k : Int) + 1)] W fun e w' => e = .returned (mv (numM ⟨r0, r1, r2, r3, r4, r5⟩ ((k : Int) + 1))) ∧ Below W.heap.size W w') := Lib.hid (fun W => numM_any _ HWF.out _ W)
      have CP : Hid (∀ W, Below wr.heap.size wr W → Calls Tryd.prog 22 #[qv LQ Aq (q k).length cq, mv (numM ⟨r0, r1, r2, r3, r4, r5⟩ ((k : Int) + 1))] W fun e w' => ∃ A5 c5, e = .returned (.tuple #[qv LQ A5 (q (k + 1)).length c5, .int .i64 0]) ∧ QIn w' A5 c5 (q (k + 1)) ∧ OffB [b7] A5 ∧ Below W.heap.size W w') := Lib.hid (fun W hW => put_var LQ Aq cq (q k) _ [b7] W (HLL.out.below (HB.out.trans (hW.mono HB.out.size))) (hqi.on hW) hqo (fun x hx => by simp only [List.mem_singleton] at hx; subst hx; exact Nat.lt_of_lt_of_le HQV.out.lt hW.size) (numM_data _ _) (by rw [(HSP.out k (by omega)).2.1]; omega) 0 _ (HPP.out k hlt) (HSN.out k).symm)
      clear hqa hqi hqo
      have HL1 : Hid ((q (k + 1)).length = k + 1) := Lib.hid (HSP.out (k + 1) (by omega)).2.1
      generalize hl0 : q k = l0 at *
      generalize hl1 : q (k + 1) = l1 at *
      have HL11 := Lib.hid hl1
      clear hl0 hl1
      generalize numM ⟨r0, r1, r2, r3, r4, r5⟩ ((k : Int) + 1) = m at *
      obtain ⟨e1, n1, s1, i1, q1, k1, d1⟩ := m
      simp only [mv, rv] at CN CP
      have hw1 : IntKind.i64.wrap ((k : Int) + 1) = (k : Int) + 1 := IntWalk.i64_in _ (by omega)
      go_upto_region 7 with (fail)
      have HV : ∃ Vp : Nat → (Nat → Value) → World → Prop, Vp = (fun ix u wv => match ix with
        | 0 => u 0 = .agg #[.int .i64 LQ, .slice Aq l0.length cq]
        | 1 => u 1 = .agg #[.int .i64 r0, .int .i64 r1, .int .i64 r2, .int .i64 r3, .int .i64 r4, .int .i64 r5]
        | 2 => u 2 = .int .i64 (k : Int)
        | 3 => u 3 = .int .i64 ((k : Int) + 1)
        | 4 => u 4 = .agg #[.bool e1, .int .i64 n1, .int .i64 s1, .int .i64 i1, .int .i64 q1, .int .i64 k1, .string d1]
        | 5 => ∃ A5 c5, u 5 = .tuple #[.agg #[.int .i64 LQ, .slice A5 l1.length c5], .int .i64 0] ∧ QIn wv A5 c5 l1 ∧ OffB [b7] A5
        | 6 => ∃ A5 c5, u 6 = .tuple #[.agg #[.int .i64 LQ, .slice A5 l1.length c5], .int .i64 0] ∧ QIn wv A5 c5 l1 ∧ OffB [b7] A5
        | 7 => ∃ A5 c5, u 7 = .agg #[.int .i64 LQ, .slice A5 l1.length c5] ∧ QIn wv A5 c5 l1 ∧ OffB [b7] A5
        | 8 => u 8 = .int .i64 0
        | 9 => ∃ g, u 9 = .pointer (some ⟨g, 0, none⟩) ∧ wr.heap.size ≤ g ∧ QAt wv g 0 none 0 0
        | 10 => ∃ g, u 9 = .pointer (some ⟨g, 0, none⟩) ∧ wr.heap.size ≤ g ∧ QVar [b7] wv g LQ l1
        | 11 => u 11 = .int .i64 0
        | _ => True) := ⟨_, rfl⟩
      obtain ⟨Vp, hVdef⟩ := HV
      have Vp0 : ∀ u wv, Vp 0 u wv = (u 0 = .agg #[.int .i64 LQ, .slice Aq l0.length cq]) := fun u wv => by subst hVdef; rfl
      have Vp1 : ∀ u wv, Vp 1 u wv = (u 1 = .agg #[.int .i64 r0, .int .i64 r1, .int .i64 r2, .int .i64 r3, .int .i64 r4, .int .i64 r5]) := fun u wv => by subst hVdef; rfl
      have Vp2 : ∀ u wv, Vp 2 u wv = (u 2 = .int .i64 (k : Int)) := fun u wv => by subst hVdef; rfl
      have Vp3 : ∀ u wv, Vp 3 u wv = (u 3 = .int .i64 ((k : Int) + 1)) := fun u wv => by subst hVdef; rfl
      have Vp4 : ∀ u wv, Vp 4 u wv = (u 4 = .agg #[.bool e1, .int .i64 n1, .int .i64 s1, .int .i64 i1, .int .i64 q1, .int .i64 k1, .string d1]) := fun u wv => by subst hVdef; rfl
      have Vp5 : ∀ u wv, Vp 5 u wv = (∃ A5 c5, u 5 = .tuple #[.agg #[.int .i64 LQ, .slice A5 l1.length c5], .int .i64 0] ∧ QIn wv A5 c5 l1 ∧ OffB [b7] A5) := fun u wv => by subst hVdef; rfl
      have Vp6 : ∀ u wv, Vp 6 u wv = (∃ A5 c5, u 6 = .tuple #[.agg #[.int .i64 LQ, .slice A5 l1.length c5], .int .i64 0] ∧ QIn wv A5 c5 l1 ∧ OffB [b7] A5) := fun u wv => by subst hVdef; rfl
      have Vp7 : ∀ u wv, Vp 7 u wv = (∃ A5 c5, u 7 = .agg #[.int .i64 LQ, .slice A5 l1.length c5] ∧ QIn wv A5 c5 l1 ∧ OffB [b7] A5) := fun u wv => by subst hVdef; rfl
      have Vp8 : ∀ u wv, Vp 8 u wv = (u 8 = .int .i64 0) := fun u wv => by subst hVdef; rfl
      have Vp9 : ∀ u wv, Vp 9 u wv = (∃ g, u 9 = .pointer (some ⟨g, 0, none⟩) ∧ wr.heap.size ≤ g ∧ QAt wv g 0 none 0 0) := fun u wv => by subst hVdef; rfl
      have Vp10 : ∀ u wv, Vp 10 u wv = (∃ g, u 9 = .pointer (some ⟨g, 0, none⟩) ∧ wr.heap.size ≤ g ∧ QVar [b7] wv g LQ l1) := fun u wv => by subst hVdef; rfl
      have Vp11 : ∀ u wv, Vp 11 u wv = (u 11 = .int .i64 0) := fun u wv => by subst hVdef; rfl
      have HVD := Lib.hid hVdef
      clear hVdef
      refine region_phase (V := Vp) (drop := fun jx ix => (jx == 10 && ix == 9)) (G := fun L wv => Below wr.heap.size wr wv) (Rel := fun jx wv wv' => (jx = 10 ∧ (∃ g x y, QAt wv g 0 none 0 0 ∧ wv' = (wv.setCell ⟨g, 0, none⟩ x).setCell ⟨g, 1, none⟩ y)) ∨ Below wv.heap.size wv wv') (by kernel_rfl) (by kernel_rfl) (Below.refl _ _).drew ?hmonop1 ?hdepp1 ⟨?s0_p1, ?s1_p1, ?s2_p1, ?s3_p1, ?s4_p1, ?s5_p1, ?s6_p1, ?s7_p1, ?s8_p1, ?s9_p1, ?s10_p1, ?s11_p1, trivial⟩ ?behindp1
      case hmonop1 =>
        intro ix jx u wv wv' hij hw hd hr
        rw [HVD.out]
        dsimp only
        split <;> intro h <;> first | exact trivial | exact h | (rcases hr with ⟨rfl, hpk⟩ | hb; (focus first | exact absurd rfl hij | (simp at hd; done) | (obtain ⟨A5, c5, e, hi5, ho5⟩ := h; obtain ⟨g, x, y, hgq, rfl⟩ := hpk; exact ⟨A5, c5, e, hi5.farQ hgq x y, ho5⟩) | (exact Bool.noConfusion (hw.symm.trans (show _ = true from by kernel_rfl)))); (first | (obtain ⟨A5, c5, e, hi5, ho5⟩ := h; exact ⟨A5, c5, e, hi5.on hb, ho5⟩) | (obtain ⟨g, e, hg, hm⟩ := h; exact ⟨g, e, hg, hm.on hb⟩) | (obtain ⟨g, e, hg, hm⟩ := h; exact ⟨g, e, hg, hm.on hb⟩)))
      case hdepp1 =>
        intro ix u u' wv h1 h2
        rw [HVD.out]
        dsimp only
        split <;> intro h <;> first | exact trivial | (rw [← h1]; exact h) | (obtain ⟨g, e, h⟩ := h; exact ⟨g, (h2 9 (by kernel_rfl)).symm.trans e, h⟩) | exact h
      case s0_p1 =>
        refine oweP rfl fun a wx val L hG hi hW hV hN hO K hK => ?_
        have e7 : a.tmps[7]? = some (.pointer (some ⟨b7, 0, none⟩)) := (hO 7 (by kernel_rfl)).trans (by rfl)
        clear hV hN hO
        obtain ⟨v0, v1⟩ := (HQA.out.on hG).cells
        go_simp
        exact hK.out _ _ (by rw [Vp0, upd_at] <;> (congr 1 <;> omega)) (.inr (Below.refl _ _)) (hG)
      case s1_p1 =>
        refine oweP rfl fun a wx val L hG hi hW hV hN hO K hK => ?_
        have e3 : a.tmps[3]? = some (.pointer (some ⟨w.heap.size, 0, none⟩)) := (hO 3 (by kernel_rfl)).trans (by rfl)
        clear hV hN hO
        obtain ⟨x0, x1, x2, x3, x4, x5⟩ := HRAW.out _ hG
        go_simp
        exact hK.out _ _ (by rw [Vp1, upd_at] <;> (congr 1 <;> omega)) (.inr (Below.refl _ _)) (hG)
      case s2_p1 =>
        refine oweP rfl fun a wx val L hG hi hW hV hN hO K hK => ?_
        have e9 : a.tmps[9]? = some (.int .i64 (k : Int)) := (hO 9 (by kernel_rfl)).trans (by rfl)
        clear hV hN hO
        go_simp
        exact hK.out _ _ (by rw [Vp2, upd_at] <;> (congr 1 <;> omega)) (.inr (Below.refl _ _)) (hG)
      case s3_p1 =>
        refine oweP rfl fun a wx val L hG hi hW hV hN hO K hK => ?_
        have e38 := hN 2 38 (by kernel_rfl) (by kernel_rfl) (by simp)
        have f38 := hV 2 (by kernel_rfl) (by kernel_rfl)
        rw [Vp2] at f38; rw [f38] at e38; clear f38
        clear hV hN hO
        go_simp
        exact hK.out _ _ (by rw [Vp3, upd_at] <;> (congr 1 <;> omega)) (.inr (Below.refl _ _)) (hG)
      case s4_p1 =>
        refine oweP rfl fun a wx val L hG hi hW hV hN hO K hK => ?_
        have e37 := hN 1 37 (by kernel_rfl) (by kernel_rfl) (by simp)
        have f37 := hV 1 (by kernel_rfl) (by kernel_rfl)
        rw [Vp1] at f37; rw [f37] at e37; clear f37
        have e39 := hN 3 39 (by kernel_rfl) (by kernel_rfl) (by simp)
        have f39 := hV 3 (by kernel_rfl) (by kernel_rfl)
        rw [Vp3] at f39; rw [f39] at e39; clear f39
        clear hV hN hO
        go_simp
        refine (CN.out _).mono ?_
        rintro e w11 ⟨rfl, hb⟩
        exact hK.out _ _ (by rw [Vp4, upd_at]) (.inr (hb)) (hG.trans (hb.mono hG.size))
      case s5_p1 =>
        refine oweP rfl fun a wx val L hG hi hW hV hN hO K hK => ?_
        have e36 := hN 0 36 (by kernel_rfl) (by kernel_rfl) (by simp)
        have f36 := hV 0 (by kernel_rfl) (by kernel_rfl)
        rw [Vp0] at f36; rw [f36] at e36; clear f36
        have e40 := hN 4 40 (by kernel_rfl) (by kernel_rfl) (by simp)
        have f40 := hV 4 (by kernel_rfl) (by kernel_rfl)
        rw [Vp4] at f40; rw [f40] at e40; clear f40
        clear hV hN hO
        go_simp
        refine (CP.out _ hG).mono ?_
        rintro e w11 ⟨A5, c5, rfl, hi5, ho5, hb⟩
        exact hK.out _ _ (by rw [Vp5, upd_at]; exact ⟨A5, c5, rfl, hi5, ho5⟩) (.inr hb) (hG.trans (hb.mono hG.size))
      case s6_p1 =>
        refine oweP rfl fun a wx val L hG hi hW hV hN hO K hK => ?_
        have e41 := hN 5 41 (by kernel_rfl) (by kernel_rfl) (by simp)
        have f41 := hV 5 (by kernel_rfl) (by kernel_rfl)
        rw [Vp5] at f41; obtain ⟨A5, c5, hv, hi5, ho5⟩ := f41; rw [hv] at e41
        clear hV hN hO
        go_simp
        exact hK.out _ _ (by rw [Vp6, upd_at]; exact ⟨A5, c5, rfl, hi5, ho5⟩) (.inr (Below.refl _ _)) (hG)
      case s7_p1 =>
        refine oweP rfl fun a wx val L hG hi hW hV hN hO K hK => ?_
        have e35 := hN 6 35 (by kernel_rfl) (by kernel_rfl) (by simp)
        have f35 := hV 6 (by kernel_rfl) (by kernel_rfl)
        rw [Vp6] at f35; obtain ⟨A5, c5, hv, hi5, ho5⟩ := f35; rw [hv] at e35
        clear hV hN hO
        go_simp
        exact hK.out _ _ (by rw [Vp7, upd_at]; exact ⟨A5, c5, rfl, hi5, ho5⟩) (.inr (Below.refl _ _)) (hG)
      case s8_p1 =>
        refine oweP rfl fun a wx val L hG hi hW hV hN hO K hK => ?_
        have e35 := hN 6 35 (by kernel_rfl) (by kernel_rfl) (by simp)
        have f35 := hV 6 (by kernel_rfl) (by kernel_rfl)
        rw [Vp6] at f35; obtain ⟨A5, c5, hv, hi5, ho5⟩ := f35; rw [hv] at e35
        clear hV hN hO
        go_simp
        exact hK.out _ _ (by rw [Vp8, upd_at]) (.inr (Below.refl _ _)) (hG)
      case s9_p1 =>
        refine oweP rfl fun a wx val L hG hi hW hV hN hO K hK => ?_
        clear hV hN hO
        go_simp
        have hb := Joins.below_alloc1 wx (.cells #[.int .i64 0, .slice none 0 0] 31)
        exact hK.out _ _ (by rw [Vp9, upd_at]; exact ⟨_, rfl, hG.size, QAt.new wx 0 none 0 0⟩) (.inr hb) (hG.trans (hb.mono hG.size))
      case s10_p1 =>
        refine oweP rfl fun a wx val L hG hi hW hV hN hO K hK => ?_
        have e10 := hN 9 10 (by kernel_rfl) (by kernel_rfl) (by simp)
        have f10 := hV 9 (by kernel_rfl) (by kernel_rfl)
        rw [Vp9] at f10; obtain ⟨g, hva, hg9, hgg⟩ := f10; rw [hva] at e10
        have e42 := hN 7 42 (by kernel_rfl) (by kernel_rfl) (by simp)
        have f42 := hV 7 (by kernel_rfl) (by kernel_rfl)
        rw [Vp7] at f42; obtain ⟨A5, c5, hv, hi5, ho5⟩ := f42; rw [hv] at e42
        clear hV hN hO
        obtain ⟨v0, v1⟩ := hgg.cells
        have vf := hgg.frozen
        have hs9 := hG.size
        have hbs := below_set2 hG (b := g) hg9 (.int .i64 LQ) (.slice A5 l1.length c5)
        have hqn : QVar [b7] ((wx.setCell ⟨g, 0, none⟩ (.int .i64 LQ)).setCell ⟨g, 1, none⟩ (.slice A5 l1.length c5)) g LQ l1 := ⟨A5, c5, hgg.set LQ A5 l1.length c5, hi5.farQ hgg _ _, ho5⟩
        have hpk : ∃ g0 x y, QAt wx g0 0 none 0 0 ∧ ((wx.setCell ⟨g, 0, none⟩ (.int .i64 LQ)).setCell ⟨g, 1, none⟩ (.slice A5 l1.length c5)) = (wx.setCell ⟨g0, 0, none⟩ x).setCell ⟨g0, 1, none⟩ y := ⟨g, _, _, hgg, rfl⟩
        clear hs9
        go_simp
        exact hK.out undef _ (by rw [Vp10, upd_ne _ _ (by decide)]; exact ⟨g, hva, hg9, hqn⟩) (.inl ⟨rfl, hpk⟩) hbs
      case s11_p1 =>
        refine oweP rfl fun a wx val L hG hi hW hV hN hO K hK => ?_
        have e43 := hN 8 43 (by kernel_rfl) (by kernel_rfl) (by simp)
        have f43 := hV 8 (by kernel_rfl) (by kernel_rfl)
        rw [Vp8] at f43; rw [f43] at e43; clear f43
        clear hV hN hO
        go_simp
        exact hK.out _ _ (by rw [Vp11, upd_at] <;> (congr 1 <;> omega)) (.inr (Below.refl _ _)) (hG)
      intro val wx L hG hV
      have f0 := hV 0 (by simp) (fun _ _ => by simp)
      rw [Vp0] at f0
      have f1 := hV 1 (by simp) (fun _ _ => by simp)
      rw [Vp1] at f1
      have f2 := hV 2 (by simp) (fun _ _ => by simp)
      rw [Vp2] at f2
      have f3 := hV 3 (by simp) (fun _ _ => by simp)
      rw [Vp3] at f3
      have f4 := hV 4 (by simp) (fun _ _ => by simp)
      rw [Vp4] at f4
      have f5 := hV 5 (by simp) (fun _ _ => by simp)
      rw [Vp5] at f5
      have f6 := hV 6 (by simp) (fun _ _ => by simp)
      rw [Vp6] at f6
      have f7 := hV 7 (by simp) (fun _ _ => by simp)
      rw [Vp7] at f7
      have f8 := hV 8 (by simp) (fun _ _ => by simp)
      rw [Vp8] at f8
      have f10 := hV 10 (by simp) (fun _ _ => by simp)
      rw [Vp10] at f10
      have f11 := hV 11 (by simp) (fun _ _ => by simp)
      rw [Vp11] at f11
      clear hV Vp0 Vp1 Vp2 Vp3 Vp4 Vp5 Vp6 Vp7 Vp8 Vp9 Vp10 Vp11
      simp only [putAll, Act.put, List.setIfInBounds_toArray, List.set_cons_zero, List.set_cons_succ]
      generalize val 0 = z0 at *; (subst f0)
      generalize val 1 = z1 at *; (subst f1)
      generalize val 2 = z2 at *; (subst f2)
      generalize val 3 = z3 at *; (subst f3)
      generalize val 4 = z4 at *; (subst f4)
      generalize val 5 = z5 at *
      generalize val 6 = z6 at *
      generalize val 7 = z7 at *
      generalize val 8 = z8 at *; (subst f8)
      generalize val 9 = z9 at *
      generalize val 11 = z11 at *; (subst f11)
      clear HVD
      obtain ⟨g, hz9, hg9, hqn⟩ := f10
      subst hz9
      have HQN := Lib.hid hqn
      have HQV1 := Lib.hid (QVar.on HQV.out hG)
      have HB1 := Lib.hid (HB.out.trans (hG.mono HB.out.size))
      have HRB1 := Lib.hid (HRB.out.on hG)
      have HGN : Hid (b7 ≠ g) := Lib.hid (by have := HQV.out.lt; omega)
      clear hqn hG f5 f6 f7 hw1 CN CP HRAW HQA
      obtain ⟨A5, c5, hqa, hqi, hqo⟩ := HQN.out
      obtain ⟨y0, y1⟩ := hqa.cells
      obtain ⟨Ao, co, hqb, hqj, hqp⟩ := HQV1.out
      obtain ⟨z0, z1⟩ := hqb.cells
      have zf := hqb.frozen
      have hlen : ((l1.length : Int) != (k : Int) + 1) = false := by rw [HL1.out]; simp
      have HQS := Lib.hid (QVar.store HQV1.out (L' := LQ) hqi hqo (by simp))
      have HBS := Lib.hid (below_set2 HB1.out (b := b7) (by have := HS7.out; omega) (.int .i64 LQ) (.slice A5 l1.length c5))
      have HRS := Lib.hid (HRB1.out.far2 (b := b7) (by have := HS7.out; omega) (.int .i64 LQ) (.slice A5 l1.length c5))
      clear hqa hqi hqo hqb hqj hqp
      go_wp2_with fail
      go_roundw
      case rel => exact ⟨k + 1, by omega, by go_num, by rw [HL11.out]; exact HQS.out, HBS.out, HRS.out⟩
      case measure => simp [intOf]; omega
    · have hltI : ¬ (k : Int) < LQ := by have := HNL.out; omega
      have hkN : k = N := by omega
      subst hkN
      clear hlt hk
      obtain ⟨Aq, cq, hqa, hqi, hqo⟩ := HQV.out
      have HQA := Lib.hid hqa
      have HRAW : Hid (∀ W, Below wr.heap.size wr W → W.cell? ⟨w.heap.size, 0, none⟩ = some (.int .i64 r0) ∧ W.cell? ⟨w.heap.size, 1, none⟩ = some (.int .i64 r1) ∧ W.cell? ⟨w.heap.size, 2, none⟩ = some (.int .i64 r2) ∧ W.cell? ⟨w.heap.size, 3, none⟩ = some (.int .i64 r3) ∧ W.cell? ⟨w.heap.size, 4, none⟩ = some (.int .i64 r4) ∧ W.cell? ⟨w.heap.size, 5, none⟩ = some (.int .i64 r5)) := Lib.hid (fun W h => RawAt.cells (HRB.out.on h))
      have CN : Hid (∀ W, Calls Tryd.prog 21 #[rv ⟨r0, r1, r2, r3, r4, r5⟩, .int .i64 (LQ + 1)] W fun e w' => e = .returned (mv (numM ⟨r0, r1, r2, r3, r4, r5⟩ (LQ + 1))) ∧ Below W.heap.size W w') := Lib.hid (fun W => numM_any _ HWF.out _ W)
      have CP : Hid (∀ W, Below wr.heap.size wr W → Calls Tryd.prog 22 #[qv LQ Aq (q k).length cq, mv (numM ⟨r0, r1, r2, r3, r4, r5⟩ (LQ + 1))] W fun e w' => ∃ A5 c5, e = .returned (.tuple #[qv LQ A5 (q k).length c5, .int .i64 40]) ∧ QIn w' A5 c5 (q k) ∧ OffB [b7] A5 ∧ Below W.heap.size W w') := Lib.hid (fun W hW => put_var LQ Aq cq (q k) _ [b7] W (HLL.out.below (HB.out.trans (hW.mono HB.out.size))) (hqi.on hW) hqo (fun x hx => by simp only [List.mem_singleton] at hx; subst hx; exact Nat.lt_of_lt_of_le HQV.out.lt hW.size) (numM_data _ _) (by rw [HLN.out]; omega) 40 _ HEND.out.1.1 (by unfold putL; rw [HEND.out.1.1, if_neg (by decide)]))
      clear hqa hqi hqo
      generalize numM ⟨r0, r1, r2, r3, r4, r5⟩ (LQ + 1) = m at *
      obtain ⟨e1, n1, s1, i1, q1, k1, d1⟩ := m
      simp only [mv, rv] at CN CP
      have hw1 : IntKind.i64.wrap (LQ + 1) = LQ + 1 := IntWalk.i64_in _ (by omega)
      go_upto_region 11 with (fail)
      have HV : ∃ Vp : Nat → (Nat → Value) → World → Prop, Vp = (fun ix u wv => match ix with
        | 0 => u 0 = .agg #[.int .i64 LQ, .slice Aq (q k).length cq]
        | 1 => u 1 = .agg #[.int .i64 r0, .int .i64 r1, .int .i64 r2, .int .i64 r3, .int .i64 r4, .int .i64 r5]
        | 2 => u 2 = .int .i64 LQ
        | 3 => u 3 = .int .i64 (LQ + 1)
        | 4 => u 4 = .agg #[.bool e1, .int .i64 n1, .int .i64 s1, .int .i64 i1, .int .i64 q1, .int .i64 k1, .string d1]
        | 5 => ∃ A5 c5, u 5 = .tuple #[.agg #[.int .i64 LQ, .slice A5 (q k).length c5], .int .i64 40] ∧ QIn wv A5 c5 (q k) ∧ OffB [b7] A5
        | 6 => ∃ A5 c5, u 6 = .tuple #[.agg #[.int .i64 LQ, .slice A5 (q k).length c5], .int .i64 40] ∧ QIn wv A5 c5 (q k) ∧ OffB [b7] A5
        | 7 => ∃ A5 c5, u 7 = .agg #[.int .i64 LQ, .slice A5 (q k).length c5] ∧ QIn wv A5 c5 (q k) ∧ OffB [b7] A5
        | 8 => u 8 = .int .i64 40
        | 9 => ∃ g, u 9 = .pointer (some ⟨g, 0, none⟩) ∧ wr.heap.size ≤ g ∧ QAt wv g 0 none 0 0
        | 10 => ∃ g, u 9 = .pointer (some ⟨g, 0, none⟩) ∧ wr.heap.size ≤ g ∧ QVar [b7] wv g LQ (q k)
        | 11 => u 11 = .int .i64 40
        | _ => True) := ⟨_, rfl⟩
      obtain ⟨Vp, hVdef⟩ := HV
      have Vp0 : ∀ u wv, Vp 0 u wv = (u 0 = .agg #[.int .i64 LQ, .slice Aq (q k).length cq]) := fun u wv => by subst hVdef; rfl
      have Vp1 : ∀ u wv, Vp 1 u wv = (u 1 = .agg #[.int .i64 r0, .int .i64 r1, .int .i64 r2, .int .i64 r3, .int .i64 r4, .int .i64 r5]) := fun u wv => by subst hVdef; rfl
      have Vp2 : ∀ u wv, Vp 2 u wv = (u 2 = .int .i64 LQ) := fun u wv => by subst hVdef; rfl
      have Vp3 : ∀ u wv, Vp 3 u wv = (u 3 = .int .i64 (LQ + 1)) := fun u wv => by subst hVdef; rfl
      have Vp4 : ∀ u wv, Vp 4 u wv = (u 4 = .agg #[.bool e1, .int .i64 n1, .int .i64 s1, .int .i64 i1, .int .i64 q1, .int .i64 k1, .string d1]) := fun u wv => by subst hVdef; rfl
      have Vp5 : ∀ u wv, Vp 5 u wv = (∃ A5 c5, u 5 = .tuple #[.agg #[.int .i64 LQ, .slice A5 (q k).length c5], .int .i64 40] ∧ QIn wv A5 c5 (q k) ∧ OffB [b7] A5) := fun u wv => by subst hVdef; rfl
      have Vp6 : ∀ u wv, Vp 6 u wv = (∃ A5 c5, u 6 = .tuple #[.agg #[.int .i64 LQ, .slice A5 (q k).length c5], .int .i64 40] ∧ QIn wv A5 c5 (q k) ∧ OffB [b7] A5) := fun u wv => by subst hVdef; rfl
      have Vp7 : ∀ u wv, Vp 7 u wv = (∃ A5 c5, u 7 = .agg #[.int .i64 LQ, .slice A5 (q k).length c5] ∧ QIn wv A5 c5 (q k) ∧ OffB [b7] A5) := fun u wv => by subst hVdef; rfl
      have Vp8 : ∀ u wv, Vp 8 u wv = (u 8 = .int .i64 40) := fun u wv => by subst hVdef; rfl
      have Vp9 : ∀ u wv, Vp 9 u wv = (∃ g, u 9 = .pointer (some ⟨g, 0, none⟩) ∧ wr.heap.size ≤ g ∧ QAt wv g 0 none 0 0) := fun u wv => by subst hVdef; rfl
      have Vp10 : ∀ u wv, Vp 10 u wv = (∃ g, u 9 = .pointer (some ⟨g, 0, none⟩) ∧ wr.heap.size ≤ g ∧ QVar [b7] wv g LQ (q k)) := fun u wv => by subst hVdef; rfl
      have Vp11 : ∀ u wv, Vp 11 u wv = (u 11 = .int .i64 40) := fun u wv => by subst hVdef; rfl
      have HVD := Lib.hid hVdef
      clear hVdef
      refine region_phase (V := Vp) (drop := fun jx ix => (jx == 10 && ix == 9)) (G := fun L wv => Below wr.heap.size wr wv) (Rel := fun jx wv wv' => (jx = 10 ∧ (∃ g x y, QAt wv g 0 none 0 0 ∧ wv' = (wv.setCell ⟨g, 0, none⟩ x).setCell ⟨g, 1, none⟩ y)) ∨ Below wv.heap.size wv wv') (by kernel_rfl) (by kernel_rfl) (Below.refl _ _).drew ?hmonop2 ?hdepp2 ⟨?s0_p2, ?s1_p2, ?s2_p2, ?s3_p2, ?s4_p2, ?s5_p2, ?s6_p2, ?s7_p2, ?s8_p2, ?s9_p2, ?s10_p2, ?s11_p2, trivial⟩ ?behindp2
      case hmonop2 =>
        intro ix jx u wv wv' hij hw hd hr
        rw [HVD.out]
        dsimp only
        split <;> intro h <;> first | exact trivial | exact h | (rcases hr with ⟨rfl, hpk⟩ | hb; (focus first | exact absurd rfl hij | (simp at hd; done) | (obtain ⟨A5, c5, e, hi5, ho5⟩ := h; obtain ⟨g, x, y, hgq, rfl⟩ := hpk; exact ⟨A5, c5, e, hi5.farQ hgq x y, ho5⟩) | (exact Bool.noConfusion (hw.symm.trans (show _ = true from by kernel_rfl)))); (first | (obtain ⟨A5, c5, e, hi5, ho5⟩ := h; exact ⟨A5, c5, e, hi5.on hb, ho5⟩) | (obtain ⟨g, e, hg, hm⟩ := h; exact ⟨g, e, hg, hm.on hb⟩) | (obtain ⟨g, e, hg, hm⟩ := h; exact ⟨g, e, hg, hm.on hb⟩)))
      case hdepp2 =>
        intro ix u u' wv h1 h2
        rw [HVD.out]
        dsimp only
        split <;> intro h <;> first | exact trivial | (rw [← h1]; exact h) | (obtain ⟨g, e, h⟩ := h; exact ⟨g, (h2 9 (by kernel_rfl)).symm.trans e, h⟩) | exact h
      case s0_p2 =>
        refine oweP rfl fun a wx val L hG hi hW hV hN hO K hK => ?_
        have e7 : a.tmps[7]? = some (.pointer (some ⟨b7, 0, none⟩)) := (hO 7 (by kernel_rfl)).trans (by rfl)
        clear hV hN hO
        obtain ⟨v0, v1⟩ := (HQA.out.on hG).cells
        go_simp
        exact hK.out _ _ (by rw [Vp0, upd_at] <;> (congr 1 <;> omega)) (.inr (Below.refl _ _)) (hG)
      case s1_p2 =>
        refine oweP rfl fun a wx val L hG hi hW hV hN hO K hK => ?_
        have e3 : a.tmps[3]? = some (.pointer (some ⟨w.heap.size, 0, none⟩)) := (hO 3 (by kernel_rfl)).trans (by rfl)
        clear hV hN hO
        obtain ⟨x0, x1, x2, x3, x4, x5⟩ := HRAW.out _ hG
        go_simp
        exact hK.out _ _ (by rw [Vp1, upd_at] <;> (congr 1 <;> omega)) (.inr (Below.refl _ _)) (hG)
      case s2_p2 =>
        refine oweP rfl fun a wx val L hG hi hW hV hN hO K hK => ?_
        have e6 : a.tmps[6]? = some (.int .i64 LQ) := (hO 6 (by kernel_rfl)).trans (by rfl)
        clear hV hN hO
        go_simp
        exact hK.out _ _ (by rw [Vp2, upd_at] <;> (congr 1 <;> omega)) (.inr (Below.refl _ _)) (hG)
      case s3_p2 =>
        refine oweP rfl fun a wx val L hG hi hW hV hN hO K hK => ?_
        have e58 := hN 2 58 (by kernel_rfl) (by kernel_rfl) (by simp)
        have f58 := hV 2 (by kernel_rfl) (by kernel_rfl)
        rw [Vp2] at f58; rw [f58] at e58; clear f58
        clear hV hN hO
        go_simp
        exact hK.out _ _ (by rw [Vp3, upd_at] <;> (congr 1 <;> omega)) (.inr (Below.refl _ _)) (hG)
      case s4_p2 =>
        refine oweP rfl fun a wx val L hG hi hW hV hN hO K hK => ?_
        have e57 := hN 1 57 (by kernel_rfl) (by kernel_rfl) (by simp)
        have f57 := hV 1 (by kernel_rfl) (by kernel_rfl)
        rw [Vp1] at f57; rw [f57] at e57; clear f57
        have e59 := hN 3 59 (by kernel_rfl) (by kernel_rfl) (by simp)
        have f59 := hV 3 (by kernel_rfl) (by kernel_rfl)
        rw [Vp3] at f59; rw [f59] at e59; clear f59
        clear hV hN hO
        go_simp
        refine (CN.out _).mono ?_
        rintro e w11 ⟨rfl, hb⟩
        exact hK.out _ _ (by rw [Vp4, upd_at]) (.inr (hb)) (hG.trans (hb.mono hG.size))
      case s5_p2 =>
        refine oweP rfl fun a wx val L hG hi hW hV hN hO K hK => ?_
        have e56 := hN 0 56 (by kernel_rfl) (by kernel_rfl) (by simp)
        have f56 := hV 0 (by kernel_rfl) (by kernel_rfl)
        rw [Vp0] at f56; rw [f56] at e56; clear f56
        have e60 := hN 4 60 (by kernel_rfl) (by kernel_rfl) (by simp)
        have f60 := hV 4 (by kernel_rfl) (by kernel_rfl)
        rw [Vp4] at f60; rw [f60] at e60; clear f60
        clear hV hN hO
        go_simp
        refine (CP.out _ hG).mono ?_
        rintro e w11 ⟨A5, c5, rfl, hi5, ho5, hb⟩
        exact hK.out _ _ (by rw [Vp5, upd_at]; exact ⟨A5, c5, rfl, hi5, ho5⟩) (.inr hb) (hG.trans (hb.mono hG.size))
      case s6_p2 =>
        refine oweP rfl fun a wx val L hG hi hW hV hN hO K hK => ?_
        have e61 := hN 5 61 (by kernel_rfl) (by kernel_rfl) (by simp)
        have f61 := hV 5 (by kernel_rfl) (by kernel_rfl)
        rw [Vp5] at f61; obtain ⟨A5, c5, hv, hi5, ho5⟩ := f61; rw [hv] at e61
        clear hV hN hO
        go_simp
        exact hK.out _ _ (by rw [Vp6, upd_at]; exact ⟨A5, c5, rfl, hi5, ho5⟩) (.inr (Below.refl _ _)) (hG)
      case s7_p2 =>
        refine oweP rfl fun a wx val L hG hi hW hV hN hO K hK => ?_
        have e55 := hN 6 55 (by kernel_rfl) (by kernel_rfl) (by simp)
        have f55 := hV 6 (by kernel_rfl) (by kernel_rfl)
        rw [Vp6] at f55; obtain ⟨A5, c5, hv, hi5, ho5⟩ := f55; rw [hv] at e55
        clear hV hN hO
        go_simp
        exact hK.out _ _ (by rw [Vp7, upd_at]; exact ⟨A5, c5, rfl, hi5, ho5⟩) (.inr (Below.refl _ _)) (hG)
      case s8_p2 =>
        refine oweP rfl fun a wx val L hG hi hW hV hN hO K hK => ?_
        have e55 := hN 6 55 (by kernel_rfl) (by kernel_rfl) (by simp)
        have f55 := hV 6 (by kernel_rfl) (by kernel_rfl)
        rw [Vp6] at f55; obtain ⟨A5, c5, hv, hi5, ho5⟩ := f55; rw [hv] at e55
        clear hV hN hO
        go_simp
        exact hK.out _ _ (by rw [Vp8, upd_at]) (.inr (Below.refl _ _)) (hG)
      case s9_p2 =>
        refine oweP rfl fun a wx val L hG hi hW hV hN hO K hK => ?_
        clear hV hN hO
        go_simp
        have hb := Joins.below_alloc1 wx (.cells #[.int .i64 0, .slice none 0 0] 31)
        exact hK.out _ _ (by rw [Vp9, upd_at]; exact ⟨_, rfl, hG.size, QAt.new wx 0 none 0 0⟩) (.inr hb) (hG.trans (hb.mono hG.size))
      case s10_p2 =>
        refine oweP rfl fun a wx val L hG hi hW hV hN hO K hK => ?_
        have e12 := hN 9 12 (by kernel_rfl) (by kernel_rfl) (by simp)
        have f12 := hV 9 (by kernel_rfl) (by kernel_rfl)
        rw [Vp9] at f12; obtain ⟨g, hva, hg9, hgg⟩ := f12; rw [hva] at e12
        have e62 := hN 7 62 (by kernel_rfl) (by kernel_rfl) (by simp)
        have f62 := hV 7 (by kernel_rfl) (by kernel_rfl)
        rw [Vp7] at f62; obtain ⟨A5, c5, hv, hi5, ho5⟩ := f62; rw [hv] at e62
        clear hV hN hO
        obtain ⟨v0, v1⟩ := hgg.cells
        have vf := hgg.frozen
        have hs9 := hG.size
        have hbs := below_set2 hG (b := g) hg9 (.int .i64 LQ) (.slice A5 (q k).length c5)
        have hqn : QVar [b7] ((wx.setCell ⟨g, 0, none⟩ (.int .i64 LQ)).setCell ⟨g, 1, none⟩ (.slice A5 (q k).length c5)) g LQ (q k) := ⟨A5, c5, hgg.set LQ A5 (q k).length c5, hi5.farQ hgg _ _, ho5⟩
        have hpk : ∃ g0 x y, QAt wx g0 0 none 0 0 ∧ ((wx.setCell ⟨g, 0, none⟩ (.int .i64 LQ)).setCell ⟨g, 1, none⟩ (.slice A5 (q k).length c5)) = (wx.setCell ⟨g0, 0, none⟩ x).setCell ⟨g0, 1, none⟩ y := ⟨g, _, _, hgg, rfl⟩
        clear hs9
        go_simp
        exact hK.out undef _ (by rw [Vp10, upd_ne _ _ (by decide)]; exact ⟨g, hva, hg9, hqn⟩) (.inl ⟨rfl, hpk⟩) hbs
      case s11_p2 =>
        refine oweP rfl fun a wx val L hG hi hW hV hN hO K hK => ?_
        have e63 := hN 8 63 (by kernel_rfl) (by kernel_rfl) (by simp)
        have f63 := hV 8 (by kernel_rfl) (by kernel_rfl)
        rw [Vp8] at f63; rw [f63] at e63; clear f63
        clear hV hN hO
        go_simp
        exact hK.out _ _ (by rw [Vp11, upd_at] <;> (congr 1 <;> omega)) (.inr (Below.refl _ _)) (hG)
      intro val wx L hG hV
      have f0 := hV 0 (by simp) (fun _ _ => by simp)
      rw [Vp0] at f0
      have f1 := hV 1 (by simp) (fun _ _ => by simp)
      rw [Vp1] at f1
      have f2 := hV 2 (by simp) (fun _ _ => by simp)
      rw [Vp2] at f2
      have f3 := hV 3 (by simp) (fun _ _ => by simp)
      rw [Vp3] at f3
      have f4 := hV 4 (by simp) (fun _ _ => by simp)
      rw [Vp4] at f4
      have f5 := hV 5 (by simp) (fun _ _ => by simp)
      rw [Vp5] at f5
      have f6 := hV 6 (by simp) (fun _ _ => by simp)
      rw [Vp6] at f6
      have f7 := hV 7 (by simp) (fun _ _ => by simp)
      rw [Vp7] at f7
      have f8 := hV 8 (by simp) (fun _ _ => by simp)
      rw [Vp8] at f8
      have f10 := hV 10 (by simp) (fun _ _ => by simp)
      rw [Vp10] at f10
      have f11 := hV 11 (by simp) (fun _ _ => by simp)
      rw [Vp11] at f11
      clear hV Vp0 Vp1 Vp2 Vp3 Vp4 Vp5 Vp6 Vp7 Vp8 Vp9 Vp10 Vp11
      simp only [putAll, Act.put, List.setIfInBounds_toArray, List.set_cons_zero, List.set_cons_succ]
      generalize val 0 = z0 at *; (subst f0)
      generalize val 1 = z1 at *; (subst f1)
      generalize val 2 = z2 at *; (subst f2)
      generalize val 3 = z3 at *; (subst f3)
      generalize val 4 = z4 at *; (subst f4)
      generalize val 5 = z5 at *
      generalize val 6 = z6 at *
      generalize val 7 = z7 at *
      generalize val 8 = z8 at *; (subst f8)
      generalize val 9 = z9 at *
      generalize val 11 = z11 at *; (subst f11)
      clear HVD
      obtain ⟨g12, hz12, hg12, hq12⟩ := f10
      subst hz12
      have H12 := Lib.hid hq12
      have HQV1 := Lib.hid (QVar.on HQV.out hG); clear HQV; have HQV := HQV1; clear HQV1
      have HB1 := Lib.hid (HB.out.trans (hG.mono HB.out.size)); clear HB; have HB := HB1; clear HB1
      have HRB1 := Lib.hid (HRB.out.on hG); clear HRB; have HRB := HRB1; clear HRB1
      clear hq12 hG f5 f6 f7 hw1 CN CP HRAW HQA
      generalize hX12 : wx = X12 at *
      clear hX12
      obtain ⟨Aq, cq, hqa, hqi, hqo⟩ := HQV.out
      have HQA := Lib.hid hqa
      have HRAW : Hid (∀ W, Below X12.heap.size X12 W → W.cell? ⟨w.heap.size, 0, none⟩ = some (.int .i64 r0) ∧ W.cell? ⟨w.heap.size, 1, none⟩ = some (.int .i64 r1) ∧ W.cell? ⟨w.heap.size, 2, none⟩ = some (.int .i64 r2) ∧ W.cell? ⟨w.heap.size, 3, none⟩ = some (.int .i64 r3) ∧ W.cell? ⟨w.heap.size, 4, none⟩ = some (.int .i64 r4) ∧ W.cell? ⟨w.heap.size, 5, none⟩ = some (.int .i64 r5)) := Lib.hid (fun W h => RawAt.cells (HRB.out.on h))
      have CN : Hid (∀ W, Calls Tryd.prog 21 #[rv ⟨r0, r1, r2, r3, r4, r5⟩, .int .i64 (LQ)] W fun e w' => e = .returned (mv (numM ⟨r0, r1, r2, r3, r4, r5⟩ (LQ))) ∧ Below W.heap.size W w') := Lib.hid (fun W => numM_any _ HWF.out _ W)
      have CP : Hid (∀ W, Below X12.heap.size X12 W → Calls Tryd.prog 22 #[qv LQ Aq (q k).length cq, mv (numM ⟨r0, r1, r2, r3, r4, r5⟩ (LQ))] W fun e w' => ∃ A5 c5, e = .returned (.tuple #[qv LQ A5 (q k).length c5, .int .i64 42]) ∧ QIn w' A5 c5 (q k) ∧ OffB [b7] A5 ∧ Below W.heap.size W w') := Lib.hid (fun W hW => put_var LQ Aq cq (q k) _ [b7] W (HLL.out.below (HB.out.trans (hW.mono HB.out.size))) (hqi.on hW) hqo (fun x hx => by simp only [List.mem_singleton] at hx; subst hx; exact Nat.lt_of_lt_of_le HQV.out.lt hW.size) (numM_data _ _) (by rw [HLN.out]; omega) 42 _ HEND.out.1.2 (by unfold putL; rw [HEND.out.1.2, if_neg (by decide)]))
      clear hqa hqi hqo
      generalize numM ⟨r0, r1, r2, r3, r4, r5⟩ LQ = m at CN CP
      obtain ⟨e1, n1, s1, i1, q1, k1, d1⟩ := m
      simp only [mv, rv] at CN CP
      go_upto_region 12 with (fail)
      have HV : ∃ Vp : Nat → (Nat → Value) → World → Prop, Vp = (fun ix u wv => match ix with
        | 0 => u 0 = .agg #[.int .i64 LQ, .slice Aq (q k).length cq]
        | 1 => u 1 = .agg #[.int .i64 r0, .int .i64 r1, .int .i64 r2, .int .i64 r3, .int .i64 r4, .int .i64 r5]
        | 2 => u 2 = .int .i64 LQ
        | 3 => u 3 = .agg #[.bool e1, .int .i64 n1, .int .i64 s1, .int .i64 i1, .int .i64 q1, .int .i64 k1, .string d1]
        | 4 => ∃ A5 c5, u 4 = .tuple #[.agg #[.int .i64 LQ, .slice A5 (q k).length c5], .int .i64 42] ∧ QIn wv A5 c5 (q k) ∧ OffB [b7] A5
        | 5 => ∃ A5 c5, u 5 = .tuple #[.agg #[.int .i64 LQ, .slice A5 (q k).length c5], .int .i64 42] ∧ QIn wv A5 c5 (q k) ∧ OffB [b7] A5
        | 6 => ∃ A5 c5, u 6 = .agg #[.int .i64 LQ, .slice A5 (q k).length c5] ∧ QIn wv A5 c5 (q k) ∧ OffB [b7] A5
        | 7 => u 7 = .int .i64 42
        | 8 => ∃ g, u 8 = .pointer (some ⟨g, 0, none⟩) ∧ X12.heap.size ≤ g ∧ QAt wv g 0 none 0 0
        | 9 => ∃ g, u 8 = .pointer (some ⟨g, 0, none⟩) ∧ X12.heap.size ≤ g ∧ QVar [b7] wv g LQ (q k)
        | 10 => u 10 = .int .i64 42
        | _ => True) := ⟨_, rfl⟩
      obtain ⟨Vp, hVdef⟩ := HV
      have Vp0 : ∀ u wv, Vp 0 u wv = (u 0 = .agg #[.int .i64 LQ, .slice Aq (q k).length cq]) := fun u wv => by subst hVdef; rfl
      have Vp1 : ∀ u wv, Vp 1 u wv = (u 1 = .agg #[.int .i64 r0, .int .i64 r1, .int .i64 r2, .int .i64 r3, .int .i64 r4, .int .i64 r5]) := fun u wv => by subst hVdef; rfl
      have Vp2 : ∀ u wv, Vp 2 u wv = (u 2 = .int .i64 LQ) := fun u wv => by subst hVdef; rfl
      have Vp3 : ∀ u wv, Vp 3 u wv = (u 3 = .agg #[.bool e1, .int .i64 n1, .int .i64 s1, .int .i64 i1, .int .i64 q1, .int .i64 k1, .string d1]) := fun u wv => by subst hVdef; rfl
      have Vp4 : ∀ u wv, Vp 4 u wv = (∃ A5 c5, u 4 = .tuple #[.agg #[.int .i64 LQ, .slice A5 (q k).length c5], .int .i64 42] ∧ QIn wv A5 c5 (q k) ∧ OffB [b7] A5) := fun u wv => by subst hVdef; rfl
      have Vp5 : ∀ u wv, Vp 5 u wv = (∃ A5 c5, u 5 = .tuple #[.agg #[.int .i64 LQ, .slice A5 (q k).length c5], .int .i64 42] ∧ QIn wv A5 c5 (q k) ∧ OffB [b7] A5) := fun u wv => by subst hVdef; rfl
      have Vp6 : ∀ u wv, Vp 6 u wv = (∃ A5 c5, u 6 = .agg #[.int .i64 LQ, .slice A5 (q k).length c5] ∧ QIn wv A5 c5 (q k) ∧ OffB [b7] A5) := fun u wv => by subst hVdef; rfl
      have Vp7 : ∀ u wv, Vp 7 u wv = (u 7 = .int .i64 42) := fun u wv => by subst hVdef; rfl
      have Vp8 : ∀ u wv, Vp 8 u wv = (∃ g, u 8 = .pointer (some ⟨g, 0, none⟩) ∧ X12.heap.size ≤ g ∧ QAt wv g 0 none 0 0) := fun u wv => by subst hVdef; rfl
      have Vp9 : ∀ u wv, Vp 9 u wv = (∃ g, u 8 = .pointer (some ⟨g, 0, none⟩) ∧ X12.heap.size ≤ g ∧ QVar [b7] wv g LQ (q k)) := fun u wv => by subst hVdef; rfl
      have Vp10 : ∀ u wv, Vp 10 u wv = (u 10 = .int .i64 42) := fun u wv => by subst hVdef; rfl
      have HVD := Lib.hid hVdef
      clear hVdef
      refine region_phase (V := Vp) (drop := fun jx ix => (jx == 9 && ix == 8)) (G := fun L wv => Below X12.heap.size X12 wv) (Rel := fun jx wv wv' => (jx = 9 ∧ (∃ g x y, QAt wv g 0 none 0 0 ∧ wv' = (wv.setCell ⟨g, 0, none⟩ x).setCell ⟨g, 1, none⟩ y)) ∨ Below wv.heap.size wv wv') (by kernel_rfl) (by kernel_rfl) (Below.refl _ _).drew ?hmonop3 ?hdepp3 ⟨?s0_p3, ?s1_p3, ?s2_p3, ?s3_p3, ?s4_p3, ?s5_p3, ?s6_p3, ?s7_p3, ?s8_p3, ?s9_p3, ?s10_p3, trivial⟩ ?behindp3
      case hmonop3 =>
        intro ix jx u wv wv' hij hw hd hr
        rw [HVD.out]
        dsimp only
        split <;> intro h <;> first | exact trivial | exact h | (rcases hr with ⟨rfl, hpk⟩ | hb; (focus first | exact absurd rfl hij | (simp at hd; done) | (obtain ⟨A5, c5, e, hi5, ho5⟩ := h; obtain ⟨g, x, y, hgq, rfl⟩ := hpk; exact ⟨A5, c5, e, hi5.farQ hgq x y, ho5⟩) | (exact Bool.noConfusion (hw.symm.trans (show _ = true from by kernel_rfl)))); (first | (obtain ⟨A5, c5, e, hi5, ho5⟩ := h; exact ⟨A5, c5, e, hi5.on hb, ho5⟩) | (obtain ⟨g, e, hg, hm⟩ := h; exact ⟨g, e, hg, hm.on hb⟩) | (obtain ⟨g, e, hg, hm⟩ := h; exact ⟨g, e, hg, hm.on hb⟩)))
      case hdepp3 =>
        intro ix u u' wv h1 h2
        rw [HVD.out]
        dsimp only
        split <;> intro h <;> first | exact trivial | (rw [← h1]; exact h) | (obtain ⟨g, e, h⟩ := h; exact ⟨g, (h2 8 (by kernel_rfl)).symm.trans e, h⟩) | exact h
      case s0_p3 =>
        refine oweP rfl fun a wx val L hG hi hW hV hN hO K hK => ?_
        have e7 : a.tmps[7]? = some (.pointer (some ⟨b7, 0, none⟩)) := (hO 7 (by kernel_rfl)).trans (by rfl)
        clear hV hN hO
        obtain ⟨v0, v1⟩ := (HQA.out.on hG).cells
        go_simp
        exact hK.out _ _ (by rw [Vp0, upd_at] <;> (congr 1 <;> omega)) (.inr (Below.refl _ _)) (hG)
      case s1_p3 =>
        refine oweP rfl fun a wx val L hG hi hW hV hN hO K hK => ?_
        have e3 : a.tmps[3]? = some (.pointer (some ⟨w.heap.size, 0, none⟩)) := (hO 3 (by kernel_rfl)).trans (by rfl)
        clear hV hN hO
        obtain ⟨x0, x1, x2, x3, x4, x5⟩ := HRAW.out _ hG
        go_simp
        exact hK.out _ _ (by rw [Vp1, upd_at] <;> (congr 1 <;> omega)) (.inr (Below.refl _ _)) (hG)
      case s2_p3 =>
        refine oweP rfl fun a wx val L hG hi hW hV hN hO K hK => ?_
        have e6 : a.tmps[6]? = some (.int .i64 LQ) := (hO 6 (by kernel_rfl)).trans (by rfl)
        clear hV hN hO
        go_simp
        exact hK.out _ _ (by rw [Vp2, upd_at] <;> (congr 1 <;> omega)) (.inr (Below.refl _ _)) (hG)
      case s3_p3 =>
        refine oweP rfl fun a wx val L hG hi hW hV hN hO K hK => ?_
        have e66 := hN 1 66 (by kernel_rfl) (by kernel_rfl) (by simp)
        have f66 := hV 1 (by kernel_rfl) (by kernel_rfl)
        rw [Vp1] at f66; rw [f66] at e66; clear f66
        have e67 := hN 2 67 (by kernel_rfl) (by kernel_rfl) (by simp)
        have f67 := hV 2 (by kernel_rfl) (by kernel_rfl)
        rw [Vp2] at f67; rw [f67] at e67; clear f67
        clear hV hN hO
        go_simp
        refine (CN.out _).mono ?_
        rintro e w11 ⟨rfl, hb⟩
        exact hK.out _ _ (by rw [Vp3, upd_at]) (.inr (hb)) (hG.trans (hb.mono hG.size))
      case s4_p3 =>
        refine oweP rfl fun a wx val L hG hi hW hV hN hO K hK => ?_
        have e65 := hN 0 65 (by kernel_rfl) (by kernel_rfl) (by simp)
        have f65 := hV 0 (by kernel_rfl) (by kernel_rfl)
        rw [Vp0] at f65; rw [f65] at e65; clear f65
        have e68 := hN 3 68 (by kernel_rfl) (by kernel_rfl) (by simp)
        have f68 := hV 3 (by kernel_rfl) (by kernel_rfl)
        rw [Vp3] at f68; rw [f68] at e68; clear f68
        clear hV hN hO
        go_simp
        refine (CP.out _ hG).mono ?_
        rintro e w11 ⟨A5, c5, rfl, hi5, ho5, hb⟩
        exact hK.out _ _ (by rw [Vp4, upd_at]; exact ⟨A5, c5, rfl, hi5, ho5⟩) (.inr hb) (hG.trans (hb.mono hG.size))
      case s5_p3 =>
        refine oweP rfl fun a wx val L hG hi hW hV hN hO K hK => ?_
        have e69 := hN 4 69 (by kernel_rfl) (by kernel_rfl) (by simp)
        have f69 := hV 4 (by kernel_rfl) (by kernel_rfl)
        rw [Vp4] at f69; obtain ⟨A5, c5, hv, hi5, ho5⟩ := f69; rw [hv] at e69
        clear hV hN hO
        go_simp
        exact hK.out _ _ (by rw [Vp5, upd_at]; exact ⟨A5, c5, rfl, hi5, ho5⟩) (.inr (Below.refl _ _)) (hG)
      case s6_p3 =>
        refine oweP rfl fun a wx val L hG hi hW hV hN hO K hK => ?_
        have e64 := hN 5 64 (by kernel_rfl) (by kernel_rfl) (by simp)
        have f64 := hV 5 (by kernel_rfl) (by kernel_rfl)
        rw [Vp5] at f64; obtain ⟨A5, c5, hv, hi5, ho5⟩ := f64; rw [hv] at e64
        clear hV hN hO
        go_simp
        exact hK.out _ _ (by rw [Vp6, upd_at]; exact ⟨A5, c5, rfl, hi5, ho5⟩) (.inr (Below.refl _ _)) (hG)
      case s7_p3 =>
        refine oweP rfl fun a wx val L hG hi hW hV hN hO K hK => ?_
        have e64 := hN 5 64 (by kernel_rfl) (by kernel_rfl) (by simp)
        have f64 := hV 5 (by kernel_rfl) (by kernel_rfl)
        rw [Vp5] at f64; obtain ⟨A5, c5, hv, hi5, ho5⟩ := f64; rw [hv] at e64
        clear hV hN hO
        go_simp
        exact hK.out _ _ (by rw [Vp7, upd_at]) (.inr (Below.refl _ _)) (hG)
      case s8_p3 =>
        refine oweP rfl fun a wx val L hG hi hW hV hN hO K hK => ?_
        clear hV hN hO
        go_simp
        have hb := Joins.below_alloc1 wx (.cells #[.int .i64 0, .slice none 0 0] 31)
        exact hK.out _ _ (by rw [Vp8, upd_at]; exact ⟨_, rfl, hG.size, QAt.new wx 0 none 0 0⟩) (.inr hb) (hG.trans (hb.mono hG.size))
      case s9_p3 =>
        refine oweP rfl fun a wx val L hG hi hW hV hN hO K hK => ?_
        have e14 := hN 8 14 (by kernel_rfl) (by kernel_rfl) (by simp)
        have f14 := hV 8 (by kernel_rfl) (by kernel_rfl)
        rw [Vp8] at f14; obtain ⟨g, hva, hg9, hgg⟩ := f14; rw [hva] at e14
        have e70 := hN 6 70 (by kernel_rfl) (by kernel_rfl) (by simp)
        have f70 := hV 6 (by kernel_rfl) (by kernel_rfl)
        rw [Vp6] at f70; obtain ⟨A5, c5, hv, hi5, ho5⟩ := f70; rw [hv] at e70
        clear hV hN hO
        obtain ⟨v0, v1⟩ := hgg.cells
        have vf := hgg.frozen
        have hs9 := hG.size
        have hbs := below_set2 hG (b := g) hg9 (.int .i64 LQ) (.slice A5 (q k).length c5)
        have hqn : QVar [b7] ((wx.setCell ⟨g, 0, none⟩ (.int .i64 LQ)).setCell ⟨g, 1, none⟩ (.slice A5 (q k).length c5)) g LQ (q k) := ⟨A5, c5, hgg.set LQ A5 (q k).length c5, hi5.farQ hgg _ _, ho5⟩
        have hpk : ∃ g0 x y, QAt wx g0 0 none 0 0 ∧ ((wx.setCell ⟨g, 0, none⟩ (.int .i64 LQ)).setCell ⟨g, 1, none⟩ (.slice A5 (q k).length c5)) = (wx.setCell ⟨g0, 0, none⟩ x).setCell ⟨g0, 1, none⟩ y := ⟨g, _, _, hgg, rfl⟩
        clear hs9
        go_simp
        exact hK.out undef _ (by rw [Vp9, upd_ne _ _ (by decide)]; exact ⟨g, hva, hg9, hqn⟩) (.inl ⟨rfl, hpk⟩) hbs
      case s10_p3 =>
        refine oweP rfl fun a wx val L hG hi hW hV hN hO K hK => ?_
        have e71 := hN 7 71 (by kernel_rfl) (by kernel_rfl) (by simp)
        have f71 := hV 7 (by kernel_rfl) (by kernel_rfl)
        rw [Vp7] at f71; rw [f71] at e71; clear f71
        clear hV hN hO
        go_simp
        exact hK.out _ _ (by rw [Vp10, upd_at] <;> (congr 1 <;> omega)) (.inr (Below.refl _ _)) (hG)
      intro val wx L hG hV
      have f0 := hV 0 (by simp) (fun _ _ => by simp)
      rw [Vp0] at f0
      have f1 := hV 1 (by simp) (fun _ _ => by simp)
      rw [Vp1] at f1
      have f2 := hV 2 (by simp) (fun _ _ => by simp)
      rw [Vp2] at f2
      have f3 := hV 3 (by simp) (fun _ _ => by simp)
      rw [Vp3] at f3
      have f4 := hV 4 (by simp) (fun _ _ => by simp)
      rw [Vp4] at f4
      have f5 := hV 5 (by simp) (fun _ _ => by simp)
      rw [Vp5] at f5
      have f6 := hV 6 (by simp) (fun _ _ => by simp)
      rw [Vp6] at f6
      have f7 := hV 7 (by simp) (fun _ _ => by simp)
      rw [Vp7] at f7
      have f9 := hV 9 (by simp) (fun _ _ => by simp)
      rw [Vp9] at f9
      have f10 := hV 10 (by simp) (fun _ _ => by simp)
      rw [Vp10] at f10
      clear hV Vp0 Vp1 Vp2 Vp3 Vp4 Vp5 Vp6 Vp7 Vp8 Vp9 Vp10
      simp only [putAll, Act.put, List.setIfInBounds_toArray, List.set_cons_zero, List.set_cons_succ]
      generalize val 0 = z0 at *; (subst f0)
      generalize val 1 = z1 at *; (subst f1)
      generalize val 2 = z2 at *; (subst f2)
      generalize val 3 = z3 at *; (subst f3)
      generalize val 4 = z4 at *
      generalize val 5 = z5 at *
      generalize val 6 = z6 at *
      generalize val 7 = z7 at *; (subst f7)
      generalize val 8 = z8 at *
      generalize val 10 = z10 at *; (subst f10)
      clear HVD
      obtain ⟨g14, hz14, hg14, hq14⟩ := f9
      subst hz14
      have H14 := Lib.hid hq14
      have HQV1 := Lib.hid (QVar.on HQV.out hG); clear HQV; have HQV := HQV1; clear HQV1
      have HB1 := Lib.hid (HB.out.trans (hG.mono HB.out.size)); clear HB; have HB := HB1; clear HB1
      have HRB1 := Lib.hid (HRB.out.on hG); clear HRB; have HRB := HRB1; clear HRB1
      have H121 := Lib.hid (QVar.on H12.out hG); clear H12; have H12 := H121; clear H121
      clear hq14 hG f4 f5 f6 CN CP HRAW HQA
      generalize hX13 : wx = X13 at *
      clear hX13
      obtain ⟨Aq, cq, hqa, hqi, hqo⟩ := HQV.out
      obtain ⟨y0, y1⟩ := hqa.cells
      have hpc := cut_var (Bs := [b7]) hqi hqo (fun x hx => by simp only [List.mem_singleton] at hx; subst hx; exact hqa.lt) HCUT.out.1 HCUT.out.2.2 HCUT.out.2.1 (HCA.out Aq cq X13 (HLL.out.below HB.out) hqi)
      obtain ⟨m, hm⟩ : ∃ m, m = numM ⟨r0, r1, r2, r3, r4, r5⟩ LQ := ⟨_, rfl⟩
      rw [← hm] at hpc
      have hmn : m.number = LQ := by rw [hm]; rfl
      clear hm hqa hqi hqo
      obtain ⟨e1, n1, s1, i1, q1, k1, d1⟩ := m
      simp only at hmn
      have HMN := Lib.hid hmn
      clear hmn
      simp only [mv] at hpc
      go_wp2_with fail; refine hpc.mono ?_; rintro e w4 ⟨A16, c16, rfl, hi16, ho16, b4⟩
      clear y0 y1 hpc
      have hb16 := Joins.below_alloc1 w4 (.cells #[.int .i64 LQ, .slice A16 lc.length c16] 31)
      have hb17 := Joins.below_alloc1 (w4.alloc (.cells #[.int .i64 LQ, .slice A16 lc.length c16] 31)) (.cells #[.bool e1, .int .i64 n1, .int .i64 s1, .int .i64 i1, .int .i64 q1, .int .i64 k1, .string d1] 27)
      have hG := b4.trans ((hb16.trans (hb17.mono hb16.size)).mono b4.size)
      have H16 := Lib.hid ((QVar.new (L := LQ) hi16 ho16).on hb17)
      have H17 : Hid (MsgAt _ _ ⟨e1, n1, s1, i1, q1, k1, d1⟩) := Lib.hid (MsgAt.new (w4.alloc (.cells #[.int .i64 LQ, .slice A16 lc.length c16] 31)) ⟨e1, n1, s1, i1, q1, k1, d1⟩)
      have HQV1 := Lib.hid (QVar.on HQV.out hG); clear HQV; have HQV := HQV1; clear HQV1
      have HB1 := Lib.hid (HB.out.trans (hG.mono HB.out.size)); clear HB; have HB := HB1; clear HB1
      have HRB1 := Lib.hid (HRB.out.on hG); clear HRB; have HRB := HRB1; clear HRB1
      have H121 := Lib.hid (QVar.on H12.out hG); clear H12; have H12 := H121; clear H121
      have H141 := Lib.hid (QVar.on H14.out hG); clear H14; have H14 := H141; clear H141
      simp only [mc, World.size_alloc] at H17 H16 HQV HB HRB H12 H14
      clear hb16 hb17 hG b4 hi16 ho16
      go_upto_region 14 with (fail)
      generalize hX14 : (w4.alloc (.cells #[.int .i64 LQ, .slice A16 lc.length c16] 31)).alloc (.cells #[.bool e1, .int .i64 n1, .int .i64 s1, .int .i64 i1, .int .i64 q1, .int .i64 k1, .string d1] 27) = X14 at *
      clear hX14
      generalize w4.heap.size = b16 at *
      obtain ⟨Aq, cq, hqa, hqi, hqo⟩ := H16.out
      have HQA := Lib.hid hqa
      have HRAW : Hid (∀ W, Below X14.heap.size X14 W → W.cell? ⟨w.heap.size, 0, none⟩ = some (.int .i64 r0) ∧ W.cell? ⟨w.heap.size, 1, none⟩ = some (.int .i64 r1) ∧ W.cell? ⟨w.heap.size, 2, none⟩ = some (.int .i64 r2) ∧ W.cell? ⟨w.heap.size, 3, none⟩ = some (.int .i64 r3) ∧ W.cell? ⟨w.heap.size, 4, none⟩ = some (.int .i64 r4) ∧ W.cell? ⟨w.heap.size, 5, none⟩ = some (.int .i64 r5)) := Lib.hid (fun W h => RawAt.cells (HRB.out.on h))
      have CN : Hid (∀ W, Calls Tryd.prog 21 #[rv ⟨r0, r1, r2, r3, r4, r5⟩, .int .i64 (LQ)] W fun e w' => e = .returned (mv (numM ⟨r0, r1, r2, r3, r4, r5⟩ (LQ))) ∧ Below W.heap.size W w') := Lib.hid (fun W => numM_any _ HWF.out _ W)
      have CP : Hid (∀ W, Below X14.heap.size X14 W → Calls Tryd.prog 22 #[qv LQ Aq (lc).length cq, mv (numM ⟨r0, r1, r2, r3, r4, r5⟩ (LQ))] W fun e w' => ∃ A5 c5, e = .returned (.tuple #[qv LQ A5 (q k).length c5, .int .i64 0]) ∧ QIn w' A5 c5 (q k) ∧ OffB (b16 :: [b7]) A5 ∧ Below W.heap.size W w') := Lib.hid (fun W hW => put_var LQ Aq cq (lc) _ (b16 :: [b7]) W (HLL.out.below (HB.out.trans (hW.mono HB.out.size))) (hqi.on hW) hqo (fun x hx => by simp only [List.mem_cons, List.not_mem_nil, or_false] at hx; rcases hx with rfl | rfl; exact Nat.lt_of_lt_of_le H16.out.lt hW.size; exact Nat.lt_of_lt_of_le HQV.out.lt hW.size) (numM_data _ _) (by have := HLC.out; omega) 0 _ HEND.out.2.1 HEND.out.2.2)
      clear hqa hqi hqo
      have HM17 := H17
      generalize numM ⟨r0, r1, r2, r3, r4, r5⟩ LQ = m2 at *
      have HKK := HMN
      clear HMN
      obtain ⟨ef, nf, sf, jf, qf, kf, df⟩ := m2
      simp only [mv, rv] at CN CP
      have HV : ∃ Vp : Nat → (Nat → Value) → World → Prop, Vp = (fun ix u wv => match ix with
        | 0 => u 0 = .agg #[.int .i64 LQ, .slice Aq lc.length cq]
        | 1 => u 1 = .agg #[.int .i64 r0, .int .i64 r1, .int .i64 r2, .int .i64 r3, .int .i64 r4, .int .i64 r5]
        | 2 => u 2 = .int .i64 LQ
        | 3 => u 3 = .agg #[.bool ef, .int .i64 nf, .int .i64 sf, .int .i64 jf, .int .i64 qf, .int .i64 kf, .string df]
        | 4 => ∃ A5 c5, u 4 = .tuple #[.agg #[.int .i64 LQ, .slice A5 (q k).length c5], .int .i64 0] ∧ QIn wv A5 c5 (q k) ∧ OffB (b16 :: [b7]) A5
        | 5 => ∃ A5 c5, u 5 = .tuple #[.agg #[.int .i64 LQ, .slice A5 (q k).length c5], .int .i64 0] ∧ QIn wv A5 c5 (q k) ∧ OffB (b16 :: [b7]) A5
        | 6 => ∃ A5 c5, u 6 = .agg #[.int .i64 LQ, .slice A5 (q k).length c5] ∧ QIn wv A5 c5 (q k) ∧ OffB (b16 :: [b7]) A5
        | 7 => u 7 = .int .i64 0
        | 8 => ∃ g, u 8 = .pointer (some ⟨g, 0, none⟩) ∧ X14.heap.size ≤ g ∧ QAt wv g 0 none 0 0
        | 9 => ∃ g, u 8 = .pointer (some ⟨g, 0, none⟩) ∧ X14.heap.size ≤ g ∧ QVar (b16 :: [b7]) wv g LQ (q k)
        | 10 => u 10 = .int .i64 0
        | _ => True) := ⟨_, rfl⟩
      obtain ⟨Vp, hVdef⟩ := HV
      have Vp0 : ∀ u wv, Vp 0 u wv = (u 0 = .agg #[.int .i64 LQ, .slice Aq lc.length cq]) := fun u wv => by subst hVdef; rfl
      have Vp1 : ∀ u wv, Vp 1 u wv = (u 1 = .agg #[.int .i64 r0, .int .i64 r1, .int .i64 r2, .int .i64 r3, .int .i64 r4, .int .i64 r5]) := fun u wv => by subst hVdef; rfl
      have Vp2 : ∀ u wv, Vp 2 u wv = (u 2 = .int .i64 LQ) := fun u wv => by subst hVdef; rfl
      have Vp3 : ∀ u wv, Vp 3 u wv = (u 3 = .agg #[.bool ef, .int .i64 nf, .int .i64 sf, .int .i64 jf, .int .i64 qf, .int .i64 kf, .string df]) := fun u wv => by subst hVdef; rfl
      have Vp4 : ∀ u wv, Vp 4 u wv = (∃ A5 c5, u 4 = .tuple #[.agg #[.int .i64 LQ, .slice A5 (q k).length c5], .int .i64 0] ∧ QIn wv A5 c5 (q k) ∧ OffB (b16 :: [b7]) A5) := fun u wv => by subst hVdef; rfl
      have Vp5 : ∀ u wv, Vp 5 u wv = (∃ A5 c5, u 5 = .tuple #[.agg #[.int .i64 LQ, .slice A5 (q k).length c5], .int .i64 0] ∧ QIn wv A5 c5 (q k) ∧ OffB (b16 :: [b7]) A5) := fun u wv => by subst hVdef; rfl
      have Vp6 : ∀ u wv, Vp 6 u wv = (∃ A5 c5, u 6 = .agg #[.int .i64 LQ, .slice A5 (q k).length c5] ∧ QIn wv A5 c5 (q k) ∧ OffB (b16 :: [b7]) A5) := fun u wv => by subst hVdef; rfl
      have Vp7 : ∀ u wv, Vp 7 u wv = (u 7 = .int .i64 0) := fun u wv => by subst hVdef; rfl
      have Vp8 : ∀ u wv, Vp 8 u wv = (∃ g, u 8 = .pointer (some ⟨g, 0, none⟩) ∧ X14.heap.size ≤ g ∧ QAt wv g 0 none 0 0) := fun u wv => by subst hVdef; rfl
      have Vp9 : ∀ u wv, Vp 9 u wv = (∃ g, u 8 = .pointer (some ⟨g, 0, none⟩) ∧ X14.heap.size ≤ g ∧ QVar (b16 :: [b7]) wv g LQ (q k)) := fun u wv => by subst hVdef; rfl
      have Vp10 : ∀ u wv, Vp 10 u wv = (u 10 = .int .i64 0) := fun u wv => by subst hVdef; rfl
      have HVD := Lib.hid hVdef
      clear hVdef
      refine region_phase (V := Vp) (drop := fun jx ix => (jx == 9 && ix == 8)) (G := fun L wv => Below X14.heap.size X14 wv) (Rel := fun jx wv wv' => (jx = 9 ∧ (∃ g x y, QAt wv g 0 none 0 0 ∧ wv' = (wv.setCell ⟨g, 0, none⟩ x).setCell ⟨g, 1, none⟩ y)) ∨ Below wv.heap.size wv wv') (by kernel_rfl) (by kernel_rfl) (Below.refl _ _).drew ?hmonop4 ?hdepp4 ⟨?s0_p4, ?s1_p4, ?s2_p4, ?s3_p4, ?s4_p4, ?s5_p4, ?s6_p4, ?s7_p4, ?s8_p4, ?s9_p4, ?s10_p4, trivial⟩ ?behindp4
      case hmonop4 =>
        intro ix jx u wv wv' hij hw hd hr
        rw [HVD.out]
        dsimp only
        split <;> intro h <;> first | exact trivial | exact h | (rcases hr with ⟨rfl, hpk⟩ | hb; (focus first | exact absurd rfl hij | (simp at hd; done) | (obtain ⟨A5, c5, e, hi5, ho5⟩ := h; obtain ⟨g, x, y, hgq, rfl⟩ := hpk; exact ⟨A5, c5, e, hi5.farQ hgq x y, ho5⟩) | (exact Bool.noConfusion (hw.symm.trans (show _ = true from by kernel_rfl)))); (first | (obtain ⟨A5, c5, e, hi5, ho5⟩ := h; exact ⟨A5, c5, e, hi5.on hb, ho5⟩) | (obtain ⟨g, e, hg, hm⟩ := h; exact ⟨g, e, hg, hm.on hb⟩) | (obtain ⟨g, e, hg, hm⟩ := h; exact ⟨g, e, hg, hm.on hb⟩)))
      case hdepp4 =>
        intro ix u u' wv h1 h2
        rw [HVD.out]
        dsimp only
        split <;> intro h <;> first | exact trivial | (rw [← h1]; exact h) | (obtain ⟨g, e, h⟩ := h; exact ⟨g, (h2 8 (by kernel_rfl)).symm.trans e, h⟩) | exact h
      case s0_p4 =>
        refine oweP rfl fun a wx val L hG hi hW hV hN hO K hK => ?_
        have e16 : a.tmps[16]? = some (.pointer (some ⟨b16, 0, none⟩)) := (hO 16 (by kernel_rfl)).trans (by rfl)
        clear hV hN hO
        obtain ⟨v0, v1⟩ := (HQA.out.on hG).cells
        go_simp
        exact hK.out _ _ (by rw [Vp0, upd_at] <;> (congr 1 <;> omega)) (.inr (Below.refl _ _)) (hG)
      case s1_p4 =>
        refine oweP rfl fun a wx val L hG hi hW hV hN hO K hK => ?_
        have e3 : a.tmps[3]? = some (.pointer (some ⟨w.heap.size, 0, none⟩)) := (hO 3 (by kernel_rfl)).trans (by rfl)
        clear hV hN hO
        obtain ⟨x0, x1, x2, x3, x4, x5⟩ := HRAW.out _ hG
        go_simp
        exact hK.out _ _ (by rw [Vp1, upd_at] <;> (congr 1 <;> omega)) (.inr (Below.refl _ _)) (hG)
      case s2_p4 =>
        refine oweP rfl fun a wx val L hG hi hW hV hN hO K hK => ?_
        have e6 : a.tmps[6]? = some (.int .i64 LQ) := (hO 6 (by kernel_rfl)).trans (by rfl)
        clear hV hN hO
        go_simp
        exact hK.out _ _ (by rw [Vp2, upd_at] <;> (congr 1 <;> omega)) (.inr (Below.refl _ _)) (hG)
      case s3_p4 =>
        refine oweP rfl fun a wx val L hG hi hW hV hN hO K hK => ?_
        have e81 := hN 1 81 (by kernel_rfl) (by kernel_rfl) (by simp)
        have f81 := hV 1 (by kernel_rfl) (by kernel_rfl)
        rw [Vp1] at f81; rw [f81] at e81; clear f81
        have e82 := hN 2 82 (by kernel_rfl) (by kernel_rfl) (by simp)
        have f82 := hV 2 (by kernel_rfl) (by kernel_rfl)
        rw [Vp2] at f82; rw [f82] at e82; clear f82
        clear hV hN hO
        go_simp
        refine (CN.out _).mono ?_
        rintro e w11 ⟨rfl, hb⟩
        exact hK.out _ _ (by rw [Vp3, upd_at]) (.inr (hb)) (hG.trans (hb.mono hG.size))
      case s4_p4 =>
        refine oweP rfl fun a wx val L hG hi hW hV hN hO K hK => ?_
        have e80 := hN 0 80 (by kernel_rfl) (by kernel_rfl) (by simp)
        have f80 := hV 0 (by kernel_rfl) (by kernel_rfl)
        rw [Vp0] at f80; rw [f80] at e80; clear f80
        have e83 := hN 3 83 (by kernel_rfl) (by kernel_rfl) (by simp)
        have f83 := hV 3 (by kernel_rfl) (by kernel_rfl)
        rw [Vp3] at f83; rw [f83] at e83; clear f83
        clear hV hN hO
        go_simp
        refine (CP.out _ hG).mono ?_
        rintro e w11 ⟨A5, c5, rfl, hi5, ho5, hb⟩
        exact hK.out _ _ (by rw [Vp4, upd_at]; exact ⟨A5, c5, rfl, hi5, ho5⟩) (.inr hb) (hG.trans (hb.mono hG.size))
      case s5_p4 =>
        refine oweP rfl fun a wx val L hG hi hW hV hN hO K hK => ?_
        have e84 := hN 4 84 (by kernel_rfl) (by kernel_rfl) (by simp)
        have f84 := hV 4 (by kernel_rfl) (by kernel_rfl)
        rw [Vp4] at f84; obtain ⟨A5, c5, hv, hi5, ho5⟩ := f84; rw [hv] at e84
        clear hV hN hO
        go_simp
        exact hK.out _ _ (by rw [Vp5, upd_at]; exact ⟨A5, c5, rfl, hi5, ho5⟩) (.inr (Below.refl _ _)) (hG)
      case s6_p4 =>
        refine oweP rfl fun a wx val L hG hi hW hV hN hO K hK => ?_
        have e79 := hN 5 79 (by kernel_rfl) (by kernel_rfl) (by simp)
        have f79 := hV 5 (by kernel_rfl) (by kernel_rfl)
        rw [Vp5] at f79; obtain ⟨A5, c5, hv, hi5, ho5⟩ := f79; rw [hv] at e79
        clear hV hN hO
        go_simp
        exact hK.out _ _ (by rw [Vp6, upd_at]; exact ⟨A5, c5, rfl, hi5, ho5⟩) (.inr (Below.refl _ _)) (hG)
      case s7_p4 =>
        refine oweP rfl fun a wx val L hG hi hW hV hN hO K hK => ?_
        have e79 := hN 5 79 (by kernel_rfl) (by kernel_rfl) (by simp)
        have f79 := hV 5 (by kernel_rfl) (by kernel_rfl)
        rw [Vp5] at f79; obtain ⟨A5, c5, hv, hi5, ho5⟩ := f79; rw [hv] at e79
        clear hV hN hO
        go_simp
        exact hK.out _ _ (by rw [Vp7, upd_at]) (.inr (Below.refl _ _)) (hG)
      case s8_p4 =>
        refine oweP rfl fun a wx val L hG hi hW hV hN hO K hK => ?_
        clear hV hN hO
        go_simp
        have hb := Joins.below_alloc1 wx (.cells #[.int .i64 0, .slice none 0 0] 31)
        exact hK.out _ _ (by rw [Vp8, upd_at]; exact ⟨_, rfl, hG.size, QAt.new wx 0 none 0 0⟩) (.inr hb) (hG.trans (hb.mono hG.size))
      case s9_p4 =>
        refine oweP rfl fun a wx val L hG hi hW hV hN hO K hK => ?_
        have e19 := hN 8 19 (by kernel_rfl) (by kernel_rfl) (by simp)
        have f19 := hV 8 (by kernel_rfl) (by kernel_rfl)
        rw [Vp8] at f19; obtain ⟨g, hva, hg9, hgg⟩ := f19; rw [hva] at e19
        have e85 := hN 6 85 (by kernel_rfl) (by kernel_rfl) (by simp)
        have f85 := hV 6 (by kernel_rfl) (by kernel_rfl)
        rw [Vp6] at f85; obtain ⟨A5, c5, hv, hi5, ho5⟩ := f85; rw [hv] at e85
        clear hV hN hO
        obtain ⟨v0, v1⟩ := hgg.cells
        have vf := hgg.frozen
        have hs9 := hG.size
        have hbs := below_set2 hG (b := g) hg9 (.int .i64 LQ) (.slice A5 (q k).length c5)
        have hqn : QVar (b16 :: [b7]) ((wx.setCell ⟨g, 0, none⟩ (.int .i64 LQ)).setCell ⟨g, 1, none⟩ (.slice A5 (q k).length c5)) g LQ (q k) := ⟨A5, c5, hgg.set LQ A5 (q k).length c5, hi5.farQ hgg _ _, ho5⟩
        have hpk : ∃ g0 x y, QAt wx g0 0 none 0 0 ∧ ((wx.setCell ⟨g, 0, none⟩ (.int .i64 LQ)).setCell ⟨g, 1, none⟩ (.slice A5 (q k).length c5)) = (wx.setCell ⟨g0, 0, none⟩ x).setCell ⟨g0, 1, none⟩ y := ⟨g, _, _, hgg, rfl⟩
        clear hs9
        go_simp
        exact hK.out undef _ (by rw [Vp9, upd_ne _ _ (by decide)]; exact ⟨g, hva, hg9, hqn⟩) (.inl ⟨rfl, hpk⟩) hbs
      case s10_p4 =>
        refine oweP rfl fun a wx val L hG hi hW hV hN hO K hK => ?_
        have e86 := hN 7 86 (by kernel_rfl) (by kernel_rfl) (by simp)
        have f86 := hV 7 (by kernel_rfl) (by kernel_rfl)
        rw [Vp7] at f86; rw [f86] at e86; clear f86
        clear hV hN hO
        go_simp
        exact hK.out _ _ (by rw [Vp10, upd_at] <;> (congr 1 <;> omega)) (.inr (Below.refl _ _)) (hG)
      intro val wx L hG hV
      have f0 := hV 0 (by simp) (fun _ _ => by simp)
      rw [Vp0] at f0
      have f1 := hV 1 (by simp) (fun _ _ => by simp)
      rw [Vp1] at f1
      have f2 := hV 2 (by simp) (fun _ _ => by simp)
      rw [Vp2] at f2
      have f3 := hV 3 (by simp) (fun _ _ => by simp)
      rw [Vp3] at f3
      have f4 := hV 4 (by simp) (fun _ _ => by simp)
      rw [Vp4] at f4
      have f5 := hV 5 (by simp) (fun _ _ => by simp)
      rw [Vp5] at f5
      have f6 := hV 6 (by simp) (fun _ _ => by simp)
      rw [Vp6] at f6
      have f7 := hV 7 (by simp) (fun _ _ => by simp)
      rw [Vp7] at f7
      have f9 := hV 9 (by simp) (fun _ _ => by simp)
      rw [Vp9] at f9
      have f10 := hV 10 (by simp) (fun _ _ => by simp)
      rw [Vp10] at f10
      clear hV Vp0 Vp1 Vp2 Vp3 Vp4 Vp5 Vp6 Vp7 Vp8 Vp9 Vp10
      simp only [putAll, Act.put, List.setIfInBounds_toArray, List.set_cons_zero, List.set_cons_succ]
      generalize val 0 = z0 at *; (subst f0)
      generalize val 1 = z1 at *; (subst f1)
      generalize val 2 = z2 at *; (subst f2)
      generalize val 3 = z3 at *; (subst f3)
      generalize val 4 = z4 at *
      generalize val 5 = z5 at *
      generalize val 6 = z6 at *
      generalize val 7 = z7 at *; (subst f7)
      generalize val 8 = z8 at *
      generalize val 10 = z10 at *; (subst f10)
      clear HVD
      obtain ⟨g19, hz19, hg19, hq19⟩ := f9
      subst hz19
      have H19 := Lib.hid hq19
      have HQV1 := Lib.hid (QVar.on HQV.out hG); clear HQV; have HQV := HQV1; clear HQV1
      have HB1 := Lib.hid (HB.out.trans (hG.mono HB.out.size)); clear HB; have HB := HB1; clear HB1
      have HRB1 := Lib.hid (HRB.out.on hG); clear HRB; have HRB := HRB1; clear HRB1
      have H121 := Lib.hid (QVar.on H12.out hG); clear H12; have H12 := H121; clear H121
      have H141 := Lib.hid (QVar.on H14.out hG); clear H14; have H14 := H141; clear H141
      have H171 := Lib.hid (MsgAt.on HM17.out hG); clear HM17; have HM17 := H171; clear H171
      clear hq19 hG f4 f5 f6 CN CP HRAW HQA
      have hss := sameQ_self LQ (q k)
      have HSS := Lib.hid hss
      clear hss
      generalize hX15 : wx = X15 at *
      clear hX15
      obtain ⟨Aq, cq, hqa, hqi, -⟩ := HQV.out
      obtain ⟨A12, c12, p12, i12, -⟩ := H12.out
      obtain ⟨A14, c14, p14, i14, -⟩ := H14.out
      obtain ⟨A19, c19, p19, i19, -⟩ := H19.out
      obtain ⟨y0, y1⟩ := hqa.cells
      obtain ⟨t0, t1⟩ := p12.cells
      obtain ⟨u0, u1⟩ := p14.cells
      obtain ⟨v0, v1⟩ := p19.cells
      have p17 := HM17.out
      have hkk : ((k1 : Int) == LQ) = true := by rw [HKK.out]; simp
      obtain ⟨z0, z1, z2, z3, z4, z5, z6⟩ := MsgAt.cells p17
      simp only at z0 z1 z2 z3 z4 z5 z6
      have hsm := sameQ_any LQ LQ A12 Aq c12 cq (q k) (q k) X15 i12 hqi
      rw [HSS.out] at hsm
      clear p12 p14 p17 p19 hqa i12 i14 i19 hqi
      go_wp2_with fail; refine hsm.mono ?_; rintro e w5 ⟨rfl, hG⟩
      clear hsm y0 y1 t0 t1 u0 u1 v0 v1 z0 z1 z2 z3 z4 z5 z6 hkk
      have HQV1 := Lib.hid (QVar.on HQV.out hG); clear HQV; have HQV := HQV1; clear HQV1
      have HB1 := Lib.hid (HB.out.trans (hG.mono HB.out.size)); clear HB; have HB := HB1; clear HB1
      have HRB1 := Lib.hid (HRB.out.on hG); clear HRB; have HRB := HRB1; clear HRB1
      have H121 := Lib.hid (QVar.on H12.out hG); clear H12; have H12 := H121; clear H121
      have H141 := Lib.hid (QVar.on H14.out hG); clear H14; have H14 := H141; clear H141
      have H191 := Lib.hid (QVar.on H19.out hG); clear H19; have H19 := H191; clear H191
      have H171 := Lib.hid (MsgAt.on HM17.out hG); clear HM17; have HM17 := H171; clear H171
      clear hG
      obtain ⟨Aq, cq, hqa, hqi, -⟩ := HQV.out
      obtain ⟨A12, c12, p12, i12, -⟩ := H12.out
      obtain ⟨A14, c14, p14, i14, -⟩ := H14.out
      obtain ⟨A19, c19, p19, i19, -⟩ := H19.out
      obtain ⟨y0, y1⟩ := hqa.cells
      obtain ⟨t0, t1⟩ := p12.cells
      obtain ⟨u0, u1⟩ := p14.cells
      obtain ⟨v0, v1⟩ := p19.cells
      have p17 := HM17.out
      have hkk : ((k1 : Int) == LQ) = true := by rw [HKK.out]; simp
      obtain ⟨z0, z1, z2, z3, z4, z5, z6⟩ := MsgAt.cells p17
      simp only at z0 z1 z2 z3 z4 z5 z6
      have hsm := sameQ_any LQ LQ A14 Aq c14 cq (q k) (q k) w5 i14 hqi
      rw [HSS.out] at hsm
      clear p12 p14 p17 p19 hqa i12 i14 i19 hqi
      go_wp2_with fail; refine hsm.mono ?_; rintro e w6 ⟨rfl, hG⟩
      clear hsm y0 y1 t0 t1 u0 u1 v0 v1 z0 z1 z2 z3 z4 z5 z6 hkk
      have HQV1 := Lib.hid (QVar.on HQV.out hG); clear HQV; have HQV := HQV1; clear HQV1
      have HB1 := Lib.hid (HB.out.trans (hG.mono HB.out.size)); clear HB; have HB := HB1; clear HB1
      have HRB1 := Lib.hid (HRB.out.on hG); clear HRB; have HRB := HRB1; clear HRB1
      have H121 := Lib.hid (QVar.on H12.out hG); clear H12; have H12 := H121; clear H121
      have H141 := Lib.hid (QVar.on H14.out hG); clear H14; have H14 := H141; clear H141
      have H191 := Lib.hid (QVar.on H19.out hG); clear H19; have H19 := H191; clear H191
      have H171 := Lib.hid (MsgAt.on HM17.out hG); clear HM17; have HM17 := H171; clear H171
      clear hG
      obtain ⟨Aq, cq, hqa, hqi, -⟩ := HQV.out
      obtain ⟨A12, c12, p12, i12, -⟩ := H12.out
      obtain ⟨A14, c14, p14, i14, -⟩ := H14.out
      obtain ⟨A19, c19, p19, i19, -⟩ := H19.out
      obtain ⟨y0, y1⟩ := hqa.cells
      obtain ⟨t0, t1⟩ := p12.cells
      obtain ⟨u0, u1⟩ := p14.cells
      obtain ⟨v0, v1⟩ := p19.cells
      have p17 := HM17.out
      have hkk : ((k1 : Int) == LQ) = true := by rw [HKK.out]; simp
      obtain ⟨z0, z1, z2, z3, z4, z5, z6⟩ := MsgAt.cells p17
      simp only at z0 z1 z2 z3 z4 z5 z6
      have hsm := sameQ_any LQ LQ A19 Aq c19 cq (q k) (q k) w6 i19 hqi
      rw [HSS.out] at hsm
      clear p12 p14 p17 p19 hqa i12 i14 i19 hqi
      go_wp2_with fail; refine hsm.mono ?_; rintro e w7 ⟨rfl, hG⟩
      clear hsm y0 y1 t0 t1 u0 u1 v0 v1 z0 z1 z2 z3 z4 z5 z6 hkk
      have HQV1 := Lib.hid (QVar.on HQV.out hG); clear HQV; have HQV := HQV1; clear HQV1
      have HB1 := Lib.hid (HB.out.trans (hG.mono HB.out.size)); clear HB; have HB := HB1; clear HB1
      have HRB1 := Lib.hid (HRB.out.on hG); clear HRB; have HRB := HRB1; clear HRB1
      have H121 := Lib.hid (QVar.on H12.out hG); clear H12; have H12 := H121; clear H121
      have H141 := Lib.hid (QVar.on H14.out hG); clear H14; have H14 := H141; clear H141
      have H191 := Lib.hid (QVar.on H19.out hG); clear H19; have H19 := H191; clear H191
      have H171 := Lib.hid (MsgAt.on HM17.out hG); clear HM17; have HM17 := H171; clear H171
      clear hG
      obtain ⟨Aq, cq, hqa, hqi, -⟩ := HQV.out
      obtain ⟨A12, c12, p12, i12, -⟩ := H12.out
      obtain ⟨A14, c14, p14, i14, -⟩ := H14.out
      obtain ⟨A19, c19, p19, i19, -⟩ := H19.out
      obtain ⟨y0, y1⟩ := hqa.cells
      obtain ⟨t0, t1⟩ := p12.cells
      obtain ⟨u0, u1⟩ := p14.cells
      obtain ⟨v0, v1⟩ := p19.cells
      have p17 := HM17.out
      have hkk : ((k1 : Int) == LQ) = true := by rw [HKK.out]; simp
      obtain ⟨z0, z1, z2, z3, z4, z5, z6⟩ := MsgAt.cells p17
      simp only at z0 z1 z2 z3 z4 z5 z6
      have hrr := rightQ_any LQ Aq cq (q k) w7 (HLL.out.below HB.out) hqi
      rw [HRN.out] at hrr
      clear p12 p14 p17 p19 hqa i12 i14 i19 hqi
      go_wp2_with fail; refine hrr.mono ?_; rintro e w8 ⟨rfl, hG⟩
      have HBZ := Lib.hid (HB.out.trans (hG.mono HB.out.size))
      clear hrr hG
      go_wp2_with fail
      go_ret
      exact ⟨rfl, HBZ.out⟩

end Go.Proofs.YtmikcgofhlbimaaDoor


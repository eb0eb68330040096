/-
  The law TxqAborts, walked.
-/
import Derived.Test.YtmikcgofhlbimaaDoorTxqAwake
import Derived.Deep.DeepCutAuto
namespace Go.Proofs.YtmikcgofhlbimaaDoor
open Go Go.RowKit

/-- What is left of the first k, without the one at place i. -/
def leftL (l : List Msg) (i k : Nat) : List Msg := (l.take k).eraseIdx i
theorem left_at {l : List Msg} {i k : Nat} {m : Msg} (hm : l[k]? = some m) (h : k ≠ i) : leftL l i (k + 1) = leftL l i k ++ [m] := by
  unfold leftL
  have hk := (List.getElem?_eq_some_iff.1 hm).1
  have hl : (l.take k).length = k := by rw [List.length_take]; omega
  rw [List.take_add_one, hm]
  simp only [Option.toList_some]
  rcases Nat.lt_or_ge i k with h1 | h1
  · rw [List.eraseIdx_append_of_lt_length (by omega)]
  · rw [List.eraseIdx_of_length_le (by simp; omega), List.eraseIdx_of_length_le (by omega)]
theorem left_gone {l : List Msg} {k : Nat} : leftL l k (k + 1) = leftL l k k := by
  unfold leftL
  rw [List.take_add_one]
  cases h : l[k]? with
  | none => simp
  | some m =>
    have hk := (List.getElem?_eq_some_iff.1 h).1
    have hl : (l.take k).length = k := by rw [List.length_take]; omega
    simp only [Option.toList_some]
    rw [List.eraseIdx_append_of_length_le (by omega), hl, Nat.sub_self, List.eraseIdx_of_length_le (l := l.take k) (by omega)]
    simp
theorem left_all (l : List Msg) (i : Nat) : leftL l i l.length = l.eraseIdx i := by unfold leftL; rw [List.take_length]
theorem left_length (l : List Msg) (i k : Nat) : (leftL l i k).length ≤ k := by
  unfold leftL
  exact Nat.le_trans (List.length_eraseIdx_le _ _) (List.length_take_le _ _)
/-- In a right queue one alone has a number. -/
theorem num_one {l : List Msg} {n : Int} (h : l.Pairwise fun a b => a.number ≠ b.number) {k : Nat} {m : Msg} (hm : l[k]? = some m) : (m.number == n) = decide (k = l.findIdx (isNum n)) := by
  obtain ⟨hk, e⟩ := List.getElem?_eq_some_iff.1 hm
  by_cases hn : m.number = n
  · have h1 : l.findIdx (isNum n) = k := by
      refine find_stop (fun j x hj hx => ?_) hm (by simp [isNum, hn])
      obtain ⟨hj2, e2⟩ := List.getElem?_eq_some_iff.1 hx
      have := List.pairwise_iff_getElem.1 h j k hj2 hk hj
      rw [e, e2] at this
      simp only [isNum, beq_eq_false_iff_ne]
      rw [← hn]; exact this
    rw [h1]; simp [hn]
  · have h1 : k ≠ l.findIdx (isNum n) := by
      intro e2
      have h3 : isNum n (l[l.findIdx (isNum n)]'(by omega)) = true := List.findIdx_getElem (p := isNum n) (xs := l) (w := by omega)
      have : l[l.findIdx (isNum n)]'(by omega) = m := by rw [← e]; congr 1; exact e2.symm
      rw [this] at h3
      simp only [isNum, beq_iff_eq] at h3
      exact hn h3
    simp [hn, h1]

theorem RowsOk.on {w w' : World} {A : Option Addr} {c : Nat} {l : List Raw} (h : RowsOk w A c l) (hb : Below w.heap.size w w') : RowsOk w' A c l := by
  refine ⟨fun hn => ?_, h.2⟩
  obtain ⟨ad, e, h1, h2⟩ := (h.1.below hb (Nat.le_refl _)) hn
  exact ⟨ad, e, Nat.lt_of_lt_of_le h1 hb.size, h2⟩

set_option maxRecDepth 100000 in
set_option maxHeartbeats 8000000 in
theorem txqAborts_walk (lim : Int) (A : Option Addr) (c : Nat) (rs : List Raw) (num : Int) (h1 : (Lit.int .i64 lim).wf = true) (h2 : (Lit.int .i64 num).wf = true) (w : World) (L : Laid w) (f1 : RowsOk w A c rs) :
    Calls Tryd.prog 7 #[.int .i64 lim, .slice A rs.length c, .int .i64 num] w fun e w' => e = .returned (.bool true) ∧ Below w.heap.size w w' := by
  have hrs := f1.1
  have HF := Lib.hid f1
  have HL := Lib.hid L
  have cA := fun W LL => awake_any W LL
  have cP := fun W => pick13_any num 14 h2 (by omega) W
  have hpl := pickI_range lim 32 (by omega)
  have hqr := quL_right (L := 1 + pickI lim 32) (by omega) (by omega) rs (min rs.length 12)
  have hql := quL_length (1 + pickI lim 32) rs (min rs.length 12)
  have hqd := quL_data (1 + pickI lim 32) rs (min rs.length 12)
  have HCQ : Hid (∀ W, RowsOk W A c rs → Calls Tryd.prog 12 #[.int .i64 lim, .slice A rs.length c] W fun e w' => ∃ A' c', e = .returned (qv (1 + pickI lim 32) A' (quL (1 + pickI lim 32) rs (min rs.length 12)).length c') ∧ QTold none W.heap.size w' (quL (1 + pickI lim 32) rs (min rs.length 12)) A' c' ∧ Below W.heap.size W w') := Lib.hid (fun W h => queue_any lim h1 A c rs W h)
  generalize quL (1 + pickI lim 32) rs (min rs.length 12) = l at *
  generalize 1 + pickI lim 32 = LQ at *
  generalize pickI num 14 = K at *
  have hpa := rightQ_parts hqr
  have HUN := Lib.hid hpa.2.2.unlike
  have hfew : l.length ≤ 32 := by have := hpa.2.1; have := hpa.1.2; omega
  have HQD := Lib.hid hqd
  have HQR := Lib.hid hqr
  have HNO := Lib.hid (fun k m (hm : l[k]? = some m) => num_one (n := K) HUN.out hm)
  have hle := find_le (isNum K) l
  have HCA : Hid (∀ A8 c8 W, Laid W → QIn W A8 c8 l → Calls Tryd.prog 24 #[qv LQ A8 l.length c8, .int .i64 K] W (TakePost LQ A8 l (l.findIdx (isNum K)) W)) := Lib.hid (fun A8 c8 W h1 h2 => abortQ_any LQ A8 c8 l K W h1 h2)
  generalize l.findIdx (isNum K) = I at *
  obtain ⟨E, m, l', hE, hm, hl, hcase⟩ : ∃ E m l', cutE LQ l I = E ∧ cutM LQ l I = m ∧ cutL LQ l I = l' ∧ ((I < l.length ∧ E = 0 ∧ l[I]? = some m ∧ l' = l.eraseIdx I) ∨ (I = l.length ∧ E = 41 ∧ m = zeroM ∧ l' = l.eraseIdx I)) := by
    rcases Nat.lt_or_ge I l.length with hi | hi
    · obtain ⟨h1, h2, h3, _⟩ := cut_one hqr (List.getElem?_eq_getElem hi)
      exact ⟨_, _, _, rfl, rfl, rfl, .inl ⟨hi, h1, by rw [h3, List.getElem?_eq_getElem hi], h2⟩⟩
    · have hi : I = l.length := by omega
      obtain ⟨h1, h2, h3, _⟩ := cut_none hqr hi
      exact ⟨_, _, _, rfl, rfl, rfl, .inr ⟨hi, h1, h3, by rw [h2, hi, List.eraseIdx_of_length_le (Nat.le_refl _)]⟩⟩
  have HEM := Lib.hid (And.intro hE (And.intro hm hl))
  have HLL : Hid (l' = l.eraseIdx I) := Lib.hid (by rcases hcase with h | h; exact h.2.2.2; exact h.2.2.2)
  have HCC := Lib.hid hcase
  clear hE hm hl hcase hqr hpa hqd hpl hql h1 h2 f1 hrs L
  go_enter Tryd.func7, Tryd.ntmps7
  go_wp2_with fail; refine (cA _ HL.out).mono ?_; rintro e w1 ⟨rfl, b1⟩
  have HF1 : Hid (RowsOk w1 A c rs) := Lib.hid (HF.out.on b1)
  have HB1 := Lib.hid b1
  have cq := HCQ.out w1 HF1.out
  clear b1 cA
  go_wp2_with fail; refine cq.mono ?_; rintro e w2 ⟨A8, c8, rfl, ht, b2⟩
  clear cq HCQ
  have hi := ht.qin (by omega) HQD.out
  have hb8 := Joins.below_alloc1 w2 (.cells #[.int .i64 LQ, .slice A8 l.length c8] 31)
  have HQ8 := Lib.hid (QAt.new w2 LQ A8 l.length c8)
  have HI8 := Lib.hid (hi.on hb8)
  have HB2 := Lib.hid ((HB1.out.trans (b2.mono HB1.out.size)).trans (hb8.mono (Nat.le_trans HB1.out.size b2.size)))
  clear b2 ht hi hb8
  obtain ⟨y0, y1⟩ := HQ8.out.cells
  go_wp2_with fail; refine (cP _).mono ?_; rintro e w3 ⟨rfl, rfl⟩
  clear cP
  go_upto_region 4 with (fail)
  generalize hW8 : w2.alloc (.cells #[.int .i64 LQ, .slice A8 l.length c8] 31) = W8 at *
  generalize w2.heap.size = b8 at *
  clear hW8
  have ca := HCA.out A8 c8 W8 (HL.out.below HB2.out) HI8.out
  unfold TakePost at ca
  rw [HEM.out.1, HEM.out.2.1, HEM.out.2.2] at ca
  have HMM : Hid (m = m) := Lib.hid rfl
  go_wp2_with fail; refine ca.mono ?_; rintro e w4 ⟨v, rfl, ⟨A10, c10, rfl, ht⟩, b4⟩
  clear ca y0 y1 HCA
  have hll := HLL.out
  have hl'2 : l'.length ≤ 200 := by rw [hll]; have := List.length_eraseIdx_le l I; omega
  have hi := ht.qin hl'2 (by rw [hll]; exact fun x hx => HQD.out x (List.mem_of_mem_eraseIdx hx))
  have hb10 := Joins.below_alloc1 w4 (.cells #[.int .i64 LQ, .slice A10 l'.length c10] 31)
  have hb11 := Joins.below_alloc1 (w4.alloc (.cells #[.int .i64 LQ, .slice A10 l'.length c10] 31)) (.cells (mc m) 27)
  have hbb := hb10.trans (hb11.mono hb10.size)
  have HQ10 := Lib.hid ((QAt.new w4 LQ A10 l'.length c10).on hb11)
  have HI10 := Lib.hid (hi.on hbb)
  have HM11 := Lib.hid (MsgAt.new (w4.alloc (.cells #[.int .i64 LQ, .slice A10 l'.length c10] 31)) m)
  have HQ8b := Lib.hid ((HQ8.out.on b4).on hbb)
  have HI8b := Lib.hid ((HI8.out.on b4).on hbb)
  have HB4 := Lib.hid ((HB2.out.trans (b4.mono HB2.out.size)).trans (hbb.mono (Nat.le_trans HB2.out.size b4.size)))
  clear hb10 hb11 hbb hi ht b4 hll hl'2
  obtain ⟨e1, n1, s1, i1, q1, k1, d1⟩ := m
  simp only [mc, World.size_alloc] at HM11 HQ10 HI10 HQ8b HI8b HB4
  go_upto_region 5 with (fail)
  generalize hW4 : (w4.alloc (.cells #[.int .i64 LQ, .slice A10 l'.length c10] 31)).alloc (.cells #[.bool e1, .int .i64 n1, .int .i64 s1, .int .i64 i1, .int .i64 q1, .int .i64 k1, .string d1] 27) = W at *
  generalize w4.heap.size = b10 at *
  clear hW4
  clear HQ8 HI8 HB2 HB1 HEM HF1
  go_wp2_with fail
  go_loopw [13, 14, 15] (fun u hd i wr => ∃ k : Nat, k ≤ l.length ∧ i = .int .i64 k ∧ hd = .int .i64 (if I < k then 1 else 0) ∧ OwnM wr W.heap.size u (leftL l I k) ∧ Below W.heap.size W wr) (fun _ _ i _ => l.length - (intOf i).toNat)
  case atStart => exact ⟨0, by omega, rfl, by simp, by unfold leftL; simp; exact OwnM.nil _ _, Below.refl _ _⟩
  case round =>
    obtain ⟨k, hk, rfl, hhd, hown, hb⟩ := hrel
    have HB := Lib.hid hb
    have HOWN := Lib.hid hown
    obtain ⟨y0, y1⟩ := (HQ8b.out.on hb).cells
    by_cases hlt : k < l.length
    · have hltI : (k : Int) < (l.length : Int) := by omega
      obtain ⟨m', hm'⟩ : ∃ m', l[k]? = some m' := ⟨_, List.getElem?_eq_getElem hlt⟩
      have hno := HNO.out k m' hm'
      obtain ⟨ad, rfl, hat⟩ := (HI8b.out.on hb).at hm'
      by_cases hkI : k = I
      · subst hkI
        have hmm : m' = ⟨e1, n1, s1, i1, q1, k1, d1⟩ := by
          rcases HCC.out with h | h
          · have h3 := h.2.2.1; rw [hm'] at h3; exact Option.some.inj h3
          · have := h.1; omega
        subst hmm
        rw [if_neg (by omega)] at hhd
        subst hhd
        rw [decide_eq_true rfl] at hno
        have HG := Lib.hid (left_gone (l := l) (k := k))
        obtain ⟨x0, x1, x2, x3, x4, x5, x6⟩ := hat
        obtain ⟨z0, z1, z2, z3, z4, z5, z6⟩ := (MsgAt.on HM11.out hb).cells
        have hEG := fun x y w => eqM_guard .neq x y ⟨e1, n1, s1, i1, q1, k1, d1⟩ ⟨e1, n1, s1, i1, q1, k1, d1⟩ w
        have hNE := neqM ⟨e1, n1, s1, i1, q1, k1, d1⟩ ⟨e1, n1, s1, i1, q1, k1, d1⟩
        rw [(sameM_iff _ _).2 rfl] at hNE
        simp only [mv] at hEG hNE
        simp only at x0 x1 x2 x3 x4 x5 x6 z0 z1 z2 z3 z4 z5 z6 hno
        clear hb hown hm'
        go_wp2_with fail
        go_quiet (fail)
        go_wp2_with fail
        go_roundw
        case rel => exact ⟨k + 1, by omega, by go_num, by rw [if_pos (by omega)], by rw [HG.out]; exact HOWN.out.on (below_drewN (Below.refl _ _) nq), below_drewN HB.out nq⟩
        case measure => simp [intOf]; omega
      · have HLA := Lib.hid (left_at hm' hkI)
        rw [decide_eq_false hkI] at hno
        have hll := left_length l I k
        have hh1 : (if I < k + 1 then (1 : Int) else 0) = if I < k then 1 else 0 := by
          by_cases h : I < k
          · rw [if_pos h, if_pos (by omega)]
          · rw [if_neg h, if_neg (by omega)]
        have HHD := Lib.hid hh1
        have HH := Lib.hid hhd
        clear hh1 hhd
        obtain ⟨e2, n2, s2, i2, q2, k2, d2⟩ := m'
        obtain ⟨x0, x1, x2, x3, x4, x5, x6⟩ := hat
        simp only at x0 x1 x2 x3 x4 x5 x6 hno
        generalize leftL l I k = out at *
        have hownA := own_one hown ⟨e2, n2, s2, i2, q2, k2, d2⟩
        have hbA := Joins.below_alloc1 wr (.cells (mc ⟨e2, n2, s2, i2, q2, k2, d2⟩) 27)
        have hsW : W.heap.size ≤ wr.heap.size := hb.size
        have HBA := Lib.hid (hb.trans (hbA.mono hb.size))
        have HSA := Lib.hid hbA.size
        clear hb hm' hown hbA
        have HOA := Lib.hid hownA
        clear hownA
        go_wp2_with (at_builtin; refine list_appM (by rfl) _ _ rfl W.heap.size (wr.alloc (.cells (mc ⟨e2, n2, s2, i2, q2, k2, d2⟩) 27)).heap.size _ out [⟨e2, n2, s2, i2, q2, k2, d2⟩] (some ⟨wr.heap.size, 0, none⟩) 1 rfl rfl HOA.out (Msgs.one (heap_alloc_new wr _)) (Nat.le_trans hsW HSA.out) (by simp; omega) ?_; intro u' w5 hown5 hg5)
        have HB5 := Lib.hid (HBA.out.trans (HOA.out.below hg5 (Nat.le_trans hsW HSA.out)))
        have HO5 := Lib.hid hown5
        clear hown5 hg5
        go_roundw
        case rel => exact ⟨k + 1, by omega, by go_num, by rw [HHD.out]; exact HH.out, by rw [HLA.out]; exact HO5.out, HB5.out⟩
        case measure => simp [intOf]; omega
    · have hltI : ¬ (k : Int) < (l.length : Int) := by omega
      have hkl : k = l.length := by omega
      subst hkl
      rw [left_all, ← HLL.out] at hown
      obtain ⟨Aw, cw, rfl, hcw, hmw⟩ := hown.row
      obtain ⟨v0, v1⟩ := (HQ10.out.on hb).cells
      obtain ⟨z0, z1, z2, z3, z4, z5, z6⟩ := (MsgAt.on HM11.out hb).cells
      have hpi := HI10.out.on hb
      have hsame := same_any A10 Aw c10 cw _ _ l' l' wr hpi.msgs hmw (by have := hpi.few; unfold maxLen; omega)
      rw [(sameL_iff l' l').2 rfl] at hsame
      simp only at z0 z1 z2 z3 z4 z5 z6
      have HS0 := Lib.hid HB4.out.size
      have HBX := Lib.hid (HB4.out.trans (hb.mono HB4.out.size))
      have hEG := fun x y w => eqM_guard .eql x y zeroM zeroM w
      have hNE := eqlM zeroM zeroM
      rw [(sameM_iff _ _).2 rfl] at hNE
      simp only [mv, zeroM] at hEG hNE
      rcases HCC.out with ⟨hi, rfl, -, -⟩ | ⟨hi, rfl, hz, -⟩
      · rw [if_pos hi] at hhd
        subst hhd
        clear hown hb hpi hmw hi hEG hNE
        go_wp2_with fail; refine hsame.mono ?_; rintro e w9 ⟨rfl, n9, rfl⟩
        clear hsame
        have HBY := Lib.hid (below_drewN HBX.out n9)
        go_wp2_with fail
        go_ret
        exact ⟨rfl, HBY.out⟩
      · rw [if_neg (by omega)] at hhd
        subst hhd
        simp only [zeroM, Msg.mk.injEq] at hz
        obtain ⟨rfl, rfl, rfl, rfl, rfl, rfl, rfl⟩ := hz
        clear hown hb hpi hmw hi
        go_wp2_with fail; refine hsame.mono ?_; rintro e w9 ⟨rfl, n9, rfl⟩
        clear hsame
        have HBY := Lib.hid (below_drewN HBX.out n9)
        go_wp2_with fail
        go_ret
        exact ⟨rfl, HBY.out⟩

end Go.Proofs.YtmikcgofhlbimaaDoor

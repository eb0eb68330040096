/-
  The law's raw numbers: pick, messages of a number, queues.
-/
import Derived.Test.YtehajmockicilaaDoorTxqRefPut
namespace Go.Proofs.YtehajmockicilaaDoor
open Go Go.RowKit

set_option maxRecDepth 100000 in
theorem pick13_any (c n : Int) (hc : (Lit.int .i64 c).wf = true) (hn : 0 < n) (w : World) :
    Calls Tryd.prog 35 #[.int .i64 c, .int .i64 n] w fun e w' => e = .returned (.int .i64 (pickI c n)) ∧ w = w' := by
  by_cases h : c < 0
  · have hv := Lib.hid (pick_neg_value c n hc h)
    have HC := Lib.hid hc; clear hc
    go_enter Tryd.func35, Tryd.ntmps35
    go_wp2
    go_ret
    exact ⟨ret_i hv.out, rfl⟩
  · have hv := Lib.hid (pick_pos_value c n h)
    have h0 : 0 ≤ c := by omega
    have HC := Lib.hid hc; clear hc
    go_enter Tryd.func35, Tryd.ntmps35
    go_wp2
    go_ret
    exact ⟨ret_i hv.out, rfl⟩

def dT : ByteArray := ⟨#[100]⟩
/-- A raw message of a number. -/
def numM (r : Raw) (n : Int) : Msg := { rmsg dT r with number := n }
theorem numM_number (r : Raw) (n : Int) : (numM r n).number = n := rfl
theorem numM_right (r : Raw) (n : Int) (h1 : 1 ≤ n) (h2 : n ≤ 65535) : rightM (numM r n) = true := by
  have h := (rightM_iff _).1 (rmsg_right dT r)
  exact (rightM_iff _).2 ⟨h.1, h.2.1, h.2.2.1, h.2.2.2.1, ⟨h1, h2⟩, h.2.2.2.2.2⟩
theorem numM_data (r : Raw) (n : Int) : (numM r n).data.size ≤ 140737488351232 := by
  have h : (numM r n).data.size ≤ 8 := ((rightM_iff _).1 (rmsg_right dT r)).2.2.2.2.2
  omega
abbrev rv (r : Raw) : Value := .agg #[.int .i64 r.r0, .int .i64 r.r1, .int .i64 r.r2, .int .i64 r.r3, .int .i64 r.r4, .int .i64 r.r5]
theorem mo_res {fn : Func} {j : Nat} (hr : fn.results = #[.cell j 26]) {Y : World} {d : Nat} {m : Msg} {T : Array Value} (h' : MsgAt Y d m) (ht' : T[j]? = some (.pointer (some ⟨d, 0, none⟩))) :
    (results fn T).run Tryd.prog Y = .ok (mv m) Y := m_res hr h' ht'

set_option maxRecDepth 100000 in
set_option maxHeartbeats 2000000 in
theorem numM_any (r : Raw) (hw : WfR r) (n : Int) (w : World) :
    Calls Tryd.prog 42 #[rv r, .int .i64 n] w fun e w' => e = .returned (mv (numM r n)) ∧ Below w.heap.size w w' := by
  have cm := fun W => rmsg_any r hw dT (by decide) W
  have b1 := Joins.below_alloc1 w (.cells #[.int .i64 r.r0, .int .i64 r.r1, .int .i64 r.r2, .int .i64 r.r3, .int .i64 r.r4, .int .i64 r.r5] 27)
  have hZ := MsgAt.new (w.alloc (.cells #[.int .i64 r.r0, .int .i64 r.r1, .int .i64 r.r2, .int .i64 r.r3, .int .i64 r.r4, .int .i64 r.r5] 27)) zeroM
  have b2 := Joins.below_alloc1 (w.alloc (.cells #[.int .i64 r.r0, .int .i64 r.r1, .int .i64 r.r2, .int .i64 r.r3, .int .i64 r.r4, .int .i64 r.r5] 27)) (.cells (mc zeroM) 26)
  have hB := b1.trans (b2.mono b1.size)
  rw [World.size_alloc] at hZ
  simp only [mc, zeroM] at hZ hB
  clear b1 b2 hw
  have HN : Hid (∀ m, m = rmsg dT r → numM r n = { m with number := n }) := Lib.hid (fun m e => by rw [e]; rfl)
  have HB := Lib.hid hB
  have HZ : Hid (MsgAt _ (w.heap.size + 1) zeroM) := Lib.hid hZ
  clear hB hZ
  obtain ⟨m, hm⟩ : ∃ m, m = rmsg dT r := ⟨_, rfl⟩
  have HNN := Lib.hid (HN.out m hm)
  rw [← hm] at cm
  clear hm HN
  obtain ⟨r0, r1, r2, r3, r4, r5⟩ := r
  obtain ⟨e1, n1, s1, i1, q1, k1, d1⟩ := m
  simp only [mv, dT] at cm
  go_enter Tryd.func42, Tryd.ntmps42
  go_wp2_with fail; refine (cm _).mono ?_; rintro e w1 ⟨rfl, b3⟩
  have hZ1 := MsgAt.on HZ.out b3
  obtain ⟨x0, x1, x2, x3, x4, x5, x6⟩ := hZ1.cells
  have xf := hZ1.frozen
  have HZ1 := Lib.hid hZ1
  simp only [zeroM] at x0 x1 x2 x3 x4 x5 x6
  have HB1 := Lib.hid (HB.out.trans (b3.mono HB.out.size))
  clear b3 hZ1 cm
  have hM := MsgAt.new w1 ⟨e1, n1, s1, i1, q1, k1, d1⟩
  have hMM := MsgAt.new w1 ⟨e1, n1, s1, i1, q1, n, d1⟩
  have hbm := Joins.below_alloc1 w1 (.cells #[.bool e1, .int .i64 n1, .int .i64 s1, .int .i64 i1, .int .i64 q1, .int .i64 n, .string d1] 26)
  have hZ2 := MsgAt.on HZ1.out hbm
  obtain ⟨z0, z1, z2, z3, z4, z5, z6⟩ := hZ2.cells
  have zf := hZ2.frozen
  have HZ2 := Lib.hid hZ2
  simp only [zeroM] at z0 z1 z2 z3 z4 z5 z6
  have HB2 := Lib.hid (HB1.out.trans (hbm.mono HB1.out.size))
  clear hZ2 hbm hM hMM
  go_wp2_with fail
  have hp7 := HZ2.out.set7 ⟨e1, n1, s1, i1, q1, n, d1⟩
  have hb7 := below_set7 HB2.out (b := w.heap.size + 1) (by omega) ⟨e1, n1, s1, i1, q1, n, d1⟩
  simp only [set7] at hp7 hb7
  rw [HNN.out]
  exact bodyPost_ret (mo_res Tryd.results42 hp7 rfl) rfl ⟨rfl, hb7⟩

/-- What is told of a list that some call told, behind another. -/
theorem QTold.chain {A0 A A' : Option Addr} {S S' : Nat} {w' w : World} {l l' : List Msg} {c c' : Nat} (h' : QTold A S' w' l' A' c') (h : QTold A0 S w l A c) (hS : S ≤ S') : QTold A0 S w' l' A' c' :=
  ⟨h'.cap, h'.msgs, h'.low, by
    rcases h'.fresh with e | e
    · rcases h.fresh with e2 | e2
      · exact .inl (e.trans e2)
      · exact .inr fun ad e3 => e2 ad (by rw [← e]; exact e3)
    · exact .inr fun ad e3 => Nat.le_trans hS (e ad e3)⟩

/-- The queue of raw messages. -/
def quL (L : Int) (rs : List Raw) : Nat → List Msg
  | 0 => []
  | k + 1 => putL L (quL L rs k) (numM (rs.getD k ⟨0, 0, 0, 0, 0, 0⟩) ((k : Int) + 1))
theorem putL_cases (L : Int) (l : List Msg) (m : Msg) : putL L l m = l ∨ (putE L l m = 0 ∧ putL L l m = insAt l (l.findIdx (lessM m)) m) := by
  unfold putL
  by_cases h : putE L l m = 0
  · rw [if_pos h]; exact .inr ⟨h, rfl⟩
  · rw [if_neg h]; exact .inl rfl
theorem putE_zero {L : Int} {l : List Msg} {m : Msg} (h : putE L l m = 0) : rightQ L l = true ∧ rightM m = true ∧ hasN l m.number = false ∧ (l.length : Int) ≠ L := by
  unfold putE at h
  split at h
  · split at h
    · split at h
      · cases h
      · split at h
        · cases h
        · rename_i h1 h2 h3 h4
          exact ⟨h1, h2, by simpa using h3, h4⟩
    · cases h
  · cases h
theorem putL_right {L : Int} {l : List Msg} {m : Msg} (h : rightQ L l = true) : rightQ L (putL L l m) = true := by
  rcases putL_cases L l m with e | ⟨h0, e⟩
  · rw [e]; exact h
  · rw [e]
    obtain ⟨h1, h2, h3, h4⟩ := putE_zero h0
    obtain ⟨⟨p1, p2⟩, p3, p4⟩ := rightQ_parts h
    refine rightQ_of p1 p2 ?_ (insAt_sorted p4 h2 (hasN_no h3))
    rw [insAt_length]; omega
theorem putL_mem {L : Int} {l : List Msg} {m x : Msg} (h : x ∈ putL L l m) : x ∈ l ∨ x = m := by
  rcases putL_cases L l m with e | ⟨h0, e⟩
  · rw [e] at h; exact .inl h
  · rw [e] at h
    rcases List.mem_cons.1 ((insAt_perm _ _ _).mem_iff.1 h) with e2 | e2
    · exact .inr e2
    · exact .inl e2
theorem putL_length {L : Int} {l : List Msg} {m : Msg} : (putL L l m).length ≤ l.length + 1 := by
  rcases putL_cases L l m with e | ⟨h0, e⟩
  · rw [e]; omega
  · rw [e, insAt_length]; omega
theorem right_nil {L : Int} (h1 : 1 ≤ L) (h2 : L ≤ 32) : rightQ L [] = true := rightQ_of h1 h2 (by simp; omega) ⟨by simp, by simp, by simp⟩
theorem quL_right {L : Int} (h1 : 1 ≤ L) (h2 : L ≤ 32) (rs : List Raw) : ∀ k, rightQ L (quL L rs k) = true
  | 0 => right_nil h1 h2
  | k + 1 => putL_right (quL_right h1 h2 rs k)
theorem quL_length (L : Int) (rs : List Raw) : ∀ k, (quL L rs k).length ≤ k
  | 0 => Nat.le_refl _
  | k + 1 => Nat.le_trans putL_length (by have := quL_length L rs k; omega)
theorem quL_data (L : Int) (rs : List Raw) : ∀ k, ∀ m ∈ quL L rs k, m.data.size ≤ 140737488351232
  | 0, m, h => by cases h
  | k + 1, m, h => by
    rcases putL_mem h with h1 | h1
    · exact quL_data L rs k m h1
    · rw [h1]; exact numM_data _ _

set_option maxRecDepth 100000 in
set_option maxHeartbeats 4000000 in
theorem queue_any (lim : Int) (hlim : (Lit.int .i64 lim).wf = true) (A : Option Addr) (c : Nat) (rs : List Raw) (w : World) (hr : RowsOk w A c rs) :
    Calls Tryd.prog 33 #[.int .i64 lim, .slice A rs.length c] w fun e w' => ∃ A' c', e = .returned (qv (1 + pickI lim 32) A' (quL (1 + pickI lim 32) rs (min rs.length 12)).length c') ∧ QTold none w.heap.size w' (quL (1 + pickI lim 32) rs (min rs.length 12)) A' c' ∧ Below w.heap.size w w' := by
  obtain ⟨hrs, ⟨hlc, hcm⟩, hwf⟩ := hr
  unfold maxLen at hcm
  have cp := fun W => pick13_any lim 32 hlim (by omega) W
  have hpr := pickI_range lim 32 (by omega)
  generalize pickI lim 32 = P at *
  have hL1 : limB (1 + P) = true := (limB_iff _).2 ⟨by omega, by omega⟩
  have cn := fun W => refNew_any (1 + P) W
  have hnl : newL (1 + P) = 1 + P := by unfold newL; rw [hL1, if_pos rfl]
  have hne : newE (1 + P) = 0 := by unfold newE; rw [hL1, if_pos rfl]
  rw [hnl, hne] at cn
  have HZ := Lib.hid (QAt.new w 0 none 0 0)
  have hb1 := Joins.below_alloc1 w (.cells #[.int .i64 0, .slice none 0 0] 64)
  have HB := Lib.hid hb1
  have HRS := Lib.hid hrs
  have HWF := Lib.hid hwf
  have HQR := Lib.hid (quL_data (1 + P) rs)
  have HQL := Lib.hid (quL_length (1 + P) rs)
  have HQN : Hid (∀ k r, rs[k]? = some r → quL (1 + P) rs (k + 1) = putL (1 + P) (quL (1 + P) rs k) (numM r ((k : Int) + 1))) := Lib.hid (fun k r hk => by
    show putL _ _ (numM (rs.getD k ⟨0, 0, 0, 0, 0, 0⟩) _) = _
    rw [List.getD_eq_getElem?_getD, hk]; rfl)
  have hq0 : quL (1 + P) rs 0 = [] := rfl
  obtain ⟨q, hqq⟩ : ∃ q, q = quL (1 + P) rs := ⟨_, rfl⟩
  rw [← hqq] at HQR HQL HQN hq0
  rw [← hqq]
  have HQ0 := Lib.hid hq0
  clear hqq hq0 hnl hne hL1 hb1 hrs hwf hlim
  obtain ⟨LQ, hLQ⟩ : ∃ LQ : Int, LQ = 1 + P := ⟨_, rfl⟩
  rw [← hLQ] at cn HQN
  rw [← hLQ]
  have hL32 : 1 ≤ LQ ∧ LQ ≤ 32 := by omega
  have HPL : Hid (1 + P = LQ) := Lib.hid hLQ.symm
  clear hLQ
  obtain ⟨KM, hKM⟩ : ∃ KM, KM = min rs.length 12 := ⟨_, rfl⟩
  rw [← hKM]
  have HKM := Lib.hid hKM
  clear hKM
  go_enter Tryd.func33, Tryd.ntmps33
  go_wp2_with fail; refine (cp _).mono ?_; rintro e w1 ⟨rfl, rfl⟩
  have hpl := HPL.out
  go_wp2_with fail; refine (cn _).mono ?_; rintro e w1 ⟨rfl, b2⟩
  have hz1 := HZ.out.on b2
  have hb2 := HB.out.trans (b2.mono HB.out.size)
  have hq5 := QAt.new w1 LQ none 0 0
  have hb5 := Joins.below_alloc1 w1 (.cells #[.int .i64 LQ, .slice none 0 0] 64)
  have HZ5 := Lib.hid (hz1.on hb5)
  have HB5 := Lib.hid (hb2.trans (hb5.mono hb2.size))
  have HQ5 := Lib.hid hq5
  have HS5 : Hid (w.heap.size < w1.heap.size) := Lib.hid hz1.lt
  have HSZ5 : Hid ((w1.alloc (.cells #[.int .i64 LQ, .slice none 0 0] 64)).heap.size = w1.heap.size + 1) := Lib.hid (World.size_alloc _ _)
  clear hz1 hb2 hq5 hb5 b2 cp cn HZ HB hpl
  go_wp2_with fail
  generalize hW1 : w1.alloc (.cells #[.int .i64 LQ, .slice none 0 0] 64) = W1 at *
  clear hW1
  generalize w1.heap.size = b5 at *
  go_loopw [7] (fun i wr => ∃ k : Nat, k ≤ rs.length ∧ k ≤ 12 ∧ i = .int .i64 k ∧ (∃ A' c', QAt wr b5 LQ A' (q k).length c' ∧ QTold none (b5 + 1) wr (q k) A' c') ∧ Below w.heap.size w wr ∧ QAt wr w.heap.size 0 none 0 0) (fun i _ => 12 - (intOf i).toNat)
  case atStart => exact ⟨0, by omega, by omega, rfl, ⟨none, 0, by rw [HQ0.out]; exact HQ5.out, by rw [HQ0.out]; exact ⟨Nat.le_refl _, Msgs.nil _ _ _, fun ad e => (by cases e), .inl rfl⟩⟩, HB5.out, HZ5.out⟩
  case round =>
    obtain ⟨k, hk, hk12, rfl, ⟨A', c', hqa, htold⟩, hb, hz⟩ := hrel
    have HQA := Lib.hid hqa
    have HTO := Lib.hid htold
    have HB := Lib.hid hb
    have HZ := Lib.hid hz
    by_cases hgo : k < rs.length ∧ k < 12
    · obtain ⟨hlt, hlt12⟩ := hgo
      have hltI : (k : Int) < (rs.length : Int) := by omega
      have hlt12I : (k : Int) < 12 := by omega
      obtain ⟨r, hr⟩ : ∃ r, rs[k]? = some r := ⟨_, List.getElem?_eq_getElem hlt⟩
      have hwr := HWF.out k r hr
      have hqn := HQN.out k r hr
      have HQIN : Hid (QIn wr A' c' (q k)) := Lib.hid (htold.qin (by have := HQL.out k; omega) (HQR.out k))
      obtain ⟨ad, rfl, hadb, hcc⟩ := HRS.out (by omega)
      have HAD : Hid (∀ W, Below w.heap.size w W → At6 W (ad.add (k * 6)) r) := Lib.hid (fun W h => (hcc k r hr).keep fun q hq => h.cell (by rw [hq, adb]; exact hadb))
      have CN : Hid (∀ W, Calls Tryd.prog 42 #[rv r, .int .i64 ((k : Int) + 1)] W fun e w' => e = .returned (mv (numM r ((k : Int) + 1))) ∧ Below W.heap.size W w') := Lib.hid (fun W => numM_any r hwr _ W)
      have CP : Hid (∀ W, QIn W A' c' (q k) → Calls Tryd.prog 44 #[qv LQ A' (q k).length c', mv (numM r ((k : Int) + 1))] W fun e w' => ∃ A5 c5, e = .returned (.tuple #[qv LQ A5 (q (k + 1)).length c5, .int .i64 (putE LQ (q k) (numM r ((k : Int) + 1)))]) ∧ QTold A' W.heap.size w' (q (k + 1)) A5 c5 ∧ Below W.heap.size W w') := Lib.hid (fun W h => (refPutQ_any LQ A' c' (q k) (numM r ((k : Int) + 1)) W h (numM_data _ _)).mono fun e w' ⟨v, he, ⟨A5, c5, hv, ht⟩, hb⟩ => by
        rw [hqn]
        exact ⟨A5, c5, by rw [he, hv], ht, hb⟩)
      have hw1 : IntKind.i64.wrap ((k : Int) + 1) = (k : Int) + 1 := IntWalk.i64_in _ (by omega)
      clear hr hwr hqn hcc hqa htold hb hz
      generalize putE LQ (q k) (numM r ((k : Int) + 1)) = E at *
      generalize numM r ((k : Int) + 1) = m at *
      generalize hl0 : q k = l0 at *
      generalize hl1 : q (k + 1) = l1 at *
      have HL1 := Lib.hid hl1
      clear hl0 hl1
      obtain ⟨e1, n1, s1, i1, q1, k1, d1⟩ := m
      obtain ⟨r0, r1, r2, r3, r4, r5⟩ := r
      simp only [mv, rv] at *
      go_upto_region 5 with (fail)
      have HV : ∃ Vp : Nat → (Nat → Value) → World → Prop, Vp = (fun ix u wv => match ix with
        | 0 => u 0 = .agg #[.int .i64 LQ, .slice A' l0.length c']
        | 1 => u 1 = .slice (some ad) rs.length c
        | 2 => u 2 = .int .i64 (k : Int)
        | 3 => u 3 = .pointer (some (ad.add (k * 6)))
        | 4 => u 4 = .agg #[.int .i64 r0, .int .i64 r1, .int .i64 r2, .int .i64 r3, .int .i64 r4, .int .i64 r5]
        | 5 => u 5 = .int .i64 (k : Int)
        | 6 => u 6 = .int .i64 ((k : Int) + 1)
        | 7 => u 7 = .agg #[.bool e1, .int .i64 n1, .int .i64 s1, .int .i64 i1, .int .i64 q1, .int .i64 k1, .string d1]
        | 8 => ∃ A5 c5, u 8 = .tuple #[.agg #[.int .i64 LQ, .slice A5 l1.length c5], .int .i64 E] ∧ QTold none (b5 + 1) wv l1 A5 c5
        | 9 => ∃ A5 c5, u 9 = .tuple #[.agg #[.int .i64 LQ, .slice A5 l1.length c5], .int .i64 E] ∧ QTold none (b5 + 1) wv l1 A5 c5
        | 10 => ∃ A5 c5, u 10 = .agg #[.int .i64 LQ, .slice A5 l1.length c5] ∧ QTold none (b5 + 1) wv l1 A5 c5
        | 11 => u 11 = .int .i64 E
        | 12 => ∃ A5 c5, QAt wv b5 LQ A5 l1.length c5 ∧ QTold none (b5 + 1) wv l1 A5 c5
        | _ => True) := ⟨_, rfl⟩
      obtain ⟨Vp, hVdef⟩ := HV
      have Vp0 : ∀ u wv, Vp 0 u wv = (u 0 = .agg #[.int .i64 LQ, .slice A' l0.length c']) := fun u wv => by subst hVdef; rfl
      have Vp1 : ∀ u wv, Vp 1 u wv = (u 1 = .slice (some ad) rs.length c) := fun u wv => by subst hVdef; rfl
      have Vp2 : ∀ u wv, Vp 2 u wv = (u 2 = .int .i64 (k : Int)) := fun u wv => by subst hVdef; rfl
      have Vp3 : ∀ u wv, Vp 3 u wv = (u 3 = .pointer (some (ad.add (k * 6)))) := fun u wv => by subst hVdef; rfl
      have Vp4 : ∀ u wv, Vp 4 u wv = (u 4 = .agg #[.int .i64 r0, .int .i64 r1, .int .i64 r2, .int .i64 r3, .int .i64 r4, .int .i64 r5]) := fun u wv => by subst hVdef; rfl
      have Vp5 : ∀ u wv, Vp 5 u wv = (u 5 = .int .i64 (k : Int)) := fun u wv => by subst hVdef; rfl
      have Vp6 : ∀ u wv, Vp 6 u wv = (u 6 = .int .i64 ((k : Int) + 1)) := fun u wv => by subst hVdef; rfl
      have Vp7 : ∀ u wv, Vp 7 u wv = (u 7 = .agg #[.bool e1, .int .i64 n1, .int .i64 s1, .int .i64 i1, .int .i64 q1, .int .i64 k1, .string d1]) := fun u wv => by subst hVdef; rfl
      have Vp8 : ∀ u wv, Vp 8 u wv = (∃ A5 c5, u 8 = .tuple #[.agg #[.int .i64 LQ, .slice A5 l1.length c5], .int .i64 E] ∧ QTold none (b5 + 1) wv l1 A5 c5) := fun u wv => by subst hVdef; rfl
      have Vp9 : ∀ u wv, Vp 9 u wv = (∃ A5 c5, u 9 = .tuple #[.agg #[.int .i64 LQ, .slice A5 l1.length c5], .int .i64 E] ∧ QTold none (b5 + 1) wv l1 A5 c5) := fun u wv => by subst hVdef; rfl
      have Vp10 : ∀ u wv, Vp 10 u wv = (∃ A5 c5, u 10 = .agg #[.int .i64 LQ, .slice A5 l1.length c5] ∧ QTold none (b5 + 1) wv l1 A5 c5) := fun u wv => by subst hVdef; rfl
      have Vp11 : ∀ u wv, Vp 11 u wv = (u 11 = .int .i64 E) := fun u wv => by subst hVdef; rfl
      have Vp12 : ∀ u wv, Vp 12 u wv = (∃ A5 c5, QAt wv b5 LQ A5 l1.length c5 ∧ QTold none (b5 + 1) wv l1 A5 c5) := fun u wv => by subst hVdef; rfl
      have HVD := Lib.hid hVdef
      clear hVdef
      refine region_phase (V := Vp) (drop := fun jx ix => (jx == 12 && ix == 8) || (jx == 12 && ix == 10)) (G := fun L wv => (L 12 = false → Below wr.heap.size wr wv) ∧ Below w.heap.size w wv ∧ QAt wv w.heap.size 0 none 0 0) (Rel := fun jx wv wv' => (jx = 12 ∧ ((∀ k, k ≠ b5 → wv'.heap[k]? = wv.heap[k]?) ∧ wv'.heap.size = wv.heap.size)) ∨ Below wv.heap.size wv wv') (by kernel_rfl) (by kernel_rfl) ⟨fun _ => (Below.refl _ _).drew, HB.out.trans ((Below.refl _ _).drew.mono HB.out.size), HZ.out.on (Below.refl _ _).drew⟩ ?hmonop1 ?hdepp1 ⟨?s0_p1, ?s1_p1, ?s2_p1, ?s3_p1, ?s4_p1, ?s5_p1, ?s6_p1, ?s7_p1, ?s8_p1, ?s9_p1, ?s10_p1, ?s11_p1, ?s12_p1, trivial⟩ ?behindp1
      case hmonop1 =>
        intro ix jx u wv wv' hij hw hd hr
        rw [HVD.out]
        dsimp only
        split <;> intro h <;> first | exact trivial | exact h | (rcases hr with ⟨rfl, hpk⟩ | hb; (focus first | exact absurd rfl hij | (simp at hd; done) | (obtain ⟨A5, c5, e, ht⟩ := h; exact ⟨A5, c5, e, ht.keep (fun ad e => by cases e) (fun k hk => hpk.1 k (by omega)) (Nat.le_of_eq hpk.2.symm)⟩) | (exact Bool.noConfusion (hw.symm.trans (show _ = true from by kernel_rfl)))); (first | (obtain ⟨A5, c5, e, ht⟩ := h; exact ⟨A5, c5, e, ht.on hb⟩) | (obtain ⟨A5, c5, e, ht⟩ := h; exact ⟨A5, c5, e.on hb, ht.on hb⟩)))
      case hdepp1 =>
        intro ix u u' wv h1 h2
        rw [HVD.out]
        dsimp only
        split <;> intro h <;> first | exact trivial | (rw [← h1]; exact h) | exact h
      case s0_p1 =>
        refine oweP rfl fun a wx val L hG hi hW hV hN hO K hK => ?_
        have e5 : a.tmps[5]? = some (.pointer (some ⟨b5, 0, none⟩)) := (hO 5 (by kernel_rfl)).trans (by rfl)
        clear hV hN hO
        obtain ⟨v0, v1⟩ := (HQA.out.on (hG.1 (hW 12 (by kernel_rfl)))).cells
        go_simp
        exact hK.out _ _ (by rw [Vp0, upd_at] <;> (congr 1 <;> omega)) (.inr (Below.refl _ _)) (⟨fun h => hG.1 (upL_false h), hG.2⟩)
      case s1_p1 =>
        refine oweP rfl fun a wx val L hG hi hW hV hN hO K hK => ?_
        have e1 : a.tmps[1]? = some (.slice (some ad) rs.length c) := (hO 1 (by kernel_rfl)).trans (by rfl)
        clear hV hN hO
        go_simp
        exact hK.out _ _ (by rw [Vp1, upd_at] <;> (congr 1 <;> omega)) (.inr (Below.refl _ _)) (⟨fun h => hG.1 (upL_false h), hG.2⟩)
      case s2_p1 =>
        refine oweP rfl fun a wx val L hG hi hW hV hN hO K hK => ?_
        have e7 : a.tmps[7]? = some (.int .i64 (k : Int)) := (hO 7 (by kernel_rfl)).trans (by rfl)
        clear hV hN hO
        go_simp
        exact hK.out _ _ (by rw [Vp2, upd_at] <;> (congr 1 <;> omega)) (.inr (Below.refl _ _)) (⟨fun h => hG.1 (upL_false h), hG.2⟩)
      case s3_p1 =>
        refine oweP rfl fun a wx val L hG hi hW hV hN hO K hK => ?_
        have e27 := hN 1 27 (by kernel_rfl) (by kernel_rfl) (by simp)
        have f27 := hV 1 (by kernel_rfl) (by kernel_rfl)
        rw [Vp1] at f27; rw [f27] at e27; clear f27
        have e28 := hN 2 28 (by kernel_rfl) (by kernel_rfl) (by simp)
        have f28 := hV 2 (by kernel_rfl) (by kernel_rfl)
        rw [Vp2] at f28; rw [f28] at e28; clear f28
        clear hV hN hO
        go_simp
        exact hK.out _ _ (by rw [Vp3, upd_at] <;> (congr 1 <;> omega)) (.inr (Below.refl _ _)) (⟨fun h => hG.1 (upL_false h), hG.2⟩)
      case s4_p1 =>
        refine oweP rfl fun a wx val L hG hi hW hV hN hO K hK => ?_
        have e29 := hN 3 29 (by kernel_rfl) (by kernel_rfl) (by simp)
        have f29 := hV 3 (by kernel_rfl) (by kernel_rfl)
        rw [Vp3] at f29; rw [f29] at e29; clear f29
        clear hV hN hO
        obtain ⟨x0, x1, x2, x3, x4, x5⟩ := HAD.out _ hG.2.1
        go_simp
        exact hK.out _ _ (by rw [Vp4, upd_at] <;> (congr 1 <;> omega)) (.inr (Below.refl _ _)) (⟨fun h => hG.1 (upL_false h), hG.2⟩)
      case s5_p1 =>
        refine oweP rfl fun a wx val L hG hi hW hV hN hO K hK => ?_
        have e7 : a.tmps[7]? = some (.int .i64 (k : Int)) := (hO 7 (by kernel_rfl)).trans (by rfl)
        clear hV hN hO
        go_simp
        exact hK.out _ _ (by rw [Vp5, upd_at] <;> (congr 1 <;> omega)) (.inr (Below.refl _ _)) (⟨fun h => hG.1 (upL_false h), hG.2⟩)
      case s6_p1 =>
        refine oweP rfl fun a wx val L hG hi hW hV hN hO K hK => ?_
        have e31 := hN 5 31 (by kernel_rfl) (by kernel_rfl) (by simp)
        have f31 := hV 5 (by kernel_rfl) (by kernel_rfl)
        rw [Vp5] at f31; rw [f31] at e31; clear f31
        clear hV hN hO
        go_simp
        exact hK.out _ _ (by rw [Vp6, upd_at] <;> (congr 1 <;> omega)) (.inr (Below.refl _ _)) (⟨fun h => hG.1 (upL_false h), hG.2⟩)
      case s7_p1 =>
        refine oweP rfl fun a wx val L hG hi hW hV hN hO K hK => ?_
        have e30 := hN 4 30 (by kernel_rfl) (by kernel_rfl) (by simp)
        have f30 := hV 4 (by kernel_rfl) (by kernel_rfl)
        rw [Vp4] at f30; rw [f30] at e30; clear f30
        have e32 := hN 6 32 (by kernel_rfl) (by kernel_rfl) (by simp)
        have f32 := hV 6 (by kernel_rfl) (by kernel_rfl)
        rw [Vp6] at f32; rw [f32] at e32; clear f32
        clear hV hN hO
        go_simp
        refine (CN.out _).mono ?_
        rintro e w11 ⟨rfl, hb⟩
        exact hK.out _ _ (by rw [Vp7, upd_at]) (.inr (hb)) (⟨fun h => (hG.1 (upL_false h)).trans (hb.mono (hG.1 (upL_false h)).size), hG.2.1.trans (hb.mono hG.2.1.size), hG.2.2.on hb⟩)
      case s8_p1 =>
        refine oweP rfl fun a wx val L hG hi hW hV hN hO K hK => ?_
        have e26 := hN 0 26 (by kernel_rfl) (by kernel_rfl) (by simp)
        have f26 := hV 0 (by kernel_rfl) (by kernel_rfl)
        rw [Vp0] at f26; rw [f26] at e26; clear f26
        have e33 := hN 7 33 (by kernel_rfl) (by kernel_rfl) (by simp)
        have f33 := hV 7 (by kernel_rfl) (by kernel_rfl)
        rw [Vp7] at f33; rw [f33] at e33; clear f33
        clear hV hN hO
        have h9 := hG.1 (hW 12 (by kernel_rfl))
        go_simp
        refine (CP.out _ (HQIN.out.on h9)).mono ?_
        rintro e w11 ⟨A5, c5, rfl, ht, hb⟩
        exact hK.out _ _ (by rw [Vp8, upd_at]; exact ⟨A5, c5, rfl, ht.chain HTO.out (Nat.le_trans HQA.out.lt h9.size)⟩) (.inr hb) (⟨fun h => (hG.1 (upL_false h)).trans (hb.mono (hG.1 (upL_false h)).size), hG.2.1.trans (hb.mono hG.2.1.size), hG.2.2.on hb⟩)
      case s9_p1 =>
        refine oweP rfl fun a wx val L hG hi hW hV hN hO K hK => ?_
        have e34 := hN 8 34 (by kernel_rfl) (by kernel_rfl) (by simp)
        have f34 := hV 8 (by kernel_rfl) (by kernel_rfl)
        rw [Vp8] at f34; obtain ⟨A5, c5, hv, ht⟩ := f34; rw [hv] at e34
        clear hV hN hO
        go_simp
        exact hK.out _ _ (by rw [Vp9, upd_at]; exact ⟨A5, c5, rfl, ht⟩) (.inr (Below.refl _ _)) (⟨fun h => hG.1 (upL_false h), hG.2⟩)
      case s10_p1 =>
        refine oweP rfl fun a wx val L hG hi hW hV hN hO K hK => ?_
        have e25 := hN 9 25 (by kernel_rfl) (by kernel_rfl) (by simp)
        have f25 := hV 9 (by kernel_rfl) (by kernel_rfl)
        rw [Vp9] at f25; obtain ⟨A5, c5, hv, ht⟩ := f25; rw [hv] at e25
        clear hV hN hO
        go_simp
        exact hK.out _ _ (by rw [Vp10, upd_at]; exact ⟨A5, c5, rfl, ht⟩) (.inr (Below.refl _ _)) (⟨fun h => hG.1 (upL_false h), hG.2⟩)
      case s11_p1 =>
        refine oweP rfl fun a wx val L hG hi hW hV hN hO K hK => ?_
        have e25 := hN 9 25 (by kernel_rfl) (by kernel_rfl) (by simp)
        have f25 := hV 9 (by kernel_rfl) (by kernel_rfl)
        rw [Vp9] at f25; obtain ⟨A5, c5, hv, ht⟩ := f25; rw [hv] at e25
        clear hV hN hO
        go_simp
        exact hK.out _ _ (by rw [Vp11, upd_at]) (.inr (Below.refl _ _)) (⟨fun h => hG.1 (upL_false h), hG.2⟩)
      case s12_p1 =>
        refine oweP rfl fun a wx val L hG hi hW hV hN hO K hK => ?_
        have e5 : a.tmps[5]? = some (.pointer (some ⟨b5, 0, none⟩)) := (hO 5 (by kernel_rfl)).trans (by rfl)
        have e35 := hN 10 35 (by kernel_rfl) (by kernel_rfl) (by simp)
        have f35 := hV 10 (by kernel_rfl) (by kernel_rfl)
        rw [Vp10] at f35; obtain ⟨A5, c5, hv, ht⟩ := f35; rw [hv] at e35
        clear hV hN hO
        have hqa := HQA.out.on (hG.1 hi)
        obtain ⟨v0, v1⟩ := hqa.cells
        have vf := hqa.frozen
        have hs5 := HS5.out
        have hqz := que_far2 hG.2.2 (b := b5) (by omega) (.int .i64 LQ) (.slice A5 l1.length c5)
        have hbs := below_set2 hG.2.1 (b := b5) (by omega) (.int .i64 LQ) (.slice A5 l1.length c5)
        have hts : QTold none (b5 + 1) ((wx.setCell ⟨b5, 0, none⟩ (.int .i64 LQ)).setCell ⟨b5, 1, none⟩ (.slice A5 l1.length c5)) l1 A5 c5 := ht.keep (fun ad e => by cases e) (fun k hk => far2 wx _ _ (by omega)) (by rw [World.size_setCell, World.size_setCell]; exact Nat.le_refl _)
        have hpk : (∀ k, k ≠ b5 → ((wx.setCell ⟨b5, 0, none⟩ (.int .i64 LQ)).setCell ⟨b5, 1, none⟩ (.slice A5 l1.length c5)).heap[k]? = wx.heap[k]?) ∧ ((wx.setCell ⟨b5, 0, none⟩ (.int .i64 LQ)).setCell ⟨b5, 1, none⟩ (.slice A5 l1.length c5)).heap.size = wx.heap.size := ⟨fun k hk => far2 wx _ _ hk, by rw [World.size_setCell, World.size_setCell]⟩
        clear hs5
        go_simp
        exact hK.out undef _ (by rw [Vp12]; exact ⟨A5, c5, hqa.set LQ A5 l1.length c5, hts⟩) (.inl ⟨rfl, hpk⟩) ⟨fun h => (upL_self h).elim, hbs, hqz⟩
      intro val wx L hG hV
      have f0 := hV 0 (by simp) (fun _ _ => by simp)
      rw [Vp0] at f0
      have f1 := hV 1 (by simp) (fun _ _ => by simp)
      rw [Vp1] at f1
      have f2 := hV 2 (by simp) (fun _ _ => by simp)
      rw [Vp2] at f2
      have f3 := hV 3 (by simp) (fun _ _ => by simp)
      rw [Vp3] at f3
      have f4 := hV 4 (by simp) (fun _ _ => by simp)
      rw [Vp4] at f4
      have f5 := hV 5 (by simp) (fun _ _ => by simp)
      rw [Vp5] at f5
      have f6 := hV 6 (by simp) (fun _ _ => by simp)
      rw [Vp6] at f6
      have f7 := hV 7 (by simp) (fun _ _ => by simp)
      rw [Vp7] at f7
      have f9 := hV 9 (by simp) (fun _ _ => by simp)
      rw [Vp9] at f9
      have f11 := hV 11 (by simp) (fun _ _ => by simp)
      rw [Vp11] at f11
      have f12 := hV 12 (by simp) (fun _ _ => by simp)
      rw [Vp12] at f12
      clear hV Vp0 Vp1 Vp2 Vp3 Vp4 Vp5 Vp6 Vp7 Vp8 Vp9 Vp10 Vp11 Vp12
      simp only [putAll, Act.put, List.setIfInBounds_toArray, List.set_cons_zero, List.set_cons_succ]
      generalize val 0 = z0 at *; (subst f0)
      generalize val 1 = z1 at *; (subst f1)
      generalize val 2 = z2 at *; (subst f2)
      generalize val 3 = z3 at *; (subst f3)
      generalize val 4 = z4 at *; (subst f4)
      generalize val 5 = z5 at *; (subst f5)
      generalize val 6 = z6 at *; (subst f6)
      generalize val 7 = z7 at *; (subst f7)
      generalize val 8 = z8 at *
      generalize val 9 = z9 at *
      generalize val 10 = z10 at *
      generalize val 11 = z11 at *; (subst f11)
      clear HVD
      obtain ⟨A5, c5, hqa5, ht5⟩ := f12
      have HQ9 := Lib.hid hqa5
      have HT9 := Lib.hid ht5
      have HG9 := Lib.hid hG.2
      clear hG hqa5 ht5
      go_wp2_with fail
      go_roundw
      case rel => exact ⟨k + 1, by omega, by omega, by go_num, ⟨A5, c5, by rw [HL1.out]; exact HQ9.out, by rw [HL1.out]; exact HT9.out⟩, HG9.out.1, HG9.out.2⟩
      case measure => simp [intOf]; omega
    · have hmin : k = KM := by rw [HKM.out]; omega
      subst hmin
      obtain ⟨v0, v1⟩ := hqa.cells
      obtain ⟨z0, z1⟩ := hz.cells
      have zf := hz.frozen
      have HQS := Lib.hid (hz.set LQ A' (q k).length c')
      have HBS := Lib.hid (below_set2 hb (Nat.le_refl w.heap.size) (.int .i64 LQ) (.slice A' (q k).length c'))
      have hts : QTold none (b5 + 1) ((wr.setCell ⟨w.heap.size, 0, none⟩ (.int .i64 LQ)).setCell ⟨w.heap.size, 1, none⟩ (.slice A' (q k).length c')) (q k) A' c' := htold.keep (fun ad e => by cases e) (fun k hk => far2 wr _ _ (by have := HS5.out; omega)) (by rw [World.size_setCell, World.size_setCell]; exact Nat.le_refl _)
      have HTS := Lib.hid (hts.less (S' := w.heap.size) (by have := HS5.out; omega))
      have hno : ∀ (_ : (k : Int) < rs.length), ¬ (k : Int) < 12 := fun h => by omega
      by_cases hlt : (k : Int) < (rs.length : Int)
      · have hlt12I := hno hlt
        clear hno hgo hqa hz hb htold hts
        go_wp2_with fail
        exact bodyPost_ret (qo_res Tryd.results33 HQS.out rfl) rfl ⟨_, _, rfl, HTS.out, HBS.out⟩
      · clear hno hgo hqa hz hb htold hts
        go_wp2_with fail
        exact bodyPost_ret (qo_res Tryd.results33 HQS.out rfl) rfl ⟨_, _, rfl, HTS.out, HBS.out⟩

end Go.Proofs.YtehajmockicilaaDoor

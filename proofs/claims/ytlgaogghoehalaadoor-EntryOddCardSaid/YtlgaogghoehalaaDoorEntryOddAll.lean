/-
  The law EntryOdd, walked. The card of the statement 'EntryOdd': whatever the input, the law's function returns true, and the input reads behind it as it did ahead of it; the one package-level variable that it reads is tied to the program's text. No condition but the row's own.
-/
import Derived.Test.YtlgaogghoehalaaDoorEntC
import Derived.Test.YtlgaogghoehalaaDoorRows
import Derived.Test.YtlgaogghoehalaaDoorTie
import Derived.Test.YtlgaogghoehalaaDoorCards
import Derived.SevenTiedAt

namespace Go.Proofs.YtlgaogghoehalaaDoor
open Go.RowKit

theorem right_mem {x : Ent} (h : rightE x = true) : memU x.mem x.incs x.msgs x.msgs.length = true := ((rightE_iff x).1 h).2.2.2.2.2.2.2
theorem right_ord {x : Ent} (h : rightE x = true) : ordU x.msgs x.msgs.length = true := ((rightE_iff x).1 h).2.2.2.2.2.2.1
theorem odd_twice {x : Ent} {i : Nat} {m : Msg} (hm : x.msgs[i]? = some m) : rightE ⟨x.t, x.ep, x.mem, x.incs, x.msgs ++ [m]⟩ = false := by
  rw [← Bool.not_eq_true]
  intro h2
  have hp := (memU_senders (right_mem h2)).1
  rw [List.map_append, List.pairwise_append] at hp
  exact hp.2.2 m.sender (List.mem_map.2 ⟨m, List.mem_of_getElem? hm, rfl⟩) m.sender (by simp) rfl
theorem odd_away {x : Ent} (h : rightE x = true) {i : Nat} {m : Msg} (hm : x.msgs[i]? = some m) : rightE ⟨x.t, x.ep, V.withoutI x.mem m.sender, x.incs, x.msgs⟩ = false := by
  rw [← Bool.not_eq_true]
  intro h2
  obtain ⟨e1, -⟩ := (memU_senders (right_mem h)).2 m (List.mem_of_getElem? hm)
  obtain ⟨e2, e3⟩ := isE_has e1
  have hr := hasB_range e2
  have c1 : (x.incs.length : Int) = V.countI (V.withoutI x.mem m.sender) := ((rightE_iff _).1 h2).2.2.2.2.1
  have c2 := V.count_with x.mem m.sender hr.1 (by omega)
  rw [← V.with_there x.mem m.sender e2] at c2
  have c3 : V.countI ((V.md x.mem : Nat) : Int) = V.countI x.mem := by unfold V.countI; rw [V.md_nat _ (V.md_lt _)]
  omega
theorem odd_again {x : Ent} (h : rightE x = true) {i : Nat} {m : Msg} (hm : x.msgs[i]? = some m) {inc : Int} (hne : inc ≠ m.inc) : rightE ⟨x.t, x.ep, x.mem, x.incs, x.msgs.set i ⟨m.ext, m.n, m.sender, inc, m.seq, m.number, m.data⟩⟩ = false := by
  rw [← Bool.not_eq_true]
  intro h2
  obtain ⟨hi, he⟩ := List.getElem?_eq_some_iff.1 hm
  obtain ⟨-, e1⟩ := (memU_senders (right_mem h)).2 m (List.mem_of_getElem? hm)
  have hin : (⟨m.ext, m.n, m.sender, inc, m.seq, m.number, m.data⟩ : Msg) ∈ x.msgs.set i ⟨m.ext, m.n, m.sender, inc, m.seq, m.number, m.data⟩ := List.mem_set hi _
  obtain ⟨-, e2⟩ := (memU_senders (right_mem h2)).2 _ hin
  exact hne (e2.trans e1.symm)
theorem ord_first {l : List Msg} (h : ordU l l.length = true) : ∀ j, 0 < j → j < l.length → LT (l.getD 0 zeroM) (l.getD j zeroM)
  | 0, h0, _ => absurd h0 (Nat.lt_irrefl _)
  | j + 1, _, hj => by
    have hh := (ordU_iff l l.length).1 h
    have h1 := ((hh (j + 1) hj).2).resolve_left (by omega)
    rw [show j + 1 - 1 = j by omega] at h1
    rcases Nat.eq_zero_or_pos j with e | e
    · subst e; exact h1
    · have g : ∀ k, k < l.length → goodI (l.getD k zeroM) := fun k hk => ((rightM_iff _).1 (hh k hk).1).1
      exact lt_trans (g 0 (by omega)) (g j (by omega)) (g (j + 1) hj) (ord_first h j e (by omega)) h1
theorem odd_turned {x : Ent} (h : rightE x = true) {m : Msg} (hm : x.msgs[0]? = some m) (hk : 2 ≤ x.msgs.length) : rightE ⟨x.t, x.ep, x.mem, x.incs, x.msgs.drop 1 ++ [m]⟩ = false := by
  rw [← Bool.not_eq_true]
  intro h2
  have h1 := ord_first (right_ord h) (x.msgs.length - 1) (by omega) (by omega)
  have g : ∀ k, k < x.msgs.length → goodI (x.msgs.getD k zeroM) := fun k hk => ((rightM_iff _).1 ((ordU_iff _ _).1 (right_ord h) k hk).1).1
  have h3 := lt_asymm (g 0 (by omega)) (g _ (by omega)) h1
  have hl : (x.msgs.drop 1 ++ [m]).length = x.msgs.length := by rw [List.length_append, List.length_drop, List.length_singleton]; omega
  have hr : ordU (x.msgs.drop 1 ++ [m]) (x.msgs.drop 1 ++ [m]).length = true := right_ord h2
  rw [hl] at hr
  have h4 := (((ordU_iff _ _).1 hr (x.msgs.length - 1) (by omega)).2).resolve_left (by omega)
  have e1 : (x.msgs.drop 1 ++ [m]).getD (x.msgs.length - 1) zeroM = x.msgs.getD 0 zeroM := by
    rw [getD_at hm, getD_at (x := m)]
    rw [List.getElem?_append_right (by rw [List.length_drop]; exact Nat.le_refl _), List.length_drop, Nat.sub_self]; rfl
  have e2 : (x.msgs.drop 1 ++ [m]).getD (x.msgs.length - 1 - 1) zeroM = x.msgs.getD (x.msgs.length - 1) zeroM := by
    rw [List.getD_eq_getElem?_getD, List.getElem?_append_left (by rw [List.length_drop]; omega), List.getElem?_drop, show 1 + (x.msgs.length - 1 - 1) = x.msgs.length - 1 by omega, ← List.getD_eq_getElem?_getD]
  rw [e1, e2] at h4
  rw [h3] at h4
  cases h4
theorem other_inc {n : Int} (_h : 1 ≤ n ∧ n ≤ 65535) : n % 65535 + 1 ≠ n := by omega

theorem EntAt.set2 {w : World} {b : Nat} {t ep mem : Int} {u v : Value} (h : EntAt w b t ep mem u v) (x : Int) : EntAt (w.setCell ⟨b, 2, none⟩ (.int .i64 x)) b t ep x u v := set_blk h 2 (.int .i64 x)
theorem addr_at {a : Addr} {j k : Nat} (_hj : 0 < k) : (⟨(a.add j).block, (a.add j).off + k, none⟩ : Addr) = ⟨a.block, a.off + (j + k), none⟩ := by
  rw [adb]
  congr 1
  unfold Addr.add
  split
  · rename_i h; simp [h]
  · simp; omega
theorem addr_zero {a : Addr} {j : Nat} (ha : a.spot = none) : a.add j = ⟨a.block, a.off + j, none⟩ := by
  unfold Addr.add
  split
  · rename_i h; subst h; cases a; simp at ha; subst ha; rfl
  · rfl
/-- A list's message, its Inc another one. -/
theorem msgs_set {w : World} {B : Nat} {a : Addr} {l : List Msg} {i : Nat} {m : Msg} (ha : a.spot = none) (h : Msgs w B (some a) l) (hm : l[i]? = some m) (inc : Int) :
    Msgs (w.setCell ⟨(a.add (i * 7)).block, (a.add (i * 7)).off + 3, none⟩ (.int .i64 inc)) B (some a) (l.set i ⟨m.ext, m.n, m.sender, inc, m.seq, m.number, m.data⟩) := fun hn => by
  rw [List.length_set] at hn
  obtain ⟨a', e, hb, hc⟩ := h hn
  injection e with e
  subst e
  refine ⟨a, rfl, hb, fun j x hx => ?_⟩
  rw [addr_at (by omega)]
  by_cases hij : i = j
  · subst hij
    have hi := (List.getElem?_eq_some_iff.1 hm).1
    rw [List.getElem?_set_self hi] at hx
    have hx : (⟨m.ext, m.n, m.sender, inc, m.seq, m.number, m.data⟩ : Msg) = x := by simpa using hx
    subst hx
    obtain ⟨x0, x1, x2, x3, x4, x5, x6⟩ := hc i m hm
    rw [addr_at (by omega)] at x1 x2 x3 x4 x5 x6
    have o : ∀ k, k ≠ 3 → (⟨a.block, a.off + (i * 7 + 3), none⟩ : Addr) ≠ ⟨a.block, a.off + (i * 7 + k), none⟩ := fun k hk he => by injection he; omega
    refine ⟨?_, ?_, ?_, ?_, ?_, ?_, ?_⟩
    · rw [World.cell?_setCell_other]
      · exact x0
      · rw [addr_zero ha]; exact o 0 (by omega)
    · rw [addr_at (by omega), World.cell?_setCell_other (h := o 1 (by omega))]; exact x1
    · rw [addr_at (by omega), World.cell?_setCell_other (h := o 2 (by omega))]; exact x2
    · rw [addr_at (by omega), World.cell?_setCell_same (h := x3)]
    · rw [addr_at (by omega), World.cell?_setCell_other (h := o 4 (by omega))]; exact x4
    · rw [addr_at (by omega), World.cell?_setCell_other (h := o 5 (by omega))]; exact x5
    · rw [addr_at (by omega), World.cell?_setCell_other (h := o 6 (by omega))]; exact x6
  · rw [List.getElem?_set_ne hij] at hx
    obtain ⟨x0, x1, x2, x3, x4, x5, x6⟩ := hc j x hx
    rw [addr_at (by omega)] at x1 x2 x3 x4 x5 x6
    have o : ∀ k, k < 7 → (⟨a.block, a.off + (i * 7 + 3), none⟩ : Addr) ≠ ⟨a.block, a.off + (j * 7 + k), none⟩ := fun k hk he => by injection he; omega
    refine ⟨?_, ?_, ?_, ?_, ?_, ?_, ?_⟩
    · rw [World.cell?_setCell_other]
      · exact x0
      · rw [addr_zero ha]; exact o 0 (by omega)
    · rw [addr_at (by omega), World.cell?_setCell_other (h := o 1 (by omega))]; exact x1
    · rw [addr_at (by omega), World.cell?_setCell_other (h := o 2 (by omega))]; exact x2
    · rw [addr_at (by omega), World.cell?_setCell_other (h := o 3 (by omega))]; exact x3
    · rw [addr_at (by omega), World.cell?_setCell_other (h := o 4 (by omega))]; exact x4
    · rw [addr_at (by omega), World.cell?_setCell_other (h := o 5 (by omega))]; exact x5
    · rw [addr_at (by omega), World.cell?_setCell_other (h := o 6 (by omega))]; exact x6

set_option maxRecDepth 100000 in
set_option maxHeartbeats 16000000 in
theorem entryOdd_walk (n0 n1 n2 : Int) (A : Option Addr) (c : Nat) (incs : List Int) (A' : Option Addr) (c' : Nat) (raw : List Raw) (at' : Int) (k0 : (Lit.int .i64 n0).wf = true) (k1 : (Lit.int .i64 n1).wf = true) (k2 : (Lit.int .i64 n2).wf = true) (ka : (Lit.int .i64 at').wf = true) (w : World) (L : Laid w) (f1 : IncsOk w A c incs) (f2 : RowsOk w A' c' raw) :
    Calls Tryd.prog 7 #[.agg #[.int .i64 n0, .int .i64 n1, .int .i64 n2], .slice A incs.length c, .slice A' raw.length c', .int .i64 at'] w fun e w' => e = .returned (.bool true) ∧ Below w.heap.size w w' := by
  obtain ⟨X, hX⟩ : ∃ X, entV n0 n1 n2 incs raw = X := ⟨_, rfl⟩
  have hR : rightE X = true := hX ▸ entV_right n0 n1 n2 incs raw
  have hi := Inp.of f1 f2
  have cE := fun W (h : Inp W A incs A' raw) => rawS_any k0 k1 k2 c c' hX W h
  have cA := fun W L => awake_any W L
  obtain ⟨li, lm, ld⟩ := right_lens hR
  have hil := rightE_incs hR
  have hml := rightE_msgs hR
  have cR := fun A c A' c' W L h h' => rightEP_any X A c A' c' W L h h' li lm ld
  rw [hR] at cR
  have cO := fun A A' c c' W h h' => refOwnE_any X A A' c c' W h h' (by omega) (by omega)
  have hk : ∀ (h : 0 < X.msgs.length), ∃ i : Nat, i < X.msgs.length ∧ ∀ W, Calls Tryd.prog 12 #[.int .i64 at', .int .i64 (X.msgs.length : Int)] W fun e w' => e = .returned (.int .i64 (i : Int)) ∧ W = w' := fun h => by
    have cK := fun W => pick6_any at' (X.msgs.length : Int) ka (by omega) W
    have rK := pickI_range at' (X.msgs.length : Int) (by omega)
    refine ⟨(pickI at' (X.msgs.length : Int)).toNat, by omega, fun W => ?_⟩
    rw [show (((pickI at' (X.msgs.length : Int)).toNat : Nat) : Int) = pickI at' (X.msgs.length : Int) by omega]
    exact cK W
  have b0 := Joins.below_alloc1 w (.cells #[.int .i64 n0, .int .i64 n1, .int .i64 n2] 22)
  have a0 := At3.new w n0 n1 n2
  have CE := Lib.hid cE; clear cE
  have CR := Lib.hid cR; clear cR
  have CO := Lib.hid cO; clear cO
  have HK := Lib.hid hk; clear hk
  have LI := Lib.hid li; have LM := Lib.hid lm; have LD := Lib.hid ld
  clear hX k0 k1 k2 f1 f2 li lm ld ka
  go_enter Tryd.func7, Tryd.ntmps7
  go_wp2_with fail
  refine (cA _ (L.below b0)).mono ?_; rintro e w1 ⟨rfl, b1⟩
  have HB1 := Lib.hid (b0.trans (b1.mono b0.size))
  have HI1 := Lib.hid (hi.on HB1.out)
  have HA1 := Lib.hid (a0.on b1)
  have HL := Lib.hid L
  clear b0 b1 a0 hi cA
  obtain ⟨q0, q1, q2⟩ := HA1.out.cells
  go_wp2_with fail
  refine (CE.out _ HI1.out).mono ?_; rintro e w2 ⟨A1, c1, A2, c2, rfl, r1, m1, b2, -, hlc⟩
  have bt := b2.trans ((Joins.below_alloc1 w2 (.cells #[.int .i64 X.t, .int .i64 X.ep, .int .i64 X.mem, .slice A1 X.incs.length c1, .slice A2 X.msgs.length c2] 27)).mono b2.size)
  have HS2 := Lib.hid (Sits.new (c := c1) (c' := c2) r1 m1)
  have HB2 := Lib.hid (HB1.out.trans (bt.mono HB1.out.size))
  have HLC := Lib.hid hlc
  clear bt r1 m1 b2 q0 q1 q2 CE HI1 HA1 HB1 hlc
  obtain ⟨y0, y1, y2, y3, y4⟩ := HS2.out.ent.cells
  by_cases hk0 : X.msgs.length = 0
  · have hq : ((X.msgs.length : Int) == 0) = true := beq_iff_eq.2 (by omega)
    clear hk0
    go_wp2_with fail
    generalize w2.alloc (.cells #[.int .i64 X.t, .int .i64 X.ep, .int .i64 X.mem, .slice A1 X.incs.length c1, .slice A2 X.msgs.length c2] 27) = W2 at *
    refine (CR.out _ _ _ _ _ (L.below HB2.out) HS2.out.row HS2.out.msgs).mono ?_; rintro e w6 ⟨rfl, b6⟩
    go_wp2_with fail
    go_ret
    exact ⟨rfl, HB2.out.trans (b6.mono HB2.out.size)⟩
  have hq : ((X.msgs.length : Int) == 0) = false := beq_eq_false_iff_ne.2 (by omega)
  have HK0 := Lib.hid (show 0 < X.msgs.length by omega)
  clear hk0
  have hk0 := HK0.out
  obtain ⟨i, hi, cK⟩ := HK.out HK0.out
  obtain ⟨m, hm⟩ : ∃ m, X.msgs[i]? = some m := ⟨_, List.getElem?_eq_getElem hi⟩
  obtain ⟨ad, rfl, hadb, hcc⟩ := HS2.out.msgs (by omega)
  have hc7 := hcc i m hm
  have h07 := hcc 0 (X.msgs.getD 0 zeroM) (by rw [List.getElem?_eq_getElem (by omega), getD_at (List.getElem?_eq_getElem (by omega))])
  obtain ⟨m0, hm0⟩ : ∃ m0, m0 = X.msgs.getD 0 zeroM := ⟨_, rfl⟩
  rw [← hm0] at h07
  have hmm : X.msgs[0]? = some m0 := by rw [hm0, List.getElem?_eq_getElem (by omega), getD_at (List.getElem?_eq_getElem (by omega))]
  have hme := rightE_each hR m (List.mem_of_getElem? hm)
  have HMI := Lib.hid ((rightM_iff m).1 hme).2.2.1
  have hxi : (i : Int) < (X.msgs.length : Int) := by omega
  have hx0 : (0 : Int) ≤ (i : Int) := by omega
  have O1 := Lib.hid (odd_twice (x := X) hm)
  have O2 := Lib.hid (odd_away hR hm)
  have O3 := Lib.hid (odd_again hR hm (other_inc HMI.out))
  have O4 := Lib.hid (fun h => odd_turned hR hmm h)
  have HM := Lib.hid hm; have HMM := Lib.hid hmm
  have hsn := (isE_has ((memU_senders (right_mem hR)).2 m (List.mem_of_getElem? hm)).1).1
  clear hcc hm hm0 hmm hme hsn
  have hib : Hid (i < X.msgs.length) := Lib.hid hi
  clear hi hk0
  go_wp2_with fail
  have HAD : Hid (ad.block < (w2.alloc (.cells #[.int .i64 X.t, .int .i64 X.ep, .int .i64 X.mem, .slice A1 X.incs.length c1, .slice (some ad) X.msgs.length c2] 27)).heap.size) := Lib.hid hadb
  have H7 := Lib.hid hc7; clear hc7
  have H70 := Lib.hid h07; clear h07
  generalize w2.alloc (.cells #[.int .i64 X.t, .int .i64 X.ep, .int .i64 X.mem, .slice A1 X.incs.length c1, .slice (some ad) X.msgs.length c2] 27) = W2 at *
  generalize w2.heap.size = bx at *
  refine (cK _).mono ?_; rintro e w3 ⟨rfl, rfl⟩
  clear cK
  have H72 := Lib.hid H7.out
  have H02 := Lib.hid H70.out
  have HAD2 := Lib.hid HAD.out
  clear H7 H70 HAD
  obtain ⟨y0, y1, y2, y3, y4⟩ := HS2.out.ent.cells
  go_wp2_with fail
  refine (CO.out _ _ _ _ _ HS2.out.row HS2.out.msgs).mono ?_; rintro e wq ⟨hown, bq⟩
  obtain ⟨u, v, rfl, hu, hv⟩ := hown
  obtain ⟨UA, uc, rfl, -, -⟩ := V.Own.row hu
  obtain ⟨VA, vc, rfl, -, -⟩ := hv.row
  have ba := Joins.below_alloc1 wq (.cells #[.int .i64 X.t, .int .i64 X.ep, .int .i64 X.mem, .slice UA X.incs.length uc, .slice VA X.msgs.length vc] 27)
  have HE := Lib.hid (EntAt.new wq X.t X.ep X.mem (.slice UA X.incs.length uc) (.slice VA X.msgs.length vc))
  have HU := Lib.hid (ownsRow_on hu ba)
  have HV := Lib.hid (hv.on ba)
  have HBQ := Lib.hid (bq.trans (ba.mono bq.size))
  have HBT := Lib.hid bq.size
  clear y0 y1 y2 y3 y4 hu hv ba bq
  go_upto_region 8 with (fail)
  generalize wq.alloc (.cells #[.int .i64 X.t, .int .i64 X.ep, .int .i64 X.mem, .slice UA X.incs.length uc, .slice VA X.msgs.length vc] 27) = Wn at *
  generalize wq.heap.size = bt at *
  have HV : ∃ Vp : Nat → (Nat → Value) → World → Prop, Vp = (fun ix u wv => match ix with
    | 0 => u 0 = .pointer (some ⟨bt, 4, none⟩)
    | 1 => u 1 = .slice VA X.msgs.length vc
    | 2 => u 2 = .pointer (some ⟨bx, 4, none⟩)
    | 3 => u 3 = .slice (some ad) X.msgs.length c2
    | 4 => u 4 = .int .i64 (i : Int)
    | 5 => u 5 = .pointer (some (ad.add (i * 7)))
    | 6 => u 6 = .agg #[.bool m.ext, .int .i64 m.n, .int .i64 m.sender, .int .i64 m.inc, .int .i64 m.seq, .int .i64 m.number, .string m.data]
    | 7 => ∃ g, u 7 = .slice (some ⟨g, 0, none⟩) 1 1 ∧ MsgAt wv g m
    | 8 => ∃ A9 c9, u 8 = .slice A9 (X.msgs.length + 1) c9 ∧ OwnM wv W2.heap.size (.slice A9 (X.msgs.length + 1) c9) (X.msgs ++ [m])
    | 9 => u 9 = .pointer (some ⟨bt, 4, none⟩)
    | 10 => ∃ A9 c9, EntAt wv bt X.t X.ep X.mem (.slice UA X.incs.length uc) (.slice A9 (X.msgs.length + 1) c9) ∧ OwnM wv W2.heap.size (.slice A9 (X.msgs.length + 1) c9) (X.msgs ++ [m])
    | _ => True) := ⟨_, rfl⟩
  obtain ⟨Vp, hVdef⟩ := HV
  have Vp0 : ∀ u wv, Vp 0 u wv = (u 0 = .pointer (some ⟨bt, 4, none⟩)) := fun u wv => by subst hVdef; rfl
  have Vp1 : ∀ u wv, Vp 1 u wv = (u 1 = .slice VA X.msgs.length vc) := fun u wv => by subst hVdef; rfl
  have Vp2 : ∀ u wv, Vp 2 u wv = (u 2 = .pointer (some ⟨bx, 4, none⟩)) := fun u wv => by subst hVdef; rfl
  have Vp3 : ∀ u wv, Vp 3 u wv = (u 3 = .slice (some ad) X.msgs.length c2) := fun u wv => by subst hVdef; rfl
  have Vp4 : ∀ u wv, Vp 4 u wv = (u 4 = .int .i64 (i : Int)) := fun u wv => by subst hVdef; rfl
  have Vp5 : ∀ u wv, Vp 5 u wv = (u 5 = .pointer (some (ad.add (i * 7)))) := fun u wv => by subst hVdef; rfl
  have Vp6 : ∀ u wv, Vp 6 u wv = (u 6 = .agg #[.bool m.ext, .int .i64 m.n, .int .i64 m.sender, .int .i64 m.inc, .int .i64 m.seq, .int .i64 m.number, .string m.data]) := fun u wv => by subst hVdef; rfl
  have Vp7 : ∀ u wv, Vp 7 u wv = (∃ g, u 7 = .slice (some ⟨g, 0, none⟩) 1 1 ∧ MsgAt wv g m) := fun u wv => by subst hVdef; rfl
  have Vp8 : ∀ u wv, Vp 8 u wv = (∃ A9 c9, u 8 = .slice A9 (X.msgs.length + 1) c9 ∧ OwnM wv W2.heap.size (.slice A9 (X.msgs.length + 1) c9) (X.msgs ++ [m])) := fun u wv => by subst hVdef; rfl
  have Vp9 : ∀ u wv, Vp 9 u wv = (u 9 = .pointer (some ⟨bt, 4, none⟩)) := fun u wv => by subst hVdef; rfl
  have Vp10 : ∀ u wv, Vp 10 u wv = (∃ A9 c9, EntAt wv bt X.t X.ep X.mem (.slice UA X.incs.length uc) (.slice A9 (X.msgs.length + 1) c9) ∧ OwnM wv W2.heap.size (.slice A9 (X.msgs.length + 1) c9) (X.msgs ++ [m])) := fun u wv => by subst hVdef; rfl
  have HVD := Lib.hid hVdef
  clear hVdef
  refine region_phase (V := Vp) (drop := fun jx ix => (jx == 8 && ix == 7) || (jx == 10 && ix == 7) || (jx == 10 && ix == 8)) (G := fun L wv => (L 10 = false → EntAt wv bt X.t X.ep X.mem (.slice UA X.incs.length uc) (.slice VA X.msgs.length vc)) ∧ (L 8 = false → OwnM wv W2.heap.size (.slice VA X.msgs.length vc) X.msgs) ∧ V.Own wv W2.heap.size (.slice UA X.incs.length uc) X.incs ∧ Below W2.heap.size W2 wv) (Rel := fun jx wv wv' => jx = 8 ∨ jx = 10 ∨ Below wv.heap.size wv wv') (by kernel_rfl) (by kernel_rfl) ⟨fun _ => HE.out.on (Below.refl _ _).drew, fun _ => HV.out.on (Below.refl _ _).drew, ownsRow_on HU.out (Below.refl _ _).drew, HBQ.out.trans ((Below.refl _ _).drew.mono HBQ.out.size)⟩ ?hmonop1 ?hdepp1 ⟨?s0_p1, ?s1_p1, ?s2_p1, ?s3_p1, ?s4_p1, ?s5_p1, ?s6_p1, ?s7_p1, ?s8_p1, ?s9_p1, ?s10_p1, trivial⟩ ?behindp1
  case hmonop1 =>
    intro ix jx u wv wv' hij hw hd hr
    rw [HVD.out]
    dsimp only
    split <;> intro h <;> first | exact trivial | exact h | (rcases hr with rfl | rfl | hb; (focus first | exact absurd rfl hij | (simp at hd; done) | (exact Bool.noConfusion (hw.symm.trans (show _ = true from by kernel_rfl)))); (focus first | exact absurd rfl hij | (simp at hd; done) | (exact Bool.noConfusion (hw.symm.trans (show _ = true from by kernel_rfl)))); (first | (obtain ⟨g, e, hg⟩ := h; exact ⟨g, e, hg.on hb⟩) | (obtain ⟨A9, c9, e, hg⟩ := h; first | exact ⟨A9, c9, e, hg.on hb⟩ | exact ⟨A9, c9, e.on hb, hg.on hb⟩)))
  case hdepp1 =>
    intro ix u u' wv h1 h2
    rw [HVD.out]
    dsimp only
    split <;> intro h <;> first | exact trivial | (rw [← h1]; exact h) | exact h
  case s0_p1 =>
    refine oweP rfl fun a wx val L hG hi hW hV hN hO K hK => ?_
    have e13 : a.tmps[13]? = some (.pointer (some ⟨bt, 0, none⟩)) := (hO 13 (by kernel_rfl)).trans (by rfl)
    clear hV hN hO
    go_simp
    exact hK.out _ _ (by rw [Vp0, upd_at] <;> (congr 1 <;> omega)) (.inr (.inr (Below.refl _ _))) (⟨fun h => hG.1 (upL_false h), fun h => hG.2.1 (upL_false h), hG.2.2⟩)
  case s1_p1 =>
    refine oweP rfl fun a wx val L hG hi hW hV hN hO K hK => ?_
    have e37 := hN 0 37 (by kernel_rfl) (by kernel_rfl) (by simp)
    have f37 := hV 0 (by kernel_rfl) (by kernel_rfl)
    rw [Vp0] at f37; rw [f37] at e37; clear f37
    clear hV hN hO
    obtain ⟨y0, y1, y2, y3, y4⟩ := (hG.1 (hW 10 (by kernel_rfl))).cells
    go_simp
    exact hK.out _ _ (by rw [Vp1, upd_at] <;> (congr 1 <;> omega)) (.inr (.inr (Below.refl _ _))) (⟨fun h => hG.1 (upL_false h), fun h => hG.2.1 (upL_false h), hG.2.2⟩)
  case s2_p1 =>
    refine oweP rfl fun a wx val L hG hi hW hV hN hO K hK => ?_
    have e10 : a.tmps[10]? = some (.pointer (some ⟨bx, 0, none⟩)) := (hO 10 (by kernel_rfl)).trans (by rfl)
    clear hV hN hO
    go_simp
    exact hK.out _ _ (by rw [Vp2, upd_at] <;> (congr 1 <;> omega)) (.inr (.inr (Below.refl _ _))) (⟨fun h => hG.1 (upL_false h), fun h => hG.2.1 (upL_false h), hG.2.2⟩)
  case s3_p1 =>
    refine oweP rfl fun a wx val L hG hi hW hV hN hO K hK => ?_
    have e39 := hN 2 39 (by kernel_rfl) (by kernel_rfl) (by simp)
    have f39 := hV 2 (by kernel_rfl) (by kernel_rfl)
    rw [Vp2] at f39; rw [f39] at e39; clear f39
    clear hV hN hO
    obtain ⟨y0, y1, y2, y3, y4⟩ := (HS2.out.on hG.2.2.2).ent.cells
    go_simp
    exact hK.out _ _ (by rw [Vp3, upd_at] <;> (congr 1 <;> omega)) (.inr (.inr (Below.refl _ _))) (⟨fun h => hG.1 (upL_false h), fun h => hG.2.1 (upL_false h), hG.2.2⟩)
  case s4_p1 =>
    refine oweP rfl fun a wx val L hG hi hW hV hN hO K hK => ?_
    have e12 : a.tmps[12]? = some (.int .i64 (i : Int)) := (hO 12 (by kernel_rfl)).trans (by rfl)
    clear hV hN hO
    go_simp
    exact hK.out _ _ (by rw [Vp4, upd_at] <;> (congr 1 <;> omega)) (.inr (.inr (Below.refl _ _))) (⟨fun h => hG.1 (upL_false h), fun h => hG.2.1 (upL_false h), hG.2.2⟩)
  case s5_p1 =>
    refine oweP rfl fun a wx val L hG hi hW hV hN hO K hK => ?_
    have e40 := hN 3 40 (by kernel_rfl) (by kernel_rfl) (by simp)
    have f40 := hV 3 (by kernel_rfl) (by kernel_rfl)
    rw [Vp3] at f40; rw [f40] at e40; clear f40
    have e41 := hN 4 41 (by kernel_rfl) (by kernel_rfl) (by simp)
    have f41 := hV 4 (by kernel_rfl) (by kernel_rfl)
    rw [Vp4] at f41; rw [f41] at e41; clear f41
    clear hV hN hO
    go_simp
    exact hK.out _ _ (by rw [Vp5, upd_at] <;> (congr 1 <;> omega)) (.inr (.inr (Below.refl _ _))) (⟨fun h => hG.1 (upL_false h), fun h => hG.2.1 (upL_false h), hG.2.2⟩)
  case s6_p1 =>
    refine oweP rfl fun a wx val L hG hi hW hV hN hO K hK => ?_
    have e42 := hN 5 42 (by kernel_rfl) (by kernel_rfl) (by simp)
    have f42 := hV 5 (by kernel_rfl) (by kernel_rfl)
    rw [Vp5] at f42; rw [f42] at e42; clear f42
    clear hV hN hO
    obtain ⟨x0, x1, x2, x3, x4, x5, x6⟩ := H72.out.keep (w' := wx) fun q hq => (hG.2.2.2).cell (by rw [hq, adb]; exact HAD2.out)
    go_simp
    exact hK.out _ _ (by rw [Vp6, upd_at] <;> (congr 1 <;> omega)) (.inr (.inr (Below.refl _ _))) (⟨fun h => hG.1 (upL_false h), fun h => hG.2.1 (upL_false h), hG.2.2⟩)
  case s7_p1 =>
    refine oweP rfl fun a wx val L hG hi hW hV hN hO K hK => ?_
    have e43 := hN 6 43 (by kernel_rfl) (by kernel_rfl) (by simp)
    have f43 := hV 6 (by kernel_rfl) (by kernel_rfl)
    rw [Vp6] at f43; rw [f43] at e43; clear f43
    clear hV hN hO
    go_simp
    have hb := Joins.below_alloc1 wx (.cells (mc m) 36)
    exact hK.out _ _ (by rw [Vp7, upd_at]; exact ⟨_, rfl, heap_alloc_new _ _⟩) (.inr (.inr hb)) (⟨fun h => (hG.1 (upL_false h)).on hb, fun h => (hG.2.1 (upL_false h)).on hb, ownsRow_on hG.2.2.1 hb, hG.2.2.2.trans (hb.mono hG.2.2.2.size)⟩)
  case s8_p1 =>
    refine oweP rfl fun a wx val L hG hi hW hV hN hO K hK => ?_
    have e38 := hN 1 38 (by kernel_rfl) (by kernel_rfl) (by simp)
    have f38 := hV 1 (by kernel_rfl) (by kernel_rfl)
    rw [Vp1] at f38; rw [f38] at e38; clear f38
    have e44 := hN 7 44 (by kernel_rfl) (by kernel_rfl) (by simp)
    have f44 := hV 7 (by kernel_rfl) (by kernel_rfl)
    rw [Vp7] at f44; obtain ⟨g, hv, hgg⟩ := f44; rw [hv] at e44
    clear hV hN hO
    have hOw := hG.2.1 hi
    have hEn := hG.1 (hW 10 (by kernel_rfl))
    refine wp_appM (.tmp 38) (.tmp 44) rfl W2.heap.size wx.heap.size (.slice VA X.msgs.length vc) X.msgs [m] (some ⟨g, 0, none⟩) 1 (by simp [Act.eval, e38]) (by simp [Act.eval, e44]) hOw (Msgs.one hgg) hG.2.2.2.size (by simp; omega) ?_
    intro u' w5 hown5 hg5
    obtain ⟨A9, c9, rfl, -, -⟩ := hown5.row
    have hl9 : (X.msgs ++ [m]).length = X.msgs.length + 1 := by simp
    rw [hl9] at hown5 ⊢
    exact hK.out _ _ (by rw [Vp8, upd_at]; exact ⟨A9, c9, rfl, hown5⟩) (.inl rfl) ⟨fun h => hEn.grown hg5 (own_apart hOw hEn (by decide)), fun h => (upL_self h).elim, own_far hG.2.2.1 (fun g hg => hg5.block g (hG.2.2.1.lt g hg).2 (fun e => own_kinds hG.2.2.1 hOw (by decide) g hg g e.symm rfl)), hG.2.2.2.trans (OwnM.below hOw hg5 hG.2.2.2.size)⟩
  case s9_p1 =>
    refine oweP rfl fun a wx val L hG hi hW hV hN hO K hK => ?_
    have e13 : a.tmps[13]? = some (.pointer (some ⟨bt, 0, none⟩)) := (hO 13 (by kernel_rfl)).trans (by rfl)
    clear hV hN hO
    go_simp
    exact hK.out _ _ (by rw [Vp9, upd_at] <;> (congr 1 <;> omega)) (.inr (.inr (Below.refl _ _))) (⟨fun h => hG.1 (upL_false h), fun h => hG.2.1 (upL_false h), hG.2.2⟩)
  case s10_p1 =>
    refine oweP rfl fun a wx val L hG hi hW hV hN hO K hK => ?_
    have e46 := hN 9 46 (by kernel_rfl) (by kernel_rfl) (by simp)
    have f46 := hV 9 (by kernel_rfl) (by kernel_rfl)
    rw [Vp9] at f46; rw [f46] at e46; clear f46
    have e45 := hN 8 45 (by kernel_rfl) (by kernel_rfl) (by simp)
    have f45 := hV 8 (by kernel_rfl) (by kernel_rfl)
    rw [Vp8] at f45; obtain ⟨A9, c9, hv, hoo⟩ := f45; rw [hv] at e45
    clear hV hN hO
    have hEn := hG.1 hi
    obtain ⟨y0, y1, y2, y3, y4⟩ := hEn.cells
    have hf := hEn.frozen 4
    go_simp
    exact hK.out undef (wx.setCell ⟨bt, 4, none⟩ (.slice A9 (X.msgs.length + 1) c9)) (by rw [Vp10]; exact ⟨A9, c9, hEn.set4 _, own_far hoo (fun g hg => Below.heap_setCell _ _ _ _ (own_apart hoo hEn (by decide) g hg))⟩) (.inr (.inl rfl)) ⟨fun h => (upL_self h).elim, fun h => own_far (hG.2.1 (upL_false h)) (fun g hg => Below.heap_setCell _ _ _ _ (own_apart (hG.2.1 (upL_false h)) hEn (by decide) g hg)), own_far hG.2.2.1 (fun g hg => Below.heap_setCell _ _ _ _ (own_apart hG.2.2.1 hEn (by decide) g hg)), hG.2.2.2.setCell (p := ⟨bt, 4, none⟩) HBT.out _⟩
  intro val wx L hG hV
  have f0 := hV 0 (by simp) (fun _ _ => by simp)
  rw [Vp0] at f0
  have f1 := hV 1 (by simp) (fun _ _ => by simp)
  rw [Vp1] at f1
  have f2 := hV 2 (by simp) (fun _ _ => by simp)
  rw [Vp2] at f2
  have f3 := hV 3 (by simp) (fun _ _ => by simp)
  rw [Vp3] at f3
  have f4 := hV 4 (by simp) (fun _ _ => by simp)
  rw [Vp4] at f4
  have f5 := hV 5 (by simp) (fun _ _ => by simp)
  rw [Vp5] at f5
  have f6 := hV 6 (by simp) (fun _ _ => by simp)
  rw [Vp6] at f6
  have f9 := hV 9 (by simp) (fun _ _ => by simp)
  rw [Vp9] at f9
  have f10 := hV 10 (by simp) (fun _ _ => by simp)
  rw [Vp10] at f10
  clear hV Vp0 Vp1 Vp2 Vp3 Vp4 Vp5 Vp6 Vp7 Vp8 Vp9 Vp10
  simp only [putAll, Act.put, List.setIfInBounds_toArray, List.set_cons_zero, List.set_cons_succ]
  generalize val 0 = z0 at *; (subst f0)
  generalize val 1 = z1 at *; (subst f1)
  generalize val 2 = z2 at *; (subst f2)
  generalize val 3 = z3 at *; (subst f3)
  generalize val 4 = z4 at *; (subst f4)
  generalize val 5 = z5 at *; (subst f5)
  generalize val 6 = z6 at *; (subst f6)
  generalize val 7 = z7 at *
  generalize val 8 = z8 at *
  generalize val 9 = z9 at *; (subst f9)
  clear HVD
  obtain ⟨A9, c9, he9, hv9⟩ := f10
  have HT1 : Hid (Sits wx bt ⟨X.t, X.ep, X.mem, X.incs, X.msgs ++ [m]⟩ UA uc A9 c9) := Lib.hid ⟨by rw [show (X.msgs ++ [m]).length = X.msgs.length + 1 by simp]; exact he9, (own_slice hG.2.2.1).2, (ownM_slice hv9).2⟩
  have HB3 := Lib.hid (HB2.out.trans (hG.2.2.2.mono HB2.out.size))
  have HS3 := Lib.hid (HS2.out.on hG.2.2.2)
  have H73 := Lib.hid (H72.out.keep (w' := wx) fun q hq => (hG.2.2.2).cell (by rw [hq, adb]; exact HAD2.out))
  have H03 := Lib.hid (H02.out.keep (w' := wx) fun q hq => (hG.2.2.2).cell (by rw [hq, adb]; exact HAD2.out))
  have HAD3 : Hid (ad.block < wx.heap.size) := Lib.hid (Nat.lt_of_lt_of_le HAD2.out (hG.2.2.2).size)
  generalize wx = W3 at *
  generalize bt = b1 at *
  clear he9 hv9 hG HE HU HV HBQ HBT HS2 HB2 H72 H02 HAD2
  obtain ⟨y0, y1, y2, y3, y4⟩ := HS3.out.ent.cells
  go_wp2_with fail
  refine (CO.out _ _ _ _ _ HS3.out.row HS3.out.msgs).mono ?_; rintro e wq ⟨hown, bq⟩
  obtain ⟨u, v, rfl, hu, hv⟩ := hown
  obtain ⟨UA, uc, rfl, -, -⟩ := V.Own.row hu
  obtain ⟨VA, vc, rfl, -, -⟩ := hv.row
  have ba := Joins.below_alloc1 wq (.cells #[.int .i64 X.t, .int .i64 X.ep, .int .i64 X.mem, .slice UA X.incs.length uc, .slice VA X.msgs.length vc] 27)
  have HE := Lib.hid (EntAt.new wq X.t X.ep X.mem (.slice UA X.incs.length uc) (.slice VA X.msgs.length vc))
  have HU := Lib.hid (ownsRow_on hu ba)
  have HV := Lib.hid (hv.on ba)
  have HBQ := Lib.hid (bq.trans (ba.mono bq.size))
  have HBT := Lib.hid bq.size
  clear y0 y1 y2 y3 y4 hu hv ba bq
  go_upto_region 10 with (fail)
  generalize wq.alloc (.cells #[.int .i64 X.t, .int .i64 X.ep, .int .i64 X.mem, .slice UA X.incs.length uc, .slice VA X.msgs.length vc] 27) = Wn at *
  generalize wq.heap.size = bt at *
  have HV : ∃ Vp : Nat → (Nat → Value) → World → Prop, Vp = (fun ix u wv => match ix with
    | 0 => u 0 = .pointer (some ⟨bx, 2, none⟩)
    | 1 => u 1 = .int .i64 X.mem
    | 2 => u 2 = .pointer (some ⟨bx, 4, none⟩)
    | 3 => u 3 = .slice (some ad) X.msgs.length c2
    | 4 => u 4 = .int .i64 (i : Int)
    | 5 => u 5 = .pointer (some (ad.add (i * 7)))
    | 6 => u 6 = .pointer (some ⟨((ad.add (i * 7))).block, ((ad.add (i * 7))).off + 2, none⟩)
    | 7 => u 7 = .int .i64 m.sender
    | 8 => u 8 = .int .i64 (V.withoutI X.mem m.sender)
    | 9 => u 9 = .pointer (some ⟨bt, 2, none⟩)
    | 10 => EntAt wv bt X.t X.ep (V.withoutI X.mem m.sender) (.slice UA X.incs.length uc) (.slice VA X.msgs.length vc)
    | _ => True) := ⟨_, rfl⟩
  obtain ⟨Vp, hVdef⟩ := HV
  have Vp0 : ∀ u wv, Vp 0 u wv = (u 0 = .pointer (some ⟨bx, 2, none⟩)) := fun u wv => by subst hVdef; rfl
  have Vp1 : ∀ u wv, Vp 1 u wv = (u 1 = .int .i64 X.mem) := fun u wv => by subst hVdef; rfl
  have Vp2 : ∀ u wv, Vp 2 u wv = (u 2 = .pointer (some ⟨bx, 4, none⟩)) := fun u wv => by subst hVdef; rfl
  have Vp3 : ∀ u wv, Vp 3 u wv = (u 3 = .slice (some ad) X.msgs.length c2) := fun u wv => by subst hVdef; rfl
  have Vp4 : ∀ u wv, Vp 4 u wv = (u 4 = .int .i64 (i : Int)) := fun u wv => by subst hVdef; rfl
  have Vp5 : ∀ u wv, Vp 5 u wv = (u 5 = .pointer (some (ad.add (i * 7)))) := fun u wv => by subst hVdef; rfl
  have Vp6 : ∀ u wv, Vp 6 u wv = (u 6 = .pointer (some ⟨((ad.add (i * 7))).block, ((ad.add (i * 7))).off + 2, none⟩)) := fun u wv => by subst hVdef; rfl
  have Vp7 : ∀ u wv, Vp 7 u wv = (u 7 = .int .i64 m.sender) := fun u wv => by subst hVdef; rfl
  have Vp8 : ∀ u wv, Vp 8 u wv = (u 8 = .int .i64 (V.withoutI X.mem m.sender)) := fun u wv => by subst hVdef; rfl
  have Vp9 : ∀ u wv, Vp 9 u wv = (u 9 = .pointer (some ⟨bt, 2, none⟩)) := fun u wv => by subst hVdef; rfl
  have Vp10 : ∀ u wv, Vp 10 u wv = (EntAt wv bt X.t X.ep (V.withoutI X.mem m.sender) (.slice UA X.incs.length uc) (.slice VA X.msgs.length vc)) := fun u wv => by subst hVdef; rfl
  have HVD := Lib.hid hVdef
  clear hVdef
  refine region_phase (V := Vp) (drop := fun _ _ => false) (G := fun L wv => (L 10 = false → EntAt wv bt X.t X.ep X.mem (.slice UA X.incs.length uc) (.slice VA X.msgs.length vc)) ∧ OwnM wv W3.heap.size (.slice VA X.msgs.length vc) X.msgs ∧ V.Own wv W3.heap.size (.slice UA X.incs.length uc) X.incs ∧ Below W3.heap.size W3 wv) (Rel := fun jx wv wv' => jx = 10 ∨ Below wv.heap.size wv wv') (by kernel_rfl) (by kernel_rfl) ⟨fun _ => HE.out.on (Below.refl _ _).drew, HV.out.on (Below.refl _ _).drew, ownsRow_on HU.out (Below.refl _ _).drew, HBQ.out.trans ((Below.refl _ _).drew.mono HBQ.out.size)⟩ ?hmonop2 ?hdepp2 ⟨?s0_p2, ?s1_p2, ?s2_p2, ?s3_p2, ?s4_p2, ?s5_p2, ?s6_p2, ?s7_p2, ?s8_p2, ?s9_p2, ?s10_p2, trivial⟩ ?behindp2
  case hmonop2 =>
    intro ix jx u wv wv' hij hw hd hr
    rw [HVD.out]
    dsimp only
    split <;> intro h <;> first | exact trivial | exact h | (rcases hr with rfl | hb; (focus first | exact absurd rfl hij | (simp at hd; done) | (exact Bool.noConfusion (hw.symm.trans (show _ = true from by kernel_rfl)))); (first | (exact h.on hb)))
  case hdepp2 =>
    intro ix u u' wv h1 h2
    rw [HVD.out]
    dsimp only
    split <;> intro h <;> first | exact trivial | (rw [← h1]; exact h) | exact h
  case s0_p2 =>
    refine oweP rfl fun a wx val L hG hi hW hV hN hO K hK => ?_
    have e10 : a.tmps[10]? = some (.pointer (some ⟨bx, 0, none⟩)) := (hO 10 (by kernel_rfl)).trans (by rfl)
    clear hV hN hO
    go_simp
    exact hK.out _ _ (by rw [Vp0, upd_at] <;> (congr 1 <;> omega)) (.inr (Below.refl _ _)) (⟨fun h => hG.1 (upL_false h), hG.2⟩)
  case s1_p2 =>
    refine oweP rfl fun a wx val L hG hi hW hV hN hO K hK => ?_
    have e49 := hN 0 49 (by kernel_rfl) (by kernel_rfl) (by simp)
    have f49 := hV 0 (by kernel_rfl) (by kernel_rfl)
    rw [Vp0] at f49; rw [f49] at e49; clear f49
    clear hV hN hO
    obtain ⟨y0, y1, y2, y3, y4⟩ := (HS3.out.on hG.2.2.2).ent.cells
    go_simp
    exact hK.out _ _ (by rw [Vp1, upd_at] <;> (congr 1 <;> omega)) (.inr (Below.refl _ _)) (⟨fun h => hG.1 (upL_false h), hG.2⟩)
  case s2_p2 =>
    refine oweP rfl fun a wx val L hG hi hW hV hN hO K hK => ?_
    have e10 : a.tmps[10]? = some (.pointer (some ⟨bx, 0, none⟩)) := (hO 10 (by kernel_rfl)).trans (by rfl)
    clear hV hN hO
    go_simp
    exact hK.out _ _ (by rw [Vp2, upd_at] <;> (congr 1 <;> omega)) (.inr (Below.refl _ _)) (⟨fun h => hG.1 (upL_false h), hG.2⟩)
  case s3_p2 =>
    refine oweP rfl fun a wx val L hG hi hW hV hN hO K hK => ?_
    have e51 := hN 2 51 (by kernel_rfl) (by kernel_rfl) (by simp)
    have f51 := hV 2 (by kernel_rfl) (by kernel_rfl)
    rw [Vp2] at f51; rw [f51] at e51; clear f51
    clear hV hN hO
    obtain ⟨y0, y1, y2, y3, y4⟩ := (HS3.out.on hG.2.2.2).ent.cells
    go_simp
    exact hK.out _ _ (by rw [Vp3, upd_at] <;> (congr 1 <;> omega)) (.inr (Below.refl _ _)) (⟨fun h => hG.1 (upL_false h), hG.2⟩)
  case s4_p2 =>
    refine oweP rfl fun a wx val L hG hi hW hV hN hO K hK => ?_
    have e12 : a.tmps[12]? = some (.int .i64 (i : Int)) := (hO 12 (by kernel_rfl)).trans (by rfl)
    clear hV hN hO
    go_simp
    exact hK.out _ _ (by rw [Vp4, upd_at] <;> (congr 1 <;> omega)) (.inr (Below.refl _ _)) (⟨fun h => hG.1 (upL_false h), hG.2⟩)
  case s5_p2 =>
    refine oweP rfl fun a wx val L hG hi hW hV hN hO K hK => ?_
    have e52 := hN 3 52 (by kernel_rfl) (by kernel_rfl) (by simp)
    have f52 := hV 3 (by kernel_rfl) (by kernel_rfl)
    rw [Vp3] at f52; rw [f52] at e52; clear f52
    have e53 := hN 4 53 (by kernel_rfl) (by kernel_rfl) (by simp)
    have f53 := hV 4 (by kernel_rfl) (by kernel_rfl)
    rw [Vp4] at f53; rw [f53] at e53; clear f53
    clear hV hN hO
    go_simp
    exact hK.out _ _ (by rw [Vp5, upd_at] <;> (congr 1 <;> omega)) (.inr (Below.refl _ _)) (⟨fun h => hG.1 (upL_false h), hG.2⟩)
  case s6_p2 =>
    refine oweP rfl fun a wx val L hG hi hW hV hN hO K hK => ?_
    have e54 := hN 5 54 (by kernel_rfl) (by kernel_rfl) (by simp)
    have f54 := hV 5 (by kernel_rfl) (by kernel_rfl)
    rw [Vp5] at f54; rw [f54] at e54; clear f54
    clear hV hN hO
    go_simp
    exact hK.out _ _ (by rw [Vp6, upd_at] <;> (congr 1 <;> omega)) (.inr (Below.refl _ _)) (⟨fun h => hG.1 (upL_false h), hG.2⟩)
  case s7_p2 =>
    refine oweP rfl fun a wx val L hG hi hW hV hN hO K hK => ?_
    have e55 := hN 6 55 (by kernel_rfl) (by kernel_rfl) (by simp)
    have f55 := hV 6 (by kernel_rfl) (by kernel_rfl)
    rw [Vp6] at f55; rw [f55] at e55; clear f55
    clear hV hN hO
    obtain ⟨x0, x1, x2, x3, x4, x5, x6⟩ := H73.out.keep (w' := wx) fun q hq => (hG.2.2.2).cell (by rw [hq, adb]; exact HAD3.out)
    go_simp
    exact hK.out _ _ (by rw [Vp7, upd_at] <;> (congr 1 <;> omega)) (.inr (Below.refl _ _)) (⟨fun h => hG.1 (upL_false h), hG.2⟩)
  case s8_p2 =>
    refine oweP rfl fun a wx val L hG hi hW hV hN hO K hK => ?_
    have e50 := hN 1 50 (by kernel_rfl) (by kernel_rfl) (by simp)
    have f50 := hV 1 (by kernel_rfl) (by kernel_rfl)
    rw [Vp1] at f50; rw [f50] at e50; clear f50
    have e56 := hN 7 56 (by kernel_rfl) (by kernel_rfl) (by simp)
    have f56 := hV 7 (by kernel_rfl) (by kernel_rfl)
    rw [Vp7] at f56; rw [f56] at e56; clear f56
    clear hV hN hO
    go_simp
    refine (V.refWithout_any X.mem m.sender _).mono ?_
    rintro e w11 ⟨rfl, hb⟩
    exact hK.out _ _ (by rw [Vp8, upd_at]) (.inr (hb)) (⟨fun h => (hG.1 (upL_false h)).on hb, hG.2.1.on hb, ownsRow_on hG.2.2.1 hb, hG.2.2.2.trans (hb.mono hG.2.2.2.size)⟩)
  case s9_p2 =>
    refine oweP rfl fun a wx val L hG hi hW hV hN hO K hK => ?_
    have e14 : a.tmps[14]? = some (.pointer (some ⟨bt, 0, none⟩)) := (hO 14 (by kernel_rfl)).trans (by rfl)
    clear hV hN hO
    go_simp
    exact hK.out _ _ (by rw [Vp9, upd_at] <;> (congr 1 <;> omega)) (.inr (Below.refl _ _)) (⟨fun h => hG.1 (upL_false h), hG.2⟩)
  case s10_p2 =>
    refine oweP rfl fun a wx val L hG hi hW hV hN hO K hK => ?_
    have e58 := hN 9 58 (by kernel_rfl) (by kernel_rfl) (by simp)
    have f58 := hV 9 (by kernel_rfl) (by kernel_rfl)
    rw [Vp9] at f58; rw [f58] at e58; clear f58
    have e57 := hN 8 57 (by kernel_rfl) (by kernel_rfl) (by simp)
    have f57 := hV 8 (by kernel_rfl) (by kernel_rfl)
    rw [Vp8] at f57; rw [f57] at e57; clear f57
    clear hV hN hO
    have hEn := hG.1 hi
    obtain ⟨y0, y1, y2, y3, y4⟩ := hEn.cells
    have hf := hEn.frozen 2
    go_simp
    exact hK.out undef (wx.setCell ⟨bt, 2, none⟩ (.int .i64 (V.withoutI X.mem m.sender))) (by rw [Vp10]; exact hEn.set2 _) (.inl rfl) ⟨fun h => (upL_self h).elim, own_far hG.2.1 (fun g hg => Below.heap_setCell _ _ _ _ (own_apart hG.2.1 hEn (by decide) g hg)), own_far hG.2.2.1 (fun g hg => Below.heap_setCell _ _ _ _ (own_apart hG.2.2.1 hEn (by decide) g hg)), hG.2.2.2.setCell (p := ⟨bt, 2, none⟩) HBT.out _⟩
  intro val wx L hG hV
  have f0 := hV 0 (by simp) (fun _ _ => by simp)
  rw [Vp0] at f0
  have f1 := hV 1 (by simp) (fun _ _ => by simp)
  rw [Vp1] at f1
  have f2 := hV 2 (by simp) (fun _ _ => by simp)
  rw [Vp2] at f2
  have f3 := hV 3 (by simp) (fun _ _ => by simp)
  rw [Vp3] at f3
  have f4 := hV 4 (by simp) (fun _ _ => by simp)
  rw [Vp4] at f4
  have f5 := hV 5 (by simp) (fun _ _ => by simp)
  rw [Vp5] at f5
  have f6 := hV 6 (by simp) (fun _ _ => by simp)
  rw [Vp6] at f6
  have f7 := hV 7 (by simp) (fun _ _ => by simp)
  rw [Vp7] at f7
  have f8 := hV 8 (by simp) (fun _ _ => by simp)
  rw [Vp8] at f8
  have f9 := hV 9 (by simp) (fun _ _ => by simp)
  rw [Vp9] at f9
  have f10 := hV 10 (by simp) (fun _ _ => by simp)
  rw [Vp10] at f10
  clear hV Vp0 Vp1 Vp2 Vp3 Vp4 Vp5 Vp6 Vp7 Vp8 Vp9 Vp10
  simp only [putAll, Act.put, List.setIfInBounds_toArray, List.set_cons_zero, List.set_cons_succ]
  generalize val 0 = z0 at *; (subst f0)
  generalize val 1 = z1 at *; (subst f1)
  generalize val 2 = z2 at *; (subst f2)
  generalize val 3 = z3 at *; (subst f3)
  generalize val 4 = z4 at *; (subst f4)
  generalize val 5 = z5 at *; (subst f5)
  generalize val 6 = z6 at *; (subst f6)
  generalize val 7 = z7 at *; (subst f7)
  generalize val 8 = z8 at *; (subst f8)
  generalize val 9 = z9 at *; (subst f9)
  clear HVD
  have HT2 : Hid (Sits wx bt ⟨X.t, X.ep, V.withoutI X.mem m.sender, X.incs, X.msgs⟩ UA uc VA vc) := Lib.hid ⟨f10, (own_slice hG.2.2.1).2, (ownM_slice hG.2.1).2⟩
  have HB4 := Lib.hid (HB3.out.trans (hG.2.2.2.mono HB3.out.size))
  have HS4 := Lib.hid (HS3.out.on hG.2.2.2)
  have H74 := Lib.hid (H73.out.keep (w' := wx) fun q hq => (hG.2.2.2).cell (by rw [hq, adb]; exact HAD3.out))
  have H04 := Lib.hid (H03.out.keep (w' := wx) fun q hq => (hG.2.2.2).cell (by rw [hq, adb]; exact HAD3.out))
  have HAD4 : Hid (ad.block < wx.heap.size) := Lib.hid (Nat.lt_of_lt_of_le HAD3.out (hG.2.2.2).size)
  have HT1 := Lib.hid (HT1.out.on hG.2.2.2)
  generalize wx = W4 at *
  generalize bt = b2 at *
  clear f10 hG HE HU HV HBQ HBT HS3 HB3 H73 H03 HAD3
  obtain ⟨y0, y1, y2, y3, y4⟩ := HS4.out.ent.cells
  go_wp2_with fail
  refine (CO.out _ _ _ _ _ HS4.out.row HS4.out.msgs).mono ?_; rintro e wq ⟨hown, bq⟩
  obtain ⟨u, v, rfl, hu, hv⟩ := hown
  obtain ⟨UA, uc, rfl, -, -⟩ := V.Own.row hu
  obtain ⟨VA, vc, rfl, -, -⟩ := hv.row
  have ba := Joins.below_alloc1 wq (.cells #[.int .i64 X.t, .int .i64 X.ep, .int .i64 X.mem, .slice UA X.incs.length uc, .slice VA X.msgs.length vc] 27)
  have HE := Lib.hid (EntAt.new wq X.t X.ep X.mem (.slice UA X.incs.length uc) (.slice VA X.msgs.length vc))
  have HU := Lib.hid (ownsRow_on hu ba)
  have HV := Lib.hid (hv.on ba)
  have HBQ := Lib.hid (bq.trans (ba.mono bq.size))
  have HBT := Lib.hid bq.size
  clear y0 y1 y2 y3 y4 hu hv ba bq
  go_upto_region 12 with (fail)
  generalize wq.alloc (.cells #[.int .i64 X.t, .int .i64 X.ep, .int .i64 X.mem, .slice UA X.incs.length uc, .slice VA X.msgs.length vc] 27) = Wn at *
  generalize wq.heap.size = bt at *
  obtain ⟨ga, hga, hgs, hgl, hgt⟩ : ∃ ga : Addr, VA = some ga ∧ ga.spot = none ∧ W4.heap.size ≤ ga.block ∧ ∃ Z, Wn.heap[ga.block]? = some (.cells Z 36 (0, 0)) := by
    have hlt := HV.out.lt
    rcases HV.out.2 with ⟨e, h0⟩ | ⟨g, cap, cur, e, hh, hz, _⟩
    · have := HK0.out
      injection e with e1 e2 e3
      omega
    · injection e with e1 e2 e3
      refine ⟨⟨g, 0, none⟩, e1, rfl, (hlt g (by rw [e1]; rfl)).1, _, hz⟩
  subst hga
  obtain ⟨ZZ, hgz⟩ := hgt
  have HVM := Lib.hid (ownM_slice HV.out).2
  have HZT : Hid (∃ Z T, Wn.heap[ga.block]? = some (.cells Z T (0, 0))) := Lib.hid ⟨_, _, hgz⟩
  have HGS := Lib.hid hgs
  have HGB : Hid (W4.heap.size ≤ ga.block ∧ bt ≠ ga.block) := Lib.hid ⟨hgl, fun e => by
    have h1 : Wn.heap[bt]? = _ := HE.out
    rw [e, hgz] at h1
    injection h1 with h1
    injection h1 with h1 h2
    exact absurd h2 (by decide)⟩
  have HGU : Hid (∀ g, (Value.slice UA X.incs.length uc).ownBlock = some g → g ≠ ga.block) := Lib.hid (fun g hg => own_apart HU.out hgz (by decide) g hg)
  have HTM : Hid (m.inc.tmod 65535 = m.inc % 65535) := Lib.hid (Int.tmod_eq_emod_of_nonneg (by have := HMI.out; omega))
  have HWR : Hid (IntKind.i64.wrap (m.inc % 65535 + 1) = m.inc % 65535 + 1) := Lib.hid (IntWalk.i64_in _ (by omega))
  clear hgs hgl hgz
  have HV : ∃ Vp : Nat → (Nat → Value) → World → Prop, Vp = (fun ix u wv => match ix with
    | 0 => u 0 = .pointer (some ⟨bt, 4, none⟩)
    | 1 => u 1 = .slice (some ga) X.msgs.length vc
    | 2 => u 2 = .int .i64 (i : Int)
    | 3 => u 3 = .pointer (some ⟨bx, 4, none⟩)
    | 4 => u 4 = .slice (some ad) X.msgs.length c2
    | 5 => u 5 = .int .i64 (i : Int)
    | 6 => u 6 = .pointer (some (ad.add (i * 7)))
    | 7 => u 7 = .pointer (some ⟨((ad.add (i * 7))).block, ((ad.add (i * 7))).off + 3, none⟩)
    | 8 => u 8 = .int .i64 m.inc
    | 9 => u 9 = .int .i64 (m.inc % 65535)
    | 10 => u 10 = .int .i64 (m.inc % 65535 + 1)
    | 11 => u 11 = .pointer (some (ga.add (i * 7)))
    | 12 => u 12 = .pointer (some ⟨((ga.add (i * 7))).block, ((ga.add (i * 7))).off + 3, none⟩)
    | 13 => Msgs wv wv.heap.size (some ga) (X.msgs.set i ⟨m.ext, m.n, m.sender, m.inc % 65535 + 1, m.seq, m.number, m.data⟩)
    | _ => True) := ⟨_, rfl⟩
  obtain ⟨Vp, hVdef⟩ := HV
  have Vp0 : ∀ u wv, Vp 0 u wv = (u 0 = .pointer (some ⟨bt, 4, none⟩)) := fun u wv => by subst hVdef; rfl
  have Vp1 : ∀ u wv, Vp 1 u wv = (u 1 = .slice (some ga) X.msgs.length vc) := fun u wv => by subst hVdef; rfl
  have Vp2 : ∀ u wv, Vp 2 u wv = (u 2 = .int .i64 (i : Int)) := fun u wv => by subst hVdef; rfl
  have Vp3 : ∀ u wv, Vp 3 u wv = (u 3 = .pointer (some ⟨bx, 4, none⟩)) := fun u wv => by subst hVdef; rfl
  have Vp4 : ∀ u wv, Vp 4 u wv = (u 4 = .slice (some ad) X.msgs.length c2) := fun u wv => by subst hVdef; rfl
  have Vp5 : ∀ u wv, Vp 5 u wv = (u 5 = .int .i64 (i : Int)) := fun u wv => by subst hVdef; rfl
  have Vp6 : ∀ u wv, Vp 6 u wv = (u 6 = .pointer (some (ad.add (i * 7)))) := fun u wv => by subst hVdef; rfl
  have Vp7 : ∀ u wv, Vp 7 u wv = (u 7 = .pointer (some ⟨((ad.add (i * 7))).block, ((ad.add (i * 7))).off + 3, none⟩)) := fun u wv => by subst hVdef; rfl
  have Vp8 : ∀ u wv, Vp 8 u wv = (u 8 = .int .i64 m.inc) := fun u wv => by subst hVdef; rfl
  have Vp9 : ∀ u wv, Vp 9 u wv = (u 9 = .int .i64 (m.inc % 65535)) := fun u wv => by subst hVdef; rfl
  have Vp10 : ∀ u wv, Vp 10 u wv = (u 10 = .int .i64 (m.inc % 65535 + 1)) := fun u wv => by subst hVdef; rfl
  have Vp11 : ∀ u wv, Vp 11 u wv = (u 11 = .pointer (some (ga.add (i * 7)))) := fun u wv => by subst hVdef; rfl
  have Vp12 : ∀ u wv, Vp 12 u wv = (u 12 = .pointer (some ⟨((ga.add (i * 7))).block, ((ga.add (i * 7))).off + 3, none⟩)) := fun u wv => by subst hVdef; rfl
  have Vp13 : ∀ u wv, Vp 13 u wv = (Msgs wv wv.heap.size (some ga) (X.msgs.set i ⟨m.ext, m.n, m.sender, m.inc % 65535 + 1, m.seq, m.number, m.data⟩)) := fun u wv => by subst hVdef; rfl
  have HVD := Lib.hid hVdef
  clear hVdef
  refine region_phase (V := Vp) (drop := fun _ _ => false) (G := fun L wv => EntAt wv bt X.t X.ep X.mem (.slice UA X.incs.length uc) (.slice (some ga) X.msgs.length vc) ∧ (L 13 = false → Msgs wv wv.heap.size (some ga) X.msgs ∧ ∃ Z T, wv.heap[ga.block]? = some (.cells Z T (0, 0))) ∧ V.Own wv W4.heap.size (.slice UA X.incs.length uc) X.incs ∧ Below W4.heap.size W4 wv) (Rel := fun jx wv wv' => jx = 13 ∨ Below wv.heap.size wv wv') (by kernel_rfl) (by kernel_rfl) ⟨HE.out.on (Below.refl _ _).drew, fun _ => ⟨HVM.out.below (Below.refl Wn.heap.size Wn).drew (Nat.le_refl _), HZT.out⟩, ownsRow_on HU.out (Below.refl _ _).drew, HBQ.out.trans ((Below.refl _ _).drew.mono HBQ.out.size)⟩ ?hmonop3 ?hdepp3 ⟨?s0_p3, ?s1_p3, ?s2_p3, ?s3_p3, ?s4_p3, ?s5_p3, ?s6_p3, ?s7_p3, ?s8_p3, ?s9_p3, ?s10_p3, ?s11_p3, ?s12_p3, ?s13_p3, trivial⟩ ?behindp3
  case hmonop3 =>
    intro ix jx u wv wv' hij hw hd hr
    rw [HVD.out]
    dsimp only
    split <;> intro h <;> first | exact trivial | exact h | (rcases hr with rfl | hb; (focus first | exact absurd rfl hij | (simp at hd; done) | (exact Bool.noConfusion (hw.symm.trans (show _ = true from by kernel_rfl)))); (first | (exact (h.below hb (Nat.le_refl _)).more hb.size)))
  case hdepp3 =>
    intro ix u u' wv h1 h2
    rw [HVD.out]
    dsimp only
    split <;> intro h <;> first | exact trivial | (rw [← h1]; exact h) | exact h
  case s0_p3 =>
    refine oweP rfl fun a wx val L hG hi hW hV hN hO K hK => ?_
    have e15 : a.tmps[15]? = some (.pointer (some ⟨bt, 0, none⟩)) := (hO 15 (by kernel_rfl)).trans (by rfl)
    clear hV hN hO
    go_simp
    exact hK.out _ _ (by rw [Vp0, upd_at] <;> (congr 1 <;> omega)) (.inr (Below.refl _ _)) (⟨hG.1, fun h => hG.2.1 (upL_false h), hG.2.2⟩)
  case s1_p3 =>
    refine oweP rfl fun a wx val L hG hi hW hV hN hO K hK => ?_
    have e61 := hN 0 61 (by kernel_rfl) (by kernel_rfl) (by simp)
    have f61 := hV 0 (by kernel_rfl) (by kernel_rfl)
    rw [Vp0] at f61; rw [f61] at e61; clear f61
    clear hV hN hO
    obtain ⟨y0, y1, y2, y3, y4⟩ := hG.1.cells
    go_simp
    exact hK.out _ _ (by rw [Vp1, upd_at] <;> (congr 1 <;> omega)) (.inr (Below.refl _ _)) (⟨hG.1, fun h => hG.2.1 (upL_false h), hG.2.2⟩)
  case s2_p3 =>
    refine oweP rfl fun a wx val L hG hi hW hV hN hO K hK => ?_
    have e12 : a.tmps[12]? = some (.int .i64 (i : Int)) := (hO 12 (by kernel_rfl)).trans (by rfl)
    clear hV hN hO
    go_simp
    exact hK.out _ _ (by rw [Vp2, upd_at] <;> (congr 1 <;> omega)) (.inr (Below.refl _ _)) (⟨hG.1, fun h => hG.2.1 (upL_false h), hG.2.2⟩)
  case s3_p3 =>
    refine oweP rfl fun a wx val L hG hi hW hV hN hO K hK => ?_
    have e10 : a.tmps[10]? = some (.pointer (some ⟨bx, 0, none⟩)) := (hO 10 (by kernel_rfl)).trans (by rfl)
    clear hV hN hO
    go_simp
    exact hK.out _ _ (by rw [Vp3, upd_at] <;> (congr 1 <;> omega)) (.inr (Below.refl _ _)) (⟨hG.1, fun h => hG.2.1 (upL_false h), hG.2.2⟩)
  case s4_p3 =>
    refine oweP rfl fun a wx val L hG hi hW hV hN hO K hK => ?_
    have e64 := hN 3 64 (by kernel_rfl) (by kernel_rfl) (by simp)
    have f64 := hV 3 (by kernel_rfl) (by kernel_rfl)
    rw [Vp3] at f64; rw [f64] at e64; clear f64
    clear hV hN hO
    obtain ⟨y0, y1, y2, y3, y4⟩ := (HS4.out.on hG.2.2.2).ent.cells
    go_simp
    exact hK.out _ _ (by rw [Vp4, upd_at] <;> (congr 1 <;> omega)) (.inr (Below.refl _ _)) (⟨hG.1, fun h => hG.2.1 (upL_false h), hG.2.2⟩)
  case s5_p3 =>
    refine oweP rfl fun a wx val L hG hi hW hV hN hO K hK => ?_
    have e12 : a.tmps[12]? = some (.int .i64 (i : Int)) := (hO 12 (by kernel_rfl)).trans (by rfl)
    clear hV hN hO
    go_simp
    exact hK.out _ _ (by rw [Vp5, upd_at] <;> (congr 1 <;> omega)) (.inr (Below.refl _ _)) (⟨hG.1, fun h => hG.2.1 (upL_false h), hG.2.2⟩)
  case s6_p3 =>
    refine oweP rfl fun a wx val L hG hi hW hV hN hO K hK => ?_
    have e65 := hN 4 65 (by kernel_rfl) (by kernel_rfl) (by simp)
    have f65 := hV 4 (by kernel_rfl) (by kernel_rfl)
    rw [Vp4] at f65; rw [f65] at e65; clear f65
    have e66 := hN 5 66 (by kernel_rfl) (by kernel_rfl) (by simp)
    have f66 := hV 5 (by kernel_rfl) (by kernel_rfl)
    rw [Vp5] at f66; rw [f66] at e66; clear f66
    clear hV hN hO
    go_simp
    exact hK.out _ _ (by rw [Vp6, upd_at] <;> (congr 1 <;> omega)) (.inr (Below.refl _ _)) (⟨hG.1, fun h => hG.2.1 (upL_false h), hG.2.2⟩)
  case s7_p3 =>
    refine oweP rfl fun a wx val L hG hi hW hV hN hO K hK => ?_
    have e67 := hN 6 67 (by kernel_rfl) (by kernel_rfl) (by simp)
    have f67 := hV 6 (by kernel_rfl) (by kernel_rfl)
    rw [Vp6] at f67; rw [f67] at e67; clear f67
    clear hV hN hO
    go_simp
    exact hK.out _ _ (by rw [Vp7, upd_at] <;> (congr 1 <;> omega)) (.inr (Below.refl _ _)) (⟨hG.1, fun h => hG.2.1 (upL_false h), hG.2.2⟩)
  case s8_p3 =>
    refine oweP rfl fun a wx val L hG hi hW hV hN hO K hK => ?_
    have e68 := hN 7 68 (by kernel_rfl) (by kernel_rfl) (by simp)
    have f68 := hV 7 (by kernel_rfl) (by kernel_rfl)
    rw [Vp7] at f68; rw [f68] at e68; clear f68
    clear hV hN hO
    obtain ⟨x0, x1, x2, x3, x4, x5, x6⟩ := H74.out.keep (w' := wx) fun q hq => (hG.2.2.2).cell (by rw [hq, adb]; exact HAD4.out)
    go_simp
    exact hK.out _ _ (by rw [Vp8, upd_at] <;> (congr 1 <;> omega)) (.inr (Below.refl _ _)) (⟨hG.1, fun h => hG.2.1 (upL_false h), hG.2.2⟩)
  case s9_p3 =>
    refine oweP rfl fun a wx val L hG hi hW hV hN hO K hK => ?_
    have e69 := hN 8 69 (by kernel_rfl) (by kernel_rfl) (by simp)
    have f69 := hV 8 (by kernel_rfl) (by kernel_rfl)
    rw [Vp8] at f69; rw [f69] at e69; clear f69
    clear hV hN hO
    have hmi := HTM.out
    go_simp
    exact hK.out _ _ (by rw [Vp9, upd_at] <;> (congr 1 <;> omega)) (.inr (Below.refl _ _)) (⟨hG.1, fun h => hG.2.1 (upL_false h), hG.2.2⟩)
  case s10_p3 =>
    refine oweP rfl fun a wx val L hG hi hW hV hN hO K hK => ?_
    have e70 := hN 9 70 (by kernel_rfl) (by kernel_rfl) (by simp)
    have f70 := hV 9 (by kernel_rfl) (by kernel_rfl)
    rw [Vp9] at f70; rw [f70] at e70; clear f70
    clear hV hN hO
    have hmi := HWR.out
    go_simp
    exact hK.out _ _ (by rw [Vp10, upd_at] <;> (congr 1 <;> omega)) (.inr (Below.refl _ _)) (⟨hG.1, fun h => hG.2.1 (upL_false h), hG.2.2⟩)
  case s11_p3 =>
    refine oweP rfl fun a wx val L hG hi hW hV hN hO K hK => ?_
    have e62 := hN 1 62 (by kernel_rfl) (by kernel_rfl) (by simp)
    have f62 := hV 1 (by kernel_rfl) (by kernel_rfl)
    rw [Vp1] at f62; rw [f62] at e62; clear f62
    have e63 := hN 2 63 (by kernel_rfl) (by kernel_rfl) (by simp)
    have f63 := hV 2 (by kernel_rfl) (by kernel_rfl)
    rw [Vp2] at f63; rw [f63] at e63; clear f63
    clear hV hN hO
    go_simp
    exact hK.out _ _ (by rw [Vp11, upd_at] <;> (congr 1 <;> omega)) (.inr (Below.refl _ _)) (⟨hG.1, fun h => hG.2.1 (upL_false h), hG.2.2⟩)
  case s12_p3 =>
    refine oweP rfl fun a wx val L hG hi hW hV hN hO K hK => ?_
    have e72 := hN 11 72 (by kernel_rfl) (by kernel_rfl) (by simp)
    have f72 := hV 11 (by kernel_rfl) (by kernel_rfl)
    rw [Vp11] at f72; rw [f72] at e72; clear f72
    clear hV hN hO
    go_simp
    exact hK.out _ _ (by rw [Vp12, upd_at] <;> (congr 1 <;> omega)) (.inr (Below.refl _ _)) (⟨hG.1, fun h => hG.2.1 (upL_false h), hG.2.2⟩)
  case s13_p3 =>
    refine oweP rfl fun a wx val L hG hi hW hV hN hO K hK => ?_
    have e73 := hN 12 73 (by kernel_rfl) (by kernel_rfl) (by simp)
    have f73 := hV 12 (by kernel_rfl) (by kernel_rfl)
    rw [Vp12] at f73; rw [f73] at e73; clear f73
    have e71 := hN 10 71 (by kernel_rfl) (by kernel_rfl) (by simp)
    have f71 := hV 10 (by kernel_rfl) (by kernel_rfl)
    rw [Vp10] at f71; rw [f71] at e71; clear f71
    clear hV hN hO
    obtain ⟨hMs, Z, T, hZT⟩ := hG.2.1 hi
    obtain ⟨a9, e9, hb9, hc9⟩ := hMs HK0.out
    injection e9 with e9
    subst e9
    obtain ⟨x0, x1, x2, x3, x4, x5, x6⟩ := hc9 i m HM.out
    have hf : wx.frozen? ⟨(ga.add (i * 7)).block, (ga.add (i * 7)).off + 3, none⟩ = false := by simp [World.frozen?, adb, hZT]
    go_simp
    exact hK.out undef (wx.setCell ⟨(ga.add (i * 7)).block, (ga.add (i * 7)).off + 3, none⟩ (.int .i64 (m.inc % 65535 + 1))) (by rw [Vp13]; rw [World.size_setCell]; exact msgs_set HGS.out hMs HM.out _) (.inl rfl) ⟨(Below.heap_setCell _ _ _ _ (by rw [adb]; exact HGB.out.2)).trans hG.1, fun h => (upL_self h).elim, own_far hG.2.2.1 (fun g hg => Below.heap_setCell _ _ _ _ (by rw [adb]; exact HGU.out g hg)), hG.2.2.2.setCell (p := ⟨(ga.add (i * 7)).block, (ga.add (i * 7)).off + 3, none⟩) (by rw [adb]; exact HGB.out.1) _⟩
  intro val wx L hG hV
  have f0 := hV 0 (by simp) (fun _ _ => by simp)
  rw [Vp0] at f0
  have f1 := hV 1 (by simp) (fun _ _ => by simp)
  rw [Vp1] at f1
  have f2 := hV 2 (by simp) (fun _ _ => by simp)
  rw [Vp2] at f2
  have f3 := hV 3 (by simp) (fun _ _ => by simp)
  rw [Vp3] at f3
  have f4 := hV 4 (by simp) (fun _ _ => by simp)
  rw [Vp4] at f4
  have f5 := hV 5 (by simp) (fun _ _ => by simp)
  rw [Vp5] at f5
  have f6 := hV 6 (by simp) (fun _ _ => by simp)
  rw [Vp6] at f6
  have f7 := hV 7 (by simp) (fun _ _ => by simp)
  rw [Vp7] at f7
  have f8 := hV 8 (by simp) (fun _ _ => by simp)
  rw [Vp8] at f8
  have f9 := hV 9 (by simp) (fun _ _ => by simp)
  rw [Vp9] at f9
  have f10 := hV 10 (by simp) (fun _ _ => by simp)
  rw [Vp10] at f10
  have f11 := hV 11 (by simp) (fun _ _ => by simp)
  rw [Vp11] at f11
  have f12 := hV 12 (by simp) (fun _ _ => by simp)
  rw [Vp12] at f12
  have f13 := hV 13 (by simp) (fun _ _ => by simp)
  rw [Vp13] at f13
  clear hV Vp0 Vp1 Vp2 Vp3 Vp4 Vp5 Vp6 Vp7 Vp8 Vp9 Vp10 Vp11 Vp12 Vp13
  simp only [putAll, Act.put, List.setIfInBounds_toArray, List.set_cons_zero, List.set_cons_succ]
  generalize val 0 = z0 at *; (subst f0)
  generalize val 1 = z1 at *; (subst f1)
  generalize val 2 = z2 at *; (subst f2)
  generalize val 3 = z3 at *; (subst f3)
  generalize val 4 = z4 at *; (subst f4)
  generalize val 5 = z5 at *; (subst f5)
  generalize val 6 = z6 at *; (subst f6)
  generalize val 7 = z7 at *; (subst f7)
  generalize val 8 = z8 at *; (subst f8)
  generalize val 9 = z9 at *; (subst f9)
  generalize val 10 = z10 at *; (subst f10)
  generalize val 11 = z11 at *; (subst f11)
  generalize val 12 = z12 at *; (subst f12)
  clear HVD
  have HT3 : Hid (Sits wx bt ⟨X.t, X.ep, X.mem, X.incs, X.msgs.set i ⟨m.ext, m.n, m.sender, m.inc % 65535 + 1, m.seq, m.number, m.data⟩⟩ UA uc (some ga) vc) := Lib.hid ⟨by rw [show (X.msgs.set i ⟨m.ext, m.n, m.sender, m.inc % 65535 + 1, m.seq, m.number, m.data⟩).length = X.msgs.length by simp]; exact hG.1, (own_slice hG.2.2.1).2, f13⟩
  have HB5 := Lib.hid (HB4.out.trans (hG.2.2.2.mono HB4.out.size))
  have HS5 := Lib.hid (HS4.out.on hG.2.2.2)
  have H75 := Lib.hid (H74.out.keep (w' := wx) fun q hq => (hG.2.2.2).cell (by rw [hq, adb]; exact HAD4.out))
  have H05 := Lib.hid (H04.out.keep (w' := wx) fun q hq => (hG.2.2.2).cell (by rw [hq, adb]; exact HAD4.out))
  have HAD5 : Hid (ad.block < wx.heap.size) := Lib.hid (Nat.lt_of_lt_of_le HAD4.out (hG.2.2.2).size)
  have HT1 := Lib.hid (HT1.out.on hG.2.2.2)
  have HT2 := Lib.hid (HT2.out.on hG.2.2.2)
  generalize wx = W5 at *
  generalize bt = b3 at *
  clear f13 hG HE HU HV HBQ HBT HS4 HB4 H74 H04 HAD4 HVM HZT HGS HGB HGU HTM HWR
  obtain ⟨y0, y1, y2, y3, y4⟩ := HS5.out.ent.cells
  go_wp2_with fail
  refine (CO.out _ _ _ _ _ HS5.out.row HS5.out.msgs).mono ?_; rintro e wq ⟨hown, bq⟩
  obtain ⟨u, v, rfl, hu, hv⟩ := hown
  obtain ⟨UA, uc, rfl, -, -⟩ := V.Own.row hu
  obtain ⟨VA, vc, rfl, -, -⟩ := hv.row
  have ba := Joins.below_alloc1 wq (.cells #[.int .i64 X.t, .int .i64 X.ep, .int .i64 X.mem, .slice UA X.incs.length uc, .slice VA X.msgs.length vc] 27)
  have HE := Lib.hid (EntAt.new wq X.t X.ep X.mem (.slice UA X.incs.length uc) (.slice VA X.msgs.length vc))
  have HU := Lib.hid (ownsRow_on hu ba)
  have HV := Lib.hid (hv.on ba)
  have HBQ := Lib.hid (bq.trans (ba.mono bq.size))
  have HBT := Lib.hid bq.size
  clear y0 y1 y2 y3 y4 hu hv ba bq
  go_upto_region 14 with (fail)
  generalize wq.alloc (.cells #[.int .i64 X.t, .int .i64 X.ep, .int .i64 X.mem, .slice UA X.incs.length uc, .slice VA X.msgs.length vc] 27) = Wn at *
  generalize wq.heap.size = bt at *
  obtain ⟨DA, dc, hdr, hdrun⟩ := run_dropM (some ad) c2 X.msgs HLC.out 1 (by have := HK0.out; omega)
  obtain ⟨DL, hDL⟩ : ∃ DL, DL = X.msgs.drop 1 := ⟨_, rfl⟩
  rw [← hDL] at hdr hdrun O4
  have hdl : DL.length ≤ 16 := by rw [hDL, List.length_drop]; omega
  have HLD : Hid (∀ x ∈ DL, x.data.size ≤ maxLen) := Lib.hid (fun x hx => LD.out x (by rw [hDL] at hx; exact List.mem_of_mem_drop hx))
  clear hDL
  have DROP := Lib.hid hdr
  have DRUN : Hid (∀ w, (Instr.slice 25 (.slice (some ad) X.msgs.length c2) (some (.int .i64 1)) none none).run Tryd.prog w = .ok (.slice DA DL.length dc) w) := Lib.hid hdrun
  clear hdr hdrun
  have HV : ∃ Vp : Nat → (Nat → Value) → World → Prop, Vp = (fun ix u wv => match ix with
    | 0 => u 0 = .pointer (some ⟨bx, 4, none⟩)
    | 1 => u 1 = .slice (some ad) X.msgs.length c2
    | 2 => u 2 = .slice DA DL.length dc
    | 3 => ∃ A9 c9, u 3 = .slice A9 DL.length c9 ∧ OwnM wv W5.heap.size (.slice A9 DL.length c9) (DL)
    | 4 => u 4 = .pointer (some ⟨bx, 4, none⟩)
    | 5 => u 5 = .slice (some ad) X.msgs.length c2
    | 6 => u 6 = .pointer (some ad)
    | 7 => u 7 = .agg #[.bool m0.ext, .int .i64 m0.n, .int .i64 m0.sender, .int .i64 m0.inc, .int .i64 m0.seq, .int .i64 m0.number, .string m0.data]
    | 8 => ∃ g, u 8 = .slice (some ⟨g, 0, none⟩) 1 1 ∧ MsgAt wv g m0
    | 9 => ∃ A9 c9, u 9 = .slice A9 (DL.length + 1) c9 ∧ OwnM wv W5.heap.size (.slice A9 (DL.length + 1) c9) (DL ++ [m0])
    | 10 => u 10 = .pointer (some ⟨bt, 4, none⟩)
    | 11 => ∃ A9 c9, EntAt wv bt X.t X.ep X.mem (.slice UA X.incs.length uc) (.slice A9 (DL.length + 1) c9) ∧ OwnM wv W5.heap.size (.slice A9 (DL.length + 1) c9) (DL ++ [m0])
    | _ => True) := ⟨_, rfl⟩
  obtain ⟨Vp, hVdef⟩ := HV
  have Vp0 : ∀ u wv, Vp 0 u wv = (u 0 = .pointer (some ⟨bx, 4, none⟩)) := fun u wv => by subst hVdef; rfl
  have Vp1 : ∀ u wv, Vp 1 u wv = (u 1 = .slice (some ad) X.msgs.length c2) := fun u wv => by subst hVdef; rfl
  have Vp2 : ∀ u wv, Vp 2 u wv = (u 2 = .slice DA DL.length dc) := fun u wv => by subst hVdef; rfl
  have Vp3 : ∀ u wv, Vp 3 u wv = (∃ A9 c9, u 3 = .slice A9 DL.length c9 ∧ OwnM wv W5.heap.size (.slice A9 DL.length c9) (DL)) := fun u wv => by subst hVdef; rfl
  have Vp4 : ∀ u wv, Vp 4 u wv = (u 4 = .pointer (some ⟨bx, 4, none⟩)) := fun u wv => by subst hVdef; rfl
  have Vp5 : ∀ u wv, Vp 5 u wv = (u 5 = .slice (some ad) X.msgs.length c2) := fun u wv => by subst hVdef; rfl
  have Vp6 : ∀ u wv, Vp 6 u wv = (u 6 = .pointer (some ad)) := fun u wv => by subst hVdef; rfl
  have Vp7 : ∀ u wv, Vp 7 u wv = (u 7 = .agg #[.bool m0.ext, .int .i64 m0.n, .int .i64 m0.sender, .int .i64 m0.inc, .int .i64 m0.seq, .int .i64 m0.number, .string m0.data]) := fun u wv => by subst hVdef; rfl
  have Vp8 : ∀ u wv, Vp 8 u wv = (∃ g, u 8 = .slice (some ⟨g, 0, none⟩) 1 1 ∧ MsgAt wv g m0) := fun u wv => by subst hVdef; rfl
  have Vp9 : ∀ u wv, Vp 9 u wv = (∃ A9 c9, u 9 = .slice A9 (DL.length + 1) c9 ∧ OwnM wv W5.heap.size (.slice A9 (DL.length + 1) c9) (DL ++ [m0])) := fun u wv => by subst hVdef; rfl
  have Vp10 : ∀ u wv, Vp 10 u wv = (u 10 = .pointer (some ⟨bt, 4, none⟩)) := fun u wv => by subst hVdef; rfl
  have Vp11 : ∀ u wv, Vp 11 u wv = (∃ A9 c9, EntAt wv bt X.t X.ep X.mem (.slice UA X.incs.length uc) (.slice A9 (DL.length + 1) c9) ∧ OwnM wv W5.heap.size (.slice A9 (DL.length + 1) c9) (DL ++ [m0])) := fun u wv => by subst hVdef; rfl
  have HVD := Lib.hid hVdef
  clear hVdef
  refine region_phase (V := Vp) (drop := fun jx ix => (jx == 9 && ix == 3) || (jx == 9 && ix == 8) || (jx == 11 && ix == 3) || (jx == 11 && ix == 8) || (jx == 11 && ix == 9)) (G := fun L wv => (L 11 = false → EntAt wv bt X.t X.ep X.mem (.slice UA X.incs.length uc) (.slice VA X.msgs.length vc)) ∧ V.Own wv W5.heap.size (.slice UA X.incs.length uc) X.incs ∧ Below W5.heap.size W5 wv) (Rel := fun jx wv wv' => jx = 9 ∨ jx = 11 ∨ Below wv.heap.size wv wv') (by kernel_rfl) (by kernel_rfl) ⟨fun _ => HE.out.on (Below.refl _ _).drew, ownsRow_on HU.out (Below.refl _ _).drew, HBQ.out.trans ((Below.refl _ _).drew.mono HBQ.out.size)⟩ ?hmonop4 ?hdepp4 ⟨?s0_p4, ?s1_p4, ?s2_p4, ?s3_p4, ?s4_p4, ?s5_p4, ?s6_p4, ?s7_p4, ?s8_p4, ?s9_p4, ?s10_p4, ?s11_p4, trivial⟩ ?behindp4
  case hmonop4 =>
    intro ix jx u wv wv' hij hw hd hr
    rw [HVD.out]
    dsimp only
    split <;> intro h <;> first | exact trivial | exact h | (rcases hr with rfl | rfl | hb; (focus first | exact absurd rfl hij | (simp at hd; done) | (exact Bool.noConfusion (hw.symm.trans (show _ = true from by kernel_rfl)))); (focus first | exact absurd rfl hij | (simp at hd; done) | (exact Bool.noConfusion (hw.symm.trans (show _ = true from by kernel_rfl)))); (first | (obtain ⟨g, e, hg⟩ := h; exact ⟨g, e, hg.on hb⟩) | (obtain ⟨A9, c9, e, hg⟩ := h; first | exact ⟨A9, c9, e, hg.on hb⟩ | exact ⟨A9, c9, e.on hb, hg.on hb⟩)))
  case hdepp4 =>
    intro ix u u' wv h1 h2
    rw [HVD.out]
    dsimp only
    split <;> intro h <;> first | exact trivial | (rw [← h1]; exact h) | exact h
  case s0_p4 =>
    refine oweP rfl fun a wx val L hG hi hW hV hN hO K hK => ?_
    have e10 : a.tmps[10]? = some (.pointer (some ⟨bx, 0, none⟩)) := (hO 10 (by kernel_rfl)).trans (by rfl)
    clear hV hN hO
    go_simp
    exact hK.out _ _ (by rw [Vp0, upd_at] <;> (congr 1 <;> omega)) (.inr (.inr (Below.refl _ _))) (⟨fun h => hG.1 (upL_false h), hG.2⟩)
  case s1_p4 =>
    refine oweP rfl fun a wx val L hG hi hW hV hN hO K hK => ?_
    have e76 := hN 0 76 (by kernel_rfl) (by kernel_rfl) (by simp)
    have f76 := hV 0 (by kernel_rfl) (by kernel_rfl)
    rw [Vp0] at f76; rw [f76] at e76; clear f76
    clear hV hN hO
    obtain ⟨y0, y1, y2, y3, y4⟩ := (HS5.out.on hG.2.2).ent.cells
    go_simp
    exact hK.out _ _ (by rw [Vp1, upd_at] <;> (congr 1 <;> omega)) (.inr (.inr (Below.refl _ _))) (⟨fun h => hG.1 (upL_false h), hG.2⟩)
  case s2_p4 =>
    refine oweP rfl fun a wx val L hG hi hW hV hN hO K hK => ?_
    have e77 := hN 1 77 (by kernel_rfl) (by kernel_rfl) (by simp)
    have f77 := hV 1 (by kernel_rfl) (by kernel_rfl)
    rw [Vp1] at f77; rw [f77] at e77; clear f77
    clear hV hN hO
    have q := DRUN.out
    go_simp
    exact hK.out _ _ (by rw [Vp2, upd_at] <;> (congr 1 <;> omega)) (.inr (.inr (Below.refl _ _))) (⟨fun h => hG.1 (upL_false h), hG.2⟩)
  case s3_p4 =>
    refine oweP rfl fun a wx val L hG hi hW hV hN hO K hK => ?_
    have e78 := hN 2 78 (by kernel_rfl) (by kernel_rfl) (by simp)
    have f78 := hV 2 (by kernel_rfl) (by kernel_rfl)
    rw [Vp2] at f78; rw [f78] at e78; clear f78
    clear hV hN hO
    refine wp_appM (.const (.slice none 0 0)) (.tmp 78) rfl W5.heap.size wx.heap.size (.slice none 0 0) [] (DL) DA dc (by simp [Act.eval]) (by simp [Act.eval, e78]) (OwnM.nil _ _) (DROP.out _ _ (HS5.out.on hG.2.2).msgs) hG.2.2.size (by simp; omega) ?_
    intro u' w5 hown5 hg5
    rw [List.nil_append] at hown5
    obtain ⟨A9, c9, rfl, -, -⟩ := hown5.row
    have hb := OwnM.below (OwnM.nil wx wx.heap.size) hg5 (Nat.le_refl _)
    exact hK.out _ _ (by rw [Vp3, upd_at]; exact ⟨A9, c9, rfl, hown5⟩) (.inr (.inr hb)) (⟨fun h => (hG.1 (upL_false h)).on hb, ownsRow_on hG.2.1 hb, hG.2.2.trans (hb.mono hG.2.2.size)⟩)
  case s4_p4 =>
    refine oweP rfl fun a wx val L hG hi hW hV hN hO K hK => ?_
    have e10 : a.tmps[10]? = some (.pointer (some ⟨bx, 0, none⟩)) := (hO 10 (by kernel_rfl)).trans (by rfl)
    clear hV hN hO
    go_simp
    exact hK.out _ _ (by rw [Vp4, upd_at] <;> (congr 1 <;> omega)) (.inr (.inr (Below.refl _ _))) (⟨fun h => hG.1 (upL_false h), hG.2⟩)
  case s5_p4 =>
    refine oweP rfl fun a wx val L hG hi hW hV hN hO K hK => ?_
    have e80 := hN 4 80 (by kernel_rfl) (by kernel_rfl) (by simp)
    have f80 := hV 4 (by kernel_rfl) (by kernel_rfl)
    rw [Vp4] at f80; rw [f80] at e80; clear f80
    clear hV hN hO
    obtain ⟨y0, y1, y2, y3, y4⟩ := (HS5.out.on hG.2.2).ent.cells
    go_simp
    exact hK.out _ _ (by rw [Vp5, upd_at] <;> (congr 1 <;> omega)) (.inr (.inr (Below.refl _ _))) (⟨fun h => hG.1 (upL_false h), hG.2⟩)
  case s6_p4 =>
    refine oweP rfl fun a wx val L hG hi hW hV hN hO K hK => ?_
    have e81 := hN 5 81 (by kernel_rfl) (by kernel_rfl) (by simp)
    have f81 := hV 5 (by kernel_rfl) (by kernel_rfl)
    rw [Vp5] at f81; rw [f81] at e81; clear f81
    clear hV hN hO
    have q0 : (0 : Int) < (X.msgs.length : Int) := by have := HK0.out; omega
    have q1 := HK0.out
    have q2 : X.msgs ≠ [] := List.ne_nil_of_length_pos HK0.out
    go_simp
    exact hK.out _ _ (by rw [Vp6, upd_at] <;> (congr 1 <;> omega)) (.inr (.inr (Below.refl _ _))) (⟨fun h => hG.1 (upL_false h), hG.2⟩)
  case s7_p4 =>
    refine oweP rfl fun a wx val L hG hi hW hV hN hO K hK => ?_
    have e82 := hN 6 82 (by kernel_rfl) (by kernel_rfl) (by simp)
    have f82 := hV 6 (by kernel_rfl) (by kernel_rfl)
    rw [Vp6] at f82; rw [f82] at e82; clear f82
    clear hV hN hO
    obtain ⟨x0, x1, x2, x3, x4, x5, x6⟩ := H05.out.keep (w' := wx) fun q hq => (hG.2.2).cell (by rw [hq, adb]; exact HAD5.out)
    rw [show ad.add (0 * 7) = ad from by unfold Addr.add; rfl] at x0 x1 x2 x3 x4 x5 x6
    go_simp
    exact hK.out _ _ (by rw [Vp7, upd_at] <;> (congr 1 <;> omega)) (.inr (.inr (Below.refl _ _))) (⟨fun h => hG.1 (upL_false h), hG.2⟩)
  case s8_p4 =>
    refine oweP rfl fun a wx val L hG hi hW hV hN hO K hK => ?_
    have e83 := hN 7 83 (by kernel_rfl) (by kernel_rfl) (by simp)
    have f83 := hV 7 (by kernel_rfl) (by kernel_rfl)
    rw [Vp7] at f83; rw [f83] at e83; clear f83
    clear hV hN hO
    go_simp
    have hb := Joins.below_alloc1 wx (.cells (mc m0) 36)
    exact hK.out _ _ (by rw [Vp8, upd_at]; exact ⟨_, rfl, heap_alloc_new _ _⟩) (.inr (.inr hb)) (⟨fun h => (hG.1 (upL_false h)).on hb, ownsRow_on hG.2.1 hb, hG.2.2.trans (hb.mono hG.2.2.size)⟩)
  case s9_p4 =>
    refine oweP rfl fun a wx val L hG hi hW hV hN hO K hK => ?_
    have e79 := hN 3 79 (by kernel_rfl) (by kernel_rfl) (by simp)
    have f79 := hV 3 (by kernel_rfl) (by kernel_rfl)
    rw [Vp3] at f79; obtain ⟨B9, d9, hv9, ho9⟩ := f79; rw [hv9] at e79
    have e84 := hN 8 84 (by kernel_rfl) (by kernel_rfl) (by simp)
    have f84 := hV 8 (by kernel_rfl) (by kernel_rfl)
    rw [Vp8] at f84; obtain ⟨g, hv, hgg⟩ := f84; rw [hv] at e84
    clear hV hN hO
    have hEn := hG.1 (hW 11 (by kernel_rfl))
    refine wp_appM (.tmp 79) (.tmp 84) rfl W5.heap.size wx.heap.size (.slice B9 DL.length d9) (DL) [m0] (some ⟨g, 0, none⟩) 1 (by simp [Act.eval, e79]) (by simp [Act.eval, e84]) ho9 (Msgs.one hgg) hG.2.2.size (by simp; omega) ?_
    intro u' w5 hown5 hg5
    obtain ⟨A9, c9, rfl, -, -⟩ := hown5.row
    have hl9 : (DL ++ [m0]).length = DL.length + 1 := by simp
    rw [hl9] at hown5 ⊢
    exact hK.out _ _ (by rw [Vp9, upd_at]; exact ⟨A9, c9, rfl, hown5⟩) (.inl rfl) ⟨fun h => hEn.grown hg5 (own_apart ho9 hEn (by decide)), own_far hG.2.1 (fun g hg => hg5.block g (hG.2.1.lt g hg).2 (fun e => own_kinds hG.2.1 ho9 (by decide) g hg g e.symm rfl)), hG.2.2.trans (OwnM.below ho9 hg5 hG.2.2.size)⟩
  case s10_p4 =>
    refine oweP rfl fun a wx val L hG hi hW hV hN hO K hK => ?_
    have e16 : a.tmps[16]? = some (.pointer (some ⟨bt, 0, none⟩)) := (hO 16 (by kernel_rfl)).trans (by rfl)
    clear hV hN hO
    go_simp
    exact hK.out _ _ (by rw [Vp10, upd_at] <;> (congr 1 <;> omega)) (.inr (.inr (Below.refl _ _))) (⟨fun h => hG.1 (upL_false h), hG.2⟩)
  case s11_p4 =>
    refine oweP rfl fun a wx val L hG hi hW hV hN hO K hK => ?_
    have e86 := hN 10 86 (by kernel_rfl) (by kernel_rfl) (by simp)
    have f86 := hV 10 (by kernel_rfl) (by kernel_rfl)
    rw [Vp10] at f86; rw [f86] at e86; clear f86
    have e85 := hN 9 85 (by kernel_rfl) (by kernel_rfl) (by simp)
    have f85 := hV 9 (by kernel_rfl) (by kernel_rfl)
    rw [Vp9] at f85; obtain ⟨A9, c9, hv, hoo⟩ := f85; rw [hv] at e85
    clear hV hN hO
    have hEn := hG.1 hi
    obtain ⟨y0, y1, y2, y3, y4⟩ := hEn.cells
    have hf := hEn.frozen 4
    go_simp
    exact hK.out undef (wx.setCell ⟨bt, 4, none⟩ (.slice A9 (DL.length + 1) c9)) (by rw [Vp11]; exact ⟨A9, c9, hEn.set4 _, own_far hoo (fun g hg => Below.heap_setCell _ _ _ _ (own_apart hoo hEn (by decide) g hg))⟩) (.inr (.inl rfl)) ⟨fun h => (upL_self h).elim, own_far hG.2.1 (fun g hg => Below.heap_setCell _ _ _ _ (own_apart hG.2.1 hEn (by decide) g hg)), hG.2.2.setCell (p := ⟨bt, 4, none⟩) HBT.out _⟩
  intro val wx L hG hV
  have f0 := hV 0 (by simp) (fun _ _ => by simp)
  rw [Vp0] at f0
  have f1 := hV 1 (by simp) (fun _ _ => by simp)
  rw [Vp1] at f1
  have f2 := hV 2 (by simp) (fun _ _ => by simp)
  rw [Vp2] at f2
  have f4 := hV 4 (by simp) (fun _ _ => by simp)
  rw [Vp4] at f4
  have f5 := hV 5 (by simp) (fun _ _ => by simp)
  rw [Vp5] at f5
  have f6 := hV 6 (by simp) (fun _ _ => by simp)
  rw [Vp6] at f6
  have f7 := hV 7 (by simp) (fun _ _ => by simp)
  rw [Vp7] at f7
  have f10 := hV 10 (by simp) (fun _ _ => by simp)
  rw [Vp10] at f10
  have f11 := hV 11 (by simp) (fun _ _ => by simp)
  rw [Vp11] at f11
  clear hV Vp0 Vp1 Vp2 Vp3 Vp4 Vp5 Vp6 Vp7 Vp8 Vp9 Vp10 Vp11
  simp only [putAll, Act.put, List.setIfInBounds_toArray, List.set_cons_zero, List.set_cons_succ]
  generalize val 0 = z0 at *; (subst f0)
  generalize val 1 = z1 at *; (subst f1)
  generalize val 2 = z2 at *; (subst f2)
  generalize val 3 = z3 at *
  generalize val 4 = z4 at *; (subst f4)
  generalize val 5 = z5 at *; (subst f5)
  generalize val 6 = z6 at *; (subst f6)
  generalize val 7 = z7 at *; (subst f7)
  generalize val 8 = z8 at *
  generalize val 9 = z9 at *
  generalize val 10 = z10 at *; (subst f10)
  clear HVD
  obtain ⟨A9, c9, he9, hv9⟩ := f11
  have HT4 : Hid (Sits wx bt ⟨X.t, X.ep, X.mem, X.incs, DL ++ [m0]⟩ UA uc A9 c9) := Lib.hid ⟨by rw [show (DL ++ [m0]).length = DL.length + 1 by simp]; exact he9, (own_slice hG.2.1).2, (ownM_slice hv9).2⟩
  have HB6 := Lib.hid (HB5.out.trans (hG.2.2.mono HB5.out.size))
  have HS6 := Lib.hid (HS5.out.on hG.2.2)
  have H76 := Lib.hid (H75.out.keep (w' := wx) fun q hq => (hG.2.2).cell (by rw [hq, adb]; exact HAD5.out))
  have H06 := Lib.hid (H05.out.keep (w' := wx) fun q hq => (hG.2.2).cell (by rw [hq, adb]; exact HAD5.out))
  have HAD6 : Hid (ad.block < wx.heap.size) := Lib.hid (Nat.lt_of_lt_of_le HAD5.out (hG.2.2).size)
  have HT1 := Lib.hid (HT1.out.on hG.2.2)
  have HT2 := Lib.hid (HT2.out.on hG.2.2)
  have HT3 := Lib.hid (HT3.out.on hG.2.2)
  generalize wx = W6 at *
  generalize bt = b4 at *
  clear he9 hv9 hG HE HU HV HBQ HBT HS5 HB5 H75 H05 HAD5 DROP DRUN H76 H06 HAD6
  have hmd : m.data.size ≤ maxLen := LD.out m (List.mem_of_getElem? HM.out)
  have hmd0 : m0.data.size ≤ maxLen := LD.out m0 (List.mem_of_getElem? HMM.out)
  have d1 := fun A c A' c' W L h h' => rightEP_any ⟨X.t, X.ep, X.mem, X.incs, X.msgs ++ [m]⟩ A c A' c' W L h h' LI.out (by simp; unfold maxLen; omega) (fun x hx => by rcases List.mem_append.1 hx with h | h; exact LD.out x h; rw [List.mem_singleton.1 h]; exact hmd)
  have d2 := fun A c A' c' W L h h' => rightEP_any ⟨X.t, X.ep, V.withoutI X.mem m.sender, X.incs, X.msgs⟩ A c A' c' W L h h' LI.out (LM.out) (LD.out)
  have d3 := fun A c A' c' W L h h' => rightEP_any ⟨X.t, X.ep, X.mem, X.incs, X.msgs.set i ⟨m.ext, m.n, m.sender, m.inc % 65535 + 1, m.seq, m.number, m.data⟩⟩ A c A' c' W L h h' LI.out (by simp; unfold maxLen; omega) (fun x hx => by rcases List.mem_or_eq_of_mem_set hx with h | h; exact LD.out x h; rw [h]; exact hmd)
  have d4 := fun A c A' c' W L h h' => rightEP_any ⟨X.t, X.ep, X.mem, X.incs, DL ++ [m0]⟩ A c A' c' W L h h' LI.out (by simp; unfold maxLen; omega) (fun x hx => by rcases List.mem_append.1 hx with h | h; exact HLD.out x h; rw [List.mem_singleton.1 h]; exact hmd0)
  rw [O1.out] at d1
  rw [O2.out] at d2
  rw [O3.out] at d3
  generalize X.msgs ++ [m] = M1 at *
  generalize X.msgs.set i ⟨m.ext, m.n, m.sender, m.inc % 65535 + 1, m.seq, m.number, m.data⟩ = M3 at *
  generalize DL ++ [m0] = M4 at *
  simp only at d1 d2 d3 d4
  have D1 := Lib.hid d1; have D2 := Lib.hid d2; have D3 := Lib.hid d3
  have D4 : Hid (X.msgs.length < 2 ∨ ∀ (A : Option Addr) (c : Nat) (A' : Option Addr) (c' : Nat) (W : World), Laid W → V.Row W W.heap.size A X.incs → Msgs W W.heap.size A' M4 → Calls Tryd.prog 17 #[ev X.t X.ep X.mem (.slice A X.incs.length c) (.slice A' M4.length c')] W fun e w' => e = .returned (.bool false) ∧ Below W.heap.size W w') := Lib.hid (by
    rcases Nat.lt_or_ge X.msgs.length 2 with h | h
    · exact .inl h
    · rw [O4.out h] at d4
      exact .inr d4)
  clear d1 d2 d3 d4 hmd hmd0
  obtain ⟨y0, y1, y2, y3, y4⟩ := HS6.out.ent.cells
  go_wp2_with fail
  refine (CR.out _ _ _ _ _ (HL.out.below HB6.out) HS6.out.row HS6.out.msgs).mono ?_; rintro e w7 ⟨rfl, b9⟩
  have HB7 := Lib.hid (HB6.out.trans (b9.mono HB6.out.size))
  replace HT1 := Lib.hid (HT1.out.on b9)
  replace HT2 := Lib.hid (HT2.out.on b9)
  replace HT3 := Lib.hid (HT3.out.on b9)
  replace HT4 := Lib.hid (HT4.out.on b9)
  clear b9 y0 y1 y2 y3 y4
  obtain ⟨y0, y1, y2, y3, y4⟩ := HT1.out.ent.cells
  go_wp2_with fail
  refine (D1.out _ _ _ _ _ (HL.out.below HB7.out) HT1.out.row HT1.out.msgs).mono ?_; rintro e w8 ⟨rfl, b9⟩
  have HB8 := Lib.hid (HB7.out.trans (b9.mono HB7.out.size))
  replace HT2 := Lib.hid (HT2.out.on b9)
  replace HT3 := Lib.hid (HT3.out.on b9)
  replace HT4 := Lib.hid (HT4.out.on b9)
  clear b9 y0 y1 y2 y3 y4
  obtain ⟨y0, y1, y2, y3, y4⟩ := HT2.out.ent.cells
  go_wp2_with fail
  refine (D2.out _ _ _ _ _ (HL.out.below HB8.out) HT2.out.row HT2.out.msgs).mono ?_; rintro e w9 ⟨rfl, b9⟩
  have HB9 := Lib.hid (HB8.out.trans (b9.mono HB8.out.size))
  replace HT3 := Lib.hid (HT3.out.on b9)
  replace HT4 := Lib.hid (HT4.out.on b9)
  clear b9 y0 y1 y2 y3 y4
  obtain ⟨y0, y1, y2, y3, y4⟩ := HT3.out.ent.cells
  go_wp2_with fail
  refine (D3.out _ _ _ _ _ (HL.out.below HB9.out) HT3.out.row HT3.out.msgs).mono ?_; rintro e w10 ⟨rfl, b9⟩
  have HB10 := Lib.hid (HB9.out.trans (b9.mono HB9.out.size))
  replace HT4 := Lib.hid (HT4.out.on b9)
  clear b9 y0 y1 y2 y3 y4
  obtain ⟨y0, y1, y2, y3, y4⟩ := HT4.out.ent.cells
  rcases D4.out with h2 | h2
  · have h2I : (X.msgs.length : Int) < 2 := by omega
    clear h2
    go_wp2_with fail
    go_ret
    exact ⟨rfl, HB10.out⟩
  · by_cases h3 : X.msgs.length < 2
    · have h2I : (X.msgs.length : Int) < 2 := by omega
      clear h3
      go_wp2_with fail
      go_ret
      exact ⟨rfl, HB10.out⟩
    · have h2I : ¬ (X.msgs.length : Int) < 2 := by omega
      clear h3
      go_wp2_with fail
      refine (h2 _ _ _ _ _ (HL.out.below HB10.out) HT4.out.row HT4.out.msgs).mono ?_; rintro e w11 ⟨rfl, b9⟩
      go_wp2_with fail
      go_ret
      exact ⟨rfl, HB10.out.trans (b9.mono HB10.out.size)⟩

end Go.Proofs.YtlgaogghoehalaaDoor

namespace Go.Proofs.YtlgaogghoehalaaDoor.entryOdd
open Go Go.ChangeShapes Go.WideShapes Go.ChangeAt Go.RowKit Go.Joins
open Go.ChangeMaps (open_string shut_string)
set_option linter.unusedVariables false

set_option maxRecDepth 100000 in
theorem lifted (os : Os) (started : os.Started) (H : Type) (enc : TypeId × Value → H) :
    ReturnsInHanded {} Tryd.checked os 7 .any (fun w args => (Rows.entryOddSpec.pre enc Tryd.prog Tryd.f7 [] false w args ∧ laidMetH Tryd.prog Rows.entryOddRow.laid w) ∧ sizedMet enc Tryd.prog Tryd.f7 (OpenSpec.ofChange Rows.entryOddSpec) false w args) (Rows.entryOddSpec.post enc Tryd.prog Tryd.f7 false true false false) := by
  refine returnsInHanded_of_change_and (C := Tryd.checked) (X := fun w _ => laidMetH Tryd.prog Rows.entryOddRow.laid w) (fun _ _ _ hh h => h.of_heap hh) own started (by kernel_rfl) Tryd.func7
    (ChangeSpec.witness_shaped (enc := enc) (C := Tryd.checked) (os := os) (X := fun w _ => laidMetH Tryd.prog Rows.entryOddRow.laid w) false (World.doorLaid Tryd.prog 400 os) #[.agg #[.int .i64 0, .int .i64 0, .int .i64 0], .slice none 0 0, .slice none 0 0, .int .i64 0] 8 rfl (World.shaped_of_RefB (by kernel_rfl) (by kernel_rfl)) (by kernel_rfl) (by kernel_rfl) (by kernel_rfl) (door_met os _)) ?_
  intro W base args ds gs before hval0 hW hcnd hsz0 hL _
  have hsz : (DataW.weightsEach Tryd.prog (Tryd.f7.params.toList ++ Rows.entryOddSpec.plain.varTypes Tryd.prog) (ds ++ gs)).all (· ≤ reachBytes) = true := hsz0
  have hval : ∀ (j : Nat) t v, Tryd.f7.params[j]? = some t → args[j]? = some v → Value.okWide Tryd.prog W .any base t v := hval0
  have L := laid_of hL
  have hW' := hW
  obtain ⟨p, q, hA0, hV, rfl, hfz, hnd⟩ := hW
  have hA : DataW.TrodAll enc Tryd.prog W 0 (fun _ => true) true Tryd.f7.params.toList args.toList ds p := hA0
  rw [Tryd.params7] at hA hval hsz
  obtain ⟨v0, vs0, d0, ds0, p0, q0, hargs, rfl, rfl, h0, r0⟩ := trodAll_cons hA
  obtain ⟨v1, vs1, d1, ds1, p1, q1, rfl, rfl, rfl, h1, r1⟩ := trodAll_cons r0
  obtain ⟨v2, vs2, d2, ds2, p2, q2, rfl, rfl, rfl, h2, r2⟩ := trodAll_cons r1
  obtain ⟨v3, vs3, d3, ds3, p3, q3, rfl, rfl, rfl, h3, r3⟩ := trodAll_cons r2
  obtain ⟨rfl, rfl, rfl⟩ := trodAll_nil r3
  obtain rfl : args = #[v0, v1, v2, v3] := by cases args; simp_all
  obtain ⟨rfl, rfl⟩ := trodVars_none hV
  obtain ⟨a0, rfl, rfl, rfl, w0⟩ := open_three (hval 0 22 v0 rfl rfl) h0
  have hlt1 : ∀ x ∈ p1, x.block < W.heap.size := fun x hx => hW'.lt x (by simp [hx])
  have h1k := h1
  obtain ⟨A1, c1, l1, rfl, f1⟩ := open_incs (okWide_slice Tryd.underlying23 (hval 1 23 v1 rfl rfl)) h1
  have hlt2 : ∀ x ∈ p2, x.block < W.heap.size := fun x hx => hW'.lt x (by simp [hx])
  have h2k := h2
  obtain ⟨A2, c2, l2, rfl, f2⟩ := open_rows (okWide_slice Tryd.underlying24 (hval 2 24 v2 rfl rfl)) h2
  obtain ⟨a3, rfl, rfl, rfl, w3⟩ := open_int Tryd.underlying3 (hval 3 3 v3 rfl rfl) h3
  clear hA0 hval0
  refine (entryOdd_walk a0.n0 a0.n1 a0.n2 A1 c1 l1 A2 c2 l2 a3 w0.1 w0.2.1 w0.2.2 w3 W L f1 f2).mono fun e W' ⟨he, bel⟩ => ?_
  subst he
  exact ⟨_, rfl, _, _, _, [], _, [], hW', trodAll_mk1 (shut_bool Tryd.underlying4 _), (trodAll_cons_mk (shut_three w0) (trodAll_cons_mk (Below.trod laidOut (by kernel_rfl) (of_decide_eq_true (by kernel_rfl)) h1k bel hlt1) (trodAll_cons_mk (Below.trod laidOut (by kernel_rfl) (of_decide_eq_true (by kernel_rfl)) h2k bel hlt2) (trodAll_cons_mk (shut_int Tryd.underlying3 w3) trodAll_mk0)))), rfl, bel.frame _, fun h => by cases h⟩

theorem over : Rows.EntryOddSaid :=
  OpenClaim.holds_of_wide 7 Tryd.f7 rfl rfl rfl rfl rfl rfl rfl ⟨rfl, rfl, rfl, rfl, rfl⟩ rfl rfl rfl rfl rfl (by kernel_rfl) Tryd.func7 (by kernel_rfl)
    (of_decide_eq_true (by kernel_rfl)) (by unfold Func.isWrapper; first | (rw [if_pos (by decide +kernel)]; kernel_rfl) | (rw [if_neg (by decide +kernel)]; exact ⟨rfl, rfl⟩))
    (fun os started H enc _ => lifted os started H enc)

theorem proved : Rows.EntryOddCardSaid :=
  Claim7.holds_tied_plain_at .later [] [.data] true Rows.entryOddCard.stood.harness false
    over (fun _ h => by cases h) (by kernel_rfl) (fun _ h => by cases h) entryOdd_row_tie rfl ⟨rfl, rfl⟩ (by kernel_rfl) rfl
    (fun f fn hf hfn => by
      obtain rfl : f = 7 := Option.some.inj ((show Tryd.prog.funcNamed "omnibus/omnibuslaw06.EntryOdd" = some 7 by kernel_rfl).symm.trans hf) |>.symm
      obtain rfl : fn = Tryd.f7 := (Option.some.inj (Tryd.func7.symm.trans hfn)).symm
      exact ⟨by kernel_rfl, fun j t ht => by
        rw [Tryd.params7] at ht
        have hm : t ∈ [22, 23, 24, 3] := by simpa using Array.mem_of_getElem? ht
        have hall : ([22, 23, 24, 3].all fun u => !Tryd.prog.wantsStandIn u) = true := by kernel_rfl
        exact (show Tryd.prog.wantsStandIn t = false by simpa using List.all_eq_true.1 hall t hm)⟩)
    (by kernel_rfl)
#print axioms proved
end Go.Proofs.YtlgaogghoehalaaDoor.entryOdd

/-
  The law EntryLengths, walked. The card of the statement 'EntryLengths': whatever the input, the law's function returns true, and the input reads behind it as it did ahead of it; the one package-level variable that it reads is tied to the program's text. No condition but the row's own.
-/
import Derived.Test.YtlgaogghoehalaaDoorEntC
import Derived.Test.YtlgaogghoehalaaDoorRows
import Derived.Test.YtlgaogghoehalaaDoorTie
import Derived.Test.YtlgaogghoehalaaDoorCards
import Derived.SevenTiedAt

namespace Go.Proofs.YtlgaogghoehalaaDoor
open Go.RowKit

theorem sizeL_take {l : List Msg} {k : Nat} {m : Msg} (h : l[k]? = some m) : sizeL (l.take (k + 1)) = sizeL (l.take k) + (12 + m.data.size) := by
  obtain ⟨hk, he⟩ := List.getElem?_eq_some_iff.1 h
  unfold sizeL
  rw [List.take_succ_eq_append_getElem hk, he, List.map_append, List.sum_append]
  simp
theorem sizeL_part {l : List Msg} (h : ∀ m ∈ l, rightM m = true) (k : Nat) : sizeL (l.take k) ≤ 20 * l.length := by
  have h1 := sizeL_le (ms := l.take k) (fun m hm => h m (List.mem_of_mem_take hm))
  rw [List.length_take] at h1
  omega
/-- Of unlike entries the bytes are unlike. -/
theorem enc_same {a b : Ent} (ha : rightE a = true) (hb : rightE b = true) : ((txt (encEnt a)).toList == (txt (encEnt b)).toList) = sameE a b := by
  rw [txt_toList, txt_toList, Bool.eq_iff_iff, sameE_iff, beq_iff_eq]
  exact ⟨encEnt_inj ha hb, fun h => by rw [h]⟩

set_option maxRecDepth 100000 in
set_option maxHeartbeats 8000000 in
theorem entryLengths_walk (n0 n1 n2 o0 o1 o2 : Int) (A : Option Addr) (c : Nat) (incs : List Int) (A' : Option Addr) (c' : Nat) (raw : List Raw) (D : Option Addr) (d : Nat) (other : List Raw) (k0 : (Lit.int .i64 n0).wf = true) (k1 : (Lit.int .i64 n1).wf = true) (k2 : (Lit.int .i64 n2).wf = true) (j0 : (Lit.int .i64 o0).wf = true) (j1 : (Lit.int .i64 o1).wf = true) (j2 : (Lit.int .i64 o2).wf = true) (w : World) (L : Laid w) (f1 : IncsOk w A c incs) (f2 : RowsOk w A' c' raw) (f3 : RowsOk w D d other) :
    Calls Tryd.prog 6 #[.agg #[.int .i64 n0, .int .i64 n1, .int .i64 n2], .agg #[.int .i64 o0, .int .i64 o1, .int .i64 o2], .slice A incs.length c, .slice A' raw.length c', .slice D other.length d] w fun e w' => e = .returned (.bool true) ∧ Below w.heap.size w w' := by
  obtain ⟨X, hX⟩ : ∃ X, entV n0 n1 n2 incs raw = X := ⟨_, rfl⟩
  obtain ⟨Y, hY⟩ : ∃ Y, entV o0 o1 o2 incs other = Y := ⟨_, rfl⟩
  have hR : rightE X = true := hX ▸ entV_right n0 n1 n2 incs raw
  have hT : rightE Y = true := hY ▸ entV_right o0 o1 o2 incs other
  have hi := Inp.of f1 f2
  have hj := Inp.of f1 f3
  have cE := fun W (h : Inp W A incs A' raw) => rawS_any k0 k1 k2 c c' hX W h
  have cF := fun W (h : Inp W A incs D other) => rawS_any j0 j1 j2 c d hY W h
  have cA := fun W L => awake_any W L
  obtain ⟨li, lm, ld⟩ := right_lens hR
  obtain ⟨li', lm', ld'⟩ := right_lens hT
  have hil := rightE_incs hR
  have hml := rightE_msgs hR
  have hsl := fun k => sizeL_part (rightE_each hR) k
  have hlen := encEnt_length hR
  have cX := fun A c A' c' W L h h' => encEP_any X A c A' c' W L h h' li lm ld
  have cY := fun A c A' c' W L h h' => encEP_any Y A c A' c' W L h h' li' lm' ld'
  rw [encTE_right hR, encEE_right hR] at cX
  rw [encTE_right hT, encEE_right hT] at cY
  have hsz : (txt (encEnt X)).size = 7 + 2 * X.incs.length + sizeL X.msgs := by rw [txt_size, hlen]
  have hsm := enc_same hR hT
  have cS := fun A A' c c' B B' d d' W h1 h2 h3 h4 => refSameE_any X Y A A' c c' B B' d d' W h1 h2 h3 h4 li lm
  have b0 := Joins.below_alloc2 w (.cells #[.int .i64 n0, .int .i64 n1, .int .i64 n2] 22) (.cells #[.int .i64 o0, .int .i64 o1, .int .i64 o2] 22)
  have a0 := (At3.new w n0 n1 n2).on (Joins.below_alloc1 _ (.cells #[.int .i64 o0, .int .i64 o1, .int .i64 o2] 22))
  have a1 := At3.new (w.alloc (.cells #[.int .i64 n0, .int .i64 n1, .int .i64 n2] 22)) o0 o1 o2
  rw [World.size_alloc] at a1
  have CE := Lib.hid cE; clear cE
  have CF := Lib.hid cF; clear cF
  have CX := Lib.hid cX; clear cX
  have CY := Lib.hid cY; clear cY
  have CS := Lib.hid cS; clear cS
  have HSZ := Lib.hid hsz; clear hsz hlen
  have HSM := Lib.hid hsm; clear hsm
  generalize txt (encEnt X) = TX at *
  generalize txt (encEnt Y) = TY at *
  generalize sameE X Y = SS at *
  clear hX hY k0 k1 k2 j0 j1 j2 f1 f2 f3
  go_enter Tryd.func6, Tryd.ntmps6
  go_wp2_with fail
  refine (cA _ (L.below b0)).mono ?_; rintro e w1 ⟨rfl, b1⟩
  have HB1 := Lib.hid (b0.trans (b1.mono b0.size))
  have HI1 := Lib.hid (hi.on HB1.out)
  have HJ1 := Lib.hid (hj.on HB1.out)
  have HA1 := Lib.hid (a0.on b1)
  have HC1 := Lib.hid (a1.on b1)
  clear b0 b1 a0 a1 hi hj cA
  obtain ⟨q0, q1, q2⟩ := HA1.out.cells
  go_wp2_with fail
  refine (CE.out _ HI1.out).mono ?_; rintro e w2 ⟨A1, c1, A2, c2, rfl, r1, m1, b2, -⟩
  have bt := b2.trans ((Joins.below_alloc1 w2 (.cells #[.int .i64 X.t, .int .i64 X.ep, .int .i64 X.mem, .slice A1 X.incs.length c1, .slice A2 X.msgs.length c2] 27)).mono b2.size)
  have HS2 := Lib.hid (Sits.new (c := c1) (c' := c2) r1 m1)
  have HB2 := Lib.hid (HB1.out.trans (bt.mono HB1.out.size))
  have HJ2 := Lib.hid (HJ1.out.on bt)
  have HC2 := Lib.hid (HC1.out.on bt)
  clear bt r1 m1 b2 q0 q1 q2 CE HI1 HA1 HB1 HJ1 HC1
  obtain ⟨q0, q1, q2⟩ := HC2.out.cells
  go_wp2_with fail
  generalize w2.alloc (.cells #[.int .i64 X.t, .int .i64 X.ep, .int .i64 X.mem, .slice A1 X.incs.length c1, .slice A2 X.msgs.length c2] 27) = W2 at *
  generalize w2.heap.size = bx at *
  refine (CF.out _ HJ2.out).mono ?_; rintro e w3 ⟨D1, d1, D2, d2, rfl, r1, m1, b2, -⟩
  have bt := b2.trans ((Joins.below_alloc1 w3 (.cells #[.int .i64 Y.t, .int .i64 Y.ep, .int .i64 Y.mem, .slice D1 Y.incs.length d1, .slice D2 Y.msgs.length d2] 27)).mono b2.size)
  have HT3 := Lib.hid (Sits.new (c := d1) (c' := d2) r1 m1)
  have HB3 := Lib.hid (HB2.out.trans (bt.mono HB2.out.size))
  have HS3 := Lib.hid (HS2.out.on bt)
  clear bt r1 m1 b2 q0 q1 q2 CF HJ2 HC2 HB2 HS2
  obtain ⟨y0, y1, y2, y3, y4⟩ := HS3.out.ent.cells
  go_wp2_with fail
  generalize w3.alloc (.cells #[.int .i64 Y.t, .int .i64 Y.ep, .int .i64 Y.mem, .slice D1 Y.incs.length d1, .slice D2 Y.msgs.length d2] 27) = W3 at *
  generalize w3.heap.size = by' at *
  refine (CX.out _ _ _ _ _ (L.below HB3.out) HS3.out.row HS3.out.msgs).mono ?_; rintro e w4 ⟨rfl, b4⟩
  have HB4 := Lib.hid (HB3.out.trans (b4.mono HB3.out.size))
  have HS4 := Lib.hid (HS3.out.on b4)
  have HT4 := Lib.hid (HT3.out.on b4)
  clear b4 y0 y1 y2 y3 y4 HB3 HS3 HT3
  obtain ⟨z0, z1, z2, z3, z4⟩ := HT4.out.ent.cells
  go_wp2_with fail
  refine (CY.out _ _ _ _ _ (L.below HB4.out) HT4.out.row HT4.out.msgs).mono ?_; rintro e w5 ⟨rfl, b5⟩
  have HB5 := Lib.hid (HB4.out.trans (b5.mono HB4.out.size))
  have HS5 := Lib.hid (HS4.out.on b5)
  have HT5 := Lib.hid (HT4.out.on b5)
  clear b5 z0 z1 z2 z3 z4 HB4 HS4 HT4
  obtain ⟨y0, y1, y2, y3, y4⟩ := HS5.out.ent.cells
  have e1 : IntKind.i64.wrap (2 * (X.incs.length : Int)) = 2 * (X.incs.length : Int) := IntWalk.i64_in _ (by omega)
  have e2 : IntKind.i64.wrap (7 + 2 * (X.incs.length : Int)) = 7 + 2 * (X.incs.length : Int) := IntWalk.i64_in _ (by omega)
  go_wp2_with fail
  go_loopw [18, 19] (fun mm ix wr => ∃ k : Nat, k ≤ X.msgs.length ∧ ix = .int .i64 (k : Int) ∧ mm = .int .i64 (7 + 2 * (X.incs.length : Int) + (sizeL (X.msgs.take k) : Int)) ∧ Below w5.heap.size w5 wr) (fun _ ix _ => X.msgs.length - (intOf ix).toNat)
  case atStart => exact ⟨0, by omega, rfl, by simp [sizeL], Below.refl _ _⟩
  case round =>
    clear y0 y1 y2 y3 y4
    obtain ⟨k, hk, rfl, rfl, hbr⟩ := hrel
    have HBR := Lib.hid hbr; clear hbr
    have HSR := Lib.hid (HS5.out.on HBR.out)
    obtain ⟨y0, y1, y2, y3, y4⟩ := HSR.out.ent.cells
    by_cases hlt : k < X.msgs.length
    · have hkI : (k : Int) < (X.msgs.length : Int) := by omega
      obtain ⟨m, hm⟩ : ∃ m, X.msgs[k]? = some m := ⟨_, List.getElem?_eq_getElem hlt⟩
      have hq1 := sizeL_take hm
      have hq2 := hsl (k + 1)
      obtain ⟨ad, rfl, hadb, hcc⟩ := HSR.out.msgs (by omega)
      obtain ⟨-, -, -, -, -, -, x6⟩ := hcc k m hm
      have HQ := Lib.hid hq1
      clear hcc hm hq1
      have hkw : IntKind.i64.wrap ((k : Int) + 1) = (k : Int) + 1 := IntWalk.i64_in _ (by omega)
      have hb1 := HQ.out
      generalize hS : sizeL (X.msgs.take k) = SK at *
      generalize hS' : sizeL (X.msgs.take (k + 1)) = SK' at *
      have v1 : IntKind.i64.wrap (7 + 2 * (X.incs.length : Int) + (SK : Int) + 12) = 7 + 2 * (X.incs.length : Int) + (SK : Int) + 12 := IntWalk.i64_in _ (by omega)
      have v2 : IntKind.i64.wrap (7 + 2 * (X.incs.length : Int) + (SK : Int) + 12 + (m.data.size : Int)) = 7 + 2 * (X.incs.length : Int) + (SK : Int) + 12 + (m.data.size : Int) := IntWalk.i64_in _ (by omega)
      have HS' := Lib.hid hS'
      have HQ2 := Lib.hid hq2
      clear hb1 hS hS' hq2
      go_wp2_with fail
      go_roundw
      case rel => exact ⟨k + 1, by omega, by go_num, by rw [HS'.out, HQ.out]; congr 1; push_cast; omega, HBR.out⟩
      case measure => simp [intOf]; omega
    · have hkI : ¬ (k : Int) < (X.msgs.length : Int) := by omega
      have ek : k = X.msgs.length := by omega
      subst ek
      rw [List.take_length]
      have HTR := Lib.hid (HT5.out.on HBR.out)
      obtain ⟨z0, z1, z2, z3, z4⟩ := HTR.out.ent.cells
      have hz : (TX.size : Int) = 7 + 2 * (X.incs.length : Int) + (sizeL X.msgs : Int) := by rw [HSZ.out]; push_cast; omega
      rw [← hz]
      have hsm := HSM.out
      clear hz hlt
      go_wp2_with fail
      refine (CS.out _ _ _ _ _ _ _ _ _ HSR.out.row HSR.out.msgs HTR.out.row HTR.out.msgs).mono ?_; rintro e w6 ⟨rfl, b6⟩
      go_wp2_with fail
      go_ret
      exact ⟨rfl, HB5.out.trans ((HBR.out.trans (b6.mono HBR.out.size)).mono HB5.out.size)⟩

end Go.Proofs.YtlgaogghoehalaaDoor

namespace Go.Proofs.YtlgaogghoehalaaDoor.entryLengths
open Go Go.ChangeShapes Go.WideShapes Go.ChangeAt Go.RowKit Go.Joins
open Go.ChangeMaps (open_string shut_string)
set_option linter.unusedVariables false

set_option maxRecDepth 100000 in
theorem lifted (os : Os) (started : os.Started) (H : Type) (enc : TypeId × Value → H) :
    ReturnsInHanded {} Tryd.checked os 6 .any (fun w args => (Rows.entryLengthsSpec.pre enc Tryd.prog Tryd.f6 [] false w args ∧ laidMetH Tryd.prog Rows.entryLengthsRow.laid w) ∧ sizedMet enc Tryd.prog Tryd.f6 (OpenSpec.ofChange Rows.entryLengthsSpec) false w args) (Rows.entryLengthsSpec.post enc Tryd.prog Tryd.f6 false true false false) := by
  refine returnsInHanded_of_change_and (C := Tryd.checked) (X := fun w _ => laidMetH Tryd.prog Rows.entryLengthsRow.laid w) (fun _ _ _ hh h => h.of_heap hh) own started (by kernel_rfl) Tryd.func6
    (ChangeSpec.witness_shaped (enc := enc) (C := Tryd.checked) (os := os) (X := fun w _ => laidMetH Tryd.prog Rows.entryLengthsRow.laid w) false (World.doorLaid Tryd.prog 400 os) #[.agg #[.int .i64 0, .int .i64 0, .int .i64 0], .agg #[.int .i64 0, .int .i64 0, .int .i64 0], .slice none 0 0, .slice none 0 0, .slice none 0 0] 8 rfl (World.shaped_of_RefB (by kernel_rfl) (by kernel_rfl)) (by kernel_rfl) (by kernel_rfl) (by kernel_rfl) (door_met os _)) ?_
  intro W base args ds gs before hval0 hW hcnd hsz0 hL _
  have hsz : (DataW.weightsEach Tryd.prog (Tryd.f6.params.toList ++ Rows.entryLengthsSpec.plain.varTypes Tryd.prog) (ds ++ gs)).all (· ≤ reachBytes) = true := hsz0
  have hval : ∀ (j : Nat) t v, Tryd.f6.params[j]? = some t → args[j]? = some v → Value.okWide Tryd.prog W .any base t v := hval0
  have L := laid_of hL
  have hW' := hW
  obtain ⟨p, q, hA0, hV, rfl, hfz, hnd⟩ := hW
  have hA : DataW.TrodAll enc Tryd.prog W 0 (fun _ => true) true Tryd.f6.params.toList args.toList ds p := hA0
  rw [Tryd.params6] at hA hval hsz
  obtain ⟨v0, vs0, d0, ds0, p0, q0, hargs, rfl, rfl, h0, r0⟩ := trodAll_cons hA
  obtain ⟨v1, vs1, d1, ds1, p1, q1, rfl, rfl, rfl, h1, r1⟩ := trodAll_cons r0
  obtain ⟨v2, vs2, d2, ds2, p2, q2, rfl, rfl, rfl, h2, r2⟩ := trodAll_cons r1
  obtain ⟨v3, vs3, d3, ds3, p3, q3, rfl, rfl, rfl, h3, r3⟩ := trodAll_cons r2
  obtain ⟨v4, vs4, d4, ds4, p4, q4, rfl, rfl, rfl, h4, r4⟩ := trodAll_cons r3
  obtain ⟨rfl, rfl, rfl⟩ := trodAll_nil r4
  obtain rfl : args = #[v0, v1, v2, v3, v4] := by cases args; simp_all
  obtain ⟨rfl, rfl⟩ := trodVars_none hV
  obtain ⟨a0, rfl, rfl, rfl, w0⟩ := open_three (hval 0 22 v0 rfl rfl) h0
  obtain ⟨a1, rfl, rfl, rfl, w1⟩ := open_three (hval 1 22 v1 rfl rfl) h1
  have hlt2 : ∀ x ∈ p2, x.block < W.heap.size := fun x hx => hW'.lt x (by simp [hx])
  have h2k := h2
  obtain ⟨A2, c2, l2, rfl, f2⟩ := open_incs (okWide_slice Tryd.underlying23 (hval 2 23 v2 rfl rfl)) h2
  have hlt3 : ∀ x ∈ p3, x.block < W.heap.size := fun x hx => hW'.lt x (by simp [hx])
  have h3k := h3
  obtain ⟨A3, c3, l3, rfl, f3⟩ := open_rows (okWide_slice Tryd.underlying24 (hval 3 24 v3 rfl rfl)) h3
  have hlt4 : ∀ x ∈ p4, x.block < W.heap.size := fun x hx => hW'.lt x (by simp [hx])
  have h4k := h4
  obtain ⟨A4, c4, l4, rfl, f4⟩ := open_rows (okWide_slice Tryd.underlying24 (hval 4 24 v4 rfl rfl)) h4
  clear hA0 hval0
  refine (entryLengths_walk a0.n0 a0.n1 a0.n2 a1.n0 a1.n1 a1.n2 A2 c2 l2 A3 c3 l3 A4 c4 l4 w0.1 w0.2.1 w0.2.2 w1.1 w1.2.1 w1.2.2 W L f2 f3 f4).mono fun e W' ⟨he, bel⟩ => ?_
  subst he
  exact ⟨_, rfl, _, _, _, [], _, [], hW', trodAll_mk1 (shut_bool Tryd.underlying4 _), (trodAll_cons_mk (shut_three w0) (trodAll_cons_mk (shut_three w1) (trodAll_cons_mk (Below.trod laidOut (by kernel_rfl) (of_decide_eq_true (by kernel_rfl)) h2k bel hlt2) (trodAll_cons_mk (Below.trod laidOut (by kernel_rfl) (of_decide_eq_true (by kernel_rfl)) h3k bel hlt3) (trodAll_cons_mk (Below.trod laidOut (by kernel_rfl) (of_decide_eq_true (by kernel_rfl)) h4k bel hlt4) trodAll_mk0))))), rfl, bel.frame _, fun h => by cases h⟩

theorem over : Rows.EntryLengthsSaid :=
  OpenClaim.holds_of_wide 6 Tryd.f6 rfl rfl rfl rfl rfl rfl rfl ⟨rfl, rfl, rfl, rfl, rfl⟩ rfl rfl rfl rfl rfl (by kernel_rfl) Tryd.func6 (by kernel_rfl)
    (of_decide_eq_true (by kernel_rfl)) (by unfold Func.isWrapper; first | (rw [if_pos (by decide +kernel)]; kernel_rfl) | (rw [if_neg (by decide +kernel)]; exact ⟨rfl, rfl⟩))
    (fun os started H enc _ => lifted os started H enc)

theorem proved : Rows.EntryLengthsCardSaid :=
  Claim7.holds_tied_plain_at .later [] [.data] true Rows.entryLengthsCard.stood.harness false
    over (fun _ h => by cases h) (by kernel_rfl) (fun _ h => by cases h) entryLengths_row_tie rfl ⟨rfl, rfl⟩ (by kernel_rfl) rfl
    (fun f fn hf hfn => by
      obtain rfl : f = 6 := Option.some.inj ((show Tryd.prog.funcNamed "omnibus/omnibuslaw06.EntryLengths" = some 6 by kernel_rfl).symm.trans hf) |>.symm
      obtain rfl : fn = Tryd.f6 := (Option.some.inj (Tryd.func6.symm.trans hfn)).symm
      exact ⟨by kernel_rfl, fun j t ht => by
        rw [Tryd.params6] at ht
        have hm : t ∈ [22, 22, 23, 24, 24] := by simpa using Array.mem_of_getElem? ht
        have hall : ([22, 22, 23, 24, 24].all fun u => !Tryd.prog.wantsStandIn u) = true := by kernel_rfl
        exact (show Tryd.prog.wantsStandIn t = false by simpa using List.all_eq_true.1 hall t hm)⟩)
    (by kernel_rfl)
#print axioms proved
end Go.Proofs.YtlgaogghoehalaaDoor.entryLengths

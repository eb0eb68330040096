/-
  The law EntryMembers, walked. The card of the statement 'EntryMembers': whatever the input, the law's function returns true, and the input reads behind it as it did ahead of it; the one package-level variable that it reads is tied to the program's text. No condition but the row's own.
-/
import Derived.Test.YtlgaogghoehalaaDoorEntC
import Derived.Test.YtlgaogghoehalaaDoorRows
import Derived.Test.YtlgaogghoehalaaDoorTie
import Derived.Test.YtlgaogghoehalaaDoorCards
import Derived.SevenTiedAt

namespace Go.Proofs.YtlgaogghoehalaaDoor
open Go.RowKit

theorem cb_node_hit {v : Int} {k : Nat} (hk : 1 ≤ k) (h : V.hasB v ((k : Int) - 1) = true) : V.cb (V.md v) (min k 16) = V.cb (V.md v) (min (k - 1) 16) + 1 := by
  obtain ⟨h0, h1⟩ := hasB_range h
  have e : (k : Int) - 1 = ((k - 1 : Nat) : Int) := by omega
  rw [e] at h
  have := V.cb_nat_hit v (k - 1) h (by omega)
  rw [show min k 16 = k - 1 + 1 by omega, show min (k - 1) 16 = k - 1 by omega, this]
theorem cb_node_miss {v : Int} {k : Nat} (h : V.hasB v ((k : Int) - 1) = false) : V.cb (V.md v) (min k 16) = V.cb (V.md v) (min (k - 1) 16) := by
  rcases (show k = 0 ∨ 17 ≤ k ∨ (1 ≤ k ∧ k ≤ 16) by omega) with hk | hk | hk
  · subst hk; rfl
  · rw [show min k 16 = 16 by omega, show min (k - 1) 16 = 16 by omega]
  · have e : (k : Int) - 1 = ((k - 1 : Nat) : Int) := by omega
    rw [e] at h
    have := V.cb_nat_miss v (k - 1) h (by omega)
    rw [show min k 16 = k - 1 + 1 by omega, show min (k - 1) 16 = k - 1 by omega, this]

set_option maxRecDepth 100000 in
set_option maxHeartbeats 8000000 in
theorem entryMembers_walk (n0 n1 n2 : Int) (A : Option Addr) (c : Nat) (incs : List Int) (A' : Option Addr) (c' : Nat) (raw : List Raw) (k0 : (Lit.int .i64 n0).wf = true) (k1 : (Lit.int .i64 n1).wf = true) (k2 : (Lit.int .i64 n2).wf = true) (w : World) (L : Laid w) (f1 : IncsOk w A c incs) (f2 : RowsOk w A' c' raw) :
    Calls Tryd.prog 5 #[.agg #[.int .i64 n0, .int .i64 n1, .int .i64 n2], .slice A incs.length c, .slice A' raw.length c'] w fun e w' => e = .returned (.bool true) ∧ Below w.heap.size w w' := by
  obtain ⟨X, hX⟩ : ∃ X, entV n0 n1 n2 incs raw = X := ⟨_, rfl⟩
  have hR : rightE X = true := hX ▸ entV_right n0 n1 n2 incs raw
  have hi := Inp.of f1 f2
  have cE := fun W (h : Inp W A incs A' raw) => rawS_any k0 k1 k2 c c' hX W h
  have cA := fun W L => awake_any W L
  obtain ⟨li, lm, ld⟩ := right_lens hR
  have hcnt := ((rightE_iff X).1 hR).2.2.2.2.1
  have hmem := (memU_senders ((rightE_iff X).1 hR).2.2.2.2.2.2.2).2
  have hil := rightE_incs hR
  have hml := rightE_msgs hR
  have b0 := Joins.below_alloc1 w (.cells #[.int .i64 n0, .int .i64 n1, .int .i64 n2] 22)
  have a0 := At3.new w n0 n1 n2
  have CE := Lib.hid cE; clear cE hX k0 k1 k2 f1 f2
  go_enter Tryd.func5, Tryd.ntmps5
  go_wp2_with fail
  refine (cA _ (L.below b0)).mono ?_; rintro e w1 ⟨rfl, b1⟩
  have HB1 := Lib.hid (b0.trans (b1.mono b0.size))
  have HI1 := Lib.hid (hi.on HB1.out)
  have HA1 := Lib.hid (a0.on b1)
  clear b0 b1 a0 hi cA
  obtain ⟨q0, q1, q2⟩ := HA1.out.cells
  go_wp2_with fail
  refine (CE.out _ HI1.out).mono ?_; rintro e w2 ⟨A1, c1, A2, c2, rfl, r1, m1, b2, -⟩
  have hs := Sits.new (c := c1) (c' := c2) r1 m1
  have hb := HB1.out.trans ((b2.trans ((Joins.below_alloc1 w2 (.cells #[.int .i64 X.t, .int .i64 X.ep, .int .i64 X.mem, .slice A1 X.incs.length c1, .slice A2 X.msgs.length c2] 27)).mono b2.size)).mono HB1.out.size)
  have HS := Lib.hid hs
  have HB := Lib.hid hb
  clear hs hb r1 m1 b2 q0 q1 q2 CE HI1 HA1 HB1
  go_wp2_with fail
  generalize w2.alloc (.cells #[.int .i64 X.t, .int .i64 X.ep, .int .i64 X.mem, .slice A1 X.incs.length c1, .slice A2 X.msgs.length c2] 27) = W2 at *
  generalize w2.heap.size = bx at *
  go_loopw [9, 10, 11, 12] (fun mm ix _ _ wr => ∃ k : Nat, k ≤ 18 ∧ ix = .int .i64 ((k : Int) - 1) ∧ mm = .int .i64 ((V.cb (V.md X.mem) (min (k - 1) 16) : Nat) : Int) ∧ Below W2.heap.size W2 wr) (fun _ ix _ _ _ => 18 - (intOf ix + 1).toNat)
  case atStart => exact ⟨0, by omega, rfl, rfl, Below.refl _ _⟩
  case round =>
    obtain ⟨k, hk, rfl, rfl, hbr⟩ := hrel
    have HBR := Lib.hid hbr; clear hbr
    have HSR := Lib.hid (HS.out.on HBR.out)
    by_cases hlt : k < 18
    · have hI : (k : Int) - 1 < 17 := by omega
      have hN : Hid ((k : Int) - 1 + 1 = ((k + 1 : Nat) : Int) - 1) := Lib.hid (by omega)
      have hN0 : Hid (0 ≤ (k : Int)) := Lib.hid (by omega)
      have hN1 : Hid ((k : Int) - 1 + 1 < 20) := Lib.hid (by omega)
      have cI := fun W (h : V.Row W W.heap.size A1 X.incs) => incP_any X.t X.ep X.mem ((k : Int) - 1) A1 c1 X.incs (.slice A2 X.msgs.length c2) W h li
      have cH := fun W => V.refHas_any X.mem ((k : Int) - 1) W
      cases hh : V.hasB X.mem ((k : Int) - 1)
      · rw [incE_no (isE_no_node hh), isE_no_node hh] at cI
        rw [hh] at cH
        have hM := Lib.hid (cb_node_miss hh)
        clear hh
        generalize V.cb (V.md X.mem) (min (k - 1) 16) = mm at *
        generalize (k : Int) - 1 = kk at *
        have hw : IntKind.i64.wrap (kk + 1) = kk + 1 := IntWalk.i64_in _ (by have := hN.out; have := hN1.out; omega)
        obtain ⟨y0, y1, y2, y3, y4⟩ := HSR.out.ent.cells
        go_wp2_with fail
        refine (cI _ HSR.out.row).mono ?_; rintro e w3 ⟨rfl, b3⟩
        have HS3 := Lib.hid (HSR.out.on b3)
        have HB3 := Lib.hid (HBR.out.trans (b3.mono HBR.out.size))
        clear b3 y0 y1 y2 y3 y4
        obtain ⟨y0, y1, y2, y3, y4⟩ := HS3.out.ent.cells
        go_wp2_with fail
        refine (cH _).mono ?_; rintro e w4 ⟨rfl, rfl⟩
        go_wp2_with fail
        go_roundw
        case rel => exact ⟨k + 1, by omega, by rw [hN.out], by rw [show k + 1 - 1 = k by omega, hM.out], HB3.out⟩
        case measure => simp [intOf]; have := hN.out; omega
      · obtain ⟨g0, g1⟩ := hasB_range hh
        have h1 : 1 ≤ k := by omega
        obtain ⟨hlt2, hat⟩ := incE_yes hh hcnt
        rw [isE_yes hh hcnt] at cI
        rw [hh] at cH
        have hM := Lib.hid (cb_node_hit h1 hh)
        rw [show ((k : Int) - 1).toNat = min (k - 1) 16 by omega] at hlt2 hat
        clear hh
        generalize incE X.mem X.incs ((k : Int) - 1) = IV at *
        generalize V.cb (V.md X.mem) (min (k - 1) 16) = mm at *
        generalize (k : Int) - 1 = kk at *
        have hw : IntKind.i64.wrap (kk + 1) = kk + 1 := IntWalk.i64_in _ (by have := hN.out; have := hN1.out; omega)
        have hmi : (mm : Int) < (X.incs.length : Int) := by omega
        have hm0 : (0 : Int) ≤ (mm : Int) := by omega
        have hwm : IntKind.i64.wrap ((mm : Int) + 1) = (mm : Int) + 1 := IntWalk.i64_in _ (by omega)
        obtain ⟨ad, rfl, hadb, hcc⟩ := HSR.out.row (by omega)
        have hc0 := hcc mm IV hat
        clear hcc hat
        obtain ⟨y0, y1, y2, y3, y4⟩ := HSR.out.ent.cells
        go_wp2_with fail
        refine (cI _ HSR.out.row).mono ?_; rintro e w3 ⟨rfl, b3⟩
        have HS3 := Lib.hid (HSR.out.on b3)
        have HB3 := Lib.hid (HBR.out.trans (b3.mono HBR.out.size))
        have hc3 := (b3.cell (p := ad.add mm) (by rw [V.adb]; exact hadb)).trans hc0
        clear b3 y0 y1 y2 y3 y4 hc0
        obtain ⟨y0, y1, y2, y3, y4⟩ := HS3.out.ent.cells
        go_wp2_with fail
        refine (cH _).mono ?_; rintro e w4 ⟨rfl, rfl⟩
        go_wp2_with fail
        go_roundw
        case rel => exact ⟨k + 1, by omega, by rw [hN.out], by rw [show k + 1 - 1 = k by omega, hM.out]; rfl, HB3.out⟩
        case measure => simp [intOf]; have := hN.out; omega
    · have hI : ¬ (k : Int) - 1 < 17 := by omega
      have ek : k = 18 := by omega
      subst ek
      have hmany : ((V.cb (V.md X.mem) (min (18 - 1) 16) : Nat) : Int) = (X.incs.length : Int) := hcnt.symm
      rw [hmany, show ((18 : Nat) : Int) - 1 = 17 from rfl]
      clear hmany hI hlt hcnt
      go_wp2_with fail
      go_loopw [13, 14, 15] (fun ix _ _ wz => ∃ j : Nat, j ≤ X.msgs.length ∧ ix = .int .i64 j ∧ Below W2.heap.size W2 wz) (fun ix _ _ _ => X.msgs.length - (intOf ix).toNat)
      case atStart => exact ⟨0, by omega, rfl, HBR.out⟩
      case round =>
        clear HBR HSR
        obtain ⟨j, hj, rfl, hbr⟩ := hrel
        have HBR := Lib.hid hbr; clear hbr
        have HSR := Lib.hid (HS.out.on HBR.out)
        obtain ⟨y0, y1, y2, y3, y4⟩ := HSR.out.ent.cells
        by_cases hlt : j < X.msgs.length
        · have hjI : (j : Int) < (X.msgs.length : Int) := by omega
          obtain ⟨m, hm⟩ : ∃ m, X.msgs[j]? = some m := ⟨_, List.getElem?_eq_getElem hlt⟩
          obtain ⟨e1, e2⟩ := hmem m (List.mem_of_getElem? hm)
          have cI := fun W (h : V.Row W W.heap.size A1 X.incs) => incP_any X.t X.ep X.mem m.sender A1 c1 X.incs (.slice A2 X.msgs.length c2) W h li
          rw [e1, ← e2] at cI
          obtain ⟨ad, rfl, hadb, hcc⟩ := HSR.out.msgs (by omega)
          have HM := Lib.hid (hcc j m hm)
          clear hcc e1 e2 hm
          have hjw : IntKind.i64.wrap ((j : Int) + 1) = (j : Int) + 1 := IntWalk.i64_in _ (by omega)
          go_wp2_with fail
          clear y0 y1 y2 y3 y4
          have HST : Hid (∀ w', Below wr.heap.size wr w' → (((w'.cell? ⟨bx, 0, none⟩ = some (.int .i64 X.t) ∧ w'.cell? ⟨bx, 1, none⟩ = some (.int .i64 X.ep) ∧ w'.cell? ⟨bx, 2, none⟩ = some (.int .i64 X.mem) ∧ w'.cell? ⟨bx, 3, none⟩ = some (.slice A1 X.incs.length c1) ∧ w'.cell? ⟨bx, 4, none⟩ = some (.slice (some ad) X.msgs.length c2)) ∧ w'.cell? ⟨(ad.add (j * 7)).block, (ad.add (j * 7)).off + 2, none⟩ = some (.int .i64 m.sender)) ∧ Below wr.heap.size wr w')) := Lib.hid fun w' hb => ⟨⟨(HSR.out.on hb).ent.cells, (HM.out.keep fun q hq => hb.cell (by rw [hq, adb]; exact hadb)).2.2.1⟩, hb⟩
          have HST2 : Hid (∀ w' w'', (((w'.cell? ⟨bx, 0, none⟩ = some (.int .i64 X.t) ∧ w'.cell? ⟨bx, 1, none⟩ = some (.int .i64 X.ep) ∧ w'.cell? ⟨bx, 2, none⟩ = some (.int .i64 X.mem) ∧ w'.cell? ⟨bx, 3, none⟩ = some (.slice A1 X.incs.length c1) ∧ w'.cell? ⟨bx, 4, none⟩ = some (.slice (some ad) X.msgs.length c2)) ∧ w'.cell? ⟨(ad.add (j * 7)).block, (ad.add (j * 7)).off + 2, none⟩ = some (.int .i64 m.sender)) ∧ Below wr.heap.size wr w') → Below w'.heap.size w' w'' → (((w''.cell? ⟨bx, 0, none⟩ = some (.int .i64 X.t) ∧ w''.cell? ⟨bx, 1, none⟩ = some (.int .i64 X.ep) ∧ w''.cell? ⟨bx, 2, none⟩ = some (.int .i64 X.mem) ∧ w''.cell? ⟨bx, 3, none⟩ = some (.slice A1 X.incs.length c1) ∧ w''.cell? ⟨bx, 4, none⟩ = some (.slice (some ad) X.msgs.length c2)) ∧ w''.cell? ⟨(ad.add (j * 7)).block, (ad.add (j * 7)).off + 2, none⟩ = some (.int .i64 m.sender)) ∧ Below wr.heap.size wr w'')) := Lib.hid fun w' w'' h hb => HST.out w'' (below_trans h.2 hb)
          go_region_held3 (fun w' => ((w'.cell? ⟨bx, 0, none⟩ = some (.int .i64 X.t) ∧ w'.cell? ⟨bx, 1, none⟩ = some (.int .i64 X.ep) ∧ w'.cell? ⟨bx, 2, none⟩ = some (.int .i64 X.mem) ∧ w'.cell? ⟨bx, 3, none⟩ = some (.slice A1 X.incs.length c1) ∧ w'.cell? ⟨bx, 4, none⟩ = some (.slice (some ad) X.msgs.length c2)) ∧ w'.cell? ⟨(ad.add (j * 7)).block, (ad.add (j * 7)).off + 2, none⟩ = some (.int .i64 m.sender)) ∧ Below wr.heap.size wr w') (first | assumption | exact HST.out _ (Below.refl _ _).drew | exact HST2.out _ _ (by assumption) (by assumption)) (first | (go_at_call 15; refine (cI _ ((HSR.out.on (by first | assumption | exact (Below.refl _ _).drew)).row)).mono ?_; rintro e w5 ⟨rfl, b5⟩))
          have HB5 := Lib.hid (HBR.out.trans ((((Below.refl wr.heap.size wr).drew).trans b5).mono HBR.out.size))
          have HS5 := Lib.hid (HS.out.on HB5.out)
          have hs2 := ((HM.out.keep (w' := w5) fun q hq => (((Below.refl wr.heap.size wr).drew).trans b5).cell (by rw [hq, adb]; exact hadb)).2.2.2.1)
          clear b5 HST HST2
          obtain ⟨y0, y1, y2, y3, y4⟩ := HS5.out.ent.cells
          go_wp2_with fail
          go_roundw
          case rel => exact ⟨j + 1, by omega, by go_num, HB5.out⟩
          case measure => simp [intOf]; omega
        · have hjI : ¬ (j : Int) < (X.msgs.length : Int) := by omega
          have cR := rightEP_any X A1 c1 A2 c2 wr (L.below (HB.out.trans (HBR.out.mono HB.out.size))) HSR.out.row HSR.out.msgs li lm ld
          rw [hR] at cR
          go_wp2_with fail
          refine cR.mono ?_; rintro e w6 ⟨rfl, b6⟩
          go_wp2_with fail
          go_ret
          exact ⟨rfl, HB.out.trans ((HBR.out.trans (b6.mono HBR.out.size)).mono HB.out.size)⟩

end Go.Proofs.YtlgaogghoehalaaDoor

namespace Go.Proofs.YtlgaogghoehalaaDoor.entryMembers
open Go Go.ChangeShapes Go.WideShapes Go.ChangeAt Go.RowKit Go.Joins
open Go.ChangeMaps (open_string shut_string)
set_option linter.unusedVariables false

set_option maxRecDepth 100000 in
theorem lifted (os : Os) (started : os.Started) (H : Type) (enc : TypeId × Value → H) :
    ReturnsInHanded {} Tryd.checked os 5 .any (fun w args => (Rows.entryMembersSpec.pre enc Tryd.prog Tryd.f5 [] false w args ∧ laidMetH Tryd.prog Rows.entryMembersRow.laid w) ∧ sizedMet enc Tryd.prog Tryd.f5 (OpenSpec.ofChange Rows.entryMembersSpec) false w args) (Rows.entryMembersSpec.post enc Tryd.prog Tryd.f5 false true false false) := by
  refine returnsInHanded_of_change_and (C := Tryd.checked) (X := fun w _ => laidMetH Tryd.prog Rows.entryMembersRow.laid w) (fun _ _ _ hh h => h.of_heap hh) own started (by kernel_rfl) Tryd.func5
    (ChangeSpec.witness_shaped (enc := enc) (C := Tryd.checked) (os := os) (X := fun w _ => laidMetH Tryd.prog Rows.entryMembersRow.laid w) false (World.doorLaid Tryd.prog 400 os) #[.agg #[.int .i64 0, .int .i64 0, .int .i64 0], .slice none 0 0, .slice none 0 0] 8 rfl (World.shaped_of_RefB (by kernel_rfl) (by kernel_rfl)) (by kernel_rfl) (by kernel_rfl) (by kernel_rfl) (door_met os _)) ?_
  intro W base args ds gs before hval0 hW hcnd hsz0 hL _
  have hsz : (DataW.weightsEach Tryd.prog (Tryd.f5.params.toList ++ Rows.entryMembersSpec.plain.varTypes Tryd.prog) (ds ++ gs)).all (· ≤ reachBytes) = true := hsz0
  have hval : ∀ (j : Nat) t v, Tryd.f5.params[j]? = some t → args[j]? = some v → Value.okWide Tryd.prog W .any base t v := hval0
  have L := laid_of hL
  have hW' := hW
  obtain ⟨p, q, hA0, hV, rfl, hfz, hnd⟩ := hW
  have hA : DataW.TrodAll enc Tryd.prog W 0 (fun _ => true) true Tryd.f5.params.toList args.toList ds p := hA0
  rw [Tryd.params5] at hA hval hsz
  obtain ⟨v0, vs0, d0, ds0, p0, q0, hargs, rfl, rfl, h0, r0⟩ := trodAll_cons hA
  obtain ⟨v1, vs1, d1, ds1, p1, q1, rfl, rfl, rfl, h1, r1⟩ := trodAll_cons r0
  obtain ⟨v2, vs2, d2, ds2, p2, q2, rfl, rfl, rfl, h2, r2⟩ := trodAll_cons r1
  obtain ⟨rfl, rfl, rfl⟩ := trodAll_nil r2
  obtain rfl : args = #[v0, v1, v2] := by cases args; simp_all
  obtain ⟨rfl, rfl⟩ := trodVars_none hV
  obtain ⟨a0, rfl, rfl, rfl, w0⟩ := open_three (hval 0 22 v0 rfl rfl) h0
  have hlt1 : ∀ x ∈ p1, x.block < W.heap.size := fun x hx => hW'.lt x (by simp [hx])
  have h1k := h1
  obtain ⟨A1, c1, l1, rfl, f1⟩ := open_incs (okWide_slice Tryd.underlying23 (hval 1 23 v1 rfl rfl)) h1
  have hlt2 : ∀ x ∈ p2, x.block < W.heap.size := fun x hx => hW'.lt x (by simp [hx])
  have h2k := h2
  obtain ⟨A2, c2, l2, rfl, f2⟩ := open_rows (okWide_slice Tryd.underlying24 (hval 2 24 v2 rfl rfl)) h2
  clear hA0 hval0
  refine (entryMembers_walk a0.n0 a0.n1 a0.n2 A1 c1 l1 A2 c2 l2 w0.1 w0.2.1 w0.2.2 W L f1 f2).mono fun e W' ⟨he, bel⟩ => ?_
  subst he
  exact ⟨_, rfl, _, _, _, [], _, [], hW', trodAll_mk1 (shut_bool Tryd.underlying4 _), (trodAll_cons_mk (shut_three w0) (trodAll_cons_mk (Below.trod laidOut (by kernel_rfl) (of_decide_eq_true (by kernel_rfl)) h1k bel hlt1) (trodAll_cons_mk (Below.trod laidOut (by kernel_rfl) (of_decide_eq_true (by kernel_rfl)) h2k bel hlt2) trodAll_mk0))), rfl, bel.frame _, fun h => by cases h⟩

theorem over : Rows.EntryMembersSaid :=
  OpenClaim.holds_of_wide 5 Tryd.f5 rfl rfl rfl rfl rfl rfl rfl ⟨rfl, rfl, rfl, rfl, rfl⟩ rfl rfl rfl rfl rfl (by kernel_rfl) Tryd.func5 (by kernel_rfl)
    (of_decide_eq_true (by kernel_rfl)) (by unfold Func.isWrapper; first | (rw [if_pos (by decide +kernel)]; kernel_rfl) | (rw [if_neg (by decide +kernel)]; exact ⟨rfl, rfl⟩))
    (fun os started H enc _ => lifted os started H enc)

theorem proved : Rows.EntryMembersCardSaid :=
  Claim7.holds_tied_plain_at .later [] [.data] true Rows.entryMembersCard.stood.harness false
    over (fun _ h => by cases h) (by kernel_rfl) (fun _ h => by cases h) entryMembers_row_tie rfl ⟨rfl, rfl⟩ (by kernel_rfl) rfl
    (fun f fn hf hfn => by
      obtain rfl : f = 5 := Option.some.inj ((show Tryd.prog.funcNamed "omnibus/omnibuslaw06.EntryMembers" = some 5 by kernel_rfl).symm.trans hf) |>.symm
      obtain rfl : fn = Tryd.f5 := (Option.some.inj (Tryd.func5.symm.trans hfn)).symm
      exact ⟨by kernel_rfl, fun j t ht => by
        rw [Tryd.params5] at ht
        have hm : t ∈ [22, 23, 24] := by simpa using Array.mem_of_getElem? ht
        have hall : ([22, 23, 24].all fun u => !Tryd.prog.wantsStandIn u) = true := by kernel_rfl
        exact (show Tryd.prog.wantsStandIn t = false by simpa using List.all_eq_true.1 hall t hm)⟩)
    (by kernel_rfl)
#print axioms proved
end Go.Proofs.YtlgaogghoehalaaDoor.entryMembers

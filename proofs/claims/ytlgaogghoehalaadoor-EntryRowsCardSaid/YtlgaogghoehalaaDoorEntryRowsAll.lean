/-
  The law EntryRows, walked. The card of the statement 'EntryRows': whatever the input, the law's function returns true, and the input reads behind it as it did ahead of it; the one package-level variable that it reads is tied to the program's text. No condition but the row's own.
-/
import Derived.Test.YtlgaogghoehalaaDoorEntC
import Derived.Test.YtlgaogghoehalaaDoorRows
import Derived.Test.YtlgaogghoehalaaDoorTie
import Derived.Test.YtlgaogghoehalaaDoorCards
import Derived.Deep.DeepCutAuto
import Derived.SevenTiedAt

namespace Go.Proofs.YtlgaogghoehalaaDoor
open Go.RowKit

def entT (incs : List Int) (raw : List Raw) (t : Three) : Ent := entV t.n0 t.n1 t.n2 incs raw
/-- Entries' bytes, one behind the other. -/
def catE (es : List Ent) : List UInt8 := es.flatMap encEnt
theorem catE_take {es : List Ent} {k : Nat} {e : Ent} (h : es[k]? = some e) : catE (es.take (k + 1)) = catE (es.take k) ++ encEnt e := by
  obtain ⟨hk, he⟩ := List.getElem?_eq_some_iff.1 h
  unfold catE
  rw [List.take_succ_eq_append_getElem hk, he, List.flatMap_append]
  simp
theorem catE_drop {es : List Ent} {k : Nat} {e : Ent} (h : es[k]? = some e) : catE (es.drop k) = encEnt e ++ catE (es.drop (k + 1)) := by
  obtain ⟨hk, he⟩ := List.getElem?_eq_some_iff.1 h
  rw [List.drop_eq_getElem_cons hk, he]; rfl
theorem catE_length (es : List Ent) (h : ∀ e ∈ es, rightE e = true) : (catE es).length ≤ 359 * es.length := by
  induction es with
  | nil => simp [catE]
  | cons e es ih =>
    have h1 := encEnt_small (h e (by simp))
    have h3 := ih fun x hx => h x (by simp [hx])
    show (encEnt e ++ catE es).length ≤ 359 * (es.length + 1)
    rw [List.length_append]
    omega
theorem txt_apps (a b : List UInt8) : txt a ++ txt b = txt (a ++ b) := by apply ByteArray.ext; simp [txt]

set_option maxRecDepth 100000 in
set_option maxHeartbeats 8000000 in
theorem entryRows_walk (N : Option Addr) (nc : Nat) (ts : List Three) (A : Option Addr) (c : Nat) (incs : List Int) (A' : Option Addr) (c' : Nat) (raw : List Raw) (at' : Int) (ka : (Lit.int .i64 at').wf = true) (w : World) (L : Laid w) (f0 : ThreesOk w N nc ts) (f1 : IncsOk w A c incs) (f2 : RowsOk w A' c' raw) :
    Calls Tryd.prog 8 #[.slice N ts.length nc, .slice A incs.length c, .slice A' raw.length c', .int .i64 at'] w fun e w' => e = .returned (.bool true) ∧ Below w.heap.size w w' := by
  have hi := Inp.of f1 f2
  obtain ⟨hts, ⟨hlc, hcm⟩, hwf⟩ := f0
  unfold maxLen at hcm
  obtain ⟨es, hes⟩ : ∃ es, es = (ts.take 5).map (entT incs raw) := ⟨_, rfl⟩
  have hel : es.length = min ts.length 5 := by rw [hes, List.length_map, List.length_take, Nat.min_comm]
  have her : ∀ e ∈ es, rightE e = true := fun e he => by
    rw [hes] at he
    obtain ⟨t, _, rfl⟩ := List.mem_map.1 he
    exact entV_right _ _ _ _ _
  have hat : ∀ k, k < es.length → ∃ t, ts[k]? = some t ∧ Wf3 t ∧ es[k]? = some (entT incs raw t) := fun k hk => by
    obtain ⟨t, ht⟩ : ∃ t, ts[k]? = some t := ⟨_, List.getElem?_eq_getElem (by omega)⟩
    refine ⟨t, ht, hwf t (List.mem_of_getElem? ht), ?_⟩
    rw [hes, List.getElem?_map, List.getElem?_take_of_lt (by omega), ht]; rfl
  have cA := fun W L => awake_any W L
  have HI := Lib.hid hi; clear hi
  have HAT := Lib.hid hat; clear hat
  have HER := Lib.hid her; clear her
  have HTS := Lib.hid hts; clear hts
  have HL := Lib.hid L
  have KA := Lib.hid ka; clear ka
  clear hes hwf f1 f2
  have hmm : min (ts.length : Int) 5 = (es.length : Int) := by omega
  have hm5 : es.length ≤ 5 := by omega
  have hmt : es.length ≤ ts.length := by omega
  have HMM := Lib.hid hmm; clear hmm hel
  go_enter Tryd.func8, Tryd.ntmps8
  go_wp2_with fail
  refine (cA _ L).mono ?_; rintro e w1 ⟨rfl, b1⟩
  have HB1 := Lib.hid b1; clear b1 cA
  go_upto_region 2 with (fail)
  go_cut [10] (fun v wx => v = .int .i64 (es.length : Int) ∧ w1 = wx)
  case first =>
    go_wp2_with fail
    go_meet
    exact ⟨by rw [HMM.out], rfl⟩
  case rest =>
  obtain ⟨rfl, rfl⟩ := hcut
  go_wp2_with fail
  go_loopw [11, 12] (fun sv ix wr => ∃ k : Nat, k ≤ es.length ∧ ix = .int .i64 (k : Int) ∧ sv = .string (txt (catE (es.take k))) ∧ Below w1.heap.size w1 wr) (fun _ ix _ => es.length - (intOf ix).toNat)
  case atStart => exact ⟨0, by omega, rfl, rfl, Below.refl _ _⟩
  case round =>
    obtain ⟨k, hk, rfl, rfl, hbr⟩ := hrel
    have HBR := Lib.hid hbr; clear hbr
    have HBA := Lib.hid (HB1.out.trans (HBR.out.mono HB1.out.size))
    by_cases hlt : k < es.length
    · have hkI : (k : Int) < (es.length : Int) := by omega
      have hkT : (k : Int) < (ts.length : Int) := by omega
      have hk0 : (0 : Int) ≤ (k : Int) := by omega
      have hkw : IntKind.i64.wrap ((k : Int) + 1) = (k : Int) + 1 := IntWalk.i64_in _ (by omega)
      obtain ⟨t, ht, hw3, hek⟩ := HAT.out k hlt
      have hxr : rightE (entT incs raw t) = true := HER.out _ (List.mem_of_getElem? hek)
      have cE := fun W (h : Inp W A incs A' raw) => rawS_any hw3.1 hw3.2.1 hw3.2.2 c c' (show entV t.n0 t.n1 t.n2 incs raw = entT incs raw t from rfl) W h
      obtain ⟨li, lm, ld⟩ := right_lens hxr
      have cX := fun A c A' c' W L h h' => encEP_any (entT incs raw t) A c A' c' W L h h' li lm ld
      rw [encTE_right hxr, encEE_right hxr] at cX
      have hsum : txt (catE (es.take k)) ++ txt (encEnt (entT incs raw t)) = txt (catE (es.take (k + 1))) := by rw [catE_take hek, txt_apps]
      have hov : ¬ 9223372036854775807 < (txt (catE (es.take k))).size + (txt (encEnt (entT incs raw t))).size := by
        have h1 := catE_length (es.take k) (fun e he => HER.out e (List.mem_of_mem_take he))
        have h2 := encEnt_small hxr
        rw [List.length_take] at h1
        rw [txt_size, txt_size]; omega
      obtain ⟨ad, rfl, hadb, hcc⟩ := HTS.out (by omega)
      have h3 := hcc k t ht
      obtain ⟨q0, q1, q2⟩ := h3.keep (w' := wr) fun q hq => HBA.out.cell (by rw [hq, adb]; exact hadb)
      have CX := Lib.hid cX; clear cX
      have CE := Lib.hid cE; clear cE
      clear hcc ht h3 hek li lm ld hxr hw3
      generalize txt (encEnt (entT incs raw t)) = T at *
      generalize txt (catE (es.take k)) = S at *
      generalize hS' : txt (catE (es.take (k + 1))) = S' at *
      have HS' := Lib.hid hS'; clear hS'
      generalize entT incs raw t = X at *
      go_wp2_with fail
      refine (CE.out _ (HI.out.on HBA.out)).mono ?_; rintro e w2 ⟨A1, c1, A2, c2, rfl, r1, m1, b2, -⟩
      have HB2 := Lib.hid (HBR.out.trans (b2.mono HBR.out.size))
      clear q0 q1 q2 b2
      go_wp2_with fail
      refine (CX.out _ _ _ _ _ (HL.out.below (HB1.out.trans (HB2.out.mono HB1.out.size))) r1 m1).mono ?_; rintro e w3 ⟨rfl, b3⟩
      have HB3 := Lib.hid (HB2.out.trans (b3.mono HB2.out.size))
      clear b3 HB2 r1 m1
      go_wp2_with fail
      go_roundw
      case rel => exact ⟨k + 1, by omega, by go_num, by rw [HS'.out], HB3.out⟩
      case measure => simp [intOf]; omega
    · have ek : k = es.length := by omega
      subst ek
      have hkI : ¬ ((es.length : Int) < (es.length : Int)) := by omega
      rw [List.take_length]
      clear hlt HMM
      go_wp2_with fail
      go_loopw [11, 15] (fun sv ix wz => ∃ j : Nat, j ≤ es.length ∧ ix = .int .i64 (j : Int) ∧ sv = .string (txt (catE (es.drop j))) ∧ Below w1.heap.size w1 wz) (fun _ ix _ => es.length - (intOf ix).toNat)
      case atStart => exact ⟨0, by omega, rfl, rfl, HBR.out⟩
      case round =>
        clear HBR HBA hkI
        obtain ⟨j, hj, rfl, rfl, hbr⟩ := hrel
        have HBR := Lib.hid hbr; clear hbr
        have HBA := Lib.hid (HB1.out.trans (HBR.out.mono HB1.out.size))
        by_cases hlt : j < es.length
        · have hjI : (j : Int) < (es.length : Int) := by omega
          have hjT : (j : Int) < (ts.length : Int) := by omega
          have hj0 : (0 : Int) ≤ (j : Int) := by omega
          have hjw : IntKind.i64.wrap ((j : Int) + 1) = (j : Int) + 1 := IntWalk.i64_in _ (by omega)
          have hmw : IntKind.i64.wrap ((es.length : Int) - 1) = (es.length : Int) - 1 := IntWalk.i64_in _ (by omega)
          obtain ⟨t, ht, hw3, hek⟩ := HAT.out j hlt
          have hxr : rightE (entT incs raw t) = true := HER.out _ (List.mem_of_getElem? hek)
          have cE := fun W (h : Inp W A incs A' raw) => rawS_any hw3.1 hw3.2.1 hw3.2.2 c c' (show entV t.n0 t.n1 t.n2 incs raw = entT incs raw t from rfl) W h
          obtain ⟨li, lm, ld⟩ := right_lens hxr
          have hcd := catE_drop hek
          have hcl : (catE (es.drop j)).length ≤ 2000 := by
            have := catE_length (es.drop j) (fun e he => HER.out e (List.mem_of_mem_drop he))
            rw [List.length_drop] at this
            omega
          have cD : ∀ W, Laid W → Calls Tryd.prog 19 #[.string (txt (catE (es.drop j)))] W (DecSit (entT incs raw t) (catE (es.drop (j + 1))) 0 W) := fun W L => by
            refine (decEP_any (txt (catE (es.drop j))) (by rw [txt_size]; omega) W L).mono fun e w' h => ?_
            have := DecSit.of h
            rw [txt_data, hcd] at this
            obtain ⟨d1, d2, d3⟩ := dec_encE hxr (catE (es.drop (j + 1)))
            rwa [d1, d2, d3] at this
          have hcut : j + 1 = es.length → ∀ p, p < (txt (catE (es.drop j))).size → ∃ (Z : Ent) (rl : List UInt8), ∀ W, Laid W → Calls Tryd.prog 19 #[.string (txt ((catE (es.drop j)).take p))] W (DecSit Z rl 3 W) := fun hjk p hp => by
            refine ⟨decRE ((catE (es.drop j)).take p), decRestE ((catE (es.drop j)).take p), fun W L => ?_⟩
            refine (decEP_any (txt ((catE (es.drop j)).take p)) (by rw [txt_size, List.length_take]; omega) W L).mono fun e w' h => ?_
            have := DecSit.of h
            rw [txt_data] at this
            have h3 : decEE ((catE (es.drop j)).take p) = 3 := by
              have hnil : catE (es.drop (j + 1)) = [] := by rw [List.drop_of_length_le (by omega)]; rfl
              rw [hcd, hnil, List.append_nil] at hp ⊢
              rw [txt_size] at hp
              exact dec_cutE hxr p hp
            rwa [h3] at this
          have hlenI : 1 ≤ ((txt (catE (es.drop j))).size : Int) := by
            rw [txt_size, hcd, List.length_append]
            have := encEnt_least (entT incs raw t)
            omega
          have hrun : ∀ (p : Nat), p ≤ (txt (catE (es.drop j))).size → ∀ w, (Instr.slice 9 (.string (txt (catE (es.drop j)))) none (some (.int .i64 (p : Int))) none).run Tryd.prog w = .ok (.string (txt ((catE (es.drop j)).take p))) w := fun p hp w => by
            have h := run_to (txt (catE (es.drop j))) (p : Int) p rfl hp w
            rwa [txt_data] at h
          have cS := fun A A' c c' B B' d d' W h1 h2 h3 h4 => refSameE_any (entT incs raw t) (entT incs raw t) A A' c c' B B' d d' W h1 h2 h3 h4 li lm
          rw [(sameE_iff (entT incs raw t) (entT incs raw t)).2 rfl] at cS
          have cK := fun W => pick6_any at' ((txt (catE (es.drop j))).size : Int) KA.out (by omega) W
          have rK := pickI_range at' ((txt (catE (es.drop j))).size : Int) (by omega)
          obtain ⟨pk, hpk⟩ : ∃ pk : Nat, pickI at' ((txt (catE (es.drop j))).size : Int) = (pk : Int) := ⟨(pickI at' ((txt (catE (es.drop j))).size : Int)).toNat, by omega⟩
          rw [hpk] at cK rK
          obtain ⟨ad, rfl, hadb, hcc⟩ := HTS.out (by omega)
          have H3 := Lib.hid (hcc j t ht)
          have CD := Lib.hid cD; clear cD
          have CE := Lib.hid cE; clear cE
          have CS := Lib.hid cS; clear cS
          have CK := Lib.hid cK; clear cK
          have RK := Lib.hid rK; clear rK
          have HCUT := Lib.hid hcut; clear hcut
          have HRUN := Lib.hid hrun; clear hrun
          have HDR := Lib.hid (show txt (catE (es.drop (j + 1))) = txt (catE (es.drop (j + 1))) from rfl)
          clear hcc ht hek li lm ld hxr hw3 hcd hcl hpk
          generalize entT incs raw t = X at *
          generalize hR1 : txt (catE (es.drop (j + 1))) = R1 at *
          have HR1 := Lib.hid hR1
          generalize hSL : catE (es.drop j) = SL at *
          clear hSL
          go_wp2_with fail
          refine (CD.out _ (HL.out.below HBA.out)).mono ?_; rintro e w3 ⟨D1, d1, D2, d2, rfl, r1, m1, b3⟩
          rw [hR1]
          clear hR1
          have bt := b3.trans ((Joins.below_alloc1 w3 (.cells #[.int .i64 X.t, .int .i64 X.ep, .int .i64 X.mem, .slice D1 X.incs.length d1, .slice D2 X.msgs.length d2] 27)).mono b3.size)
          have HD3 := Lib.hid (Sits.new (c := d1) (c' := d2) r1 m1)
          have HB3 := Lib.hid (HBR.out.trans (bt.mono HBR.out.size))
          clear bt r1 m1 b3
          go_wp2_with fail
          generalize w3.alloc (.cells #[.int .i64 X.t, .int .i64 X.ep, .int .i64 X.mem, .slice D1 X.incs.length d1, .slice D2 X.msgs.length d2] 27) = W3 at *
          generalize w3.heap.size = bd at *
          have HB3A := Lib.hid (HB1.out.trans (HB3.out.mono HB1.out.size))
          have HI3 := Lib.hid (HI.out.on HB3A.out)
          have H33 := Lib.hid (H3.out.keep (w' := W3) fun q hq => HB3A.out.cell (by rw [hq, adb]; exact hadb))
          have HAB : Hid ((ad.add (j * 3)).block < W3.heap.size) := Lib.hid (by rw [adb]; exact Nat.lt_of_lt_of_le hadb HB3A.out.size)
          have HST : Hid (∀ w', Below W3.heap.size W3 w' → (((w'.cell? ⟨bd, 0, none⟩ = some (.int .i64 X.t) ∧ w'.cell? ⟨bd, 1, none⟩ = some (.int .i64 X.ep) ∧ w'.cell? ⟨bd, 2, none⟩ = some (.int .i64 X.mem) ∧ w'.cell? ⟨bd, 3, none⟩ = some (.slice D1 X.incs.length d1) ∧ w'.cell? ⟨bd, 4, none⟩ = some (.slice D2 X.msgs.length d2)) ∧ (w'.cell? (ad.add (j * 3)) = some (.int .i64 t.n0) ∧ w'.cell? ⟨(ad.add (j * 3)).block, (ad.add (j * 3)).off + 1, none⟩ = some (.int .i64 t.n1) ∧ w'.cell? ⟨(ad.add (j * 3)).block, (ad.add (j * 3)).off + 2, none⟩ = some (.int .i64 t.n2))) ∧ Below W3.heap.size W3 w')) := Lib.hid fun w' hb => ⟨⟨(HD3.out.on hb).ent.cells, H33.out.keep fun q hq => hb.cell (by rw [hq]; exact HAB.out)⟩, hb⟩
          have HST2 : Hid (∀ w' w'', (((w'.cell? ⟨bd, 0, none⟩ = some (.int .i64 X.t) ∧ w'.cell? ⟨bd, 1, none⟩ = some (.int .i64 X.ep) ∧ w'.cell? ⟨bd, 2, none⟩ = some (.int .i64 X.mem) ∧ w'.cell? ⟨bd, 3, none⟩ = some (.slice D1 X.incs.length d1) ∧ w'.cell? ⟨bd, 4, none⟩ = some (.slice D2 X.msgs.length d2)) ∧ (w'.cell? (ad.add (j * 3)) = some (.int .i64 t.n0) ∧ w'.cell? ⟨(ad.add (j * 3)).block, (ad.add (j * 3)).off + 1, none⟩ = some (.int .i64 t.n1) ∧ w'.cell? ⟨(ad.add (j * 3)).block, (ad.add (j * 3)).off + 2, none⟩ = some (.int .i64 t.n2))) ∧ Below W3.heap.size W3 w') → Below w'.heap.size w' w'' → (((w''.cell? ⟨bd, 0, none⟩ = some (.int .i64 X.t) ∧ w''.cell? ⟨bd, 1, none⟩ = some (.int .i64 X.ep) ∧ w''.cell? ⟨bd, 2, none⟩ = some (.int .i64 X.mem) ∧ w''.cell? ⟨bd, 3, none⟩ = some (.slice D1 X.incs.length d1) ∧ w''.cell? ⟨bd, 4, none⟩ = some (.slice D2 X.msgs.length d2)) ∧ (w''.cell? (ad.add (j * 3)) = some (.int .i64 t.n0) ∧ w''.cell? ⟨(ad.add (j * 3)).block, (ad.add (j * 3)).off + 1, none⟩ = some (.int .i64 t.n1) ∧ w''.cell? ⟨(ad.add (j * 3)).block, (ad.add (j * 3)).off + 2, none⟩ = some (.int .i64 t.n2))) ∧ Below W3.heap.size W3 w'')) := Lib.hid fun w' w'' h hb => HST.out w'' (below_trans h.2 hb)
          go_region_held3 (fun w' => ((w'.cell? ⟨bd, 0, none⟩ = some (.int .i64 X.t) ∧ w'.cell? ⟨bd, 1, none⟩ = some (.int .i64 X.ep) ∧ w'.cell? ⟨bd, 2, none⟩ = some (.int .i64 X.mem) ∧ w'.cell? ⟨bd, 3, none⟩ = some (.slice D1 X.incs.length d1) ∧ w'.cell? ⟨bd, 4, none⟩ = some (.slice D2 X.msgs.length d2)) ∧ (w'.cell? (ad.add (j * 3)) = some (.int .i64 t.n0) ∧ w'.cell? ⟨(ad.add (j * 3)).block, (ad.add (j * 3)).off + 1, none⟩ = some (.int .i64 t.n1) ∧ w'.cell? ⟨(ad.add (j * 3)).block, (ad.add (j * 3)).off + 2, none⟩ = some (.int .i64 t.n2))) ∧ Below W3.heap.size W3 w') (first | assumption | exact HST.out _ (Below.refl _ _).drew | exact HST2.out _ _ (by assumption) (by assumption)) (first | (go_at_call 10; refine (CE.out _ (HI3.out.on (by first | assumption | exact (Below.refl _ _).drew))).mono ?_; rintro e w5 ⟨E1, g1, E2, g2, rfl, r5, m5, b5, -⟩) | (go_at_call 21; refine (CS.out _ _ _ _ _ _ _ _ _ (HD3.out.on (by first | assumption | exact ((Below.refl _ _).drew).trans (by assumption))).row (HD3.out.on (by first | assumption | exact ((Below.refl _ _).drew).trans (by assumption))).msgs r5 m5).mono ?_; rintro e w6 ⟨rfl, b6⟩))
          have HB6 := Lib.hid (HB3.out.trans (((Below.refl W3.heap.size W3).drew.trans (b5.trans (b6.mono b5.size))).mono HB3.out.size))
          clear b5 b6 r5 m5 HST HST2 CD CE CS HB3 HD3 HI3 H33 HAB HB3A H3
          by_cases hjk : j + 1 = es.length
          · have hq : ((j : Int) == (es.length : Int) - 1) = true := by simp; omega
            obtain ⟨Z, rl, cC⟩ := HCUT.out hjk pk (by have := RK.out; omega)
            have ks := HRUN.out pk (by have := RK.out; omega)
            have CC := Lib.hid cC; clear cC
            have ck := CK.out
            clear HCUT HRUN
            generalize txt (SL.take pk) = Q at *
            generalize txt SL = Y at *
            go_wp2_with fail
            rw [show max (Y.size : Int) 1 = (Y.size : Int) by omega]
            with_reducible refine (ck _).mono ?_
            rintro e w7 ⟨rfl, rfl⟩
            clear ck
            go_wp2_with fail
            with_reducible refine (CC.out _ (HL.out.below (HB1.out.trans (HB6.out.mono HB1.out.size)))).mono ?_
            rintro e w8 ⟨G1, x1, G2, x2, rfl, r8, m8, b8⟩
            have HB8 := Lib.hid (HB6.out.trans ((b8.trans ((Joins.below_alloc1 w8 (.cells #[.int .i64 Z.t, .int .i64 Z.ep, .int .i64 Z.mem, .slice G1 Z.incs.length x1, .slice G2 Z.msgs.length x2] 27)).mono b8.size)).mono HB6.out.size))
            clear b8 r8 m8
            go_wp2_with fail
            go_roundw
            case rel => exact ⟨j + 1, by omega, by go_num, by rw [HR1.out], HB8.out⟩
            case measure => simp [intOf]; omega
          · have hq : ((j : Int) == (es.length : Int) - 1) = false := by simp; omega
            clear HCUT HRUN
            go_wp2_with fail
            go_roundw
            case rel => exact ⟨j + 1, by omega, by go_num, by rw [HR1.out], HB6.out⟩
            case measure => simp [intOf]; omega
        · have ej : j = es.length := by omega
          subst ej
          have hjI : ¬ ((es.length : Int) < (es.length : Int)) := by omega
          rw [show txt (catE (es.drop es.length)) = ⟨#[]⟩ by rw [List.drop_of_length_le (Nat.le_refl _)]; rfl]
          clear hlt
          go_wp2_with fail
          go_ret
          exact ⟨rfl, HBA.out⟩

end Go.Proofs.YtlgaogghoehalaaDoor

namespace Go.Proofs.YtlgaogghoehalaaDoor.entryRows
open Go Go.ChangeShapes Go.WideShapes Go.ChangeAt Go.RowKit Go.Joins
open Go.ChangeMaps (open_string shut_string)
set_option linter.unusedVariables false

set_option maxRecDepth 100000 in
theorem lifted (os : Os) (started : os.Started) (H : Type) (enc : TypeId × Value → H) :
    ReturnsInHanded {} Tryd.checked os 8 .any (fun w args => (Rows.entryRowsSpec.pre enc Tryd.prog Tryd.f8 [] false w args ∧ laidMetH Tryd.prog Rows.entryRowsRow.laid w) ∧ sizedMet enc Tryd.prog Tryd.f8 (OpenSpec.ofChange Rows.entryRowsSpec) false w args) (Rows.entryRowsSpec.post enc Tryd.prog Tryd.f8 false true false false) := by
  refine returnsInHanded_of_change_and (C := Tryd.checked) (X := fun w _ => laidMetH Tryd.prog Rows.entryRowsRow.laid w) (fun _ _ _ hh h => h.of_heap hh) own started (by kernel_rfl) Tryd.func8
    (ChangeSpec.witness_shaped (enc := enc) (C := Tryd.checked) (os := os) (X := fun w _ => laidMetH Tryd.prog Rows.entryRowsRow.laid w) false (World.doorLaid Tryd.prog 400 os) #[.slice none 0 0, .slice none 0 0, .slice none 0 0, .int .i64 0] 8 rfl (World.shaped_of_RefB (by kernel_rfl) (by kernel_rfl)) (by kernel_rfl) (by kernel_rfl) (by kernel_rfl) (door_met os _)) ?_
  intro W base args ds gs before hval0 hW hcnd hsz0 hL _
  have hsz : (DataW.weightsEach Tryd.prog (Tryd.f8.params.toList ++ Rows.entryRowsSpec.plain.varTypes Tryd.prog) (ds ++ gs)).all (· ≤ reachBytes) = true := hsz0
  have hval : ∀ (j : Nat) t v, Tryd.f8.params[j]? = some t → args[j]? = some v → Value.okWide Tryd.prog W .any base t v := hval0
  have L := laid_of hL
  have hW' := hW
  obtain ⟨p, q, hA0, hV, rfl, hfz, hnd⟩ := hW
  have hA : DataW.TrodAll enc Tryd.prog W 0 (fun _ => true) true Tryd.f8.params.toList args.toList ds p := hA0
  rw [Tryd.params8] at hA hval hsz
  obtain ⟨v0, vs0, d0, ds0, p0, q0, hargs, rfl, rfl, h0, r0⟩ := trodAll_cons hA
  obtain ⟨v1, vs1, d1, ds1, p1, q1, rfl, rfl, rfl, h1, r1⟩ := trodAll_cons r0
  obtain ⟨v2, vs2, d2, ds2, p2, q2, rfl, rfl, rfl, h2, r2⟩ := trodAll_cons r1
  obtain ⟨v3, vs3, d3, ds3, p3, q3, rfl, rfl, rfl, h3, r3⟩ := trodAll_cons r2
  obtain ⟨rfl, rfl, rfl⟩ := trodAll_nil r3
  obtain rfl : args = #[v0, v1, v2, v3] := by cases args; simp_all
  obtain ⟨rfl, rfl⟩ := trodVars_none hV
  have hlt0 : ∀ x ∈ p0, x.block < W.heap.size := fun x hx => hW'.lt x (by simp [hx])
  have h0k := h0
  obtain ⟨A0, c0, l0, rfl, f0⟩ := open_threes (okWide_slice Tryd.underlying54 (hval 0 54 v0 rfl rfl)) h0
  have hlt1 : ∀ x ∈ p1, x.block < W.heap.size := fun x hx => hW'.lt x (by simp [hx])
  have h1k := h1
  obtain ⟨A1, c1, l1, rfl, f1⟩ := open_incs (okWide_slice Tryd.underlying23 (hval 1 23 v1 rfl rfl)) h1
  have hlt2 : ∀ x ∈ p2, x.block < W.heap.size := fun x hx => hW'.lt x (by simp [hx])
  have h2k := h2
  obtain ⟨A2, c2, l2, rfl, f2⟩ := open_rows (okWide_slice Tryd.underlying24 (hval 2 24 v2 rfl rfl)) h2
  obtain ⟨a3, rfl, rfl, rfl, w3⟩ := open_int Tryd.underlying3 (hval 3 3 v3 rfl rfl) h3
  clear hA0 hval0
  refine (entryRows_walk A0 c0 l0 A1 c1 l1 A2 c2 l2 a3 w3 W L f0 f1 f2).mono fun e W' ⟨he, bel⟩ => ?_
  subst he
  exact ⟨_, rfl, _, _, _, [], _, [], hW', trodAll_mk1 (shut_bool Tryd.underlying4 _), (trodAll_cons_mk (Below.trod laidOut (by kernel_rfl) (of_decide_eq_true (by kernel_rfl)) h0k bel hlt0) (trodAll_cons_mk (Below.trod laidOut (by kernel_rfl) (of_decide_eq_true (by kernel_rfl)) h1k bel hlt1) (trodAll_cons_mk (Below.trod laidOut (by kernel_rfl) (of_decide_eq_true (by kernel_rfl)) h2k bel hlt2) (trodAll_cons_mk (shut_int Tryd.underlying3 w3) trodAll_mk0)))), rfl, bel.frame _, fun h => by cases h⟩

theorem over : Rows.EntryRowsSaid :=
  OpenClaim.holds_of_wide 8 Tryd.f8 rfl rfl rfl rfl rfl rfl rfl ⟨rfl, rfl, rfl, rfl, rfl⟩ rfl rfl rfl rfl rfl (by kernel_rfl) Tryd.func8 (by kernel_rfl)
    (of_decide_eq_true (by kernel_rfl)) (by unfold Func.isWrapper; first | (rw [if_pos (by decide +kernel)]; kernel_rfl) | (rw [if_neg (by decide +kernel)]; exact ⟨rfl, rfl⟩))
    (fun os started H enc _ => lifted os started H enc)

theorem proved : Rows.EntryRowsCardSaid :=
  Claim7.holds_tied_plain_at .later [] [.data] true Rows.entryRowsCard.stood.harness false
    over (fun _ h => by cases h) (by kernel_rfl) (fun _ h => by cases h) entryRows_row_tie rfl ⟨rfl, rfl⟩ (by kernel_rfl) rfl
    (fun f fn hf hfn => by
      obtain rfl : f = 8 := Option.some.inj ((show Tryd.prog.funcNamed "omnibus/omnibuslaw06.EntryRows" = some 8 by kernel_rfl).symm.trans hf) |>.symm
      obtain rfl : fn = Tryd.f8 := (Option.some.inj (Tryd.func8.symm.trans hfn)).symm
      exact ⟨by kernel_rfl, fun j t ht => by
        rw [Tryd.params8] at ht
        have hm : t ∈ [54, 23, 24, 3] := by simpa using Array.mem_of_getElem? ht
        have hall : ([54, 23, 24, 3].all fun u => !Tryd.prog.wantsStandIn u) = true := by kernel_rfl
        exact (show Tryd.prog.wantsStandIn t = false by simpa using List.all_eq_true.1 hall t hm)⟩)
    (by kernel_rfl)
#print axioms proved
end Go.Proofs.YtlgaogghoehalaaDoor.entryRows

/-
  The law CliqueAcks.
-/
import Derived.Test.YtplnmkeopdmanaaCliAckM
namespace Go.Proofs.Ytplnmkeopdmanaa
open Go.RowKit

theorem refWithout2_any (v n : Int) (w : World) : Calls Try.prog 18 #[.int .i64 v, .int .i64 n] w fun e w' => e = .returned (.int .i64 (withoutI v n)) ∧ Below w.heap.size w w' := refWithout_any v n w
theorem shl_one (a : Int) (h0 : 0 ≤ a) (h1 : a < 16) : wrap64 ((2 : Int) ^ a.toNat) = ((2 ^ a.toNat : Nat) : Int) := w64_pow _ (by omega)

set_option maxRecDepth 100000 in
set_option maxHeartbeats 8000000 in
theorem cliqueAcks_walk (A : Option Addr) (c : Nat) (l : List Int) (a1 a2 a3 : Int) (w1 : (Lit.int .i64 a1).wf = true) (w2 : (Lit.int .i64 a2).wf = true) (w3 : (Lit.int .i64 a3).wf = true) (w : World) (f : IntsOk w A c l) :
    Calls Try.prog 5 #[.slice A l.length c, .int .i64 a1, .int .i64 a2, .int .i64 a3] w fun e w' => e = .returned (.bool true) ∧ Below w.heap.size w w' := by
  obtain ⟨i0, hi0, hz0, hz1, hz2⟩ := info_parts int_info
  have hlm : l.length ≤ maxLen := by have := f.len; omega
  unfold maxLen at hlm
  have FR := Lib.hid f.row
  clear f
  have AW := Lib.hid (fun W => awake_any W)
  have p1 := Lib.hid (fun W => pick_any a1 15 w1 (by omega) W)
  obtain ⟨q0, q1⟩ := pickI_range a1 15 (by omega)
  generalize pickI a1 15 = q at *
  obtain ⟨N, hN⟩ : ∃ N : Nat, 2 + q = (N : Int) := ⟨(2 + q).toNat, by omega⟩
  have n2 : 2 ≤ N := by omega
  have n16 : N ≤ 16 := by omega
  have g1 : IntKind.i64.wrap (2 + q) = (N : Int) := by rw [← hN]; exact IntWalk.i64_in _ (by omega)
  have p2 := Lib.hid (fun W => pick_any a2 N w2 (by omega) W)
  obtain ⟨x0, x1⟩ := pickI_range a2 N (by omega)
  generalize pickI a2 N = na at *
  have p3 := Lib.hid (fun W => pick_any a3 N w3 (by omega) W)
  obtain ⟨y0, y1⟩ := pickI_range a3 N (by omega)
  generalize pickI a3 N = nb at *
  clear w1 w2 w3 q0 q1 hN
  have HNA : Hid (0 ≤ na ∧ na < N) := Lib.hid ⟨x0, x1⟩
  have HNB : Hid (0 ≤ nb ∧ nb < N) := Lib.hid ⟨y0, y1⟩
  clear x0 x1 y0 y1
  go_enter Try.func5, Try.ntmps5
  go_wp2_with fail
  (with_reducible refine (AW.out _).mono ?_); rintro e v1 ⟨rfl, hb⟩
  have HB := Lib.hid hb; clear hb
  go_wp2_with fail
  (with_reducible refine (p1.out _).mono ?_); rintro e u1 ⟨rfl, rfl⟩
  go_wp2_with fail
  (with_reducible refine (p2.out _).mono ?_); rintro e u1 ⟨rfl, rfl⟩
  go_wp2_with fail
  (with_reducible refine (p3.out _).mono ?_); rintro e u1 ⟨rfl, rfl⟩
  go_wp2_with fail
  clear AW p1 p2 p3
  generalize hBB : v1.heap.size = B at *
  have hBw : w.heap.size ≤ B := by rw [← hBB]; exact HB.out.size
  have HV0 : Hid (B ≤ v1.heap.size) := Lib.hid (by omega)
  clear hBB
  go_loopw [13, 14] (fun u i wr => ∃ j : Nat, j ≤ N ∧ i = .int .i64 j ∧ wr.ownsRow B 3 1 u j ((hrdL l j).map (Value.int .i64)) ∧ Below w.heap.size w wr ∧ B ≤ wr.heap.size) (fun _ i _ => N - (intOf i).toNat)
  case atStart => exact ⟨0, by omega, rfl, World.ownsRow_nil _ _ _ _, HB.out, HV0.out⟩
  case round =>
    obtain ⟨j, hj, rfl, hrow, hb, hB9⟩ := hrel
    clear HB
    have HB := Lib.hid hb; clear hb
    by_cases hlt : j < N
    · have i1 : (j : Int) < (N : Int) := by omega
      have HS := Lib.hid (hrd_succ l j)
      have HV : Hid (hrdV l j = withoutI (rawV l j) j) := Lib.hid rfl
      have kW := Lib.hid (fun W => refWithout_any (rawV l j) j W)
      rw [← HV.out] at kW
      generalize hrdV l j = X at *
      have HRW : Hid (rawV l j = if 0 < l.length then pickI (wrap64 (l.getD (j % l.length) 0 + (j : Int))) 65536 else 0) := Lib.hid rfl
      by_cases hl0 : 0 < l.length
      · have i2 : (0 : Int) < (l.length : Int) := by omega
        have i3 : ¬ (l.length : Int) = 0 := by omega
        have hrm := hrd_rem j l.length
        have hjm : j % l.length < l.length := Nat.mod_lt _ hl0
        have hjI : ((j % l.length : Nat) : Int) < (l.length : Int) := by omega
        obtain ⟨y, hy⟩ : ∃ y, l[j % l.length]? = some y := ⟨_, List.getElem?_eq_getElem hjm⟩
        have hrv := HRW.out
        rw [if_pos hl0, List.getD_eq_getElem?_getD, hy] at hrv
        simp only [Option.getD_some] at hrv
        obtain ⟨ad, rfl, hadb, hcc⟩ := (FR.out.below HB.out (Nat.le_refl _)) hl0
        have z0 := hcc _ y hy
        have pv := Lib.hid (fun W => pick_any (wrap64 (y + (j : Int))) 65536 (wrap64_wf _) (by omega) W)
        rw [← hrv] at pv
        generalize rawV l j = RV at *
        have hwr : IntKind.i64.wrap ((j % l.length : Nat) : Int) = ((j % l.length : Nat) : Int) := IntWalk.i64_in _ (by omega)
        generalize j % l.length = jm at *
        clear hcc hy hrv hl0
        go_wp2_with fail
        (with_reducible refine (pv.out _).mono ?_); rintro e u1 ⟨rfl, rfl⟩
        go_wp2_with fail
        (with_reducible refine (kW.out _).mono ?_); rintro e u2 ⟨rfl, hb⟩
        have HR2 := Lib.hid (Own.on (u := _) (l := hrdL l j) (by unfold Own; rw [hrd_length]; exact hrow) hb)
        have hrow2 := HR2.out
        unfold Own at hrow2
        rw [hrd_length] at hrow2
        replace HB := Lib.hid (HB.out.trans (hb.mono HB.out.size))
        have hB10 : B ≤ u2.heap.size := Nat.le_trans hB9 hb.size
        clear hrow hb
        go_wp2_with (at_builtin; refine wpList_append_own _ rfl _ _ 30 rfl B 3 i0 (.int .i64 0) 1 8 Try.underlying30 hi0 hz0 hz1 hz2 rfl (by decide) _ _ _ rfl (hrow2.alloc _) ⟨u2.heap.size, 0, none⟩ 1 1 [.int .i64 X] rfl rfl (cell_one_new _ _ _) (by simp [Value.oneCell']) (by simp only [maxLen]; omega) (by omega) (by simp; omega) ?_; intro v' w3 hown' hgrow3 hnil3)
        have hb3 := (HB.out.alloc HB.out.size (.cells #[.int .i64 X] 3)).grown hgrow3 (by simp; omega) (fun g e' => Nat.le_trans hBw (hrow2.lt g e').1)
        have hB3 : B ≤ w3.heap.size := by have := hgrow3.size; rw [World.size_alloc] at this; omega
        have HB3 := Lib.hid hb3; clear hb3
        go_roundw
        case rel => exact ⟨j + 1, by omega, by go_num, by rw [HS.out, List.map_append]; exact hown', HB3.out, hB3⟩
        case measure => simp [intOf]; omega
      · have i2 : ¬ (0 : Int) < (l.length : Int) := by omega
        have hrv := HRW.out
        rw [if_neg hl0] at hrv
        rw [hrv] at kW
        clear hrv HV HRW
        go_wp2_with fail
        (with_reducible refine (kW.out _).mono ?_); rintro e u2 ⟨rfl, hb⟩
        have HR2 := Lib.hid (Own.on (u := _) (l := hrdL l j) (by unfold Own; rw [hrd_length]; exact hrow) hb)
        have hrow2 := HR2.out
        unfold Own at hrow2
        rw [hrd_length] at hrow2
        replace HB := Lib.hid (HB.out.trans (hb.mono HB.out.size))
        have hB10 : B ≤ u2.heap.size := Nat.le_trans hB9 hb.size
        clear hrow hb
        go_wp2_with (at_builtin; refine wpList_append_own _ rfl _ _ 30 rfl B 3 i0 (.int .i64 0) 1 8 Try.underlying30 hi0 hz0 hz1 hz2 rfl (by decide) _ _ _ rfl (hrow2.alloc _) ⟨u2.heap.size, 0, none⟩ 1 1 [.int .i64 X] rfl rfl (cell_one_new _ _ _) (by simp [Value.oneCell']) (by simp only [maxLen]; omega) (by omega) (by simp; omega) ?_; intro v' w3 hown' hgrow3 hnil3)
        have hb3 := (HB.out.alloc HB.out.size (.cells #[.int .i64 X] 3)).grown hgrow3 (by simp; omega) (fun g e' => Nat.le_trans hBw (hrow2.lt g e').1)
        have hB3 : B ≤ w3.heap.size := by have := hgrow3.size; rw [World.size_alloc] at this; omega
        have HB3 := Lib.hid hb3; clear hb3
        go_roundw
        case rel => exact ⟨j + 1, by omega, by go_num, by rw [HS.out, List.map_append]; exact hown', HB3.out, hB3⟩
        case measure => simp [intOf]; omega
    · have ej : j = N := by omega
      rw [ej] at hrow
      have i1 : ¬ (j : Int) < (N : Int) := by omega
      obtain ⟨A2, c2, rfl, hc, hU⟩ := Row.of_own (l := hrdL l N) (by rw [hrd_length]; exact hrow)
      rw [hrd_length]
      have HU := Lib.hid hU
      clear hrow hc hU ej
      have HBO : Hid (bothN l na nb 0 = (na == nb)) := Lib.hid rfl
      obtain ⟨ad2, rfl, hadb2, hcc2⟩ := HU.out (by rw [hrd_length]; omega)
      have HCC : Hid (∀ k, k < N → wr.cell? (ad2.add k) = some (.int .i64 (hrdV l k))) := Lib.hid (fun k hk => hcc2 k _ (hrd_at l N k hk))
      clear hcc2 hadb2
      go_wp2_with fail
      go_loop [16, 17] (fun bo ix => ∃ k : Nat, k ≤ N ∧ ix = .int .i64 k ∧ bo = .bool (bothN l na nb k)) (fun _ ix => N - (intOf ix).toNat)
      case atStart => exact ⟨0, by omega, rfl, rfl⟩
      case round =>
        obtain ⟨k, hk, rfl, rfl⟩ := hrel
        by_cases hlt2 : k < N
        · have j1 : (k : Int) < (N : Int) := by omega
          have hce := HCC.out k hlt2
          have HSB : Hid (bothN l na nb (k + 1) = (bothN l na nb k || (xB l na k && xB l nb k))) := Lib.hid rfl
          have kA := fun W => refHas_any (hrdV l k) na W
          have kB := fun W => refHas_any (hrdV l k) nb W
          have hXA : xB l na k = (((k : Int) == na) || hasB (hrdV l k) na) := rfl
          have hXB : xB l nb k = (((k : Int) == nb) || hasB (hrdV l k) nb) := rfl
          generalize xB l na k = XA at *
          generalize xB l nb k = XB at *
          generalize hasB (hrdV l k) na = ha at *
          generalize hasB (hrdV l k) nb = hb at *
          generalize hrdV l k = HV at *
          generalize hea : ((k : Int) == na) = ea at *
          generalize heb : ((k : Int) == nb) = eb at *
          cases hbo : bothN l na nb k
          · cases ea
            · cases ha
              ·
                cases eb
                · cases hb
                  ·
                    subst hXA hXB
                    have HSB2 : Hid (bothN l na nb (k + 1) = false) := Lib.hid (by rw [HSB.out, hbo]; rfl)
                    have KA := Lib.hid kA; have KB := Lib.hid kB; have HBO := Lib.hid hbo
                    clear kA kB hbo HSB
                    go_wp2_with fail
                    (with_reducible refine (KA.out _).mono ?_); rintro e x1 ⟨rfl, rfl⟩
                    go_wp2_with fail
                    (with_reducible refine (KB.out _).mono ?_); rintro e x1 ⟨rfl, rfl⟩
                    go_wp2_with fail
                    go_round
                    case rel => exact ⟨k + 1, by omega, by go_num, by rw [HSB2.out]⟩
                    case measure => simp [intOf]; omega
                  ·
                    subst hXA hXB
                    have HSB2 : Hid (bothN l na nb (k + 1) = false) := Lib.hid (by rw [HSB.out, hbo]; rfl)
                    have KA := Lib.hid kA; have KB := Lib.hid kB; have HBO := Lib.hid hbo
                    clear kA kB hbo HSB
                    go_wp2_with fail
                    (with_reducible refine (KA.out _).mono ?_); rintro e x1 ⟨rfl, rfl⟩
                    go_wp2_with fail
                    (with_reducible refine (KB.out _).mono ?_); rintro e x1 ⟨rfl, rfl⟩
                    go_wp2_with fail
                    go_round
                    case rel => exact ⟨k + 1, by omega, by go_num, by rw [HSB2.out]⟩
                    case measure => simp [intOf]; omega
                ·
                  subst hXA hXB
                  have HSB2 : Hid (bothN l na nb (k + 1) = false) := Lib.hid (by rw [HSB.out, hbo]; rfl)
                  have KA := Lib.hid kA; have KB := Lib.hid kB; have HBO := Lib.hid hbo
                  clear kA kB hbo HSB
                  go_wp2_with fail
                  (with_reducible refine (KA.out _).mono ?_); rintro e x1 ⟨rfl, rfl⟩
                  go_wp2_with fail
                  go_round
                  case rel => exact ⟨k + 1, by omega, by go_num, by rw [HSB2.out]⟩
                  case measure => simp [intOf]; omega
              ·
                cases eb
                · cases hb
                  ·
                    subst hXA hXB
                    have HSB2 : Hid (bothN l na nb (k + 1) = false) := Lib.hid (by rw [HSB.out, hbo]; rfl)
                    have KA := Lib.hid kA; have KB := Lib.hid kB; have HBO := Lib.hid hbo
                    clear kA kB hbo HSB
                    go_wp2_with fail
                    (with_reducible refine (KA.out _).mono ?_); rintro e x1 ⟨rfl, rfl⟩
                    go_wp2_with fail
                    (with_reducible refine (KB.out _).mono ?_); rintro e x1 ⟨rfl, rfl⟩
                    go_wp2_with fail
                    go_round
                    case rel => exact ⟨k + 1, by omega, by go_num, by rw [HSB2.out]⟩
                    case measure => simp [intOf]; omega
                  ·
                    subst hXA hXB
                    have HSB2 : Hid (bothN l na nb (k + 1) = true) := Lib.hid (by rw [HSB.out, hbo]; rfl)
                    have KA := Lib.hid kA; have KB := Lib.hid kB; have HBO := Lib.hid hbo
                    clear kA kB hbo HSB
                    go_wp2_with fail
                    (with_reducible refine (KA.out _).mono ?_); rintro e x1 ⟨rfl, rfl⟩
                    go_wp2_with fail
                    (with_reducible refine (KB.out _).mono ?_); rintro e x1 ⟨rfl, rfl⟩
                    go_wp2_with fail
                    go_round
                    case rel => exact ⟨k + 1, by omega, by go_num, by rw [HSB2.out]⟩
                    case measure => simp [intOf]; omega
                ·
                  subst hXA hXB
                  have HSB2 : Hid (bothN l na nb (k + 1) = true) := Lib.hid (by rw [HSB.out, hbo]; rfl)
                  have KA := Lib.hid kA; have KB := Lib.hid kB; have HBO := Lib.hid hbo
                  clear kA kB hbo HSB
                  go_wp2_with fail
                  (with_reducible refine (KA.out _).mono ?_); rintro e x1 ⟨rfl, rfl⟩
                  go_wp2_with fail
                  go_round
                  case rel => exact ⟨k + 1, by omega, by go_num, by rw [HSB2.out]⟩
                  case measure => simp [intOf]; omega
            ·
              cases eb
              · cases hb
                ·
                  subst hXA hXB
                  have HSB2 : Hid (bothN l na nb (k + 1) = false) := Lib.hid (by rw [HSB.out, hbo]; rfl)
                  have KA := Lib.hid kA; have KB := Lib.hid kB; have HBO := Lib.hid hbo
                  clear kA kB hbo HSB
                  go_wp2_with fail
                  (with_reducible refine (KB.out _).mono ?_); rintro e x1 ⟨rfl, rfl⟩
                  go_wp2_with fail
                  go_round
                  case rel => exact ⟨k + 1, by omega, by go_num, by rw [HSB2.out]⟩
                  case measure => simp [intOf]; omega
                ·
                  subst hXA hXB
                  have HSB2 : Hid (bothN l na nb (k + 1) = true) := Lib.hid (by rw [HSB.out, hbo]; rfl)
                  have KA := Lib.hid kA; have KB := Lib.hid kB; have HBO := Lib.hid hbo
                  clear kA kB hbo HSB
                  go_wp2_with fail
                  (with_reducible refine (KB.out _).mono ?_); rintro e x1 ⟨rfl, rfl⟩
                  go_wp2_with fail
                  go_round
                  case rel => exact ⟨k + 1, by omega, by go_num, by rw [HSB2.out]⟩
                  case measure => simp [intOf]; omega
              ·
                subst hXA hXB
                have HSB2 : Hid (bothN l na nb (k + 1) = true) := Lib.hid (by rw [HSB.out, hbo]; rfl)
                have KA := Lib.hid kA; have KB := Lib.hid kB; have HBO := Lib.hid hbo
                clear kA kB hbo HSB
                go_wp2_with fail
                go_round
                case rel => exact ⟨k + 1, by omega, by go_num, by rw [HSB2.out]⟩
                case measure => simp [intOf]; omega
          · cases ea
            · cases ha
              ·
                cases eb
                · cases hb
                  ·
                    subst hXA hXB
                    have HSB2 : Hid (bothN l na nb (k + 1) = true) := Lib.hid (by rw [HSB.out, hbo]; rfl)
                    have KA := Lib.hid kA; have KB := Lib.hid kB; have HBO := Lib.hid hbo
                    clear kA kB hbo HSB
                    go_wp2_with fail
                    (with_reducible refine (KA.out _).mono ?_); rintro e x1 ⟨rfl, rfl⟩
                    go_wp2_with fail
                    (with_reducible refine (KB.out _).mono ?_); rintro e x1 ⟨rfl, rfl⟩
                    go_wp2_with fail
                    go_round
                    case rel => exact ⟨k + 1, by omega, by go_num, by rw [HSB2.out]⟩
                    case measure => simp [intOf]; omega
                  ·
                    subst hXA hXB
                    have HSB2 : Hid (bothN l na nb (k + 1) = true) := Lib.hid (by rw [HSB.out, hbo]; rfl)
                    have KA := Lib.hid kA; have KB := Lib.hid kB; have HBO := Lib.hid hbo
                    clear kA kB hbo HSB
                    go_wp2_with fail
                    (with_reducible refine (KA.out _).mono ?_); rintro e x1 ⟨rfl, rfl⟩
                    go_wp2_with fail
                    (with_reducible refine (KB.out _).mono ?_); rintro e x1 ⟨rfl, rfl⟩
                    go_wp2_with fail
                    go_round
                    case rel => exact ⟨k + 1, by omega, by go_num, by rw [HSB2.out]⟩
                    case measure => simp [intOf]; omega
                ·
                  subst hXA hXB
                  have HSB2 : Hid (bothN l na nb (k + 1) = true) := Lib.hid (by rw [HSB.out, hbo]; rfl)
                  have KA := Lib.hid kA; have KB := Lib.hid kB; have HBO := Lib.hid hbo
                  clear kA kB hbo HSB
                  go_wp2_with fail
                  (with_reducible refine (KA.out _).mono ?_); rintro e x1 ⟨rfl, rfl⟩
                  go_wp2_with fail
                  go_round
                  case rel => exact ⟨k + 1, by omega, by go_num, by rw [HSB2.out]⟩
                  case measure => simp [intOf]; omega
              ·
                cases eb
                · cases hb
                  ·
                    subst hXA hXB
                    have HSB2 : Hid (bothN l na nb (k + 1) = true) := Lib.hid (by rw [HSB.out, hbo]; rfl)
                    have KA := Lib.hid kA; have KB := Lib.hid kB; have HBO := Lib.hid hbo
                    clear kA kB hbo HSB
                    go_wp2_with fail
                    (with_reducible refine (KA.out _).mono ?_); rintro e x1 ⟨rfl, rfl⟩
                    go_wp2_with fail
                    (with_reducible refine (KB.out _).mono ?_); rintro e x1 ⟨rfl, rfl⟩
                    go_wp2_with fail
                    go_round
                    case rel => exact ⟨k + 1, by omega, by go_num, by rw [HSB2.out]⟩
                    case measure => simp [intOf]; omega
                  ·
                    subst hXA hXB
                    have HSB2 : Hid (bothN l na nb (k + 1) = true) := Lib.hid (by rw [HSB.out, hbo]; rfl)
                    have KA := Lib.hid kA; have KB := Lib.hid kB; have HBO := Lib.hid hbo
                    clear kA kB hbo HSB
                    go_wp2_with fail
                    (with_reducible refine (KA.out _).mono ?_); rintro e x1 ⟨rfl, rfl⟩
                    go_wp2_with fail
                    (with_reducible refine (KB.out _).mono ?_); rintro e x1 ⟨rfl, rfl⟩
                    go_wp2_with fail
                    go_round
                    case rel => exact ⟨k + 1, by omega, by go_num, by rw [HSB2.out]⟩
                    case measure => simp [intOf]; omega
                ·
                  subst hXA hXB
                  have HSB2 : Hid (bothN l na nb (k + 1) = true) := Lib.hid (by rw [HSB.out, hbo]; rfl)
                  have KA := Lib.hid kA; have KB := Lib.hid kB; have HBO := Lib.hid hbo
                  clear kA kB hbo HSB
                  go_wp2_with fail
                  (with_reducible refine (KA.out _).mono ?_); rintro e x1 ⟨rfl, rfl⟩
                  go_wp2_with fail
                  go_round
                  case rel => exact ⟨k + 1, by omega, by go_num, by rw [HSB2.out]⟩
                  case measure => simp [intOf]; omega
            ·
              cases eb
              · cases hb
                ·
                  subst hXA hXB
                  have HSB2 : Hid (bothN l na nb (k + 1) = true) := Lib.hid (by rw [HSB.out, hbo]; rfl)
                  have KA := Lib.hid kA; have KB := Lib.hid kB; have HBO := Lib.hid hbo
                  clear kA kB hbo HSB
                  go_wp2_with fail
                  (with_reducible refine (KB.out _).mono ?_); rintro e x1 ⟨rfl, rfl⟩
                  go_wp2_with fail
                  go_round
                  case rel => exact ⟨k + 1, by omega, by go_num, by rw [HSB2.out]⟩
                  case measure => simp [intOf]; omega
                ·
                  subst hXA hXB
                  have HSB2 : Hid (bothN l na nb (k + 1) = true) := Lib.hid (by rw [HSB.out, hbo]; rfl)
                  have KA := Lib.hid kA; have KB := Lib.hid kB; have HBO := Lib.hid hbo
                  clear kA kB hbo HSB
                  go_wp2_with fail
                  (with_reducible refine (KB.out _).mono ?_); rintro e x1 ⟨rfl, rfl⟩
                  go_wp2_with fail
                  go_round
                  case rel => exact ⟨k + 1, by omega, by go_num, by rw [HSB2.out]⟩
                  case measure => simp [intOf]; omega
              ·
                subst hXA hXB
                have HSB2 : Hid (bothN l na nb (k + 1) = true) := Lib.hid (by rw [HSB.out, hbo]; rfl)
                have KA := Lib.hid kA; have KB := Lib.hid kB; have HBO := Lib.hid hbo
                clear kA kB hbo HSB
                go_wp2_with fail
                go_round
                case rel => exact ⟨k + 1, by omega, by go_num, by rw [HSB2.out]⟩
                case measure => simp [intOf]; omega
        · have j1 : ¬ (k : Int) < (N : Int) := by omega
          have ek : k = N := by omega
          rw [ek]
          clear ek
          have hxa : nodeB na = true := (nodeB_iff na).2 ⟨HNA.out.1, by have := HNA.out.2; omega⟩
          have HBB := Lib.hid (acks_both l na nb N n16 HNA.out HNB.out)
          have kC := fun x => clear_any x N (some ad2) c2 _ (hrdL l N) wr HU.out (by rw [hrd_length]; omega)
          rw [hrd_length] at kC
          have kA := kC na; have kB := kC nb; clear kC
          have hna0 := HNA.out.1
          have hna1 : na < 64 := by have := HNA.out.2; omega
          obtain ⟨P, hP⟩ : ∃ P : Int, ((2 ^ na.toNat : Nat) : Int) = P := ⟨_, rfl⟩
          have hp2 := two_pow_lt na.toNat (by have := HNA.out.2; omega)
          have hPb : 0 ≤ P ∧ P < 65536 := by rw [← hP]; generalize 2 ^ na.toNat = z at hp2 ⊢; omega
          have hsh : IntKind.i64.wrap ((2 : Int) ^ na.toNat) = P := by rw [pow_cast, hP]; exact IntWalk.i64_in _ (by omega)
          have hAM := ack_more na hxa (hrdL l N)
          have hCM := clear_more na N hxa (hrdL l N)
          rw [hP] at hAM hCM
          have hlen : (hrdL l N).length = N := hrd_length l N
          have kK := Lib.hid (fun W (hr : Row W W.heap.size (some ad2) (hrdL l N)) => acked_any na (some ad2) c2 _ (hrdL l N) W hr (by rw [hlen]; unfold maxLen; omega))
          have kC2 := Lib.hid (fun W (hr : Row W W.heap.size (some ad2) (hrdL l N)) => clear_any na N (some ad2) c2 _ (hrdL l N) W hr (by rw [hlen]; omega))
          have kM := Lib.hid (fun A c W (hr : Row W W.heap.size A (hrdL l N ++ [P])) => acked_any na A c _ (hrdL l N ++ [P]) W hr (by rw [List.length_append, hlen]; simp; unfold maxLen; omega))
          have kX := Lib.hid (fun A c W (hr : Row W W.heap.size A (hrdL l N ++ [P])) => clear_any na N A c _ (hrdL l N ++ [P]) W hr (by rw [List.length_append, hlen]; simp; omega))
          rw [hAM] at kM
          have HHU := Lib.hid HU.out
          generalize hrdL l N = H at *
          have hak := ack_le na H
          have HLEN := Lib.hid hlen
          rw [hlen] at hak kK kC2
          have hlen2 : (H ++ [P]).length = N + 1 := by rw [List.length_append, hlen]; rfl
          rw [hlen2] at kM kX
          have HL2 := Lib.hid hlen2
          clear hlen hlen2 hxa hP hAM HU hp2
          generalize ackN na H = ac at *
          generalize bothN l na nb N = bo at *
          have gac : IntKind.i64.wrap ((ac : Int) + 1) = ((ac + 1 : Nat) : Int) := by rw [IntWalk.i64_in _ (by omega)]; omega
          generalize hca : clearB na N H = ca at *
          generalize hcb : clearB nb N H = cb at *
          cases ca
          ·
            have KA := Lib.hid kA; have KB := Lib.hid kB
            clear kA kB hCM hca hcb HBB
            go_wp2_with fail
            (with_reducible refine KA.out.mono ?_); rintro e x1 ⟨rfl, rfl⟩
            go_wp2_with fail
            clear KA KB
            have HAX : Hid (Below wr.heap.size wr (wr.alloc (.cells #[.int .i64 P] 3)).drew) := Lib.hid (Joins.below_alloc1 wr _).drew
            go_region_law (first
              | (refine step_app rfl (.const (.slice none 0 0)) (.tmp 106) rfl wr.heap.size wr.heap.size (.slice none 0 0) [] H (some ad2) c2 (by simp [Act.eval]) (by rw [HLEN.out]; first | (simp [Act.eval]; done) | simp [Act.eval, Act.put]) (Own.nil _ _) HHU.out (Nat.le_refl _) (by rw [HLEN.out]; simp only [List.length_nil]; omega) ?_; intro u1 w4 hu1 hg1; have hb4 : Below wr.heap.size wr w4 := (Below.refl _ wr).drew.trans (Own.below (w := wr.drew) (Own.nil _ _) hg1 (Nat.le_refl _)))
              | (refine step_app rfl (.tmp 107) (.tmp 110) rfl wr.heap.size (w4.heap.size + 1) u1 ([] ++ H) [P] (some ⟨w4.heap.size, 0, none⟩) 1 (by simp [Act.eval]) (by simp [Act.eval]) (hu1.on (Joins.below_alloc1 w4 _)) (Row.new w4 [P]) (by have := hb4.size; simp; omega) (by rw [List.length_append, HLEN.out]; simp only [List.length_nil, List.length_singleton]; omega) ?_; intro u2 w5 hu2 hg2; have hb5 : Below wr.heap.size wr w5 := (hb4.trans ((Joins.below_alloc1 w4 _).mono hb4.size)).trans (Own.below (hu1.on (Joins.below_alloc1 w4 _)) hg2 (by have := hb4.size; simp; omega)))
              | (refine step_app rfl (.const (.slice none 0 0)) (.tmp 106) rfl (wr.heap.size + 1) wr.heap.size (.slice none 0 0) [] H (some ad2) c2 (by simp [Act.eval]) (by rw [HLEN.out]; first | (simp [Act.eval]; done) | simp [Act.eval, Act.put]) (Own.nil _ _) (HHU.out.below HAX.out (Nat.le_refl _)) (by simp) (by rw [HLEN.out]; simp only [List.length_nil]; omega) ?_; intro v1 w4 hv1 hg1; have hb4' := Own.below (Own.nil _ (wr.heap.size + 1)) hg1 (by simp); have hrx : Row w4 (wr.heap.size + 1) (some ⟨wr.heap.size, 0, none⟩) [P] := (Row.new wr [P]).below ((Below.refl _ _).drew.trans hb4') (Nat.le_refl _); have hb4 : Below wr.heap.size wr w4 := HAX.out.trans (hb4'.mono (by omega)); have hs4 : wr.heap.size + 1 ≤ w4.heap.size := by have := hb4'.size; simp at this; omega)
              | (refine step_app rfl (.tmp 107) (.tmp 110) rfl (wr.heap.size + 1) (wr.heap.size + 1) v1 ([] ++ H) [P] (some ⟨wr.heap.size, 0, none⟩) 1 (by simp [Act.eval]) (by simp [Act.eval]) hv1 hrx hs4 (by rw [List.length_append, HLEN.out]; simp only [List.length_nil, List.length_singleton]; omega) ?_; intro u2 w5 hu2' hg2; have hb5 : Below wr.heap.size wr w5 := hb4.trans ((Own.below hv1 hg2 hs4).mono (by omega)); have hu2 := hu2'.more (B' := wr.heap.size) (by omega)))
            all_goals
              rw [List.nil_append] at hu2
              obtain ⟨A5, c5, rfl, _, hr5⟩ := Own.row hu2
              have HR5 := Lib.hid hr5
              have HR2 := Lib.hid ((HHU.out.below hb5 (Nat.le_refl _)).more hb5.size)
              have HB5 := Lib.hid (HB.out.trans (hb5.mono HB.out.size))
              clear hu2 hr5 hb5 hg2
              rw [HL2.out]
              go_wp2_with fail
              (with_reducible refine (kC2.out _ HR2.out).mono ?_); rintro e x2 ⟨rfl, rfl⟩
              go_wp2_with fail
              (with_reducible refine (kM.out _ _ _ HR5.out).mono ?_); rintro e x4 ⟨rfl, rfl⟩
              go_wp2_with fail
              (with_reducible refine (kK.out _ HR2.out).mono ?_); rintro e x5 ⟨rfl, rfl⟩
              go_wp2_with fail
              go_ret
              exact ⟨rfl, HB5.out⟩
          · cases cb
            ·
              rw [hCM rfl] at kX
              have KA := Lib.hid kA; have KB := Lib.hid kB
              clear kA kB hCM hca hcb HBB
              go_wp2_with fail
              (with_reducible refine KA.out.mono ?_); rintro e x1 ⟨rfl, rfl⟩
              go_wp2_with fail
              (with_reducible refine KB.out.mono ?_); rintro e x1 ⟨rfl, rfl⟩
              go_wp2_with fail
              clear KA KB
              have HAX : Hid (Below wr.heap.size wr (wr.alloc (.cells #[.int .i64 P] 3)).drew) := Lib.hid (Joins.below_alloc1 wr _).drew
              go_region_law (first
                | (refine step_app rfl (.const (.slice none 0 0)) (.tmp 106) rfl wr.heap.size wr.heap.size (.slice none 0 0) [] H (some ad2) c2 (by simp [Act.eval]) (by rw [HLEN.out]; first | (simp [Act.eval]; done) | simp [Act.eval, Act.put]) (Own.nil _ _) HHU.out (Nat.le_refl _) (by rw [HLEN.out]; simp only [List.length_nil]; omega) ?_; intro u1 w4 hu1 hg1; have hb4 : Below wr.heap.size wr w4 := (Below.refl _ wr).drew.trans (Own.below (w := wr.drew) (Own.nil _ _) hg1 (Nat.le_refl _)))
                | (refine step_app rfl (.tmp 107) (.tmp 110) rfl wr.heap.size (w4.heap.size + 1) u1 ([] ++ H) [P] (some ⟨w4.heap.size, 0, none⟩) 1 (by simp [Act.eval]) (by simp [Act.eval]) (hu1.on (Joins.below_alloc1 w4 _)) (Row.new w4 [P]) (by have := hb4.size; simp; omega) (by rw [List.length_append, HLEN.out]; simp only [List.length_nil, List.length_singleton]; omega) ?_; intro u2 w5 hu2 hg2; have hb5 : Below wr.heap.size wr w5 := (hb4.trans ((Joins.below_alloc1 w4 _).mono hb4.size)).trans (Own.below (hu1.on (Joins.below_alloc1 w4 _)) hg2 (by have := hb4.size; simp; omega)))
                | (refine step_app rfl (.const (.slice none 0 0)) (.tmp 106) rfl (wr.heap.size + 1) wr.heap.size (.slice none 0 0) [] H (some ad2) c2 (by simp [Act.eval]) (by rw [HLEN.out]; first | (simp [Act.eval]; done) | simp [Act.eval, Act.put]) (Own.nil _ _) (HHU.out.below HAX.out (Nat.le_refl _)) (by simp) (by rw [HLEN.out]; simp only [List.length_nil]; omega) ?_; intro v1 w4 hv1 hg1; have hb4' := Own.below (Own.nil _ (wr.heap.size + 1)) hg1 (by simp); have hrx : Row w4 (wr.heap.size + 1) (some ⟨wr.heap.size, 0, none⟩) [P] := (Row.new wr [P]).below ((Below.refl _ _).drew.trans hb4') (Nat.le_refl _); have hb4 : Below wr.heap.size wr w4 := HAX.out.trans (hb4'.mono (by omega)); have hs4 : wr.heap.size + 1 ≤ w4.heap.size := by have := hb4'.size; simp at this; omega)
                | (refine step_app rfl (.tmp 107) (.tmp 110) rfl (wr.heap.size + 1) (wr.heap.size + 1) v1 ([] ++ H) [P] (some ⟨wr.heap.size, 0, none⟩) 1 (by simp [Act.eval]) (by simp [Act.eval]) hv1 hrx hs4 (by rw [List.length_append, HLEN.out]; simp only [List.length_nil, List.length_singleton]; omega) ?_; intro u2 w5 hu2' hg2; have hb5 : Below wr.heap.size wr w5 := hb4.trans ((Own.below hv1 hg2 hs4).mono (by omega)); have hu2 := hu2'.more (B' := wr.heap.size) (by omega)))
              all_goals
                rw [List.nil_append] at hu2
                obtain ⟨A5, c5, rfl, _, hr5⟩ := Own.row hu2
                have HR5 := Lib.hid hr5
                have HR2 := Lib.hid ((HHU.out.below hb5 (Nat.le_refl _)).more hb5.size)
                have HB5 := Lib.hid (HB.out.trans (hb5.mono HB.out.size))
                clear hu2 hr5 hb5 hg2
                rw [HL2.out]
                go_wp2_with fail
                (with_reducible refine (kC2.out _ HR2.out).mono ?_); rintro e x2 ⟨rfl, rfl⟩
                go_wp2_with fail
                (with_reducible refine (kX.out _ _ _ HR5.out).mono ?_); rintro e x3 ⟨rfl, rfl⟩
                go_wp2_with fail
                (with_reducible refine (kM.out _ _ _ HR5.out).mono ?_); rintro e x4 ⟨rfl, rfl⟩
                go_wp2_with fail
                (with_reducible refine (kK.out _ HR2.out).mono ?_); rintro e x5 ⟨rfl, rfl⟩
                go_wp2_with fail
                go_ret
                exact ⟨rfl, HB5.out⟩
            ·
              rw [hCM rfl] at kX
              have hbt := HBB.out rfl rfl
              subst hbt
              have KA := Lib.hid kA; have KB := Lib.hid kB
              clear kA kB hCM hca hcb HBB
              go_wp2_with fail
              (with_reducible refine KA.out.mono ?_); rintro e x1 ⟨rfl, rfl⟩
              go_wp2_with fail
              (with_reducible refine KB.out.mono ?_); rintro e x1 ⟨rfl, rfl⟩
              go_wp2_with fail
              clear KA KB
              have HAX : Hid (Below wr.heap.size wr (wr.alloc (.cells #[.int .i64 P] 3)).drew) := Lib.hid (Joins.below_alloc1 wr _).drew
              go_region_law (first
                | (refine step_app rfl (.const (.slice none 0 0)) (.tmp 106) rfl wr.heap.size wr.heap.size (.slice none 0 0) [] H (some ad2) c2 (by simp [Act.eval]) (by rw [HLEN.out]; first | (simp [Act.eval]; done) | simp [Act.eval, Act.put]) (Own.nil _ _) HHU.out (Nat.le_refl _) (by rw [HLEN.out]; simp only [List.length_nil]; omega) ?_; intro u1 w4 hu1 hg1; have hb4 : Below wr.heap.size wr w4 := (Below.refl _ wr).drew.trans (Own.below (w := wr.drew) (Own.nil _ _) hg1 (Nat.le_refl _)))
                | (refine step_app rfl (.tmp 107) (.tmp 110) rfl wr.heap.size (w4.heap.size + 1) u1 ([] ++ H) [P] (some ⟨w4.heap.size, 0, none⟩) 1 (by simp [Act.eval]) (by simp [Act.eval]) (hu1.on (Joins.below_alloc1 w4 _)) (Row.new w4 [P]) (by have := hb4.size; simp; omega) (by rw [List.length_append, HLEN.out]; simp only [List.length_nil, List.length_singleton]; omega) ?_; intro u2 w5 hu2 hg2; have hb5 : Below wr.heap.size wr w5 := (hb4.trans ((Joins.below_alloc1 w4 _).mono hb4.size)).trans (Own.below (hu1.on (Joins.below_alloc1 w4 _)) hg2 (by have := hb4.size; simp; omega)))
                | (refine step_app rfl (.const (.slice none 0 0)) (.tmp 106) rfl (wr.heap.size + 1) wr.heap.size (.slice none 0 0) [] H (some ad2) c2 (by simp [Act.eval]) (by rw [HLEN.out]; first | (simp [Act.eval]; done) | simp [Act.eval, Act.put]) (Own.nil _ _) (HHU.out.below HAX.out (Nat.le_refl _)) (by simp) (by rw [HLEN.out]; simp only [List.length_nil]; omega) ?_; intro v1 w4 hv1 hg1; have hb4' := Own.below (Own.nil _ (wr.heap.size + 1)) hg1 (by simp); have hrx : Row w4 (wr.heap.size + 1) (some ⟨wr.heap.size, 0, none⟩) [P] := (Row.new wr [P]).below ((Below.refl _ _).drew.trans hb4') (Nat.le_refl _); have hb4 : Below wr.heap.size wr w4 := HAX.out.trans (hb4'.mono (by omega)); have hs4 : wr.heap.size + 1 ≤ w4.heap.size := by have := hb4'.size; simp at this; omega)
                | (refine step_app rfl (.tmp 107) (.tmp 110) rfl (wr.heap.size + 1) (wr.heap.size + 1) v1 ([] ++ H) [P] (some ⟨wr.heap.size, 0, none⟩) 1 (by simp [Act.eval]) (by simp [Act.eval]) hv1 hrx hs4 (by rw [List.length_append, HLEN.out]; simp only [List.length_nil, List.length_singleton]; omega) ?_; intro u2 w5 hu2' hg2; have hb5 : Below wr.heap.size wr w5 := hb4.trans ((Own.below hv1 hg2 hs4).mono (by omega)); have hu2 := hu2'.more (B' := wr.heap.size) (by omega)))
              all_goals
                rw [List.nil_append] at hu2
                obtain ⟨A5, c5, rfl, _, hr5⟩ := Own.row hu2
                have HR5 := Lib.hid hr5
                have HR2 := Lib.hid ((HHU.out.below hb5 (Nat.le_refl _)).more hb5.size)
                have HB5 := Lib.hid (HB.out.trans (hb5.mono HB.out.size))
                clear hu2 hr5 hb5 hg2
                rw [HL2.out]
                go_wp2_with fail
                (with_reducible refine (kC2.out _ HR2.out).mono ?_); rintro e x2 ⟨rfl, rfl⟩
                go_wp2_with fail
                (with_reducible refine (kX.out _ _ _ HR5.out).mono ?_); rintro e x3 ⟨rfl, rfl⟩
                go_wp2_with fail
                (with_reducible refine (kM.out _ _ _ HR5.out).mono ?_); rintro e x4 ⟨rfl, rfl⟩
                go_wp2_with fail
                (with_reducible refine (kK.out _ HR2.out).mono ?_); rintro e x5 ⟨rfl, rfl⟩
                go_wp2_with fail
                go_ret
                exact ⟨rfl, HB5.out⟩

end Go.Proofs.Ytplnmkeopdmanaa

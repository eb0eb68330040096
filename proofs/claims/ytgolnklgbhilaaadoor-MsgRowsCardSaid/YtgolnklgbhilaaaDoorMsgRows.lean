/-
  The law MsgRows, walked.
-/
import Derived.Test.YtgolnklgbhilaaaDoorMsgRawL
namespace Go.Proofs.YtgolnklgbhilaaaDoor
open Go.RowKit

/-- Messages' bytes, one behind the other. -/
def catL (ms : List Msg) : List UInt8 := ms.flatMap encL
theorem catL_snoc (ms : List Msg) (m : Msg) : catL (ms ++ [m]) = catL ms ++ encL m := by
  unfold catL; rw [List.flatMap_append]; simp
theorem catL_length (ms : List Msg) (h : ∀ m ∈ ms, rightM m = true) : (catL ms).length ≤ 20 * ms.length := by
  induction ms with
  | nil => simp [catL]
  | cons m ms ih =>
    have h1 := encL_length (h m (by simp))
    have h2 := rightM_data (h m (by simp))
    have h3 := ih fun x hx => h x (by simp [hx])
    show (encL m ++ catL ms).length ≤ 20 * (ms.length + 1)
    rw [List.length_append]
    omega
theorem rows_right (d : ByteArray) (l : List Raw) : ∀ m ∈ l.map (rmsg d), rightM m = true := fun m hm => by
  obtain ⟨r, _, rfl⟩ := List.mem_map.1 hm
  exact rmsg_right d r
theorem catL_drop (ms : List Msg) (k : Nat) (m : Msg) (h : ms[k]? = some m) : catL (ms.drop k) = encL m ++ catL (ms.drop (k + 1)) := by
  obtain ⟨hk, he⟩ := List.getElem?_eq_some_iff.1 h
  rw [List.drop_eq_getElem_cons hk, he]; rfl
set_option maxRecDepth 100000 in
theorem dec_cut {m : Msg} (h : rightM m = true) (p : Nat) (hp : p < (encL m).length) : decE ((encL m).take p) = 3 := by
  have hl := encL_length h
  have hd := rightM_data h
  unfold decE
  by_cases h12 : p < 12
  · rw [if_pos (by rw [List.length_take]; omega)]
  · have hN : decN ((encL m).take p) = m.data.size := by
      unfold decN
      rw [List.getD_eq_getElem?_getD, List.getElem?_take_of_lt (by omega), ← List.getD_eq_getElem?_getD]
      obtain ⟨a, b, c, d, _, e⟩ := enc_shape h
      have : (encL m).getD 11 0 = octet m.data.size := by rw [e]; rfl
      rw [this]
      have := octet_nat m.data.size
      omega
    rw [if_neg (by rw [List.length_take]; omega), hN, if_neg (by omega), if_pos (by rw [List.length_take]; omega)]

set_option maxRecDepth 100000 in
set_option maxHeartbeats 8000000 in
theorem msgRows_walk (T : Told) (A : Option Addr) (c : Nat) (l : List Raw) (d : ByteArray) (at' : Int) (hd : d.size ≤ maxLen) (hat : (Lit.int .i64 at').wf = true) (w : World) (L : Laid w) (f0 : RowsOk w A c l) :
    Calls Tryd.prog 8 #[.slice A l.length c, .string d, .int .i64 at'] w fun e w' => e = .returned (.bool true) ∧ Below w.heap.size w w' := by
  obtain ⟨hrs, ⟨hlc, hcm⟩, hwf⟩ := f0
  unfold maxLen at hcm
  have cA := fun w L => awake_any T w L
  go_enter Tryd.func8, Tryd.ntmps8
  go_wp2_with fail
  refine (cA _ L).mono ?_; rintro e w1 ⟨rfl, b1⟩
  go_wp2_with fail
  go_loopw [8, 9] (fun sv i wr => ∃ k : Nat, k ≤ l.length ∧ k ≤ 8 ∧ i = .int .i64 (k : Int) ∧ sv = .string (txt (catL ((l.take k).map (rmsg d)))) ∧ Below w.heap.size w wr) (fun _ i _ => 8 - (intOf i).toNat)
  case atStart => exact ⟨0, by omega, by omega, rfl, rfl, b1⟩
  case round =>
    obtain ⟨k, hk, hk8, rfl, rfl, hb⟩ := hrel
    have HB := Lib.hid hb; clear hb
    have hcl : (catL ((l.take k).map (rmsg d))).length ≤ 160 := by
      have := catL_length _ (rows_right d (l.take k))
      rw [List.length_map, List.length_take] at this
      omega
    have hfin : ¬ (k < l.length ∧ k < 8) → (l.take 8).map (rmsg d) = (l.take k).map (rmsg d) := fun h => by
      congr 1
      rcases Nat.lt_or_ge k 8 with h8 | h8
      · rw [List.take_of_length_le (by omega), List.take_of_length_le (by omega)]
      · rw [show k = 8 by omega]
    have HFIN := Lib.hid hfin; clear hfin
    by_cases hlt : k < l.length ∧ k < 8
    · obtain ⟨hlt, h8⟩ := hlt
      have hltI : (k : Int) < (l.length : Int) := by omega
      have h8I : (k : Int) < 8 := by omega
      obtain ⟨r, hr⟩ : ∃ r, l[k]? = some r := ⟨_, List.getElem?_eq_getElem hlt⟩
      obtain ⟨ad, rfl, hadb, hcc⟩ := (hrs.below HB.out (Nat.le_refl _)) (by omega)
      obtain ⟨y0, y1, y2, y3, y4, y5⟩ := hcc k r hr
      have cM := fun w => rmsg_any r (hwf k r hr) d hd w
      have hmt := map_take d l k r hr
      have hri := rmsg_right d r
      have hd8 := rightM_data hri
      have cE := fun w L => T.enc (rmsg d r) w L (by unfold maxLen; omega)
      rw [encT_right hri, encE_right hri] at cE
      have hel := encL_length hri
      obtain ⟨S2, hS2⟩ : ∃ S2, S2 = catL ((l.take (k + 1)).map (rmsg d)) := ⟨_, rfl⟩
      have hcs : S2 = catL ((l.take k).map (rmsg d)) ++ encL (rmsg d r) := by rw [hS2, hmt, catL_snoc]
      have HS2 := Lib.hid hS2; clear hS2
      have hadd := add_txt (catL ((l.take k).map (rmsg d))) (encL (rmsg d r)) S2 hcs (by omega)
      have HADD := Lib.hid hadd.1
      have hov := hadd.2
      clear hadd hcc hmt hcs hel hd8 hri hcl
      generalize catL ((l.take k).map (rmsg d)) = S at *
      generalize txt S = X at *
      generalize rmsg d r = m at *
      generalize txt (encL m) = t at *
      go_wp2_with fail
      refine (cM _).mono ?_; rintro e w3 ⟨rfl, b3⟩
      clear y0 y1 y2 y3 y4 y5
      have HB3 := Lib.hid (HB.out.trans (b3.mono HB.out.size)); clear b3
      go_wp2_with fail
      refine (cE _ (L.below HB3.out)).mono ?_; rintro e w4 ⟨rfl, b4⟩
      have HB4 := Lib.hid (HB3.out.trans (b4.mono HB3.out.size)); clear b4
      go_wp2_with fail
      go_roundw
      case rel => exact ⟨k + 1, by omega, by omega, by go_num, by rw [HADD.out, HS2.out], HB4.out⟩
      case measure => simp [intOf]; omega
    · have hkr := rows_right d (l.take k)
      have hml : ((l.take k).map (rmsg d)).length = k := by rw [List.length_map, List.length_take]; omega
      have hmj : ∀ j r, l[j]? = some r → j < k → ((l.take k).map (rmsg d))[j]? = some (rmsg d r) := fun j r h hj => by rw [List.getElem?_map, List.getElem?_take_of_lt hj, h]; rfl
      clear hcl HFIN
      generalize (l.take k).map (rmsg d) = ms at *
      have HMJ := Lib.hid hmj; clear hmj
      have HKR := Lib.hid hkr; clear hkr
      have HK := Lib.hid (show (k : Int) = l.length ∨ ((k : Int) < l.length ∧ (k : Int) = 8) by omega)
      rcases (show ¬ (k : Int) < l.length ∨ ((k : Int) < l.length ∧ ¬ (k : Int) < 8) by omega) with hI | ⟨hI, hI8⟩
      all_goals
        go_wp2_with fail
        go_loopw [12, 13] (fun sv i wr2 => ∃ j : Nat, j ≤ k ∧ i = .int .i64 (j : Int) ∧ sv = .string (txt (catL (ms.drop j))) ∧ Below w.heap.size w wr2) (fun _ i _ => k - (intOf i).toNat)
        case atStart => exact ⟨0, by omega, rfl, rfl, HB.out⟩
        case round =>
          obtain ⟨j, hj, rfl, rfl, hb2⟩ := hrel
          have HB2 := Lib.hid hb2; clear hb2
          by_cases hlt2 : j < k
          · have hj8 : j < 8 := by omega
            have hjl : j < l.length := by omega
            have hltI : (j : Int) < (l.length : Int) := by omega
            have h8I : (j : Int) < 8 := by omega
            obtain ⟨r, hr⟩ : ∃ r, l[j]? = some r := ⟨_, List.getElem?_eq_getElem hjl⟩
            have hmk := HMJ.out j r hr hlt2
            have hri := rmsg_right d r
            have cM := fun w => rmsg_any r (hwf j r hr) d hd w
            obtain ⟨ad, rfl, hadb, hcc⟩ := hrs (by omega)
            have hA6 := hcc j r hr
            have hcd := catL_drop ms j _ hmk
            have hlen : (catL (ms.drop j)).length ≤ 160 := by
              have := catL_length (ms.drop j) (fun m hm => HKR.out m (List.mem_of_mem_drop hm))
              rw [List.length_drop] at this
              omega
            have hel := encL_length hri
            have hd8 := rightM_data hri
            have hlenI : 1 ≤ (txt (catL (ms.drop j))).size := by rw [txt_size, hcd, List.length_append]; omega
            have cD : ∀ w, Laid w → Calls Tryd.prog 18 #[.string (txt (catL (ms.drop j)))] w fun e w' => e = .returned (.tuple #[mv (rmsg d r), .string (txt (catL (ms.drop (j + 1)))), .int .i64 0]) ∧ Below w.heap.size w w' := fun w L => by
              have h := T.dec (txt (catL (ms.drop j))) w L (by rw [txt_size]; omega)
              unfold DecPost at h
              rw [txt_data, hcd] at h
              obtain ⟨d1, d2, d3⟩ := dec_enc hri (catL (ms.drop (j + 1)))
              rw [d1, d2, d3, ← hcd] at h
              exact h
            have hcut : j + 1 = k → ∀ p, p < (txt (catL (ms.drop j))).size → ∃ (Z : Msg) (V : ByteArray), ∀ w, Laid w → Calls Tryd.prog 18 #[.string (txt ((catL (ms.drop j)).take p))] w fun e w' => e = .returned (.tuple #[mv Z, .string V, .int .i64 3]) ∧ Below w.heap.size w w' := fun hjk p hp => by
              have hnil : catL (ms.drop (j + 1)) = [] := by rw [List.drop_of_length_le (by omega)]; rfl
              rw [hcd, hnil, List.append_nil] at hp ⊢
              rw [txt_size] at hp
              refine ⟨decR ((encL (rmsg d r)).take p), txt (decRest ((encL (rmsg d r)).take p)), fun w L => ?_⟩
              have h := T.dec (txt ((encL (rmsg d r)).take p)) w L (by rw [txt_size, List.length_take]; omega)
              unfold DecPost at h
              rw [txt_data, dec_cut hri p hp] at h
              exact h
            have hcut2 : ∀ (e : Int) (p : Nat), e = (p : Int) → p < (txt (catL (ms.drop j))).size → ∀ w, (Instr.slice 9 (.string (txt (catL (ms.drop j)))) none (some (.int .i64 e)) none).run Tryd.prog w = .ok (.string (txt ((catL (ms.drop j)).take p))) w := fun e p he hp w => by
              have h := run_to (txt (catL (ms.drop j))) e p he (by omega) w
              rwa [txt_data] at h
            have HCUT := Lib.hid hcut; clear hcut
            have HCUT2 := Lib.hid hcut2; clear hcut2
            have hEG := fun op p q w => eqM_guard op p q (rmsg d r) (rmsg d r) w
            have hNE := fun w => neqM (rmsg d r) (rmsg d r) w
            rw [show sameM (rmsg d r) (rmsg d r) = true from (sameM_iff _ _).2 rfl] at hNE
            have hpk := pick_any at' ((txt (catL (ms.drop j))).size : Int) hat (by omega)
            have hpr := pickI_range at' ((txt (catL (ms.drop j))).size : Int) (by omega)
            clear hcc hmk hri hcd hlen hel hd8 hr
            generalize catL (ms.drop j) = Sj at *
            obtain ⟨Y, hY⟩ : ∃ Y, Y = txt (catL (ms.drop (j + 1))) := ⟨_, rfl⟩
            rw [← hY] at cD
            have HY := Lib.hid hY; clear hY
            generalize rmsg d r = m at *
            simp only [mv] at hEG hNE cM cD
            have hL2 := L.below HB2.out
            go_wp2_with fail
            refine (cD _ hL2).mono ?_; rintro e w3 ⟨rfl, b3⟩
            have hM3 : MsgAt (w3.alloc (.cells (mc m) 25)) w3.heap.size m := heap_alloc_new w3 _
            have hb3 := (HB2.out.trans (b3.mono HB2.out.size)).trans ((Joins.below_alloc1 w3 (.cells (mc m) 25)).mono (Nat.le_trans HB2.out.size b3.size))
            go_wp2_with fail
            simp only [mc] at hM3 hb3
            generalize hW3 : w3.alloc (.cells #[.bool m.ext, .int .i64 m.n, .int .i64 m.sender, .int .i64 m.inc, .int .i64 m.seq, .int .i64 m.number, .string m.data] 25) = W3 at *
            generalize w3.heap.size = p3 at *
            have hB3 := Lib.hid hb3
            have hA63 : At6 W3 (ad.add (j * 6)) r := hA6.keep fun q hq => hb3.cell (by rw [hq, adb]; exact hadb)
            clear hW3 b3 hb3
            have hst : ∀ w', Below W3.heap.size W3 w' → ((w'.cell? ⟨p3, 0, none⟩ = some (.bool m.ext) ∧ w'.cell? ⟨p3, 1, none⟩ = some (.int .i64 m.n) ∧ w'.cell? ⟨p3, 2, none⟩ = some (.int .i64 m.sender) ∧ w'.cell? ⟨p3, 3, none⟩ = some (.int .i64 m.inc) ∧ w'.cell? ⟨p3, 4, none⟩ = some (.int .i64 m.seq) ∧ w'.cell? ⟨p3, 5, none⟩ = some (.int .i64 m.number) ∧ w'.cell? ⟨p3, 6, none⟩ = some (.string m.data)) ∧ (w'.cell? (ad.add (j * 6)) = some (.int .i64 r.r0) ∧ w'.cell? ⟨(ad.add (j * 6)).block, (ad.add (j * 6)).off + 1, none⟩ = some (.int .i64 r.r1) ∧ w'.cell? ⟨(ad.add (j * 6)).block, (ad.add (j * 6)).off + 2, none⟩ = some (.int .i64 r.r2) ∧ w'.cell? ⟨(ad.add (j * 6)).block, (ad.add (j * 6)).off + 3, none⟩ = some (.int .i64 r.r3) ∧ w'.cell? ⟨(ad.add (j * 6)).block, (ad.add (j * 6)).off + 4, none⟩ = some (.int .i64 r.r4) ∧ w'.cell? ⟨(ad.add (j * 6)).block, (ad.add (j * 6)).off + 5, none⟩ = some (.int .i64 r.r5)) ∧ Below W3.heap.size W3 w') := by
              intro w' hb
              obtain ⟨_, x0, x1, x2, x3, x4, x5, x6⟩ := Holds.of_blk (hM3.on hb)
              obtain ⟨y0, y1, y2, y3, y4, y5⟩ := hA63.keep (w' := w') fun q hq => hb.cell (Nat.lt_of_lt_of_le (by rw [hq, adb]; exact hadb) hB3.out.size)
              exact ⟨⟨x0, x1, x2, x3, x4, x5, x6⟩, ⟨y0, y1, y2, y3, y4, y5⟩, hb⟩
            have HST := Lib.hid hst
            obtain ⟨⟨x0, x1, x2, x3, x4, x5, x6⟩, ⟨y0, y1, y2, y3, y4, y5⟩, _⟩ := hst W3 (Below.refl _ _)
            clear hst
            have CM := Lib.hid cM; clear cM
            go_region_held3 (fun w' => (w'.cell? ⟨p3, 0, none⟩ = some (.bool m.ext) ∧ w'.cell? ⟨p3, 1, none⟩ = some (.int .i64 m.n) ∧ w'.cell? ⟨p3, 2, none⟩ = some (.int .i64 m.sender) ∧ w'.cell? ⟨p3, 3, none⟩ = some (.int .i64 m.inc) ∧ w'.cell? ⟨p3, 4, none⟩ = some (.int .i64 m.seq) ∧ w'.cell? ⟨p3, 5, none⟩ = some (.int .i64 m.number) ∧ w'.cell? ⟨p3, 6, none⟩ = some (.string m.data)) ∧ (w'.cell? (ad.add (j * 6)) = some (.int .i64 r.r0) ∧ w'.cell? ⟨(ad.add (j * 6)).block, (ad.add (j * 6)).off + 1, none⟩ = some (.int .i64 r.r1) ∧ w'.cell? ⟨(ad.add (j * 6)).block, (ad.add (j * 6)).off + 2, none⟩ = some (.int .i64 r.r2) ∧ w'.cell? ⟨(ad.add (j * 6)).block, (ad.add (j * 6)).off + 3, none⟩ = some (.int .i64 r.r3) ∧ w'.cell? ⟨(ad.add (j * 6)).block, (ad.add (j * 6)).off + 4, none⟩ = some (.int .i64 r.r4) ∧ w'.cell? ⟨(ad.add (j * 6)).block, (ad.add (j * 6)).off + 5, none⟩ = some (.int .i64 r.r5)) ∧ Below W3.heap.size W3 w') (first | assumption | exact HST.out _ (Below.refl _ _).drew | exact HST.out _ (((Below.refl _ _).drew).trans (by assumption))) (first | (go_at_call 16; refine (CM.out _).mono ?_; rintro e w4 ⟨rfl, b4⟩))
            have HB4 := Lib.hid (hB3.out.trans ((((Below.refl _ _).drew).trans b4).mono hB3.out.size))
            clear b4 HST x0 x1 x2 x3 x4 x5 x6 y0 y1 y2 y3 y4 y5 hM3 hA63 hEG hNE CM cD hB3
            have e1 : IntKind.i64.wrap ((l.length : Int) - 1) = (l.length : Int) - 1 := IntWalk.i64_in _ (by omega)
            by_cases hjk : j + 1 = k
            · have hq : (((j : Int) == (l.length : Int) - 1) = true) ∨ (((j : Int) == (l.length : Int) - 1) = false ∧ ((j : Int) == 7) = true) := by
                rcases HK.out with h | ⟨h, h8⟩
                · left; simp; omega
                · right; exact ⟨by simp; omega, by simp; omega⟩
              have hpe : pickI at' ((txt Sj).size : Int) = ((pickI at' ((txt Sj).size : Int)).toNat : Int) := by omega
              have hpl : (pickI at' ((txt Sj).size : Int)).toNat < (txt Sj).size := by omega
              obtain ⟨Z, V, cC⟩ := HCUT.out hjk _ hpl
              have ks := HCUT2.out _ _ hpe hpl
              clear hpe
              generalize txt (Sj.take (pickI at' ((txt Sj).size : Int)).toNat) = Q at *
              generalize pickI at' ((txt Sj).size : Int) = pi at *
              have hlenJ : (1 : Int) ≤ ((txt Sj).size : Int) := by omega
              generalize txt Sj = X at *
              have CC := Lib.hid cC; clear cC
              rcases hq with hq1 | ⟨hq1, hq7⟩
              all_goals
                go_wp2_with fail
                refine (hpk _).mono ?_; rintro e w5 ⟨rfl, rfl⟩
                go_wp2_with fail
                refine (CC.out _ (L.below HB4.out)).mono ?_; rintro e w6 ⟨rfl, b6⟩
                have HB6 := Lib.hid (HB4.out.trans (b6.mono HB4.out.size))
                have HB7 := Lib.hid (HB6.out.trans ((Joins.below_alloc1 w6 (.cells (mc Z) 25)).mono HB6.out.size))
                go_wp2_with fail
                go_roundw
                case rel => exact ⟨j + 1, by omega, by go_num, by rw [HY.out], HB7.out⟩
                case measure => simp [intOf]; omega
            · have hq1 : ((j : Int) == (l.length : Int) - 1) = false := by simp; omega
              have hq7 : ((j : Int) == 7) = false := by simp; omega
              clear hpk hpr hlenI HCUT HCUT2
              go_wp2_with fail
              go_roundw
              case rel => exact ⟨j + 1, by omega, by go_num, by rw [HY.out], HB4.out⟩
              case measure => simp [intOf]; omega
          · have ej : j = k := by omega
            subst ej
            have hnil : txt (catL (ms.drop j)) = ⟨#[]⟩ := by rw [List.drop_of_length_le (by omega)]; rfl
            rw [hnil]
            go_wp2_with fail
            go_ret
            exact ⟨rfl, HB2.out⟩

end Go.Proofs.YtgolnklgbhilaaaDoor

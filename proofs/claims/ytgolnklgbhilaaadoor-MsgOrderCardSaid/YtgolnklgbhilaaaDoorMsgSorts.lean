/-
  The law MsgSorts, walked.
-/
import Derived.Test.YtgolnklgbhilaaaDoorMsgRawL
namespace Go.Proofs.YtgolnklgbhilaaaDoor
open Go.RowKit

theorem same_true (l : List Msg) : sameL l l = true := (sameL_iff _ _).2 rfl
theorem sort_short (l : List Msg) (n : Nat) (h : l.length ≤ n) : (sortL l).length ≤ n := Nat.le_trans (sortL_length l) h

set_option maxRecDepth 100000 in
set_option maxHeartbeats 4000000 in
theorem msgSorts_walk (T : Told) (A : Option Addr) (c : Nat) (l : List Msg) (A1 : Option Addr) (c1 : Nat) (l1 : List Raw) (w : World) (L : Laid w) (f0 : MsgsOk w A c l) (f1 : RowsOk w A1 c1 l1) :
    Calls Tryd.prog 4 #[.slice A l.length c, .slice A1 l1.length c1] w fun e w' => e = .returned (.bool true) ∧ Below w.heap.size w w' := by
  obtain ⟨hms, ⟨hlc, hcm⟩, hds⟩ := f0
  obtain ⟨hrs, ⟨hlc1, hcm1⟩, hwf⟩ := f1
  unfold maxLen at hcm hcm1
  have hx : ∃ x : List Msg, x = l.take 12 ∧ (((l.length : Int) ≤ 12 ∧ ∀ w, (Instr.slice 40 (.slice A l.length c) none (some (.int .i64 (l.length : Int))) none).run Tryd.prog w = .ok (.slice A x.length c) w) ∨
      (12 < (l.length : Int) ∧ ∀ w, (Instr.slice 40 (.slice A l.length c) none (some (.int .i64 12)) none).run Tryd.prog w = .ok (.slice A x.length c) w)) := by
    refine ⟨_, rfl, ?_⟩
    rcases Nat.lt_or_ge 12 l.length with h | h
    · exact .inr ⟨by omega, run_takeM A c l hlc 12 (by omega)⟩
    · have := run_takeM A c l hlc l.length (Nat.le_refl _)
      rw [List.take_length] at this
      rw [List.take_of_length_le h]
      exact .inl ⟨by omega, this⟩
  obtain ⟨x, hxe, hx⟩ := hx
  have hxl : x.length ≤ 12 := by rw [hxe, List.length_take]; omega
  have hxm : Msgs w w.heap.size A x := by rw [hxe]; exact hms.front 12
  have hxd : ∀ (j : Nat) (m : Msg), x[j]? = some m → m.data.size ≤ 281474976710656 := fun j m h => by
    rw [hxe] at h
    have hj : j < 12 := by have := (List.getElem?_eq_some_iff.1 h).1; rw [List.length_take] at this; omega
    rw [List.getElem?_take_of_lt hj] at h
    have := hds j m h
    omega
  clear hms hds hxe
  have cA := fun w L => awake_any T w L
  rcases hx with ⟨hc, kx⟩ | ⟨hc, kx⟩
  all_goals
    go_enter Tryd.func4, Tryd.ntmps4
    go_wp2_with fail
    refine (cA _ L).mono ?_; rintro e w1 ⟨rfl, b1⟩
    go_wp2_with fail
    go_loopw [7, 8] (fun u i wr => ∃ k : Nat, k ≤ l1.length ∧ k ≤ 12 ∧ i = .int .i64 (k : Int) ∧ OwnM wr w.heap.size u ((l1.take k).map (rmsg ⟨#[]⟩)) ∧ Below w.heap.size w wr) (fun _ i _ => 12 - (intOf i).toNat)
    case atStart => exact ⟨0, by omega, by omega, rfl, OwnM.nil _ _, b1⟩
    case round =>
      obtain ⟨k, hk, hk12, rfl, hown, hb⟩ := hrel
      have HOWN := Lib.hid hown; clear hown
      have HB := Lib.hid hb; clear hb
      by_cases hlt : k < l1.length
      · by_cases h12 : k < 12
        · have hltI : (k : Int) < (l1.length : Int) := by omega
          have h12I : (k : Int) < 12 := by omega
          obtain ⟨r, hr⟩ : ∃ r, l1[k]? = some r := ⟨_, List.getElem?_eq_getElem hlt⟩
          obtain ⟨ad, rfl, hadb, hcc⟩ := (hrs.below HB.out (Nat.le_refl _)) (by omega)
          obtain ⟨y0, y1, y2, y3, y4, y5⟩ := hcc k r hr
          have cM := fun w => rmsg_any r (hwf k r hr) ⟨#[]⟩ (by decide) w
          have hmt := map_take ⟨#[]⟩ l1 k r hr
          have hol : ((l1.take k).map (rmsg ⟨#[]⟩)).length = k := by rw [List.length_map, List.length_take]; omega
          generalize (l1.take k).map (rmsg ⟨#[]⟩) = out at *
          generalize rmsg ⟨#[]⟩ r = m at *
          have HMT := Lib.hid hmt; clear hmt
          clear hcc
          go_wp2_with fail
          refine (cM _).mono ?_; rintro e w3 ⟨rfl, b3⟩
          clear y0 y1 y2 y3 y4 y5
          have HOWN3 := Lib.hid (HOWN.out.on b3)
          have HB3 := Lib.hid (HB.out.trans (b3.mono HB.out.size))
          clear b3 HOWN HB
          go_wp2_with (at_builtin; refine list_appM (by rfl) _ _ rfl w.heap.size (w3.alloc (.cells (mc m) 25)).heap.size _ out [m] (some ⟨w3.heap.size, 0, none⟩) 1 rfl rfl (own_one HOWN3.out m) (Msgs.one (heap_alloc_new w3 _)) (by have := HB3.out.size; simp; omega) (by simp; omega) ?_; intro u' w5 hown5 hg5)
          have HB5 := Lib.hid ((own_one HOWN3.out m).below hg5 (by have := HB3.out.size; simp; omega))
          go_roundw
          case rel => exact ⟨k + 1, by omega, by omega, by go_num, by rw [HMT.out]; exact hown5, (HB3.out.alloc HB3.out.size _).trans HB5.out⟩
          case measure => simp [intOf]; omega
        · have h12I : ¬ (k : Int) < 12 := by omega
          have hltI : (k : Int) < (l1.length : Int) := by omega
          have hol : ((l1.take k).map (rmsg ⟨#[]⟩)).length ≤ 12 := by rw [List.length_map, List.length_take]; omega
          have hyd := data_small (d := ⟨#[]⟩) (l := l1.take k)
          generalize (l1.take k).map (rmsg ⟨#[]⟩) = y at *
          obtain ⟨Ay, cy, rfl, hycap, hym⟩ := HOWN.out.row
          have HYM := Lib.hid hym; clear hym
          have hLr := L.below HB.out
          go_wp2_with fail
          refine (T.sort A c w.heap.size x _ hLr (hxm.below HB.out (Nat.le_refl _)) HB.out.size (by omega) hxd).mono ?_; rintro e w2 ⟨u2, rfl, h2, b2⟩
          have B2 := HB.out.trans (b2.mono HB.out.size)
          have hx2 := hxm.below B2 (Nat.le_refl _)
          go_wp2_with fail
          refine (refSort_any A c w.heap.size x w2 hx2 B2.size (by omega)).mono ?_; rintro e w3 ⟨u3, rfl, h3, b3⟩
          have B3 := B2.trans (b3.mono B2.size)
          obtain ⟨A2, c2, rfl, _, m2⟩ := (h2.on b3).row
          obtain ⟨A3, c3, rfl, _, m3⟩ := h3.row
          have hs1 := sort_short x 12 hxl
          go_wp2_with fail
          refine (same_any A2 A3 c2 c3 _ _ (sortL x) (sortL x) w3 m2 m3 (by unfold maxLen; omega)).mono ?_; rintro e w4 ⟨rfl, n4, rfl⟩
          rw [same_true]
          have B4 := below_drewN B3 n4
          have hy4 := HYM.out.below (below_drewN (below_trans b2 b3) n4) (Nat.le_refl _)
          go_wp2_with fail
          refine (T.sort Ay cy wr.heap.size y _ (L.below B4) hy4 (by have := b2.size; have := b3.size; show wr.heap.size ≤ w3.heap.size; omega) (by omega) hyd).mono ?_; rintro e w5 ⟨u5, rfl, h5, b5⟩
          have B5 := B4.trans (b5.mono B4.size)
          have hy5 := hy4.below b5 (by have := b2.size; have := b3.size; show wr.heap.size ≤ w3.heap.size; omega)
          go_wp2_with fail
          refine (refSort_any Ay cy wr.heap.size y w5 hy5 (by have := b2.size; have := b3.size; have h : w3.heap.size ≤ w5.heap.size := b5.size; omega) (by omega)).mono ?_; rintro e w6 ⟨u6, rfl, h6, b6⟩
          have B6 := B5.trans (b6.mono B5.size)
          obtain ⟨A5, c5, rfl, _, m5⟩ := (h5.on b6).row
          obtain ⟨A6, c6, rfl, _, m6⟩ := h6.row
          have hs2 := sort_short y 12 hol
          go_wp2_with fail
          refine (same_any A5 A6 c5 c6 _ _ (sortL y) (sortL y) w6 m5 m6 (by unfold maxLen; omega)).mono ?_; rintro e w7 ⟨rfl, n7, rfl⟩
          rw [same_true]
          go_wp2_with fail
          go_ret
          exact ⟨rfl, below_drewN B6 n7⟩
      · have hltI : ¬ (k : Int) < (l1.length : Int) := by omega
        have hol : ((l1.take k).map (rmsg ⟨#[]⟩)).length ≤ 12 := by rw [List.length_map, List.length_take]; omega
        have hyd := data_small (d := ⟨#[]⟩) (l := l1.take k)
        generalize (l1.take k).map (rmsg ⟨#[]⟩) = y at *
        obtain ⟨Ay, cy, rfl, hycap, hym⟩ := HOWN.out.row
        have HYM := Lib.hid hym; clear hym
        have hLr := L.below HB.out
        go_wp2_with fail
        refine (T.sort A c w.heap.size x _ hLr (hxm.below HB.out (Nat.le_refl _)) HB.out.size (by omega) hxd).mono ?_; rintro e w2 ⟨u2, rfl, h2, b2⟩
        have B2 := HB.out.trans (b2.mono HB.out.size)
        have hx2 := hxm.below B2 (Nat.le_refl _)
        go_wp2_with fail
        refine (refSort_any A c w.heap.size x w2 hx2 B2.size (by omega)).mono ?_; rintro e w3 ⟨u3, rfl, h3, b3⟩
        have B3 := B2.trans (b3.mono B2.size)
        obtain ⟨A2, c2, rfl, _, m2⟩ := (h2.on b3).row
        obtain ⟨A3, c3, rfl, _, m3⟩ := h3.row
        have hs1 := sort_short x 12 hxl
        go_wp2_with fail
        refine (same_any A2 A3 c2 c3 _ _ (sortL x) (sortL x) w3 m2 m3 (by unfold maxLen; omega)).mono ?_; rintro e w4 ⟨rfl, n4, rfl⟩
        rw [same_true]
        have B4 := below_drewN B3 n4
        have hy4 := HYM.out.below (below_drewN (below_trans b2 b3) n4) (Nat.le_refl _)
        go_wp2_with fail
        refine (T.sort Ay cy wr.heap.size y _ (L.below B4) hy4 (by have := b2.size; have := b3.size; show wr.heap.size ≤ w3.heap.size; omega) (by omega) hyd).mono ?_; rintro e w5 ⟨u5, rfl, h5, b5⟩
        have B5 := B4.trans (b5.mono B4.size)
        have hy5 := hy4.below b5 (by have := b2.size; have := b3.size; show wr.heap.size ≤ w3.heap.size; omega)
        go_wp2_with fail
        refine (refSort_any Ay cy wr.heap.size y w5 hy5 (by have := b2.size; have := b3.size; have h : w3.heap.size ≤ w5.heap.size := b5.size; omega) (by omega)).mono ?_; rintro e w6 ⟨u6, rfl, h6, b6⟩
        have B6 := B5.trans (b6.mono B5.size)
        obtain ⟨A5, c5, rfl, _, m5⟩ := (h5.on b6).row
        obtain ⟨A6, c6, rfl, _, m6⟩ := h6.row
        have hs2 := sort_short y 12 hol
        go_wp2_with fail
        refine (same_any A5 A6 c5 c6 _ _ (sortL y) (sortL y) w6 m5 m6 (by unfold maxLen; omega)).mono ?_; rintro e w7 ⟨rfl, n7, rfl⟩
        rw [same_true]
        go_wp2_with fail
        go_ret
        exact ⟨rfl, below_drewN B6 n7⟩

end Go.Proofs.YtgolnklgbhilaaaDoor

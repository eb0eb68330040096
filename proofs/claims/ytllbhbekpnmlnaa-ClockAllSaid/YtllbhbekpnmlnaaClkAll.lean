/-
  The law ClockAll.
-/
import Derived.Test.YtllbhbekpnmlnaaClkMids
namespace Go.Proofs.Ytllbhbekpnmlnaa
open Go.RowKit

def lessL (l : List Int) (x : Int) (k : Nat) : List Int := (l.take k).map (· + (-x))
theorem lessL_succ (l : List Int) (x : Int) (k : Nat) (y : Int) (h : l[k]? = some y) : lessL l x (k + 1) = lessL l x k ++ [y - x] := by
  obtain ⟨hk, e⟩ := List.getElem?_eq_some_iff.1 h
  unfold lessL
  rw [List.take_succ_eq_append_getElem hk, e, List.map_append]
  rfl
theorem lessL_all (l : List Int) (x : Int) : lessL l x l.length = l.map (· + (-x)) := by unfold lessL; rw [List.take_length]
theorem lessL_length (l : List Int) (x : Int) (k : Nat) : (lessL l x k).length ≤ l.length := by unfold lessL; rw [List.length_map, List.length_take]; omega
theorem less_corr (l : List Int) (d x : Int) (hd : 0 ≤ d ∧ d ≤ 7) (hl : l.length ≤ 16) (h : 2 * d < (l.length : Int)) (hr : ∀ y ∈ l, -1000 ≤ y ∧ y ≤ 1000) (hx : -1000 ≤ x ∧ x ≤ 1000) :
    midE d l = 0 ∧ corrI x d 3000 (l.map (· + (-x))) = midV d l := by
  have h1 : midE d l = 0 := midE_ok hd (fun y hy => by have := hr y hy; omega) (by omega) h
  have h2 : midE d (l.map (· + (-x))) = 0 := midE_ok hd (fun y hy => by
    obtain ⟨z, hz, rfl⟩ := List.mem_map.1 hy
    have := hr z hz; omega) (by rw [List.length_map]; omega) (by rw [List.length_map]; exact h)
  refine ⟨h1, ?_⟩
  have hne : l ≠ [] := by rintro rfl; simp at h; omega
  obtain ⟨b1, b2⟩ := mid_between l d h1
  have b3 := hr _ (lo_spec hne).1
  have b4 := hr _ (hi_spec hne).1
  rw [corr_ok h2 (by omega) (by omega) (by omega), mid_shift l (-x) d h1 h2]
  omega

set_option maxRecDepth 100000 in
set_option maxHeartbeats 2000000 in
theorem clockAll_walk (A0 : Option Addr) (c0 : Nat) (l0 : List Int) (a1 : Int) (w1 : (Lit.int .i64 a1).wf = true) (w : World) (f0 : IntsOk w A0 c0 l0) :
    Calls Try.prog 9 #[.slice A0 l0.length c0, .int .i64 a1] w fun e w' => e = .returned (.bool true) ∧ Below w.heap.size w w' := by
  have P0 := Lib.hid (fun W => pick_any a1 6 w1 (by omega) W)
  obtain ⟨k0, k1⟩ := pickI_range a1 6 (by omega)
  generalize pickI a1 6 = K at *
  have CD1 := Lib.hid (fun W hb => devs_any A0 c0 l0 16 1000 (by omega) (by omega) w W f0 hb)
  have ha := devsI_length l0 16 1000
  have har := devsI_range (l := l0) (n := 16) (b := 1000) (by omega)
  generalize devsI l0 16 1000 = l at *
  have hl16 : l.length ≤ 16 := by omega
  clear ha w1 f0
  by_cases hlt : (l.length : Int) ≤ 2 * K
  · clear har
    go_enter Try.func9, Try.ntmps9
    go_wp2_with fail; refine (awake_any _).mono ?_; rintro e w1 ⟨rfl, b1⟩
    have HB1 := Lib.hid b1; clear b1
    go_wp2_with fail; (refine (CD1.out _ HB1.out).mono ?_); rintro e w2 ⟨u, rfl, ho, b2⟩
    obtain ⟨A, cp, rfl, hcc, hrow⟩ := ho.row
    have HB2 := Lib.hid (HB1.out.trans (b2.mono HB1.out.size)); clear b2 ho hrow
    go_wp2_with fail; (with_reducible refine (P0.out _).mono ?_); rintro e w3 ⟨rfl, rfl⟩
    go_wp2_with fail
    go_ret
    exact ⟨rfl, HB2.out⟩
  · have HAR := Lib.hid har; clear har
    have CM := Lib.hid (fun A cp W h => middle_any K A cp l W h (by unfold maxLen; omega))
    have HMK := Lib.hid (fun (x : Int) hx => less_corr l K x (by omega) hl16 (by omega) HAR.out hx)
    have CC := Lib.hid (fun x A cp W h => correct_any x K 3000 (by omega) A cp (l.map (· + (-x))) W h (by rw [List.length_map]; unfold maxLen; omega))
    go_enter Try.func9, Try.ntmps9
    go_wp2_with fail; refine (awake_any _).mono ?_; rintro e w1 ⟨rfl, b1⟩
    have HB1 := Lib.hid b1; clear b1
    go_wp2_with fail; (refine (CD1.out _ HB1.out).mono ?_); rintro e w2 ⟨u, rfl, ho, b2⟩
    obtain ⟨A, cp, rfl, hcc, hrow⟩ := ho.row
    have HR2 := Lib.hid hrow
    have HB2 := Lib.hid (HB1.out.trans (b2.mono HB1.out.size)); clear b2 ho hrow
    go_wp2_with fail; (with_reducible refine (P0.out _).mono ?_); rintro e w3 ⟨rfl, rfl⟩
    go_wp2_with fail
    have HW0 := Lib.hid (Below.refl w2.heap.size w2)
    clear CD1 P0
    go_loopw [8] (fun i wr => ∃ k : Nat, k ≤ l.length ∧ i = .int .i64 k ∧ Below w2.heap.size w2 wr) (fun i _ => l.length - (intOf i).toNat)
    case atStart => exact ⟨0, by omega, rfl, HW0.out⟩
    case round =>
      obtain ⟨k, hk, rfl, hb⟩ := hrel
      have HB := Lib.hid hb; clear hb HW0
      generalize wr = wq at *
      by_cases hkl : k < l.length
      · have hkI : (k : Int) < (l.length : Int) := by omega
        obtain ⟨x, hx⟩ : ∃ x, l[k]? = some x := ⟨_, List.getElem?_eq_getElem hkl⟩
        have hxr := HAR.out x (List.mem_of_getElem? hx)
        obtain ⟨hme, hmc⟩ := HMK.out x hxr
        have HX := Lib.hid hx
        have HMC := Lib.hid hmc
        have HME := Lib.hid hme
        have HO0 := Lib.hid (Own.nil wq wq.heap.size)
        have HL0 : Hid (lessL l x 0 = []) := Lib.hid rfl
        clear hx hme hmc
        obtain ⟨ad, hA, hadb, hc⟩ := HR2.out (by omega)
        subst hA
        have HC := Lib.hid hc; clear hc
        go_wp2_with fail
        go_loopw [9, 10] (fun u j wr => ∃ q : Nat, q ≤ l.length ∧ j = .int .i64 q ∧ Own wr wq.heap.size u (lessL l x q) ∧ Below wq.heap.size wq wr) (fun _ j _ => l.length - (intOf j).toNat)
        case atStart => exact ⟨0, by omega, rfl, by rw [HL0.out]; exact HO0.out, Below.refl _ _⟩
        case round =>
          obtain ⟨q, hq, rfl, ho, hb⟩ := hrel
          have HB3 := Lib.hid hb; clear hb
          have HO := Lib.hid ho; clear ho HO0
          by_cases hql : q < l.length
          · have hqI : (q : Int) < (l.length : Int) := by omega
            obtain ⟨y, hy⟩ : ∃ y, l[q]? = some y := ⟨_, List.getElem?_eq_getElem hql⟩
            have hyr := HAR.out y (List.mem_of_getElem? hy)
            have HT := Lib.hid (lessL_succ l x q y hy)
            have HBZ : Hid (Below w2.heap.size w2 wr) := Lib.hid (HB.out.trans (HB3.out.mono HB.out.size))
            have g1 : wr.cell? (ad.add k) = some (.int .i64 x) := (HBZ.out.cell (by rw [adb]; exact hadb)).trans (HC.out k x HX.out)
            have g2 : wr.cell? (ad.add q) = some (.int .i64 y) := (HBZ.out.cell (by rw [adb]; exact hadb)).trans (HC.out q y hy)
            have hll := lessL_length l x q
            have hsz := HB3.out.size
            obtain ⟨lq, hlq⟩ : ∃ z, lessL l x q = z := ⟨_, rfl⟩
            rw [hlq] at HO HT hll
            have hw1 : IntKind.i64.wrap (y - x) = y - x := IntWalk.i64_in _ (by omega)
            clear hy hlq
            go_wp2_with fail
            go_region_law (refine step_app rfl (.tmp 36) (.tmp 46) rfl wq.heap.size (wr.heap.size + 1) _ lq [y - x] (some ⟨wr.heap.size, 0, none⟩) 1 (by simp [Act.eval]) (by simp [Act.eval]) (HO.out.on (Joins.below_alloc1 wr _).drew) ((Row.new wr [y - x]).below (Below.refl _ _).drew (Nat.le_refl _)) (by simp; omega) (by simp only [List.length_singleton]; omega) ?_; intro u3 w4 hu3 hg3)
            all_goals
              have HU3 : Hid (Own w4 wq.heap.size u3 (lessL l x (q + 1))) := Lib.hid (by rw [HT.out]; exact hu3)
              have HB4 := Lib.hid (HB3.out.trans (((Joins.below_alloc1 wr (.cells #[.int .i64 (y - x)] 3)).drew.mono HB3.out.size).trans (Own.below (HO.out.on (Joins.below_alloc1 wr _).drew) hg3 (by simp; omega))))
              clear hu3 hg3 g1 g2 HO HB3
              go_wp2_with fail
              go_roundw
              case rel => exact ⟨q + 1, by omega, by go_num, HU3.out, HB4.out⟩
              case measure => simp [intOf]; omega
          · have eq : q = l.length := by omega
            have hqI : ¬ (q : Int) < (l.length : Int) := by omega
            have ho := HO.out
            rw [eq, lessL_all] at ho
            obtain ⟨A5, c5, rfl, hc5, hr5⟩ := ho.row
            have HR5 := Lib.hid hr5
            have HBZ : Hid (Below w2.heap.size w2 wr) := Lib.hid (HB.out.trans (HB3.out.mono HB.out.size))
            have CM5 := Lib.hid (CM.out _ cp _ (HR2.out.below HBZ.out (Nat.le_refl _) |>.more HBZ.out.size))
            rw [HME.out] at CM5
            clear ho hr5 HO eq
            go_wp2_with fail; (with_reducible refine CM5.out.mono ?_); rintro e w6 ⟨rfl, b6⟩
            have HB6 := Lib.hid (HBZ.out.trans (b6.mono HBZ.out.size))
            have CC6 := Lib.hid (CC.out x _ c5 _ (HR5.out.on b6))
            rw [HMC.out, List.length_map] at CC6
            have g1 : w6.cell? (ad.add k) = some (.int .i64 x) := (HB6.out.cell (by rw [adb]; exact hadb)).trans (HC.out k x HX.out)
            clear b6 HR5 CM5 HBZ HB3
            generalize midV K l = M at *
            go_wp2_with fail; (with_reducible refine CC6.out.mono ?_); rintro e w7 ⟨rfl, b7⟩
            have HB7 := Lib.hid (HB6.out.trans (b7.mono HB6.out.size))
            clear b7 g1 CC6
            go_wp2_with fail
            go_roundw
            case rel => exact ⟨k + 1, by omega, by go_num, HB7.out⟩
            case measure => simp [intOf]; omega
      · have hkI : ¬ (k : Int) < (l.length : Int) := by omega
        go_wp2_with fail
        go_ret
        exact ⟨rfl, HB2.out.trans (HB.out.mono HB2.out.size)⟩

end Go.Proofs.Ytllbhbekpnmlnaa

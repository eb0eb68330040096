/-
  The law ClockSteps.
-/
import Derived.Test.YtllbhbekpnmlnaaClkTicks
import Derived.Deep.DeepCutAuto
namespace Go.Proofs.Ytllbhbekpnmlnaa
open Go.RowKit

theorem corr_bad {o d most : Int} {l : List Int} (h : midE d l ≠ 0 ∨ most < 0) : corrI o d most l = o := by
  unfold corrI
  rw [if_neg (by rintro ⟨a, b⟩; rcases h with h | h <;> omega)]
theorem corr_ok {o d most : Int} {l : List Int} (h : midE d l = 0) (hm : 0 ≤ most) (ho : -1099511627776 ≤ o ∧ o ≤ 1099511627776) (hb : most ≤ 1099511627776) : corrI o d most l = o + min (max (midV d l) (-most)) most := by
  unfold corrI
  rw [if_pos ⟨h, hm⟩, w64 _ (by omega) (by omega)]
theorem corr_two (o b : Int) (hb : 0 ≤ b) (ho : -1099511627776 ≤ o ∧ o ≤ 1099511627776) (hb2 : b ≤ 1099511627776) : corrI o 0 b [0, 0] = o := by
  rw [corr_ok (by decide) hb ho hb2, show midV 0 [0, 0] = 0 from by decide]
  omega

theorem new_row (W : World) (l : List Int) : Row (W.alloc (.cells (l.map (Value.int .i64)).toArray 3)) (W.alloc (.cells (l.map (Value.int .i64)).toArray 3)).heap.size (some ⟨W.heap.size, 0, none⟩) l := by rw [World.size_alloc]; exact Row.new W l

set_option maxRecDepth 100000 in
set_option maxHeartbeats 600000 in
theorem clockSteps_walk (a0 a1 a2 : Int) (A3 : Option Addr) (c3 : Nat) (l3 : List Int) (w0 : (Lit.int .i64 a0).wf = true) (w1 : (Lit.int .i64 a1).wf = true) (w2 : (Lit.int .i64 a2).wf = true) (w : World) (f3 : IntsOk w A3 c3 l3) :
    Calls Try.prog 7 #[.int .i64 a0, .int .i64 a1, .int .i64 a2, .slice A3 l3.length c3] w fun e w' => e = .returned (.bool true) ∧ Below w.heap.size w w' := by
  have P0 := Lib.hid (fun W => pick_any a0 1099511627776 w0 (by omega) W)
  have P1 := Lib.hid (fun W => pick_any a1 4 w1 (by omega) W)
  have P2 := Lib.hid (fun W => pick_any a2 500 w2 (by omega) W)
  obtain ⟨o0, o1⟩ := pickI_range a0 1099511627776 (by omega)
  obtain ⟨k0, k1⟩ := pickI_range a1 4 (by omega)
  obtain ⟨b0, b1⟩ := pickI_range a2 500 (by omega)
  obtain ⟨P, hP⟩ : ∃ P, pickI a0 1099511627776 = P + 549755813888 := ⟨pickI a0 1099511627776 - 549755813888, by omega⟩
  rw [hP] at P0 o0 o1
  have o2 : -549755813888 ≤ P := by omega
  have o3 : P ≤ 549755813888 := by omega
  clear hP o0 o1
  generalize pickI a1 4 = K at *
  generalize pickI a2 500 = B at *
  have CD := Lib.hid (fun W hb => devs_any A3 c3 l3 30 1000 (by omega) (by omega) w W f3 hb)
  have hdl := devsI_length l3 30 1000
  have hdr := devsI_range (l := l3) (n := 30) (b := 1000) (by omega)
  generalize devsI l3 30 1000 = l at *
  have hl30 : l.length ≤ 30 := by omega
  have CC := Lib.hid (fun A c W h => correct_any P K B (by omega) A c l W h (by unfold maxLen; omega))
  have CM := Lib.hid (fun A c W h => middle_any K A c l W h (by unfold maxLen; omega))
  have CT : Hid (∀ W : World, Calls Try.prog 18 #[.int .i64 P, .int .i64 0, .int .i64 B, .slice (some ⟨W.heap.size, 0, none⟩) 2 2] (W.alloc (.cells #[.int .i64 0, .int .i64 0] 3)) fun e w' => e = .returned (.int .i64 P) ∧ Below W.heap.size W w') := Lib.hid (fun W => by
    have := correct_any P 0 B (by omega) _ 2 _ _ (new_row W [0, 0]) (by decide)
    rw [corr_two _ _ b0 (by omega) (by omega)] at this
    refine this.mono fun e w' ⟨h1, h2⟩ => ⟨h1, ?_⟩
    have hh := Joins.below_alloc1 W (.cells #[.int .i64 0, .int .i64 0] 3)
    exact hh.trans (h2.mono hh.size))
  have CN := Lib.hid (fun A c W h => correct_any P K (-1 - B) (by omega) A c l W h (by unfold maxLen; omega))
  have HN := Lib.hid (corr_bad (o := P) (d := K) (most := -1 - B) (l := l) (.inr (by omega)))
  rw [HN.out] at CN
  clear hdl hdr HN f3 w0 w1 w2
  by_cases he : midE K l = 0
  · have hc := corr_ok (l := l) he b0 (o := P) (by omega) (by omega)
    rw [he] at CM
    have hmr : -1000000 ≤ midV K l → True := fun _ => trivial
    clear hmr he
    generalize corrI P K B l = N at *
    generalize midV K l = M at *
    have n1 : N - P ≤ B := by omega
    have n2 : P - N ≤ B := by omega
    have n3 : -549755814888 ≤ N := by omega
    have n4 : N ≤ 549755814888 := by omega
    have h3 : (B < M ∧ (N == P + B) = true) ∨ (¬ B < M ∧ M < -B ∧ (N == P - B) = true) ∨ (¬ B < M ∧ ¬ M < -B ∧ (N == P + M) = true) := by
      simp only [beq_iff_eq]
      omega
    clear hc
    rcases h3 with ⟨q1, qn⟩ | ⟨q1, q2, qn⟩ | ⟨q1, q2, qn⟩
    all_goals
      go_enter Try.func7, Try.ntmps7
      go_wp2_with fail; refine (awake_any _).mono ?_; rintro e w1 ⟨rfl, b⟩
      have HB1 := Lib.hid b; clear b
      go_wp2_with fail; (with_reducible refine (P0.out _).mono ?_); rintro e w2 ⟨rfl, rfl⟩
      go_wp2_with fail; (with_reducible refine (P1.out _).mono ?_); rintro e w2 ⟨rfl, rfl⟩
      go_wp2_with fail; (with_reducible refine (P2.out _).mono ?_); rintro e w2 ⟨rfl, rfl⟩
      go_wp2_with fail; (refine (CD.out _ HB1.out).mono ?_); rintro e w2 ⟨u, rfl, ho, b⟩
      obtain ⟨A, c, rfl, hcc, hrow⟩ := ho.row
      have HR2 := Lib.hid hrow; clear hrow ho
      have HB2 := Lib.hid (HB1.out.trans (b.mono HB1.out.size)); clear b
      go_wp2_with fail; (with_reducible refine (CC.out _ _ _ HR2.out).mono ?_); rintro e w3 ⟨rfl, b⟩
      have HR3 := Lib.hid (HR2.out.on b)
      have HB3 := Lib.hid (HB2.out.trans (b.mono HB2.out.size)); clear b
      go_wp2_with fail; (with_reducible refine (CM.out _ _ _ HR3.out).mono ?_); rintro e w4 ⟨rfl, b⟩
      have HR4 := Lib.hid (HR3.out.on b)
      have HB4 := Lib.hid (HB3.out.trans (b.mono HB3.out.size)); clear b
      go_upto_region 10 with fail
      dsimp only [List.append]
      go_wp2_with fail; (with_reducible refine (CT.out _).mono ?_); rintro e w5 ⟨rfl, b⟩
      have HR5 := Lib.hid (HR4.out.on b)
      have HB5 := Lib.hid (HB4.out.trans (b.mono HB4.out.size)); clear b
      go_wp2_with fail; (with_reducible refine (CN.out _ _ _ HR5.out).mono ?_); rintro e w6 ⟨rfl, b⟩
      have HB6 := Lib.hid (HB5.out.trans (b.mono HB5.out.size)); clear b
      go_wp2_with fail
      go_ret
      exact ⟨rfl, HB6.out⟩
  · have hc := corr_bad (o := P) (d := K) (most := B) (l := l) (.inl he)
    rw [hc] at CC
    have hne : (midE K l != 0) = true := by simpa using he
    clear he hc
    generalize midE K l = E at *
    generalize midV K l = M at *
    go_enter Try.func7, Try.ntmps7
    go_wp2_with fail; refine (awake_any _).mono ?_; rintro e w1 ⟨rfl, b⟩
    have HB1 := Lib.hid b; clear b
    go_wp2_with fail; (with_reducible refine (P0.out _).mono ?_); rintro e w2 ⟨rfl, rfl⟩
    go_wp2_with fail; (with_reducible refine (P1.out _).mono ?_); rintro e w2 ⟨rfl, rfl⟩
    go_wp2_with fail; (with_reducible refine (P2.out _).mono ?_); rintro e w2 ⟨rfl, rfl⟩
    go_wp2_with fail; (refine (CD.out _ HB1.out).mono ?_); rintro e w2 ⟨u, rfl, ho, b⟩
    obtain ⟨A, c, rfl, hcc, hrow⟩ := ho.row
    have HR2 := Lib.hid hrow; clear hrow ho
    have HB2 := Lib.hid (HB1.out.trans (b.mono HB1.out.size)); clear b
    go_wp2_with fail; (with_reducible refine (CC.out _ _ _ HR2.out).mono ?_); rintro e w3 ⟨rfl, b⟩
    have HR3 := Lib.hid (HR2.out.on b)
    have HB3 := Lib.hid (HB2.out.trans (b.mono HB2.out.size)); clear b
    go_wp2_with fail; (with_reducible refine (CM.out _ _ _ HR3.out).mono ?_); rintro e w4 ⟨rfl, b⟩
    have HB4 := Lib.hid (HB3.out.trans (b.mono HB3.out.size)); clear b
    go_wp2_with fail
    go_ret
    exact ⟨rfl, HB4.out⟩

end Go.Proofs.Ytllbhbekpnmlnaa

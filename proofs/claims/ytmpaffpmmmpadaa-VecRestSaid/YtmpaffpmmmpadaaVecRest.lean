/-
  The law VecRest: a number counts as what it leaves, divided by 65536; a node that there may not be changes nothing.
-/
import Derived.Test.YtmpaffpmmmpadaaVecAlls
namespace Go.Proofs.Ytmpaffpmmmpadaa
open Go.RowKit

set_option maxHeartbeats 2000000 in
theorem vecRest_walk (a0 a1 a2 a3 : Int) (w0 : (Lit.int .i64 a0).wf = true) (w1 : (Lit.int .i64 a1).wf = true) (_w2 : (Lit.int .i64 a2).wf = true) (w3 : (Lit.int .i64 a3).wf = true) (w : World) :
    Calls Try.prog 8 #[.int .i64 a0, .int .i64 a1, .int .i64 a2, .int .i64 a3] w fun e w' => e = .returned (.bool true) ∧ Below w.heap.size w w' := by
  have p0 := fun w => pick_any a0 65536 w0 (by omega) w
  have p1 := fun w => pick_any a1 2001 w1 (by omega) w
  have p3 := fun w => pick_any a3 18 w3 (by omega) w
  obtain ⟨hr0, hr1⟩ := pickI_range a0 65536 (by omega)
  obtain ⟨hs0, hs1⟩ := pickI_range a1 2001 (by omega)
  obtain ⟨ht0, ht1⟩ := pickI_range a3 18 (by omega)
  generalize pickI a0 65536 = a at *
  generalize pickI a1 2001 = c at *
  generalize pickI a3 18 = q at *
  clear w0 w1 w3
  have hmd : md (a + 65536 * (c - 1000)) = md a := md_more a (c - 1000)
  have hma : (md a : Int) = a := md_of a hr0 (by omega)
  have h1 := fun w => has_any a a2 w
  have h2 := fun w => with_any a a2 w
  have h3 := fun w => without_any a a2 w
  have h4 := fun w => most_any a (q - 1) w
  have h5 := fun w => count_any a w
  have h6 := fun w => list_any a w
  have g1 := fun w => has_any (a + 65536 * (c - 1000)) a2 w
  have g2 := fun w => with_any (a + 65536 * (c - 1000)) a2 w
  have g3 := fun w => without_any (a + 65536 * (c - 1000)) a2 w
  have g4 := fun w => most_any (a + 65536 * (c - 1000)) (q - 1) w
  have g5 := fun w => count_any (a + 65536 * (c - 1000)) w
  have g6 := fun w => list_any (a + 65536 * (c - 1000)) w
  rw [show hasB (a + 65536 * (c - 1000)) a2 = hasB a a2 from by unfold hasB; rw [hmd]] at g1
  rw [show withI (a + 65536 * (c - 1000)) a2 = withI a a2 from by unfold withI; rw [hmd]] at g2
  rw [show withoutI (a + 65536 * (c - 1000)) a2 = withoutI a a2 from by unfold withoutI hasB; rw [hmd]] at g3
  rw [show mostB (a + 65536 * (c - 1000)) (q - 1) = mostB a (q - 1) from by unfold mostB; rw [hmd]] at g4
  rw [show countI (a + 65536 * (c - 1000)) = countI a from by unfold countI; rw [hmd]] at g5
  rw [show listI (a + 65536 * (c - 1000)) = listI a from by unfold listI; rw [hmd]] at g6
  have hl16 := listI_length a
  have gi := fun (A A' : Option Addr) (c c' B B' : Nat) (w : World) (ha : Row w B A (listI a)) (hb : Row w B' A' (listI a)) => ints_any A A' c c' B B' (listI a) (listI a) w ha hb (by unfold maxLen; omega)
  rw [show decide (listI a = listI a) = true from by simp] at gi
  have k1 := hasB_off a a2
  have k2 := with_off a a2
  have k3 := fun h => without_off a a2 (hasB_off a a2 h)
  rw [hma] at k2 k3
  clear hmd hma
  generalize hasB a a2 = x1 at *
  generalize withI a a2 = x2 at *
  generalize withoutI a a2 = x3 at *
  generalize mostB a (q - 1) = x4 at *
  generalize countI a = x5 at *
  generalize listI a = l at *
  have K1 := Lib.hid k1; clear k1
  have K2 := Lib.hid k2; clear k2
  have K3 := Lib.hid k3; clear k3
  rcases (show (0 ≤ a2 ∧ a2 ≤ 15) ∨ a2 < 0 ∨ 15 < a2 by omega) with ⟨hn0, hn1⟩ | hn | hn
  · go_enter Try.func8, Try.ntmps8
    go_wp2_with fail; refine (awake_any _).mono ?_; rintro e w1 ⟨rfl, b1⟩
    go_wp2_with fail; refine (p0 _).mono ?_; rintro e w2 ⟨rfl, rfl⟩
    go_wp2_with fail; refine (p1 _).mono ?_; rintro e w2 ⟨rfl, rfl⟩
    go_wp2_with fail; refine (p3 _).mono ?_; rintro e w2 ⟨rfl, rfl⟩
    go_wp2_with fail; refine (h1 _).mono ?_; rintro e w2 ⟨rfl, rfl⟩
    go_wp2_with fail; refine (g1 _).mono ?_; rintro e w2 ⟨rfl, rfl⟩
    go_wp2_with fail; refine (h2 _).mono ?_; rintro e w2 ⟨rfl, rfl⟩
    go_wp2_with fail; refine (g2 _).mono ?_; rintro e w2 ⟨rfl, rfl⟩
    go_wp2_with fail; refine (h3 _).mono ?_; rintro e w2 ⟨rfl, rfl⟩
    go_wp2_with fail; refine (g3 _).mono ?_; rintro e w2 ⟨rfl, rfl⟩
    go_wp2_with fail; refine (h4 _).mono ?_; rintro e w2 ⟨rfl, b2⟩
    go_wp2_with fail; refine (g4 _).mono ?_; rintro e w3 ⟨rfl, b3⟩
    go_wp2_with fail; refine (h5 _).mono ?_; rintro e w4 ⟨rfl, b4⟩
    go_wp2_with fail; refine (g5 _).mono ?_; rintro e w5 ⟨rfl, b5⟩
    go_wp2_with fail; refine (h6 _).mono ?_; rintro e w6 ⟨u6, rfl, r6, b6⟩
    obtain ⟨A6, c6, rfl, _, i6⟩ := Row.of_own r6; clear r6
    go_wp2_with fail; refine (g6 _).mono ?_; rintro e w7 ⟨u7, rfl, r7, b7⟩
    obtain ⟨A7, c7, rfl, _, i7⟩ := Row.of_own r7; clear r7
    have j6 := i6.below b7 (Nat.le_refl _); clear i6
    go_wp2_with fail; refine (gi _ _ _ _ _ _ _ j6 i7).mono ?_; rintro e w8 ⟨rfl, n8, rfl⟩
    go_wp2_with fail
    go_ret
    have s1 := b1.size
    have s2 := b2.size
    have s3 := b3.size
    have s4 := b4.size
    have s5 := b5.size
    have s6 := b6.size
    have s7 := b7.size
    exact ⟨rfl, below_drewN ((((((b1.trans (b2.mono (by omega))).trans (b3.mono (by omega))).trans (b4.mono (by omega))).trans (b5.mono (by omega))).trans (b6.mono (by omega))).trans (b7.mono (by omega))) _⟩
  · have e1 : x1 = false := K1.out (by omega)
    have e2 : a = x2 := K2.out (by omega)
    have e3 : a = x3 := K3.out (by omega)
    subst e1
    rw [← e2] at h2 g2
    rw [← e3] at h3 g3
    clear e2 e3 K1 K2 K3
    go_enter Try.func8, Try.ntmps8
    go_wp2_with fail; refine (awake_any _).mono ?_; rintro e w1 ⟨rfl, b1⟩
    go_wp2_with fail; refine (p0 _).mono ?_; rintro e w2 ⟨rfl, rfl⟩
    go_wp2_with fail; refine (p1 _).mono ?_; rintro e w2 ⟨rfl, rfl⟩
    go_wp2_with fail; refine (p3 _).mono ?_; rintro e w2 ⟨rfl, rfl⟩
    go_wp2_with fail; refine (h1 _).mono ?_; rintro e w2 ⟨rfl, rfl⟩
    go_wp2_with fail; refine (g1 _).mono ?_; rintro e w2 ⟨rfl, rfl⟩
    go_wp2_with fail; refine (h2 _).mono ?_; rintro e w2 ⟨rfl, rfl⟩
    go_wp2_with fail; refine (g2 _).mono ?_; rintro e w2 ⟨rfl, rfl⟩
    go_wp2_with fail; refine (h3 _).mono ?_; rintro e w2 ⟨rfl, rfl⟩
    go_wp2_with fail; refine (g3 _).mono ?_; rintro e w2 ⟨rfl, rfl⟩
    go_wp2_with fail; refine (h4 _).mono ?_; rintro e w2 ⟨rfl, b2⟩
    go_wp2_with fail; refine (g4 _).mono ?_; rintro e w3 ⟨rfl, b3⟩
    go_wp2_with fail; refine (h1 _).mono ?_; rintro e w4 ⟨rfl, rfl⟩
    go_wp2_with fail; refine (h2 _).mono ?_; rintro e w4 ⟨rfl, rfl⟩
    go_wp2_with fail; refine (h3 _).mono ?_; rintro e w4 ⟨rfl, rfl⟩
    go_wp2_with fail; refine (h5 _).mono ?_; rintro e w4 ⟨rfl, b4⟩
    go_wp2_with fail; refine (g5 _).mono ?_; rintro e w5 ⟨rfl, b5⟩
    go_wp2_with fail; refine (h6 _).mono ?_; rintro e w6 ⟨u6, rfl, r6, b6⟩
    obtain ⟨A6, c6, rfl, _, i6⟩ := Row.of_own r6; clear r6
    go_wp2_with fail; refine (g6 _).mono ?_; rintro e w7 ⟨u7, rfl, r7, b7⟩
    obtain ⟨A7, c7, rfl, _, i7⟩ := Row.of_own r7; clear r7
    have j6 := i6.below b7 (Nat.le_refl _); clear i6
    go_wp2_with fail; refine (gi _ _ _ _ _ _ _ j6 i7).mono ?_; rintro e w8 ⟨rfl, n8, rfl⟩
    go_wp2_with fail
    go_ret
    have s1 := b1.size
    have s2 := b2.size
    have s3 := b3.size
    have s4 := b4.size
    have s5 := b5.size
    have s6 := b6.size
    have s7 := b7.size
    exact ⟨rfl, below_drewN ((((((b1.trans (b2.mono (by omega))).trans (b3.mono (by omega))).trans (b4.mono (by omega))).trans (b5.mono (by omega))).trans (b6.mono (by omega))).trans (b7.mono (by omega))) _⟩
  · have e1 : x1 = false := K1.out (by omega)
    have e2 : a = x2 := K2.out (by omega)
    have e3 : a = x3 := K3.out (by omega)
    subst e1
    rw [← e2] at h2 g2
    rw [← e3] at h3 g3
    clear e2 e3 K1 K2 K3
    have hn3 : 0 ≤ a2 := by omega
    go_enter Try.func8, Try.ntmps8
    go_wp2_with fail; refine (awake_any _).mono ?_; rintro e w1 ⟨rfl, b1⟩
    go_wp2_with fail; refine (p0 _).mono ?_; rintro e w2 ⟨rfl, rfl⟩
    go_wp2_with fail; refine (p1 _).mono ?_; rintro e w2 ⟨rfl, rfl⟩
    go_wp2_with fail; refine (p3 _).mono ?_; rintro e w2 ⟨rfl, rfl⟩
    go_wp2_with fail; refine (h1 _).mono ?_; rintro e w2 ⟨rfl, rfl⟩
    go_wp2_with fail; refine (g1 _).mono ?_; rintro e w2 ⟨rfl, rfl⟩
    go_wp2_with fail; refine (h2 _).mono ?_; rintro e w2 ⟨rfl, rfl⟩
    go_wp2_with fail; refine (g2 _).mono ?_; rintro e w2 ⟨rfl, rfl⟩
    go_wp2_with fail; refine (h3 _).mono ?_; rintro e w2 ⟨rfl, rfl⟩
    go_wp2_with fail; refine (g3 _).mono ?_; rintro e w2 ⟨rfl, rfl⟩
    go_wp2_with fail; refine (h4 _).mono ?_; rintro e w2 ⟨rfl, b2⟩
    go_wp2_with fail; refine (g4 _).mono ?_; rintro e w3 ⟨rfl, b3⟩
    go_wp2_with fail; refine (h1 _).mono ?_; rintro e w4 ⟨rfl, rfl⟩
    go_wp2_with fail; refine (h2 _).mono ?_; rintro e w4 ⟨rfl, rfl⟩
    go_wp2_with fail; refine (h3 _).mono ?_; rintro e w4 ⟨rfl, rfl⟩
    go_wp2_with fail; refine (h5 _).mono ?_; rintro e w4 ⟨rfl, b4⟩
    go_wp2_with fail; refine (g5 _).mono ?_; rintro e w5 ⟨rfl, b5⟩
    go_wp2_with fail; refine (h6 _).mono ?_; rintro e w6 ⟨u6, rfl, r6, b6⟩
    obtain ⟨A6, c6, rfl, _, i6⟩ := Row.of_own r6; clear r6
    go_wp2_with fail; refine (g6 _).mono ?_; rintro e w7 ⟨u7, rfl, r7, b7⟩
    obtain ⟨A7, c7, rfl, _, i7⟩ := Row.of_own r7; clear r7
    have j6 := i6.below b7 (Nat.le_refl _); clear i6
    go_wp2_with fail; refine (gi _ _ _ _ _ _ _ j6 i7).mono ?_; rintro e w8 ⟨rfl, n8, rfl⟩
    go_wp2_with fail
    go_ret
    have s1 := b1.size
    have s2 := b2.size
    have s3 := b3.size
    have s4 := b4.size
    have s5 := b5.size
    have s6 := b6.size
    have s7 := b7.size
    exact ⟨rfl, below_drewN ((((((b1.trans (b2.mono (by omega))).trans (b3.mono (by omega))).trans (b4.mono (by omega))).trans (b5.mono (by omega))).trans (b6.mono (by omega))).trans (b7.mono (by omega))) _⟩

end Go.Proofs.Ytmpaffpmmmpadaa

/-
  The law SchedBack: At undoes Time; a tick later it is the next spot.
-/
import Derived.Test.YtngcfdciehoicaaSchInts
namespace Go.Proofs.Ytngcfdciehoicaa
open Go.RowKit

set_option maxRecDepth 100000 in
set_option maxHeartbeats 8000000 in
theorem schedBack_walk (a0 : Int) (A1 : Option Addr) (c1 : Nat) (l1 : List Int) (a2 a3 a4 : Int) (w0 : (Lit.int .i64 a0).wf = true) (w2 : (Lit.int .i64 a2).wf = true) (w3 : (Lit.int .i64 a3).wf = true) (w4 : (Lit.int .i64 a4).wf = true) (w : World) (f1 : IntsOk w A1 c1 l1) :
    Calls Try.prog 4 #[.int .i64 a0, .slice A1 l1.length c1, .int .i64 a2, .int .i64 a3, .int .i64 a4] w fun e w' => e = .returned (.bool true) ∧ Below w.heap.size w w' := by
  have r1 := pickI_range a0 15 (by omega)
  obtain ⟨n, hn⟩ : ∃ n : Nat, (n : Int) = 2 + pickI a0 15 := ⟨(2 + pickI a0 15).toNat, by omega⟩
  have r2 := pickI_range a2 n (by omega)
  have r3 := pickI_range a3 64 (by omega)
  have r4 := pickI_range a4 1099511627776 (by omega)
  have cpl := fun W h => plan_any a0 a2 a3 w0 w2 w3 A1 c1 l1 W h (by have := f1.len; omega) f1.wf n _ _ hn rfl rfl
  have ct := fun W => pick8_any a4 1099511627776 w4 (by omega) W
  have hR := planL_right l1 (n := n) (T := pickI a2 n) (C := 1 + pickI a3 64) (by omega) (by omega) r2.1 r2.2 (by omega)
  have hLn := planL_length n (pickI a2 n) l1 n
  generalize 1 + pickI a3 64 = C at *
  generalize pickI a4 1099511627776 = t at *
  generalize planL n (pickI a2 n) l1 n = l at *
  have CP := Lib.hid cpl; clear cpl
  have CT := Lib.hid ct; clear ct
  have HI := Lib.hid f1.row
  have hlm : l.length ≤ maxLen := by unfold maxLen; omega
  have CA := Lib.hid (fun A c t W h => at_any A c C l hlm t W h)
  have CM := Lib.hid (fun A c s W h => time_any A c C l hlm s W h)
  obtain ⟨t0, t1⟩ := r4
  obtain ⟨ht, hne, hC⟩ := right_at_facts hR
  obtain ⟨e1, e2⟩ := atE_zero hR t0 (by omega : t ≤ 1099511627776)
  obtain ⟨e3, e4⟩ := atE_zero hR (by omega : 0 ≤ t + 1) (by omega : t + 1 ≤ 1099511627776)
  obtain ⟨e5, e6⟩ := time_at hR t0 (by omega : t ≤ 1099511627776)
  obtain ⟨v1, v2⟩ := val_spot (c := C) ht hne hC.1 t0
  obtain ⟨k, x, hsp⟩ : ∃ (k : Nat) (x : Int), spotS l C t = ⟨t / sumS l / C, t / sumS l % C, (k : Int), x⟩ := ⟨_, _, rfl⟩
  have AT1 := Lib.hid (fun A c W h => CA.out A c t W h)
  have AT2 := Lib.hid (fun A c W h => CA.out A c (t + 1) W h)
  have TM := Lib.hid (fun A c W h => CM.out A c (spotS l C t) W h)
  rw [e1, e2] at AT1
  rw [e3, e4] at AT2
  rw [e5, e6] at TM
  rw [hsp] at AT1 TM v1 v2
  generalize t / sumS l / C = cy at *
  generalize t / sumS l % C = rn at *
  have v3 := v2
  obtain ⟨i1, ⟨i2, i3⟩, i4, p, hp, i5, i6⟩ := v2
  simp only [Int.toNat_natCast] at hp i1 i2 i3 i4 i5 i6
  have hNX := next_spot hR cy rn k x t p v3 v1 hp
  generalize spotS l C (t + 1) = u at *
  have hk : k < l.length := (List.getElem?_eq_some_iff.1 hp).1
  have hp2 := ht p (List.mem_of_getElem? hp)
  have hx1 : IntKind.i64.wrap (x + 1) = x + 1 := IntWalk.i64_in _ (by omega)
  have hk1 : IntKind.i64.wrap ((k : Int) + 1) = (k : Int) + 1 := IntWalk.i64_in _ (by omega)
  have hr1 : IntKind.i64.wrap (rn + 1) = rn + 1 := IntWalk.i64_in _ (by omega)
  have ht1 : IntKind.i64.wrap (t + 1) = t + 1 := IntWalk.i64_in _ (by omega)
  have hcyt : cy ≤ t := by have := cyc_le hR v3; rw [v1] at this; exact this.2
  have hc1 : IntKind.i64.wrap (cy + 1) = cy + 1 := IntWalk.i64_in _ (by omega)
  have HNX := Lib.hid hNX
  have HP := Lib.hid hp
  have HLN := Lib.hid hLn
  have HW := Lib.hid (And.intro hx1 (And.intro hk1 (And.intro hr1 hc1)))
  clear hNX hp hLn v1 v3 hsp e1 e2 e3 e4 e5 e6 CA CM hR ht hne hx1 hk1 hr1 hc1 hlm r1 r2 r3 hn w0 w2 w3 w4 f1
  go_enter Try.func4, Try.ntmps4
  go_wp2_with fail; refine (awake_any _).mono ?_; rintro e wa ⟨rfl, ba⟩
  have hi1 := HI.out.below ba (Nat.le_refl _)
  have hi2 : Row wa wa.heap.size A1 l1 := fun hn => by obtain ⟨ad, e, hb, hc⟩ := hi1 hn; exact ⟨ad, e, by have := ba.size; omega, hc⟩
  have HBA := Lib.hid ba; clear ba hi1
  go_wp2_with fail; refine (CP.out _ hi2).mono ?_; rintro e wb ⟨A, c, rfl, ho, bb⟩
  have hs1 := ho.slice.2
  have HBB := Lib.hid (HBA.out.trans (bb.mono HBA.out.size)); clear bb ho hi2 HBA CP HI
  have hh := Has.new (c := c) (C := C) hs1
  have hb1 := Joins.below_alloc1 wb (.cells #[.slice A l.length c, .int .i64 C] 25)
  go_upto_region 3 with fail
  have HH := Lib.hid hh
  have HBC := Lib.hid (HBB.out.trans (hb1.mono HBB.out.size))
  obtain ⟨b, hb⟩ : ∃ b, wb.heap.size = b := ⟨_, rfl⟩
  rw [hb] at HH ⊢
  clear hh hb1 HBB hs1
  generalize wb.alloc (.cells #[.slice A l.length c, .int .i64 C] 25) = wc at *
  clear hb
  go_wp2_with fail; refine (CT.out _).mono ?_; rintro e wd ⟨rfl, rfl⟩
  obtain ⟨y0, y1⟩ := HH.out.pl.cells
  go_wp2_with fail; refine (AT1.out _ _ _ HH.out.sl).mono ?_; rintro e wd ⟨rfl, bd⟩
  have hb1 := Joins.below_alloc1 wd (.cells #[.int .i64 cy, .int .i64 rn, .int .i64 (k : Int), .int .i64 x] 27)
  have HS2 := Lib.hid (SpAt.new' wd cy rn (k : Int) x)
  have HH2 := Lib.hid ((HH.out.on bd).on hb1)
  have HB2 := Lib.hid ((HBC.out.trans (bd.mono HBC.out.size)).trans (hb1.mono (HBC.out.trans (bd.mono HBC.out.size)).size))
  go_upto_region 5 with fail
  obtain ⟨s, hs⟩ : ∃ s, wd.heap.size = s := ⟨_, rfl⟩
  rw [hs] at HS2 ⊢
  clear y0 y1 hb1 bd HH HBC AT1
  generalize wd.alloc (.cells #[.int .i64 cy, .int .i64 rn, .int .i64 (k : Int), .int .i64 x] 27) = we at *
  clear hs
  obtain ⟨y0, y1⟩ := HH2.out.pl.cells
  obtain ⟨x0, x1, x2, x3⟩ := HS2.out.cells
  go_wp2_with fail; refine (TM.out _ _ _ HH2.out.sl).mono ?_; rintro e wf ⟨rfl, bf⟩
  have HS3 := Lib.hid (HS2.out.on bf)
  have HH3 := Lib.hid (HH2.out.on bf)
  have HB3 := Lib.hid (HB2.out.trans (bf.mono HB2.out.size))
  clear y0 y1 x0 x1 x2 x3 bf HS2 HH2 HB2 TM
  obtain ⟨y0, y1⟩ := HH3.out.pl.cells
  go_wp2_with fail; refine (AT2.out _ _ _ HH3.out.sl).mono ?_; rintro e wg ⟨rfl, bg⟩
  obtain ⟨u1, u2, u3, u4⟩ := u
  have hb1 := Joins.below_alloc1 wg (.cells #[.int .i64 u1, .int .i64 u2, .int .i64 u3, .int .i64 u4] 27)
  have HU4 := Lib.hid (SpAt.new' wg u1 u2 u3 u4)
  have HH4 := Lib.hid ((HH3.out.on bg).on hb1)
  have HS4 := Lib.hid ((HS3.out.on bg).on hb1)
  have HB4 := Lib.hid ((HB3.out.trans (bg.mono HB3.out.size)).trans (hb1.mono (HB3.out.trans (bg.mono HB3.out.size)).size))
  go_upto_region 7 with fail
  obtain ⟨v, hv⟩ : ∃ v, wg.heap.size = v := ⟨_, rfl⟩
  rw [hv] at HU4 ⊢
  clear y0 y1 hb1 bg HH3 HB3 HS3 AT2
  generalize wg.alloc (.cells #[.int .i64 u1, .int .i64 u2, .int .i64 u3, .int .i64 u4] 27) = wh at *
  clear hv
  obtain ⟨y0, y1⟩ := HH4.out.pl.cells
  obtain ⟨x0, x1, x2, x3⟩ := HS4.out.cells
  obtain ⟨ad, hA, z0, z1⟩ := HH4.out.slot HP.out
  subst hA
  have g1 : ¬ (k : Int) < 0 := by omega
  have g2 : ¬ (l.length : Int) ≤ (k : Int) := by omega
  have g2' : (k : Int) < (l.length : Int) := by omega
  have g3 : ¬ p.2 ≤ x := by omega
  have g4 : ¬ C ≤ rn := by omega
  go_quiet (fail)
  have hbd := below_drewN (Below.refl wh.heap.size wh) nq
  have HB5 := Lib.hid (HB4.out.trans (hbd.mono HB4.out.size))
  have HH5 := Lib.hid (HH4.out.on hbd)
  have HS5 := Lib.hid (HS4.out.on hbd)
  have HU5 := Lib.hid (HU4.out.on hbd)
  generalize wh.drewN nq = wi at *
  clear y0 y1 x0 x1 x2 x3 z0 z1 hbd HH4 HS4 HU4 HB4
  obtain ⟨y0, y1⟩ := HH5.out.pl.cells
  obtain ⟨x0, x1, x2, x3⟩ := HS5.out.cells
  obtain ⟨v0, v1, v2, v3⟩ := HU5.out.cells
  obtain ⟨ad', hA', z0, z1⟩ := HH5.out.slot HP.out
  obtain rfl : ad = ad' := by injection hA'
  clear hA'
  obtain ⟨p1, p2⟩ := p
  simp only at *
  obtain ⟨hx1, hk1, hr1, hc1⟩ := HW.out
  obtain ⟨N1, N2, N3, N4⟩ := HNX.out
  go_wp2_with fail
  rcases (by omega : x + 1 < p2 ∨ (x + 1 = p2 ∧ k + 1 < l.length) ∨ (x + 1 = p2 ∧ k + 1 = l.length ∧ rn + 1 < C) ∨ (x + 1 = p2 ∧ k + 1 = l.length ∧ rn + 1 = C)) with g | ⟨g, g'⟩ | ⟨g, g', g''⟩ | ⟨g, g', g''⟩
  · have hu := N1 g
    injection hu with h1 h2 h3 h4
    subst h1 h2 h3 h4
    have q1 := fun x0 y0 w => eqS_guard .eql x0 y0 ⟨u1, u2, (k : Int), x + 1⟩ ⟨u1, u2, (k : Int), x + 1⟩ w
    have q2 := fun w => eqlS ⟨u1, u2, (k : Int), x + 1⟩ ⟨u1, u2, (k : Int), x + 1⟩ w
    rw [sameSp_self] at q2
    simp only [sv] at q1 q2
    have g5 : (x + 1 == p2) = false := beq_eq_false_iff_ne.2 (by omega)
    clear N1 N2 N3 N4
    go_quiet (fail)
    have hbd2 := below_drewN (Below.refl wi.heap.size wi) nq
    have HBE := Lib.hid (HB5.out.trans (hbd2.mono HB5.out.size))
    have HHE := Lib.hid (HH5.out.on hbd2)
    have HSE := Lib.hid (HS5.out.on hbd2)
    have HUE := Lib.hid (HU5.out.on hbd2)
    generalize wi.drewN nq = wj at *
    clear y0 y1 x0 x1 x2 x3 v0 v1 v2 v3 z0 z1 hbd2
    obtain ⟨y0, y1⟩ := HHE.out.pl.cells
    obtain ⟨x0, x1, x2, x3⟩ := HSE.out.cells
    obtain ⟨v0, v1, v2, v3⟩ := HUE.out.cells
    go_wp2_with fail
    go_ret
    exact ⟨rfl, HBE.out⟩
  · have hu := N2 g g'
    injection hu with h1 h2 h3 h4
    subst h1 h2 h3 h4
    have q1 := fun x0 y0 w => eqS_guard .eql x0 y0 ⟨u1, u2, (k : Int) + 1, 0⟩ ⟨u1, u2, (k : Int) + 1, 0⟩ w
    have q2 := fun w => eqlS ⟨u1, u2, (k : Int) + 1, 0⟩ ⟨u1, u2, (k : Int) + 1, 0⟩ w
    rw [sameSp_self] at q2
    simp only [sv] at q1 q2
    clear N1 N2 N3 N4 HNX
    subst g
    have g6 : ((k : Int) + 1 == (l.length : Int)) = false := beq_eq_false_iff_ne.2 (by omega)
    go_quiet (fail)
    have hbd2 := below_drewN (Below.refl wi.heap.size wi) nq
    have HBE := Lib.hid (HB5.out.trans (hbd2.mono HB5.out.size))
    have HHE := Lib.hid (HH5.out.on hbd2)
    have HSE := Lib.hid (HS5.out.on hbd2)
    have HUE := Lib.hid (HU5.out.on hbd2)
    generalize wi.drewN nq = wj at *
    clear y0 y1 x0 x1 x2 x3 v0 v1 v2 v3 z0 z1 hbd2
    obtain ⟨y0, y1⟩ := HHE.out.pl.cells
    obtain ⟨x0, x1, x2, x3⟩ := HSE.out.cells
    obtain ⟨v0, v1, v2, v3⟩ := HUE.out.cells
    go_wp2_with fail
    go_ret
    exact ⟨rfl, HBE.out⟩
  · have hu := N3 g g' g''
    injection hu with h1 h2 h3 h4
    subst h1 h2 h3 h4
    have q1 := fun x0 y0 w => eqS_guard .eql x0 y0 ⟨u1, rn + 1, 0, 0⟩ ⟨u1, rn + 1, 0, 0⟩ w
    have q2 := fun w => eqlS ⟨u1, rn + 1, 0, 0⟩ ⟨u1, rn + 1, 0, 0⟩ w
    rw [sameSp_self] at q2
    simp only [sv] at q1 q2
    clear N1 N2 N3 N4 HNX
    subst g
    have g6 : ((k : Int) + 1 == (l.length : Int)) = true := beq_iff_eq.2 (by omega)
    go_quiet (fail)
    have hbd2 := below_drewN (Below.refl wi.heap.size wi) nq
    have HBE := Lib.hid (HB5.out.trans (hbd2.mono HB5.out.size))
    have HHE := Lib.hid (HH5.out.on hbd2)
    have HSE := Lib.hid (HS5.out.on hbd2)
    have HUE := Lib.hid (HU5.out.on hbd2)
    generalize wi.drewN nq = wj at *
    clear y0 y1 x0 x1 x2 x3 v0 v1 v2 v3 z0 z1 hbd2
    obtain ⟨y0, y1⟩ := HHE.out.pl.cells
    obtain ⟨x0, x1, x2, x3⟩ := HSE.out.cells
    obtain ⟨v0, v1, v2, v3⟩ := HUE.out.cells
    go_wp2_with fail
    go_ret
    exact ⟨rfl, HBE.out⟩
  · have hu := N4 g g' g''
    injection hu with h1 h2 h3 h4
    subst h1 h2 h3 h4
    have q1 := fun x0 y0 w => eqS_guard .eql x0 y0 ⟨cy + 1, 0, 0, 0⟩ ⟨cy + 1, 0, 0, 0⟩ w
    have q2 := fun w => eqlS ⟨cy + 1, 0, 0, 0⟩ ⟨cy + 1, 0, 0, 0⟩ w
    rw [sameSp_self] at q2
    simp only [sv] at q1 q2
    clear N1 N2 N3 N4 HNX
    subst g
    have g6 : ((k : Int) + 1 == (l.length : Int)) = true := beq_iff_eq.2 (by omega)
    have g7 : ¬ rn + 1 < C := by omega
    go_quiet (fail)
    have hbd2 := below_drewN (Below.refl wi.heap.size wi) nq
    have HBE := Lib.hid (HB5.out.trans (hbd2.mono HB5.out.size))
    have HHE := Lib.hid (HH5.out.on hbd2)
    have HSE := Lib.hid (HS5.out.on hbd2)
    have HUE := Lib.hid (HU5.out.on hbd2)
    generalize wi.drewN nq = wj at *
    clear y0 y1 x0 x1 x2 x3 v0 v1 v2 v3 z0 z1 hbd2
    obtain ⟨y0, y1⟩ := HHE.out.pl.cells
    obtain ⟨x0, x1, x2, x3⟩ := HSE.out.cells
    obtain ⟨v0, v1, v2, v3⟩ := HUE.out.cells
    go_wp2_with fail
    go_ret
    exact ⟨rfl, HBE.out⟩

end Go.Proofs.Ytngcfdciehoicaa

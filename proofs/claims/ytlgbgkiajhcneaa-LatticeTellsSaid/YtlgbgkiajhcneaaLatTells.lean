/-
  The law LatticeTells.
-/
import Derived.Test.YtlgbgkiajhcneaaLatTurns
import Derived.Test.YtlgbgkiajhcneaaOncePhase
namespace Go.Proofs.Ytlgbgkiajhcneaa
open Go.RowKit

/-- Pairs of numbers as a statement's own list of pairs holds them. -/
def PairsAt (w : World) (g : Nat) (l : List (Int × Int)) : Prop := ∀ j p, l[j]? = some p → w.cell? ⟨g, j * 2, none⟩ = some (.int .i64 p.1) ∧ w.cell? ⟨g, j * 2 + 1, none⟩ = some (.int .i64 p.2)
theorem PairsAt.on {w w' : World} {g : Nat} {l : List (Int × Int)} (h : PairsAt w g l) (hb : Below w.heap.size w w') : PairsAt w' g l := fun j p hp => by
  obtain ⟨h1, h2⟩ := h j p hp
  have hg := World.block_lt_of_cell? w _ h1
  exact ⟨(hb.cell (p := ⟨g, j * 2, none⟩) hg).trans h1, (hb.cell (p := ⟨g, j * 2 + 1, none⟩) hg).trans h2⟩
theorem pairs_new (W : World) (t : TypeId) (x1 x2 x3 x4 x5 x6 : Int) : PairsAt (W.alloc (.cells #[.int .i64 x1, .int .i64 x2, .int .i64 x3, .int .i64 x4, .int .i64 x5, .int .i64 x6] t)) W.heap.size [(x1, x2), (x3, x4), (x5, x6)] := fun j x hx => by
  have hj : j < 3 := (List.getElem?_eq_some_iff.1 hx).1
  unfold World.cell?
  rw [heap_new]
  rcases (show j = 0 ∨ j = 1 ∨ j = 2 by omega) with rfl | rfl | rfl <;> (simp at hx; subst hx; simp)
def TwAt (w : World) (b : Nat) (x y : Int) : Prop := w.heap[b]? = some (.cells #[.int .i64 x, .int .i64 y] 30 (0, 0))
theorem TwAt.new (w : World) (x y : Int) : TwAt (w.alloc (.cells #[.int .i64 x, .int .i64 y] 30)) w.heap.size x y := heap_new w _
theorem TwAt.on {w w' : World} {b : Nat} {x y : Int} (h : TwAt w b x y) (hb : Below w.heap.size w w') : TwAt w' b x y := (hb.block b (Array.getElem?_eq_some_iff.1 h).1).trans h
theorem TwAt.cells {w : World} {b : Nat} {x y : Int} (h : TwAt w b x y) : w.cell? ⟨b, 0, none⟩ = some (.int .i64 x) ∧ w.cell? ⟨b, 1, none⟩ = some (.int .i64 y) := ⟨cell_of h 0, cell_of h 1⟩

set_option maxRecDepth 100000 in
set_option maxHeartbeats 4000000 in
theorem latticeTells_walk (o0 o1 a1 a2 a3 a4 a5 : Int) (w1 : (Lit.int .i64 a1).wf = true) (w2 : (Lit.int .i64 a2).wf = true) (w3 : (Lit.int .i64 a3).wf = true) (w4 : (Lit.int .i64 a4).wf = true) (w5 : (Lit.int .i64 a5).wf = true) (w : World) :
    Calls Try.prog 3 #[lv o0 o1, .int .i64 a1, .int .i64 a2, .int .i64 a3, .int .i64 a4, .int .i64 a5] w fun e w' => e = .returned (.bool true) ∧ Below w.heap.size w w' := by
  have CL := Lib.hid (fun W => lattice_any a1 a2 w1 w2 W)
  have PA := Lib.hid (fun W => pick_any a1 9 w1 (by omega) W)
  have PB := Lib.hid (fun W => pick_any a2 9 w2 (by omega) W)
  have P3 := Lib.hid (fun W => pick_any a3 2199023255552 w3 (by omega) W)
  have P4 := Lib.hid (fun W => pick_any a4 2199023255552 w4 (by omega) W)
  have P5 := Lib.hid (fun W => pick_any a3 100 w3 (by omega) W)
  have P6 := Lib.hid (fun W => pick_any a4 100 w4 (by omega) W)
  have P7 := Lib.hid (fun W => pick_any a5 12 w5 (by omega) W)
  obtain ⟨r10, r11⟩ := pickI_range a1 9 (by omega)
  obtain ⟨r20, r21⟩ := pickI_range a2 9 (by omega)
  obtain ⟨r30, r31⟩ := pickI_range a3 2199023255552 (by omega)
  obtain ⟨r40, r41⟩ := pickI_range a4 2199023255552 (by omega)
  obtain ⟨r50, r51⟩ := pickI_range a3 100 (by omega)
  obtain ⟨r60, r61⟩ := pickI_range a4 100 (by omega)
  obtain ⟨r70, r71⟩ := pickI_range a5 12 (by omega)
  generalize pickI a1 9 = pa at *
  generalize pickI a2 9 = pb at *
  generalize pickI a3 2199023255552 = p3 at *
  generalize pickI a4 2199023255552 = p4 at *
  generalize pickI a3 100 = p5 at *
  generalize pickI a4 100 = p6 at *
  generalize pickI a5 12 = p7 at *
  have CM := Lib.hid (fun W => lattice_any pa pb (wf_of (by omega) (by omega)) (wf_of (by omega) (by omega)) W)
  generalize latA a1 = l1 at *
  generalize latA a2 = l2 at *
  generalize latA pa = l3 at *
  generalize latA pb = l4 at *
  clear w1 w2 w3 w4 w5
  have HO0 := Lib.hid (LtAt.new w o0 o1)
  have HB0 := Lib.hid (Joins.below_alloc1 w (.cells #[.int .i64 o0, .int .i64 o1] 23))
  go_enter Try.func3, Try.ntmps3
  go_wp2_with fail
  refine (awake_any _).mono ?_; rintro e v1 ⟨rfl, b⟩
  have HO := Lib.hid (HO0.out.on b)
  have HB := Lib.hid (HB0.out.trans (b.mono HB0.out.size))
  clear b HO0 HB0
  obtain ⟨L3, hL3⟩ : ∃ L, L = [(o0, o1), (l1, l2), (l3, l4)] := ⟨_, rfl⟩
  have HL3 := Lib.hid hL3
  go_upto_region 2 with fail
  have HV : ∃ Vp : Nat → (Nat → Value) → World → Prop, Vp = (fun ix u wv => match ix with
    | 0 => u 0 = .agg #[.int .i64 o0, .int .i64 o1]
    | 1 => u 1 = .int .i64 a1
    | 2 => u 2 = .int .i64 a2
    | 3 => u 3 = .agg #[.int .i64 l1, .int .i64 l2]
    | 4 => u 4 = .int .i64 a1
    | 5 => u 5 = .int .i64 pa
    | 6 => u 6 = .int .i64 a2
    | 7 => u 7 = .int .i64 pb
    | 8 => u 8 = .agg #[.int .i64 l3, .int .i64 l4]
    | 9 => ∃ g, u 9 = .slice (some ⟨g, 0, none⟩) 3 3 ∧ PairsAt wv g L3
    | 10 => u 10 = .int .i64 3
    | 11 => u 11 = .int .i64 0
    | _ => True) := ⟨_, rfl⟩
  obtain ⟨Vp, hVdef⟩ := HV
  have Vp0 : ∀ u wv, Vp 0 u wv = (u 0 = .agg #[.int .i64 o0, .int .i64 o1]) := fun u wv => by subst hVdef; rfl
  have Vp1 : ∀ u wv, Vp 1 u wv = (u 1 = .int .i64 a1) := fun u wv => by subst hVdef; rfl
  have Vp2 : ∀ u wv, Vp 2 u wv = (u 2 = .int .i64 a2) := fun u wv => by subst hVdef; rfl
  have Vp3 : ∀ u wv, Vp 3 u wv = (u 3 = .agg #[.int .i64 l1, .int .i64 l2]) := fun u wv => by subst hVdef; rfl
  have Vp4 : ∀ u wv, Vp 4 u wv = (u 4 = .int .i64 a1) := fun u wv => by subst hVdef; rfl
  have Vp5 : ∀ u wv, Vp 5 u wv = (u 5 = .int .i64 pa) := fun u wv => by subst hVdef; rfl
  have Vp6 : ∀ u wv, Vp 6 u wv = (u 6 = .int .i64 a2) := fun u wv => by subst hVdef; rfl
  have Vp7 : ∀ u wv, Vp 7 u wv = (u 7 = .int .i64 pb) := fun u wv => by subst hVdef; rfl
  have Vp8 : ∀ u wv, Vp 8 u wv = (u 8 = .agg #[.int .i64 l3, .int .i64 l4]) := fun u wv => by subst hVdef; rfl
  have Vp9 : ∀ u wv, Vp 9 u wv = (∃ g, u 9 = .slice (some ⟨g, 0, none⟩) 3 3 ∧ PairsAt wv g L3) := fun u wv => by subst hVdef; rfl
  have Vp10 : ∀ u wv, Vp 10 u wv = (u 10 = .int .i64 3) := fun u wv => by subst hVdef; rfl
  have Vp11 : ∀ u wv, Vp 11 u wv = (u 11 = .int .i64 0) := fun u wv => by subst hVdef; rfl
  have HVD := Lib.hid hVdef
  clear hVdef
  refine region_phase (V := Vp) (drop := fun _ _ => false) (G := fun L wv => Below v1.heap.size v1 wv) (Rel := fun jx wv wv' => Below wv.heap.size wv wv') (by kernel_rfl) (by kernel_rfl) (Below.refl _ _).drew ?hmonop1 ?hdepp1 ⟨?s0_p1, ?s1_p1, ?s2_p1, ?s3_p1, ?s4_p1, ?s5_p1, ?s6_p1, ?s7_p1, ?s8_p1, ?s9_p1, ?s10_p1, ?s11_p1, trivial⟩ ?behindp1
  case hmonop1 =>
    intro ix jx u wv wv' hij hw hd hr
    rw [HVD.out]
    dsimp only
    split <;> intro h <;> first | exact trivial | exact h | (have hb := hr; first | (obtain ⟨g, e, hg⟩ := h; exact ⟨g, e, hg.on hb⟩))
  case hdepp1 =>
    intro ix u u' wv h1 h2
    rw [HVD.out]
    dsimp only
    split <;> intro h <;> first | exact trivial | (rw [← h1]; exact h) | exact h
  case s0_p1 =>
    refine oweP rfl fun a wx val L hG hi hW hV hN hO K hK => ?_
    have e6 : a.tmps[6]? = some (.pointer (some ⟨w.heap.size, 0, none⟩)) := (hO 6 (by kernel_rfl)).trans (by rfl)
    clear hV hN hO
    obtain ⟨y0, y1⟩ := (HO.out.on hG).cells
    go_simp
    exact hK.out _ _ (by rw [Vp0, upd_at] <;> (congr 1 <;> omega)) (Below.refl _ _) (hG)
  case s1_p1 =>
    refine oweP rfl fun a wx val L hG hi hW hV hN hO K hK => ?_
    have e1 : a.tmps[1]? = some (.int .i64 a1) := (hO 1 (by kernel_rfl)).trans (by rfl)
    clear hV hN hO
    go_simp
    exact hK.out _ _ (by rw [Vp1, upd_at] <;> (congr 1 <;> omega)) (Below.refl _ _) (hG)
  case s2_p1 =>
    refine oweP rfl fun a wx val L hG hi hW hV hN hO K hK => ?_
    have e2 : a.tmps[2]? = some (.int .i64 a2) := (hO 2 (by kernel_rfl)).trans (by rfl)
    clear hV hN hO
    go_simp
    exact hK.out _ _ (by rw [Vp2, upd_at] <;> (congr 1 <;> omega)) (Below.refl _ _) (hG)
  case s3_p1 =>
    refine oweP rfl fun a wx val L hG hi hW hV hN hO K hK => ?_
    have e36 := hN 1 36 (by kernel_rfl) (by kernel_rfl) (by simp)
    have f36 := hV 1 (by kernel_rfl) (by kernel_rfl)
    rw [Vp1] at f36; rw [f36] at e36; clear f36
    have e37 := hN 2 37 (by kernel_rfl) (by kernel_rfl) (by simp)
    have f37 := hV 2 (by kernel_rfl) (by kernel_rfl)
    rw [Vp2] at f37; rw [f37] at e37; clear f37
    clear hV hN hO
    go_simp
    refine (CL.out _).mono ?_
    rintro e w11 ⟨rfl, hb⟩
    exact hK.out _ _ (by rw [Vp3, upd_at]) (hb) (hG.trans (hb.mono hG.size))
  case s4_p1 =>
    refine oweP rfl fun a wx val L hG hi hW hV hN hO K hK => ?_
    have e1 : a.tmps[1]? = some (.int .i64 a1) := (hO 1 (by kernel_rfl)).trans (by rfl)
    clear hV hN hO
    go_simp
    exact hK.out _ _ (by rw [Vp4, upd_at] <;> (congr 1 <;> omega)) (Below.refl _ _) (hG)
  case s5_p1 =>
    refine oweP rfl fun a wx val L hG hi hW hV hN hO K hK => ?_
    have e39 := hN 4 39 (by kernel_rfl) (by kernel_rfl) (by simp)
    have f39 := hV 4 (by kernel_rfl) (by kernel_rfl)
    rw [Vp4] at f39; rw [f39] at e39; clear f39
    clear hV hN hO
    go_simp
    refine (PA.out _).mono ?_
    rintro e w11 ⟨rfl, rfl⟩
    exact hK.out _ _ (by rw [Vp5, upd_at]) (Below.refl _ _) (hG)
  case s6_p1 =>
    refine oweP rfl fun a wx val L hG hi hW hV hN hO K hK => ?_
    have e2 : a.tmps[2]? = some (.int .i64 a2) := (hO 2 (by kernel_rfl)).trans (by rfl)
    clear hV hN hO
    go_simp
    exact hK.out _ _ (by rw [Vp6, upd_at] <;> (congr 1 <;> omega)) (Below.refl _ _) (hG)
  case s7_p1 =>
    refine oweP rfl fun a wx val L hG hi hW hV hN hO K hK => ?_
    have e41 := hN 6 41 (by kernel_rfl) (by kernel_rfl) (by simp)
    have f41 := hV 6 (by kernel_rfl) (by kernel_rfl)
    rw [Vp6] at f41; rw [f41] at e41; clear f41
    clear hV hN hO
    go_simp
    refine (PB.out _).mono ?_
    rintro e w11 ⟨rfl, rfl⟩
    exact hK.out _ _ (by rw [Vp7, upd_at]) (Below.refl _ _) (hG)
  case s8_p1 =>
    refine oweP rfl fun a wx val L hG hi hW hV hN hO K hK => ?_
    have e40 := hN 5 40 (by kernel_rfl) (by kernel_rfl) (by simp)
    have f40 := hV 5 (by kernel_rfl) (by kernel_rfl)
    rw [Vp5] at f40; rw [f40] at e40; clear f40
    have e42 := hN 7 42 (by kernel_rfl) (by kernel_rfl) (by simp)
    have f42 := hV 7 (by kernel_rfl) (by kernel_rfl)
    rw [Vp7] at f42; rw [f42] at e42; clear f42
    clear hV hN hO
    go_simp
    refine (CM.out _).mono ?_
    rintro e w11 ⟨rfl, hb⟩
    exact hK.out _ _ (by rw [Vp8, upd_at]) (hb) (hG.trans (hb.mono hG.size))
  case s9_p1 =>
    refine oweP rfl fun a wx val L hG hi hW hV hN hO K hK => ?_
    have e35 := hN 0 35 (by kernel_rfl) (by kernel_rfl) (by simp)
    have f35 := hV 0 (by kernel_rfl) (by kernel_rfl)
    rw [Vp0] at f35; rw [f35] at e35; clear f35
    have e38 := hN 3 38 (by kernel_rfl) (by kernel_rfl) (by simp)
    have f38 := hV 3 (by kernel_rfl) (by kernel_rfl)
    rw [Vp3] at f38; rw [f38] at e38; clear f38
    have e43 := hN 8 43 (by kernel_rfl) (by kernel_rfl) (by simp)
    have f43 := hV 8 (by kernel_rfl) (by kernel_rfl)
    rw [Vp8] at f43; rw [f43] at e43; clear f43
    clear hV hN hO
    go_simp
    have hb := Joins.below_alloc1 wx (.cells #[.int .i64 o0, .int .i64 o1, .int .i64 l1, .int .i64 l2, .int .i64 l3, .int .i64 l4] 23)
    exact hK.out _ _ (by rw [Vp9, upd_at, HL3.out]; exact ⟨_, rfl, pairs_new _ _ _ _ _ _ _ _⟩) hb (hG.trans (hb.mono hG.size))
  case s10_p1 =>
    refine oweP rfl fun a wx val L hG hi hW hV hN hO K hK => ?_
    have e44 := hN 9 44 (by kernel_rfl) (by kernel_rfl) (by simp)
    have f44 := hV 9 (by kernel_rfl) (by kernel_rfl)
    rw [Vp9] at f44; obtain ⟨g, hv, hgg⟩ := f44; rw [hv] at e44
    clear hV hN hO
    go_simp
    exact hK.out _ _ (by rw [Vp10, upd_at] <;> (congr 1 <;> omega)) (Below.refl _ _) (hG)
  case s11_p1 =>
    refine oweP rfl fun a wx val L hG hi hW hV hN hO K hK => ?_
    clear hV hN hO
    go_simp
    exact hK.out _ _ (by rw [Vp11, upd_at] <;> (congr 1 <;> omega)) (Below.refl _ _) (hG)
  intro val wx L hG hV
  have f0 := hV 0 (by simp) (fun _ _ => by simp)
  rw [Vp0] at f0
  have f1 := hV 1 (by simp) (fun _ _ => by simp)
  rw [Vp1] at f1
  have f2 := hV 2 (by simp) (fun _ _ => by simp)
  rw [Vp2] at f2
  have f3 := hV 3 (by simp) (fun _ _ => by simp)
  rw [Vp3] at f3
  have f4 := hV 4 (by simp) (fun _ _ => by simp)
  rw [Vp4] at f4
  have f5 := hV 5 (by simp) (fun _ _ => by simp)
  rw [Vp5] at f5
  have f6 := hV 6 (by simp) (fun _ _ => by simp)
  rw [Vp6] at f6
  have f7 := hV 7 (by simp) (fun _ _ => by simp)
  rw [Vp7] at f7
  have f8 := hV 8 (by simp) (fun _ _ => by simp)
  rw [Vp8] at f8
  have f9 := hV 9 (by simp) (fun _ _ => by simp)
  rw [Vp9] at f9
  have f10 := hV 10 (by simp) (fun _ _ => by simp)
  rw [Vp10] at f10
  have f11 := hV 11 (by simp) (fun _ _ => by simp)
  rw [Vp11] at f11
  clear hV Vp0 Vp1 Vp2 Vp3 Vp4 Vp5 Vp6 Vp7 Vp8 Vp9 Vp10 Vp11
  simp only [putAll, Act.put, List.setIfInBounds_toArray, List.set_cons_zero, List.set_cons_succ]
  generalize val 0 = z0 at *; (subst f0)
  generalize val 1 = z1 at *; (subst f1)
  generalize val 2 = z2 at *; (subst f2)
  generalize val 3 = z3 at *; (subst f3)
  generalize val 4 = z4 at *; (subst f4)
  generalize val 5 = z5 at *; (subst f5)
  generalize val 6 = z6 at *; (subst f6)
  generalize val 7 = z7 at *; (subst f7)
  generalize val 8 = z8 at *; (subst f8)
  generalize val 9 = z9 at *
  generalize val 10 = z10 at *; (subst f10)
  generalize val 11 = z11 at *; (subst f11)
  clear HVD
  obtain ⟨g, hv9, hgg⟩ := f9
  subst hv9
  have HP := Lib.hid hgg
  have HB2 := Lib.hid (HB.out.trans (hG.mono HB.out.size))
  generalize wx = X0 at *
  have HLL : Hid (L3.length = 3) := Lib.hid (by rw [hL3]; rfl)
  have HW0 := Lib.hid (Below.refl X0.heap.size X0)
  clear hgg hG HB HO HL3 hL3 CL CM PA PB
  go_wp2_with fail
  go_loopw [46] (fun i wr => ∃ k : Nat, k ≤ 3 ∧ i = .int .i64 k ∧ Below X0.heap.size X0 wr) (fun i _ => 3 - (intOf i).toNat)
  case atStart => exact ⟨0, by omega, rfl, HW0.out⟩
  case round =>
    obtain ⟨k, hk, rfl, hb⟩ := hrel
    have HB3 := Lib.hid hb; clear hb HW0
    by_cases hk3 : k < 3
    · have hkI : (k : Int) < 3 := by omega
      obtain ⟨⟨la, lg⟩, hx⟩ : ∃ x, L3[k]? = some x := ⟨_, List.getElem?_eq_getElem (by rw [HLL.out]; omega)⟩
      obtain ⟨y0, y1⟩ := (HP.out.on HB3.out) k _ hx
      simp only at y0 y1
      have HC := Joins.below_alloc1 wr (.cells #[.int .i64 la, .int .i64 lg] 23)
      have HL := Lib.hid (LtAt.new wr la lg)
      have HB4 := Lib.hid (HB3.out.trans (HC.mono HB3.out.size))
      clear hx HC
      go_upto_region 5 with fail
      generalize wr.alloc (.cells #[.int .i64 la, .int .i64 lg] 23) = X1 at *
      clear y0 y1 HB3
      have HV : ∃ Vp : Nat → (Nat → Value) → World → Prop, Vp = (fun ix u wv => match ix with
        | 0 => u 0 = .agg #[.int .i64 la, .int .i64 lg]
        | 1 => u 1 = .bool (rightL la lg)
        | 2 => u 2 = .agg #[.int .i64 la, .int .i64 lg]
        | 3 => u 3 = .bool (rightL la lg)
        | 4 => u 4 = .bool false
        | 5 => u 5 = .bool false
        | 6 => u 6 = .agg #[.int .i64 la, .int .i64 lg]
        | 7 => u 7 = .int .i64 a5
        | 8 => u 8 = .bool (nearL la lg a5)
        | 9 => u 9 = .agg #[.int .i64 la, .int .i64 lg]
        | 10 => u 10 = .int .i64 a5
        | 11 => u 11 = .bool (nearL la lg a5)
        | 12 => u 12 = .bool false
        | 13 => u 13 = .bool false
        | 14 => u 14 = .bool false
        | 15 => u 15 = .agg #[.int .i64 la, .int .i64 lg]
        | 16 => u 16 = .int .i64 a5
        | 17 => u 17 = .int .i64 p7
        | 18 => u 18 = .int .i64 (p7 - 6)
        | 19 => u 19 = .bool (nearL la lg (p7 - 6))
        | 20 => u 20 = .agg #[.int .i64 la, .int .i64 lg]
        | 21 => u 21 = .int .i64 a5
        | 22 => u 22 = .int .i64 p7
        | 23 => u 23 = .int .i64 (p7 - 6)
        | 24 => u 24 = .bool (nearL la lg (p7 - 6))
        | 25 => u 25 = .bool false
        | 26 => u 26 = .bool false
        | _ => True) := ⟨_, rfl⟩
      obtain ⟨Vp, hVdef⟩ := HV
      have Vp0 : ∀ u wv, Vp 0 u wv = (u 0 = .agg #[.int .i64 la, .int .i64 lg]) := fun u wv => by subst hVdef; rfl
      have Vp1 : ∀ u wv, Vp 1 u wv = (u 1 = .bool (rightL la lg)) := fun u wv => by subst hVdef; rfl
      have Vp2 : ∀ u wv, Vp 2 u wv = (u 2 = .agg #[.int .i64 la, .int .i64 lg]) := fun u wv => by subst hVdef; rfl
      have Vp3 : ∀ u wv, Vp 3 u wv = (u 3 = .bool (rightL la lg)) := fun u wv => by subst hVdef; rfl
      have Vp4 : ∀ u wv, Vp 4 u wv = (u 4 = .bool false) := fun u wv => by subst hVdef; rfl
      have Vp5 : ∀ u wv, Vp 5 u wv = (u 5 = .bool false) := fun u wv => by subst hVdef; rfl
      have Vp6 : ∀ u wv, Vp 6 u wv = (u 6 = .agg #[.int .i64 la, .int .i64 lg]) := fun u wv => by subst hVdef; rfl
      have Vp7 : ∀ u wv, Vp 7 u wv = (u 7 = .int .i64 a5) := fun u wv => by subst hVdef; rfl
      have Vp8 : ∀ u wv, Vp 8 u wv = (u 8 = .bool (nearL la lg a5)) := fun u wv => by subst hVdef; rfl
      have Vp9 : ∀ u wv, Vp 9 u wv = (u 9 = .agg #[.int .i64 la, .int .i64 lg]) := fun u wv => by subst hVdef; rfl
      have Vp10 : ∀ u wv, Vp 10 u wv = (u 10 = .int .i64 a5) := fun u wv => by subst hVdef; rfl
      have Vp11 : ∀ u wv, Vp 11 u wv = (u 11 = .bool (nearL la lg a5)) := fun u wv => by subst hVdef; rfl
      have Vp12 : ∀ u wv, Vp 12 u wv = (u 12 = .bool false) := fun u wv => by subst hVdef; rfl
      have Vp13 : ∀ u wv, Vp 13 u wv = (u 13 = .bool false) := fun u wv => by subst hVdef; rfl
      have Vp14 : ∀ u wv, Vp 14 u wv = (u 14 = .bool false) := fun u wv => by subst hVdef; rfl
      have Vp15 : ∀ u wv, Vp 15 u wv = (u 15 = .agg #[.int .i64 la, .int .i64 lg]) := fun u wv => by subst hVdef; rfl
      have Vp16 : ∀ u wv, Vp 16 u wv = (u 16 = .int .i64 a5) := fun u wv => by subst hVdef; rfl
      have Vp17 : ∀ u wv, Vp 17 u wv = (u 17 = .int .i64 p7) := fun u wv => by subst hVdef; rfl
      have Vp18 : ∀ u wv, Vp 18 u wv = (u 18 = .int .i64 (p7 - 6)) := fun u wv => by subst hVdef; rfl
      have Vp19 : ∀ u wv, Vp 19 u wv = (u 19 = .bool (nearL la lg (p7 - 6))) := fun u wv => by subst hVdef; rfl
      have Vp20 : ∀ u wv, Vp 20 u wv = (u 20 = .agg #[.int .i64 la, .int .i64 lg]) := fun u wv => by subst hVdef; rfl
      have Vp21 : ∀ u wv, Vp 21 u wv = (u 21 = .int .i64 a5) := fun u wv => by subst hVdef; rfl
      have Vp22 : ∀ u wv, Vp 22 u wv = (u 22 = .int .i64 p7) := fun u wv => by subst hVdef; rfl
      have Vp23 : ∀ u wv, Vp 23 u wv = (u 23 = .int .i64 (p7 - 6)) := fun u wv => by subst hVdef; rfl
      have Vp24 : ∀ u wv, Vp 24 u wv = (u 24 = .bool (nearL la lg (p7 - 6))) := fun u wv => by subst hVdef; rfl
      have Vp25 : ∀ u wv, Vp 25 u wv = (u 25 = .bool false) := fun u wv => by subst hVdef; rfl
      have Vp26 : ∀ u wv, Vp 26 u wv = (u 26 = .bool false) := fun u wv => by subst hVdef; rfl
      have HVD := Lib.hid hVdef
      clear hVdef
      refine region_each (V := Vp) (drop := fun _ _ => false) (G := fun wv => Below X1.heap.size X1 wv) (Rel := fun jx wv wv' => Below wv.heap.size wv wv') (by kernel_rfl) (by kernel_rfl) (Below.refl _ _).drew ?hmonoq1 ?hdepq1 ⟨?s0_q1, ?s1_q1, ?s2_q1, ?s3_q1, ?s4_q1, ?s5_q1, ?s6_q1, ?s7_q1, ?s8_q1, ?s9_q1, ?s10_q1, ?s11_q1, ?s12_q1, ?s13_q1, ?s14_q1, ?s15_q1, ?s16_q1, ?s17_q1, ?s18_q1, ?s19_q1, ?s20_q1, ?s21_q1, ?s22_q1, ?s23_q1, ?s24_q1, ?s25_q1, ?s26_q1, trivial⟩ ?behindq1
      case hmonoq1 =>
        intro ix jx u wv wv' hij hw hd hr
        rw [HVD.out]
        dsimp only
        split <;> intro h <;> first | exact trivial | exact h
      case hdepq1 =>
        intro ix u u' wv h1 h2
        rw [HVD.out]
        dsimp only
        split <;> intro h <;> first | exact trivial | (rw [← h1]; exact h)
      case s0_q1 =>
        refine owe rfl fun a wx val hG hV hN hO K hK => ?_
        have e15 : a.tmps[15]? = some (.pointer (some ⟨wr.heap.size, 0, none⟩)) := (hO 15 (by kernel_rfl)).trans (by rfl)
        clear hV hN hO
        obtain ⟨y0, y1⟩ := (HL.out.on hG).cells
        go_simp
        exact hK.out _ _ (by rw [Vp0, upd_at] <;> (congr 1 <;> omega)) (Below.refl _ _) hG
      case s1_q1 =>
        refine owe rfl fun a wx val hG hV hN hO K hK => ?_
        have e50 := hN 0 50 (by kernel_rfl) (by kernel_rfl) (by simp)
        have f50 := hV 0 (by kernel_rfl) (by kernel_rfl)
        rw [Vp0] at f50; rw [f50] at e50; clear f50
        clear hV hN hO
        go_simp
        refine (right_any la lg _).mono ?_
        rintro e w11 ⟨rfl, hb⟩
        exact hK.out _ _ (by rw [Vp1, upd_at]) hb (hG.trans (hb.mono hG.size))
      case s2_q1 =>
        refine owe rfl fun a wx val hG hV hN hO K hK => ?_
        have e15 : a.tmps[15]? = some (.pointer (some ⟨wr.heap.size, 0, none⟩)) := (hO 15 (by kernel_rfl)).trans (by rfl)
        clear hV hN hO
        obtain ⟨y0, y1⟩ := (HL.out.on hG).cells
        go_simp
        exact hK.out _ _ (by rw [Vp2, upd_at] <;> (congr 1 <;> omega)) (Below.refl _ _) hG
      case s3_q1 =>
        refine owe rfl fun a wx val hG hV hN hO K hK => ?_
        have e52 := hN 2 52 (by kernel_rfl) (by kernel_rfl) (by simp)
        have f52 := hV 2 (by kernel_rfl) (by kernel_rfl)
        rw [Vp2] at f52; rw [f52] at e52; clear f52
        clear hV hN hO
        go_simp
        refine (refRight_any la lg _).mono ?_
        rintro e w11 ⟨rfl, hb⟩
        exact hK.out _ _ (by rw [Vp3, upd_at]) hb (hG.trans (hb.mono hG.size))
      case s4_q1 =>
        refine owe rfl fun a wx val hG hV hN hO K hK => ?_
        have e51 := hN 1 51 (by kernel_rfl) (by kernel_rfl) (by simp)
        have f51 := hV 1 (by kernel_rfl) (by kernel_rfl)
        rw [Vp1] at f51; rw [f51] at e51; clear f51
        have e53 := hN 3 53 (by kernel_rfl) (by kernel_rfl) (by simp)
        have f53 := hV 3 (by kernel_rfl) (by kernel_rfl)
        rw [Vp3] at f53; rw [f53] at e53; clear f53
        clear hV hN hO
        go_simp
        exact hK.out _ _ (by rw [Vp4, upd_at] <;> (congr 1 <;> omega)) (Below.refl _ _) hG
      case s5_q1 =>
        refine owe rfl fun a wx val hG hV hN hO K hK => ?_
        have e54 := hN 4 54 (by kernel_rfl) (by kernel_rfl) (by simp)
        have f54 := hV 4 (by kernel_rfl) (by kernel_rfl)
        rw [Vp4] at f54; rw [f54] at e54; clear f54
        clear hV hN hO
        go_simp
        exact hK.out _ _ (by rw [Vp5, upd_at] <;> (congr 1 <;> omega)) (Below.refl _ _) hG
      case s6_q1 =>
        refine owe_if (g := 5) (t := 55) (b := false) rfl (by kernel_rfl) (by kernel_rfl) (by kernel_rfl) (by simp) (fun val w h => by rw [Vp5] at h; exact h) fun a wx val hG hV hN hO K hK => ?_
        have e15 : a.tmps[15]? = some (.pointer (some ⟨wr.heap.size, 0, none⟩)) := (hO 15 (by kernel_rfl)).trans (by rfl)
        clear hV hN hO
        obtain ⟨y0, y1⟩ := (HL.out.on hG).cells
        go_simp
        exact hK.out _ _ (by rw [Vp6, upd_at] <;> (congr 1 <;> omega)) (Below.refl _ _) hG
      case s7_q1 =>
        refine owe_if (g := 5) (t := 55) (b := false) rfl (by kernel_rfl) (by kernel_rfl) (by kernel_rfl) (by simp) (fun val w h => by rw [Vp5] at h; exact h) fun a wx val hG hV hN hO K hK => ?_
        have e5 : a.tmps[5]? = some (.int .i64 a5) := (hO 5 (by kernel_rfl)).trans (by rfl)
        clear hV hN hO
        go_simp
        exact hK.out _ _ (by rw [Vp7, upd_at] <;> (congr 1 <;> omega)) (Below.refl _ _) hG
      case s8_q1 =>
        refine owe_if (g := 5) (t := 55) (b := false) rfl (by kernel_rfl) (by kernel_rfl) (by kernel_rfl) (by simp) (fun val w h => by rw [Vp5] at h; exact h) fun a wx val hG hV hN hO K hK => ?_
        have e56 := hN 6 56 (by kernel_rfl) (by kernel_rfl) (by simp)
        have f56 := hV 6 (by kernel_rfl) (by kernel_rfl)
        rw [Vp6] at f56; rw [f56] at e56; clear f56
        have e57 := hN 7 57 (by kernel_rfl) (by kernel_rfl) (by simp)
        have f57 := hV 7 (by kernel_rfl) (by kernel_rfl)
        rw [Vp7] at f57; rw [f57] at e57; clear f57
        clear hV hN hO
        go_simp
        refine (near_any la lg a5 _).mono ?_
        rintro e w11 ⟨rfl, hb⟩
        exact hK.out _ _ (by rw [Vp8, upd_at]) hb (hG.trans (hb.mono hG.size))
      case s9_q1 =>
        refine owe_if (g := 5) (t := 55) (b := false) rfl (by kernel_rfl) (by kernel_rfl) (by kernel_rfl) (by simp) (fun val w h => by rw [Vp5] at h; exact h) fun a wx val hG hV hN hO K hK => ?_
        have e15 : a.tmps[15]? = some (.pointer (some ⟨wr.heap.size, 0, none⟩)) := (hO 15 (by kernel_rfl)).trans (by rfl)
        clear hV hN hO
        obtain ⟨y0, y1⟩ := (HL.out.on hG).cells
        go_simp
        exact hK.out _ _ (by rw [Vp9, upd_at] <;> (congr 1 <;> omega)) (Below.refl _ _) hG
      case s10_q1 =>
        refine owe_if (g := 5) (t := 55) (b := false) rfl (by kernel_rfl) (by kernel_rfl) (by kernel_rfl) (by simp) (fun val w h => by rw [Vp5] at h; exact h) fun a wx val hG hV hN hO K hK => ?_
        have e5 : a.tmps[5]? = some (.int .i64 a5) := (hO 5 (by kernel_rfl)).trans (by rfl)
        clear hV hN hO
        go_simp
        exact hK.out _ _ (by rw [Vp10, upd_at] <;> (congr 1 <;> omega)) (Below.refl _ _) hG
      case s11_q1 =>
        refine owe_if (g := 5) (t := 55) (b := false) rfl (by kernel_rfl) (by kernel_rfl) (by kernel_rfl) (by simp) (fun val w h => by rw [Vp5] at h; exact h) fun a wx val hG hV hN hO K hK => ?_
        have e59 := hN 9 59 (by kernel_rfl) (by kernel_rfl) (by simp)
        have f59 := hV 9 (by kernel_rfl) (by kernel_rfl)
        rw [Vp9] at f59; rw [f59] at e59; clear f59
        have e60 := hN 10 60 (by kernel_rfl) (by kernel_rfl) (by simp)
        have f60 := hV 10 (by kernel_rfl) (by kernel_rfl)
        rw [Vp10] at f60; rw [f60] at e60; clear f60
        clear hV hN hO
        go_simp
        refine (refNear_any la lg a5 _).mono ?_
        rintro e w11 ⟨rfl, hb⟩
        exact hK.out _ _ (by rw [Vp11, upd_at]) hb (hG.trans (hb.mono hG.size))
      case s12_q1 =>
        refine owe_if (g := 5) (t := 55) (b := false) rfl (by kernel_rfl) (by kernel_rfl) (by kernel_rfl) (by simp) (fun val w h => by rw [Vp5] at h; exact h) fun a wx val hG hV hN hO K hK => ?_
        have e58 := hN 8 58 (by kernel_rfl) (by kernel_rfl) (by simp)
        have f58 := hV 8 (by kernel_rfl) (by kernel_rfl)
        rw [Vp8] at f58; rw [f58] at e58; clear f58
        have e61 := hN 11 61 (by kernel_rfl) (by kernel_rfl) (by simp)
        have f61 := hV 11 (by kernel_rfl) (by kernel_rfl)
        rw [Vp11] at f61; rw [f61] at e61; clear f61
        clear hV hN hO
        go_simp
        exact hK.out _ _ (by rw [Vp12, upd_at] <;> (congr 1 <;> omega)) (Below.refl _ _) hG
      case s13_q1 =>
        refine owe rfl fun a wx val hG hV hN hO K hK => ?_
        have e55 := hN 5 55 (by kernel_rfl) (by kernel_rfl) (by simp)
        have f55 := hV 5 (by kernel_rfl) (by kernel_rfl)
        rw [Vp5] at f55; rw [f55] at e55; clear f55
        have e62 := hN 12 62 (by kernel_rfl) (by kernel_rfl) (by simp)
        have f62 := hV 12 (by kernel_rfl) (by kernel_rfl)
        rw [Vp12] at f62; rw [f62] at e62; clear f62
        clear hV hN hO
        go_simp
        exact hK.out _ _ (by rw [Vp13, upd_at] <;> (congr 1 <;> omega)) (Below.refl _ _) hG
      case s14_q1 =>
        refine owe rfl fun a wx val hG hV hN hO K hK => ?_
        have e63 := hN 13 63 (by kernel_rfl) (by kernel_rfl) (by simp)
        have f63 := hV 13 (by kernel_rfl) (by kernel_rfl)
        rw [Vp13] at f63; rw [f63] at e63; clear f63
        clear hV hN hO
        go_simp
        exact hK.out _ _ (by rw [Vp14, upd_at] <;> (congr 1 <;> omega)) (Below.refl _ _) hG
      case s15_q1 =>
        refine owe_if (g := 14) (t := 64) (b := false) rfl (by kernel_rfl) (by kernel_rfl) (by kernel_rfl) (by simp) (fun val w h => by rw [Vp14] at h; exact h) fun a wx val hG hV hN hO K hK => ?_
        have e15 : a.tmps[15]? = some (.pointer (some ⟨wr.heap.size, 0, none⟩)) := (hO 15 (by kernel_rfl)).trans (by rfl)
        clear hV hN hO
        obtain ⟨y0, y1⟩ := (HL.out.on hG).cells
        go_simp
        exact hK.out _ _ (by rw [Vp15, upd_at] <;> (congr 1 <;> omega)) (Below.refl _ _) hG
      case s16_q1 =>
        refine owe_if (g := 14) (t := 64) (b := false) rfl (by kernel_rfl) (by kernel_rfl) (by kernel_rfl) (by simp) (fun val w h => by rw [Vp14] at h; exact h) fun a wx val hG hV hN hO K hK => ?_
        have e5 : a.tmps[5]? = some (.int .i64 a5) := (hO 5 (by kernel_rfl)).trans (by rfl)
        clear hV hN hO
        go_simp
        exact hK.out _ _ (by rw [Vp16, upd_at] <;> (congr 1 <;> omega)) (Below.refl _ _) hG
      case s17_q1 =>
        refine owe_if (g := 14) (t := 64) (b := false) rfl (by kernel_rfl) (by kernel_rfl) (by kernel_rfl) (by simp) (fun val w h => by rw [Vp14] at h; exact h) fun a wx val hG hV hN hO K hK => ?_
        have e66 := hN 16 66 (by kernel_rfl) (by kernel_rfl) (by simp)
        have f66 := hV 16 (by kernel_rfl) (by kernel_rfl)
        rw [Vp16] at f66; rw [f66] at e66; clear f66
        clear hV hN hO
        go_simp
        refine (P7.out _).mono ?_
        rintro e w11 ⟨rfl, rfl⟩
        exact hK.out _ _ (by rw [Vp17, upd_at] <;> (congr 1 <;> omega)) (Below.refl _ _) hG
      case s18_q1 =>
        refine owe_if (g := 14) (t := 64) (b := false) rfl (by kernel_rfl) (by kernel_rfl) (by kernel_rfl) (by simp) (fun val w h => by rw [Vp14] at h; exact h) fun a wx val hG hV hN hO K hK => ?_
        have e67 := hN 17 67 (by kernel_rfl) (by kernel_rfl) (by simp)
        have f67 := hV 17 (by kernel_rfl) (by kernel_rfl)
        rw [Vp17] at f67; rw [f67] at e67; clear f67
        clear hV hN hO
        have q1 : IntKind.i64.wrap (p7 - 6) = p7 - 6 := IntWalk.i64_in _ (by omega)
        go_simp
        exact hK.out _ _ (by rw [Vp18, upd_at] <;> (congr 1 <;> omega)) (Below.refl _ _) hG
      case s19_q1 =>
        refine owe_if (g := 14) (t := 64) (b := false) rfl (by kernel_rfl) (by kernel_rfl) (by kernel_rfl) (by simp) (fun val w h => by rw [Vp14] at h; exact h) fun a wx val hG hV hN hO K hK => ?_
        have e65 := hN 15 65 (by kernel_rfl) (by kernel_rfl) (by simp)
        have f65 := hV 15 (by kernel_rfl) (by kernel_rfl)
        rw [Vp15] at f65; rw [f65] at e65; clear f65
        have e68 := hN 18 68 (by kernel_rfl) (by kernel_rfl) (by simp)
        have f68 := hV 18 (by kernel_rfl) (by kernel_rfl)
        rw [Vp18] at f68; rw [f68] at e68; clear f68
        clear hV hN hO
        go_simp
        refine (near_any la lg (p7 - 6) _).mono ?_
        rintro e w11 ⟨rfl, hb⟩
        exact hK.out _ _ (by rw [Vp19, upd_at]) hb (hG.trans (hb.mono hG.size))
      case s20_q1 =>
        refine owe_if (g := 14) (t := 64) (b := false) rfl (by kernel_rfl) (by kernel_rfl) (by kernel_rfl) (by simp) (fun val w h => by rw [Vp14] at h; exact h) fun a wx val hG hV hN hO K hK => ?_
        have e15 : a.tmps[15]? = some (.pointer (some ⟨wr.heap.size, 0, none⟩)) := (hO 15 (by kernel_rfl)).trans (by rfl)
        clear hV hN hO
        obtain ⟨y0, y1⟩ := (HL.out.on hG).cells
        go_simp
        exact hK.out _ _ (by rw [Vp20, upd_at] <;> (congr 1 <;> omega)) (Below.refl _ _) hG
      case s21_q1 =>
        refine owe_if (g := 14) (t := 64) (b := false) rfl (by kernel_rfl) (by kernel_rfl) (by kernel_rfl) (by simp) (fun val w h => by rw [Vp14] at h; exact h) fun a wx val hG hV hN hO K hK => ?_
        have e5 : a.tmps[5]? = some (.int .i64 a5) := (hO 5 (by kernel_rfl)).trans (by rfl)
        clear hV hN hO
        go_simp
        exact hK.out _ _ (by rw [Vp21, upd_at] <;> (congr 1 <;> omega)) (Below.refl _ _) hG
      case s22_q1 =>
        refine owe_if (g := 14) (t := 64) (b := false) rfl (by kernel_rfl) (by kernel_rfl) (by kernel_rfl) (by simp) (fun val w h => by rw [Vp14] at h; exact h) fun a wx val hG hV hN hO K hK => ?_
        have e71 := hN 21 71 (by kernel_rfl) (by kernel_rfl) (by simp)
        have f71 := hV 21 (by kernel_rfl) (by kernel_rfl)
        rw [Vp21] at f71; rw [f71] at e71; clear f71
        clear hV hN hO
        go_simp
        refine (P7.out _).mono ?_
        rintro e w11 ⟨rfl, rfl⟩
        exact hK.out _ _ (by rw [Vp22, upd_at] <;> (congr 1 <;> omega)) (Below.refl _ _) hG
      case s23_q1 =>
        refine owe_if (g := 14) (t := 64) (b := false) rfl (by kernel_rfl) (by kernel_rfl) (by kernel_rfl) (by simp) (fun val w h => by rw [Vp14] at h; exact h) fun a wx val hG hV hN hO K hK => ?_
        have e72 := hN 22 72 (by kernel_rfl) (by kernel_rfl) (by simp)
        have f72 := hV 22 (by kernel_rfl) (by kernel_rfl)
        rw [Vp22] at f72; rw [f72] at e72; clear f72
        clear hV hN hO
        have q1 : IntKind.i64.wrap (p7 - 6) = p7 - 6 := IntWalk.i64_in _ (by omega)
        go_simp
        exact hK.out _ _ (by rw [Vp23, upd_at] <;> (congr 1 <;> omega)) (Below.refl _ _) hG
      case s24_q1 =>
        refine owe_if (g := 14) (t := 64) (b := false) rfl (by kernel_rfl) (by kernel_rfl) (by kernel_rfl) (by simp) (fun val w h => by rw [Vp14] at h; exact h) fun a wx val hG hV hN hO K hK => ?_
        have e70 := hN 20 70 (by kernel_rfl) (by kernel_rfl) (by simp)
        have f70 := hV 20 (by kernel_rfl) (by kernel_rfl)
        rw [Vp20] at f70; rw [f70] at e70; clear f70
        have e73 := hN 23 73 (by kernel_rfl) (by kernel_rfl) (by simp)
        have f73 := hV 23 (by kernel_rfl) (by kernel_rfl)
        rw [Vp23] at f73; rw [f73] at e73; clear f73
        clear hV hN hO
        go_simp
        refine (refNear_any la lg (p7 - 6) _).mono ?_
        rintro e w11 ⟨rfl, hb⟩
        exact hK.out _ _ (by rw [Vp24, upd_at]) hb (hG.trans (hb.mono hG.size))
      case s25_q1 =>
        refine owe_if (g := 14) (t := 64) (b := false) rfl (by kernel_rfl) (by kernel_rfl) (by kernel_rfl) (by simp) (fun val w h => by rw [Vp14] at h; exact h) fun a wx val hG hV hN hO K hK => ?_
        have e69 := hN 19 69 (by kernel_rfl) (by kernel_rfl) (by simp)
        have f69 := hV 19 (by kernel_rfl) (by kernel_rfl)
        rw [Vp19] at f69; rw [f69] at e69; clear f69
        have e74 := hN 24 74 (by kernel_rfl) (by kernel_rfl) (by simp)
        have f74 := hV 24 (by kernel_rfl) (by kernel_rfl)
        rw [Vp24] at f74; rw [f74] at e74; clear f74
        clear hV hN hO
        go_simp
        exact hK.out _ _ (by rw [Vp25, upd_at] <;> (congr 1 <;> omega)) (Below.refl _ _) hG
      case s26_q1 =>
        refine owe rfl fun a wx val hG hV hN hO K hK => ?_
        have e64 := hN 14 64 (by kernel_rfl) (by kernel_rfl) (by simp)
        have f64 := hV 14 (by kernel_rfl) (by kernel_rfl)
        rw [Vp14] at f64; rw [f64] at e64; clear f64
        have e75 := hN 25 75 (by kernel_rfl) (by kernel_rfl) (by simp)
        have f75 := hV 25 (by kernel_rfl) (by kernel_rfl)
        rw [Vp25] at f75; rw [f75] at e75; clear f75
        clear hV hN hO
        go_simp
        exact hK.out _ _ (by rw [Vp26, upd_at] <;> (congr 1 <;> omega)) (Below.refl _ _) hG
      intro val wx hG hV
      have f0 := hV 0 (by simp) (fun _ _ => by rfl)
      rw [Vp0] at f0
      have f1 := hV 1 (by simp) (fun _ _ => by rfl)
      rw [Vp1] at f1
      have f2 := hV 2 (by simp) (fun _ _ => by rfl)
      rw [Vp2] at f2
      have f3 := hV 3 (by simp) (fun _ _ => by rfl)
      rw [Vp3] at f3
      have f4 := hV 4 (by simp) (fun _ _ => by rfl)
      rw [Vp4] at f4
      have f5 := hV 5 (by simp) (fun _ _ => by rfl)
      rw [Vp5] at f5
      have f6 := hV 6 (by simp) (fun _ _ => by rfl)
      rw [Vp6] at f6
      have f7 := hV 7 (by simp) (fun _ _ => by rfl)
      rw [Vp7] at f7
      have f8 := hV 8 (by simp) (fun _ _ => by rfl)
      rw [Vp8] at f8
      have f9 := hV 9 (by simp) (fun _ _ => by rfl)
      rw [Vp9] at f9
      have f10 := hV 10 (by simp) (fun _ _ => by rfl)
      rw [Vp10] at f10
      have f11 := hV 11 (by simp) (fun _ _ => by rfl)
      rw [Vp11] at f11
      have f12 := hV 12 (by simp) (fun _ _ => by rfl)
      rw [Vp12] at f12
      have f13 := hV 13 (by simp) (fun _ _ => by rfl)
      rw [Vp13] at f13
      have f14 := hV 14 (by simp) (fun _ _ => by rfl)
      rw [Vp14] at f14
      have f15 := hV 15 (by simp) (fun _ _ => by rfl)
      rw [Vp15] at f15
      have f16 := hV 16 (by simp) (fun _ _ => by rfl)
      rw [Vp16] at f16
      have f17 := hV 17 (by simp) (fun _ _ => by rfl)
      rw [Vp17] at f17
      have f18 := hV 18 (by simp) (fun _ _ => by rfl)
      rw [Vp18] at f18
      have f19 := hV 19 (by simp) (fun _ _ => by rfl)
      rw [Vp19] at f19
      have f20 := hV 20 (by simp) (fun _ _ => by rfl)
      rw [Vp20] at f20
      have f21 := hV 21 (by simp) (fun _ _ => by rfl)
      rw [Vp21] at f21
      have f22 := hV 22 (by simp) (fun _ _ => by rfl)
      rw [Vp22] at f22
      have f23 := hV 23 (by simp) (fun _ _ => by rfl)
      rw [Vp23] at f23
      have f24 := hV 24 (by simp) (fun _ _ => by rfl)
      rw [Vp24] at f24
      have f25 := hV 25 (by simp) (fun _ _ => by rfl)
      rw [Vp25] at f25
      have f26 := hV 26 (by simp) (fun _ _ => by rfl)
      rw [Vp26] at f26
      clear hV Vp0 Vp1 Vp2 Vp3 Vp4 Vp5 Vp6 Vp7 Vp8 Vp9 Vp10 Vp11 Vp12 Vp13 Vp14 Vp15 Vp16 Vp17 Vp18 Vp19 Vp20 Vp21 Vp22 Vp23 Vp24 Vp25 Vp26
      simp only [putAll, Act.put, List.setIfInBounds_toArray, List.set_cons_zero, List.set_cons_succ]
      generalize val 0 = z0 at *; (subst f0)
      generalize val 1 = z1 at *; (subst f1)
      generalize val 2 = z2 at *; (subst f2)
      generalize val 3 = z3 at *; (subst f3)
      generalize val 4 = z4 at *; (subst f4)
      generalize val 5 = z5 at *; (subst f5)
      generalize val 6 = z6 at *; (subst f6)
      generalize val 7 = z7 at *; (subst f7)
      generalize val 8 = z8 at *; (subst f8)
      generalize val 9 = z9 at *; (subst f9)
      generalize val 10 = z10 at *; (subst f10)
      generalize val 11 = z11 at *; (subst f11)
      generalize val 12 = z12 at *; (subst f12)
      generalize val 13 = z13 at *; (subst f13)
      generalize val 14 = z14 at *; (subst f14)
      generalize val 15 = z15 at *; (subst f15)
      generalize val 16 = z16 at *; (subst f16)
      generalize val 17 = z17 at *; (subst f17)
      generalize val 18 = z18 at *; (subst f18)
      generalize val 19 = z19 at *; (subst f19)
      generalize val 20 = z20 at *; (subst f20)
      generalize val 21 = z21 at *; (subst f21)
      generalize val 22 = z22 at *; (subst f22)
      generalize val 23 = z23 at *; (subst f23)
      generalize val 24 = z24 at *; (subst f24)
      generalize val 25 = z25 at *; (subst f25)
      generalize val 26 = z26 at *; (subst f26)
      clear HVD
      have HL5 := Lib.hid (HL.out.on hG)
      have HB5 := Lib.hid (HB4.out.trans (hG.mono HB4.out.size))
      clear hG HL HB4
      generalize wx = X2 at *
      generalize wr.heap.size = bl at *
      go_wp2_with fail
      (with_reducible refine (P3.out _).mono ?_); rintro e q1 ⟨rfl, rfl⟩
      go_wp2_with fail
      (with_reducible refine (P4.out _).mono ?_); rintro e q1 ⟨rfl, rfl⟩
      go_wp2_with fail
      (with_reducible refine (P5.out _).mono ?_); rintro e q1 ⟨rfl, rfl⟩
      go_wp2_with fail
      (with_reducible refine (P6.out _).mono ?_); rintro e q1 ⟨rfl, rfl⟩
      obtain ⟨M3, hM3⟩ : ∃ L, L = [(a3, a4), (p3 - 1099511627776, p4 - 1099511627776), (p5 - 50, p6 - 50)] := ⟨_, rfl⟩
      have HM3 : Hid (M3.length = 3) := Lib.hid (by rw [hM3]; rfl)
      have hpn := pairs_new X2 30 a3 a4 (p3 - 1099511627776) (p4 - 1099511627776) (p5 - 50) (p6 - 50)
      rw [← hM3] at hpn
      have HQ := Lib.hid hpn
      have hc2 := Joins.below_alloc1 X2 (.cells #[.int .i64 a3, .int .i64 a4, .int .i64 (p3 - 1099511627776), .int .i64 (p4 - 1099511627776), .int .i64 (p5 - 50), .int .i64 (p6 - 50)] 30)
      have HL6 := Lib.hid (HL5.out.on hc2)
      have HB6 := Lib.hid (HB5.out.trans (hc2.mono HB5.out.size))
      clear hpn hc2 hM3 HL5 HB5
      go_wp2_with fail
      obtain ⟨gm, hgm⟩ : ∃ g, X2.heap.size = g := ⟨_, rfl⟩
      rw [hgm] at HQ
      (try rw [hgm])
      clear hgm
      generalize X2.alloc (.cells #[.int .i64 a3, .int .i64 a4, .int .i64 (p3 - 1099511627776), .int .i64 (p4 - 1099511627776), .int .i64 (p5 - 50), .int .i64 (p6 - 50)] 30) = X3 at *
      have HW1 := Lib.hid (Below.refl X3.heap.size X3)
      go_loopw [96] (fun i wr => ∃ k : Nat, k ≤ 3 ∧ i = .int .i64 k ∧ Below X3.heap.size X3 wr) (fun i _ => 3 - (intOf i).toNat)
      case atStart => exact ⟨0, by omega, rfl, HW1.out⟩
      case round =>
        obtain ⟨m, hm, rfl, hb⟩ := hrel
        have HB7 := Lib.hid hb; clear hb HW1
        by_cases hm3 : m < 3
        · have hmI : (m : Int) < 3 := by omega
          obtain ⟨⟨x, y⟩, hx⟩ : ∃ x, M3[m]? = some x := ⟨_, List.getElem?_eq_getElem (by rw [HM3.out]; omega)⟩
          obtain ⟨z0, z1⟩ := (HQ.out.on HB7.out) m _ hx
          simp only at z0 z1
          have hc4 := Joins.below_alloc1 wr (.cells #[.int .i64 x, .int .i64 y] 30)
          have HT := Lib.hid (TwAt.new wr x y)
          have HM := Lib.hid ((HL6.out.on HB7.out).on hc4)
          replace HB7 := Lib.hid (HB7.out.trans (hc4.mono HB7.out.size))
          obtain ⟨y0, y1⟩ := HM.out.cells
          obtain ⟨x0, x1⟩ := HT.out.cells
          have C1 := Lib.hid (fun W => next_any la lg x W)
          have C2 := Lib.hid (fun W => refNext_any la lg x W)
          have C3 := Lib.hid (fun W => epoch_any la lg x W)
          have C4 := Lib.hid (fun W => refEpoch_any la lg x W)
          have C5 := Lib.hid (fun W => order_any la lg x y W)
          have C6 := Lib.hid (fun W => refOrder_any la lg x y W)
          have C7 := Lib.hid (fun W => begin_any la lg y W)
          have C8 := Lib.hid (fun W => refBegin_any la lg y W)
          have C9 := Lib.hid (fun W => active_any la lg x W)
          have C10 := Lib.hid (fun W => refActive_any la lg x W)
          generalize nextV la lg x = t1 at *
          generalize errB (mayL la lg x) = t2 at *
          generalize epV la lg x = t3 at *
          generalize orV la lg x y = t4 at *
          generalize errB (orB la lg x y) = t5 at *
          generalize begV la lg y = t6 at *
          generalize errB (begB la lg y) = t7 at *
          generalize actL la lg x = t8 at *
          clear hx hc4
          go_wp2_with fail
          (with_reducible refine (C1.out _).mono ?_); rintro e q1 ⟨rfl, b⟩
          replace HT := Lib.hid (HT.out.on b)
          replace HM := Lib.hid (HM.out.on b)
          replace HB7 := Lib.hid (HB7.out.trans (b.mono HB7.out.size))
          clear b y0 y1 x0 x1
          obtain ⟨y0, y1⟩ := HM.out.cells
          obtain ⟨x0, x1⟩ := HT.out.cells
          go_wp2_with fail; (with_reducible refine (C2.out _).mono ?_); rintro e q2 ⟨rfl, b⟩
          replace HT := Lib.hid (HT.out.on b)
          replace HM := Lib.hid (HM.out.on b)
          replace HB7 := Lib.hid (HB7.out.trans (b.mono HB7.out.size))
          clear b y0 y1 x0 x1
          obtain ⟨y0, y1⟩ := HM.out.cells
          obtain ⟨x0, x1⟩ := HT.out.cells
          go_wp2_with fail; (with_reducible refine (C3.out _).mono ?_); rintro e q3 ⟨rfl, b⟩
          replace HT := Lib.hid (HT.out.on b)
          replace HM := Lib.hid (HM.out.on b)
          replace HB7 := Lib.hid (HB7.out.trans (b.mono HB7.out.size))
          clear b y0 y1 x0 x1
          obtain ⟨y0, y1⟩ := HM.out.cells
          obtain ⟨x0, x1⟩ := HT.out.cells
          go_wp2_with fail; (with_reducible refine (C4.out _).mono ?_); rintro e q4 ⟨rfl, b⟩
          replace HT := Lib.hid (HT.out.on b)
          replace HM := Lib.hid (HM.out.on b)
          replace HB7 := Lib.hid (HB7.out.trans (b.mono HB7.out.size))
          clear b y0 y1 x0 x1
          obtain ⟨y0, y1⟩ := HM.out.cells
          obtain ⟨x0, x1⟩ := HT.out.cells
          go_wp2_with fail; (with_reducible refine (C5.out _).mono ?_); rintro e q5 ⟨rfl, b⟩
          replace HT := Lib.hid (HT.out.on b)
          replace HM := Lib.hid (HM.out.on b)
          replace HB7 := Lib.hid (HB7.out.trans (b.mono HB7.out.size))
          clear b y0 y1 x0 x1
          obtain ⟨y0, y1⟩ := HM.out.cells
          obtain ⟨x0, x1⟩ := HT.out.cells
          go_wp2_with fail; (with_reducible refine (C6.out _).mono ?_); rintro e q6 ⟨rfl, b⟩
          replace HT := Lib.hid (HT.out.on b)
          replace HM := Lib.hid (HM.out.on b)
          replace HB7 := Lib.hid (HB7.out.trans (b.mono HB7.out.size))
          clear b y0 y1 x0 x1
          obtain ⟨y0, y1⟩ := HM.out.cells
          obtain ⟨x0, x1⟩ := HT.out.cells
          go_wp2_with fail; (with_reducible refine (C7.out _).mono ?_); rintro e q7 ⟨rfl, b⟩
          replace HT := Lib.hid (HT.out.on b)
          replace HM := Lib.hid (HM.out.on b)
          replace HB7 := Lib.hid (HB7.out.trans (b.mono HB7.out.size))
          clear b y0 y1 x0 x1
          obtain ⟨y0, y1⟩ := HM.out.cells
          obtain ⟨x0, x1⟩ := HT.out.cells
          go_wp2_with fail; (with_reducible refine (C8.out _).mono ?_); rintro e q8 ⟨rfl, b⟩
          replace HT := Lib.hid (HT.out.on b)
          replace HM := Lib.hid (HM.out.on b)
          replace HB7 := Lib.hid (HB7.out.trans (b.mono HB7.out.size))
          clear b y0 y1 x0 x1
          obtain ⟨y0, y1⟩ := HM.out.cells
          obtain ⟨x0, x1⟩ := HT.out.cells
          go_upto_region 18 with fail
          generalize wr.heap.size = bt at *
          generalize q8 = X4 at *
          clear y0 y1 x0 x1 C1 C2 C3 C4 C5 C6 C7 C8
          have HV : ∃ Vp : Nat → (Nat → Value) → World → Prop, Vp = (fun ix u wv => match ix with
            | 0 => u 0 = .int .i64 t1
            | 1 => u 1 = .int .i64 t1
            | 2 => u 2 = .bool false
            | 3 => u 3 = .bool false
            | 4 => u 4 = .int .i64 t2
            | 5 => u 5 = .int .i64 t2
            | 6 => u 6 = .bool false
            | 7 => u 7 = .bool false
            | 8 => u 8 = .bool false
            | 9 => u 9 = .int .i64 t3
            | 10 => u 10 = .int .i64 t3
            | 11 => u 11 = .bool false
            | 12 => u 12 = .bool false
            | 13 => u 13 = .bool false
            | 14 => u 14 = .int .i64 t2
            | 15 => u 15 = .int .i64 t2
            | 16 => u 16 = .bool false
            | 17 => u 17 = .bool false
            | 18 => u 18 = .bool false
            | 19 => u 19 = .int .i64 t4
            | 20 => u 20 = .int .i64 t4
            | 21 => u 21 = .bool false
            | 22 => u 22 = .bool false
            | 23 => u 23 = .bool false
            | 24 => u 24 = .int .i64 t5
            | 25 => u 25 = .int .i64 t5
            | 26 => u 26 = .bool false
            | 27 => u 27 = .bool false
            | 28 => u 28 = .bool false
            | 29 => u 29 = .int .i64 t6
            | 30 => u 30 = .int .i64 t6
            | 31 => u 31 = .bool false
            | 32 => u 32 = .bool false
            | 33 => u 33 = .bool false
            | 34 => u 34 = .int .i64 t7
            | 35 => u 35 = .int .i64 t7
            | 36 => u 36 = .bool false
            | 37 => u 37 = .bool false
            | 38 => u 38 = .bool false
            | 39 => u 39 = .agg #[.int .i64 la, .int .i64 lg]
            | 40 => u 40 = .pointer (some ⟨bt, 0, none⟩)
            | 41 => u 41 = .int .i64 x
            | 42 => u 42 = .bool t8
            | 43 => u 43 = .agg #[.int .i64 la, .int .i64 lg]
            | 44 => u 44 = .pointer (some ⟨bt, 0, none⟩)
            | 45 => u 45 = .int .i64 x
            | 46 => u 46 = .bool t8
            | 47 => u 47 = .bool false
            | 48 => u 48 = .bool false
            | _ => True) := ⟨_, rfl⟩
          obtain ⟨Vp, hVdef⟩ := HV
          have Vp0 : ∀ u wv, Vp 0 u wv = (u 0 = .int .i64 t1) := fun u wv => by subst hVdef; rfl
          have Vp1 : ∀ u wv, Vp 1 u wv = (u 1 = .int .i64 t1) := fun u wv => by subst hVdef; rfl
          have Vp2 : ∀ u wv, Vp 2 u wv = (u 2 = .bool false) := fun u wv => by subst hVdef; rfl
          have Vp3 : ∀ u wv, Vp 3 u wv = (u 3 = .bool false) := fun u wv => by subst hVdef; rfl
          have Vp4 : ∀ u wv, Vp 4 u wv = (u 4 = .int .i64 t2) := fun u wv => by subst hVdef; rfl
          have Vp5 : ∀ u wv, Vp 5 u wv = (u 5 = .int .i64 t2) := fun u wv => by subst hVdef; rfl
          have Vp6 : ∀ u wv, Vp 6 u wv = (u 6 = .bool false) := fun u wv => by subst hVdef; rfl
          have Vp7 : ∀ u wv, Vp 7 u wv = (u 7 = .bool false) := fun u wv => by subst hVdef; rfl
          have Vp8 : ∀ u wv, Vp 8 u wv = (u 8 = .bool false) := fun u wv => by subst hVdef; rfl
          have Vp9 : ∀ u wv, Vp 9 u wv = (u 9 = .int .i64 t3) := fun u wv => by subst hVdef; rfl
          have Vp10 : ∀ u wv, Vp 10 u wv = (u 10 = .int .i64 t3) := fun u wv => by subst hVdef; rfl
          have Vp11 : ∀ u wv, Vp 11 u wv = (u 11 = .bool false) := fun u wv => by subst hVdef; rfl
          have Vp12 : ∀ u wv, Vp 12 u wv = (u 12 = .bool false) := fun u wv => by subst hVdef; rfl
          have Vp13 : ∀ u wv, Vp 13 u wv = (u 13 = .bool false) := fun u wv => by subst hVdef; rfl
          have Vp14 : ∀ u wv, Vp 14 u wv = (u 14 = .int .i64 t2) := fun u wv => by subst hVdef; rfl
          have Vp15 : ∀ u wv, Vp 15 u wv = (u 15 = .int .i64 t2) := fun u wv => by subst hVdef; rfl
          have Vp16 : ∀ u wv, Vp 16 u wv = (u 16 = .bool false) := fun u wv => by subst hVdef; rfl
          have Vp17 : ∀ u wv, Vp 17 u wv = (u 17 = .bool false) := fun u wv => by subst hVdef; rfl
          have Vp18 : ∀ u wv, Vp 18 u wv = (u 18 = .bool false) := fun u wv => by subst hVdef; rfl
          have Vp19 : ∀ u wv, Vp 19 u wv = (u 19 = .int .i64 t4) := fun u wv => by subst hVdef; rfl
          have Vp20 : ∀ u wv, Vp 20 u wv = (u 20 = .int .i64 t4) := fun u wv => by subst hVdef; rfl
          have Vp21 : ∀ u wv, Vp 21 u wv = (u 21 = .bool false) := fun u wv => by subst hVdef; rfl
          have Vp22 : ∀ u wv, Vp 22 u wv = (u 22 = .bool false) := fun u wv => by subst hVdef; rfl
          have Vp23 : ∀ u wv, Vp 23 u wv = (u 23 = .bool false) := fun u wv => by subst hVdef; rfl
          have Vp24 : ∀ u wv, Vp 24 u wv = (u 24 = .int .i64 t5) := fun u wv => by subst hVdef; rfl
          have Vp25 : ∀ u wv, Vp 25 u wv = (u 25 = .int .i64 t5) := fun u wv => by subst hVdef; rfl
          have Vp26 : ∀ u wv, Vp 26 u wv = (u 26 = .bool false) := fun u wv => by subst hVdef; rfl
          have Vp27 : ∀ u wv, Vp 27 u wv = (u 27 = .bool false) := fun u wv => by subst hVdef; rfl
          have Vp28 : ∀ u wv, Vp 28 u wv = (u 28 = .bool false) := fun u wv => by subst hVdef; rfl
          have Vp29 : ∀ u wv, Vp 29 u wv = (u 29 = .int .i64 t6) := fun u wv => by subst hVdef; rfl
          have Vp30 : ∀ u wv, Vp 30 u wv = (u 30 = .int .i64 t6) := fun u wv => by subst hVdef; rfl
          have Vp31 : ∀ u wv, Vp 31 u wv = (u 31 = .bool false) := fun u wv => by subst hVdef; rfl
          have Vp32 : ∀ u wv, Vp 32 u wv = (u 32 = .bool false) := fun u wv => by subst hVdef; rfl
          have Vp33 : ∀ u wv, Vp 33 u wv = (u 33 = .bool false) := fun u wv => by subst hVdef; rfl
          have Vp34 : ∀ u wv, Vp 34 u wv = (u 34 = .int .i64 t7) := fun u wv => by subst hVdef; rfl
          have Vp35 : ∀ u wv, Vp 35 u wv = (u 35 = .int .i64 t7) := fun u wv => by subst hVdef; rfl
          have Vp36 : ∀ u wv, Vp 36 u wv = (u 36 = .bool false) := fun u wv => by subst hVdef; rfl
          have Vp37 : ∀ u wv, Vp 37 u wv = (u 37 = .bool false) := fun u wv => by subst hVdef; rfl
          have Vp38 : ∀ u wv, Vp 38 u wv = (u 38 = .bool false) := fun u wv => by subst hVdef; rfl
          have Vp39 : ∀ u wv, Vp 39 u wv = (u 39 = .agg #[.int .i64 la, .int .i64 lg]) := fun u wv => by subst hVdef; rfl
          have Vp40 : ∀ u wv, Vp 40 u wv = (u 40 = .pointer (some ⟨bt, 0, none⟩)) := fun u wv => by subst hVdef; rfl
          have Vp41 : ∀ u wv, Vp 41 u wv = (u 41 = .int .i64 x) := fun u wv => by subst hVdef; rfl
          have Vp42 : ∀ u wv, Vp 42 u wv = (u 42 = .bool t8) := fun u wv => by subst hVdef; rfl
          have Vp43 : ∀ u wv, Vp 43 u wv = (u 43 = .agg #[.int .i64 la, .int .i64 lg]) := fun u wv => by subst hVdef; rfl
          have Vp44 : ∀ u wv, Vp 44 u wv = (u 44 = .pointer (some ⟨bt, 0, none⟩)) := fun u wv => by subst hVdef; rfl
          have Vp45 : ∀ u wv, Vp 45 u wv = (u 45 = .int .i64 x) := fun u wv => by subst hVdef; rfl
          have Vp46 : ∀ u wv, Vp 46 u wv = (u 46 = .bool t8) := fun u wv => by subst hVdef; rfl
          have Vp47 : ∀ u wv, Vp 47 u wv = (u 47 = .bool false) := fun u wv => by subst hVdef; rfl
          have Vp48 : ∀ u wv, Vp 48 u wv = (u 48 = .bool false) := fun u wv => by subst hVdef; rfl
          have HVD := Lib.hid hVdef
          clear hVdef
          refine region_each (V := Vp) (drop := fun _ _ => false) (G := fun wv => Below X4.heap.size X4 wv) (Rel := fun jx wv wv' => Below wv.heap.size wv wv') (by kernel_rfl) (by kernel_rfl) (Below.refl _ _).drew ?hmonoq2 ?hdepq2 ⟨?s0_q2, ?s1_q2, ?s2_q2, ?s3_q2, ?s4_q2, ?s5_q2, ?s6_q2, ?s7_q2, ?s8_q2, ?s9_q2, ?s10_q2, ?s11_q2, ?s12_q2, ?s13_q2, ?s14_q2, ?s15_q2, ?s16_q2, ?s17_q2, ?s18_q2, ?s19_q2, ?s20_q2, ?s21_q2, ?s22_q2, ?s23_q2, ?s24_q2, ?s25_q2, ?s26_q2, ?s27_q2, ?s28_q2, ?s29_q2, ?s30_q2, ?s31_q2, ?s32_q2, ?s33_q2, ?s34_q2, ?s35_q2, ?s36_q2, ?s37_q2, ?s38_q2, ?s39_q2, ?s40_q2, ?s41_q2, ?s42_q2, ?s43_q2, ?s44_q2, ?s45_q2, ?s46_q2, ?s47_q2, ?s48_q2, trivial⟩ ?behindq2
          case hmonoq2 =>
            intro ix jx u wv wv' hij hw hd hr
            rw [HVD.out]
            dsimp only
            split <;> intro h <;> first | exact trivial | exact h
          case hdepq2 =>
            intro ix u u' wv h1 h2
            rw [HVD.out]
            dsimp only
            split <;> intro h <;> first | exact trivial | (rw [← h1]; exact h)
          case s0_q2 =>
            refine owe rfl fun a wx val hG hV hN hO K hK => ?_
            have e18 : a.tmps[18]? = some (.int .i64 t1) := (hO 18 (by kernel_rfl)).trans (by rfl)
            clear hV hN hO
            go_simp
            exact hK.out _ _ (by rw [Vp0, upd_at] <;> (congr 1 <;> omega)) (Below.refl _ _) hG
          case s1_q2 =>
            refine owe rfl fun a wx val hG hV hN hO K hK => ?_
            have e20 : a.tmps[20]? = some (.int .i64 t1) := (hO 20 (by kernel_rfl)).trans (by rfl)
            clear hV hN hO
            go_simp
            exact hK.out _ _ (by rw [Vp1, upd_at] <;> (congr 1 <;> omega)) (Below.refl _ _) hG
          case s2_q2 =>
            refine owe rfl fun a wx val hG hV hN hO K hK => ?_
            have e160 := hN 0 160 (by kernel_rfl) (by kernel_rfl) (by simp)
            have f160 := hV 0 (by kernel_rfl) (by kernel_rfl)
            rw [Vp0] at f160; rw [f160] at e160; clear f160
            have e161 := hN 1 161 (by kernel_rfl) (by kernel_rfl) (by simp)
            have f161 := hV 1 (by kernel_rfl) (by kernel_rfl)
            rw [Vp1] at f161; rw [f161] at e161; clear f161
            clear hV hN hO
            go_simp
            exact hK.out _ _ (by rw [Vp2, upd_at] <;> (congr 1 <;> omega)) (Below.refl _ _) hG
          case s3_q2 =>
            refine owe rfl fun a wx val hG hV hN hO K hK => ?_
            have e162 := hN 2 162 (by kernel_rfl) (by kernel_rfl) (by simp)
            have f162 := hV 2 (by kernel_rfl) (by kernel_rfl)
            rw [Vp2] at f162; rw [f162] at e162; clear f162
            clear hV hN hO
            go_simp
            exact hK.out _ _ (by rw [Vp3, upd_at] <;> (congr 1 <;> omega)) (Below.refl _ _) hG
          case s4_q2 =>
            refine owe_if (g := 3) (t := 163) (b := false) rfl (by kernel_rfl) (by kernel_rfl) (by kernel_rfl) (by simp) (fun val w h => by rw [Vp3] at h; exact h) fun a wx val hG hV hN hO K hK => ?_
            have e19 : a.tmps[19]? = some (.int .i64 t2) := (hO 19 (by kernel_rfl)).trans (by rfl)
            clear hV hN hO
            go_simp
            exact hK.out _ _ (by rw [Vp4, upd_at] <;> (congr 1 <;> omega)) (Below.refl _ _) hG
          case s5_q2 =>
            refine owe_if (g := 3) (t := 163) (b := false) rfl (by kernel_rfl) (by kernel_rfl) (by kernel_rfl) (by simp) (fun val w h => by rw [Vp3] at h; exact h) fun a wx val hG hV hN hO K hK => ?_
            have e21 : a.tmps[21]? = some (.int .i64 t2) := (hO 21 (by kernel_rfl)).trans (by rfl)
            clear hV hN hO
            go_simp
            exact hK.out _ _ (by rw [Vp5, upd_at] <;> (congr 1 <;> omega)) (Below.refl _ _) hG
          case s6_q2 =>
            refine owe_if (g := 3) (t := 163) (b := false) rfl (by kernel_rfl) (by kernel_rfl) (by kernel_rfl) (by simp) (fun val w h => by rw [Vp3] at h; exact h) fun a wx val hG hV hN hO K hK => ?_
            have e164 := hN 4 164 (by kernel_rfl) (by kernel_rfl) (by simp)
            have f164 := hV 4 (by kernel_rfl) (by kernel_rfl)
            rw [Vp4] at f164; rw [f164] at e164; clear f164
            have e165 := hN 5 165 (by kernel_rfl) (by kernel_rfl) (by simp)
            have f165 := hV 5 (by kernel_rfl) (by kernel_rfl)
            rw [Vp5] at f165; rw [f165] at e165; clear f165
            clear hV hN hO
            go_simp
            exact hK.out _ _ (by rw [Vp6, upd_at] <;> (congr 1 <;> omega)) (Below.refl _ _) hG
          case s7_q2 =>
            refine owe rfl fun a wx val hG hV hN hO K hK => ?_
            have e163 := hN 3 163 (by kernel_rfl) (by kernel_rfl) (by simp)
            have f163 := hV 3 (by kernel_rfl) (by kernel_rfl)
            rw [Vp3] at f163; rw [f163] at e163; clear f163
            have e166 := hN 6 166 (by kernel_rfl) (by kernel_rfl) (by simp)
            have f166 := hV 6 (by kernel_rfl) (by kernel_rfl)
            rw [Vp6] at f166; rw [f166] at e166; clear f166
            clear hV hN hO
            go_simp
            exact hK.out _ _ (by rw [Vp7, upd_at] <;> (congr 1 <;> omega)) (Below.refl _ _) hG
          case s8_q2 =>
            refine owe rfl fun a wx val hG hV hN hO K hK => ?_
            have e167 := hN 7 167 (by kernel_rfl) (by kernel_rfl) (by simp)
            have f167 := hV 7 (by kernel_rfl) (by kernel_rfl)
            rw [Vp7] at f167; rw [f167] at e167; clear f167
            clear hV hN hO
            go_simp
            exact hK.out _ _ (by rw [Vp8, upd_at] <;> (congr 1 <;> omega)) (Below.refl _ _) hG
          case s9_q2 =>
            refine owe_if (g := 8) (t := 168) (b := false) rfl (by kernel_rfl) (by kernel_rfl) (by kernel_rfl) (by simp) (fun val w h => by rw [Vp8] at h; exact h) fun a wx val hG hV hN hO K hK => ?_
            have e22 : a.tmps[22]? = some (.int .i64 t3) := (hO 22 (by kernel_rfl)).trans (by rfl)
            clear hV hN hO
            go_simp
            exact hK.out _ _ (by rw [Vp9, upd_at] <;> (congr 1 <;> omega)) (Below.refl _ _) hG
          case s10_q2 =>
            refine owe_if (g := 8) (t := 168) (b := false) rfl (by kernel_rfl) (by kernel_rfl) (by kernel_rfl) (by simp) (fun val w h => by rw [Vp8] at h; exact h) fun a wx val hG hV hN hO K hK => ?_
            have e24 : a.tmps[24]? = some (.int .i64 t3) := (hO 24 (by kernel_rfl)).trans (by rfl)
            clear hV hN hO
            go_simp
            exact hK.out _ _ (by rw [Vp10, upd_at] <;> (congr 1 <;> omega)) (Below.refl _ _) hG
          case s11_q2 =>
            refine owe_if (g := 8) (t := 168) (b := false) rfl (by kernel_rfl) (by kernel_rfl) (by kernel_rfl) (by simp) (fun val w h => by rw [Vp8] at h; exact h) fun a wx val hG hV hN hO K hK => ?_
            have e169 := hN 9 169 (by kernel_rfl) (by kernel_rfl) (by simp)
            have f169 := hV 9 (by kernel_rfl) (by kernel_rfl)
            rw [Vp9] at f169; rw [f169] at e169; clear f169
            have e170 := hN 10 170 (by kernel_rfl) (by kernel_rfl) (by simp)
            have f170 := hV 10 (by kernel_rfl) (by kernel_rfl)
            rw [Vp10] at f170; rw [f170] at e170; clear f170
            clear hV hN hO
            go_simp
            exact hK.out _ _ (by rw [Vp11, upd_at] <;> (congr 1 <;> omega)) (Below.refl _ _) hG
          case s12_q2 =>
            refine owe rfl fun a wx val hG hV hN hO K hK => ?_
            have e168 := hN 8 168 (by kernel_rfl) (by kernel_rfl) (by simp)
            have f168 := hV 8 (by kernel_rfl) (by kernel_rfl)
            rw [Vp8] at f168; rw [f168] at e168; clear f168
            have e171 := hN 11 171 (by kernel_rfl) (by kernel_rfl) (by simp)
            have f171 := hV 11 (by kernel_rfl) (by kernel_rfl)
            rw [Vp11] at f171; rw [f171] at e171; clear f171
            clear hV hN hO
            go_simp
            exact hK.out _ _ (by rw [Vp12, upd_at] <;> (congr 1 <;> omega)) (Below.refl _ _) hG
          case s13_q2 =>
            refine owe rfl fun a wx val hG hV hN hO K hK => ?_
            have e172 := hN 12 172 (by kernel_rfl) (by kernel_rfl) (by simp)
            have f172 := hV 12 (by kernel_rfl) (by kernel_rfl)
            rw [Vp12] at f172; rw [f172] at e172; clear f172
            clear hV hN hO
            go_simp
            exact hK.out _ _ (by rw [Vp13, upd_at] <;> (congr 1 <;> omega)) (Below.refl _ _) hG
          case s14_q2 =>
            refine owe_if (g := 13) (t := 173) (b := false) rfl (by kernel_rfl) (by kernel_rfl) (by kernel_rfl) (by simp) (fun val w h => by rw [Vp13] at h; exact h) fun a wx val hG hV hN hO K hK => ?_
            have e23 : a.tmps[23]? = some (.int .i64 t2) := (hO 23 (by kernel_rfl)).trans (by rfl)
            clear hV hN hO
            go_simp
            exact hK.out _ _ (by rw [Vp14, upd_at] <;> (congr 1 <;> omega)) (Below.refl _ _) hG
          case s15_q2 =>
            refine owe_if (g := 13) (t := 173) (b := false) rfl (by kernel_rfl) (by kernel_rfl) (by kernel_rfl) (by simp) (fun val w h => by rw [Vp13] at h; exact h) fun a wx val hG hV hN hO K hK => ?_
            have e25 : a.tmps[25]? = some (.int .i64 t2) := (hO 25 (by kernel_rfl)).trans (by rfl)
            clear hV hN hO
            go_simp
            exact hK.out _ _ (by rw [Vp15, upd_at] <;> (congr 1 <;> omega)) (Below.refl _ _) hG
          case s16_q2 =>
            refine owe_if (g := 13) (t := 173) (b := false) rfl (by kernel_rfl) (by kernel_rfl) (by kernel_rfl) (by simp) (fun val w h => by rw [Vp13] at h; exact h) fun a wx val hG hV hN hO K hK => ?_
            have e174 := hN 14 174 (by kernel_rfl) (by kernel_rfl) (by simp)
            have f174 := hV 14 (by kernel_rfl) (by kernel_rfl)
            rw [Vp14] at f174; rw [f174] at e174; clear f174
            have e175 := hN 15 175 (by kernel_rfl) (by kernel_rfl) (by simp)
            have f175 := hV 15 (by kernel_rfl) (by kernel_rfl)
            rw [Vp15] at f175; rw [f175] at e175; clear f175
            clear hV hN hO
            go_simp
            exact hK.out _ _ (by rw [Vp16, upd_at] <;> (congr 1 <;> omega)) (Below.refl _ _) hG
          case s17_q2 =>
            refine owe rfl fun a wx val hG hV hN hO K hK => ?_
            have e173 := hN 13 173 (by kernel_rfl) (by kernel_rfl) (by simp)
            have f173 := hV 13 (by kernel_rfl) (by kernel_rfl)
            rw [Vp13] at f173; rw [f173] at e173; clear f173
            have e176 := hN 16 176 (by kernel_rfl) (by kernel_rfl) (by simp)
            have f176 := hV 16 (by kernel_rfl) (by kernel_rfl)
            rw [Vp16] at f176; rw [f176] at e176; clear f176
            clear hV hN hO
            go_simp
            exact hK.out _ _ (by rw [Vp17, upd_at] <;> (congr 1 <;> omega)) (Below.refl _ _) hG
          case s18_q2 =>
            refine owe rfl fun a wx val hG hV hN hO K hK => ?_
            have e177 := hN 17 177 (by kernel_rfl) (by kernel_rfl) (by simp)
            have f177 := hV 17 (by kernel_rfl) (by kernel_rfl)
            rw [Vp17] at f177; rw [f177] at e177; clear f177
            clear hV hN hO
            go_simp
            exact hK.out _ _ (by rw [Vp18, upd_at] <;> (congr 1 <;> omega)) (Below.refl _ _) hG
          case s19_q2 =>
            refine owe_if (g := 18) (t := 178) (b := false) rfl (by kernel_rfl) (by kernel_rfl) (by kernel_rfl) (by simp) (fun val w h => by rw [Vp18] at h; exact h) fun a wx val hG hV hN hO K hK => ?_
            have e26 : a.tmps[26]? = some (.int .i64 t4) := (hO 26 (by kernel_rfl)).trans (by rfl)
            clear hV hN hO
            go_simp
            exact hK.out _ _ (by rw [Vp19, upd_at] <;> (congr 1 <;> omega)) (Below.refl _ _) hG
          case s20_q2 =>
            refine owe_if (g := 18) (t := 178) (b := false) rfl (by kernel_rfl) (by kernel_rfl) (by kernel_rfl) (by simp) (fun val w h => by rw [Vp18] at h; exact h) fun a wx val hG hV hN hO K hK => ?_
            have e28 : a.tmps[28]? = some (.int .i64 t4) := (hO 28 (by kernel_rfl)).trans (by rfl)
            clear hV hN hO
            go_simp
            exact hK.out _ _ (by rw [Vp20, upd_at] <;> (congr 1 <;> omega)) (Below.refl _ _) hG
          case s21_q2 =>
            refine owe_if (g := 18) (t := 178) (b := false) rfl (by kernel_rfl) (by kernel_rfl) (by kernel_rfl) (by simp) (fun val w h => by rw [Vp18] at h; exact h) fun a wx val hG hV hN hO K hK => ?_
            have e179 := hN 19 179 (by kernel_rfl) (by kernel_rfl) (by simp)
            have f179 := hV 19 (by kernel_rfl) (by kernel_rfl)
            rw [Vp19] at f179; rw [f179] at e179; clear f179
            have e180 := hN 20 180 (by kernel_rfl) (by kernel_rfl) (by simp)
            have f180 := hV 20 (by kernel_rfl) (by kernel_rfl)
            rw [Vp20] at f180; rw [f180] at e180; clear f180
            clear hV hN hO
            go_simp
            exact hK.out _ _ (by rw [Vp21, upd_at] <;> (congr 1 <;> omega)) (Below.refl _ _) hG
          case s22_q2 =>
            refine owe rfl fun a wx val hG hV hN hO K hK => ?_
            have e178 := hN 18 178 (by kernel_rfl) (by kernel_rfl) (by simp)
            have f178 := hV 18 (by kernel_rfl) (by kernel_rfl)
            rw [Vp18] at f178; rw [f178] at e178; clear f178
            have e181 := hN 21 181 (by kernel_rfl) (by kernel_rfl) (by simp)
            have f181 := hV 21 (by kernel_rfl) (by kernel_rfl)
            rw [Vp21] at f181; rw [f181] at e181; clear f181
            clear hV hN hO
            go_simp
            exact hK.out _ _ (by rw [Vp22, upd_at] <;> (congr 1 <;> omega)) (Below.refl _ _) hG
          case s23_q2 =>
            refine owe rfl fun a wx val hG hV hN hO K hK => ?_
            have e182 := hN 22 182 (by kernel_rfl) (by kernel_rfl) (by simp)
            have f182 := hV 22 (by kernel_rfl) (by kernel_rfl)
            rw [Vp22] at f182; rw [f182] at e182; clear f182
            clear hV hN hO
            go_simp
            exact hK.out _ _ (by rw [Vp23, upd_at] <;> (congr 1 <;> omega)) (Below.refl _ _) hG
          case s24_q2 =>
            refine owe_if (g := 23) (t := 183) (b := false) rfl (by kernel_rfl) (by kernel_rfl) (by kernel_rfl) (by simp) (fun val w h => by rw [Vp23] at h; exact h) fun a wx val hG hV hN hO K hK => ?_
            have e27 : a.tmps[27]? = some (.int .i64 t5) := (hO 27 (by kernel_rfl)).trans (by rfl)
            clear hV hN hO
            go_simp
            exact hK.out _ _ (by rw [Vp24, upd_at] <;> (congr 1 <;> omega)) (Below.refl _ _) hG
          case s25_q2 =>
            refine owe_if (g := 23) (t := 183) (b := false) rfl (by kernel_rfl) (by kernel_rfl) (by kernel_rfl) (by simp) (fun val w h => by rw [Vp23] at h; exact h) fun a wx val hG hV hN hO K hK => ?_
            have e29 : a.tmps[29]? = some (.int .i64 t5) := (hO 29 (by kernel_rfl)).trans (by rfl)
            clear hV hN hO
            go_simp
            exact hK.out _ _ (by rw [Vp25, upd_at] <;> (congr 1 <;> omega)) (Below.refl _ _) hG
          case s26_q2 =>
            refine owe_if (g := 23) (t := 183) (b := false) rfl (by kernel_rfl) (by kernel_rfl) (by kernel_rfl) (by simp) (fun val w h => by rw [Vp23] at h; exact h) fun a wx val hG hV hN hO K hK => ?_
            have e184 := hN 24 184 (by kernel_rfl) (by kernel_rfl) (by simp)
            have f184 := hV 24 (by kernel_rfl) (by kernel_rfl)
            rw [Vp24] at f184; rw [f184] at e184; clear f184
            have e185 := hN 25 185 (by kernel_rfl) (by kernel_rfl) (by simp)
            have f185 := hV 25 (by kernel_rfl) (by kernel_rfl)
            rw [Vp25] at f185; rw [f185] at e185; clear f185
            clear hV hN hO
            go_simp
            exact hK.out _ _ (by rw [Vp26, upd_at] <;> (congr 1 <;> omega)) (Below.refl _ _) hG
          case s27_q2 =>
            refine owe rfl fun a wx val hG hV hN hO K hK => ?_
            have e183 := hN 23 183 (by kernel_rfl) (by kernel_rfl) (by simp)
            have f183 := hV 23 (by kernel_rfl) (by kernel_rfl)
            rw [Vp23] at f183; rw [f183] at e183; clear f183
            have e186 := hN 26 186 (by kernel_rfl) (by kernel_rfl) (by simp)
            have f186 := hV 26 (by kernel_rfl) (by kernel_rfl)
            rw [Vp26] at f186; rw [f186] at e186; clear f186
            clear hV hN hO
            go_simp
            exact hK.out _ _ (by rw [Vp27, upd_at] <;> (congr 1 <;> omega)) (Below.refl _ _) hG
          case s28_q2 =>
            refine owe rfl fun a wx val hG hV hN hO K hK => ?_
            have e187 := hN 27 187 (by kernel_rfl) (by kernel_rfl) (by simp)
            have f187 := hV 27 (by kernel_rfl) (by kernel_rfl)
            rw [Vp27] at f187; rw [f187] at e187; clear f187
            clear hV hN hO
            go_simp
            exact hK.out _ _ (by rw [Vp28, upd_at] <;> (congr 1 <;> omega)) (Below.refl _ _) hG
          case s29_q2 =>
            refine owe_if (g := 28) (t := 188) (b := false) rfl (by kernel_rfl) (by kernel_rfl) (by kernel_rfl) (by simp) (fun val w h => by rw [Vp28] at h; exact h) fun a wx val hG hV hN hO K hK => ?_
            have e30 : a.tmps[30]? = some (.int .i64 t6) := (hO 30 (by kernel_rfl)).trans (by rfl)
            clear hV hN hO
            go_simp
            exact hK.out _ _ (by rw [Vp29, upd_at] <;> (congr 1 <;> omega)) (Below.refl _ _) hG
          case s30_q2 =>
            refine owe_if (g := 28) (t := 188) (b := false) rfl (by kernel_rfl) (by kernel_rfl) (by kernel_rfl) (by simp) (fun val w h => by rw [Vp28] at h; exact h) fun a wx val hG hV hN hO K hK => ?_
            have e32 : a.tmps[32]? = some (.int .i64 t6) := (hO 32 (by kernel_rfl)).trans (by rfl)
            clear hV hN hO
            go_simp
            exact hK.out _ _ (by rw [Vp30, upd_at] <;> (congr 1 <;> omega)) (Below.refl _ _) hG
          case s31_q2 =>
            refine owe_if (g := 28) (t := 188) (b := false) rfl (by kernel_rfl) (by kernel_rfl) (by kernel_rfl) (by simp) (fun val w h => by rw [Vp28] at h; exact h) fun a wx val hG hV hN hO K hK => ?_
            have e189 := hN 29 189 (by kernel_rfl) (by kernel_rfl) (by simp)
            have f189 := hV 29 (by kernel_rfl) (by kernel_rfl)
            rw [Vp29] at f189; rw [f189] at e189; clear f189
            have e190 := hN 30 190 (by kernel_rfl) (by kernel_rfl) (by simp)
            have f190 := hV 30 (by kernel_rfl) (by kernel_rfl)
            rw [Vp30] at f190; rw [f190] at e190; clear f190
            clear hV hN hO
            go_simp
            exact hK.out _ _ (by rw [Vp31, upd_at] <;> (congr 1 <;> omega)) (Below.refl _ _) hG
          case s32_q2 =>
            refine owe rfl fun a wx val hG hV hN hO K hK => ?_
            have e188 := hN 28 188 (by kernel_rfl) (by kernel_rfl) (by simp)
            have f188 := hV 28 (by kernel_rfl) (by kernel_rfl)
            rw [Vp28] at f188; rw [f188] at e188; clear f188
            have e191 := hN 31 191 (by kernel_rfl) (by kernel_rfl) (by simp)
            have f191 := hV 31 (by kernel_rfl) (by kernel_rfl)
            rw [Vp31] at f191; rw [f191] at e191; clear f191
            clear hV hN hO
            go_simp
            exact hK.out _ _ (by rw [Vp32, upd_at] <;> (congr 1 <;> omega)) (Below.refl _ _) hG
          case s33_q2 =>
            refine owe rfl fun a wx val hG hV hN hO K hK => ?_
            have e192 := hN 32 192 (by kernel_rfl) (by kernel_rfl) (by simp)
            have f192 := hV 32 (by kernel_rfl) (by kernel_rfl)
            rw [Vp32] at f192; rw [f192] at e192; clear f192
            clear hV hN hO
            go_simp
            exact hK.out _ _ (by rw [Vp33, upd_at] <;> (congr 1 <;> omega)) (Below.refl _ _) hG
          case s34_q2 =>
            refine owe_if (g := 33) (t := 193) (b := false) rfl (by kernel_rfl) (by kernel_rfl) (by kernel_rfl) (by simp) (fun val w h => by rw [Vp33] at h; exact h) fun a wx val hG hV hN hO K hK => ?_
            have e31 : a.tmps[31]? = some (.int .i64 t7) := (hO 31 (by kernel_rfl)).trans (by rfl)
            clear hV hN hO
            go_simp
            exact hK.out _ _ (by rw [Vp34, upd_at] <;> (congr 1 <;> omega)) (Below.refl _ _) hG
          case s35_q2 =>
            refine owe_if (g := 33) (t := 193) (b := false) rfl (by kernel_rfl) (by kernel_rfl) (by kernel_rfl) (by simp) (fun val w h => by rw [Vp33] at h; exact h) fun a wx val hG hV hN hO K hK => ?_
            have e33 : a.tmps[33]? = some (.int .i64 t7) := (hO 33 (by kernel_rfl)).trans (by rfl)
            clear hV hN hO
            go_simp
            exact hK.out _ _ (by rw [Vp35, upd_at] <;> (congr 1 <;> omega)) (Below.refl _ _) hG
          case s36_q2 =>
            refine owe_if (g := 33) (t := 193) (b := false) rfl (by kernel_rfl) (by kernel_rfl) (by kernel_rfl) (by simp) (fun val w h => by rw [Vp33] at h; exact h) fun a wx val hG hV hN hO K hK => ?_
            have e194 := hN 34 194 (by kernel_rfl) (by kernel_rfl) (by simp)
            have f194 := hV 34 (by kernel_rfl) (by kernel_rfl)
            rw [Vp34] at f194; rw [f194] at e194; clear f194
            have e195 := hN 35 195 (by kernel_rfl) (by kernel_rfl) (by simp)
            have f195 := hV 35 (by kernel_rfl) (by kernel_rfl)
            rw [Vp35] at f195; rw [f195] at e195; clear f195
            clear hV hN hO
            go_simp
            exact hK.out _ _ (by rw [Vp36, upd_at] <;> (congr 1 <;> omega)) (Below.refl _ _) hG
          case s37_q2 =>
            refine owe rfl fun a wx val hG hV hN hO K hK => ?_
            have e193 := hN 33 193 (by kernel_rfl) (by kernel_rfl) (by simp)
            have f193 := hV 33 (by kernel_rfl) (by kernel_rfl)
            rw [Vp33] at f193; rw [f193] at e193; clear f193
            have e196 := hN 36 196 (by kernel_rfl) (by kernel_rfl) (by simp)
            have f196 := hV 36 (by kernel_rfl) (by kernel_rfl)
            rw [Vp36] at f196; rw [f196] at e196; clear f196
            clear hV hN hO
            go_simp
            exact hK.out _ _ (by rw [Vp37, upd_at] <;> (congr 1 <;> omega)) (Below.refl _ _) hG
          case s38_q2 =>
            refine owe rfl fun a wx val hG hV hN hO K hK => ?_
            have e197 := hN 37 197 (by kernel_rfl) (by kernel_rfl) (by simp)
            have f197 := hV 37 (by kernel_rfl) (by kernel_rfl)
            rw [Vp37] at f197; rw [f197] at e197; clear f197
            clear hV hN hO
            go_simp
            exact hK.out _ _ (by rw [Vp38, upd_at] <;> (congr 1 <;> omega)) (Below.refl _ _) hG
          case s39_q2 =>
            refine owe_if (g := 38) (t := 198) (b := false) rfl (by kernel_rfl) (by kernel_rfl) (by kernel_rfl) (by simp) (fun val w h => by rw [Vp38] at h; exact h) fun a wx val hG hV hN hO K hK => ?_
            have e15 : a.tmps[15]? = some (.pointer (some ⟨bl, 0, none⟩)) := (hO 15 (by kernel_rfl)).trans (by rfl)
            clear hV hN hO
            obtain ⟨y0, y1⟩ := (HM.out.on hG).cells ; obtain ⟨x0, x1⟩ := (HT.out.on hG).cells
            go_simp
            exact hK.out _ _ (by rw [Vp39, upd_at] <;> (congr 1 <;> omega)) (Below.refl _ _) hG
          case s40_q2 =>
            refine owe_if (g := 38) (t := 198) (b := false) rfl (by kernel_rfl) (by kernel_rfl) (by kernel_rfl) (by simp) (fun val w h => by rw [Vp38] at h; exact h) fun a wx val hG hV hN hO K hK => ?_
            have e17 : a.tmps[17]? = some (.pointer (some ⟨bt, 0, none⟩)) := (hO 17 (by kernel_rfl)).trans (by rfl)
            clear hV hN hO
            go_simp
            exact hK.out _ _ (by rw [Vp40, upd_at] <;> (congr 1 <;> omega)) (Below.refl _ _) hG
          case s41_q2 =>
            refine owe_if (g := 38) (t := 198) (b := false) rfl (by kernel_rfl) (by kernel_rfl) (by kernel_rfl) (by simp) (fun val w h => by rw [Vp38] at h; exact h) fun a wx val hG hV hN hO K hK => ?_
            have e200 := hN 40 200 (by kernel_rfl) (by kernel_rfl) (by simp)
            have f200 := hV 40 (by kernel_rfl) (by kernel_rfl)
            rw [Vp40] at f200; rw [f200] at e200; clear f200
            clear hV hN hO
            obtain ⟨y0, y1⟩ := (HM.out.on hG).cells ; obtain ⟨x0, x1⟩ := (HT.out.on hG).cells
            go_simp
            exact hK.out _ _ (by rw [Vp41, upd_at] <;> (congr 1 <;> omega)) (Below.refl _ _) hG
          case s42_q2 =>
            refine owe_if (g := 38) (t := 198) (b := false) rfl (by kernel_rfl) (by kernel_rfl) (by kernel_rfl) (by simp) (fun val w h => by rw [Vp38] at h; exact h) fun a wx val hG hV hN hO K hK => ?_
            have e199 := hN 39 199 (by kernel_rfl) (by kernel_rfl) (by simp)
            have f199 := hV 39 (by kernel_rfl) (by kernel_rfl)
            rw [Vp39] at f199; rw [f199] at e199; clear f199
            have e201 := hN 41 201 (by kernel_rfl) (by kernel_rfl) (by simp)
            have f201 := hV 41 (by kernel_rfl) (by kernel_rfl)
            rw [Vp41] at f201; rw [f201] at e201; clear f201
            clear hV hN hO
            go_simp
            refine (C9.out _).mono ?_
            rintro e w11 ⟨rfl, hb⟩
            exact hK.out _ _ (by rw [Vp42, upd_at]) hb (hG.trans (hb.mono hG.size))
          case s43_q2 =>
            refine owe_if (g := 38) (t := 198) (b := false) rfl (by kernel_rfl) (by kernel_rfl) (by kernel_rfl) (by simp) (fun val w h => by rw [Vp38] at h; exact h) fun a wx val hG hV hN hO K hK => ?_
            have e15 : a.tmps[15]? = some (.pointer (some ⟨bl, 0, none⟩)) := (hO 15 (by kernel_rfl)).trans (by rfl)
            clear hV hN hO
            obtain ⟨y0, y1⟩ := (HM.out.on hG).cells ; obtain ⟨x0, x1⟩ := (HT.out.on hG).cells
            go_simp
            exact hK.out _ _ (by rw [Vp43, upd_at] <;> (congr 1 <;> omega)) (Below.refl _ _) hG
          case s44_q2 =>
            refine owe_if (g := 38) (t := 198) (b := false) rfl (by kernel_rfl) (by kernel_rfl) (by kernel_rfl) (by simp) (fun val w h => by rw [Vp38] at h; exact h) fun a wx val hG hV hN hO K hK => ?_
            have e17 : a.tmps[17]? = some (.pointer (some ⟨bt, 0, none⟩)) := (hO 17 (by kernel_rfl)).trans (by rfl)
            clear hV hN hO
            go_simp
            exact hK.out _ _ (by rw [Vp44, upd_at] <;> (congr 1 <;> omega)) (Below.refl _ _) hG
          case s45_q2 =>
            refine owe_if (g := 38) (t := 198) (b := false) rfl (by kernel_rfl) (by kernel_rfl) (by kernel_rfl) (by simp) (fun val w h => by rw [Vp38] at h; exact h) fun a wx val hG hV hN hO K hK => ?_
            have e204 := hN 44 204 (by kernel_rfl) (by kernel_rfl) (by simp)
            have f204 := hV 44 (by kernel_rfl) (by kernel_rfl)
            rw [Vp44] at f204; rw [f204] at e204; clear f204
            clear hV hN hO
            obtain ⟨y0, y1⟩ := (HM.out.on hG).cells ; obtain ⟨x0, x1⟩ := (HT.out.on hG).cells
            go_simp
            exact hK.out _ _ (by rw [Vp45, upd_at] <;> (congr 1 <;> omega)) (Below.refl _ _) hG
          case s46_q2 =>
            refine owe_if (g := 38) (t := 198) (b := false) rfl (by kernel_rfl) (by kernel_rfl) (by kernel_rfl) (by simp) (fun val w h => by rw [Vp38] at h; exact h) fun a wx val hG hV hN hO K hK => ?_
            have e203 := hN 43 203 (by kernel_rfl) (by kernel_rfl) (by simp)
            have f203 := hV 43 (by kernel_rfl) (by kernel_rfl)
            rw [Vp43] at f203; rw [f203] at e203; clear f203
            have e205 := hN 45 205 (by kernel_rfl) (by kernel_rfl) (by simp)
            have f205 := hV 45 (by kernel_rfl) (by kernel_rfl)
            rw [Vp45] at f205; rw [f205] at e205; clear f205
            clear hV hN hO
            go_simp
            refine (C10.out _).mono ?_
            rintro e w11 ⟨rfl, hb⟩
            exact hK.out _ _ (by rw [Vp46, upd_at]) hb (hG.trans (hb.mono hG.size))
          case s47_q2 =>
            refine owe_if (g := 38) (t := 198) (b := false) rfl (by kernel_rfl) (by kernel_rfl) (by kernel_rfl) (by simp) (fun val w h => by rw [Vp38] at h; exact h) fun a wx val hG hV hN hO K hK => ?_
            have e202 := hN 42 202 (by kernel_rfl) (by kernel_rfl) (by simp)
            have f202 := hV 42 (by kernel_rfl) (by kernel_rfl)
            rw [Vp42] at f202; rw [f202] at e202; clear f202
            have e206 := hN 46 206 (by kernel_rfl) (by kernel_rfl) (by simp)
            have f206 := hV 46 (by kernel_rfl) (by kernel_rfl)
            rw [Vp46] at f206; rw [f206] at e206; clear f206
            clear hV hN hO
            go_simp
            exact hK.out _ _ (by rw [Vp47, upd_at] <;> (congr 1 <;> omega)) (Below.refl _ _) hG
          case s48_q2 =>
            refine owe rfl fun a wx val hG hV hN hO K hK => ?_
            have e198 := hN 38 198 (by kernel_rfl) (by kernel_rfl) (by simp)
            have f198 := hV 38 (by kernel_rfl) (by kernel_rfl)
            rw [Vp38] at f198; rw [f198] at e198; clear f198
            have e207 := hN 47 207 (by kernel_rfl) (by kernel_rfl) (by simp)
            have f207 := hV 47 (by kernel_rfl) (by kernel_rfl)
            rw [Vp47] at f207; rw [f207] at e207; clear f207
            clear hV hN hO
            go_simp
            exact hK.out _ _ (by rw [Vp48, upd_at] <;> (congr 1 <;> omega)) (Below.refl _ _) hG
          intro val wx hG hV
          have f0 := hV 0 (by simp) (fun _ _ => by rfl)
          rw [Vp0] at f0
          have f1 := hV 1 (by simp) (fun _ _ => by rfl)
          rw [Vp1] at f1
          have f2 := hV 2 (by simp) (fun _ _ => by rfl)
          rw [Vp2] at f2
          have f3 := hV 3 (by simp) (fun _ _ => by rfl)
          rw [Vp3] at f3
          have f4 := hV 4 (by simp) (fun _ _ => by rfl)
          rw [Vp4] at f4
          have f5 := hV 5 (by simp) (fun _ _ => by rfl)
          rw [Vp5] at f5
          have f6 := hV 6 (by simp) (fun _ _ => by rfl)
          rw [Vp6] at f6
          have f7 := hV 7 (by simp) (fun _ _ => by rfl)
          rw [Vp7] at f7
          have f8 := hV 8 (by simp) (fun _ _ => by rfl)
          rw [Vp8] at f8
          have f9 := hV 9 (by simp) (fun _ _ => by rfl)
          rw [Vp9] at f9
          have f10 := hV 10 (by simp) (fun _ _ => by rfl)
          rw [Vp10] at f10
          have f11 := hV 11 (by simp) (fun _ _ => by rfl)
          rw [Vp11] at f11
          have f12 := hV 12 (by simp) (fun _ _ => by rfl)
          rw [Vp12] at f12
          have f13 := hV 13 (by simp) (fun _ _ => by rfl)
          rw [Vp13] at f13
          have f14 := hV 14 (by simp) (fun _ _ => by rfl)
          rw [Vp14] at f14
          have f15 := hV 15 (by simp) (fun _ _ => by rfl)
          rw [Vp15] at f15
          have f16 := hV 16 (by simp) (fun _ _ => by rfl)
          rw [Vp16] at f16
          have f17 := hV 17 (by simp) (fun _ _ => by rfl)
          rw [Vp17] at f17
          have f18 := hV 18 (by simp) (fun _ _ => by rfl)
          rw [Vp18] at f18
          have f19 := hV 19 (by simp) (fun _ _ => by rfl)
          rw [Vp19] at f19
          have f20 := hV 20 (by simp) (fun _ _ => by rfl)
          rw [Vp20] at f20
          have f21 := hV 21 (by simp) (fun _ _ => by rfl)
          rw [Vp21] at f21
          have f22 := hV 22 (by simp) (fun _ _ => by rfl)
          rw [Vp22] at f22
          have f23 := hV 23 (by simp) (fun _ _ => by rfl)
          rw [Vp23] at f23
          have f24 := hV 24 (by simp) (fun _ _ => by rfl)
          rw [Vp24] at f24
          have f25 := hV 25 (by simp) (fun _ _ => by rfl)
          rw [Vp25] at f25
          have f26 := hV 26 (by simp) (fun _ _ => by rfl)
          rw [Vp26] at f26
          have f27 := hV 27 (by simp) (fun _ _ => by rfl)
          rw [Vp27] at f27
          have f28 := hV 28 (by simp) (fun _ _ => by rfl)
          rw [Vp28] at f28
          have f29 := hV 29 (by simp) (fun _ _ => by rfl)
          rw [Vp29] at f29
          have f30 := hV 30 (by simp) (fun _ _ => by rfl)
          rw [Vp30] at f30
          have f31 := hV 31 (by simp) (fun _ _ => by rfl)
          rw [Vp31] at f31
          have f32 := hV 32 (by simp) (fun _ _ => by rfl)
          rw [Vp32] at f32
          have f33 := hV 33 (by simp) (fun _ _ => by rfl)
          rw [Vp33] at f33
          have f34 := hV 34 (by simp) (fun _ _ => by rfl)
          rw [Vp34] at f34
          have f35 := hV 35 (by simp) (fun _ _ => by rfl)
          rw [Vp35] at f35
          have f36 := hV 36 (by simp) (fun _ _ => by rfl)
          rw [Vp36] at f36
          have f37 := hV 37 (by simp) (fun _ _ => by rfl)
          rw [Vp37] at f37
          have f38 := hV 38 (by simp) (fun _ _ => by rfl)
          rw [Vp38] at f38
          have f39 := hV 39 (by simp) (fun _ _ => by rfl)
          rw [Vp39] at f39
          have f40 := hV 40 (by simp) (fun _ _ => by rfl)
          rw [Vp40] at f40
          have f41 := hV 41 (by simp) (fun _ _ => by rfl)
          rw [Vp41] at f41
          have f42 := hV 42 (by simp) (fun _ _ => by rfl)
          rw [Vp42] at f42
          have f43 := hV 43 (by simp) (fun _ _ => by rfl)
          rw [Vp43] at f43
          have f44 := hV 44 (by simp) (fun _ _ => by rfl)
          rw [Vp44] at f44
          have f45 := hV 45 (by simp) (fun _ _ => by rfl)
          rw [Vp45] at f45
          have f46 := hV 46 (by simp) (fun _ _ => by rfl)
          rw [Vp46] at f46
          have f47 := hV 47 (by simp) (fun _ _ => by rfl)
          rw [Vp47] at f47
          have f48 := hV 48 (by simp) (fun _ _ => by rfl)
          rw [Vp48] at f48
          clear hV Vp0 Vp1 Vp2 Vp3 Vp4 Vp5 Vp6 Vp7 Vp8 Vp9 Vp10 Vp11 Vp12 Vp13 Vp14 Vp15 Vp16 Vp17 Vp18 Vp19 Vp20 Vp21 Vp22 Vp23 Vp24 Vp25 Vp26 Vp27 Vp28 Vp29 Vp30 Vp31 Vp32 Vp33 Vp34 Vp35 Vp36 Vp37 Vp38 Vp39 Vp40 Vp41 Vp42 Vp43 Vp44 Vp45 Vp46 Vp47 Vp48
          simp only [putAll, Act.put, List.setIfInBounds_toArray, List.set_cons_zero, List.set_cons_succ]
          generalize val 0 = z0 at *; (subst f0)
          generalize val 1 = z1 at *; (subst f1)
          generalize val 2 = z2 at *; (subst f2)
          generalize val 3 = z3 at *; (subst f3)
          generalize val 4 = z4 at *; (subst f4)
          generalize val 5 = z5 at *; (subst f5)
          generalize val 6 = z6 at *; (subst f6)
          generalize val 7 = z7 at *; (subst f7)
          generalize val 8 = z8 at *; (subst f8)
          generalize val 9 = z9 at *; (subst f9)
          generalize val 10 = z10 at *; (subst f10)
          generalize val 11 = z11 at *; (subst f11)
          generalize val 12 = z12 at *; (subst f12)
          generalize val 13 = z13 at *; (subst f13)
          generalize val 14 = z14 at *; (subst f14)
          generalize val 15 = z15 at *; (subst f15)
          generalize val 16 = z16 at *; (subst f16)
          generalize val 17 = z17 at *; (subst f17)
          generalize val 18 = z18 at *; (subst f18)
          generalize val 19 = z19 at *; (subst f19)
          generalize val 20 = z20 at *; (subst f20)
          generalize val 21 = z21 at *; (subst f21)
          generalize val 22 = z22 at *; (subst f22)
          generalize val 23 = z23 at *; (subst f23)
          generalize val 24 = z24 at *; (subst f24)
          generalize val 25 = z25 at *; (subst f25)
          generalize val 26 = z26 at *; (subst f26)
          generalize val 27 = z27 at *; (subst f27)
          generalize val 28 = z28 at *; (subst f28)
          generalize val 29 = z29 at *; (subst f29)
          generalize val 30 = z30 at *; (subst f30)
          generalize val 31 = z31 at *; (subst f31)
          generalize val 32 = z32 at *; (subst f32)
          generalize val 33 = z33 at *; (subst f33)
          generalize val 34 = z34 at *; (subst f34)
          generalize val 35 = z35 at *; (subst f35)
          generalize val 36 = z36 at *; (subst f36)
          generalize val 37 = z37 at *; (subst f37)
          generalize val 38 = z38 at *; (subst f38)
          generalize val 39 = z39 at *; (subst f39)
          generalize val 40 = z40 at *; (subst f40)
          generalize val 41 = z41 at *; (subst f41)
          generalize val 42 = z42 at *; (subst f42)
          generalize val 43 = z43 at *; (subst f43)
          generalize val 44 = z44 at *; (subst f44)
          generalize val 45 = z45 at *; (subst f45)
          generalize val 46 = z46 at *; (subst f46)
          generalize val 47 = z47 at *; (subst f47)
          generalize val 48 = z48 at *; (subst f48)
          clear HVD
          have HB8 := Lib.hid (HB7.out.trans (hG.mono HB7.out.size))
          clear hG
          go_wp2_with fail
          go_roundw
          case rel => exact ⟨m + 1, by omega, by go_num, HB8.out⟩
          case measure => simp [intOf]; omega
        · have hmI : ¬ (m : Int) < 3 := by omega
          go_wp2_with fail
          go_roundw
          case rel => exact ⟨k + 1, by omega, by go_num, HB6.out.trans (HB7.out.mono HB6.out.size)⟩
          case measure => simp [intOf]; omega
    · have hkI : ¬ (k : Int) < 3 := by omega
      go_wp2_with fail
      go_ret
      exact ⟨rfl, HB2.out.trans (HB3.out.mono HB2.out.size)⟩

end Go.Proofs.Ytlgbgkiajhcneaa

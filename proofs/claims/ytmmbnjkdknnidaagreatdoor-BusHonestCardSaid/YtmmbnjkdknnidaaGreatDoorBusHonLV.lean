/-
  Layer 9: the law BusHonest.
-/
import Derived.Test.YtmmbnjkdknnidaaGreatDoorBusHonRV
import Derived.Test.YtmmbnjkdknnidaaGreatDoorOncePhaseV
set_option maxHeartbeats 8000000
namespace Go.Proofs.YtmmbnjkdknnidaaGreatDoor
open Lib (hid)
open Go.RowKit Go.Shelf
set_option maxRecDepth 1000000 in
theorem busHonest_walk (A : Option Addr) (c : Nat) (l : List Int) (r : F.Raw) (n0 n1 n2 : Int) (A' : Option Addr) (c' : Nat) (raw : List Raw) (fk fa fm : Int) (dev win : Int) (wr : F.WfR r) (k0 : (Lit.int .i64 n0).wf = true) (k1 : (Lit.int .i64 n1).wf = true) (k2 : (Lit.int .i64 n2).wf = true) (k3 : (Lit.int .i64 fk).wf = true) (k4 : (Lit.int .i64 fa).wf = true) (k5 : (Lit.int .i64 fm).wf = true) (_w5 : (Lit.int .i64 dev).wf = true) (_w6 : (Lit.int .i64 win).wf = true) (w : World) (L : Laid w) (f0 : IncsOk w A c l) (f3 : RowsOk w A' c' raw) :
  Calls Tryz.prog 9 #[.slice A l.length c, F.rv r, .agg #[.int .i64 n0, .int .i64 n1, .int .i64 n2], .slice A' raw.length c', flt fk fa fm, .int .i64 dev, .int .i64 win] w fun e w' => e = .returned (.bool true) ∧ Below w.heap.size w w' := by
 obtain ⟨X, hX⟩ : ∃ X, frX l r n0 n1 n2 raw = X := ⟨_, rfl⟩
 have hR : rightF X = true := hX ▸ frX_right l r n0 n1 n2 raw
 have hi := Inp.of f0 f3
 have cF := fun W (h : Inp W A l A' raw) => rawS7_any k0 k1 k2 wr c c' hX W h
 have hlen := encTF_length hR
 have hbl := body_small hR
 rw [bodyF_length] at hbl
 have hsz : (txt (encTF X)).size ≤ 1000 := by rw [txt_size]; omega
 have hSM := small_rightF hR
 have cE := fun A c A' c' W L h h' => encFP_any X A c A' c' W L h h' hSM
 rw [encEF_right hR] at cE
 have PK := hid (fun W => pick9_any fk 3 k3 (by omega) W)
 have PA := hid (fun W => pick9_any fa 65536 k4 (by omega) W)
 have PM := hid (fun W => pick9_any fm 65536 k5 (by omega) W)
 generalize pickI fk 3 = gk at *
 generalize pickI fa 65536 = ga at *
 generalize pickI fm 65536 = gm at *
 have hon := fun (k a m : Int) => honest hR k a m dev win
 have hon0 := fun (k a m : Int) => honest hR k a m 0 0
 have CH := hid (fun (k a m dev win : Int) W L => hear_any (txt (encTF X)) k a m dev win hsz W L)
 have HTX : Hid (SamesX X) := hid (fun A B A' B' c d c' d' W h1 h2 h3 h4 => by
  have h := refSame7_any X X A B A' B' c d c' d' W h1 h2 h3 h4 hSM.1 hSM.2.1 (fun x hx => ⟨(hSM.2.2.2 x hx).1, (hSM.2.2.2 x hx).2.1⟩)
  rw [same_self] at h
  exact h)
 have HZX : Hid SamesZ := hid (fun A A' c c' W => by
  have h := refSame7_any zeroFr zeroFr A none A' none c 0 c' 0 W (F.Pcs.nil _ _ _) (Ents.nil _ _ _) (F.Pcs.nil _ _ _) (Ents.nil _ _ _) (by decide) (by decide) (fun x hx => by cases hx)
  rw [same_self] at h
  exact h)
 have HON := hid hon
 have HON0 := hid hon0
 have q1 := Joins.below_alloc3 w (.cells #[.int .i64 r.a, .int .i64 r.b, .int .i64 r.c, .int .i64 r.d] 23) (.cells #[.int .i64 n0, .int .i64 n1, .int .i64 n2] 24) (.cells #[.int .i64 fk, .int .i64 fa, .int .i64 fm] 61)
 obtain ⟨Y1, hY1⟩ : ∃ Y, Y = w.alloc (.cells #[.int .i64 r.a, .int .i64 r.b, .int .i64 r.c, .int .i64 r.d] 23) := ⟨_, rfl⟩
 have s1 : Y1.heap.size = w.heap.size + 1 := by rw [hY1, World.size_alloc]
 have d1 : At4R' Y1 w.heap.size r := by rw [hY1]; exact heap_alloc_new w _
 obtain ⟨Y2, hY2⟩ : ∃ Y, Y = Y1.alloc (.cells #[.int .i64 n0, .int .i64 n1, .int .i64 n2] 24) := ⟨_, rfl⟩
 have s2 : Y2.heap.size = w.heap.size + 2 := by rw [hY2, World.size_alloc, s1]
 have d2 := At3.new Y1 n0 n1 n2
 have e2 := Joins.below_alloc1 Y1 (.cells #[.int .i64 n0, .int .i64 n1, .int .i64 n2] 24)
 rw [← hY2] at d2 e2
 rw [s1] at d2
 have d3 := FltAt.new Y2 fk fa fm
 have e3 := Joins.below_alloc1 Y2 (.cells #[.int .i64 fk, .int .i64 fa, .int .i64 fm] 61)
 rw [s2] at d3
 have d1' : At4R' (Y2.alloc (.cells #[.int .i64 fk, .int .i64 fa, .int .i64 fm] 61)) w.heap.size r := (e3.block _ (by omega)).trans ((e2.block _ (by omega)).trans d1)
 have d2' := d2.on e3
 subst hY2
 subst hY1
 have CF := hid cF
 have CE := hid cE
 have HI := hid (hi.on q1)
 have HL := hid L
 have HQ := hid q1
 have D1 := hid d1'
 have D2 := hid d2'
 have D3 := hid d3
 clear cF cE hi L q1 d1 d1' d2 d2' d3 e2 e3 s1 s2 hbl hlen f0 f3 hX k0 k1 k2 k3 k4 k5 wr hSM hR hon hon0 hsz
 obtain ⟨ra, rb, rc, rd⟩ := r
 obtain ⟨W0, hW0⟩ : ∃ W0, W0 = ((w.alloc (.cells #[.int .i64 ra, .int .i64 rb, .int .i64 rc, .int .i64 rd] 23)).alloc (.cells #[.int .i64 n0, .int .i64 n1, .int .i64 n2] 24)).alloc (.cells #[.int .i64 fk, .int .i64 fa, .int .i64 fm] 61) := ⟨_, rfl⟩
 simp only at HQ HI D1 D2 D3 CF
 rw [← hW0] at HQ HI D1 D2 D3
 go_enter Tryz.func9, Tryz.ntmps9
 go_upto_region 1 with fail
 rw [← hW0]
 clear hW0
 obtain ⟨z0, hz0⟩ : ∃ z, w.heap.size = z := ⟨_, rfl⟩
 have HZ0 := hid hz0
 rw [hz0] at HQ D1 D2 D3 ⊢
 clear hz0
 have HLL : Hid (∀ W, Below z0 w W → Laid W) := hid (fun W hb => HL.out.below (by rw [HZ0.out]; exact hb))
 have HLE : Hid (z0 ≤ W0.heap.size) := hid (by have := HQ.out.size; have := HZ0.out; omega)
 clear HL
 go_wp2_with fail; refine (awake9_any _ (HLL.out _ HQ.out)).mono ?_; rintro e w1 ⟨rfl, q1⟩
 have HQ1 := hid (HQ.out.trans (q1.mono HLE.out))
 have HI1 := hid (HI.out.on q1)
 have E1 : Hid (At4R' w1 z0 ⟨ra, rb, rc, rd⟩) := hid ((q1.block _ (Array.getElem?_eq_some_iff.1 D1.out).1).trans D1.out)
 have E2 := hid (D2.out.on q1)
 have E3 := hid (D3.out.on q1)
 have HL1 : Hid (z0 ≤ w1.heap.size) := hid (Nat.le_trans HLE.out q1.size)
 clear q1 HQ HI D1 D2 D3 HLE
 have y0 : w1.cell? ⟨z0, 0, none⟩ = some (.int .i64 ra) := cell_of E1.out 0
 have y1 : w1.cell? ⟨z0, 1, none⟩ = some (.int .i64 rb) := cell_of E1.out 1
 have y2 : w1.cell? ⟨z0, 2, none⟩ = some (.int .i64 rc) := cell_of E1.out 2
 have y3 : w1.cell? ⟨z0, 3, none⟩ = some (.int .i64 rd) := cell_of E1.out 3
 obtain ⟨y4, y5, y6⟩ := E2.out.cells
 have cf := CF.out w1 HI1.out
 simp only [F.rv] at cf
 go_wp2_with fail; refine cf.mono ?_; rintro e w2 ⟨q2, A1, k1, A2, k2, rfl, hp, he⟩
 have hbx := Box7.new (f := X) (c := k1) (c' := k2) hp he
 have a2 := Joins.below_alloc1 w2 (.cells (fc X (.slice A1 X.ps.length k1) (.slice A2 X.es.length k2)) 29)
 simp only [fc] at hbx a2
 clear y0 y1 y2 y3 y4 y5 y6 cf hp he E1 E2 HI1 CF
 have q3 := q2.trans (a2.mono q2.size)
 have HQ2 := hid (HQ1.out.trans (q3.mono HL1.out))
 have HX2 := hid hbx
 have G3 := hid (E3.out.on q3)
 have HL2 := hid (Nat.le_trans HL1.out q3.size)
 clear hbx a2 q2 q3 HQ1 HL1 E3
 go_upto_region 3 with fail
 generalize w2.alloc (.cells #[.int .i64 X.snd, .int .i64 X.rnd, .int .i64 X.inc, .int .i64 X.term, .int .i64 X.role, .int .i64 X.vote, .int .i64 X.hrd, .int .i64 X.last, .int .i64 X.lterm, .int .i64 X.ack, .int .i64 X.com, .int .i64 X.prv, .int .i64 X.pterm, .slice A1 X.ps.length k1, .slice A2 X.es.length k2] 29) = W2 at *
 generalize w2.heap.size = g at *
 obtain ⟨y0, y1, y2, y3, y4, y5, y6, y7, y8, y9, y10, y11, y12, y13, y14⟩ := HX2.out.fr.cells
 go_wp2_with fail; refine (CE.out _ _ _ _ _ (HLL.out _ HQ2.out) HX2.out.ps HX2.out.es).mono ?_; rintro e w3 ⟨rfl, q3⟩
 have HQ3 := hid (HQ2.out.trans (q3.mono HL2.out))
 have HX3 := hid (HX2.out.on q3)
 have G4 := hid (G3.out.on q3)
 have HL3 := hid (Nat.le_trans HL2.out q3.size)
 clear q3 HQ2 HX2 HL2 y0 y1 y2 y3 y4 y5 y6 y7 y8 y9 y10 y11 y12 y13 y14 CE G3
 generalize txt (encTF X) = S at *
 go_upto_region 6 with fail
 obtain ⟨L2, hL2⟩ : ∃ L, L = [(fk, fa, fm), (gk, ga, gm)] := ⟨_, rfl⟩
 have HL2 := hid hL2
 have HV : ∃ O : Nat → (Nat → Value) → World → Prop, O = (fun ix u wv => match ix with
  | 0 => u 0 = .agg #[.int .i64 fk, .int .i64 fa, .int .i64 fm]
  | 1 => u 1 = .pointer (some ⟨z0 + 2, 0, none⟩)
  | 2 => u 2 = .int .i64 fk
  | 3 => u 3 = .int .i64 gk
  | 4 => u 4 = .pointer (some ⟨z0 + 2, 1, none⟩)
  | 5 => u 5 = .int .i64 fa
  | 6 => u 6 = .int .i64 ga
  | 7 => u 7 = .pointer (some ⟨z0 + 2, 2, none⟩)
  | 8 => u 8 = .int .i64 fm
  | 9 => u 9 = .int .i64 gm
  | 10 => u 10 = .agg #[.int .i64 gk, .int .i64 ga, .int .i64 gm]
  | 11 => ∃ g, u 11 = .slice (some ⟨g, 0, none⟩) 2 2 ∧ Trips wv g L2
  | 12 => u 12 = .int .i64 2
  | 13 => u 13 = .int .i64 0
  | _ => True) := ⟨_, rfl⟩
 obtain ⟨O, hd7⟩ := HV
 have O0 : ∀ u wv, O 0 u wv = (u 0 = .agg #[.int .i64 fk, .int .i64 fa, .int .i64 fm]) := fun _ _ => by subst hd7; rfl
 have O1 : ∀ u wv, O 1 u wv = (u 1 = .pointer (some ⟨z0 + 2, 0, none⟩)) := fun _ _ => by subst hd7; rfl
 have O2 : ∀ u wv, O 2 u wv = (u 2 = .int .i64 fk) := fun _ _ => by subst hd7; rfl
 have O3 : ∀ u wv, O 3 u wv = (u 3 = .int .i64 gk) := fun _ _ => by subst hd7; rfl
 have O4 : ∀ u wv, O 4 u wv = (u 4 = .pointer (some ⟨z0 + 2, 1, none⟩)) := fun _ _ => by subst hd7; rfl
 have O5 : ∀ u wv, O 5 u wv = (u 5 = .int .i64 fa) := fun _ _ => by subst hd7; rfl
 have O6 : ∀ u wv, O 6 u wv = (u 6 = .int .i64 ga) := fun _ _ => by subst hd7; rfl
 have O7 : ∀ u wv, O 7 u wv = (u 7 = .pointer (some ⟨z0 + 2, 2, none⟩)) := fun _ _ => by subst hd7; rfl
 have O8 : ∀ u wv, O 8 u wv = (u 8 = .int .i64 fm) := fun _ _ => by subst hd7; rfl
 have O9 : ∀ u wv, O 9 u wv = (u 9 = .int .i64 gm) := fun _ _ => by subst hd7; rfl
 have O10 : ∀ u wv, O 10 u wv = (u 10 = .agg #[.int .i64 gk, .int .i64 ga, .int .i64 gm]) := fun _ _ => by subst hd7; rfl
 have O11 : ∀ u wv, O 11 u wv = (∃ g, u 11 = .slice (some ⟨g, 0, none⟩) 2 2 ∧ Trips wv g L2) := fun _ _ => by subst hd7; rfl
 have O12 : ∀ u wv, O 12 u wv = (u 12 = .int .i64 2) := fun _ _ => by subst hd7; rfl
 have O13 : ∀ u wv, O 13 u wv = (u 13 = .int .i64 0) := fun _ _ => by subst hd7; rfl
 have HVD := hid hd7
 clear hd7
 refine region_phase (V := O) (drop := fun _ _ => false) (G := fun L wv => Below w3.heap.size w3 wv) (Rel := fun jx wv wv' => Below wv.heap.size wv wv') (by kernel_rfl) (by kernel_rfl) (Below.refl _ _).drew ?hmonop1 ?hdepp1 ⟨?s0_p1, ?s1_p1, ?s2_p1, ?s3_p1, ?s4_p1, ?s5_p1, ?s6_p1, ?s7_p1, ?s8_p1, ?s9_p1, ?s10_p1, ?s11_p1, ?s12_p1, ?s13_p1, trivial⟩ ?behindp1
 case hmonop1 =>
  intro ix jx u wv wv' hij hw hd hr
  rw [HVD.out]
  dsimp only
  split <;> intro h <;> first | exact trivial | exact h | (have hb := hr; first | (obtain ⟨g, e, hg⟩ := h; exact ⟨g, e, hg.on hb⟩))
 case hdepp1 =>
  intro ix u u' wv h1 h2
  rw [HVD.out]
  dsimp only
  split <;> intro h <;> first | exact trivial | (rw [← h1]; exact h) | exact h
 case s0_p1 =>
  refine oweP rfl fun a wx val L hG hi hW hV hN hO K hK => ?_
  have e11 : a.tmps[11]? = some (.pointer (some ⟨z0 + 2, 0, none⟩)) := (hO 11).trans (by rfl)
  clear hV hN hO
  obtain ⟨y0, y1, y2⟩ := (G4.out.on hG).cells
  go_simp
  exact hK.out _ _ (by rw [O0, upd_at] <;> (congr 1 <;> omega)) (Below.refl _ _) (hG)
 case s1_p1 =>
  refine oweP rfl fun a wx val L hG hi hW hV hN hO K hK => ?_
  have e11 : a.tmps[11]? = some (.pointer (some ⟨z0 + 2, 0, none⟩)) := (hO 11).trans (by rfl)
  clear hV hN hO
  go_simp
  exact hK.out _ _ (by rw [O1, upd_at] <;> (congr 1 <;> omega)) (Below.refl _ _) (hG)
 case s2_p1 =>
  refine oweP rfl fun a wx val L hG hi hW hV hN hO K hK => ?_
  have e41 := hN 1 41
  have f41 := hV 1
  rw [O1] at f41; rw [f41] at e41; clear f41
  clear hV hN hO
  obtain ⟨y0, y1, y2⟩ := (G4.out.on hG).cells
  go_simp
  exact hK.out _ _ (by rw [O2, upd_at] <;> (congr 1 <;> omega)) (Below.refl _ _) (hG)
 case s3_p1 =>
  refine oweP rfl fun a wx val L hG hi hW hV hN hO K hK => ?_
  have e42 := hN 2 42
  have f42 := hV 2
  rw [O2] at f42; rw [f42] at e42; clear f42
  clear hV hN hO
  go_simp
  refine (PK.out _).mono ?_
  rintro e w11 ⟨rfl, rfl⟩
  exact hK.out _ _ (by rw [O3, upd_at]) (Below.refl _ _) (hG)
 case s4_p1 =>
  refine oweP rfl fun a wx val L hG hi hW hV hN hO K hK => ?_
  have e11 : a.tmps[11]? = some (.pointer (some ⟨z0 + 2, 0, none⟩)) := (hO 11).trans (by rfl)
  clear hV hN hO
  go_simp
  exact hK.out _ _ (by rw [O4, upd_at] <;> (congr 1 <;> omega)) (Below.refl _ _) (hG)
 case s5_p1 =>
  refine oweP rfl fun a wx val L hG hi hW hV hN hO K hK => ?_
  have e44 := hN 4 44
  have f44 := hV 4
  rw [O4] at f44; rw [f44] at e44; clear f44
  clear hV hN hO
  obtain ⟨y0, y1, y2⟩ := (G4.out.on hG).cells
  go_simp
  exact hK.out _ _ (by rw [O5, upd_at] <;> (congr 1 <;> omega)) (Below.refl _ _) (hG)
 case s6_p1 =>
  refine oweP rfl fun a wx val L hG hi hW hV hN hO K hK => ?_
  have e45 := hN 5 45
  have f45 := hV 5
  rw [O5] at f45; rw [f45] at e45; clear f45
  clear hV hN hO
  go_simp
  refine (PA.out _).mono ?_
  rintro e w11 ⟨rfl, rfl⟩
  exact hK.out _ _ (by rw [O6, upd_at]) (Below.refl _ _) (hG)
 case s7_p1 =>
  refine oweP rfl fun a wx val L hG hi hW hV hN hO K hK => ?_
  have e11 : a.tmps[11]? = some (.pointer (some ⟨z0 + 2, 0, none⟩)) := (hO 11).trans (by rfl)
  clear hV hN hO
  go_simp
  exact hK.out _ _ (by rw [O7, upd_at] <;> (congr 1 <;> omega)) (Below.refl _ _) (hG)
 case s8_p1 =>
  refine oweP rfl fun a wx val L hG hi hW hV hN hO K hK => ?_
  have e47 := hN 7 47
  have f47 := hV 7
  rw [O7] at f47; rw [f47] at e47; clear f47
  clear hV hN hO
  obtain ⟨y0, y1, y2⟩ := (G4.out.on hG).cells
  go_simp
  exact hK.out _ _ (by rw [O8, upd_at] <;> (congr 1 <;> omega)) (Below.refl _ _) (hG)
 case s9_p1 =>
  refine oweP rfl fun a wx val L hG hi hW hV hN hO K hK => ?_
  have e48 := hN 8 48
  have f48 := hV 8
  rw [O8] at f48; rw [f48] at e48; clear f48
  clear hV hN hO
  go_simp
  refine (PM.out _).mono ?_
  rintro e w11 ⟨rfl, rfl⟩
  exact hK.out _ _ (by rw [O9, upd_at]) (Below.refl _ _) (hG)
 case s10_p1 =>
  refine oweP rfl fun a wx val L hG hi hW hV hN hO K hK => ?_
  have e43 := hN 3 43
  have f43 := hV 3
  rw [O3] at f43; rw [f43] at e43; clear f43
  have e46 := hN 6 46
  have f46 := hV 6
  rw [O6] at f46; rw [f46] at e46; clear f46
  have e49 := hN 9 49
  have f49 := hV 9
  rw [O9] at f49; rw [f49] at e49; clear f49
  clear hV hN hO
  go_simp
  exact hK.out _ _ (by rw [O10, upd_at] <;> (congr 1 <;> omega)) (Below.refl _ _) (hG)
 case s11_p1 =>
  refine oweP rfl fun a wx val L hG hi hW hV hN hO K hK => ?_
  have e40 := hN 0 40
  have f40 := hV 0
  rw [O0] at f40; rw [f40] at e40; clear f40
  have e50 := hN 10 50
  have f50 := hV 10
  rw [O10] at f50; rw [f50] at e50; clear f50
  clear hV hN hO
  go_simp
  have hb := Joins.below_alloc1 wx (.cells #[.int .i64 fk, .int .i64 fa, .int .i64 fm, .int .i64 gk, .int .i64 ga, .int .i64 gm] 61)
  exact hK.out _ _ (by rw [O11, upd_at, HL2.out]; exact ⟨_, rfl, trips_new _ _ _ _ _ _ _ _⟩) hb (hG.trans (hb.mono hG.size))
 case s12_p1 =>
  refine oweP rfl fun a wx val L hG hi hW hV hN hO K hK => ?_
  have e51 := hN 11 51
  have f51 := hV 11
  rw [O11] at f51; obtain ⟨gg, hv, hgg⟩ := f51; rw [hv] at e51
  clear hV hN hO
  go_simp
  exact hK.out _ _ (by rw [O12, upd_at] <;> (congr 1 <;> omega)) (Below.refl _ _) (hG)
 case s13_p1 =>
  refine oweP rfl fun a wx val L hG hi hW hV hN hO K hK => ?_
  clear hV hN hO
  go_simp
  exact hK.out _ _ (by rw [O13, upd_at] <;> (congr 1 <;> omega)) (Below.refl _ _) (hG)
 intro val wx L hG hV
 have f0 := hV 0
 rw [O0] at f0
 have f1 := hV 1
 rw [O1] at f1
 have f2 := hV 2
 rw [O2] at f2
 have f3 := hV 3
 rw [O3] at f3
 have f4 := hV 4
 rw [O4] at f4
 have f5 := hV 5
 rw [O5] at f5
 have f6 := hV 6
 rw [O6] at f6
 have f7 := hV 7
 rw [O7] at f7
 have f8 := hV 8
 rw [O8] at f8
 have f9 := hV 9
 rw [O9] at f9
 have f10 := hV 10
 rw [O10] at f10
 have f11 := hV 11
 rw [O11] at f11
 have f12 := hV 12
 rw [O12] at f12
 have f13 := hV 13
 rw [O13] at f13
 clear hV O0 O1 O2 O3 O4 O5 O6 O7 O8 O9 O10 O11 O12 O13
 simp only [putAll, Act.put, List.setIfInBounds_toArray, List.set_cons_zero, List.set_cons_succ]
 generalize val 0 = z0, val 1 = z1, val 2 = z2, val 3 = z3, val 4 = z4, val 5 = z5, val 6 = z6, val 7 = z7, val 8 = z8, val 9 = z9, val 10 = z10, val 11 = z11, val 12 = z12, val 13 = z13 at *
 subst f0 f1 f2 f3 f4 f5 f6 f7 f8 f9 f10 f12 f13
 clear HVD
 obtain ⟨gL, hv11, hgg⟩ := f11
 subst hv11
 have HT := hid hgg
 have HX4 := hid (HX3.out.on hG)
 have HQ4 := hid (HQ3.out.trans (hG.mono HL3.out))
 have HL4 := hid (Nat.le_trans HL3.out hG.size)
 generalize wx = X0 at *
 have HLN : Hid (L2.length = 2) := hid (by rw [hL2]; rfl)
 have HW0 := hid (Below.refl X0.heap.size X0)
 clear hgg hG HX3 HQ3 HL3 G4 HL2 hL2 PK PA PM
 generalize (Value.agg #[.int .i64 X.snd, .int .i64 X.rnd, .int .i64 X.inc, .int .i64 X.term, .int .i64 X.role, .int .i64 X.vote, .int .i64 X.hrd, .int .i64 X.last, .int .i64 X.lterm, .int .i64 X.ack, .int .i64 X.com, .int .i64 X.prv, .int .i64 X.pterm, .slice A1 X.ps.length k1, .slice A2 X.es.length k2]) = dd1
 generalize fv X (.slice A1 X.ps.length k1) (.slice A2 X.es.length k2) = dd2
 go_wp2_with fail
 refine hon_loop HTX HZX HLL CH HON (hid fun k a m => (HON0.out k a m).1) HT HX4 HQ4 HL4 HLN (hid ?_)
 intro v14 v20 v21 v22 v23 v24 v26 v53 v54 v55 v56 v57 v58 v59 v60 v61 v62 v63 v64 v65 v66 v67 v68 v69 v70 v71 v72 v73 v74 v75 v76 v77 v78 v79 v80 v81 v82 v83 v84 v85 v86 v87 v88 v89 v90 v91 v92 v93 v94 v95 v96 v97 v98 v99 v100 v101 v102 v103 v104 v105 v106 v107 v108 v109 v110 v111 v112 v113 v114 v115 v116 v117 v118 v119 v120 v121 v122 v123 v124 v125 v126 v127 v128 v129 v130 v131 v132 v133 v134 v135 w9 hb9
 have HB9 := hid hb9
 clear hb9
 go_wp2_with fail
 go_ret
 exact ⟨rfl, by rw [HZ0.out]; exact HB9.out⟩
end Go.Proofs.YtmmbnjkdknnidaaGreatDoor

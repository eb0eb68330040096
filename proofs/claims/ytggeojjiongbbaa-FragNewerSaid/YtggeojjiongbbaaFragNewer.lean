/-
  The walk of the law FragNewer.
-/
import Derived.Test.YtggeojjiongbbaaFragNewMath
import Derived.Test.YtggeojjiongbbaaFragAwake
import Derived.Test.YtggeojjiongbbaaOnce
import Derived.BigQuiet
namespace Go.Proofs.Ytggeojjiongbbaa
open Go.RowKit

theorem newer_calls (l : List Raw) (one two : Raw) (w1 : WfR one) (w2 : WfR two) :
    ∃ (I J ps : Int) (K M : Nat) (pb : ByteArray) (R : Pc) (L : List ByteArray) (Gi Gq : Int) (Gl : List ByteArray), (1 ≤ I ∧ I ≤ 2) ∧ (1 ≤ J ∧ J ≤ 2) ∧ (1 ≤ ps ∧ ps ≤ 3) ∧ K < M ∧ M ≤ 20 ∧ (1 ≤ pb.size ∧ pb.size ≤ 16) ∧ L.length = M ∧ (∀ i, i < M → L[i]? = some (if i = K then pb else ⟨#[]⟩)) ∧ gatL l = ⟨Gi, Gq, Gl⟩
    ∧ (∀ W, Calls Try.prog 15 #[rv one] W fun e w' => e = .returned (.tuple #[.int .i64 I, .agg #[.int .i64 ps, .int .i64 K, .int .i64 M, .string pb]]) ∧ Below W.heap.size W w')
    ∧ (∀ W, Calls Try.prog 15 #[rv two] W fun e w' => e = .returned (.tuple #[.int .i64 J, pv R]) ∧ Below W.heap.size W w')
    ∧ (∀ A c W, Strs W W.heap.size A Gl → Gl.length ≤ c → Calls Try.prog 28 #[gv Gi Gq (.slice A Gl.length c), .int .i64 (I + 5), .agg #[.int .i64 ps, .int .i64 K, .int .i64 M, .string pb]] W (GatRes ⟨I + 5, ps, L⟩ 0 W))
    ∧ (∀ A c W, Strs W W.heap.size A L → L.length ≤ c → Calls Try.prog 28 #[gv (I + 5) ps (.slice A M c), .int .i64 J, pv R] W (GatRes ⟨I + 5, ps, L⟩ 0 W))
    ∧ (∀ A c W, Strs W W.heap.size A L → L.length ≤ c → Calls Try.prog 28 #[gv (I + 5) ps (.slice A M c), .int .i64 (I + 5), .agg #[.int .i64 (ps + 9), .int .i64 K, .int .i64 M, .string pb]] W (GatRes ⟨I + 5, ps + 9, L⟩ 0 W)) := by
  obtain ⟨P, hP⟩ : ∃ P, rawP one = P := ⟨_, rfl⟩
  obtain ⟨t1, t2, t3, t4, t5, t6, t7⟩ := newer_three l one two P ⟨P.seq + 9, P.at', P.of', P.bytes⟩ hP rfl
  have hp : rightP P = true := by rw [← hP]; exact raw_right one
  have c1 := fun W => piece_any one w1 W
  have c2 := fun W => piece_any two w2 W
  have i1 := raw_inc one
  have i2 := raw_inc two
  have s1 := raw_seq one
  rw [hP] at c1 s1
  obtain ⟨hq, ⟨h2, h3⟩, ⟨h4, h5⟩, h6, h7⟩ := (rightP_iff P).1 hp
  have hm := may_len (gat_may l)
  have hm1 := may_len t7
  have hb2 := raw_bytes two
  have hat := one_at P (by omega)
  have hlen := one_length P
  obtain ⟨ps, pa, po, pb⟩ := P
  simp only at *
  obtain ⟨K, rfl⟩ : ∃ K : Nat, pa = K := ⟨pa.toNat, by omega⟩
  obtain ⟨M, rfl⟩ : ∃ M : Nat, po = M := ⟨po.toNat, by omega⟩
  simp only [Int.toNat_natCast] at hat hlen
  generalize oneL ⟨ps, (K : Int), (M : Int), pb⟩ = L at *
  generalize hG : gatL l = G at *
  obtain ⟨Gi, Gq, Gl⟩ := G
  have r2 := raw_right two
  clear hP
  generalize rawI one = I at *
  generalize rawI two = J at *
  generalize rawP two = R at *
  refine ⟨I, J, ps, K, M, pb, R, L, Gi, Gq, Gl, i1, i2, s1, by omega, by omega, ⟨h6, h7⟩, hlen, hat, rfl, c1, c2, fun A c W hS hc => ?_, fun A c W hS hc => ?_, fun A c W hS hc => ?_⟩
  · have h := putP_any A c ⟨Gi, Gq, Gl⟩ (I + 5) ⟨ps, K, M, pb⟩ W hS (by have := hm.1; simp only at *; omega) hc (fun d hd => by have := hm.2 d hd; unfold maxLen; omega) (by simp only; unfold maxLen; omega)
    rw [t1, t2] at h
    exact h
  · have h := putP_any A c ⟨I + 5, ps, L⟩ J R W hS (by have := hm1.1; simp only at *; omega) hc (fun d hd => by have := hm1.2 d hd; unfold maxLen; omega) (by unfold maxLen; omega)
    rw [t3, t4] at h
    rw [hlen] at h
    exact h
  · have h := putP_any A c ⟨I + 5, ps, L⟩ (I + 5) ⟨ps + 9, K, M, pb⟩ W hS (by have := hm1.1; simp only at *; omega) hc (fun d hd => by have := hm1.2 d hd; unfold maxLen; omega) (by simp only; unfold maxLen; omega)
    rw [t5, t6] at h
    rw [hlen] at h
    exact h

theorem grown_cell (w : World) (b j : Nat) (v : Value) : w.grownBy (w.setCell ⟨b, j, none⟩ v) (some b) :=
  ⟨rfl, rfl, rfl, by simp, fun k _ hne => Below.heap_setCell _ _ _ _ (fun e => hne (by rw [e]))⟩

def FAt (w : World) (b : Nat) (r : Raw) : Prop := w.heap[b]? = some (.cells #[.int .i64 r.a, .int .i64 r.b, .int .i64 r.c, .int .i64 r.d] 24 (0, 0))
theorem FAt.new (w : World) (r : Raw) : FAt (w.alloc (.cells #[.int .i64 r.a, .int .i64 r.b, .int .i64 r.c, .int .i64 r.d] 24)) w.heap.size r := heap_alloc_new w _
theorem FAt.on {w w' : World} {g : Nat} {r : Raw} (h : FAt w g r) (hb : Below w.heap.size w w') : FAt w' g r := (hb.block g (Array.getElem?_eq_some_iff.1 h).1).trans h
theorem FAt.cells {w : World} {g : Nat} {r : Raw} (h : FAt w g r) : w.cell? ⟨g, 0, none⟩ = some (.int .i64 r.a) ∧ w.cell? ⟨g, 1, none⟩ = some (.int .i64 r.b) ∧ w.cell? ⟨g, 2, none⟩ = some (.int .i64 r.c) ∧ w.cell? ⟨g, 3, none⟩ = some (.int .i64 r.d) :=
  ⟨(cell_of h 0).trans rfl, (cell_of h 1).trans rfl, (cell_of h 2).trans rfl, (cell_of h 3).trans rfl⟩

theorem Strs.int {w : World} {B b : Nat} {A : Option Addr} {l : List ByteArray} {n : Int} (h : Strs w B A l) (hc : w.cell? ⟨b, 0, none⟩ = some (.int .i64 n)) (v : Value) : Strs (w.setCell ⟨b, 0, none⟩ v) B A l := fun hl => by
  obtain ⟨ad, e, hb, hs⟩ := h hl
  refine ⟨ad, e, hb, fun j d hd => ?_⟩
  have h0 := hs j d hd
  rw [World.cell?_setCell_other]
  · exact h0
  · intro e2
    rw [← e2, hc] at h0
    cases h0
theorem gat_pc {w : World} {g b : Nat} {i q : Int} {S : Value} {p : Pc} (h : GatAt w g i q S) (hp : PcAt w b p) : g ≠ b := by
  rintro rfl
  have := Option.some.inj ((show w.heap[g]? = _ from h).symm.trans hp)
  simp [gcl, pcl] at this

set_option maxRecDepth 100000 in
set_option maxHeartbeats 8000000 in
theorem fragNewer_walk (A : Option Addr) (c : Nat) (l : List Raw) (one two : Raw) (w1 : WfR one) (w2 : WfR two) (w : World) (hR : Raws w w.heap.size A l) (hl : l.length ≤ maxLen) (hwf : ∀ r ∈ l, WfR r) :
    Calls Try.prog 8 #[.slice A l.length c, rv one, rv two] w fun e w' => e = .returned (.bool true) ∧ Below w.heap.size w w' := by
  obtain ⟨I, J, ps, K, M, pb, R, L, Gi, Gq, Gl, hI, hJ, hps, hKM, hM, hpb, hLM, hLat, hG, cp1, cp2, cA, cB, cC⟩ := newer_calls (l.take 10) one two w1 w2
  have cg := fun W h hB => gather_any A c w.heap.size l W h hB hl hwf
  rw [hG] at cg
  unfold GatherPost at cg
  unfold GatRes at cA cB cC
  simp only [hLM] at cA cB cC
  obtain ⟨W1, h1⟩ : ∃ W1, w.alloc (.cells #[.int .i64 one.a, .int .i64 one.b, .int .i64 one.c, .int .i64 one.d] 24) = W1 := ⟨_, rfl⟩
  obtain ⟨W2, h2⟩ : ∃ W2, W1.alloc (.cells #[.int .i64 two.a, .int .i64 two.b, .int .i64 two.c, .int .i64 two.d] 24) = W2 := ⟨_, rfl⟩
  have b1 := Joins.below_alloc1 w (.cells #[.int .i64 one.a, .int .i64 one.b, .int .i64 one.c, .int .i64 one.d] 24)
  have b2 := Joins.below_alloc1 W1 (.cells #[.int .i64 two.a, .int .i64 two.b, .int .i64 two.c, .int .i64 two.d] 24)
  have f1 := FAt.new w one
  have f2 := FAt.new W1 two
  rw [h1] at b1 f1
  rw [h2] at b2 f2
  have F1 := Lib.hid (f1.on b2)
  have F2 := Lib.hid f2
  have HB2 := Lib.hid (b1.trans (b2.mono b1.size))
  have H1 := Lib.hid h1
  have H2 := Lib.hid h2
  have HR := Lib.hid hR
  have hs1 : W1.heap.size = w.heap.size + 1 := by rw [← h1]; simp
  have HS1 := Lib.hid hs1
  clear b1 b2 f1 f2 h1 h2 hG hwf hR hs1
  obtain ⟨oa, ob, oc, od⟩ := one
  obtain ⟨ta, tb, tc, td⟩ := two
  obtain ⟨rs, ra, ro, rb⟩ := R
  simp only [pv, rv, gv] at *
  have CG := Lib.hid cg
  have CP1 := Lib.hid cp1
  have CP2 := Lib.hid cp2
  have CA := Lib.hid cA
  have CB := Lib.hid cB
  have CC := Lib.hid cC
  have HLA := Lib.hid hLat
  clear cg cp1 cp2 cA cB cC hLat w1 w2
  go_enter Try.func8, Try.ntmps8
  have F2' := F2.out
  rw [HS1.out] at F2'
  have F2 := Lib.hid F2'; clear F2'
  go_wp2_with fail
  rw [H1.out, H2.out]
  clear H1 H2 HS1
  refine (awake_any _).mono ?_; rintro e w3 ⟨rfl, b3⟩
  have HB3 := Lib.hid (HB2.out.trans (b3.mono HB2.out.size))
  have F1 := Lib.hid (F1.out.on b3)
  have F2 := Lib.hid (F2.out.on b3)
  clear b3 HB2
  go_wp2_with fail; refine (CG.out _ (HR.out.below HB3.out (Nat.le_refl _)) HB3.out.size).mono ?_; rintro e w4 ⟨Ag, kg, rfl, hcg, hsg, b4⟩
  have HB4 := Lib.hid (HB3.out.trans (b4.mono HB3.out.size))
  have F1 := Lib.hid (F1.out.on b4)
  have F2 := Lib.hid (F2.out.on b4)
  clear b4 HB3 CG HR
  go_upto_region 3 with (fail)
  have n4 := Joins.below_alloc1 w4 (.cells #[.int .i64 Gi, .int .i64 Gq, .slice Ag Gl.length kg] 46)
  have G8 := GatAt.new w4 Gi Gq (.slice Ag Gl.length kg)
  have hb4 := HB4.out.trans (n4.mono HB4.out.size)
  have f1 := F1.out.on n4
  have f2 := F2.out.on n4
  have s8 := (hsg.below n4 (Nat.le_refl _)).more n4.size
  clear F1 F2 HB4 hsg
  simp only [gcl] at G8
  generalize w4.alloc (.cells #[.int .i64 Gi, .int .i64 Gq, .slice Ag Gl.length kg] 46) = W4 at *
  generalize w4.heap.size = g8 at *
  clear n4
  obtain ⟨x0, x1, x2, x3⟩ := f1.cells
  simp only at x0 x1 x2 x3
  have HB4 := Lib.hid hb4
  have F2 := Lib.hid f2
  have G8 := Lib.hid G8
  have S8 := Lib.hid s8
  clear f1 f2 s8 hb4
  go_wp2_with fail; refine (CP1.out _).mono ?_; rintro e w5 ⟨rfl, b5⟩
  have HB5 := Lib.hid (HB4.out.trans (b5.mono HB4.out.size))
  have F2 := Lib.hid (F2.out.on b5)
  have G8 := Lib.hid (G8.out.on b5)
  have S8 := Lib.hid ((S8.out.below b5 (Nat.le_refl _)).more b5.size)
  clear b5 HB4 CP1 x0 x1 x2 x3
  go_upto_region 4 with (fail)
  have n5 := Joins.below_alloc1 w5 (.cells #[.int .i64 ps, .int .i64 K, .int .i64 M, .string pb] 23)
  have p10 := PcAt.new w5 ⟨ps, K, M, pb⟩
  have hb5 := HB5.out.trans (n5.mono HB5.out.size)
  have l10 : w.heap.size ≤ w5.heap.size := HB5.out.size
  have f2 := F2.out.on n5
  have g8 := G8.out.on n5
  have s8 := (S8.out.below n5 (Nat.le_refl _)).more n5.size
  clear F2 HB5 G8 S8
  simp only [pcl] at p10
  generalize w5.alloc (.cells #[.int .i64 ps, .int .i64 K, .int .i64 M, .string pb] 23) = W5 at *
  generalize w5.heap.size = b10 at *
  clear n5
  have L10 := Lib.hid l10; clear l10
  obtain ⟨x0, x1, x2, x3⟩ := f2.cells
  simp only at x0 x1 x2 x3
  have HB5 := Lib.hid hb5
  have G8 := Lib.hid g8
  have S8 := Lib.hid s8
  have P10 := Lib.hid p10
  clear f2 s8 hb5 g8 p10
  go_wp2_with fail; refine (CP2.out _).mono ?_; rintro e w6 ⟨rfl, b6⟩
  have HB6 := Lib.hid (HB5.out.trans (b6.mono HB5.out.size))
  have G8 := Lib.hid (G8.out.on b6)
  have P10 := Lib.hid (P10.out.on b6)
  have S8 := Lib.hid ((S8.out.below b6 (Nat.le_refl _)).more b6.size)
  clear b6 HB5 CP2 x0 x1 x2 x3
  go_upto_region 5 with (fail)
  have n6 := Joins.below_alloc1 w6 (.cells #[.int .i64 rs, .int .i64 ra, .int .i64 ro, .string rb] 23)
  have p12 := PcAt.new w6 ⟨rs, ra, ro, rb⟩
  have hb6 := HB6.out.trans (n6.mono HB6.out.size)
  have g8 := G8.out.on n6
  have p10 := P10.out.on n6
  have s8 := (S8.out.below n6 (Nat.le_refl _)).more n6.size
  clear HB6 G8 S8 P10
  simp only [pcl] at p12
  generalize w6.alloc (.cells #[.int .i64 rs, .int .i64 ra, .int .i64 ro, .string rb] 23) = W6 at *
  generalize w6.heap.size = b12 at *
  clear n6
  obtain ⟨x0, x1, x2, x3⟩ := p10.cells
  obtain ⟨⟨y0, y1, y2⟩, -⟩ := g8.cells
  simp only at x0 x1 x2 x3
  have HB6 := Lib.hid hb6
  have S8 := Lib.hid s8
  have P10 := Lib.hid p10
  have P12 := Lib.hid p12
  clear s8 hb6 g8 p10 p12
  go_wp2_with fail; refine (CA.out _ _ _ S8.out hcg).mono ?_; rintro e w7 ⟨A7, k7, rfl, hk7, s7, b7⟩
  have HB7 := Lib.hid (HB6.out.trans (b7.mono HB6.out.size))
  have P10 := Lib.hid (P10.out.on b7)
  have P12 := Lib.hid (P12.out.on b7)
  clear b7 HB6
  clear S8 CA x0 x1 x2 x3 y0 y1 y2
  go_upto_region 6 with (fail)
  have n7 := Joins.below_alloc1 w7 (.cells #[.int .i64 (I + 5), .int .i64 (ps), .slice A7 M k7] 46)
  have v7 := GatAt.new w7 (I + 5) (ps) (.slice A7 M k7)
  have hb7 := HB7.out.trans (n7.mono HB7.out.size)
  have t7 := (s7.below n7 (Nat.le_refl _)).more n7.size
  have zP10 := P10.out.on n7
  have zP12 := P12.out.on n7
  clear HB7 s7 P10 P12
  simp only [gcl] at v7
  generalize w7.alloc (.cells #[.int .i64 (I + 5), .int .i64 (ps), .slice A7 M k7] 46) = W7 at *
  generalize w7.heap.size = c7 at *
  clear n7
  have HB7 := Lib.hid hb7
  have V7 := Lib.hid v7
  have S7 := Lib.hid t7
  have P10 := Lib.hid zP10
  have P12 := Lib.hid zP12
  clear hb7 v7 t7 zP10 zP12
  obtain ⟨x0, x1, x2, x3⟩ := P12.out.cells
  obtain ⟨⟨y0, y1, y2⟩, -⟩ := V7.out.cells
  simp only at x0 x1 x2 x3
  go_wp2_with fail; refine (CB.out _ _ _ S7.out hk7).mono ?_; rintro e w8 ⟨A8, k8, rfl, hk8, s8, b8⟩
  have HB8 := Lib.hid (HB7.out.trans (b8.mono HB7.out.size))
  have P10 := Lib.hid (P10.out.on b8)
  have V7 := Lib.hid (V7.out.on b8)
  have S7 := Lib.hid ((S7.out.below b8 (Nat.le_refl _)).more b8.size)
  clear b8 HB7 P12 x0 x1 x2 x3 y0 y1 y2 CB
  go_upto_region 7 with (fail)
  have n8 := Joins.below_alloc1 w8 (.cells #[.int .i64 (I + 5), .int .i64 (ps), .slice A8 M k8] 46)
  have v8 := GatAt.new w8 (I + 5) (ps) (.slice A8 M k8)
  have hb8 := HB8.out.trans (n8.mono HB8.out.size)
  have t8 := (s8.below n8 (Nat.le_refl _)).more n8.size
  have zP10 := P10.out.on n8
  have zV7 := V7.out.on n8
  have zS7 := (S7.out.below n8 (Nat.le_refl _)).more n8.size
  clear HB8 s8 P10 V7 S7
  simp only [gcl] at v8
  generalize w8.alloc (.cells #[.int .i64 (I + 5), .int .i64 (ps), .slice A8 M k8] 46) = W8 at *
  generalize w8.heap.size = c8 at *
  clear n8
  have HB8 := Lib.hid hb8
  have V8 := Lib.hid v8
  have S8 := Lib.hid t8
  have P10 := Lib.hid zP10
  have V7 := Lib.hid zV7
  have S7 := Lib.hid zS7
  clear hb8 v8 t8 zP10 zV7 zS7
  obtain ⟨x0, x1, x2, x3⟩ := P10.out.cells
  simp only at x0 x1 x2 x3
  have xf : ∀ j, W8.frozen? ⟨b10, j, none⟩ = false := fun j => by simp [World.frozen?, show W8.heap[b10]? = _ from P10.out]
  have q1 : IntKind.i64.wrap (ps + 9) = ps + 9 := IntWalk.i64_in _ (by omega)
  go_upto_region 8 with (fail)
  have gr := grown_cell W8 b10 0 (.int .i64 (ps + 9))
  have v7 := V7.out.grown gr (by intro e; injection e with e; exact gat_pc V7.out P10.out e.symm)
  have v8 := V8.out.grown gr (by intro e; injection e with e; exact gat_pc V8.out P10.out e.symm)
  have s7 := S7.out.int x0 (.int .i64 (ps + 9))
  have s8 := S8.out.int x0 (.int .i64 (ps + 9))
  have p10 : PcAt (W8.setCell ⟨b10, 0, none⟩ (.int .i64 (ps + 9))) b10 ⟨ps + 9, K, M, pb⟩ := set_blk P10.out 0 _
  have hb9 := HB8.out.setCell (p := ⟨b10, 0, none⟩) L10.out (.int .i64 (ps + 9))
  have hz : (W8.setCell ⟨b10, 0, none⟩ (.int .i64 (ps + 9))).heap.size = W8.heap.size := by simp
  rw [← hz] at s7 s8
  clear V7 V8 S7 S8 P10 HB8 hz gr x0 x1 x2 x3 xf q1
  generalize W8.setCell ⟨b10, 0, none⟩ (.int .i64 (ps + 9)) = W9 at *
  obtain ⟨x0, x1, x2, x3⟩ := p10.cells
  obtain ⟨⟨y0, y1, y2⟩, -⟩ := v7.cells
  simp only at x0 x1 x2 x3
  have V7 := Lib.hid v7
  have V8 := Lib.hid v8
  have S7 := Lib.hid s7
  have S8 := Lib.hid s8
  have P10 := Lib.hid p10
  have HB9 := Lib.hid hb9
  clear v7 v8 s7 s8 p10 hb9
  go_wp2_with fail; refine (CC.out _ _ _ S7.out hk7).mono ?_; rintro e w10 ⟨A10, k10, rfl, hk10, s10, b10⟩
  have HB10 := Lib.hid (HB9.out.trans (b10.mono HB9.out.size))
  have P10 := Lib.hid (P10.out.on b10)
  have V7 := Lib.hid (V7.out.on b10)
  have V8 := Lib.hid (V8.out.on b10)
  have S7 := Lib.hid ((S7.out.below b10 (Nat.le_refl _)).more b10.size)
  have S8 := Lib.hid ((S8.out.below b10 (Nat.le_refl _)).more b10.size)
  clear b10 HB9
  clear CC x0 x1 x2 x3 y0 y1 y2
  go_upto_region 9 with (fail)
  have n10 := Joins.below_alloc1 w10 (.cells #[.int .i64 (I + 5), .int .i64 (ps + 9), .slice A10 M k10] 46)
  have v10 := GatAt.new w10 (I + 5) (ps + 9) (.slice A10 M k10)
  have hb10 := HB10.out.trans (n10.mono HB10.out.size)
  have t10 := (s10.below n10 (Nat.le_refl _)).more n10.size
  have zP10 := P10.out.on n10
  have zV7 := V7.out.on n10
  have zV8 := V8.out.on n10
  have zS7 := (S7.out.below n10 (Nat.le_refl _)).more n10.size
  have zS8 := (S8.out.below n10 (Nat.le_refl _)).more n10.size
  clear HB10 s10 P10 V7 V8 S7 S8
  simp only [gcl] at v10
  generalize w10.alloc (.cells #[.int .i64 (I + 5), .int .i64 (ps + 9), .slice A10 M k10] 46) = W10 at *
  generalize w10.heap.size = c10 at *
  clear n10
  have HB10 := Lib.hid hb10
  have V10 := Lib.hid v10
  have S10 := Lib.hid t10
  have P10 := Lib.hid zP10
  have V7 := Lib.hid zV7
  have V8 := Lib.hid zV8
  have S7 := Lib.hid zS7
  have S8 := Lib.hid zS8
  clear hb10 v10 t10 zP10 zV7 zV8 zS7 zS8
  obtain ⟨x0, x1, x2, x3⟩ := P10.out.cells
  obtain ⟨⟨y0, y1, y2⟩, -⟩ := V7.out.cells
  obtain ⟨⟨u0, u1, u2⟩, -⟩ := V8.out.cells
  obtain ⟨⟨t0, t1, t2⟩, -⟩ := V10.out.cells
  simp only at x0 x1 x2 x3
  obtain ⟨ad, rfl, had, hc⟩ := S10.out (by omega)
  have HAD := Lib.hid had; clear had
  have HC := Lib.hid (fun k (h : k < M) => hc k _ (HLA.out k h))
  clear hc
  go_wp2_with fail
  go_loopw [19, 20] (fun mn ix wr => ∃ k : Nat, k ≤ M ∧ ix = .int .i64 k ∧ mn = .int .i64 (if K < k then 1 else 0) ∧ W10 = wr) (fun _ ix _ => M - (intOf ix).toNat)
  case atStart => exact ⟨0, by omega, rfl, by rw [if_neg (by omega)], rfl⟩
  case round =>
    obtain ⟨k, hk, rfl, rfl, rfl⟩ := hrel
    by_cases hlt : k < M
    · have hck := HC.out k hlt
      have hkm : (k : Int) < M := by omega
      have q1 : IntKind.i64.wrap ((k : Int) + 1) = (k : Int) + 1 := IntWalk.i64_in _ (by omega)
      by_cases hkK : k = K
      · subst hkK
        rw [if_pos rfl] at hck
        have e0 : (if k < k then (1 : Int) else 0) = 0 := if_neg (Nat.lt_irrefl k)
        rw [e0]
        have hpe : (pb.toList == []) = false := by
          have := full_iff pb
          unfold fullB at this
          simp at this
          simp
          exact this.2 hpb.1
        clear e0
        go_wp2_with fail
        go_roundw
        case rel => exact ⟨k + 1, by omega, by go_num, by rw [if_pos (Nat.lt_succ_self k)], trivial⟩
        case measure => simp [intOf]; omega
      · rw [if_neg hkK] at hck
        obtain ⟨Z, hZ⟩ : ∃ Z : Int, Z = (if K < k then 1 else 0) := ⟨_, rfl⟩
        have HZ := Lib.hid hZ
        rw [← hZ]
        clear hZ
        go_wp2_with fail
        go_roundw
        case rel => exact ⟨k + 1, by omega, by go_num, by rw [HZ.out]; congr 1; by_cases h : K < k <;> simp [h] <;> omega, trivial⟩
        case measure => simp [intOf]; omega
    · have ek : k = M := by omega
      subst ek
      rw [if_pos hKM]
      have HST7 : Hid (∀ W', Below W10.heap.size W10 W' → (W'.cell? ⟨c7, 0, none⟩ = some (.int .i64 (I + 5)) ∧ W'.cell? ⟨c7, 1, none⟩ = some (.int .i64 ps) ∧ W'.cell? ⟨c7, 2, none⟩ = some (.slice A7 k k7) ∧ W'.cell? ⟨c8, 0, none⟩ = some (.int .i64 (I + 5)) ∧ W'.cell? ⟨c8, 1, none⟩ = some (.int .i64 ps) ∧ W'.cell? ⟨c8, 2, none⟩ = some (.slice A8 k k8) ∧ W'.cell? ⟨c10, 1, none⟩ = some (.int .i64 (ps + 9)) ∧ W'.cell? ⟨c10, 2, none⟩ = some (.slice (some ad) k k10) ∧ W'.cell? ⟨b10, 0, none⟩ = some (.int .i64 (ps + 9)) ∧ W'.cell? ⟨b10, 1, none⟩ = some (.int .i64 K) ∧ W'.cell? ⟨b10, 3, none⟩ = some (.string pb) ∧ W'.cell? (ad.add K) = some (.string pb) ∧ Below W10.heap.size W10 W')) := Lib.hid fun W' hb => by
        obtain ⟨⟨y0, y1, y2⟩, -⟩ := (V7.out.on hb).cells
        obtain ⟨⟨u0, u1, u2⟩, -⟩ := (V8.out.on hb).cells
        obtain ⟨⟨t0, t1, t2⟩, -⟩ := (V10.out.on hb).cells
        obtain ⟨x0, x1, x2, x3⟩ := (P10.out.on hb).cells
        have hK := HC.out K hKM
        rw [if_pos rfl] at hK
        exact ⟨y0, y1, y2, u0, u1, u2, t1, t2, x0, x1, x3, (hb.cell (by rw [adb_s]; exact HAD.out)).trans hK, hb⟩
      have CS : Hid (∀ W, Below W10.heap.size W10 W → Calls Try.prog 30 #[.agg #[.int .i64 (I + 5), .int .i64 ps, .slice A7 k k7], .agg #[.int .i64 (I + 5), .int .i64 ps, .slice A8 k k8]] W fun e w' => e = .returned (.bool true) ∧ Below W.heap.size W w') := Lib.hid fun W hb => by
        have h := refSame_any A7 A8 k7 k8 (I + 5) ps (I + 5) ps L L W ((S7.out.below hb (Nat.le_refl _)).more hb.size) ((S8.out.below hb (Nat.le_refl _)).more hb.size) (by unfold maxLen; omega) (by unfold maxLen; omega)
        rw [hLM, (sameG_iff _ _ _ _ _ _).2 ⟨rfl, rfl, rfl⟩] at h
        exact h
      have Q5 : Hid (IntKind.i64.wrap (I + 5) = I + 5) := Lib.hid (IntWalk.i64_in _ (by omega))
      have Q6 : Hid (0 ≤ K) := Lib.hid (Nat.zero_le K)
      have Q7 : Hid ((0 : Int) ≤ K ∧ (K : Int) < k) := Lib.hid (by omega)
      clear V7 V8 V10 P10 S7 S8 S10 HC HAD HLA
      have hK0 : (0 : Int) ≤ K := by omega
      have hKk : (K : Int) < k := by omega
      go_wp2_with fail
      have HV : ∃ V : Nat → (Nat → Value) → World → Prop, V = (fun ix u wv => match ix with
        | 0 => u 0 = .bool true
        | 1 => u 1 = .bool true
        | 2 => u 2 = .pointer (some ⟨c7, 0, none⟩)
        | 3 => u 3 = .int .i64 (I + 5)
        | 4 => u 4 = .int .i64 I
        | 5 => u 5 = .int .i64 (I + 5)
        | 6 => u 6 = .bool true
        | 7 => u 7 = .bool true
        | 8 => u 8 = .bool true
        | 9 => u 9 = .agg #[.int .i64 (I + 5), .int .i64 ps, .slice A7 k k7]
        | 10 => u 10 = .agg #[.int .i64 (I + 5), .int .i64 ps, .slice A8 k k8]
        | 11 => u 11 = .bool true
        | 12 => u 12 = .bool true
        | 13 => u 13 = .bool true
        | 14 => u 14 = .int .i64 1
        | 15 => u 15 = .bool true
        | 16 => u 16 = .bool true
        | 17 => u 17 = .bool true
        | 18 => u 18 = .pointer (some ⟨c10, 2, none⟩)
        | 19 => u 19 = .slice (some ad) k k10
        | 20 => u 20 = .pointer (some ⟨b10, 1, none⟩)
        | 21 => u 21 = .int .i64 K
        | 22 => u 22 = .pointer (some (ad.add K))
        | 23 => u 23 = .string pb
        | 24 => u 24 = .pointer (some ⟨b10, 3, none⟩)
        | 25 => u 25 = .string pb
        | 26 => u 26 = .bool true
        | 27 => u 27 = .bool true
        | 28 => u 28 = .bool true
        | 29 => u 29 = .pointer (some ⟨c10, 1, none⟩)
        | 30 => u 30 = .int .i64 (ps + 9)
        | 31 => u 31 = .pointer (some ⟨b10, 0, none⟩)
        | 32 => u 32 = .int .i64 (ps + 9)
        | 33 => u 33 = .bool true
        | 34 => u 34 = .bool true
        | 35 => u 35 = .bool true
        | _ => True) := ⟨_, rfl⟩
      obtain ⟨V, hVdef⟩ := HV
      have V0 : ∀ u wv, V 0 u wv = (u 0 = .bool true) := fun u wv => by subst hVdef; rfl
      have V1 : ∀ u wv, V 1 u wv = (u 1 = .bool true) := fun u wv => by subst hVdef; rfl
      have V2 : ∀ u wv, V 2 u wv = (u 2 = .pointer (some ⟨c7, 0, none⟩)) := fun u wv => by subst hVdef; rfl
      have V3 : ∀ u wv, V 3 u wv = (u 3 = .int .i64 (I + 5)) := fun u wv => by subst hVdef; rfl
      have V4 : ∀ u wv, V 4 u wv = (u 4 = .int .i64 I) := fun u wv => by subst hVdef; rfl
      have V5 : ∀ u wv, V 5 u wv = (u 5 = .int .i64 (I + 5)) := fun u wv => by subst hVdef; rfl
      have V6 : ∀ u wv, V 6 u wv = (u 6 = .bool true) := fun u wv => by subst hVdef; rfl
      have V7 : ∀ u wv, V 7 u wv = (u 7 = .bool true) := fun u wv => by subst hVdef; rfl
      have V8 : ∀ u wv, V 8 u wv = (u 8 = .bool true) := fun u wv => by subst hVdef; rfl
      have V9 : ∀ u wv, V 9 u wv = (u 9 = .agg #[.int .i64 (I + 5), .int .i64 ps, .slice A7 k k7]) := fun u wv => by subst hVdef; rfl
      have V10 : ∀ u wv, V 10 u wv = (u 10 = .agg #[.int .i64 (I + 5), .int .i64 ps, .slice A8 k k8]) := fun u wv => by subst hVdef; rfl
      have V11 : ∀ u wv, V 11 u wv = (u 11 = .bool true) := fun u wv => by subst hVdef; rfl
      have V12 : ∀ u wv, V 12 u wv = (u 12 = .bool true) := fun u wv => by subst hVdef; rfl
      have V13 : ∀ u wv, V 13 u wv = (u 13 = .bool true) := fun u wv => by subst hVdef; rfl
      have V14 : ∀ u wv, V 14 u wv = (u 14 = .int .i64 1) := fun u wv => by subst hVdef; rfl
      have V15 : ∀ u wv, V 15 u wv = (u 15 = .bool true) := fun u wv => by subst hVdef; rfl
      have V16 : ∀ u wv, V 16 u wv = (u 16 = .bool true) := fun u wv => by subst hVdef; rfl
      have V17 : ∀ u wv, V 17 u wv = (u 17 = .bool true) := fun u wv => by subst hVdef; rfl
      have V18 : ∀ u wv, V 18 u wv = (u 18 = .pointer (some ⟨c10, 2, none⟩)) := fun u wv => by subst hVdef; rfl
      have V19 : ∀ u wv, V 19 u wv = (u 19 = .slice (some ad) k k10) := fun u wv => by subst hVdef; rfl
      have V20 : ∀ u wv, V 20 u wv = (u 20 = .pointer (some ⟨b10, 1, none⟩)) := fun u wv => by subst hVdef; rfl
      have V21 : ∀ u wv, V 21 u wv = (u 21 = .int .i64 K) := fun u wv => by subst hVdef; rfl
      have V22 : ∀ u wv, V 22 u wv = (u 22 = .pointer (some (ad.add K))) := fun u wv => by subst hVdef; rfl
      have V23 : ∀ u wv, V 23 u wv = (u 23 = .string pb) := fun u wv => by subst hVdef; rfl
      have V24 : ∀ u wv, V 24 u wv = (u 24 = .pointer (some ⟨b10, 3, none⟩)) := fun u wv => by subst hVdef; rfl
      have V25 : ∀ u wv, V 25 u wv = (u 25 = .string pb) := fun u wv => by subst hVdef; rfl
      have V26 : ∀ u wv, V 26 u wv = (u 26 = .bool true) := fun u wv => by subst hVdef; rfl
      have V27 : ∀ u wv, V 27 u wv = (u 27 = .bool true) := fun u wv => by subst hVdef; rfl
      have V28 : ∀ u wv, V 28 u wv = (u 28 = .bool true) := fun u wv => by subst hVdef; rfl
      have V29 : ∀ u wv, V 29 u wv = (u 29 = .pointer (some ⟨c10, 1, none⟩)) := fun u wv => by subst hVdef; rfl
      have V30 : ∀ u wv, V 30 u wv = (u 30 = .int .i64 (ps + 9)) := fun u wv => by subst hVdef; rfl
      have V31 : ∀ u wv, V 31 u wv = (u 31 = .pointer (some ⟨b10, 0, none⟩)) := fun u wv => by subst hVdef; rfl
      have V32 : ∀ u wv, V 32 u wv = (u 32 = .int .i64 (ps + 9)) := fun u wv => by subst hVdef; rfl
      have V33 : ∀ u wv, V 33 u wv = (u 33 = .bool true) := fun u wv => by subst hVdef; rfl
      have V34 : ∀ u wv, V 34 u wv = (u 34 = .bool true) := fun u wv => by subst hVdef; rfl
      have V35 : ∀ u wv, V 35 u wv = (u 35 = .bool true) := fun u wv => by subst hVdef; rfl
      have HVD := Lib.hid hVdef
      clear hVdef
      refine region_each (V := V) (drop := fun _ _ => false) (G := fun wv => Below W10.heap.size W10 wv) (Rel := fun jx wv wv' => Below wv.heap.size wv wv') (by kernel_rfl) (by kernel_rfl) (Below.refl _ _).drew ?hmono1 ?hdep1 ⟨?s0_1, ?s1_1, ?s2_1, ?s3_1, ?s4_1, ?s5_1, ?s6_1, ?s7_1, ?s8_1, ?s9_1, ?s10_1, ?s11_1, ?s12_1, ?s13_1, ?s14_1, ?s15_1, ?s16_1, ?s17_1, ?s18_1, ?s19_1, ?s20_1, ?s21_1, ?s22_1, ?s23_1, ?s24_1, ?s25_1, ?s26_1, ?s27_1, ?s28_1, ?s29_1, ?s30_1, ?s31_1, ?s32_1, ?s33_1, ?s34_1, ?s35_1, trivial⟩ ?behind1
      case hmono1 =>
        intro ix jx u wv wv' hij hw hd hr
        rw [HVD.out]
        dsimp only
        split <;> intro h <;> first | exact trivial | exact h | (skip)
      case hdep1 =>
        intro ix u u' wv h1 h2
        rw [HVD.out]
        dsimp only
        split <;> intro h <;> first | exact trivial | (rw [← h1]; exact h) | (fail)
      case s0_1 =>
        refine owe rfl fun a wx val hG hV hN hO K hK => ?_
        have e7 : a.tmps[7]? = some (.bool true) := (hO 7 (by kernel_rfl)).trans (by rfl)
        clear hV hN hO
        go_simp
        exact hK.out _ _ (by rw [V0, upd_at]) (Below.refl _ _) hG
      case s1_1 =>
        refine owe rfl fun a wx val hG hV hN hO K hK => ?_
        have e102 := hN 0 102 (by kernel_rfl) (by kernel_rfl) (by simp)
        have f102 := hV 0 (by kernel_rfl) (by kernel_rfl)
        rw [V0] at f102
        rw [f102] at e102; clear f102
        clear hV hN hO
        go_simp
        exact hK.out _ _ (by rw [V1, upd_at]) (Below.refl _ _) hG
      case s2_1 =>
        refine owe_if (g := 1) (t := 103) (b := true) rfl (by kernel_rfl) (by kernel_rfl) (by kernel_rfl) (by simp) (fun val w h => by rw [V1] at h; exact h) fun a wx val hG hV hN hO K hK => ?_
        have e13 : a.tmps[13]? = some (.pointer (some ⟨c7, 0, none⟩)) := (hO 13 (by kernel_rfl)).trans (by rfl)
        clear hV hN hO
        go_simp
        exact hK.out _ _ (by rw [V2, upd_at]) (Below.refl _ _) hG
      case s3_1 =>
        refine owe_if (g := 1) (t := 103) (b := true) rfl (by kernel_rfl) (by kernel_rfl) (by kernel_rfl) (by simp) (fun val w h => by rw [V1] at h; exact h) fun a wx val hG hV hN hO K hK => ?_
        have e104 := hN 2 104 (by kernel_rfl) (by kernel_rfl) (by simp)
        have f104 := hV 2 (by kernel_rfl) (by kernel_rfl)
        rw [V2] at f104
        rw [f104] at e104; clear f104
        clear hV hN hO
        obtain ⟨y0, y1, y2, u0, u1, u2, t1, t2, x0, x1, x3, xk, -⟩ := HST7.out _ hG
        go_simp
        exact hK.out _ _ (by rw [V3, upd_at]) (Below.refl _ _) hG
      case s4_1 =>
        refine owe_if (g := 1) (t := 103) (b := true) rfl (by kernel_rfl) (by kernel_rfl) (by kernel_rfl) (by simp) (fun val w h => by rw [V1] at h; exact h) fun a wx val hG hV hN hO K hK => ?_
        have e9 : a.tmps[9]? = some (.int .i64 I) := (hO 9 (by kernel_rfl)).trans (by rfl)
        clear hV hN hO
        go_simp
        exact hK.out _ _ (by rw [V4, upd_at]) (Below.refl _ _) hG
      case s5_1 =>
        refine owe_if (g := 1) (t := 103) (b := true) rfl (by kernel_rfl) (by kernel_rfl) (by kernel_rfl) (by simp) (fun val w h => by rw [V1] at h; exact h) fun a wx val hG hV hN hO K hK => ?_
        have e106 := hN 4 106 (by kernel_rfl) (by kernel_rfl) (by simp)
        have f106 := hV 4 (by kernel_rfl) (by kernel_rfl)
        rw [V4] at f106
        rw [f106] at e106; clear f106
        clear hV hN hO
        have q1 := Q5.out
        go_simp
        exact hK.out _ _ (by rw [V5, upd_at]) (Below.refl _ _) hG
      case s6_1 =>
        refine owe_if (g := 1) (t := 103) (b := true) rfl (by kernel_rfl) (by kernel_rfl) (by kernel_rfl) (by simp) (fun val w h => by rw [V1] at h; exact h) fun a wx val hG hV hN hO K hK => ?_
        have e105 := hN 3 105 (by kernel_rfl) (by kernel_rfl) (by simp)
        have f105 := hV 3 (by kernel_rfl) (by kernel_rfl)
        rw [V3] at f105
        rw [f105] at e105; clear f105
        have e107 := hN 5 107 (by kernel_rfl) (by kernel_rfl) (by simp)
        have f107 := hV 5 (by kernel_rfl) (by kernel_rfl)
        rw [V5] at f107
        rw [f107] at e107; clear f107
        clear hV hN hO
        go_simp
        exact hK.out _ _ (by rw [V6, upd_at]) (Below.refl _ _) hG
      case s7_1 =>
        refine owe rfl fun a wx val hG hV hN hO K hK => ?_
        have e103 := hN 1 103 (by kernel_rfl) (by kernel_rfl) (by simp)
        have f103 := hV 1 (by kernel_rfl) (by kernel_rfl)
        rw [V1] at f103
        rw [f103] at e103; clear f103
        have e108 := hN 6 108 (by kernel_rfl) (by kernel_rfl) (by simp)
        have f108 := hV 6 (by kernel_rfl) (by kernel_rfl)
        rw [V6] at f108
        rw [f108] at e108; clear f108
        clear hV hN hO
        go_simp
        exact hK.out _ _ (by rw [V7, upd_at]) (Below.refl _ _) hG
      case s8_1 =>
        refine owe rfl fun a wx val hG hV hN hO K hK => ?_
        have e109 := hN 7 109 (by kernel_rfl) (by kernel_rfl) (by simp)
        have f109 := hV 7 (by kernel_rfl) (by kernel_rfl)
        rw [V7] at f109
        rw [f109] at e109; clear f109
        clear hV hN hO
        go_simp
        exact hK.out _ _ (by rw [V8, upd_at]) (Below.refl _ _) hG
      case s9_1 =>
        refine owe_if (g := 8) (t := 110) (b := true) rfl (by kernel_rfl) (by kernel_rfl) (by kernel_rfl) (by simp) (fun val w h => by rw [V8] at h; exact h) fun a wx val hG hV hN hO K hK => ?_
        have e13 : a.tmps[13]? = some (.pointer (some ⟨c7, 0, none⟩)) := (hO 13 (by kernel_rfl)).trans (by rfl)
        clear hV hN hO
        obtain ⟨y0, y1, y2, u0, u1, u2, t1, t2, x0, x1, x3, xk, -⟩ := HST7.out _ hG
        go_simp
        exact hK.out _ _ (by rw [V9, upd_at]) (Below.refl _ _) hG
      case s10_1 =>
        refine owe_if (g := 8) (t := 110) (b := true) rfl (by kernel_rfl) (by kernel_rfl) (by kernel_rfl) (by simp) (fun val w h => by rw [V8] at h; exact h) fun a wx val hG hV hN hO K hK => ?_
        have e15 : a.tmps[15]? = some (.pointer (some ⟨c8, 0, none⟩)) := (hO 15 (by kernel_rfl)).trans (by rfl)
        clear hV hN hO
        obtain ⟨y0, y1, y2, u0, u1, u2, t1, t2, x0, x1, x3, xk, -⟩ := HST7.out _ hG
        go_simp
        exact hK.out _ _ (by rw [V10, upd_at]) (Below.refl _ _) hG
      case s11_1 =>
        refine owe_if (g := 8) (t := 110) (b := true) rfl (by kernel_rfl) (by kernel_rfl) (by kernel_rfl) (by simp) (fun val w h => by rw [V8] at h; exact h) fun a wx val hG hV hN hO K hK => ?_
        have e111 := hN 9 111 (by kernel_rfl) (by kernel_rfl) (by simp)
        have f111 := hV 9 (by kernel_rfl) (by kernel_rfl)
        rw [V9] at f111
        rw [f111] at e111; clear f111
        have e112 := hN 10 112 (by kernel_rfl) (by kernel_rfl) (by simp)
        have f112 := hV 10 (by kernel_rfl) (by kernel_rfl)
        rw [V10] at f112
        rw [f112] at e112; clear f112
        clear hV hN hO
        go_simp
        refine (CS.out _ hG).mono ?_
        rintro e w11 ⟨rfl, hb⟩
        exact hK.out _ _ (by rw [V11, upd_at]) hb (hG.trans (hb.mono hG.size))
      case s12_1 =>
        refine owe rfl fun a wx val hG hV hN hO K hK => ?_
        have e110 := hN 8 110 (by kernel_rfl) (by kernel_rfl) (by simp)
        have f110 := hV 8 (by kernel_rfl) (by kernel_rfl)
        rw [V8] at f110
        rw [f110] at e110; clear f110
        have e113 := hN 11 113 (by kernel_rfl) (by kernel_rfl) (by simp)
        have f113 := hV 11 (by kernel_rfl) (by kernel_rfl)
        rw [V11] at f113
        rw [f113] at e113; clear f113
        clear hV hN hO
        go_simp
        exact hK.out _ _ (by rw [V12, upd_at]) (Below.refl _ _) hG
      case s13_1 =>
        refine owe rfl fun a wx val hG hV hN hO K hK => ?_
        have e114 := hN 12 114 (by kernel_rfl) (by kernel_rfl) (by simp)
        have f114 := hV 12 (by kernel_rfl) (by kernel_rfl)
        rw [V12] at f114
        rw [f114] at e114; clear f114
        clear hV hN hO
        go_simp
        exact hK.out _ _ (by rw [V13, upd_at]) (Below.refl _ _) hG
      case s14_1 =>
        refine owe_if (g := 13) (t := 115) (b := true) rfl (by kernel_rfl) (by kernel_rfl) (by kernel_rfl) (by simp) (fun val w h => by rw [V13] at h; exact h) fun a wx val hG hV hN hO K hK => ?_
        have e19 : a.tmps[19]? = some (.int .i64 1) := (hO 19 (by kernel_rfl)).trans (by rfl)
        clear hV hN hO
        go_simp
        exact hK.out _ _ (by rw [V14, upd_at]) (Below.refl _ _) hG
      case s15_1 =>
        refine owe_if (g := 13) (t := 115) (b := true) rfl (by kernel_rfl) (by kernel_rfl) (by kernel_rfl) (by simp) (fun val w h => by rw [V13] at h; exact h) fun a wx val hG hV hN hO K hK => ?_
        have e116 := hN 14 116 (by kernel_rfl) (by kernel_rfl) (by simp)
        have f116 := hV 14 (by kernel_rfl) (by kernel_rfl)
        rw [V14] at f116
        rw [f116] at e116; clear f116
        clear hV hN hO
        go_simp
        exact hK.out _ _ (by rw [V15, upd_at]) (Below.refl _ _) hG
      case s16_1 =>
        refine owe rfl fun a wx val hG hV hN hO K hK => ?_
        have e115 := hN 13 115 (by kernel_rfl) (by kernel_rfl) (by simp)
        have f115 := hV 13 (by kernel_rfl) (by kernel_rfl)
        rw [V13] at f115
        rw [f115] at e115; clear f115
        have e117 := hN 15 117 (by kernel_rfl) (by kernel_rfl) (by simp)
        have f117 := hV 15 (by kernel_rfl) (by kernel_rfl)
        rw [V15] at f117
        rw [f117] at e117; clear f117
        clear hV hN hO
        go_simp
        exact hK.out _ _ (by rw [V16, upd_at]) (Below.refl _ _) hG
      case s17_1 =>
        refine owe rfl fun a wx val hG hV hN hO K hK => ?_
        have e118 := hN 16 118 (by kernel_rfl) (by kernel_rfl) (by simp)
        have f118 := hV 16 (by kernel_rfl) (by kernel_rfl)
        rw [V16] at f118
        rw [f118] at e118; clear f118
        clear hV hN hO
        go_simp
        exact hK.out _ _ (by rw [V17, upd_at]) (Below.refl _ _) hG
      case s18_1 =>
        refine owe_if (g := 17) (t := 119) (b := true) rfl (by kernel_rfl) (by kernel_rfl) (by kernel_rfl) (by simp) (fun val w h => by rw [V17] at h; exact h) fun a wx val hG hV hN hO K hK => ?_
        have e17 : a.tmps[17]? = some (.pointer (some ⟨c10, 0, none⟩)) := (hO 17 (by kernel_rfl)).trans (by rfl)
        clear hV hN hO
        go_simp
        exact hK.out _ _ (by rw [V18, upd_at]) (Below.refl _ _) hG
      case s19_1 =>
        refine owe_if (g := 17) (t := 119) (b := true) rfl (by kernel_rfl) (by kernel_rfl) (by kernel_rfl) (by simp) (fun val w h => by rw [V17] at h; exact h) fun a wx val hG hV hN hO K hK => ?_
        have e120 := hN 18 120 (by kernel_rfl) (by kernel_rfl) (by simp)
        have f120 := hV 18 (by kernel_rfl) (by kernel_rfl)
        rw [V18] at f120
        rw [f120] at e120; clear f120
        clear hV hN hO
        obtain ⟨y0, y1, y2, u0, u1, u2, t1, t2, x0, x1, x3, xk, -⟩ := HST7.out _ hG
        go_simp
        exact hK.out _ _ (by rw [V19, upd_at]) (Below.refl _ _) hG
      case s20_1 =>
        refine owe_if (g := 17) (t := 119) (b := true) rfl (by kernel_rfl) (by kernel_rfl) (by kernel_rfl) (by simp) (fun val w h => by rw [V17] at h; exact h) fun a wx val hG hV hN hO K hK => ?_
        have e10 : a.tmps[10]? = some (.pointer (some ⟨b10, 0, none⟩)) := (hO 10 (by kernel_rfl)).trans (by rfl)
        clear hV hN hO
        go_simp
        exact hK.out _ _ (by rw [V20, upd_at]) (Below.refl _ _) hG
      case s21_1 =>
        refine owe_if (g := 17) (t := 119) (b := true) rfl (by kernel_rfl) (by kernel_rfl) (by kernel_rfl) (by simp) (fun val w h => by rw [V17] at h; exact h) fun a wx val hG hV hN hO K hK => ?_
        have e122 := hN 20 122 (by kernel_rfl) (by kernel_rfl) (by simp)
        have f122 := hV 20 (by kernel_rfl) (by kernel_rfl)
        rw [V20] at f122
        rw [f122] at e122; clear f122
        clear hV hN hO
        obtain ⟨y0, y1, y2, u0, u1, u2, t1, t2, x0, x1, x3, xk, -⟩ := HST7.out _ hG
        go_simp
        exact hK.out _ _ (by rw [V21, upd_at]) (Below.refl _ _) hG
      case s22_1 =>
        refine owe_if (g := 17) (t := 119) (b := true) rfl (by kernel_rfl) (by kernel_rfl) (by kernel_rfl) (by simp) (fun val w h => by rw [V17] at h; exact h) fun a wx val hG hV hN hO K hK => ?_
        have e121 := hN 19 121 (by kernel_rfl) (by kernel_rfl) (by simp)
        have f121 := hV 19 (by kernel_rfl) (by kernel_rfl)
        rw [V19] at f121
        rw [f121] at e121; clear f121
        have e123 := hN 21 123 (by kernel_rfl) (by kernel_rfl) (by simp)
        have f123 := hV 21 (by kernel_rfl) (by kernel_rfl)
        rw [V21] at f123
        rw [f123] at e123; clear f123
        clear hV hN hO
        have q1 := Q6.out
        obtain ⟨q2, q3⟩ := Q7.out
        go_simp
        exact hK.out _ _ (by rw [V22, upd_at]) (Below.refl _ _) hG
      case s23_1 =>
        refine owe_if (g := 17) (t := 119) (b := true) rfl (by kernel_rfl) (by kernel_rfl) (by kernel_rfl) (by simp) (fun val w h => by rw [V17] at h; exact h) fun a wx val hG hV hN hO K hK => ?_
        have e124 := hN 22 124 (by kernel_rfl) (by kernel_rfl) (by simp)
        have f124 := hV 22 (by kernel_rfl) (by kernel_rfl)
        rw [V22] at f124
        rw [f124] at e124; clear f124
        clear hV hN hO
        obtain ⟨y0, y1, y2, u0, u1, u2, t1, t2, x0, x1, x3, xk, -⟩ := HST7.out _ hG
        go_simp
        exact hK.out _ _ (by rw [V23, upd_at]) (Below.refl _ _) hG
      case s24_1 =>
        refine owe_if (g := 17) (t := 119) (b := true) rfl (by kernel_rfl) (by kernel_rfl) (by kernel_rfl) (by simp) (fun val w h => by rw [V17] at h; exact h) fun a wx val hG hV hN hO K hK => ?_
        have e10 : a.tmps[10]? = some (.pointer (some ⟨b10, 0, none⟩)) := (hO 10 (by kernel_rfl)).trans (by rfl)
        clear hV hN hO
        go_simp
        exact hK.out _ _ (by rw [V24, upd_at]) (Below.refl _ _) hG
      case s25_1 =>
        refine owe_if (g := 17) (t := 119) (b := true) rfl (by kernel_rfl) (by kernel_rfl) (by kernel_rfl) (by simp) (fun val w h => by rw [V17] at h; exact h) fun a wx val hG hV hN hO K hK => ?_
        have e126 := hN 24 126 (by kernel_rfl) (by kernel_rfl) (by simp)
        have f126 := hV 24 (by kernel_rfl) (by kernel_rfl)
        rw [V24] at f126
        rw [f126] at e126; clear f126
        clear hV hN hO
        obtain ⟨y0, y1, y2, u0, u1, u2, t1, t2, x0, x1, x3, xk, -⟩ := HST7.out _ hG
        go_simp
        exact hK.out _ _ (by rw [V25, upd_at]) (Below.refl _ _) hG
      case s26_1 =>
        refine owe_if (g := 17) (t := 119) (b := true) rfl (by kernel_rfl) (by kernel_rfl) (by kernel_rfl) (by simp) (fun val w h => by rw [V17] at h; exact h) fun a wx val hG hV hN hO K hK => ?_
        have e125 := hN 23 125 (by kernel_rfl) (by kernel_rfl) (by simp)
        have f125 := hV 23 (by kernel_rfl) (by kernel_rfl)
        rw [V23] at f125
        rw [f125] at e125; clear f125
        have e127 := hN 25 127 (by kernel_rfl) (by kernel_rfl) (by simp)
        have f127 := hV 25 (by kernel_rfl) (by kernel_rfl)
        rw [V25] at f127
        rw [f127] at e127; clear f127
        clear hV hN hO
        go_simp
        exact hK.out _ _ (by rw [V26, upd_at]) (Below.refl _ _) hG
      case s27_1 =>
        refine owe rfl fun a wx val hG hV hN hO K hK => ?_
        have e119 := hN 17 119 (by kernel_rfl) (by kernel_rfl) (by simp)
        have f119 := hV 17 (by kernel_rfl) (by kernel_rfl)
        rw [V17] at f119
        rw [f119] at e119; clear f119
        have e128 := hN 26 128 (by kernel_rfl) (by kernel_rfl) (by simp)
        have f128 := hV 26 (by kernel_rfl) (by kernel_rfl)
        rw [V26] at f128
        rw [f128] at e128; clear f128
        clear hV hN hO
        go_simp
        exact hK.out _ _ (by rw [V27, upd_at]) (Below.refl _ _) hG
      case s28_1 =>
        refine owe rfl fun a wx val hG hV hN hO K hK => ?_
        have e129 := hN 27 129 (by kernel_rfl) (by kernel_rfl) (by simp)
        have f129 := hV 27 (by kernel_rfl) (by kernel_rfl)
        rw [V27] at f129
        rw [f129] at e129; clear f129
        clear hV hN hO
        go_simp
        exact hK.out _ _ (by rw [V28, upd_at]) (Below.refl _ _) hG
      case s29_1 =>
        refine owe_if (g := 28) (t := 130) (b := true) rfl (by kernel_rfl) (by kernel_rfl) (by kernel_rfl) (by simp) (fun val w h => by rw [V28] at h; exact h) fun a wx val hG hV hN hO K hK => ?_
        have e17 : a.tmps[17]? = some (.pointer (some ⟨c10, 0, none⟩)) := (hO 17 (by kernel_rfl)).trans (by rfl)
        clear hV hN hO
        go_simp
        exact hK.out _ _ (by rw [V29, upd_at]) (Below.refl _ _) hG
      case s30_1 =>
        refine owe_if (g := 28) (t := 130) (b := true) rfl (by kernel_rfl) (by kernel_rfl) (by kernel_rfl) (by simp) (fun val w h => by rw [V28] at h; exact h) fun a wx val hG hV hN hO K hK => ?_
        have e131 := hN 29 131 (by kernel_rfl) (by kernel_rfl) (by simp)
        have f131 := hV 29 (by kernel_rfl) (by kernel_rfl)
        rw [V29] at f131
        rw [f131] at e131; clear f131
        clear hV hN hO
        obtain ⟨y0, y1, y2, u0, u1, u2, t1, t2, x0, x1, x3, xk, -⟩ := HST7.out _ hG
        go_simp
        exact hK.out _ _ (by rw [V30, upd_at]) (Below.refl _ _) hG
      case s31_1 =>
        refine owe_if (g := 28) (t := 130) (b := true) rfl (by kernel_rfl) (by kernel_rfl) (by kernel_rfl) (by simp) (fun val w h => by rw [V28] at h; exact h) fun a wx val hG hV hN hO K hK => ?_
        have e10 : a.tmps[10]? = some (.pointer (some ⟨b10, 0, none⟩)) := (hO 10 (by kernel_rfl)).trans (by rfl)
        clear hV hN hO
        go_simp
        exact hK.out _ _ (by rw [V31, upd_at]) (Below.refl _ _) hG
      case s32_1 =>
        refine owe_if (g := 28) (t := 130) (b := true) rfl (by kernel_rfl) (by kernel_rfl) (by kernel_rfl) (by simp) (fun val w h => by rw [V28] at h; exact h) fun a wx val hG hV hN hO K hK => ?_
        have e133 := hN 31 133 (by kernel_rfl) (by kernel_rfl) (by simp)
        have f133 := hV 31 (by kernel_rfl) (by kernel_rfl)
        rw [V31] at f133
        rw [f133] at e133; clear f133
        clear hV hN hO
        obtain ⟨y0, y1, y2, u0, u1, u2, t1, t2, x0, x1, x3, xk, -⟩ := HST7.out _ hG
        go_simp
        exact hK.out _ _ (by rw [V32, upd_at]) (Below.refl _ _) hG
      case s33_1 =>
        refine owe_if (g := 28) (t := 130) (b := true) rfl (by kernel_rfl) (by kernel_rfl) (by kernel_rfl) (by simp) (fun val w h => by rw [V28] at h; exact h) fun a wx val hG hV hN hO K hK => ?_
        have e132 := hN 30 132 (by kernel_rfl) (by kernel_rfl) (by simp)
        have f132 := hV 30 (by kernel_rfl) (by kernel_rfl)
        rw [V30] at f132
        rw [f132] at e132; clear f132
        have e134 := hN 32 134 (by kernel_rfl) (by kernel_rfl) (by simp)
        have f134 := hV 32 (by kernel_rfl) (by kernel_rfl)
        rw [V32] at f134
        rw [f134] at e134; clear f134
        clear hV hN hO
        go_simp
        exact hK.out _ _ (by rw [V33, upd_at]) (Below.refl _ _) hG
      case s34_1 =>
        refine owe rfl fun a wx val hG hV hN hO K hK => ?_
        have e130 := hN 28 130 (by kernel_rfl) (by kernel_rfl) (by simp)
        have f130 := hV 28 (by kernel_rfl) (by kernel_rfl)
        rw [V28] at f130
        rw [f130] at e130; clear f130
        have e135 := hN 33 135 (by kernel_rfl) (by kernel_rfl) (by simp)
        have f135 := hV 33 (by kernel_rfl) (by kernel_rfl)
        rw [V33] at f135
        rw [f135] at e135; clear f135
        clear hV hN hO
        go_simp
        exact hK.out _ _ (by rw [V34, upd_at]) (Below.refl _ _) hG
      case s35_1 =>
        refine owe rfl fun a wx val hG hV hN hO K hK => ?_
        have e136 := hN 34 136 (by kernel_rfl) (by kernel_rfl) (by simp)
        have f136 := hV 34 (by kernel_rfl) (by kernel_rfl)
        rw [V34] at f136
        rw [f136] at e136; clear f136
        clear hV hN hO
        go_simp
        exact hK.out _ _ (by rw [V35, upd_at]) (Below.refl _ _) hG
      intro val wx hG hV
      have f0 := hV 0 (by simp) (fun _ _ => by rfl)
      rw [V0] at f0
      have f1 := hV 1 (by simp) (fun _ _ => by rfl)
      rw [V1] at f1
      have f2 := hV 2 (by simp) (fun _ _ => by rfl)
      rw [V2] at f2
      have f3 := hV 3 (by simp) (fun _ _ => by rfl)
      rw [V3] at f3
      have f4 := hV 4 (by simp) (fun _ _ => by rfl)
      rw [V4] at f4
      have f5 := hV 5 (by simp) (fun _ _ => by rfl)
      rw [V5] at f5
      have f6 := hV 6 (by simp) (fun _ _ => by rfl)
      rw [V6] at f6
      have f7 := hV 7 (by simp) (fun _ _ => by rfl)
      rw [V7] at f7
      have f8 := hV 8 (by simp) (fun _ _ => by rfl)
      rw [V8] at f8
      have f9 := hV 9 (by simp) (fun _ _ => by rfl)
      rw [V9] at f9
      have f10 := hV 10 (by simp) (fun _ _ => by rfl)
      rw [V10] at f10
      have f11 := hV 11 (by simp) (fun _ _ => by rfl)
      rw [V11] at f11
      have f12 := hV 12 (by simp) (fun _ _ => by rfl)
      rw [V12] at f12
      have f13 := hV 13 (by simp) (fun _ _ => by rfl)
      rw [V13] at f13
      have f14 := hV 14 (by simp) (fun _ _ => by rfl)
      rw [V14] at f14
      have f15 := hV 15 (by simp) (fun _ _ => by rfl)
      rw [V15] at f15
      have f16 := hV 16 (by simp) (fun _ _ => by rfl)
      rw [V16] at f16
      have f17 := hV 17 (by simp) (fun _ _ => by rfl)
      rw [V17] at f17
      have f18 := hV 18 (by simp) (fun _ _ => by rfl)
      rw [V18] at f18
      have f19 := hV 19 (by simp) (fun _ _ => by rfl)
      rw [V19] at f19
      have f20 := hV 20 (by simp) (fun _ _ => by rfl)
      rw [V20] at f20
      have f21 := hV 21 (by simp) (fun _ _ => by rfl)
      rw [V21] at f21
      have f22 := hV 22 (by simp) (fun _ _ => by rfl)
      rw [V22] at f22
      have f23 := hV 23 (by simp) (fun _ _ => by rfl)
      rw [V23] at f23
      have f24 := hV 24 (by simp) (fun _ _ => by rfl)
      rw [V24] at f24
      have f25 := hV 25 (by simp) (fun _ _ => by rfl)
      rw [V25] at f25
      have f26 := hV 26 (by simp) (fun _ _ => by rfl)
      rw [V26] at f26
      have f27 := hV 27 (by simp) (fun _ _ => by rfl)
      rw [V27] at f27
      have f28 := hV 28 (by simp) (fun _ _ => by rfl)
      rw [V28] at f28
      have f29 := hV 29 (by simp) (fun _ _ => by rfl)
      rw [V29] at f29
      have f30 := hV 30 (by simp) (fun _ _ => by rfl)
      rw [V30] at f30
      have f31 := hV 31 (by simp) (fun _ _ => by rfl)
      rw [V31] at f31
      have f32 := hV 32 (by simp) (fun _ _ => by rfl)
      rw [V32] at f32
      have f33 := hV 33 (by simp) (fun _ _ => by rfl)
      rw [V33] at f33
      have f34 := hV 34 (by simp) (fun _ _ => by rfl)
      rw [V34] at f34
      have f35 := hV 35 (by simp) (fun _ _ => by rfl)
      rw [V35] at f35
      clear hV V0 V1 V2 V3 V4 V5 V6 V7 V8 V9 V10 V11 V12 V13 V14 V15 V16 V17 V18 V19 V20 V21 V22 V23 V24 V25 V26 V27 V28 V29 V30 V31 V32 V33 V34 V35
      simp only [putAll, Act.put, List.setIfInBounds_toArray, List.set_cons_zero, List.set_cons_succ]
      generalize val 0 = z0 at *; (subst f0)
      generalize val 1 = z1 at *; (subst f1)
      generalize val 2 = z2 at *; (subst f2)
      generalize val 3 = z3 at *; (subst f3)
      generalize val 4 = z4 at *; (subst f4)
      generalize val 5 = z5 at *; (subst f5)
      generalize val 6 = z6 at *; (subst f6)
      generalize val 7 = z7 at *; (subst f7)
      generalize val 8 = z8 at *; (subst f8)
      generalize val 9 = z9 at *; (subst f9)
      generalize val 10 = z10 at *; (subst f10)
      generalize val 11 = z11 at *; (subst f11)
      generalize val 12 = z12 at *; (subst f12)
      generalize val 13 = z13 at *; (subst f13)
      generalize val 14 = z14 at *; (subst f14)
      generalize val 15 = z15 at *; (subst f15)
      generalize val 16 = z16 at *; (subst f16)
      generalize val 17 = z17 at *; (subst f17)
      generalize val 18 = z18 at *; (subst f18)
      generalize val 19 = z19 at *; (subst f19)
      generalize val 20 = z20 at *; (subst f20)
      generalize val 21 = z21 at *; (subst f21)
      generalize val 22 = z22 at *; (subst f22)
      generalize val 23 = z23 at *; (subst f23)
      generalize val 24 = z24 at *; (subst f24)
      generalize val 25 = z25 at *; (subst f25)
      generalize val 26 = z26 at *; (subst f26)
      generalize val 27 = z27 at *; (subst f27)
      generalize val 28 = z28 at *; (subst f28)
      generalize val 29 = z29 at *; (subst f29)
      generalize val 30 = z30 at *; (subst f30)
      generalize val 31 = z31 at *; (subst f31)
      generalize val 32 = z32 at *; (subst f32)
      generalize val 33 = z33 at *; (subst f33)
      generalize val 34 = z34 at *; (subst f34)
      generalize val 35 = z35 at *; (subst f35)
      go_wp2_with fail
      go_ret
      exact ⟨rfl, HB10.out.trans (hG.mono HB10.out.size)⟩

end Go.Proofs.Ytggeojjiongbbaa

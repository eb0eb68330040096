/-
  A piece put to what was gathered: the program's.
-/
import Derived.Test.YtggeojjiongbbaaFragOwnP
import Derived.BigRegion
import Derived.Deep.DeepCutAuto
namespace Go.Proofs.Ytggeojjiongbbaa
open Go.RowKit

/-- Both pairs of numbers, in memory. -/
def TwoPost (gi gq inc sq : Int) (w5 : World) (s8 s9 : Value) (wx : World) : Prop := ∃ g8 g9 : Nat, s8 = .pointer (some ⟨g8, 0, none⟩) ∧ s9 = .pointer (some ⟨g9, 0, none⟩) ∧ (wx.cell? ⟨g8, 0, none⟩ = some (.int .i64 gi) ∧ wx.cell? ⟨g8, 1, none⟩ = some (.int .i64 gq) ∧ wx.cell? ⟨g9, 0, none⟩ = some (.int .i64 inc) ∧ wx.cell? ⟨g9, 1, none⟩ = some (.int .i64 sq)) ∧ Below w5.heap.size w5 wx
theorem may_sizes {i q : Int} {l : List ByteArray} (h : mayB i q l = true) : l.length ≤ 20 ∧ ∀ d ∈ l, d.size ≤ 16 := by
  rcases Nat.eq_zero_or_pos l.length with h0 | h0
  · have : l = [] := List.eq_nil_of_length_eq_zero h0
    subst this
    exact ⟨by simp, fun d hd => by cases hd⟩
  · exact may_some h h0

set_option maxRecDepth 100000 in
set_option maxHeartbeats 4000000 in
theorem putP_any (A : Option Addr) (c : Nat) (g : Gt) (inc : Int) (p : Pc) (w : World) (hA : Strs w w.heap.size A g.l) (hl : g.l.length ≤ 1000000) (hcc : g.l.length ≤ c) (hz : ∀ d ∈ g.l, d.size ≤ maxLen) (hm : p.bytes.size ≤ maxLen) :
    Calls Try.prog 28 #[gv g.i g.q (.slice A g.l.length c), .int .i64 inc, pv p] w (GatRes (putG g inc p) (putE g inc p) w) := by
  obtain ⟨W1, h1⟩ : ∃ W1, w.alloc (.cells (gcl g.i g.q (.slice A g.l.length c)) 46) = W1 := ⟨_, rfl⟩
  obtain ⟨W2, h2⟩ : ∃ W2, W1.alloc (.cells (pcl p) 23) = W2 := ⟨_, rfl⟩
  obtain ⟨W3, h3⟩ : ∃ W3, W2.alloc (.cells (gcl 0 0 (.slice none 0 0)) 46) = W3 := ⟨_, rfl⟩
  obtain ⟨hSt, l1, l2, l3⟩ := St.start hA h1 h2 h3
  have LT := Lib.hid (And.intro l1 (And.intro l2 l3)); clear l1 l2 l3
  have HL := Lib.hid hl
  have HCC := Lib.hid hcc; clear hcc
  have HLM : Hid (g.l.length ≤ maxLen) := Lib.hid (by unfold maxLen; omega)
  clear hl
  have HA := Lib.hid hA; clear hA
  have cM := fun W h => may_any A c g.i g.q g.l W h HLM.out hz
  have cO := fun W h (hl : g.l.length ≤ 20 ∧ ∀ d ∈ g.l, d.size ≤ 16) => owned_any A c (W : World).heap.size g.l W h (Nat.le_refl _) (by omega) (fun d hd => by have := hl.2 d hd; omega)
  have cR := fun W => rightP_any p hm W
  have cS := fun W => upTo_any 65535 inc W
  have cT := fun W => textOf_any g.i g.q (.slice A g.l.length c) W
  have cN := fun W => newer_any g.i g.q inc p.seq W
  have cQ := fun W => neqT g.i g.q inc p.seq W
  have HSZ := Lib.hid (fun h => may_sizes (i := g.i) (q := g.q) (l := g.l) h)
  rw [upto_small] at cS
  have RNO := Lib.hid (fun h => putG_no (g := g) (inc := inc) (p := p) h)
  have ROLD := Lib.hid (fun h h2 => putG_old (g := g) (inc := inc) (p := p) h h2)
  have RNEW := Lib.hid (fun h h2 l hl => putG_new (g := g) (inc := inc) (p := p) (l := l) h h2 hl)
  have OK : Hid (okG g inc p = (mayB g.i g.q g.l && (rightP p && smallB inc))) := Lib.hid rfl
  have hPR := rightP_iff p
  have HST := Lib.hid hSt; clear hSt hz
  have HKB : Hid (keptB g inc p = (decide (g.i = inc) && (decide (g.q = p.seq) && decide ((g.l.length : Int) = p.of')))) := Lib.hid rfl
  generalize hPG : putG g inc p = PG at *
  generalize hPE : putE g inc p = PE at *
  generalize okG g inc p = ok at *
  generalize newerB g.i g.q inc p.seq = nw at *
  have CM := Lib.hid cM; clear cM
  have CO := Lib.hid cO; clear cO
  have CN := Lib.hid cN; clear cN
  have HPR := Lib.hid hPR; clear hPR
  generalize mayB g.i g.q g.l = bm at *
  generalize rightP p = br at *
  generalize smallB inc = bs at *
  obtain ⟨⟨x0, x1, x2⟩, _⟩ := HST.out.gat.cells
  obtain ⟨sq, at_, of_, d⟩ := p
  obtain ⟨gi, gq, l⟩ := g
  simp only [pv, pcl, gcl, gv] at *
  clear hPG hPE
  have LE2 : Hid (w.heap.size ≤ W2.heap.size) := Lib.hid (by have := LT.out; omega)
  go_enter Try.func28, Try.ntmps28
  go_wp2_with fail; refine (CM.out _ (HST.out.str.more (by have := LT.out; omega))).mono ?_; rintro e w4 ⟨rfl, b4⟩
  have HST4 := Lib.hid (HST.out.on b4)
  have LW4 := Lib.hid b4.size
  clear b4 x0 x1 x2 h1 h2 h3 CM
  obtain ⟨⟨x0, x1, x2⟩, _⟩ := HST4.out.gat.cells
  obtain ⟨⟨r0, r1, r2⟩, hfz⟩ := HST4.out.res.cells
  cases bm
  · skip
    go_wp2_with fail
    have hF := GatRes.of (RNO.out (by rw [OK.out]; rfl)) (A := A) (c := c) (w := w) (w' := put3 w4 W2.heap.size gi gq (.slice A l.length c)) HCC.out ((HST4.out.str.grown (put3_grown _ _ _ _ _) LE2.out HST4.out.bel.size).more (by have := HST4.out.bel.size; have := (put3_grown w4 W2.heap.size gi gq (.slice A l.length c)).size; omega)) (put3_below HST4.out.bel LE2.out _ _ _)
    have hC := (put3_blk HST4.out.res gi gq (.slice A l.length c)).cells.1
    unfold put3 at hF hC
    obtain ⟨s0, s1, s2⟩ := hC
    exact bodyPost_ret (v := .tuple #[gv gi gq (.slice A l.length c), .int .i64 1]) (by simp [results, Try.results28, go_sem, s0, s1, s2]) rfl hF
  · skip
    obtain ⟨m0, m1, m2, m3⟩ := HST4.out.pc.cells
    simp only at m0 m1 m2 m3
    cases br
    · skip
      go_wp2_with fail; refine (cR _).mono ?_; rintro e w5 ⟨rfl, b5⟩
      have HST5 := Lib.hid (HST4.out.on b5)
      clear b5 m0 m1 m2 m3 x0 x1 x2 r0 r1 r2 hfz
      obtain ⟨⟨x0, x1, x2⟩, _⟩ := HST5.out.gat.cells
      obtain ⟨⟨r0, r1, r2⟩, hfz⟩ := HST5.out.res.cells
      go_wp2_with fail
      have hF := GatRes.of (RNO.out (by rw [OK.out]; rfl)) (A := A) (c := c) (w := w) (w' := put3 w5 W2.heap.size gi gq (.slice A l.length c)) HCC.out ((HST5.out.str.grown (put3_grown _ _ _ _ _) LE2.out HST5.out.bel.size).more (by have := HST5.out.bel.size; have := (put3_grown w5 W2.heap.size gi gq (.slice A l.length c)).size; omega)) (put3_below HST5.out.bel LE2.out _ _ _)
      have hC := (put3_blk HST5.out.res gi gq (.slice A l.length c)).cells.1
      unfold put3 at hF hC
      obtain ⟨s0, s1, s2⟩ := hC
      exact bodyPost_ret (v := .tuple #[gv gi gq (.slice A l.length c), .int .i64 1]) (by simp [results, Try.results28, go_sem, s0, s1, s2]) rfl hF
    · skip
      have hpr := HPR.out.1 rfl
      obtain ⟨⟨p1, p2⟩, ⟨p3, p4⟩, ⟨p5, p6⟩, p7, p8⟩ := hpr
      obtain ⟨N, rfl⟩ : ∃ N : Nat, of_ = N := ⟨of_.toNat, by omega⟩
      obtain ⟨K, rfl⟩ : ∃ K : Nat, at_ = K := ⟨at_.toNat, by omega⟩
      have HKN : Hid (K < N) := Lib.hid (by omega)
      go_wp2_with fail; refine (cR _).mono ?_; rintro e w5 ⟨rfl, b5⟩
      have HST5 := Lib.hid (HST4.out.on b5)
      have LW5 := Lib.hid b5.size
      clear b5 m0 m1 m2 m3 x0 x1 x2 r0 r1 r2 hfz cR
      obtain ⟨⟨x0, x1, x2⟩, _⟩ := HST5.out.gat.cells
      go_wp2_with fail; refine (cS _).mono ?_; rintro e w6 ⟨rfl, rfl⟩
      clear cS
      cases bs
      · skip
        obtain ⟨⟨r0, r1, r2⟩, hfz⟩ := HST5.out.res.cells
        go_wp2_with fail
        have hF := GatRes.of (RNO.out (by rw [OK.out]; rfl)) (A := A) (c := c) (w := w) (w' := put3 w5 W2.heap.size gi gq (.slice A l.length c)) HCC.out ((HST5.out.str.grown (put3_grown _ _ _ _ _) LE2.out HST5.out.bel.size).more (by have := HST5.out.bel.size; have := (put3_grown w5 W2.heap.size gi gq (.slice A l.length c)).size; omega)) (put3_below HST5.out.bel LE2.out _ _ _)
        have hC := (put3_blk HST5.out.res gi gq (.slice A l.length c)).cells.1
        unfold put3 at hF hC
        obtain ⟨s0, s1, s2⟩ := hC
        exact bodyPost_ret (v := .tuple #[gv gi gq (.slice A l.length c), .int .i64 1]) (by simp [results, Try.results28, go_sem, s0, s1, s2]) rfl hF
      · skip
        have HOK : Hid (ok = true) := Lib.hid OK.out
        have HS := Lib.hid (HSZ.out (by trivial))
        clear OK RNO HSZ
        obtain ⟨m0, m1, m2, m3⟩ := HST5.out.pc.cells
        simp only at m0 m1 m2 m3
        have HST6 : Hid (St w w5.drew W1.heap.size W2.heap.size _ A c _) := Lib.hid HST5.out.drew
        go_upto_region 3 with (fail)
        go_cut [8, 9] (fun s8 s9 wx => TwoPost gi gq inc sq w5 s8 s9 wx)
        case first =>
          have HST7 : Hid (∀ w', Below w5.heap.size w5 w' → (w'.cell? ⟨w.heap.size, 0, none⟩ = some (.int .i64 gi) ∧ w'.cell? ⟨w.heap.size, 1, none⟩ = some (.int .i64 gq) ∧ w'.cell? ⟨w.heap.size, 2, none⟩ = some (.slice A l.length c) ∧ w'.cell? ⟨W1.heap.size, 0, none⟩ = some (.int .i64 sq) ∧ Below w5.heap.size w5 w')) := by
            apply Lib.hid
            intro w' hb
            obtain ⟨⟨a, b, c⟩, _⟩ := (HST5.out.on hb).gat.cells
            exact ⟨a, b, c, (HST5.out.on hb).pc.cells.1, hb⟩
          go_region_held3 (fun w' => w'.cell? ⟨w.heap.size, 0, none⟩ = some (.int .i64 gi) ∧ w'.cell? ⟨w.heap.size, 1, none⟩ = some (.int .i64 gq) ∧ w'.cell? ⟨w.heap.size, 2, none⟩ = some (.slice A l.length c) ∧ w'.cell? ⟨W1.heap.size, 0, none⟩ = some (.int .i64 sq) ∧ Below w5.heap.size w5 w') (first | assumption | (refine HST7.out _ ?_; (repeat' (first | assumption | exact Below.refl _ _ | refine Below.drew ?_ | refine Below.alloc ?_ ?_ _ | refine Below.setCell ?_ ?_ _)); (all_goals (first | omega | (simp; done) | (simp; omega))))) (first | (go_at_call 39; refine (cT ((w5.alloc (.cells #[.int .i64 0, .int .i64 0] 74)).alloc (.cells #[.int .i64 0, .int .i64 0] 74)).drew).mono ?_; rintro e w7 ⟨rfl, b7⟩; have HW7 : Below w5.heap.size w5 w7 := (((Below.refl w5.heap.size w5).alloc (Nat.le_refl _) _).alloc (by simp) _).drew.trans (b7.mono (by simp; omega)); have t00 : w7.cell? ⟨w5.heap.size, 0, none⟩ = some (.int .i64 0) := (b7.cell (p := ⟨w5.heap.size, 0, none⟩) (by first | (simp; done) | (simp; omega))).trans (by simp [go_sem]); have t01 : w7.cell? ⟨w5.heap.size, 1, none⟩ = some (.int .i64 0) := (b7.cell (p := ⟨w5.heap.size, 1, none⟩) (by first | (simp; done) | (simp; omega))).trans (by simp [go_sem]); have f0 : ∀ j, w7.frozen? ⟨w5.heap.size, j, none⟩ = false := fun j => (b7.frozen (p := ⟨w5.heap.size, j, none⟩) (by first | (simp; done) | (simp; omega))).trans (by simp [go_sem]); have t10 : w7.cell? ⟨w5.heap.size + 1, 0, none⟩ = some (.int .i64 0) := (b7.cell (p := ⟨w5.heap.size + 1, 0, none⟩) (by first | (simp; done) | (simp; omega))).trans (by simp [go_sem]); have t11 : w7.cell? ⟨w5.heap.size + 1, 1, none⟩ = some (.int .i64 0) := (b7.cell (p := ⟨w5.heap.size + 1, 1, none⟩) (by first | (simp; done) | (simp; omega))).trans (by simp [go_sem]); have f1 : ∀ j, w7.frozen? ⟨w5.heap.size + 1, j, none⟩ = false := fun j => (b7.frozen (p := ⟨w5.heap.size + 1, j, none⟩) (by first | (simp; done) | (simp; omega))).trans (by simp [go_sem]); have z7 : w5.heap.size + 2 ≤ w7.heap.size := (by have := b7.size; simp at this; omega); have l0 : w5.heap.size < w7.heap.size := (by omega); have n0 : ¬ w5.heap.size = w7.heap.size := (by omega); have k0 : ¬ w7.heap.size = w5.heap.size := (by omega); have l1 : w5.heap.size + 1 < w7.heap.size := (by omega); have n1 : ¬ w5.heap.size + 1 = w7.heap.size := (by omega); have k1 : ¬ w7.heap.size = w5.heap.size + 1 := (by omega)) | (go_at_call 39; refine (cT (w5.alloc (.cells #[.int .i64 0, .int .i64 0] 74)).drew).mono ?_; rintro e w7 ⟨rfl, b7⟩; have HW7 : Below w5.heap.size w5 w7 := ((Below.refl w5.heap.size w5).alloc (Nat.le_refl _) _).drew.trans (b7.mono (by simp)); have t00 : w7.cell? ⟨w5.heap.size, 0, none⟩ = some (.int .i64 0) := (b7.cell (p := ⟨w5.heap.size, 0, none⟩) (by first | (simp; done) | (simp; omega))).trans (by simp [go_sem]); have t01 : w7.cell? ⟨w5.heap.size, 1, none⟩ = some (.int .i64 0) := (b7.cell (p := ⟨w5.heap.size, 1, none⟩) (by first | (simp; done) | (simp; omega))).trans (by simp [go_sem]); have f0 : ∀ j, w7.frozen? ⟨w5.heap.size, j, none⟩ = false := fun j => (b7.frozen (p := ⟨w5.heap.size, j, none⟩) (by first | (simp; done) | (simp; omega))).trans (by simp [go_sem]); have z7 : w5.heap.size + 1 ≤ w7.heap.size := (by have := b7.size; simp at this; omega); have l0 : w5.heap.size < w7.heap.size := (by omega); have n0 : ¬ w5.heap.size = w7.heap.size := (by omega); have k0 : ¬ w7.heap.size = w5.heap.size := (by omega)) | (go_at_call 39; refine (cT w5.drew).mono ?_; rintro e w7 ⟨rfl, b7⟩; have HW7 : Below w5.heap.size w5 w7 := (Below.refl _ _).drew.trans (b7.mono (by simp)); have z7 : w5.heap.size + 0 ≤ w7.heap.size := (by have := b7.size; simp at this; omega)))
          all_goals
            have hr : ∀ (wx : World) (g8 g9 : Nat), (wx.cell? ⟨g8, 0, none⟩ = some (.int .i64 gi) ∧ wx.cell? ⟨g8, 1, none⟩ = some (.int .i64 gq) ∧ wx.cell? ⟨g9, 0, none⟩ = some (.int .i64 inc) ∧ wx.cell? ⟨g9, 1, none⟩ = some (.int .i64 sq)) ∧ Below w5.heap.size w5 wx → TwoPost gi gq inc sq w5 (.pointer (some ⟨g8, 0, none⟩)) (.pointer (some ⟨g9, 0, none⟩)) wx := fun wx g8 g9 h => ⟨g8, g9, rfl, rfl, h.1, h.2⟩
            have HR := Lib.hid hr; clear hr
            go_wp2_with fail
            go_meet
            refine HR.out _ _ _ ⟨⟨?_, ?_, ?_, ?_⟩, ?_⟩
            all_goals first | (simp [go_sem, *]; done) | ((repeat' (first | assumption | exact Below.refl _ _ | refine Below.drew ?_ | refine Below.alloc ?_ ?_ _ | refine Below.setCell ?_ ?_ _)); (all_goals (first | omega | (simp; done) | (simp; omega))))
        case rest =>
        obtain ⟨g8, g9, rfl, rfl, ⟨t0, t1, t2, t3⟩, hb7⟩ := hcut
        have HST7 := Lib.hid (HST5.out.on hb7)
        have HB7 := Lib.hid hb7
        have G8 := Lib.hid (World.block_lt_of_cell? wc _ t0)
        have G9 := Lib.hid (World.block_lt_of_cell? wc _ t2)
        have T8 := Lib.hid (And.intro t0 (And.intro t1 (And.intro t2 t3)))
        clear t0 t1 t2 t3 hb7 x0 x1 x2 m0 m1 m2 m3 HST6 cT
        obtain ⟨⟨x0, x1, x2⟩, _⟩ := HST7.out.gat.cells
        go_wp2_with fail; refine (CO.out _ (HST7.out.str.more (by have := HST7.out.bel.size; omega)) HS.out).mono ?_; rintro e w8 ⟨u, rfl, hown, hb8⟩
        obtain ⟨A5, c5, rfl, _, _⟩ := hown.row
        have HO8 := Lib.hid (OwnS.base (B' := W3.heap.size) hown (Nat.le_trans LW4.out (Nat.le_trans LW5.out HB7.out.size)))
        have HST8 := Lib.hid (HST7.out.on hb8)
        have HB8 := Lib.hid hb8
        have T9 : Hid _ := Lib.hid (And.intro ((hb8.cell (p := ⟨g8, 0, none⟩) G8.out).trans T8.out.1) (And.intro ((hb8.cell (p := ⟨g8, 1, none⟩) G8.out).trans T8.out.2.1) (And.intro ((hb8.cell (p := ⟨g9, 0, none⟩) G9.out).trans T8.out.2.2.1) ((hb8.cell (p := ⟨g9, 1, none⟩) G9.out).trans T8.out.2.2.2))))
        have G8' := Lib.hid (Nat.lt_of_lt_of_le G8.out hb8.size)
        have G9' := Lib.hid (Nat.lt_of_lt_of_le G9.out hb8.size)
        clear hown hb8 x0 x1 x2 CO
        obtain ⟨t0, t1, t2, t3⟩ := T9.out
        go_wp2_with fail; refine (CN.out _).mono ?_; rintro e w9 ⟨rfl, b9⟩
        have HST9 := Lib.hid (HST8.out.on b9)
        have HO9 := Lib.hid (HO8.out.on b9)
        have HSZ9 : Hid (w5.heap.size ≤ w9.heap.size) := Lib.hid (Nat.le_trans HB7.out.size (Nat.le_trans HB8.out.size b9.size))
        have T10 : Hid _ := Lib.hid (And.intro ((b9.cell (p := ⟨g8, 0, none⟩) G8'.out).trans t0) (And.intro ((b9.cell (p := ⟨g8, 1, none⟩) G8'.out).trans t1) (And.intro ((b9.cell (p := ⟨g9, 0, none⟩) G9'.out).trans t2) ((b9.cell (p := ⟨g9, 1, none⟩) G9'.out).trans t3))))
        clear b9 t0 t1 t2 t3 T8 T9 CN
        cases nw
        · skip
          have eg := fun x y a b c d w => eqT_guard .neq x y a b c d w
          clear ROLD
          obtain ⟨m0, m1, m2, m3⟩ := HST9.out.pc.cells
          simp only at m0 m1 m2 m3
          obtain ⟨t0, t1, t2, t3⟩ := T10.out
          have cTH := fun d W => there_any d W
          have cCL := fun W => clone_any d (by omega) W
          cases hs : sameT gi gq inc sq
          · skip
            rw [hs] at cQ
            have HABS : ¬ (gi = inc ∧ gq = sq) := by rintro ⟨rfl, rfl⟩; unfold sameT at hs; simp at hs
            clear hs
            have RN := Lib.hid (RNEW.out HOK.out rfl ((blank N).set K d) (by rw [kept_no (fun h => absurd (And.intro h.1 h.2.1) (by first | omega | exact HABS))]; exact blank_set N K HKN.out d))
            clear RNEW HPR
            have hmk := fun W => make_run N (by omega) W
            obtain ⟨W10, h10⟩ : ∃ W10, w9.alloc (.cells (madeCells #[.string ⟨#[]⟩] N) 9) = W10 := ⟨_, rfl⟩
            have b10 := Joins.below_alloc1 w9 (.cells (madeCells #[.string ⟨#[]⟩] N) 9)
            have ho10 := made_own w9 W3.heap.size N (by have := LW4.out; have := LW5.out; have := HSZ9.out; omega) (by omega)
            rw [h10] at b10 ho10
            have HST10 := Lib.hid (HST9.out.on b10)
            have HO10 := Lib.hid ho10
            clear b10 ho10
            obtain ⟨n0, n1, n2, n3⟩ := HST10.out.pc.cells
            simp only at n0 n1 n2 n3
            have hx := blank_at N K HKN.out
            have hf : fullB ⟨#[]⟩ = false := full_empty
            have hKN := HKN.out
            obtain ⟨cK, fK, -, -, hgl, setK⟩ := HO10.out.lit K _ hx
            have hx' := hx
            clear hgl setK hx
            go_wp2_with fail; refine (cTH _ _).mono ?_; rintro e w11 ⟨rfl, rfl⟩
            rw [hf]
            have HSTd : Hid (St w (World.drew W10) W1.heap.size W2.heap.size _ A c _) := Lib.hid HST10.out.drew
            have HOd : Hid (OwnS (World.drew W10) W3.heap.size _ _) := Lib.hid HO10.out
            have HX := Lib.hid hx'
            clear hx' hf
            go_wp2_with fail
            go_region_with ((refine (cCL _).mono ?_; rintro e w12 ⟨rfl, b12⟩; have HST12 := Lib.hid (HSTd.out.on b12); have HO12 := Lib.hid (HOd.out.on b12); have hpc := HST12.out.pc.cells; simp only at hpc; obtain ⟨p0, p1', p2', p3'⟩ := hpc; obtain ⟨cK2, fK2, -, -, -, -⟩ := HO12.out.lit K _ HX.out; clear b12))
            all_goals
              obtain ⟨-, -, -, -, hgl, setK⟩ := HO12.out.lit K _ HX.out
              have hg1 : ¬ W1.heap.size = w9.heap.size := by have := LT.out; omega
              have hg2 : ¬ W2.heap.size = w9.heap.size := by have := LT.out; omega
              have HST13 := Lib.hid (HST12.out.grown (setK d).2 (by have := LT.out; omega) hg1 hg2)
              have HO13 := Lib.hid (setK d).1
              clear setK hgl
              obtain ⟨n0', n1', n2', n3'⟩ := HST13.out.pc.cells
              have hlen : ((blank N).set K d).length = N := by rw [List.length_set]; exact blank_length N
              have HB := St.fin (A' := some ⟨w9.heap.size, 0, none⟩) (c' := N) (g' := ⟨inc, sq, (blank N).set K d⟩) HST13.out RN.out (by show OwnS _ _ (.slice _ ((blank N).set K d).length _) _; rw [hlen]; exact HO13.out) LE2.out
              simp only [hlen] at HB
              clear hlen
              obtain ⟨⟨r0, r1, r2⟩, hfz⟩ := HST12.out.res.cells
              have hC := (put3_blk HST13.out.res inc sq (.slice (some ⟨w9.heap.size, 0, none⟩) N N)).cells.1
              have HBB := Lib.hid HB; clear HB
              have HC := Lib.hid hC; clear hC
              clear n0' n1' n2' n3'
              go_wp2_with fail
              have hC := HC.out
              have hF := HBB.out
              unfold put3 at hF hC
              obtain ⟨s0, s1, s2⟩ := hC
              exact bodyPost_ret (v := .tuple #[gv inc sq (.slice (some ⟨w9.heap.size, 0, none⟩) N N), .int .i64 0]) (by simp [results, Try.results28, go_sem, s0, s1, s2]) rfl hF
          · skip
            rw [hs] at cQ
            have hsame : gi = inc ∧ gq = sq := by unfold sameT at hs; simpa using hs
            obtain ⟨hi, hq⟩ := hsame
            clear hs
            obtain rfl : inc = gi := hi.symm
            obtain rfl : sq = gq := hq.symm
            by_cases hN : l.length = N
            · skip
              subst hN
              obtain ⟨g4, c4', eS, _, _, _, _⟩ := HO9.out.one (by omega)
              injection eS with eS1 eS2 eS3
              subst eS1 eS3
              clear eS2
              obtain ⟨x, hx⟩ : ∃ x, l[K]? = some x := ⟨_, List.getElem?_eq_getElem HKN.out⟩
              cases hf : fullB x
              · skip
                have RN := Lib.hid (RNEW.out HOK.out rfl (l.set K d) (by rw [kept_yes ⟨rfl, rfl, rfl⟩]; exact putAt_set hx hf))
                clear RNEW HPR
                have hKN := HKN.out
                obtain ⟨cK, fK, -, -, hgl, setK⟩ := HO9.out.lit K _ hx
                have hx' := hx
                clear hgl setK hx
                go_wp2_with fail; refine (cTH _ _).mono ?_; rintro e w11 ⟨rfl, rfl⟩
                rw [hf]
                have HSTd : Hid (St w (World.drew w9) W1.heap.size W2.heap.size _ A c _) := Lib.hid HST9.out.drew
                have HOd : Hid (OwnS (World.drew w9) W3.heap.size _ _) := Lib.hid HO9.out
                have HX := Lib.hid hx'
                clear hx' hf
                go_wp2_with fail
                go_region_with ((refine (cCL _).mono ?_; rintro e w12 ⟨rfl, b12⟩; have HST12 := Lib.hid (HSTd.out.on b12); have HO12 := Lib.hid (HOd.out.on b12); have hpc := HST12.out.pc.cells; simp only at hpc; obtain ⟨p0, p1', p2', p3'⟩ := hpc; obtain ⟨cK2, fK2, -, -, -, -⟩ := HO12.out.lit K _ HX.out; clear b12))
                all_goals
                  obtain ⟨-, -, -, -, hgl, setK⟩ := HO12.out.lit K _ HX.out
                  have hg1 : ¬ W1.heap.size = g4 := by have := LT.out; omega
                  have hg2 : ¬ W2.heap.size = g4 := by have := LT.out; omega
                  have HST13 := Lib.hid (HST12.out.grown (setK d).2 (by have := LT.out; omega) hg1 hg2)
                  have HO13 := Lib.hid (setK d).1
                  clear setK hgl
                  obtain ⟨n0', n1', n2', n3'⟩ := HST13.out.pc.cells
                  have hlen : (l.set K d).length = l.length := by rw [List.length_set]
                  have HB := St.fin (A' := some ⟨g4, 0, none⟩) (c' := c5) (g' := ⟨inc, sq, l.set K d⟩) HST13.out RN.out (by show OwnS _ _ (.slice _ (l.set K d).length _) _; rw [hlen]; exact HO13.out) LE2.out
                  simp only [hlen] at HB
                  clear hlen
                  obtain ⟨⟨r0, r1, r2⟩, hfz⟩ := HST12.out.res.cells
                  have hC := (put3_blk HST13.out.res inc sq (.slice (some ⟨g4, 0, none⟩) l.length c5)).cells.1
                  have HBB := Lib.hid HB; clear HB
                  have HC := Lib.hid hC; clear hC
                  clear n0' n1' n2' n3'
                  go_wp2_with fail
                  have hC := HC.out
                  have hF := HBB.out
                  unfold put3 at hF hC
                  obtain ⟨s0, s1, s2⟩ := hC
                  exact bodyPost_ret (v := .tuple #[gv inc sq (.slice (some ⟨g4, 0, none⟩) l.length c5), .int .i64 0]) (by simp [results, Try.results28, go_sem, s0, s1, s2]) rfl hF
              · skip
                have RN := Lib.hid (RNEW.out HOK.out rfl l (by rw [kept_yes ⟨rfl, rfl, rfl⟩]; exact putAt_kept hx hf))
                clear RNEW HPR
                have hKN := HKN.out
                obtain ⟨cK, fK, -, -, -, -⟩ := HO9.out.lit K _ hx
                clear hx
                go_wp2_with fail; refine (cTH _ _).mono ?_; rintro e w11 ⟨rfl, rfl⟩
                rw [hf]
                clear hf
                obtain ⟨⟨r0, r1, r2⟩, hfz⟩ := HST9.out.res.cells
                go_wp2_with fail
                have hF := St.fin (A' := some ⟨g4, 0, none⟩) (c' := c5) (g' := ⟨inc, sq, l⟩) HST9.out RN.out HO9.out LE2.out
                have hC := (put3_blk HST9.out.res inc sq (.slice (some ⟨g4, 0, none⟩) l.length c5)).cells.1
                unfold put3 at hF hC
                obtain ⟨s0, s1, s2⟩ := hC
                exact bodyPost_ret (v := .tuple #[gv inc sq (.slice (some ⟨g4, 0, none⟩) l.length c5), .int .i64 0]) (by simp [results, Try.results28, go_sem, s0, s1, s2]) rfl hF
            · skip
              have HABS : ¬ (l.length : Int) = N := by omega
              have RN := Lib.hid (RNEW.out HOK.out rfl ((blank N).set K d) (by rw [kept_no (fun h => absurd (h.2.2 : (l.length : Int) = N) (by first | omega | exact HABS))]; exact blank_set N K HKN.out d))
              clear RNEW HPR
              have hmk := fun W => make_run N (by omega) W
              obtain ⟨W10, h10⟩ : ∃ W10, w9.alloc (.cells (madeCells #[.string ⟨#[]⟩] N) 9) = W10 := ⟨_, rfl⟩
              have b10 := Joins.below_alloc1 w9 (.cells (madeCells #[.string ⟨#[]⟩] N) 9)
              have ho10 := made_own w9 W3.heap.size N (by have := LW4.out; have := LW5.out; have := HSZ9.out; omega) (by omega)
              rw [h10] at b10 ho10
              have HST10 := Lib.hid (HST9.out.on b10)
              have HO10 := Lib.hid ho10
              clear b10 ho10
              obtain ⟨n0, n1, n2, n3⟩ := HST10.out.pc.cells
              simp only at n0 n1 n2 n3
              have hx := blank_at N K HKN.out
              have hf : fullB ⟨#[]⟩ = false := full_empty
              have hKN := HKN.out
              obtain ⟨cK, fK, -, -, hgl, setK⟩ := HO10.out.lit K _ hx
              have hx' := hx
              clear hgl setK hx
              go_wp2_with fail; refine (cTH _ _).mono ?_; rintro e w11 ⟨rfl, rfl⟩
              rw [hf]
              have HSTd : Hid (St w (World.drew W10) W1.heap.size W2.heap.size _ A c _) := Lib.hid HST10.out.drew
              have HOd : Hid (OwnS (World.drew W10) W3.heap.size _ _) := Lib.hid HO10.out
              have HX := Lib.hid hx'
              clear hx' hf
              go_wp2_with fail
              go_region_with ((refine (cCL _).mono ?_; rintro e w12 ⟨rfl, b12⟩; have HST12 := Lib.hid (HSTd.out.on b12); have HO12 := Lib.hid (HOd.out.on b12); have hpc := HST12.out.pc.cells; simp only at hpc; obtain ⟨p0, p1', p2', p3'⟩ := hpc; obtain ⟨cK2, fK2, -, -, -, -⟩ := HO12.out.lit K _ HX.out; clear b12))
              all_goals
                obtain ⟨-, -, -, -, hgl, setK⟩ := HO12.out.lit K _ HX.out
                have hg1 : ¬ W1.heap.size = w9.heap.size := by have := LT.out; omega
                have hg2 : ¬ W2.heap.size = w9.heap.size := by have := LT.out; omega
                have HST13 := Lib.hid (HST12.out.grown (setK d).2 (by have := LT.out; omega) hg1 hg2)
                have HO13 := Lib.hid (setK d).1
                clear setK hgl
                obtain ⟨n0', n1', n2', n3'⟩ := HST13.out.pc.cells
                have hlen : ((blank N).set K d).length = N := by rw [List.length_set]; exact blank_length N
                have HB := St.fin (A' := some ⟨w9.heap.size, 0, none⟩) (c' := N) (g' := ⟨inc, sq, (blank N).set K d⟩) HST13.out RN.out (by show OwnS _ _ (.slice _ ((blank N).set K d).length _) _; rw [hlen]; exact HO13.out) LE2.out
                simp only [hlen] at HB
                clear hlen
                obtain ⟨⟨r0, r1, r2⟩, hfz⟩ := HST12.out.res.cells
                have hC := (put3_blk HST13.out.res inc sq (.slice (some ⟨w9.heap.size, 0, none⟩) N N)).cells.1
                have HBB := Lib.hid HB; clear HB
                have HC := Lib.hid hC; clear hC
                clear n0' n1' n2' n3'
                go_wp2_with fail
                have hC := HC.out
                have hF := HBB.out
                unfold put3 at hF hC
                obtain ⟨s0, s1, s2⟩ := hC
                exact bodyPost_ret (v := .tuple #[gv inc sq (.slice (some ⟨w9.heap.size, 0, none⟩) N N), .int .i64 0]) (by simp [results, Try.results28, go_sem, s0, s1, s2]) rfl hF
        · skip
          have RO2 := Lib.hid (ROLD.out HOK.out rfl)
          obtain ⟨⟨x0, x1, x2⟩, _⟩ := HST9.out.gat.cells
          obtain ⟨⟨r0, r1, r2⟩, hfz⟩ := HST9.out.res.cells
          go_wp2_with fail
          have hF := St.fin (A' := A5) (c' := c5) (g' := ⟨gi, gq, l⟩) HST9.out RO2.out HO9.out LE2.out
          have hC := (put3_blk HST9.out.res gi gq (.slice (A5) l.length c5)).cells.1
          unfold put3 at hF hC
          obtain ⟨s0, s1, s2⟩ := hC
          exact bodyPost_ret (v := .tuple #[gv gi gq (.slice (A5) l.length c5), .int .i64 0]) (by simp [results, Try.results28, go_sem, s0, s1, s2]) rfl hF

end Go.Proofs.Ytggeojjiongbbaa

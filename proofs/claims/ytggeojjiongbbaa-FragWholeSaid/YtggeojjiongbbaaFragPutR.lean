/-
  A piece put to what was gathered: by the document.
-/
import Derived.Test.YtggeojjiongbbaaFragGat
import Derived.BigRegion
namespace Go.Proofs.Ytggeojjiongbbaa
open Go.RowKit

set_option maxRecDepth 100000 in
set_option maxHeartbeats 4000000 in
theorem refPut_any (A : Option Addr) (c : Nat) (g : Gt) (inc : Int) (p : Pc) (w : World) (hA : Strs w w.heap.size A g.l) (hl : g.l.length ≤ 1000000) (hm : p.bytes.size ≤ maxLen) :
    Calls Try.prog 29 #[gv g.i g.q (.slice A g.l.length c), .int .i64 inc, pv p] w (GatRes (putG g inc p) (putE g inc p) w) := by
  obtain ⟨W1, h1⟩ : ∃ W1, w.alloc (.cells (gcl g.i g.q (.slice A g.l.length c)) 46) = W1 := ⟨_, rfl⟩
  obtain ⟨W2, h2⟩ : ∃ W2, W1.alloc (.cells (pcl p) 23) = W2 := ⟨_, rfl⟩
  obtain ⟨W3, h3⟩ : ∃ W3, W2.alloc (.cells (gcl 0 0 (.slice none 0 0)) 46) = W3 := ⟨_, rfl⟩
  obtain ⟨hSt, l1, l2, l3⟩ := St.start hA h1 h2 h3
  have LT := Lib.hid (And.intro l1 (And.intro l2 l3)); clear l1 l2 l3
  have HL := Lib.hid hl
  have HLM : Hid (g.l.length ≤ maxLen) := Lib.hid (by unfold maxLen; omega)
  clear hl
  have HA := Lib.hid hA; clear hA
  have cO := fun W h => refOwn_any A c g.i g.q g.l W h HL.out
  have cM := fun W h => refMay_any A c g.i g.q g.l W h HLM.out
  have cR := fun W => refRightP_any p hm W
  have cS := fun W => refSmall5_any inc W
  have RNO := Lib.hid (fun h => putG_no (g := g) (inc := inc) (p := p) h)
  have ROLD := Lib.hid (fun h h2 => putG_old (g := g) (inc := inc) (p := p) h h2)
  have RNEW := Lib.hid (fun h h2 l hl => putG_new (g := g) (inc := inc) (p := p) (l := l) h h2 hl)
  have OK : Hid (okG g inc p = (mayB g.i g.q g.l && (rightP p && smallB inc))) := Lib.hid rfl
  have NEW : Hid (newerB g.i g.q inc p.seq = (decide (inc < g.i) || (decide (g.i = inc) && decide (p.seq < g.q)))) := Lib.hid rfl
  have hPR := rightP_iff p
  have HST := Lib.hid hSt; clear hSt
  generalize hPG : putG g inc p = PG at *
  generalize hPE : putE g inc p = PE at *
  generalize okG g inc p = ok at *
  generalize newerB g.i g.q inc p.seq = nw at *
  have CM := Lib.hid cM; clear cM
  have CO := Lib.hid cO; clear cO
  have HPR := Lib.hid hPR; clear hPR
  generalize mayB g.i g.q g.l = bm at *
  generalize rightP p = br at *
  generalize smallB inc = bs at *
  obtain ⟨⟨x0, x1, x2⟩, _⟩ := HST.out.gat.cells
  obtain ⟨sq, at_, of_, d⟩ := p
  obtain ⟨gi, gq, l⟩ := g
  simp only [pv, pcl, gcl, gv] at *
  clear hPG hPE
  go_enter Try.func29, Try.ntmps29
  go_wp2_with fail; refine (CO.out _ (HST.out.str.more (by have := LT.out; omega))).mono ?_; rintro e w4 ⟨u, rfl, hown, hb4⟩
  obtain ⟨A4, c4, rfl, _, _⟩ := hown.row
  obtain ⟨W5, h5⟩ : ∃ W5, w4.alloc (.cells (gcl gi gq (.slice A4 l.length c4)) 46) = W5 := ⟨_, rfl⟩
  have b5 := Joins.below_alloc1 w4 (.cells (gcl gi gq (.slice A4 l.length c4)) 46)
  have g5 := GatAt.new w4 gi gq (.slice A4 l.length c4)
  rw [h5] at b5 g5
  have HST5 := Lib.hid ((HST.out.on hb4).on b5)
  have HO5 := Lib.hid (hown.on b5)
  have HG5 := Lib.hid g5
  have LE2 : Hid (w.heap.size ≤ W2.heap.size) := Lib.hid (by have := LT.out; omega)
  have l5 := g5.lt
  have hs4 := hb4.size
  have LX : Hid (w.heap.size < w4.heap.size ∧ W1.heap.size ≠ w4.heap.size ∧ W2.heap.size ≠ w4.heap.size ∧ W3.heap.size ≤ w4.heap.size ∧ w4.heap.size < W5.heap.size) := Lib.hid (by have := LT.out; omega)
  simp only [gcl] at h5
  clear hown b5 g5 l5 hs4 hb4 x0 x1 x2
  obtain ⟨⟨x0, x1, x2⟩, _⟩ := HST5.out.gat.cells
  go_wp2_with fail; refine (CM.out _ (HST5.out.str.more (by have := LX.out; omega))).mono ?_; rintro e w6 ⟨rfl, b6⟩
  have HST6 := Lib.hid (HST5.out.on b6)
  have HO6 := Lib.hid (HO5.out.on b6)
  have HG6 := Lib.hid (HG5.out.on b6)
  have LW6 := Lib.hid b6.size
  clear b6 x0 x1 x2 h1 h2 h3 h5 CM CO
  obtain ⟨⟨x0, x1, x2⟩, _⟩ := HST6.out.gat.cells
  cases bm
  · skip
    obtain ⟨⟨o0, o1, o2⟩, _⟩ := HG6.out.cells
    obtain ⟨⟨r0, r1, r2⟩, hfz⟩ := HST6.out.res.cells
    go_wp2_with fail
    have hF := St.fin HST6.out (g' := ⟨gi, gq, l⟩) (RNO.out (by rw [OK.out]; rfl)) HO6.out LE2.out
    have hC := (put3_blk HST6.out.res gi gq (.slice A4 l.length c4)).cells.1
    unfold put3 at hF hC
    obtain ⟨s0, s1, s2⟩ := hC
    exact bodyPost_ret (v := .tuple #[gv gi gq (.slice A4 l.length c4), .int .i64 1]) (by simp [results, Try.results29, go_sem, s0, s1, s2]) rfl hF
  · skip
    obtain ⟨m0, m1, m2, m3⟩ := HST6.out.pc.cells
    cases br
    · skip
      go_wp2_with fail; refine (cR _).mono ?_; rintro e w7 ⟨rfl, b7⟩
      have HST7 := Lib.hid (HST6.out.on b7)
      have HO7 := Lib.hid (HO6.out.on b7)
      have HG7 := Lib.hid (HG6.out.on b7)
      clear b7 m0 m1 m2 m3
      obtain ⟨⟨o0, o1, o2⟩, _⟩ := HG7.out.cells
      obtain ⟨⟨r0, r1, r2⟩, hfz⟩ := HST7.out.res.cells
      go_wp2_with fail
      have hF := St.fin HST7.out (g' := ⟨gi, gq, l⟩) (RNO.out (by rw [OK.out]; rfl)) HO7.out LE2.out
      have hC := (put3_blk HST7.out.res gi gq (.slice A4 l.length c4)).cells.1
      unfold put3 at hF hC
      obtain ⟨s0, s1, s2⟩ := hC
      exact bodyPost_ret (v := .tuple #[gv gi gq (.slice A4 l.length c4), .int .i64 1]) (by simp [results, Try.results29, go_sem, s0, s1, s2]) rfl hF
    · skip
      have hpr := HPR.out.1 rfl
      obtain ⟨⟨p1, p2⟩, ⟨p3, p4⟩, ⟨p5, p6⟩, p7, p8⟩ := hpr
      obtain ⟨N, rfl⟩ : ∃ N : Nat, of_ = N := ⟨of_.toNat, by omega⟩
      obtain ⟨K, rfl⟩ : ∃ K : Nat, at_ = K := ⟨at_.toNat, by omega⟩
      have HKN : Hid (K < N) := Lib.hid (by omega)
      go_wp2_with fail; refine (cR _).mono ?_; rintro e w7 ⟨rfl, b7⟩
      have HST7 := Lib.hid (HST6.out.on b7)
      have HO7 := Lib.hid (HO6.out.on b7)
      have HG7 := Lib.hid (HG6.out.on b7)
      have LW7 := Lib.hid b7.size
      clear b7 m0 m1 m2 m3 cR
      go_wp2_with fail; refine (cS _).mono ?_; rintro e w8 ⟨rfl, rfl⟩
      clear cS
      cases bs
      · skip
        obtain ⟨⟨o0, o1, o2⟩, _⟩ := HG7.out.cells
        obtain ⟨⟨r0, r1, r2⟩, hfz⟩ := HST7.out.res.cells
        go_wp2_with fail
        have hF := St.fin HST7.out (g' := ⟨gi, gq, l⟩) (RNO.out (by rw [OK.out]; rfl)) HO7.out LE2.out
        have hC := (put3_blk HST7.out.res gi gq (.slice A4 l.length c4)).cells.1
        unfold put3 at hF hC
        obtain ⟨s0, s1, s2⟩ := hC
        exact bodyPost_ret (v := .tuple #[gv gi gq (.slice A4 l.length c4), .int .i64 1]) (by simp [results, Try.results29, go_sem, s0, s1, s2]) rfl hF
      · skip
        have hok : ok = true := OK.out
        clear x0 x1 x2
        obtain ⟨⟨x0, x1, x2⟩, _⟩ := HST7.out.gat.cells
        obtain ⟨m0, m1, m2, m3⟩ := HST7.out.pc.cells
        have HOK := Lib.hid hok; clear hok
        rcases Int.lt_trichotomy gi inc with hi | hi | hi
        · skip
          have hi1 : (gi == inc) = false := by simp; omega
          have hi2 : (gi != inc) = true := by simp; omega
          have RN := Lib.hid (RNEW.out HOK.out (by rw [NEW.out]; simp; omega) ((blank N).set K d) (by rw [kept_no (fun h => absurd (h.1 : gi = inc) (by omega))]; exact blank_set N K HKN.out d))
          clear RNEW RNO ROLD OK NEW HPR
          have HMK := Lib.hid (fun W => make_run N (by omega) W)
          have hmk := HMK.out
          obtain ⟨W8, h8⟩ : ∃ W8, w7.drew.alloc (.cells (madeCells #[.string ⟨#[]⟩] N) 9) = W8 := ⟨_, rfl⟩
          have b8 := (Joins.below_alloc1 w7.drew (.cells (madeCells #[.string ⟨#[]⟩] N) 9))
          have ho8 := made_own w7.drew W3.heap.size N (by show W3.heap.size ≤ w7.heap.size; have := LX.out; have := LW6.out; have := LW7.out; omega) (by omega)
          rw [h8] at b8 ho8
          have hst8 := HST7.out.drew.on b8
          have hg8 := GatAt.on (w := w7.drew) HG7.out b8
          obtain ⟨⟨y0, y1, y2⟩, _⟩ := hst8.gat.cells
          obtain ⟨n0, n1, n2, n3⟩ := hst8.pc.cells
          obtain ⟨⟨q0, q1, q2⟩, hfz8⟩ := hg8.cells
          have e8 : (w7.drew).heap.size = w7.heap.size := rfl
          rw [e8] at ho8
          have hne8 : w7.heap.size ≠ w4.heap.size := by have := LX.out; have := LW6.out; have := LW7.out; omega
          have gr9 := put3_grown W8 w4.heap.size inc sq (.slice (some ⟨w7.heap.size, 0, none⟩) N N)
          have HST9 := Lib.hid (hst8.grown gr9 LX.out.1 LX.out.2.1 LX.out.2.2.1)
          have HO9 := Lib.hid (ho8.grown gr9 (by show some _ ≠ some _; intro e; injection e with e; exact hne8 e))
          have HG9 := Lib.hid (put3_blk hg8 inc sq (.slice (some ⟨w7.heap.size, 0, none⟩) N N))
          clear b8 ho8 hst8 hg8 gr9 hne8 e8
          go_wp2_with fail
          go_region
          all_goals
            clear y0 y1 y2 n0 n1 n2 n3 q0 q1 q2 hfz8 x0 x1 x2 m0 m1 m2 m3 h8 hmk
            unfold put3 at HST9 HO9 HG9
            generalize ((W8.setCell ⟨w4.heap.size, 0, none⟩ (.int .i64 inc)).setCell ⟨w4.heap.size, 1, none⟩ (.int .i64 sq)).setCell ⟨w4.heap.size, 2, none⟩ (.slice (some ⟨w7.heap.size, 0, none⟩) N N) = W9 at *
            have hx := blank_at N K HKN.out
            obtain ⟨cK, fK, -, -, hgl, setK⟩ := HO9.out.lit K _ hx
            have HSK := Lib.hid (setK d)
            obtain ⟨⟨q0, q1, q2⟩, _⟩ := HG9.out.cells
            obtain ⟨m0, m1, m2, m3⟩ := HST9.out.pc.cells
            simp only at m0 m1 m2 m3
            have hgne : ¬ w7.heap.size = w4.heap.size := fun e => HO9.out.block HG9.out (by decide) (by show some _ = some _; rw [e])
            have hg1 : ¬ W1.heap.size = w7.heap.size := by have := LT.out; omega
            have hg2 : ¬ W2.heap.size = w7.heap.size := by have := LT.out; omega
            have HST10 := Lib.hid (HST9.out.grown HSK.out.2 (by have := LT.out; omega) hg1 hg2)
            have HG10 := Lib.hid (HG9.out.grown HSK.out.2 (by intro e; injection e with e; exact hgne e))
            have HO10 := Lib.hid HSK.out.1
            clear setK hgl HSK hx
            have hKN := HKN.out
            have hlen : ((blank N).set K d).length = N := by rw [List.length_set]; exact blank_length N
            have HB := St.fin (A' := some ⟨w7.heap.size, 0, none⟩) (c' := N) (g' := ⟨inc, sq, (blank N).set K d⟩) HST10.out RN.out (by show OwnS _ _ (.slice _ ((blank N).set K d).length _) _; rw [hlen]; exact HO10.out) LE2.out
            simp only [hlen] at HB
            clear hlen
            obtain ⟨⟨r0, r1, r2⟩, hfz⟩ := HST9.out.res.cells
            have hC := (put3_blk HST10.out.res inc sq (.slice (some ⟨w7.heap.size, 0, none⟩) N N)).cells.1
            have HBB := Lib.hid HB; clear HB
            have HC := Lib.hid hC; clear hC
            go_wp2_with fail
            have hC := HC.out
            have hF := HBB.out
            unfold put3 at hF hC
            obtain ⟨s0, s1, s2⟩ := hC
            exact bodyPost_ret (v := .tuple #[gv inc sq (.slice (some ⟨w7.heap.size, 0, none⟩) N N), .int .i64 0]) (by simp [results, Try.results29, go_sem, s0, s1, s2]) rfl hF
        · skip
          obtain rfl : inc = gi := hi.symm
          rcases Int.lt_trichotomy gq sq with hq | hq | hq
          · skip
            have hq1 : (gq == sq) = false := by simp; omega
            have hq2 : (gq != sq) = true := by simp; omega
            have RN := Lib.hid (RNEW.out HOK.out (by rw [NEW.out]; simp; omega) ((blank N).set K d) (by rw [kept_no (fun h => absurd (h.2.1 : gq = sq) (by omega))]; exact blank_set N K HKN.out d))
            clear RNEW RNO ROLD OK NEW HPR
            have HMK := Lib.hid (fun W => make_run N (by omega) W)
            have hmk := HMK.out
            obtain ⟨W8, h8⟩ : ∃ W8, w7.drew.alloc (.cells (madeCells #[.string ⟨#[]⟩] N) 9) = W8 := ⟨_, rfl⟩
            have b8 := (Joins.below_alloc1 w7.drew (.cells (madeCells #[.string ⟨#[]⟩] N) 9))
            have ho8 := made_own w7.drew W3.heap.size N (by show W3.heap.size ≤ w7.heap.size; have := LX.out; have := LW6.out; have := LW7.out; omega) (by omega)
            rw [h8] at b8 ho8
            have hst8 := HST7.out.drew.on b8
            have hg8 := GatAt.on (w := w7.drew) HG7.out b8
            obtain ⟨⟨y0, y1, y2⟩, _⟩ := hst8.gat.cells
            obtain ⟨n0, n1, n2, n3⟩ := hst8.pc.cells
            obtain ⟨⟨q0, q1, q2⟩, hfz8⟩ := hg8.cells
            have e8 : (w7.drew).heap.size = w7.heap.size := rfl
            rw [e8] at ho8
            have hne8 : w7.heap.size ≠ w4.heap.size := by have := LX.out; have := LW6.out; have := LW7.out; omega
            have gr9 := put3_grown W8 w4.heap.size inc sq (.slice (some ⟨w7.heap.size, 0, none⟩) N N)
            have HST9 := Lib.hid (hst8.grown gr9 LX.out.1 LX.out.2.1 LX.out.2.2.1)
            have HO9 := Lib.hid (ho8.grown gr9 (by show some _ ≠ some _; intro e; injection e with e; exact hne8 e))
            have HG9 := Lib.hid (put3_blk hg8 inc sq (.slice (some ⟨w7.heap.size, 0, none⟩) N N))
            clear b8 ho8 hst8 hg8 gr9 hne8 e8
            go_wp2_with fail
            go_region
            all_goals
              clear y0 y1 y2 n0 n1 n2 n3 q0 q1 q2 hfz8 x0 x1 x2 m0 m1 m2 m3 h8 hmk
              unfold put3 at HST9 HO9 HG9
              generalize ((W8.setCell ⟨w4.heap.size, 0, none⟩ (.int .i64 inc)).setCell ⟨w4.heap.size, 1, none⟩ (.int .i64 sq)).setCell ⟨w4.heap.size, 2, none⟩ (.slice (some ⟨w7.heap.size, 0, none⟩) N N) = W9 at *
              have hx := blank_at N K HKN.out
              obtain ⟨cK, fK, -, -, hgl, setK⟩ := HO9.out.lit K _ hx
              have HSK := Lib.hid (setK d)
              obtain ⟨⟨q0, q1, q2⟩, _⟩ := HG9.out.cells
              obtain ⟨m0, m1, m2, m3⟩ := HST9.out.pc.cells
              simp only at m0 m1 m2 m3
              have hgne : ¬ w7.heap.size = w4.heap.size := fun e => HO9.out.block HG9.out (by decide) (by show some _ = some _; rw [e])
              have hg1 : ¬ W1.heap.size = w7.heap.size := by have := LT.out; omega
              have hg2 : ¬ W2.heap.size = w7.heap.size := by have := LT.out; omega
              have HST10 := Lib.hid (HST9.out.grown HSK.out.2 (by have := LT.out; omega) hg1 hg2)
              have HG10 := Lib.hid (HG9.out.grown HSK.out.2 (by intro e; injection e with e; exact hgne e))
              have HO10 := Lib.hid HSK.out.1
              clear setK hgl HSK hx
              have hKN := HKN.out
              have hlen : ((blank N).set K d).length = N := by rw [List.length_set]; exact blank_length N
              have HB := St.fin (A' := some ⟨w7.heap.size, 0, none⟩) (c' := N) (g' := ⟨inc, sq, (blank N).set K d⟩) HST10.out RN.out (by show OwnS _ _ (.slice _ ((blank N).set K d).length _) _; rw [hlen]; exact HO10.out) LE2.out
              simp only [hlen] at HB
              clear hlen
              obtain ⟨⟨r0, r1, r2⟩, hfz⟩ := HST9.out.res.cells
              have hC := (put3_blk HST10.out.res inc sq (.slice (some ⟨w7.heap.size, 0, none⟩) N N)).cells.1
              have HBB := Lib.hid HB; clear HB
              have HC := Lib.hid hC; clear hC
              go_wp2_with fail
              have hC := HC.out
              have hF := HBB.out
              unfold put3 at hF hC
              obtain ⟨s0, s1, s2⟩ := hC
              exact bodyPost_ret (v := .tuple #[gv inc sq (.slice (some ⟨w7.heap.size, 0, none⟩) N N), .int .i64 0]) (by simp [results, Try.results29, go_sem, s0, s1, s2]) rfl hF
          · skip
            obtain rfl : sq = gq := hq.symm
            by_cases hN : l.length = N
            · skip
              subst hN
              obtain ⟨g4, c4', eS, _, _, _, _⟩ := HO7.out.one (by omega)
              injection eS with eS1 eS2 eS3
              subst eS1 eS3
              clear eS2
              obtain ⟨x, hx⟩ : ∃ x, l[K]? = some x := ⟨_, List.getElem?_eq_getElem HKN.out⟩
              have HX := Lib.hid hx
              have HST9 := HST7
              have HO9 := HO7
              have HG9 := HG7
              cases hf : fullB x
              · skip
                have RN := Lib.hid (RNEW.out HOK.out (by rw [NEW.out]; simp) (l.set K d) (by rw [kept_yes ⟨rfl, rfl, rfl⟩]; exact putAt_set hx hf))
                have ht1 : x.toList = [] := by unfold fullB at hf; simpa using hf
                clear hf RNEW RNO ROLD OK NEW HPR
                obtain ⟨cK, fK, -, -, hgl, setK⟩ := HO9.out.lit K _ hx
                have HSK := Lib.hid (setK d)
                obtain ⟨⟨q0, q1, q2⟩, _⟩ := HG9.out.cells
                obtain ⟨m0, m1, m2, m3⟩ := HST9.out.pc.cells
                simp only at m0 m1 m2 m3
                have hgne : ¬ g4 = w4.heap.size := fun e => HO9.out.block HG9.out (by decide) (by show some _ = some _; rw [e])
                have hg1 : ¬ W1.heap.size = g4 := by have := LT.out; omega
                have hg2 : ¬ W2.heap.size = g4 := by have := LT.out; omega
                have HST10 := Lib.hid (HST9.out.grown HSK.out.2 (by have := LT.out; omega) hg1 hg2)
                have HG10 := Lib.hid (HG9.out.grown HSK.out.2 (by intro e; injection e with e; exact hgne e))
                have HO10 := Lib.hid HSK.out.1
                clear setK hgl HSK hx
                have hKN := HKN.out
                have hlen : (l.set K d).length = l.length := by rw [List.length_set]
                have HB := St.fin (A' := some ⟨g4, 0, none⟩) (c' := c4) (g' := ⟨inc, sq, l.set K d⟩) HST10.out RN.out (by show OwnS _ _ (.slice _ (l.set K d).length _) _; rw [hlen]; exact HO10.out) LE2.out
                simp only [hlen] at HB
                clear hlen
                obtain ⟨⟨r0, r1, r2⟩, hfz⟩ := HST9.out.res.cells
                have hC := (put3_blk HST10.out.res inc sq (.slice (some ⟨g4, 0, none⟩) l.length c4)).cells.1
                have HBB := Lib.hid HB; clear HB
                have HC := Lib.hid hC; clear hC
                go_wp2_with fail
                have hC := HC.out
                have hF := HBB.out
                unfold put3 at hF hC
                obtain ⟨s0, s1, s2⟩ := hC
                exact bodyPost_ret (v := .tuple #[gv inc sq (.slice (some ⟨g4, 0, none⟩) l.length c4), .int .i64 0]) (by simp [results, Try.results29, go_sem, s0, s1, s2]) rfl hF
              · skip
                have RN := Lib.hid (RNEW.out HOK.out (by rw [NEW.out]; simp) l (by rw [kept_yes ⟨rfl, rfl, rfl⟩]; exact putAt_kept hx hf))
                have ht1 : (x.toList == []) = false := by
                  unfold fullB at hf
                  cases hd : x.toList with
                  | nil => rw [hd] at hf; cases hf
                  | cons y t => rfl
                have ht2 : x.toList.isEmpty = false := by unfold fullB at hf; simpa using hf
                clear hf RNEW RNO ROLD OK NEW HPR
                obtain ⟨cK, fK, -, -, hgl, -⟩ := HO7.out.lit K _ hx
                clear hgl hx
                have hKN := HKN.out
                obtain ⟨⟨o0, o1, o2⟩, _⟩ := HG7.out.cells
                obtain ⟨⟨r0, r1, r2⟩, hfz⟩ := HST7.out.res.cells
                go_wp2_with fail
                have hF := St.fin HST7.out (g' := ⟨inc, sq, l⟩) RN.out HO7.out LE2.out
                have hC := (put3_blk HST7.out.res inc sq (.slice (some ⟨g4, 0, none⟩) l.length c4)).cells.1
                unfold put3 at hF hC
                obtain ⟨s0, s1, s2⟩ := hC
                exact bodyPost_ret (v := .tuple #[gv inc sq (.slice (some ⟨g4, 0, none⟩) l.length c4), .int .i64 0]) (by simp [results, Try.results29, go_sem, s0, s1, s2]) rfl hF
            · skip
              have RN := Lib.hid (RNEW.out HOK.out (by rw [NEW.out]; simp) ((blank N).set K d) (by rw [kept_no (fun h => absurd (h.2.2 : (l.length : Int) = N) (by omega))]; exact blank_set N K HKN.out d))
              clear RNEW RNO ROLD OK NEW HPR
              have HMK := Lib.hid (fun W => make_run N (by omega) W)
              have hmk := HMK.out
              obtain ⟨W8, h8⟩ : ∃ W8, w7.drew.alloc (.cells (madeCells #[.string ⟨#[]⟩] N) 9) = W8 := ⟨_, rfl⟩
              have b8 := (Joins.below_alloc1 w7.drew (.cells (madeCells #[.string ⟨#[]⟩] N) 9))
              have ho8 := made_own w7.drew W3.heap.size N (by show W3.heap.size ≤ w7.heap.size; have := LX.out; have := LW6.out; have := LW7.out; omega) (by omega)
              rw [h8] at b8 ho8
              have hst8 := HST7.out.drew.on b8
              have hg8 := GatAt.on (w := w7.drew) HG7.out b8
              obtain ⟨⟨y0, y1, y2⟩, _⟩ := hst8.gat.cells
              obtain ⟨n0, n1, n2, n3⟩ := hst8.pc.cells
              obtain ⟨⟨q0, q1, q2⟩, hfz8⟩ := hg8.cells
              have e8 : (w7.drew).heap.size = w7.heap.size := rfl
              rw [e8] at ho8
              have hne8 : w7.heap.size ≠ w4.heap.size := by have := LX.out; have := LW6.out; have := LW7.out; omega
              have gr9 := put3_grown W8 w4.heap.size inc sq (.slice (some ⟨w7.heap.size, 0, none⟩) N N)
              have HST9 := Lib.hid (hst8.grown gr9 LX.out.1 LX.out.2.1 LX.out.2.2.1)
              have HO9 := Lib.hid (ho8.grown gr9 (by show some _ ≠ some _; intro e; injection e with e; exact hne8 e))
              have HG9 := Lib.hid (put3_blk hg8 inc sq (.slice (some ⟨w7.heap.size, 0, none⟩) N N))
              clear b8 ho8 hst8 hg8 gr9 hne8 e8
              go_wp2_with fail
              go_region
              all_goals
                clear y0 y1 y2 n0 n1 n2 n3 q0 q1 q2 hfz8 x0 x1 x2 m0 m1 m2 m3 h8 hmk
                unfold put3 at HST9 HO9 HG9
                generalize ((W8.setCell ⟨w4.heap.size, 0, none⟩ (.int .i64 inc)).setCell ⟨w4.heap.size, 1, none⟩ (.int .i64 sq)).setCell ⟨w4.heap.size, 2, none⟩ (.slice (some ⟨w7.heap.size, 0, none⟩) N N) = W9 at *
                have hx := blank_at N K HKN.out
                obtain ⟨cK, fK, -, -, hgl, setK⟩ := HO9.out.lit K _ hx
                have HSK := Lib.hid (setK d)
                obtain ⟨⟨q0, q1, q2⟩, _⟩ := HG9.out.cells
                obtain ⟨m0, m1, m2, m3⟩ := HST9.out.pc.cells
                simp only at m0 m1 m2 m3
                have hgne : ¬ w7.heap.size = w4.heap.size := fun e => HO9.out.block HG9.out (by decide) (by show some _ = some _; rw [e])
                have hg1 : ¬ W1.heap.size = w7.heap.size := by have := LT.out; omega
                have hg2 : ¬ W2.heap.size = w7.heap.size := by have := LT.out; omega
                have HST10 := Lib.hid (HST9.out.grown HSK.out.2 (by have := LT.out; omega) hg1 hg2)
                have HG10 := Lib.hid (HG9.out.grown HSK.out.2 (by intro e; injection e with e; exact hgne e))
                have HO10 := Lib.hid HSK.out.1
                clear setK hgl HSK hx
                have hKN := HKN.out
                have hlen : ((blank N).set K d).length = N := by rw [List.length_set]; exact blank_length N
                have HB := St.fin (A' := some ⟨w7.heap.size, 0, none⟩) (c' := N) (g' := ⟨inc, sq, (blank N).set K d⟩) HST10.out RN.out (by show OwnS _ _ (.slice _ ((blank N).set K d).length _) _; rw [hlen]; exact HO10.out) LE2.out
                simp only [hlen] at HB
                clear hlen
                obtain ⟨⟨r0, r1, r2⟩, hfz⟩ := HST9.out.res.cells
                have hC := (put3_blk HST10.out.res inc sq (.slice (some ⟨w7.heap.size, 0, none⟩) N N)).cells.1
                have HBB := Lib.hid HB; clear HB
                have HC := Lib.hid hC; clear hC
                go_wp2_with fail
                have hC := HC.out
                have hF := HBB.out
                unfold put3 at hF hC
                obtain ⟨s0, s1, s2⟩ := hC
                exact bodyPost_ret (v := .tuple #[gv inc sq (.slice (some ⟨w7.heap.size, 0, none⟩) N N), .int .i64 0]) (by simp [results, Try.results29, go_sem, s0, s1, s2]) rfl hF
          · skip
            have RO := ROLD.out HOK.out (by rw [NEW.out]; simp [hq])
            have RO2 := Lib.hid RO; clear RO
            obtain ⟨⟨o0, o1, o2⟩, _⟩ := HG7.out.cells
            obtain ⟨⟨r0, r1, r2⟩, hfz⟩ := HST7.out.res.cells
            go_wp2_with fail
            have hF := St.fin HST7.out (g' := ⟨inc, gq, l⟩) RO2.out HO7.out LE2.out
            have hC := (put3_blk HST7.out.res inc gq (.slice A4 l.length c4)).cells.1
            unfold put3 at hF hC
            obtain ⟨s0, s1, s2⟩ := hC
            exact bodyPost_ret (v := .tuple #[gv inc gq (.slice A4 l.length c4), .int .i64 0]) (by simp [results, Try.results29, go_sem, s0, s1, s2]) rfl hF
        · skip
          have RO := ROLD.out HOK.out (by rw [NEW.out]; simp [hi])
          have RO2 := Lib.hid RO; clear RO
          obtain ⟨⟨o0, o1, o2⟩, _⟩ := HG7.out.cells
          obtain ⟨⟨r0, r1, r2⟩, hfz⟩ := HST7.out.res.cells
          go_wp2_with fail
          have hF := St.fin HST7.out (g' := ⟨gi, gq, l⟩) RO2.out HO7.out LE2.out
          have hC := (put3_blk HST7.out.res gi gq (.slice A4 l.length c4)).cells.1
          unfold put3 at hF hC
          obtain ⟨s0, s1, s2⟩ := hC
          exact bodyPost_ret (v := .tuple #[gv gi gq (.slice A4 l.length c4), .int .i64 0]) (by simp [results, Try.results29, go_sem, s0, s1, s2]) rfl hF

end Go.Proofs.Ytggeojjiongbbaa

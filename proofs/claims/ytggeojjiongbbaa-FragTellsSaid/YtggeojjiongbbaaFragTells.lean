/-
  The walk of the law FragTells.
-/
import Derived.Test.YtggeojjiongbbaaFragBack
import Derived.Test.YtggeojjiongbbaaFragFrame
import Derived.Test.YtggeojjiongbbaaOnce
namespace Go.Proofs.Ytggeojjiongbbaa
open Go.RowKit

def twoS (a b : ByteArray) : Nat → ByteArray
  | 0 => a
  | _ => b
def twoI (a b : Int) : Nat → Int
  | 0 => a
  | _ => b
def twoP (a b : Pc) : Nat → Pc
  | 0 => a
  | _ => b
def fiveS (a b c d e : ByteArray) : Nat → ByteArray
  | 0 => a
  | 1 => b
  | 2 => c
  | 3 => d
  | _ => e
theorem twoS_size (a b : ByteArray) (n j : Nat) (h1 : a.size ≤ n) (h2 : b.size ≤ n) : (twoS a b j).size ≤ n := by
  unfold twoS; split <;> assumption
theorem twoP_size (a b : Pc) (n j : Nat) (h1 : a.bytes.size ≤ n) (h2 : b.bytes.size ≤ n) : (twoP a b j).bytes.size ≤ n := by
  unfold twoP; split <;> assumption
theorem fiveS_size (a b c d e : ByteArray) (n j : Nat) (h1 : a.size ≤ n) (h2 : b.size ≤ n) (h3 : c.size ≤ n) (h4 : d.size ≤ n) (h5 : e.size ≤ n) : (fiveS a b c d e j).size ≤ n := by
  unfold fiveS; split <;> assumption

theorem splitR_len (q : Int) (y : ByteArray) (k : Int) (hy : y.size ≤ 100) : (splitR q y k).length ≤ 100 := by
  unfold splitR
  split
  · rename_i h
    have := (splitB_iff _ _ _).1 h
    rw [splitL_length]
    have := countP_le y.size k.toNat (by omega) (by omega)
    omega
  · simp
/-- Split, by the program and by the document: the same. -/
theorem split_both (q : Int) (y : ByteArray) (k : Int) (hy : y.size ≤ 100) : ∃ (L : List Pc) (E : Int), L.length ≤ 100
    ∧ (∀ W, Calls Try.prog 12 #[.int .i64 q, .string y, .int .i64 k] W fun e w' => ∃ A c, e = .returned (.tuple #[.slice A L.length c, .int .i64 E]) ∧ Pcs w' w'.heap.size A L ∧ Below W.heap.size W w')
    ∧ (∀ W, Calls Try.prog 13 #[.int .i64 q, .string y, .int .i64 k] W fun e w' => ∃ A c, e = .returned (.tuple #[.slice A L.length c, .int .i64 E]) ∧ Pcs w' w'.heap.size A L ∧ Below W.heap.size W w')
    ∧ (∀ A A' c c' W, Pcs W W.heap.size A L → Pcs W W.heap.size A' L → Calls Try.prog 14 #[.slice A L.length c, .slice A' L.length c'] W fun e w' => e = .returned (.bool true) ∧ Below W.heap.size W w') := by
  refine ⟨splitR q y k, splitE q y k, splitR_len q y k hy, fun W => splitP_any q y k (by unfold maxLen; omega) W, fun W => refSplit_any q y k (by unfold maxLen; omega) W, fun A A' c c' W h h' => ?_⟩
  have h1 := refPieces_any A A' c c' _ _ _ _ W h h' (by have := splitR_len q y k hy; unfold maxLen; omega)
  rw [(samePL_iff _ _).2 rfl] at h1
  refine h1.mono ?_
  rintro e w' ⟨rfl, n, rfl⟩
  exact ⟨rfl, drew_on (Below.refl _ _) _⟩
/-- Encode and Right, by both: the same. -/
theorem enc_both (p : Pc) (hp : p.bytes.size ≤ 100) : ∃ (S : ByteArray) (E : Int) (R : Bool),
    (∀ W, Calls Try.prog 16 #[pv p] W fun e w' => e = .returned (.tuple #[.string S, .int .i64 E]) ∧ Below W.heap.size W w')
    ∧ (∀ W, Calls Try.prog 17 #[pv p] W fun e w' => e = .returned (.tuple #[.string S, .int .i64 E]) ∧ Below W.heap.size W w')
    ∧ (∀ W, Calls Try.prog 18 #[pv p] W fun e w' => e = .returned (.bool R) ∧ Below W.heap.size W w')
    ∧ (∀ W, Calls Try.prog 19 #[pv p] W fun e w' => e = .returned (.bool R) ∧ Below W.heap.size W w') :=
  ⟨encP p, encPE p, rightP p, fun W => encP_any p (by unfold maxLen; omega) W, fun W => refEncP_any p (by unfold maxLen; omega) W, fun W => rightP_any p (by unfold maxLen; omega) W, fun W => refRightP_any p (by unfold maxLen; omega) W⟩
/-- Decode, by both: the same. -/
theorem dec_both (y : ByteArray) (hy : y.size ≤ 1000) : ∃ (M : Pc) (R : ByteArray) (E : Int),
    (∀ W, Calls Try.prog 20 #[.string y] W fun e w' => e = .returned (.tuple #[pv M, .string R, .int .i64 E]) ∧ Below W.heap.size W w')
    ∧ (∀ W, Calls Try.prog 21 #[.string y] W fun e w' => e = .returned (.tuple #[pv M, .string R, .int .i64 E]) ∧ Below W.heap.size W w') :=
  ⟨decR y.data.toList, decRest y.data.toList, decE y.data.toList, fun W => decP_any y (by omega) W, fun W => refDec_any y (by unfold maxLen; omega) W⟩
/-- A raw piece, and what it is encoded to by the document. -/
theorem raw_both (r : Raw) (hr : WfR r) : ∃ (i : Int) (Q : Pc) (t : ByteArray), Q.bytes.size ≤ 16 ∧ 6 ≤ t.size ∧ t.size ≤ 21
    ∧ (∀ W, Calls Try.prog 15 #[rv r] W fun e w' => e = .returned (.tuple #[.int .i64 i, pv Q]) ∧ Below W.heap.size W w')
    ∧ (∀ W, Calls Try.prog 17 #[pv Q] W fun e w' => e = .returned (.tuple #[.string t, .int .i64 0]) ∧ Below W.heap.size W w') := by
  have hr2 := raw_right r
  have hb := ((rightP_iff _).1 hr2).2.2.2
  have he := encP_list hr2
  have hl : (encP (rawP r)).size = 5 + (rawP r).bytes.size := by
    rw [Lib.size_eq, he]
    unfold encL
    rw [List.length_append, ← Lib.size_eq]
    simp only [List.length_cons, List.length_nil]
  have h0 : encPE (rawP r) = 0 := by unfold encPE; rw [hr2]; rfl
  refine ⟨rawI r, rawP r, encP (rawP r), by omega, by omega, by omega, fun W => piece_any r hr W, fun W => ?_⟩
  have c := refEncP_any (rawP r) (by unfold maxLen; omega) W
  rw [h0] at c
  exact c

def FAtT (w : World) (b : Nat) (r : Raw) : Prop := w.heap[b]? = some (.cells #[.int .i64 r.a, .int .i64 r.b, .int .i64 r.c, .int .i64 r.d] 24 (0, 0))
theorem FAtT.new (w : World) (r : Raw) : FAtT (w.alloc (.cells #[.int .i64 r.a, .int .i64 r.b, .int .i64 r.c, .int .i64 r.d] 24)) w.heap.size r := heap_alloc_new w _
theorem FAtT.on {w w' : World} {g : Nat} {r : Raw} (h : FAtT w g r) (hb : Below w.heap.size w w') : FAtT w' g r := (hb.block g (Array.getElem?_eq_some_iff.1 h).1).trans h
theorem FAtT.cells {w : World} {g : Nat} {r : Raw} (h : FAtT w g r) : w.cell? ⟨g, 0, none⟩ = some (.int .i64 r.a) ∧ w.cell? ⟨g, 1, none⟩ = some (.int .i64 r.b) ∧ w.cell? ⟨g, 2, none⟩ = some (.int .i64 r.c) ∧ w.cell? ⟨g, 3, none⟩ = some (.int .i64 r.d) :=
  ⟨(cell_of h 0).trans rfl, (cell_of h 1).trans rfl, (cell_of h 2).trans rfl, (cell_of h 3).trans rfl⟩

theorem oneU_at (w : World) (g : Nat) (a : Int) (hc : w.cell? ⟨g, 0, none⟩ = some (.int .u8 a)) : (convert 40 9 (.slice (some ⟨g, 0, none⟩) 1 1)).run Try.prog w = .ok (.string (txt [UInt8.ofNat a.toNat])) w := by
  refine run_convert_bytes_arg (P := Try.prog) _ 40 5 Try.underlying40 Try.underlying5 g 0 1 1 [a] rfl ?_ 9 Try.underlying9
  intro i hi
  have : i = 0 := by omega
  subst this
  simpa using hc

set_option maxRecDepth 100000 in
set_option maxHeartbeats 16000000 in
theorem fragTells_walk (p : Pc) (s : ByteArray) (seq size : Int) (r : Raw) (at_ by_ : Int) (_wp : WfP p) (hs : s.size ≤ 140737488351232) (_h1 : (Lit.int .i64 seq).wf = true) (h2 : (Lit.int .i64 size).wf = true) (wr : WfR r) (h3 : (Lit.int .i64 at_).wf = true) (h4 : (Lit.int .i64 by_).wf = true) (w : World) :
    Calls Try.prog 3 #[pv p, .string s, .int .i64 seq, .int .i64 size, rv r, .int .i64 at_, .int .i64 by_] w fun e w' => e = .returned (.bool true) ∧ Below w.heap.size w w' := by
  obtain ⟨W1, e1⟩ : ∃ W1, w.alloc (.cells (pcl p) 23) = W1 := ⟨_, rfl⟩
  obtain ⟨W2, e2⟩ : ∃ W2, W1.alloc (.cells #[.int .i64 r.a, .int .i64 r.b, .int .i64 r.c, .int .i64 r.d] 24) = W2 := ⟨_, rfl⟩
  have b1 := Joins.below_alloc1 w (.cells (pcl p) 23)
  have b2 := Joins.below_alloc1 W1 (.cells #[.int .i64 r.a, .int .i64 r.b, .int .i64 r.c, .int .i64 r.d] 24)
  have f1 := PcAt.new w p
  have f2 := FAtT.new W1 r
  rw [e1] at b1 f1
  rw [e2] at b2 f2
  have P1 := Lib.hid (f1.on b2)
  have F2 := Lib.hid f2
  have HB2 := Lib.hid (b1.trans (b2.mono b1.size))
  have hs1 : W1.heap.size = w.heap.size + 1 := by rw [← e1]; simp
  rw [hs1] at F2
  have H1 := Lib.hid e1
  have H2 := Lib.hid e2
  clear b1 b2 f1 f2 e1 e2 hs1
  have hsp := cut100_size s
  have HS := Lib.hid hs; clear hs
  have HRB := Lib.hid (raw_both r wr); clear wr
  have ENB := Lib.hid (fun (hp : p.bytes.size ≤ 100) => enc_both p hp)
  obtain ⟨ra, rb, rc, rd⟩ := r
  obtain ⟨ps, pa, po, pb⟩ := p
  simp only [pv, rv, pcl] at *
  go_enter Try.func3, Try.ntmps3
  go_wp2_with fail
  rw [H1.out, H2.out]
  clear H1 H2
  refine (awake_any _).mono ?_; rintro e w3 ⟨rfl, b3⟩
  have HB3 := Lib.hid (HB2.out.trans (b3.mono HB2.out.size))
  have F3 := Lib.hid (F2.out.on b3)
  have P3 := Lib.hid (P1.out.on b3)
  clear b3 HB2 F2 P1
  obtain ⟨x0, x1, x2, x3⟩ := P3.out.cells
  simp only at x0 x1 x2 x3
  by_cases hp : 100 < pb.size
  · have hp' : 100 < (pb.size : Int) := by omega
    clear ENB HRB
    go_wp2_with fail
    go_ret
    exact ⟨rfl, HB3.out⟩
  have hp' : ¬ 100 < (pb.size : Int) := by omega
  go_upto_region 4 with (fail)
  go_cut [16] (fun v wx => v = .string (cut100 s) ∧ w3 = wx)
  case first =>
    have HE := Lib.hid (cut100_min s)
    have hs := HS.out
    go_wp2_with fail
    go_meet
    exact ⟨by rw [HE.out], rfl⟩
  case rest =>
  obtain ⟨rfl, rfl⟩ := hcut
  clear HS
  generalize cut100 s = x at *
  have ct := fun W => text_any x (by unfold maxLen; omega) W
  have hty := textT_size x
  generalize textT x = y at *
  have HSZ := Lib.hid (fun j => twoS_size x y 100 j (by omega) (by omega))
  have cpk := fun W => pick_any size 17 h2 (by omega) W
  have hpk := pickI_range size 17 (by omega)
  generalize pickI size 17 = z at *
  have CPK := Lib.hid cpk
  have HXS := Lib.hid hsp
  clear cpk hty hsp x0 x1 x2 x3 hp'
  go_wp2_with fail; refine (ct _).mono ?_; rintro e w4 ⟨rfl, rfl⟩
  clear ct
  go_upto_region 6 with (fail)
  have n4 := Joins.below_alloc1 w3 (.cells #[.string x, .string y] 9)
  have hg : (w3.alloc (.cells #[.string x, .string y] 9)).heap[w3.heap.size]? = some (.cells #[.string x, .string y] 9 (0, 0)) := heap_alloc_new w3 _
  have hcells : ∀ j, j < 2 → (w3.alloc (.cells #[.string x, .string y] 9)).cell? ⟨w3.heap.size, j, none⟩ = some (.string (twoS x y j)) := by
    intro j hj
    rcases (show j = 0 ∨ j = 1 by omega) with rfl | rfl
    · exact (cell_of hg 0).trans rfl
    · exact (cell_of hg 1).trans rfl
  have hsz : w3.heap.size < (w3.alloc (.cells #[.string x, .string y] 9)).heap.size := by simp
  have hb4 := HB3.out.trans (n4.mono HB3.out.size)
  have F4 := Lib.hid (F3.out.on n4)
  have P4 := Lib.hid (P3.out.on n4)
  clear F3 P3 n4 hg HB3
  generalize w3.alloc (.cells #[.string x, .string y] 9) = W4 at *
  generalize w3.heap.size = H4 at *
  have HC := Lib.hid hcells
  have HZ := Lib.hid hsz
  have HB4 := Lib.hid hb4
  clear hcells hsz hb4
  go_wp2_with fail
  go_loopw [60] (fun v wr => ∃ i : Nat, i ≤ 2 ∧ v = .int .i64 i ∧ Below W4.heap.size W4 wr) (fun v _ => 2 - (intOf v).toNat)
  case atStart => exact ⟨0, by omega, rfl, Below.refl _ _⟩
  case round =>
  obtain ⟨i, hi, rfl, hbl⟩ := hrel
  have HBL := Lib.hid hbl; clear hbl
  by_cases hlt : i < 2
  · clear ENB HRB P4 F4
    have hvs := HSZ.out i
    have hc := (HBL.out.cell (p := ⟨H4, i, none⟩) HZ.out).trans (HC.out i hlt)
    generalize twoS x y i = v at *
    have hi2 : (i : Int) < 2 := by omega
    have hw : IntKind.i64.wrap ((i : Int) + 1) = (i : Int) + 1 := IntWalk.i64_in _ (by omega)
    have hw17 : IntKind.i64.wrap (1 + z) = 1 + z := IntWalk.i64_in _ (by omega)
    have cpk := CPK.out
    go_wp2_with fail; refine (cpk _).mono ?_; rintro e w5 ⟨rfl, rfl⟩
    clear cpk hc
    go_upto_region 9 with (fail)
    have n5 := Joins.below_alloc1 wr (.cells #[.int .i64 size, .int .i64 (1 + z)] 3)
    have hg : (wr.alloc (.cells #[.int .i64 size, .int .i64 (1 + z)] 3)).heap[wr.heap.size]? = some (.cells #[.int .i64 size, .int .i64 (1 + z)] 3 (0, 0)) := heap_alloc_new wr _
    have hcells : ∀ j, j < 2 → (wr.alloc (.cells #[.int .i64 size, .int .i64 (1 + z)] 3)).cell? ⟨wr.heap.size, j, none⟩ = some (.int .i64 (twoI size (1 + z) j)) := by
      intro j hj
      rcases (show j = 0 ∨ j = 1 by omega) with rfl | rfl
      · exact (cell_of hg 0).trans rfl
      · exact (cell_of hg 1).trans rfl
    have hsz : wr.heap.size < (wr.alloc (.cells #[.int .i64 size, .int .i64 (1 + z)] 3)).heap.size := by simp
    have hb5 := HBL.out.trans (n5.mono HBL.out.size)
    clear n5 hg
    generalize wr.alloc (.cells #[.int .i64 size, .int .i64 (1 + z)] 3) = W5 at *
    generalize wr.heap.size = H5 at *
    have HC5 := Lib.hid hcells
    have HZ5 := Lib.hid hsz
    have HB5 := Lib.hid hb5
    clear hcells hsz hb5 hw17
    go_wp2_with fail
    go_loopw [70] (fun v wq => ∃ j : Nat, j ≤ 2 ∧ v = .int .i64 j ∧ Below W5.heap.size W5 wq) (fun v _ => 2 - (intOf v).toNat)
    case atStart => exact ⟨0, by omega, rfl, Below.refl _ _⟩
    case round =>
      obtain ⟨j, hj, rfl, hbm⟩ := hrel
      have HBM := Lib.hid hbm; clear hbm
      by_cases hltj : j < 2
      · have hcj := (HBM.out.cell (p := ⟨H5, j, none⟩) HZ5.out).trans (HC5.out j hltj)
        generalize twoI size (1 + z) j = K at *
        obtain ⟨L, E, hL, c1, c2, c3⟩ := split_both seq v K hvs
        have hj2 : (j : Int) < 2 := by omega
        have hwj : IntKind.i64.wrap ((j : Int) + 1) = (j : Int) + 1 := IntWalk.i64_in _ (by omega)
        have C2 := Lib.hid c2; clear c2
        have C3 := Lib.hid c3; clear c3
        go_wp2_with fail; refine (c1 _).mono ?_; rintro e w6 ⟨A1, k1, rfl, hp1, b6⟩
        have HB6 := Lib.hid (HBM.out.trans (b6.mono HBM.out.size)); clear b6 c1 hcj
        have HP1 := Lib.hid hp1; clear hp1
        go_wp2_with fail; refine (C2.out _).mono ?_; rintro e w7 ⟨A2, k2, rfl, hp2, b7⟩
        have HB7 := Lib.hid (HB6.out.trans (b7.mono HB6.out.size))
        have HP3 := Lib.hid ((HP1.out.below b7 (Nat.le_refl _)).more b7.size)
        have HP2 := Lib.hid hp2
        clear b7 HP1 hp2 HB6
        go_wp2_with fail; refine (C3.out _ _ _ _ _ HP3.out HP2.out).mono ?_; rintro e w8 ⟨rfl, b8⟩
        have HB8 := Lib.hid (HB7.out.trans (b8.mono HB7.out.size)); clear b8 HB7 HP3 HP2
        go_wp2_with fail
        go_roundw
        case rel => exact ⟨j + 1, by omega, by go_num, HB8.out⟩
        case measure => simp [intOf]; omega
      · have hj2 : ¬ (j : Int) < 2 := by omega
        go_wp2_with fail
        go_roundw
        case rel => exact ⟨i + 1, by omega, by go_num, HB5.out.trans (HBM.out.mono HB5.out.size)⟩
        case measure => simp [intOf]; omega
  have ei : i = 2 := by omega
  subst ei
  clear hlt hi HC HZ HSZ CPK
  obtain ⟨RI, Q, t, hQ, ht1, ht2, cR, cE⟩ := HRB.out
  obtain ⟨qs, qa, qo, qb⟩ := Q
  simp only at cR cE hQ
  have CE := Lib.hid cE; clear cE
  have hb0 := HB4.out.trans (HBL.out.mono HB4.out.size)
  have HB := Lib.hid hb0; clear hb0
  have F5 := Lib.hid (F4.out.on HBL.out)
  have P5 := Lib.hid (P4.out.on HBL.out)
  clear HRB F4 P4 HBL HB4
  obtain ⟨a0, a1, a2, a3⟩ := F5.out.cells
  simp only at a0 a1 a2 a3
  go_wp2_with fail; refine (cR _).mono ?_; rintro e w5 ⟨rfl, b5⟩
  have HB5 := Lib.hid (HB.out.trans (b5.mono HB.out.size))
  have P6 := Lib.hid (P5.out.on b5)
  clear b5 HB F5 P5 a0 a1 a2 a3 cR
  go_upto_region 18 with (fail)
  have n5 := Joins.below_alloc1 w5 (.cells #[.int .i64 qs, .int .i64 qa, .int .i64 qo, .string qb] 23)
  have q26 := PcAt.new w5 ⟨qs, qa, qo, qb⟩
  have hb5 := HB5.out.trans (n5.mono HB5.out.size)
  have p6 := P6.out.on n5
  clear HB5 P6 n5
  simp only [pcl] at q26
  generalize w5.alloc (.cells #[.int .i64 qs, .int .i64 qa, .int .i64 qo, .string qb] 23) = W6 at *
  generalize w5.heap.size = g26 at *
  have HB6 := Lib.hid hb5
  have P6 := Lib.hid p6
  have Q6 := Lib.hid q26
  clear hb5 p6 q26
  obtain ⟨x0, x1, x2, x3⟩ := P6.out.cells
  obtain ⟨y0, y1, y2, y3⟩ := Q6.out.cells
  simp only at x0 x1 x2 x3 y0 y1 y2 y3
  go_upto_region 19 with (fail)
  clear x0 x1 x2 x3 y0 y1 y2 y3 P6
  have n6 := Joins.below_alloc1 W6 (.cells #[.int .i64 ps, .int .i64 pa, .int .i64 po, .string pb, .int .i64 qs, .int .i64 qa, .int .i64 qo, .string qb] 23)
  have hg : (W6.alloc (.cells #[.int .i64 ps, .int .i64 pa, .int .i64 po, .string pb, .int .i64 qs, .int .i64 qa, .int .i64 qo, .string qb] 23)).heap[W6.heap.size]? = some (.cells #[.int .i64 ps, .int .i64 pa, .int .i64 po, .string pb, .int .i64 qs, .int .i64 qa, .int .i64 qo, .string qb] 23 (0, 0)) := heap_alloc_new W6 _
  have hcells : ∀ j, j < 2 → At4 (W6.alloc (.cells #[.int .i64 ps, .int .i64 pa, .int .i64 po, .string pb, .int .i64 qs, .int .i64 qa, .int .i64 qo, .string qb] 23)) ((⟨W6.heap.size, 0, none⟩ : Addr).add (j * 4)) (twoP ⟨ps, pa, po, pb⟩ ⟨qs, qa, qo, qb⟩ j) := by
    intro j hj
    rcases (show j = 0 ∨ j = 1 by omega) with rfl | rfl
    · exact ⟨(cell_of hg 0).trans rfl, (cell_of hg 1).trans rfl, (cell_of hg 2).trans rfl, (cell_of hg 3).trans rfl⟩
    · exact ⟨(cell_of hg 4).trans rfl, (cell_of hg 5).trans rfl, (cell_of hg 6).trans rfl, (cell_of hg 7).trans rfl⟩
  have hsz : (⟨W6.heap.size, 0, none⟩ : Addr).block < (W6.alloc (.cells #[.int .i64 ps, .int .i64 pa, .int .i64 po, .string pb, .int .i64 qs, .int .i64 qa, .int .i64 qo, .string qb] 23)).heap.size := by simp
  have hb6 := HB6.out.trans (n6.mono HB6.out.size)
  have q7 := Q6.out.on n6
  clear HB6 Q6 hg n6
  generalize W6.alloc (.cells #[.int .i64 ps, .int .i64 pa, .int .i64 po, .string pb, .int .i64 qs, .int .i64 qa, .int .i64 qo, .string qb] 23) = W7 at *
  generalize (⟨W6.heap.size, 0, none⟩ : Addr) = ad at *
  have HC := Lib.hid hcells
  have HZ := Lib.hid hsz
  have HB7 := Lib.hid hb6
  have Q7 := Lib.hid q7
  have HPS := Lib.hid (fun j => twoP_size ⟨ps, pa, po, pb⟩ ⟨qs, qa, qo, qb⟩ 100 j (by simp only; omega) (by simp only at *; omega))
  clear hcells hsz hb6 q7 hp
  go_wp2_with fail
  go_loopw [108] (fun v wr => ∃ i : Nat, i ≤ 2 ∧ v = .int .i64 i ∧ Below W7.heap.size W7 wr) (fun v _ => 2 - (intOf v).toNat)
  case atStart => exact ⟨0, by omega, rfl, Below.refl _ _⟩
  case round =>
  obtain ⟨i, hi, rfl, hbl⟩ := hrel
  have HBL := Lib.hid hbl; clear hbl
  by_cases hlt : i < 2
  · clear Q7 CE
    have hvs := HPS.out i
    obtain ⟨f0, f1, f2, f3⟩ := (HC.out i hlt).keep (w' := wr) fun q hq => HBL.out.cell (by rw [hq, adb]; exact HZ.out)
    generalize twoP ⟨ps, pa, po, pb⟩ ⟨qs, qa, qo, qb⟩ i = V0 at *
    obtain ⟨vs, va, vo, vb⟩ := V0
    obtain ⟨S, E, R, c1, c2, c3, c4⟩ := enc_both ⟨vs, va, vo, vb⟩ hvs
    simp only [pv] at f0 f1 f2 f3 c1 c2 c3 c4
    have C1 := Lib.hid c1; clear c1
    have C2 := Lib.hid c2; clear c2
    have C3 := Lib.hid c3; clear c3
    have C4 := Lib.hid c4; clear c4
    clear hvs
    have hi2 : (i : Int) < 2 := by omega
    have hi0 : (0 : Int) ≤ i := by omega
    have hw : IntKind.i64.wrap ((i : Int) + 1) = (i : Int) + 1 := IntWalk.i64_in _ (by omega)
    go_upto_region 21 with (fail)
    have n5 := Joins.below_alloc1 wr (.cells #[.int .i64 vs, .int .i64 va, .int .i64 vo, .string vb] 23)
    have q28 := PcAt.new wr ⟨vs, va, vo, vb⟩
    have hb5 := HBL.out.trans (n5.mono HBL.out.size)
    simp only [pcl] at q28
    clear n5 HBL f0 f1 f2 f3
    generalize wr.alloc (.cells #[.int .i64 vs, .int .i64 va, .int .i64 vo, .string vb] 23) = W8 at *
    generalize wr.heap.size = g28 at *
    have HB8 := Lib.hid hb5
    have Q8 := Lib.hid q28
    clear hb5 q28
    obtain ⟨y0, y1, y2, y3⟩ := Q8.out.cells
    simp only at y0 y1 y2 y3
    go_wp2_with fail; refine (C1.out _).mono ?_; rintro e w6 ⟨rfl, b6⟩
    have HB9 := Lib.hid (HB8.out.trans (b6.mono HB8.out.size))
    have Q9 := Lib.hid (Q8.out.on b6)
    clear b6 HB8 Q8 C1 y0 y1 y2 y3
    obtain ⟨y0, y1, y2, y3⟩ := Q9.out.cells
    simp only at y0 y1 y2 y3
    go_wp2_with fail; refine (C2.out _).mono ?_; rintro e w8 ⟨rfl, b8⟩
    have HB10 := Lib.hid (HB9.out.trans (b8.mono HB9.out.size))
    have Q10 := Lib.hid (Q9.out.on b8)
    clear b8 HB9 Q9 C2 y0 y1 y2 y3
    go_wp2_with fail
    have HV : ∃ V : Nat → (Nat → Value) → World → Prop, V = (fun ix u wv => match ix with
      | 0 => u 0 = .string S
      | 1 => u 1 = .string S
      | 2 => u 2 = .bool false
      | 3 => u 3 = .bool false
      | 4 => u 4 = .int .i64 E
      | 5 => u 5 = .int .i64 E
      | 6 => u 6 = .bool false
      | 7 => u 7 = .bool false
      | 8 => u 8 = .bool false
      | 9 => u 9 = .agg #[.int .i64 vs, .int .i64 va, .int .i64 vo, .string vb]
      | 10 => u 10 = .bool R
      | 11 => u 11 = .agg #[.int .i64 vs, .int .i64 va, .int .i64 vo, .string vb]
      | 12 => u 12 = .bool R
      | 13 => u 13 = .bool false
      | 14 => u 14 = .bool false
      | _ => True) := ⟨_, rfl⟩
    obtain ⟨V, hVdef⟩ := HV
    have V0 : ∀ u wv, V 0 u wv = (u 0 = .string S) := fun u wv => by subst hVdef; rfl
    have V1 : ∀ u wv, V 1 u wv = (u 1 = .string S) := fun u wv => by subst hVdef; rfl
    have V2 : ∀ u wv, V 2 u wv = (u 2 = .bool false) := fun u wv => by subst hVdef; rfl
    have V3 : ∀ u wv, V 3 u wv = (u 3 = .bool false) := fun u wv => by subst hVdef; rfl
    have V4 : ∀ u wv, V 4 u wv = (u 4 = .int .i64 E) := fun u wv => by subst hVdef; rfl
    have V5 : ∀ u wv, V 5 u wv = (u 5 = .int .i64 E) := fun u wv => by subst hVdef; rfl
    have V6 : ∀ u wv, V 6 u wv = (u 6 = .bool false) := fun u wv => by subst hVdef; rfl
    have V7 : ∀ u wv, V 7 u wv = (u 7 = .bool false) := fun u wv => by subst hVdef; rfl
    have V8 : ∀ u wv, V 8 u wv = (u 8 = .bool false) := fun u wv => by subst hVdef; rfl
    have V9 : ∀ u wv, V 9 u wv = (u 9 = .agg #[.int .i64 vs, .int .i64 va, .int .i64 vo, .string vb]) := fun u wv => by subst hVdef; rfl
    have V10 : ∀ u wv, V 10 u wv = (u 10 = .bool R) := fun u wv => by subst hVdef; rfl
    have V11 : ∀ u wv, V 11 u wv = (u 11 = .agg #[.int .i64 vs, .int .i64 va, .int .i64 vo, .string vb]) := fun u wv => by subst hVdef; rfl
    have V12 : ∀ u wv, V 12 u wv = (u 12 = .bool R) := fun u wv => by subst hVdef; rfl
    have V13 : ∀ u wv, V 13 u wv = (u 13 = .bool false) := fun u wv => by subst hVdef; rfl
    have V14 : ∀ u wv, V 14 u wv = (u 14 = .bool false) := fun u wv => by subst hVdef; rfl
    have HVD := Lib.hid hVdef
    clear hVdef
    refine region_each (V := V) (drop := fun _ _ => false) (G := fun wv => Below w8.heap.size w8 wv) (Rel := fun jx wv wv' => Below wv.heap.size wv wv') (by kernel_rfl) (by kernel_rfl) (Below.refl _ _).drew ?hmono1 ?hdep1 ⟨?s0_1, ?s1_1, ?s2_1, ?s3_1, ?s4_1, ?s5_1, ?s6_1, ?s7_1, ?s8_1, ?s9_1, ?s10_1, ?s11_1, ?s12_1, ?s13_1, ?s14_1, trivial⟩ ?behind1
    case hmono1 =>
      intro ix jx u wv wv' hij hw hd hr
      rw [HVD.out]
      dsimp only
      split <;> intro h <;> first | exact trivial | exact h | (exact absurd h id)
    case hdep1 =>
      intro ix u u' wv h1 h2
      rw [HVD.out]
      dsimp only
      split <;> intro h <;> first | exact trivial | (rw [← h1]; exact h) | (fail)
    case s0_1 =>
      refine owe rfl fun a wx val hG hV hN hO K hK => ?_
      have e29 : a.tmps[29]? = some (.string S) := (hO 29 (by kernel_rfl)).trans (by rfl)
      clear hV hN hO
      go_simp
      exact hK.out _ _ (by rw [V0, upd_at]) (Below.refl _ _) hG
    case s1_1 =>
      refine owe rfl fun a wx val hG hV hN hO K hK => ?_
      have e31 : a.tmps[31]? = some (.string S) := (hO 31 (by kernel_rfl)).trans (by rfl)
      clear hV hN hO
      go_simp
      exact hK.out _ _ (by rw [V1, upd_at]) (Below.refl _ _) hG
    case s2_1 =>
      refine owe rfl fun a wx val hG hV hN hO K hK => ?_
      have e122 := hN 0 122 (by kernel_rfl) (by kernel_rfl) (by simp)
      have f122 := hV 0 (by kernel_rfl) (by kernel_rfl)
      rw [V0] at f122
      rw [f122] at e122; clear f122
      have e123 := hN 1 123 (by kernel_rfl) (by kernel_rfl) (by simp)
      have f123 := hV 1 (by kernel_rfl) (by kernel_rfl)
      rw [V1] at f123
      rw [f123] at e123; clear f123
      clear hV hN hO
      go_simp
      exact hK.out _ _ (by rw [V2, upd_at]) (Below.refl _ _) hG
    case s3_1 =>
      refine owe rfl fun a wx val hG hV hN hO K hK => ?_
      have e124 := hN 2 124 (by kernel_rfl) (by kernel_rfl) (by simp)
      have f124 := hV 2 (by kernel_rfl) (by kernel_rfl)
      rw [V2] at f124
      rw [f124] at e124; clear f124
      clear hV hN hO
      go_simp
      exact hK.out _ _ (by rw [V3, upd_at]) (Below.refl _ _) hG
    case s4_1 =>
      refine owe_if (g := 3) (t := 125) (b := false) rfl (by kernel_rfl) (by kernel_rfl) (by kernel_rfl) (by simp) (fun val w h => by rw [V3] at h; exact h) fun a wx val hG hV hN hO K hK => ?_
      have e30 : a.tmps[30]? = some (.int .i64 E) := (hO 30 (by kernel_rfl)).trans (by rfl)
      clear hV hN hO
      go_simp
      exact hK.out _ _ (by rw [V4, upd_at]) (Below.refl _ _) hG
    case s5_1 =>
      refine owe_if (g := 3) (t := 125) (b := false) rfl (by kernel_rfl) (by kernel_rfl) (by kernel_rfl) (by simp) (fun val w h => by rw [V3] at h; exact h) fun a wx val hG hV hN hO K hK => ?_
      have e32 : a.tmps[32]? = some (.int .i64 E) := (hO 32 (by kernel_rfl)).trans (by rfl)
      clear hV hN hO
      go_simp
      exact hK.out _ _ (by rw [V5, upd_at]) (Below.refl _ _) hG
    case s6_1 =>
      refine owe_if (g := 3) (t := 125) (b := false) rfl (by kernel_rfl) (by kernel_rfl) (by kernel_rfl) (by simp) (fun val w h => by rw [V3] at h; exact h) fun a wx val hG hV hN hO K hK => ?_
      have e126 := hN 4 126 (by kernel_rfl) (by kernel_rfl) (by simp)
      have f126 := hV 4 (by kernel_rfl) (by kernel_rfl)
      rw [V4] at f126
      rw [f126] at e126; clear f126
      have e127 := hN 5 127 (by kernel_rfl) (by kernel_rfl) (by simp)
      have f127 := hV 5 (by kernel_rfl) (by kernel_rfl)
      rw [V5] at f127
      rw [f127] at e127; clear f127
      clear hV hN hO
      go_simp
      exact hK.out _ _ (by rw [V6, upd_at]) (Below.refl _ _) hG
    case s7_1 =>
      refine owe rfl fun a wx val hG hV hN hO K hK => ?_
      have e125 := hN 3 125 (by kernel_rfl) (by kernel_rfl) (by simp)
      have f125 := hV 3 (by kernel_rfl) (by kernel_rfl)
      rw [V3] at f125
      rw [f125] at e125; clear f125
      have e128 := hN 6 128 (by kernel_rfl) (by kernel_rfl) (by simp)
      have f128 := hV 6 (by kernel_rfl) (by kernel_rfl)
      rw [V6] at f128
      rw [f128] at e128; clear f128
      clear hV hN hO
      go_simp
      exact hK.out _ _ (by rw [V7, upd_at]) (Below.refl _ _) hG
    case s8_1 =>
      refine owe rfl fun a wx val hG hV hN hO K hK => ?_
      have e129 := hN 7 129 (by kernel_rfl) (by kernel_rfl) (by simp)
      have f129 := hV 7 (by kernel_rfl) (by kernel_rfl)
      rw [V7] at f129
      rw [f129] at e129; clear f129
      clear hV hN hO
      go_simp
      exact hK.out _ _ (by rw [V8, upd_at]) (Below.refl _ _) hG
    case s9_1 =>
      refine owe_if (g := 8) (t := 130) (b := false) rfl (by kernel_rfl) (by kernel_rfl) (by kernel_rfl) (by simp) (fun val w h => by rw [V8] at h; exact h) fun a wx val hG hV hN hO K hK => ?_
      have e28 : a.tmps[28]? = some (.pointer (some ⟨g28, 0, none⟩)) := (hO 28 (by kernel_rfl)).trans (by rfl)
      clear hV hN hO
      obtain ⟨y0, y1, y2, y3⟩ := (Q10.out.on hG).cells
      simp only at y0 y1 y2 y3
      go_simp
      exact hK.out _ _ (by rw [V9, upd_at]) (Below.refl _ _) hG
    case s10_1 =>
      refine owe_if (g := 8) (t := 130) (b := false) rfl (by kernel_rfl) (by kernel_rfl) (by kernel_rfl) (by simp) (fun val w h => by rw [V8] at h; exact h) fun a wx val hG hV hN hO K hK => ?_
      have e131 := hN 9 131 (by kernel_rfl) (by kernel_rfl) (by simp)
      have f131 := hV 9 (by kernel_rfl) (by kernel_rfl)
      rw [V9] at f131
      rw [f131] at e131; clear f131
      clear hV hN hO
      go_simp
      refine (C3.out _).mono ?_
      rintro e w3 ⟨rfl, hb⟩
      exact hK.out _ _ (by rw [V10, upd_at]) hb (hG.trans (hb.mono hG.size))
    case s11_1 =>
      refine owe_if (g := 8) (t := 130) (b := false) rfl (by kernel_rfl) (by kernel_rfl) (by kernel_rfl) (by simp) (fun val w h => by rw [V8] at h; exact h) fun a wx val hG hV hN hO K hK => ?_
      have e28 : a.tmps[28]? = some (.pointer (some ⟨g28, 0, none⟩)) := (hO 28 (by kernel_rfl)).trans (by rfl)
      clear hV hN hO
      obtain ⟨y0, y1, y2, y3⟩ := (Q10.out.on hG).cells
      simp only at y0 y1 y2 y3
      go_simp
      exact hK.out _ _ (by rw [V11, upd_at]) (Below.refl _ _) hG
    case s12_1 =>
      refine owe_if (g := 8) (t := 130) (b := false) rfl (by kernel_rfl) (by kernel_rfl) (by kernel_rfl) (by simp) (fun val w h => by rw [V8] at h; exact h) fun a wx val hG hV hN hO K hK => ?_
      have e133 := hN 11 133 (by kernel_rfl) (by kernel_rfl) (by simp)
      have f133 := hV 11 (by kernel_rfl) (by kernel_rfl)
      rw [V11] at f133
      rw [f133] at e133; clear f133
      clear hV hN hO
      go_simp
      refine (C4.out _).mono ?_
      rintro e w3 ⟨rfl, hb⟩
      exact hK.out _ _ (by rw [V12, upd_at]) hb (hG.trans (hb.mono hG.size))
    case s13_1 =>
      refine owe_if (g := 8) (t := 130) (b := false) rfl (by kernel_rfl) (by kernel_rfl) (by kernel_rfl) (by simp) (fun val w h => by rw [V8] at h; exact h) fun a wx val hG hV hN hO K hK => ?_
      have e132 := hN 10 132 (by kernel_rfl) (by kernel_rfl) (by simp)
      have f132 := hV 10 (by kernel_rfl) (by kernel_rfl)
      rw [V10] at f132
      rw [f132] at e132; clear f132
      have e134 := hN 12 134 (by kernel_rfl) (by kernel_rfl) (by simp)
      have f134 := hV 12 (by kernel_rfl) (by kernel_rfl)
      rw [V12] at f134
      rw [f134] at e134; clear f134
      clear hV hN hO
      go_simp
      exact hK.out _ _ (by rw [V13, upd_at]) (Below.refl _ _) hG
    case s14_1 =>
      refine owe rfl fun a wx val hG hV hN hO K hK => ?_
      have e130 := hN 8 130 (by kernel_rfl) (by kernel_rfl) (by simp)
      have f130 := hV 8 (by kernel_rfl) (by kernel_rfl)
      rw [V8] at f130
      rw [f130] at e130; clear f130
      have e135 := hN 13 135 (by kernel_rfl) (by kernel_rfl) (by simp)
      have f135 := hV 13 (by kernel_rfl) (by kernel_rfl)
      rw [V13] at f135
      rw [f135] at e135; clear f135
      clear hV hN hO
      go_simp
      exact hK.out _ _ (by rw [V14, upd_at]) (Below.refl _ _) hG
    intro val wx hG hV
    have f0 := hV 0 (by simp) (fun _ _ => by rfl)
    rw [V0] at f0
    have f1 := hV 1 (by simp) (fun _ _ => by rfl)
    rw [V1] at f1
    have f2 := hV 2 (by simp) (fun _ _ => by rfl)
    rw [V2] at f2
    have f3 := hV 3 (by simp) (fun _ _ => by rfl)
    rw [V3] at f3
    have f4 := hV 4 (by simp) (fun _ _ => by rfl)
    rw [V4] at f4
    have f5 := hV 5 (by simp) (fun _ _ => by rfl)
    rw [V5] at f5
    have f6 := hV 6 (by simp) (fun _ _ => by rfl)
    rw [V6] at f6
    have f7 := hV 7 (by simp) (fun _ _ => by rfl)
    rw [V7] at f7
    have f8 := hV 8 (by simp) (fun _ _ => by rfl)
    rw [V8] at f8
    have f9 := hV 9 (by simp) (fun _ _ => by rfl)
    rw [V9] at f9
    have f10 := hV 10 (by simp) (fun _ _ => by rfl)
    rw [V10] at f10
    have f11 := hV 11 (by simp) (fun _ _ => by rfl)
    rw [V11] at f11
    have f12 := hV 12 (by simp) (fun _ _ => by rfl)
    rw [V12] at f12
    have f13 := hV 13 (by simp) (fun _ _ => by rfl)
    rw [V13] at f13
    have f14 := hV 14 (by simp) (fun _ _ => by rfl)
    rw [V14] at f14
    clear hV V0 V1 V2 V3 V4 V5 V6 V7 V8 V9 V10 V11 V12 V13 V14
    simp only [putAll, Act.put, List.setIfInBounds_toArray, List.set_cons_zero, List.set_cons_succ]
    generalize val 0 = z0 at *; (subst f0)
    generalize val 1 = z1 at *; (subst f1)
    generalize val 2 = z2 at *; (subst f2)
    generalize val 3 = z3 at *; (subst f3)
    generalize val 4 = z4 at *; (subst f4)
    generalize val 5 = z5 at *; (subst f5)
    generalize val 6 = z6 at *; (subst f6)
    generalize val 7 = z7 at *; (subst f7)
    generalize val 8 = z8 at *; (subst f8)
    generalize val 9 = z9 at *; (subst f9)
    generalize val 10 = z10 at *; (subst f10)
    generalize val 11 = z11 at *; (subst f11)
    generalize val 12 = z12 at *; (subst f12)
    generalize val 13 = z13 at *; (subst f13)
    generalize val 14 = z14 at *; (subst f14)
    go_wp2_with fail
    go_roundw
    case rel => exact ⟨i + 1, by omega, by go_num, HB10.out.trans (hG.mono HB10.out.size)⟩
    case measure => simp [intOf]; omega
  have ei : i = 2 := by omega
  subst ei
  clear hlt hi HC HZ HPS
  have q8 := Q7.out.on HBL.out
  have hb8 := HB7.out.trans (HBL.out.mono HB7.out.size)
  have HB8 := Lib.hid hb8
  clear hb8 HBL HB7 Q7
  obtain ⟨y0, y1, y2, y3⟩ := q8.cells
  simp only at y0 y1 y2 y3
  clear q8
  have cP := fun w => pick_any by_ 256 h4 (by omega) w
  have hq := pickI_range by_ 256 (by omega)
  generalize pickI by_ 256 = q at cP hq
  have cK := fun w => pick_any at_ (t.size : Int) h3 (by omega) w
  have hk := pickI_range at_ (t.size : Int) (by omega)
  generalize pickI at_ (t.size : Int) = k at cK hk
  have g4 := fun w => run_to t k k.toNat (by omega) (by omega) w
  have s4 : (txt (t.data.toList.take k.toNat)).size ≤ 21 := by rw [txt_size, List.length_take]; have := Lib.size_eq t; omega
  generalize txt (t.data.toList.take k.toNat) = S4 at g4 s4
  have g6 := fun w => run_from t (k + 1) (k.toNat + 1) (by omega) (by omega) w
  have s6b : (txt (t.data.toList.drop (k.toNat + 1))).size ≤ 21 := by rw [txt_size, List.length_drop]; have := Lib.size_eq t; omega
  generalize txt (t.data.toList.drop (k.toNat + 1)) = S6b at g6 s6b
  obtain ⟨S6o, e6o⟩ : ∃ x, txt [UInt8.ofNat (IntKind.u8.wrap q).toNat] = x := ⟨_, rfl⟩
  have s6o : S6o.size = 1 := by rw [← e6o]; rfl
  obtain ⟨S5, e5⟩ : ∃ z, t ++ x = z := ⟨_, rfl⟩
  have s5 : S5.size = t.size + x.size := by rw [← e5, ByteArray.size_append]
  obtain ⟨S6a, e6a⟩ : ∃ x, S4 ++ S6o = x := ⟨_, rfl⟩
  have s6a : S6a.size = S4.size + S6o.size := by rw [← e6a, ByteArray.size_append]
  obtain ⟨S6, e6⟩ : ∃ x, S6a ++ S6b = x := ⟨_, rfl⟩
  have s6 : S6.size = S6a.size + S6b.size := by rw [← e6, ByteArray.size_append]
  have K4 := Lib.hid g4; clear g4
  have K6b := Lib.hid g6; clear g6
  have K6o := Lib.hid e6o; clear e6o
  have K5 := Lib.hid e5; clear e5
  have K6a := Lib.hid e6a; clear e6a
  have K6 := Lib.hid e6; clear e6
  have hxs := HXS.out
  have KW : Hid (IntKind.i64.wrap (k + 1) = k + 1) := Lib.hid (IntWalk.i64_in _ (by omega))
  have O5 : Hid (¬ 9223372036854775807 < t.size + x.size) := Lib.hid (by omega)
  have O6a : Hid (¬ 9223372036854775807 < S4.size + S6o.size) := Lib.hid (by omega)
  have O6 : Hid (¬ 9223372036854775807 < S6a.size + S6b.size) := Lib.hid (by omega)
  have CP := Lib.hid cP; clear cP
  have HSZ := Lib.hid (fun j => fiveS_size x t S4 S5 S6 200 j (by omega) (by omega) (by omega) (by omega) (by omega))
  clear s4 s6b s6o s5 s6a s6 hq hxs hQ ht1 ht2
  have HK := Lib.hid hk; clear hk
  go_wp2_with fail; refine (CE.out _).mono ?_; rintro e w9 ⟨rfl, b9⟩
  have HB9 := Lib.hid (HB8.out.trans (b9.mono HB8.out.size))
  clear b9 HB8 CE y0 y1 y2 y3
  go_wp2_with fail; refine (cK _).mono ?_; rintro e w10 ⟨rfl, rfl⟩
  clear cK
  go_wp2_with fail
  have HV : ∃ V : Nat → (Nat → Value) → World → Prop, V = (fun ix u wv => match ix with
    | 0 => u 0 = .string x
    | 1 => u 1 = .string t
    | 2 => u 2 = .string t
    | 3 => u 3 = .int .i64 k
    | 4 => u 4 = .string S4
    | 5 => u 5 = .string t
    | 6 => u 6 = .string x
    | 7 => u 7 = .string S5
    | 8 => u 8 = .string t
    | 9 => u 9 = .int .i64 k
    | 10 => u 10 = .string S4
    | 11 => u 11 = .int .i64 by_
    | 12 => u 12 = .int .i64 q
    | 13 => u 13 = .int .u8 (IntKind.u8.wrap q)
    | 14 => ∃ g, u 14 = .slice (some ⟨g, 0, none⟩) 1 1 ∧ wv.heap[g]? = some (.cells #[.int .u8 (IntKind.u8.wrap q)] 5 (0, 0))
    | 15 => u 15 = .string S6o
    | 16 => u 16 = .string S6a
    | 17 => u 17 = .string t
    | 18 => u 18 = .int .i64 k
    | 19 => u 19 = .int .i64 (k + 1)
    | 20 => u 20 = .string S6b
    | 21 => u 21 = .string S6
    | 22 => ∃ g, u 22 = .slice (some ⟨g, 0, none⟩) 5 5 ∧ wv.heap[g]? = some (.cells #[.string x, .string t, .string S4, .string S5, .string S6] 9 (0, 0))
    | 23 => u 23 = .int .i64 5
    | 24 => u 24 = .int .i64 0
    | _ => True) := ⟨_, rfl⟩
  obtain ⟨V, hVdef⟩ := HV
  have V0 : ∀ u wv, V 0 u wv = (u 0 = .string x) := fun u wv => by subst hVdef; rfl
  have V1 : ∀ u wv, V 1 u wv = (u 1 = .string t) := fun u wv => by subst hVdef; rfl
  have V2 : ∀ u wv, V 2 u wv = (u 2 = .string t) := fun u wv => by subst hVdef; rfl
  have V3 : ∀ u wv, V 3 u wv = (u 3 = .int .i64 k) := fun u wv => by subst hVdef; rfl
  have V4 : ∀ u wv, V 4 u wv = (u 4 = .string S4) := fun u wv => by subst hVdef; rfl
  have V5 : ∀ u wv, V 5 u wv = (u 5 = .string t) := fun u wv => by subst hVdef; rfl
  have V6 : ∀ u wv, V 6 u wv = (u 6 = .string x) := fun u wv => by subst hVdef; rfl
  have V7 : ∀ u wv, V 7 u wv = (u 7 = .string S5) := fun u wv => by subst hVdef; rfl
  have V8 : ∀ u wv, V 8 u wv = (u 8 = .string t) := fun u wv => by subst hVdef; rfl
  have V9 : ∀ u wv, V 9 u wv = (u 9 = .int .i64 k) := fun u wv => by subst hVdef; rfl
  have V10 : ∀ u wv, V 10 u wv = (u 10 = .string S4) := fun u wv => by subst hVdef; rfl
  have V11 : ∀ u wv, V 11 u wv = (u 11 = .int .i64 by_) := fun u wv => by subst hVdef; rfl
  have V12 : ∀ u wv, V 12 u wv = (u 12 = .int .i64 q) := fun u wv => by subst hVdef; rfl
  have V13 : ∀ u wv, V 13 u wv = (u 13 = .int .u8 (IntKind.u8.wrap q)) := fun u wv => by subst hVdef; rfl
  have V14 : ∀ u wv, V 14 u wv = (∃ g, u 14 = .slice (some ⟨g, 0, none⟩) 1 1 ∧ wv.heap[g]? = some (.cells #[.int .u8 (IntKind.u8.wrap q)] 5 (0, 0))) := fun u wv => by subst hVdef; rfl
  have V15 : ∀ u wv, V 15 u wv = (u 15 = .string S6o) := fun u wv => by subst hVdef; rfl
  have V16 : ∀ u wv, V 16 u wv = (u 16 = .string S6a) := fun u wv => by subst hVdef; rfl
  have V17 : ∀ u wv, V 17 u wv = (u 17 = .string t) := fun u wv => by subst hVdef; rfl
  have V18 : ∀ u wv, V 18 u wv = (u 18 = .int .i64 k) := fun u wv => by subst hVdef; rfl
  have V19 : ∀ u wv, V 19 u wv = (u 19 = .int .i64 (k + 1)) := fun u wv => by subst hVdef; rfl
  have V20 : ∀ u wv, V 20 u wv = (u 20 = .string S6b) := fun u wv => by subst hVdef; rfl
  have V21 : ∀ u wv, V 21 u wv = (u 21 = .string S6) := fun u wv => by subst hVdef; rfl
  have V22 : ∀ u wv, V 22 u wv = (∃ g, u 22 = .slice (some ⟨g, 0, none⟩) 5 5 ∧ wv.heap[g]? = some (.cells #[.string x, .string t, .string S4, .string S5, .string S6] 9 (0, 0))) := fun u wv => by subst hVdef; rfl
  have V23 : ∀ u wv, V 23 u wv = (u 23 = .int .i64 5) := fun u wv => by subst hVdef; rfl
  have V24 : ∀ u wv, V 24 u wv = (u 24 = .int .i64 0) := fun u wv => by subst hVdef; rfl
  have HVD := Lib.hid hVdef
  clear hVdef
  refine region_each (V := V) (drop := fun _ _ => false) (G := fun wv => Below w9.heap.size w9 wv) (Rel := fun jx wv wv' => Below wv.heap.size wv wv') (by kernel_rfl) (by kernel_rfl) (Below.refl _ _).drew ?hmono2 ?hdep2 ⟨?s0_2, ?s1_2, ?s2_2, ?s3_2, ?s4_2, ?s5_2, ?s6_2, ?s7_2, ?s8_2, ?s9_2, ?s10_2, ?s11_2, ?s12_2, ?s13_2, ?s14_2, ?s15_2, ?s16_2, ?s17_2, ?s18_2, ?s19_2, ?s20_2, ?s21_2, ?s22_2, ?s23_2, ?s24_2, trivial⟩ ?behind2
  case hmono2 =>
    intro ix jx u wv wv' hij hw hd hr
    rw [HVD.out]
    dsimp only
    split <;> intro h <;> first | exact trivial | exact h | (obtain ⟨g, h1, h2⟩ := h; exact ⟨g, h1, (hr.block g (Array.getElem?_eq_some_iff.1 h2).1).trans h2⟩)
  case hdep2 =>
    intro ix u u' wv h1 h2
    rw [HVD.out]
    dsimp only
    split <;> intro h <;> first | exact trivial | (rw [← h1]; exact h) | (obtain ⟨g, e1, e2⟩ := h; exact ⟨g, h1 ▸ e1, e2⟩)
  case s0_2 =>
    refine owe rfl fun a wx val hG hV hN hO K hK => ?_
    have e16 : a.tmps[16]? = some (.string x) := (hO 16 (by kernel_rfl)).trans (by rfl)
    clear hV hN hO
    go_simp
    exact hK.out _ _ (by rw [V0, upd_at]) (Below.refl _ _) hG
  case s1_2 =>
    refine owe rfl fun a wx val hG hV hN hO K hK => ?_
    have e33 : a.tmps[33]? = some (.string t) := (hO 33 (by kernel_rfl)).trans (by rfl)
    clear hV hN hO
    go_simp
    exact hK.out _ _ (by rw [V1, upd_at]) (Below.refl _ _) hG
  case s2_2 =>
    refine owe rfl fun a wx val hG hV hN hO K hK => ?_
    have e33 : a.tmps[33]? = some (.string t) := (hO 33 (by kernel_rfl)).trans (by rfl)
    clear hV hN hO
    go_simp
    exact hK.out _ _ (by rw [V2, upd_at]) (Below.refl _ _) hG
  case s3_2 =>
    refine owe rfl fun a wx val hG hV hN hO K hK => ?_
    have e35 : a.tmps[35]? = some (.int .i64 k) := (hO 35 (by kernel_rfl)).trans (by rfl)
    clear hV hN hO
    go_simp
    exact hK.out _ _ (by rw [V3, upd_at]) (Below.refl _ _) hG
  case s4_2 =>
    refine owe rfl fun a wx val hG hV hN hO K hK => ?_
    have e149 := hN 2 149 (by kernel_rfl) (by kernel_rfl) (by simp)
    have f149 := hV 2 (by kernel_rfl) (by kernel_rfl)
    rw [V2] at f149
    rw [f149] at e149; clear f149
    have e150 := hN 3 150 (by kernel_rfl) (by kernel_rfl) (by simp)
    have f150 := hV 3 (by kernel_rfl) (by kernel_rfl)
    rw [V3] at f150
    rw [f150] at e150; clear f150
    clear hV hN hO
    have q0 := K4.out
    go_simp
    exact hK.out _ _ (by rw [V4, upd_at]) (Below.refl _ _) hG
  case s5_2 =>
    refine owe rfl fun a wx val hG hV hN hO K hK => ?_
    have e33 : a.tmps[33]? = some (.string t) := (hO 33 (by kernel_rfl)).trans (by rfl)
    clear hV hN hO
    go_simp
    exact hK.out _ _ (by rw [V5, upd_at]) (Below.refl _ _) hG
  case s6_2 =>
    refine owe rfl fun a wx val hG hV hN hO K hK => ?_
    have e16 : a.tmps[16]? = some (.string x) := (hO 16 (by kernel_rfl)).trans (by rfl)
    clear hV hN hO
    go_simp
    exact hK.out _ _ (by rw [V6, upd_at]) (Below.refl _ _) hG
  case s7_2 =>
    refine owe rfl fun a wx val hG hV hN hO K hK => ?_
    have e152 := hN 5 152 (by kernel_rfl) (by kernel_rfl) (by simp)
    have f152 := hV 5 (by kernel_rfl) (by kernel_rfl)
    rw [V5] at f152
    rw [f152] at e152; clear f152
    have e153 := hN 6 153 (by kernel_rfl) (by kernel_rfl) (by simp)
    have f153 := hV 6 (by kernel_rfl) (by kernel_rfl)
    rw [V6] at f153
    rw [f153] at e153; clear f153
    clear hV hN hO
    have q0 := K5.out
    have q1 := O5.out
    go_simp
    exact hK.out _ _ (by rw [V7, upd_at]) (Below.refl _ _) hG
  case s8_2 =>
    refine owe rfl fun a wx val hG hV hN hO K hK => ?_
    have e33 : a.tmps[33]? = some (.string t) := (hO 33 (by kernel_rfl)).trans (by rfl)
    clear hV hN hO
    go_simp
    exact hK.out _ _ (by rw [V8, upd_at]) (Below.refl _ _) hG
  case s9_2 =>
    refine owe rfl fun a wx val hG hV hN hO K hK => ?_
    have e35 : a.tmps[35]? = some (.int .i64 k) := (hO 35 (by kernel_rfl)).trans (by rfl)
    clear hV hN hO
    go_simp
    exact hK.out _ _ (by rw [V9, upd_at]) (Below.refl _ _) hG
  case s10_2 =>
    refine owe rfl fun a wx val hG hV hN hO K hK => ?_
    have e155 := hN 8 155 (by kernel_rfl) (by kernel_rfl) (by simp)
    have f155 := hV 8 (by kernel_rfl) (by kernel_rfl)
    rw [V8] at f155
    rw [f155] at e155; clear f155
    have e156 := hN 9 156 (by kernel_rfl) (by kernel_rfl) (by simp)
    have f156 := hV 9 (by kernel_rfl) (by kernel_rfl)
    rw [V9] at f156
    rw [f156] at e156; clear f156
    clear hV hN hO
    have q0 := K4.out
    go_simp
    exact hK.out _ _ (by rw [V10, upd_at]) (Below.refl _ _) hG
  case s11_2 =>
    refine owe rfl fun a wx val hG hV hN hO K hK => ?_
    have e6 : a.tmps[6]? = some (.int .i64 by_) := (hO 6 (by kernel_rfl)).trans (by rfl)
    clear hV hN hO
    go_simp
    exact hK.out _ _ (by rw [V11, upd_at]) (Below.refl _ _) hG
  case s12_2 =>
    refine owe rfl fun a wx val hG hV hN hO K hK => ?_
    have e158 := hN 11 158 (by kernel_rfl) (by kernel_rfl) (by simp)
    have f158 := hV 11 (by kernel_rfl) (by kernel_rfl)
    rw [V11] at f158
    rw [f158] at e158; clear f158
    clear hV hN hO
    go_simp
    refine (CP.out _).mono ?_
    rintro e w3 ⟨rfl, rfl⟩
    exact hK.out _ _ (by rw [V12, upd_at]) (Below.refl _ _) hG
  case s13_2 =>
    refine owe rfl fun a wx val hG hV hN hO K hK => ?_
    have e159 := hN 12 159 (by kernel_rfl) (by kernel_rfl) (by simp)
    have f159 := hV 12 (by kernel_rfl) (by kernel_rfl)
    rw [V12] at f159
    rw [f159] at e159; clear f159
    clear hV hN hO
    go_simp
    exact hK.out _ _ (by rw [V13, upd_at]) (Below.refl _ _) hG
  case s14_2 =>
    refine owe rfl fun a wx val hG hV hN hO K hK => ?_
    have e160 := hN 13 160 (by kernel_rfl) (by kernel_rfl) (by simp)
    have f160 := hV 13 (by kernel_rfl) (by kernel_rfl)
    rw [V13] at f160
    rw [f160] at e160; clear f160
    clear hV hN hO
    go_simp
    have hb := Joins.below_alloc1 wx (.cells #[.int .u8 (IntKind.u8.wrap q)] 5)
    exact hK.out _ _ (by rw [V14, upd_at]; exact ⟨_, rfl, heap_alloc_new wx _⟩) hb (hG.trans (hb.mono hG.size))
  case s15_2 =>
    refine owe rfl fun a wx val hG hV hN hO K hK => ?_
    have e161 := hN 14 161 (by kernel_rfl) (by kernel_rfl) (by simp)
    have f161 := hV 14 (by kernel_rfl) (by kernel_rfl)
    rw [V14] at f161
    obtain ⟨g, hv, hg⟩ := f161; rw [hv] at e161; clear hv
    clear hV hN hO
    have h1 := oneU_at wx g (IntKind.u8.wrap q) (by simp [World.cell?, hg])
    rw [K6o.out] at h1
    go_simp
    exact hK.out _ _ (by rw [V15, upd_at]) (Below.refl _ _) hG
  case s16_2 =>
    refine owe rfl fun a wx val hG hV hN hO K hK => ?_
    have e157 := hN 10 157 (by kernel_rfl) (by kernel_rfl) (by simp)
    have f157 := hV 10 (by kernel_rfl) (by kernel_rfl)
    rw [V10] at f157
    rw [f157] at e157; clear f157
    have e162 := hN 15 162 (by kernel_rfl) (by kernel_rfl) (by simp)
    have f162 := hV 15 (by kernel_rfl) (by kernel_rfl)
    rw [V15] at f162
    rw [f162] at e162; clear f162
    clear hV hN hO
    have q0 := K6a.out
    have q1 := O6a.out
    go_simp
    exact hK.out _ _ (by rw [V16, upd_at]) (Below.refl _ _) hG
  case s17_2 =>
    refine owe rfl fun a wx val hG hV hN hO K hK => ?_
    have e33 : a.tmps[33]? = some (.string t) := (hO 33 (by kernel_rfl)).trans (by rfl)
    clear hV hN hO
    go_simp
    exact hK.out _ _ (by rw [V17, upd_at]) (Below.refl _ _) hG
  case s18_2 =>
    refine owe rfl fun a wx val hG hV hN hO K hK => ?_
    have e35 : a.tmps[35]? = some (.int .i64 k) := (hO 35 (by kernel_rfl)).trans (by rfl)
    clear hV hN hO
    go_simp
    exact hK.out _ _ (by rw [V18, upd_at]) (Below.refl _ _) hG
  case s19_2 =>
    refine owe rfl fun a wx val hG hV hN hO K hK => ?_
    have e165 := hN 18 165 (by kernel_rfl) (by kernel_rfl) (by simp)
    have f165 := hV 18 (by kernel_rfl) (by kernel_rfl)
    rw [V18] at f165
    rw [f165] at e165; clear f165
    clear hV hN hO
    have q0 := KW.out
    go_simp
    exact hK.out _ _ (by rw [V19, upd_at]) (Below.refl _ _) hG
  case s20_2 =>
    refine owe rfl fun a wx val hG hV hN hO K hK => ?_
    have e164 := hN 17 164 (by kernel_rfl) (by kernel_rfl) (by simp)
    have f164 := hV 17 (by kernel_rfl) (by kernel_rfl)
    rw [V17] at f164
    rw [f164] at e164; clear f164
    have e166 := hN 19 166 (by kernel_rfl) (by kernel_rfl) (by simp)
    have f166 := hV 19 (by kernel_rfl) (by kernel_rfl)
    rw [V19] at f166
    rw [f166] at e166; clear f166
    clear hV hN hO
    have q0 := K6b.out
    go_simp
    exact hK.out _ _ (by rw [V20, upd_at]) (Below.refl _ _) hG
  case s21_2 =>
    refine owe rfl fun a wx val hG hV hN hO K hK => ?_
    have e163 := hN 16 163 (by kernel_rfl) (by kernel_rfl) (by simp)
    have f163 := hV 16 (by kernel_rfl) (by kernel_rfl)
    rw [V16] at f163
    rw [f163] at e163; clear f163
    have e167 := hN 20 167 (by kernel_rfl) (by kernel_rfl) (by simp)
    have f167 := hV 20 (by kernel_rfl) (by kernel_rfl)
    rw [V20] at f167
    rw [f167] at e167; clear f167
    clear hV hN hO
    have q0 := K6.out
    have q1 := O6.out
    go_simp
    exact hK.out _ _ (by rw [V21, upd_at]) (Below.refl _ _) hG
  case s22_2 =>
    refine owe rfl fun a wx val hG hV hN hO K hK => ?_
    have e147 := hN 0 147 (by kernel_rfl) (by kernel_rfl) (by simp)
    have f147 := hV 0 (by kernel_rfl) (by kernel_rfl)
    rw [V0] at f147
    rw [f147] at e147; clear f147
    have e148 := hN 1 148 (by kernel_rfl) (by kernel_rfl) (by simp)
    have f148 := hV 1 (by kernel_rfl) (by kernel_rfl)
    rw [V1] at f148
    rw [f148] at e148; clear f148
    have e151 := hN 4 151 (by kernel_rfl) (by kernel_rfl) (by simp)
    have f151 := hV 4 (by kernel_rfl) (by kernel_rfl)
    rw [V4] at f151
    rw [f151] at e151; clear f151
    have e154 := hN 7 154 (by kernel_rfl) (by kernel_rfl) (by simp)
    have f154 := hV 7 (by kernel_rfl) (by kernel_rfl)
    rw [V7] at f154
    rw [f154] at e154; clear f154
    have e168 := hN 21 168 (by kernel_rfl) (by kernel_rfl) (by simp)
    have f168 := hV 21 (by kernel_rfl) (by kernel_rfl)
    rw [V21] at f168
    rw [f168] at e168; clear f168
    clear hV hN hO
    go_simp
    have hb := Joins.below_alloc1 wx (.cells #[.string x, .string t, .string S4, .string S5, .string S6] 9)
    exact hK.out _ _ (by rw [V22, upd_at]; exact ⟨_, rfl, heap_alloc_new wx _⟩) hb (hG.trans (hb.mono hG.size))
  case s23_2 =>
    refine owe rfl fun a wx val hG hV hN hO K hK => ?_
    have e169 := hN 22 169 (by kernel_rfl) (by kernel_rfl) (by simp)
    have f169 := hV 22 (by kernel_rfl) (by kernel_rfl)
    rw [V22] at f169
    obtain ⟨g, hv, hg⟩ := f169; rw [hv] at e169; clear hv
    clear hV hN hO
    go_simp
    exact hK.out _ _ (by rw [V23, upd_at]) (Below.refl _ _) hG
  case s24_2 =>
    refine owe rfl fun a wx val hG hV hN hO K hK => ?_
    clear hV hN hO
    go_simp
    exact hK.out _ _ (by rw [V24, upd_at]) (Below.refl _ _) hG
  intro val wx hG hV
  have f0 := hV 0 (by simp) (fun _ _ => by rfl)
  rw [V0] at f0
  have f1 := hV 1 (by simp) (fun _ _ => by rfl)
  rw [V1] at f1
  have f2 := hV 2 (by simp) (fun _ _ => by rfl)
  rw [V2] at f2
  have f3 := hV 3 (by simp) (fun _ _ => by rfl)
  rw [V3] at f3
  have f4 := hV 4 (by simp) (fun _ _ => by rfl)
  rw [V4] at f4
  have f5 := hV 5 (by simp) (fun _ _ => by rfl)
  rw [V5] at f5
  have f6 := hV 6 (by simp) (fun _ _ => by rfl)
  rw [V6] at f6
  have f7 := hV 7 (by simp) (fun _ _ => by rfl)
  rw [V7] at f7
  have f8 := hV 8 (by simp) (fun _ _ => by rfl)
  rw [V8] at f8
  have f9 := hV 9 (by simp) (fun _ _ => by rfl)
  rw [V9] at f9
  have f10 := hV 10 (by simp) (fun _ _ => by rfl)
  rw [V10] at f10
  have f11 := hV 11 (by simp) (fun _ _ => by rfl)
  rw [V11] at f11
  have f12 := hV 12 (by simp) (fun _ _ => by rfl)
  rw [V12] at f12
  have f13 := hV 13 (by simp) (fun _ _ => by rfl)
  rw [V13] at f13
  have f14 := hV 14 (by simp) (fun _ _ => by rfl)
  rw [V14] at f14
  have f15 := hV 15 (by simp) (fun _ _ => by rfl)
  rw [V15] at f15
  have f16 := hV 16 (by simp) (fun _ _ => by rfl)
  rw [V16] at f16
  have f17 := hV 17 (by simp) (fun _ _ => by rfl)
  rw [V17] at f17
  have f18 := hV 18 (by simp) (fun _ _ => by rfl)
  rw [V18] at f18
  have f19 := hV 19 (by simp) (fun _ _ => by rfl)
  rw [V19] at f19
  have f20 := hV 20 (by simp) (fun _ _ => by rfl)
  rw [V20] at f20
  have f21 := hV 21 (by simp) (fun _ _ => by rfl)
  rw [V21] at f21
  have f22 := hV 22 (by simp) (fun _ _ => by rfl)
  rw [V22] at f22
  have f23 := hV 23 (by simp) (fun _ _ => by rfl)
  rw [V23] at f23
  have f24 := hV 24 (by simp) (fun _ _ => by rfl)
  rw [V24] at f24
  clear hV V0 V1 V2 V3 V4 V5 V6 V7 V8 V9 V10 V11 V12 V13 V14 V15 V16 V17 V18 V19 V20 V21 V22 V23 V24
  simp only [putAll, Act.put, List.setIfInBounds_toArray, List.set_cons_zero, List.set_cons_succ]
  generalize val 0 = z0 at *; (subst f0)
  generalize val 1 = z1 at *; (subst f1)
  generalize val 2 = z2 at *; (subst f2)
  generalize val 3 = z3 at *; (subst f3)
  generalize val 4 = z4 at *; (subst f4)
  generalize val 5 = z5 at *; (subst f5)
  generalize val 6 = z6 at *; (subst f6)
  generalize val 7 = z7 at *; (subst f7)
  generalize val 8 = z8 at *; (subst f8)
  generalize val 9 = z9 at *; (subst f9)
  generalize val 10 = z10 at *; (subst f10)
  generalize val 11 = z11 at *; (subst f11)
  generalize val 12 = z12 at *; (subst f12)
  generalize val 13 = z13 at *; (subst f13)
  generalize val 15 = z15 at *; (subst f15)
  generalize val 16 = z16 at *; (subst f16)
  generalize val 17 = z17 at *; (subst f17)
  generalize val 18 = z18 at *; (subst f18)
  generalize val 19 = z19 at *; (subst f19)
  generalize val 20 = z20 at *; (subst f20)
  generalize val 21 = z21 at *; (subst f21)
  generalize val 23 = z23 at *; (subst f23)
  generalize val 24 = z24 at *; (subst f24)
  obtain ⟨H2, hv2, _⟩ := f14
  obtain ⟨H, hv, hg⟩ := f22
  rw [hv2, hv]; clear hv hv2
  have hcells : ∀ j, j < 5 → wx.cell? ⟨H, j, none⟩ = some (.string (fiveS x t S4 S5 S6 j)) := by
    intro j hj
    rcases (show j = 0 ∨ j = 1 ∨ j = 2 ∨ j = 3 ∨ j = 4 by omega) with rfl | rfl | rfl | rfl | rfl <;> simp [World.cell?, hg, fiveS]
  have hsz : H < wx.heap.size := (Array.getElem?_eq_some_iff.1 hg).1
  have hbl := HB9.out.trans (hG.mono HB9.out.size)
  have HC := Lib.hid hcells; clear hcells
  have HB := Lib.hid hbl; clear hbl
  have HS := Lib.hid hsz; clear hsz
  clear hg hG HB9 K4 K6b K6o K5 K6a K6 KW O5 O6a O6 CP HK
  go_wp2_with fail
  go_loopw [171] (fun v wr => ∃ i : Nat, i ≤ 5 ∧ v = .int .i64 i ∧ Below wx.heap.size wx wr) (fun v _ => 5 - (intOf v).toNat)
  case atStart => exact ⟨0, by omega, rfl, Below.refl _ _⟩
  case round =>
    obtain ⟨i, hi, rfl, hbl⟩ := hrel
    have HBL := Lib.hid hbl; clear hbl
    by_cases hlt : i < 5
    · have hys := HSZ.out i
      have hc := (HBL.out.cell (p := ⟨H, i, none⟩) HS.out).trans (HC.out i hlt)
      generalize fiveS x t S4 S5 S6 i = v at *
      obtain ⟨M, R, E, d1, d2⟩ := dec_both v (by omega)
      obtain ⟨ms, ma, mo, mb⟩ := M
      have hEG := fun p q w => eqP_guard .neq p q ⟨ms, ma, mo, mb⟩ ⟨ms, ma, mo, mb⟩ w
      have hNE := fun w => neqP ⟨ms, ma, mo, mb⟩ ⟨ms, ma, mo, mb⟩ w
      rw [(sameP_iff _ _).2 rfl] at hNE
      simp only [pv] at hEG hNE d1 d2
      have hi5 : (i : Int) < 5 := by omega
      have hw : IntKind.i64.wrap ((i : Int) + 1) = (i : Int) + 1 := IntWalk.i64_in _ (by omega)
      have D1 := Lib.hid d1; clear d1
      have D2 := Lib.hid d2; clear d2
      have HEG := Lib.hid hEG; clear hEG
      have HNE := Lib.hid hNE; clear hNE
      clear hys
      go_wp2_with fail; refine (D1.out _).mono ?_; rintro e v1 ⟨rfl, b1⟩
      have HB1 := Lib.hid (HBL.out.trans (b1.mono HBL.out.size))
      clear b1 HBL hc D1
      go_upto_region 32 with (fail)
      have n5 := Joins.below_alloc1 v1 (.cells #[.int .i64 ms, .int .i64 ma, .int .i64 mo, .string mb] 23)
      have q1 := PcAt.new v1 ⟨ms, ma, mo, mb⟩
      have hb5 := HB1.out.trans (n5.mono HB1.out.size)
      simp only [pcl] at q1
      clear n5 HB1
      generalize v1.alloc (.cells #[.int .i64 ms, .int .i64 ma, .int .i64 mo, .string mb] 23) = V2 at *
      generalize v1.heap.size = g1 at *
      have HB2 := Lib.hid hb5
      have Q1 := Lib.hid q1
      clear hb5 q1
      go_wp2_with fail; refine (D2.out _).mono ?_; rintro e v3 ⟨rfl, b3⟩
      have HB3 := Lib.hid (HB2.out.trans (b3.mono HB2.out.size))
      have Q3 := Lib.hid (Q1.out.on b3)
      clear b3 HB2 Q1 D2
      go_upto_region 33 with (fail)
      have n5 := Joins.below_alloc1 v3 (.cells #[.int .i64 ms, .int .i64 ma, .int .i64 mo, .string mb] 23)
      have q1 := PcAt.new v3 ⟨ms, ma, mo, mb⟩
      have q3 := Q3.out.on n5
      have hb5 := HB3.out.trans (n5.mono HB3.out.size)
      simp only [pcl] at q1
      clear n5 HB3 Q3
      generalize v3.alloc (.cells #[.int .i64 ms, .int .i64 ma, .int .i64 mo, .string mb] 23) = V4 at *
      generalize v3.heap.size = g3 at *
      have HB4 := Lib.hid hb5
      clear hb5
      obtain ⟨x0, x1, x2, x3⟩ := q1.cells
      obtain ⟨y0, y1, y2, y3⟩ := q3.cells
      simp only at x0 x1 x2 x3 y0 y1 y2 y3
      clear q1 q3
      have hEG := HEG.out
      have hNE := HNE.out
      clear HEG HNE
      go_wp2_with fail
      go_roundw
      case rel => exact ⟨i + 1, by omega, by go_num, HB4.out⟩
      case measure => simp [intOf]; omega
    · have hi5 : ¬ (i : Int) < 5 := by omega
      go_wp2_with fail
      go_ret
      exact ⟨rfl, HB.out.trans (HBL.out.mono HB.out.size)⟩

end Go.Proofs.Ytggeojjiongbbaa

/-
  The walk of the law FragPuts.
-/
import Derived.Test.YtggeojjiongbbaaFragAwake
import Derived.Test.YtggeojjiongbbaaFragFrame
import Derived.Test.YtggeojjiongbbaaOnce
namespace Go.Proofs.Ytggeojjiongbbaa
open Go.RowKit

/-- What was gathered, as a value whose texts lie somewhere. -/
structure Gv where
  i : Int
  q : Int
  A : Option Addr
  c : Nat
  l : List ByteArray
abbrev gvv (x : Gv) : Value := .agg #[.int .i64 x.i, .int .i64 x.q, .slice x.A x.l.length x.c]
structure GvOk (W : World) (x : Gv) : Prop where
  str : Strs W W.heap.size x.A x.l
  cap : x.l.length ≤ x.c
  len : x.l.length ≤ 60
  siz : ∀ d ∈ x.l, d.size ≤ maxLen
theorem GvOk.on {W W' : World} {x : Gv} (h : GvOk W x) (hb : Below W.heap.size W W') : GvOk W' x := ⟨(h.str.below hb (Nat.le_refl _)).more hb.size, h.cap, h.len, h.siz⟩
def fourG (a b c d : Gv) : Nat → Gv
  | 0 => a
  | 1 => b
  | 2 => c
  | _ => d
theorem fourG_ok {W : World} {a b c d : Gv} (ha : GvOk W a) (hb : GvOk W b) (hc : GvOk W c) (hd : GvOk W d) (j : Nat) : GvOk W (fourG a b c d j) := by
  unfold fourG; split <;> assumption
def twoI' (a b : Int) : Nat → Int
  | 0 => a
  | _ => b
def twoP' (a b : Pc) : Nat → Pc
  | 0 => a
  | _ => b
theorem twoP_size' (a b : Pc) (n j : Nat) (h1 : a.bytes.size ≤ n) (h2 : b.bytes.size ≤ n) : (twoP' a b j).bytes.size ≤ n := by
  unfold twoP'; split <;> assumption
def At3 (w : World) (p : Addr) (x : Gv) : Prop :=
  w.cell? p = some (.int .i64 x.i) ∧ w.cell? ⟨p.block, p.off + 1, none⟩ = some (.int .i64 x.q) ∧ w.cell? ⟨p.block, p.off + 2, none⟩ = some (.slice x.A x.l.length x.c)
theorem At3.keep {w w' : World} {p : Addr} {m : Gv} (h : At3 w p m) (hk : ∀ q : Addr, q.block = p.block → w'.cell? q = w.cell? q) : At3 w' p m :=
  ⟨(hk p rfl).trans h.1, (hk ⟨p.block, p.off + 1, none⟩ rfl).trans h.2.1, (hk ⟨p.block, p.off + 2, none⟩ rfl).trans h.2.2⟩
theorem put_len {g : Gt} {inc : Int} {p : Pc} (hl : g.l.length ≤ 60) : (putG g inc p).l.length ≤ 60 := by
  unfold putG
  split
  · rename_i hok
    split
    · exact hl
    · show (putAt (basisL g inc p) p.at'.toNat p.bytes).length ≤ 60
      have hp : rightP p = true := by unfold okG at hok; simp only [Bool.and_eq_true] at hok; exact hok.2.1
      have ho := ((rightP_iff p).1 hp).2.1
      have hb := basis_length (g := g) (inc := inc) hp
      rw [putAt_length]
      omega
  · exact hl
/-- Whole and May, by both: the same. -/
theorem puts_both (x : Gv) : ∃ (T : ByteArray) (Bw Bm : Bool),
    (∀ W, GvOk W x → Calls Try.prog 24 #[gvv x] W fun e w' => e = .returned (.tuple #[.string T, .bool Bw]) ∧ Below W.heap.size W w')
    ∧ (∀ W, GvOk W x → Calls Try.prog 25 #[gvv x] W fun e w' => e = .returned (.tuple #[.string T, .bool Bw]) ∧ Below W.heap.size W w')
    ∧ (∀ W, GvOk W x → Calls Try.prog 26 #[gvv x] W fun e w' => e = .returned (.bool Bm) ∧ Below W.heap.size W w')
    ∧ (∀ W, GvOk W x → Calls Try.prog 27 #[gvv x] W fun e w' => e = .returned (.bool Bm) ∧ Below W.heap.size W w') :=
  ⟨wholeT x.i x.q x.l, wholeB x.i x.q x.l, mayB x.i x.q x.l,
    fun W h => wholeP_any x.A x.c x.i x.q x.l W h.str (by have := h.len; unfold maxLen; omega) h.cap h.siz,
    fun W h => refWhole_any x.A x.c x.i x.q x.l W h.str (by have := h.len; unfold maxLen; omega),
    fun W h => may_any x.A x.c x.i x.q x.l W h.str (by have := h.len; unfold maxLen; omega) h.siz,
    fun W h => refMay_any x.A x.c x.i x.q x.l W h.str (by have := h.len; unfold maxLen; omega)⟩
/-- Put, by both: the same. -/
theorem put_both (x : Gv) (hl : x.l.length ≤ 60) (n : Int) (p : Pc) (hp : p.bytes.size ≤ 100) : ∃ (gi gq : Int) (gl : List ByteArray) (E : Int),
    (∀ W, GvOk W x → Calls Try.prog 28 #[gvv x, .int .i64 n, pv p] W fun e w' => ∃ A c, e = .returned (.tuple #[.agg #[.int .i64 gi, .int .i64 gq, .slice A gl.length c], .int .i64 E]) ∧ Strs w' w'.heap.size A gl ∧ Below W.heap.size W w')
    ∧ (∀ W, GvOk W x → Calls Try.prog 29 #[gvv x, .int .i64 n, pv p] W fun e w' => ∃ A c, e = .returned (.tuple #[.agg #[.int .i64 gi, .int .i64 gq, .slice A gl.length c], .int .i64 E]) ∧ Strs w' w'.heap.size A gl ∧ Below W.heap.size W w')
    ∧ (∀ A A' c c' W, Strs W W.heap.size A gl → Strs W W.heap.size A' gl → Calls Try.prog 30 #[.agg #[.int .i64 gi, .int .i64 gq, .slice A gl.length c], .agg #[.int .i64 gi, .int .i64 gq, .slice A' gl.length c']] W fun e w' => e = .returned (.bool true) ∧ Below W.heap.size W w') := by
  have hlen := put_len (g := ⟨x.i, x.q, x.l⟩) (inc := n) (p := p) hl
  refine ⟨(putG ⟨x.i, x.q, x.l⟩ n p).i, (putG ⟨x.i, x.q, x.l⟩ n p).q, (putG ⟨x.i, x.q, x.l⟩ n p).l, putE ⟨x.i, x.q, x.l⟩ n p, fun W h => ?_, fun W h => ?_, fun A A' c c' W h h' => ?_⟩
  · refine (putP_any x.A x.c ⟨x.i, x.q, x.l⟩ n p W h.str (by simp only; omega) h.cap h.siz (by unfold maxLen; omega)).mono ?_
    rintro e w' ⟨A, c, he, -, hs, hb⟩
    exact ⟨A, c, he, hs, hb⟩
  · refine (refPut_any x.A x.c ⟨x.i, x.q, x.l⟩ n p W h.str (by simp only; omega) (by unfold maxLen; omega)).mono ?_
    rintro e w' ⟨A, c, he, -, hs, hb⟩
    exact ⟨A, c, he, hs, hb⟩
  · have h1 := refSame_any A A' c c' (putG ⟨x.i, x.q, x.l⟩ n p).i (putG ⟨x.i, x.q, x.l⟩ n p).q (putG ⟨x.i, x.q, x.l⟩ n p).i (putG ⟨x.i, x.q, x.l⟩ n p).q _ _ W h h' (by unfold maxLen; omega) (by unfold maxLen; omega)
    rw [(sameG_iff _ _ _ _ _ _).2 ⟨rfl, rfl, rfl⟩] at h1
    exact h1
theorem raw_both' (r : Raw) (hr : WfR r) : ∃ (i : Int) (Q : Pc), Q.bytes.size ≤ 16
    ∧ (∀ W, Calls Try.prog 15 #[rv r] W fun e w' => e = .returned (.tuple #[.int .i64 i, pv Q]) ∧ Below W.heap.size W w') :=
  ⟨rawI r, rawP r, ((rightP_iff _).1 (raw_right r)).2.2.2.2, fun W => piece_any r hr W⟩
/-- What was gathered of raw rows. -/
theorem gat_both (A : Option Addr) (c : Nat) (l : List Raw) (hl : l.length ≤ maxLen) (hwf : ∀ r ∈ l, WfR r) : ∃ (gi gq : Int) (gl : List ByteArray), gl.length ≤ 20 ∧ (∀ d ∈ gl, d.size ≤ maxLen)
    ∧ (∀ B W, Raws W B A l → B ≤ W.heap.size → Calls Try.prog 22 #[.slice A l.length c] W fun e w' => ∃ A c, e = .returned (.agg #[.int .i64 gi, .int .i64 gq, .slice A gl.length c]) ∧ gl.length ≤ c ∧ Strs w' w'.heap.size A gl ∧ Below W.heap.size W w')
    ∧ (∀ A c W, Strs W W.heap.size A gl → Calls Try.prog 23 #[.agg #[.int .i64 gi, .int .i64 gq, .slice A gl.length c]] W fun e w' => ∃ u, e = .returned (.agg #[.int .i64 gi, .int .i64 gq, u]) ∧ OwnS w' W.heap.size u gl ∧ Below W.heap.size W w') := by
  have hm := may_len (gat_may (l.take 10))
  refine ⟨(gatL (l.take 10)).i, (gatL (l.take 10)).q, (gatL (l.take 10)).l, hm.1, fun d hd => by have := hm.2 d hd; unfold maxLen; omega, fun B W h hB => gather_any A c B l W h hB hl hwf, fun A c W h => ?_⟩
  exact refOwn_any A c _ _ _ W h (by omega)

def FAtP (w : World) (b : Nat) (r : Raw) : Prop := w.heap[b]? = some (.cells #[.int .i64 r.a, .int .i64 r.b, .int .i64 r.c, .int .i64 r.d] 24 (0, 0))
theorem FAtP.new (w : World) (r : Raw) : FAtP (w.alloc (.cells #[.int .i64 r.a, .int .i64 r.b, .int .i64 r.c, .int .i64 r.d] 24)) w.heap.size r := heap_alloc_new w _
theorem FAtP.on {w w' : World} {g : Nat} {r : Raw} (h : FAtP w g r) (hb : Below w.heap.size w w') : FAtP w' g r := (hb.block g (Array.getElem?_eq_some_iff.1 h).1).trans h
theorem FAtP.cells {w : World} {g : Nat} {r : Raw} (h : FAtP w g r) : w.cell? ⟨g, 0, none⟩ = some (.int .i64 r.a) ∧ w.cell? ⟨g, 1, none⟩ = some (.int .i64 r.b) ∧ w.cell? ⟨g, 2, none⟩ = some (.int .i64 r.c) ∧ w.cell? ⟨g, 3, none⟩ = some (.int .i64 r.d) :=
  ⟨(cell_of h 0).trans rfl, (cell_of h 1).trans rfl, (cell_of h 2).trans rfl, (cell_of h 3).trans rfl⟩
theorem grown_cellP (w : World) (b j : Nat) (v : Value) : w.grownBy (w.setCell ⟨b, j, none⟩ v) (some b) :=
  ⟨rfl, rfl, rfl, by simp, fun k _ hne => Below.heap_setCell _ _ _ _ (fun e => hne (by rw [e]))⟩

set_option maxRecDepth 100000 in
set_option maxHeartbeats 16000000 in
theorem fragPuts_walk (A : Option Addr) (c : Nat) (l : List Raw) (n : Raw) (oi oq : Int) (Ao : Option Addr) (co : Nat) (ol : List ByteArray) (p : Pc) (inc : Int) (wn : WfR n) (_wi : (Lit.int .i64 oi).wf = true) (_wq : (Lit.int .i64 oq).wf = true) (_wp : WfP p) (_w4 : (Lit.int .i64 inc).wf = true) (w : World) (hR : RawsOk w A c l) (hO : StrsOk w Ao co ol) :
    Calls Try.prog 4 #[.slice A l.length c, rv n, gv oi oq (.slice Ao ol.length co), pv p, .int .i64 inc] w fun e w' => e = .returned (.bool true) ∧ Below w.heap.size w w' := by
  obtain ⟨W1, e1⟩ : ∃ W1, w.alloc (.cells #[.int .i64 n.a, .int .i64 n.b, .int .i64 n.c, .int .i64 n.d] 24) = W1 := ⟨_, rfl⟩
  obtain ⟨W2, e2⟩ : ∃ W2, W1.alloc (.cells #[.int .i64 oi, .int .i64 oq, .slice Ao ol.length co] 46) = W2 := ⟨_, rfl⟩
  obtain ⟨W3, e3⟩ : ∃ W3, W2.alloc (.cells (pcl p) 23) = W3 := ⟨_, rfl⟩
  have b1 := Joins.below_alloc1 w (.cells #[.int .i64 n.a, .int .i64 n.b, .int .i64 n.c, .int .i64 n.d] 24)
  have b2 := Joins.below_alloc1 W1 (.cells #[.int .i64 oi, .int .i64 oq, .slice Ao ol.length co] 46)
  have b3 := Joins.below_alloc1 W2 (.cells (pcl p) 23)
  have f1 := FAtP.new w n
  have g2 := GatAt.new W1 oi oq (.slice Ao ol.length co)
  have p3 := PcAt.new W2 p
  simp only [gcl] at g2
  rw [e1] at b1 f1
  rw [e2] at b2 g2
  rw [e3] at b3 p3
  have hs1 : W1.heap.size = w.heap.size + 1 := by rw [← e1]; simp
  have hs2 : W2.heap.size = w.heap.size + 2 := by rw [← e2]; simp [hs1]
  have F3 := Lib.hid ((f1.on b2).on b3)
  have G3 := g2.on b3
  rw [hs1] at G3
  rw [hs2] at p3
  have G3 := Lib.hid G3
  have P3 := Lib.hid p3
  have hb12 := b1.trans (b2.mono b1.size)
  have HB3 := Lib.hid (hb12.trans (b3.mono hb12.size))
  have H1 := Lib.hid e1
  have H2 := Lib.hid e2
  have H3 := Lib.hid e3
  clear b1 b2 b3 f1 g2 p3 e1 e2 e3 hs1 hs2 hb12
  have GB := Lib.hid (gat_both A c l (by have := hR.len; omega) hR.wf)
  have RB := Lib.hid (raw_both' n wn)
  have HR := Lib.hid hR.row
  have HO := Lib.hid hO
  clear hR hO wn
  obtain ⟨na, nb, nc, nd⟩ := n
  obtain ⟨ps, pa, po, pb⟩ := p
  simp only [pv, rv, pcl, gv] at *
  go_enter Try.func4, Try.ntmps4
  go_wp2_with fail
  rw [H1.out, H2.out, H3.out]
  clear H1 H2 H3
  refine (awake_any _).mono ?_; rintro e w3 ⟨rfl, b3⟩
  have HB4 := Lib.hid (HB3.out.trans (b3.mono HB3.out.size))
  have F4 := Lib.hid (F3.out.on b3)
  have G4 := Lib.hid (G3.out.on b3)
  have P4 := Lib.hid (P3.out.on b3)
  clear b3 HB3 F3 G3 P3
  obtain ⟨x0, x1, x2, x3⟩ := P4.out.cells
  obtain ⟨⟨y0, y1, y2⟩, -⟩ := G4.out.cells
  simp only at x0 x1 x2 x3
  by_cases hp : 100 < pb.size
  · have hp' : 100 < (pb.size : Int) := by omega
    clear GB RB
    go_wp2_with fail
    go_ret
    exact ⟨rfl, HB4.out⟩
  have hp' : ¬ 100 < (pb.size : Int) := by omega
  by_cases ho : 40 < ol.length
  · have ho' : 40 < (ol.length : Int) := by omega
    clear GB RB
    go_wp2_with fail
    go_ret
    exact ⟨rfl, HB4.out⟩
  have ho' : ¬ 40 < (ol.length : Int) := by omega
  obtain ⟨gi, gq, gl, hgl, hgz, cg, cw⟩ := GB.out
  obtain ⟨RI, Q, hQ, cr⟩ := RB.out
  obtain ⟨qs, qa, qo, qb⟩ := Q
  simp only at cr hQ
  have CW := Lib.hid cw; clear cw
  have CR := Lib.hid cr; clear cr
  have HP := Lib.hid hp; clear hp
  have HOL := Lib.hid ho; clear ho
  clear GB RB
  have HBS : Hid (w.heap.size ≤ w3.heap.size) := Lib.hid HB4.out.size
  have HRW := Lib.hid (HR.out.below HB4.out (Nat.le_refl _)); clear HR
  go_wp2_with fail; refine (cg _ _ HRW.out HBS.out).mono ?_; rintro e w4 ⟨Ag, kg, rfl, hcg, hsg, b4⟩
  have HB5 := Lib.hid (HB4.out.trans (b4.mono HBS.out))
  have F5 := Lib.hid (F4.out.on b4)
  have G5 := Lib.hid (G4.out.on b4)
  have P5 := Lib.hid (P4.out.on b4)
  clear b4 HB4 F4 G4 P4 x0 x1 x2 x3 y0 y1 y2 cg hp' ho' HRW HBS
  go_upto_region 5 with (fail)
  have n4 := Joins.below_alloc1 w4 (.cells #[.int .i64 gi, .int .i64 gq, .slice Ag gl.length kg] 46)
  have g12 := GatAt.new w4 gi gq (.slice Ag gl.length kg)
  have hb5 := HB5.out.trans (n4.mono HB5.out.size)
  have f5 := F5.out.on n4
  have g5 := G5.out.on n4
  have p5 := P5.out.on n4
  have s5 := (hsg.below n4 (Nat.le_refl _)).more n4.size
  clear F5 G5 P5 HB5 hsg
  simp only [gcl] at g12
  generalize w4.alloc (.cells #[.int .i64 gi, .int .i64 gq, .slice Ag gl.length kg] 46) = W5 at *
  generalize w4.heap.size = b12 at *
  clear n4
  obtain ⟨x0, x1, x2, x3⟩ := f5.cells
  simp only at x0 x1 x2 x3
  have HB5 := Lib.hid hb5
  have G5 := Lib.hid g5
  have P5 := Lib.hid p5
  have Z5 := Lib.hid g12
  have S5 := Lib.hid s5
  clear f5 g5 p5 g12 s5 hb5
  go_wp2_with fail; refine (CR.out _).mono ?_; rintro e w6 ⟨rfl, b6⟩
  have HB6 := Lib.hid (HB5.out.trans (b6.mono HB5.out.size))
  have G6 := Lib.hid (G5.out.on b6)
  have P6 := Lib.hid (P5.out.on b6)
  have Z6 := Lib.hid (Z5.out.on b6)
  have S6 := Lib.hid ((S5.out.below b6 (Nat.le_refl _)).more b6.size)
  clear b6 HB5 G5 P5 Z5 S5 x0 x1 x2 x3 CR
  go_upto_region 6 with (fail)
  have n6 := Joins.below_alloc1 w6 (.cells #[.int .i64 qs, .int .i64 qa, .int .i64 qo, .string qb] 23)
  have q14 := PcAt.new w6 ⟨qs, qa, qo, qb⟩
  have hb6 := HB6.out.trans (n6.mono HB6.out.size)
  have g6 := G6.out.on n6
  have p6 := P6.out.on n6
  have z6 := Z6.out.on n6
  have s6 := (S6.out.below n6 (Nat.le_refl _)).more n6.size
  clear G6 P6 Z6 S6 HB6
  simp only [pcl] at q14
  generalize w6.alloc (.cells #[.int .i64 qs, .int .i64 qa, .int .i64 qo, .string qb] 23) = W6 at *
  generalize w6.heap.size = b14 at *
  clear n6
  obtain ⟨⟨y0, y1, y2⟩, -⟩ := z6.cells
  have HB6 := Lib.hid hb6
  have G6 := Lib.hid g6
  have P6 := Lib.hid p6
  have Z6 := Lib.hid z6
  have Q6 := Lib.hid q14
  have S6 := Lib.hid s6
  have O6 : Hid (Strs W6 W6.heap.size Ao ol) := Lib.hid ((HO.out.row.below HB6.out (Nat.le_refl _)).more HB6.out.size)
  clear g6 p6 z6 q14 s6 hb6
  go_wp2_with fail; refine (CW.out _ _ _ S6.out).mono ?_; rintro e w7 ⟨u, rfl, hu7, b7⟩
  clear y0 y1 y2 CW
  obtain ⟨Au, cu, rfl, hcu, hsu⟩ := hu7.row
  go_upto_region 7 with (fail)
  have n7 := Joins.below_alloc1 w7 (.cells #[.int .i64 gi, .int .i64 gq, .slice Au gl.length cu] 46)
  have v15 := GatAt.new w7 gi gq (.slice Au gl.length cu)
  have hu8 := hu7.on n7
  have b8 := b7.trans (n7.mono b7.size)
  have l15 : W6.heap.size ≤ w7.heap.size := b7.size
  clear b7 hu7 hsu n7
  simp only [gcl] at v15
  generalize w7.alloc (.cells #[.int .i64 gi, .int .i64 gq, .slice Au gl.length cu] 46) = W8 at *
  generalize w7.heap.size = b15 at *
  have g8 := G6.out.on b8
  have o8 := (O6.out.below b8 (Nat.le_refl _)).more b8.size
  have hne := hu8.block v15 (by decide)
  obtain ⟨⟨x0, x1, x2⟩, -⟩ := v15.cells
  obtain ⟨⟨y0, y1, y2⟩, -⟩ := g8.cells
  have HU8 := Lib.hid hu8; clear hu8
  have V15 := Lib.hid v15; clear v15
  have O8 := Lib.hid o8; clear o8
  have B8 := Lib.hid b8; clear b8
  have L15 := Lib.hid l15; clear l15
  have HNE := Lib.hid hne; clear hne g8
  have HLN : Hid (gl.length + ol.length ≤ 8796093022207) := Lib.hid (by have := HOL.out; omega)
  obtain ⟨zl, hzl⟩ : ∃ zl, gl ++ ol = zl := ⟨_, rfl⟩
  have HZL := Lib.hid hzl; clear hzl
  go_cut [55] (fun _ wx => ∃ u9, GatAt wx b15 gi gq u9 ∧ OwnS wx W6.heap.size u9 zl ∧ Below W6.heap.size W6 wx)
  case first =>
    go_wp2_with (at_builtin; refine list_appS (by rfl) _ _ rfl W6.heap.size _ _ gl ol _ _ _ rfl rfl rfl HU8.out O8.out B8.out.size HLN.out ?_; intro u9 w9 hu9 hgr9; rw [HZL.out] at hu9; obtain ⟨A9, c9, rfl, hc9, hs9⟩ := hu9.row; obtain ⟨⟨z0, z1, z2⟩, hfz⟩ := (V15.out.grown hgr9 HNE.out).cells)
    go_meet
    have hX := V15.out.grown hgr9 HNE.out
    have hgr2 := grown_cellP w9 b15 2 (.slice A9 zl.length c9)
    exact ⟨.slice A9 zl.length c9, set_blk hX 2 _, hu9.grown hgr2 (hu9.block hX (by decide)), (B8.out.grown hgr9 (by have := B8.out.size; omega) (fun g e => (World.ownsRow.lt HU8.out g e).1)).setCell (p := ⟨b15, 2, none⟩) L15.out _⟩
  case rest =>
  obtain ⟨u9, v9, hu10, b10⟩ := hcut
  generalize wc = W10 at *
  clear HU8 V15 O8 B8 HNE HLN x0 x1 x2 y0 y1 y2
  have hzl := HZL.out
  clear HZL
  obtain ⟨Az, cz, rfl, hcz, hsz⟩ := hu10.row
  have hzn : zl.length ≤ 60 := by rw [← hzl, List.length_append]; have := HOL.out; omega
  have hzz : ∀ d ∈ zl, d.size ≤ maxLen := fun d hd => by
    rw [← hzl, List.mem_append] at hd
    rcases hd with hd | hd
    · exact hgz d hd
    · exact HO.out.wf d hd
  clear hu10 hzl
  have z10 := Z6.out.on b10
  have g10 := G6.out.on b10
  have K0 : GvOk W10 ⟨gi, gq, Ag, kg, gl⟩ := ⟨(S6.out.below b10 (Nat.le_refl _)).more b10.size, hcg, by show gl.length ≤ 60; omega, hgz⟩
  have K1 : GvOk W10 ⟨oi, oq, Ao, co, ol⟩ := ⟨(O6.out.below b10 (Nat.le_refl _)).more b10.size, HO.out.len.1, by have := HOL.out; show ol.length ≤ 60; omega, HO.out.wf⟩
  have K2 : GvOk W10 ⟨gi, gq, Az, cz, zl⟩ := ⟨hsz, hcz, hzn, hzz⟩
  have K3 : GvOk W10 ⟨oi, gq, Ag, kg, gl⟩ := ⟨K0.str, hcg, K0.len, hgz⟩
  have HK := Lib.hid (fun j => fourG_ok K0 K1 K2 K3 j)
  have P10 := Lib.hid (P6.out.on b10)
  have Q10 := Lib.hid (Q6.out.on b10)
  have HB10 := Lib.hid (HB6.out.trans (b10.mono HB6.out.size))
  clear K0 K1 K2 K3 hsz hcz hzn hzz b10 Z6 G6 S6 O6 P6 Q6 HB6 HO hcg hgz L15
  obtain ⟨⟨x0, x1, x2⟩, -⟩ := z10.cells
  obtain ⟨⟨y0, y1, y2⟩, -⟩ := g10.cells
  obtain ⟨⟨z0, z1, z2⟩, -⟩ := v9.cells
  clear z10 g10 v9
  go_upto_region 9 with (fail)
  clear x0 x1 x2 y0 y1 y2 z0 z1 z2
  have n6 := Joins.below_alloc1 W10 (.cells #[.int .i64 gi, .int .i64 gq, .slice Ag gl.length kg, .int .i64 oi, .int .i64 oq, .slice Ao ol.length co, .int .i64 gi, .int .i64 gq, .slice Az zl.length cz, .int .i64 oi, .int .i64 gq, .slice Ag gl.length kg] 46)
  have hg : (W10.alloc (.cells #[.int .i64 gi, .int .i64 gq, .slice Ag gl.length kg, .int .i64 oi, .int .i64 oq, .slice Ao ol.length co, .int .i64 gi, .int .i64 gq, .slice Az zl.length cz, .int .i64 oi, .int .i64 gq, .slice Ag gl.length kg] 46)).heap[W10.heap.size]? = some (.cells #[.int .i64 gi, .int .i64 gq, .slice Ag gl.length kg, .int .i64 oi, .int .i64 oq, .slice Ao ol.length co, .int .i64 gi, .int .i64 gq, .slice Az zl.length cz, .int .i64 oi, .int .i64 gq, .slice Ag gl.length kg] 46 (0, 0)) := heap_alloc_new W10 _
  have hcells : ∀ j, j < 4 → At3 (W10.alloc (.cells #[.int .i64 gi, .int .i64 gq, .slice Ag gl.length kg, .int .i64 oi, .int .i64 oq, .slice Ao ol.length co, .int .i64 gi, .int .i64 gq, .slice Az zl.length cz, .int .i64 oi, .int .i64 gq, .slice Ag gl.length kg] 46)) ((⟨W10.heap.size, 0, none⟩ : Addr).add (j * 3)) (fourG ⟨gi, gq, Ag, kg, gl⟩ ⟨oi, oq, Ao, co, ol⟩ ⟨gi, gq, Az, cz, zl⟩ ⟨oi, gq, Ag, kg, gl⟩ j) := by
    intro j hj
    rcases (show j = 0 ∨ j = 1 ∨ j = 2 ∨ j = 3 by omega) with rfl | rfl | rfl | rfl
    · exact ⟨(cell_of hg 0).trans rfl, (cell_of hg 1).trans rfl, (cell_of hg 2).trans rfl⟩
    · exact ⟨(cell_of hg 3).trans rfl, (cell_of hg 4).trans rfl, (cell_of hg 5).trans rfl⟩
    · exact ⟨(cell_of hg 6).trans rfl, (cell_of hg 7).trans rfl, (cell_of hg 8).trans rfl⟩
    · exact ⟨(cell_of hg 9).trans rfl, (cell_of hg 10).trans rfl, (cell_of hg 11).trans rfl⟩
  have hsz : (⟨W10.heap.size, 0, none⟩ : Addr).block < (W10.alloc (.cells #[.int .i64 gi, .int .i64 gq, .slice Ag gl.length kg, .int .i64 oi, .int .i64 oq, .slice Ao ol.length co, .int .i64 gi, .int .i64 gq, .slice Az zl.length cz, .int .i64 oi, .int .i64 gq, .slice Ag gl.length kg] 46)).heap.size := by simp
  have hb11 := HB10.out.trans (n6.mono HB10.out.size)
  have HK := Lib.hid (fun j => (HK.out j).on n6)
  have P11 := Lib.hid (P10.out.on n6)
  have Q11 := Lib.hid (Q10.out.on n6)
  clear HB10 P10 Q10 hg n6
  generalize W10.alloc (.cells #[.int .i64 gi, .int .i64 gq, .slice Ag gl.length kg, .int .i64 oi, .int .i64 oq, .slice Ao ol.length co, .int .i64 gi, .int .i64 gq, .slice Az zl.length cz, .int .i64 oi, .int .i64 gq, .slice Ag gl.length kg] 46) = W11 at *
  generalize (⟨W10.heap.size, 0, none⟩ : Addr) = ad at *
  generalize hFG : fourG ⟨gi, gq, Ag, kg, gl⟩ ⟨oi, oq, Ao, co, ol⟩ ⟨gi, gq, Az, cz, zl⟩ ⟨oi, gq, Ag, kg, gl⟩ = FF at *
  clear hFG
  have HC := Lib.hid hcells
  have HZ := Lib.hid hsz
  have HB11 := Lib.hid hb11
  have HPS := Lib.hid (fun j => twoP_size' ⟨ps, pa, po, pb⟩ ⟨qs, qa, qo, qb⟩ 100 j (by have := HP.out; simp only; omega) (by simp only at *; omega))
  clear hcells hsz hb11
  go_wp2_with fail
  go_loopw [69] (fun v wr => ∃ i : Nat, i ≤ 4 ∧ v = .int .i64 i ∧ Below W11.heap.size W11 wr) (fun v _ => 4 - (intOf v).toNat)
  case atStart => exact ⟨0, by omega, rfl, Below.refl _ _⟩
  case round =>
  obtain ⟨i, hi, rfl, hbl⟩ := hrel
  have HBL := Lib.hid hbl; clear hbl
  by_cases hlt : i < 4
  · obtain ⟨f0, f1, f2⟩ := (HC.out i hlt).keep (w' := wr) fun q hq => HBL.out.cell (by rw [hq, adb]; exact HZ.out)
    have HX := HK.out i
    clear HK HC HZ
    generalize FF i = X at *
    obtain ⟨T, Bw, Bm, c1, c2, c3, c4⟩ := puts_both X
    have CPT := Lib.hid (fun n p hp => put_both X HX.len n p hp)
    obtain ⟨xi, xq, XA, xc, xl⟩ := X
    simp only [gvv] at f0 f1 f2 c1 c2 c3 c4
    simp only [gvv, pv] at CPT
    have HX := Lib.hid HX
    have C1 := Lib.hid c1; clear c1
    have C2 := Lib.hid c2; clear c2
    have C3 := Lib.hid c3; clear c3
    have C4 := Lib.hid c4; clear c4
    have hi4 : (i : Int) < 4 := by omega
    have hi0 : (0 : Int) ≤ i := by omega
    have hw : IntKind.i64.wrap ((i : Int) + 1) = (i : Int) + 1 := IntWalk.i64_in _ (by omega)
    go_upto_region 11 with (fail)
    have n5 := Joins.below_alloc1 wr (.cells #[.int .i64 xi, .int .i64 xq, .slice XA xl.length xc] 46)
    have q17 := GatAt.new wr xi xq (.slice XA xl.length xc)
    have hb5 := HBL.out.trans (n5.mono HBL.out.size)
    simp only [gcl] at q17
    clear n5 HBL f0 f1 f2
    generalize wr.alloc (.cells #[.int .i64 xi, .int .i64 xq, .slice XA xl.length xc] 46) = W12 at *
    generalize wr.heap.size = g17 at *
    have HB12 := Lib.hid hb5
    have Q12 := Lib.hid q17
    clear hb5 q17
    obtain ⟨⟨y0, y1, y2⟩, -⟩ := Q12.out.cells
    go_wp2_with fail; refine (C1.out _ (HX.out.on HB12.out)).mono ?_; rintro e w6 ⟨rfl, b6⟩
    have HB13 := Lib.hid (HB12.out.trans (b6.mono HB12.out.size))
    have Q13 := Lib.hid (Q12.out.on b6)
    clear b6 HB12 Q12 C1 y0 y1 y2
    obtain ⟨⟨y0, y1, y2⟩, -⟩ := Q13.out.cells
    go_wp2_with fail; refine (C2.out _ (HX.out.on HB13.out)).mono ?_; rintro e w8 ⟨rfl, b8⟩
    have HB14 := Lib.hid (HB13.out.trans (b8.mono HB13.out.size))
    have Q14 := Lib.hid (Q13.out.on b8)
    clear b8 HB13 Q13 C2 y0 y1 y2
    go_wp2_with fail
    have HV : ∃ V : Nat → (Nat → Value) → World → Prop, V = (fun ix u wv => match ix with
      | 0 => u 0 = .string T
      | 1 => u 1 = .string T
      | 2 => u 2 = .bool false
      | 3 => u 3 = .bool false
      | 4 => u 4 = .bool Bw
      | 5 => u 5 = .bool Bw
      | 6 => u 6 = .bool false
      | 7 => u 7 = .bool false
      | 8 => u 8 = .bool false
      | 9 => u 9 = .agg #[.int .i64 xi, .int .i64 xq, .slice XA xl.length xc]
      | 10 => u 10 = .bool Bm
      | 11 => u 11 = .agg #[.int .i64 xi, .int .i64 xq, .slice XA xl.length xc]
      | 12 => u 12 = .bool Bm
      | 13 => u 13 = .bool false
      | 14 => u 14 = .bool false
      | _ => True) := ⟨_, rfl⟩
    obtain ⟨V, hVdef⟩ := HV
    have V0 : ∀ u wv, V 0 u wv = (u 0 = .string T) := fun u wv => by subst hVdef; rfl
    have V1 : ∀ u wv, V 1 u wv = (u 1 = .string T) := fun u wv => by subst hVdef; rfl
    have V2 : ∀ u wv, V 2 u wv = (u 2 = .bool false) := fun u wv => by subst hVdef; rfl
    have V3 : ∀ u wv, V 3 u wv = (u 3 = .bool false) := fun u wv => by subst hVdef; rfl
    have V4 : ∀ u wv, V 4 u wv = (u 4 = .bool Bw) := fun u wv => by subst hVdef; rfl
    have V5 : ∀ u wv, V 5 u wv = (u 5 = .bool Bw) := fun u wv => by subst hVdef; rfl
    have V6 : ∀ u wv, V 6 u wv = (u 6 = .bool false) := fun u wv => by subst hVdef; rfl
    have V7 : ∀ u wv, V 7 u wv = (u 7 = .bool false) := fun u wv => by subst hVdef; rfl
    have V8 : ∀ u wv, V 8 u wv = (u 8 = .bool false) := fun u wv => by subst hVdef; rfl
    have V9 : ∀ u wv, V 9 u wv = (u 9 = .agg #[.int .i64 xi, .int .i64 xq, .slice XA xl.length xc]) := fun u wv => by subst hVdef; rfl
    have V10 : ∀ u wv, V 10 u wv = (u 10 = .bool Bm) := fun u wv => by subst hVdef; rfl
    have V11 : ∀ u wv, V 11 u wv = (u 11 = .agg #[.int .i64 xi, .int .i64 xq, .slice XA xl.length xc]) := fun u wv => by subst hVdef; rfl
    have V12 : ∀ u wv, V 12 u wv = (u 12 = .bool Bm) := fun u wv => by subst hVdef; rfl
    have V13 : ∀ u wv, V 13 u wv = (u 13 = .bool false) := fun u wv => by subst hVdef; rfl
    have V14 : ∀ u wv, V 14 u wv = (u 14 = .bool false) := fun u wv => by subst hVdef; rfl
    have HVD := Lib.hid hVdef
    clear hVdef
    refine region_each (V := V) (drop := fun _ _ => false) (G := fun wv => Below w8.heap.size w8 wv) (Rel := fun jx wv wv' => Below wv.heap.size wv wv') (by kernel_rfl) (by kernel_rfl) (Below.refl _ _).drew ?hmono1 ?hdep1 ⟨?s0_1, ?s1_1, ?s2_1, ?s3_1, ?s4_1, ?s5_1, ?s6_1, ?s7_1, ?s8_1, ?s9_1, ?s10_1, ?s11_1, ?s12_1, ?s13_1, ?s14_1, trivial⟩ ?behind1
    case hmono1 =>
      intro ix jx u wv wv' hij hw hd hr
      rw [HVD.out]
      dsimp only
      split <;> intro h <;> first | exact trivial | exact h | (exact absurd h id)
    case hdep1 =>
      intro ix u u' wv h1 h2
      rw [HVD.out]
      dsimp only
      split <;> intro h <;> first | exact trivial | (rw [← h1]; exact h) | (fail)
    case s0_1 =>
      refine owe rfl fun a wx val hG hV hN hO K hK => ?_
      have e18 : a.tmps[18]? = some (.string T) := (hO 18 (by kernel_rfl)).trans (by rfl)
      clear hV hN hO
      go_simp
      exact hK.out _ _ (by rw [V0, upd_at]) (Below.refl _ _) hG
    case s1_1 =>
      refine owe rfl fun a wx val hG hV hN hO K hK => ?_
      have e20 : a.tmps[20]? = some (.string T) := (hO 20 (by kernel_rfl)).trans (by rfl)
      clear hV hN hO
      go_simp
      exact hK.out _ _ (by rw [V1, upd_at]) (Below.refl _ _) hG
    case s2_1 =>
      refine owe rfl fun a wx val hG hV hN hO K hK => ?_
      have e83 := hN 0 83 (by kernel_rfl) (by kernel_rfl) (by simp)
      have f83 := hV 0 (by kernel_rfl) (by kernel_rfl)
      rw [V0] at f83
      rw [f83] at e83; clear f83
      have e84 := hN 1 84 (by kernel_rfl) (by kernel_rfl) (by simp)
      have f84 := hV 1 (by kernel_rfl) (by kernel_rfl)
      rw [V1] at f84
      rw [f84] at e84; clear f84
      clear hV hN hO
      go_simp
      exact hK.out _ _ (by rw [V2, upd_at]) (Below.refl _ _) hG
    case s3_1 =>
      refine owe rfl fun a wx val hG hV hN hO K hK => ?_
      have e85 := hN 2 85 (by kernel_rfl) (by kernel_rfl) (by simp)
      have f85 := hV 2 (by kernel_rfl) (by kernel_rfl)
      rw [V2] at f85
      rw [f85] at e85; clear f85
      clear hV hN hO
      go_simp
      exact hK.out _ _ (by rw [V3, upd_at]) (Below.refl _ _) hG
    case s4_1 =>
      refine owe_if (g := 3) (t := 86) (b := false) rfl (by kernel_rfl) (by kernel_rfl) (by kernel_rfl) (by simp) (fun val w h => by rw [V3] at h; exact h) fun a wx val hG hV hN hO K hK => ?_
      have e19 : a.tmps[19]? = some (.bool Bw) := (hO 19 (by kernel_rfl)).trans (by rfl)
      clear hV hN hO
      go_simp
      exact hK.out _ _ (by rw [V4, upd_at]) (Below.refl _ _) hG
    case s5_1 =>
      refine owe_if (g := 3) (t := 86) (b := false) rfl (by kernel_rfl) (by kernel_rfl) (by kernel_rfl) (by simp) (fun val w h => by rw [V3] at h; exact h) fun a wx val hG hV hN hO K hK => ?_
      have e21 : a.tmps[21]? = some (.bool Bw) := (hO 21 (by kernel_rfl)).trans (by rfl)
      clear hV hN hO
      go_simp
      exact hK.out _ _ (by rw [V5, upd_at]) (Below.refl _ _) hG
    case s6_1 =>
      refine owe_if (g := 3) (t := 86) (b := false) rfl (by kernel_rfl) (by kernel_rfl) (by kernel_rfl) (by simp) (fun val w h => by rw [V3] at h; exact h) fun a wx val hG hV hN hO K hK => ?_
      have e87 := hN 4 87 (by kernel_rfl) (by kernel_rfl) (by simp)
      have f87 := hV 4 (by kernel_rfl) (by kernel_rfl)
      rw [V4] at f87
      rw [f87] at e87; clear f87
      have e88 := hN 5 88 (by kernel_rfl) (by kernel_rfl) (by simp)
      have f88 := hV 5 (by kernel_rfl) (by kernel_rfl)
      rw [V5] at f88
      rw [f88] at e88; clear f88
      clear hV hN hO
      go_simp
      exact hK.out _ _ (by rw [V6, upd_at]) (Below.refl _ _) hG
    case s7_1 =>
      refine owe rfl fun a wx val hG hV hN hO K hK => ?_
      have e86 := hN 3 86 (by kernel_rfl) (by kernel_rfl) (by simp)
      have f86 := hV 3 (by kernel_rfl) (by kernel_rfl)
      rw [V3] at f86
      rw [f86] at e86; clear f86
      have e89 := hN 6 89 (by kernel_rfl) (by kernel_rfl) (by simp)
      have f89 := hV 6 (by kernel_rfl) (by kernel_rfl)
      rw [V6] at f89
      rw [f89] at e89; clear f89
      clear hV hN hO
      go_simp
      exact hK.out _ _ (by rw [V7, upd_at]) (Below.refl _ _) hG
    case s8_1 =>
      refine owe rfl fun a wx val hG hV hN hO K hK => ?_
      have e90 := hN 7 90 (by kernel_rfl) (by kernel_rfl) (by simp)
      have f90 := hV 7 (by kernel_rfl) (by kernel_rfl)
      rw [V7] at f90
      rw [f90] at e90; clear f90
      clear hV hN hO
      go_simp
      exact hK.out _ _ (by rw [V8, upd_at]) (Below.refl _ _) hG
    case s9_1 =>
      refine owe_if (g := 8) (t := 91) (b := false) rfl (by kernel_rfl) (by kernel_rfl) (by kernel_rfl) (by simp) (fun val w h => by rw [V8] at h; exact h) fun a wx val hG hV hN hO K hK => ?_
      have e17 : a.tmps[17]? = some (.pointer (some ⟨g17, 0, none⟩)) := (hO 17 (by kernel_rfl)).trans (by rfl)
      clear hV hN hO
      obtain ⟨⟨y0, y1, y2⟩, -⟩ := (Q14.out.on hG).cells
      go_simp
      exact hK.out _ _ (by rw [V9, upd_at]) (Below.refl _ _) hG
    case s10_1 =>
      refine owe_if (g := 8) (t := 91) (b := false) rfl (by kernel_rfl) (by kernel_rfl) (by kernel_rfl) (by simp) (fun val w h => by rw [V8] at h; exact h) fun a wx val hG hV hN hO K hK => ?_
      have e92 := hN 9 92 (by kernel_rfl) (by kernel_rfl) (by simp)
      have f92 := hV 9 (by kernel_rfl) (by kernel_rfl)
      rw [V9] at f92
      rw [f92] at e92; clear f92
      clear hV hN hO
      go_simp
      refine (C3.out _ ((HX.out.on HB14.out).on hG)).mono ?_
      rintro e w3 ⟨rfl, hb⟩
      exact hK.out _ _ (by rw [V10, upd_at]) hb (hG.trans (hb.mono hG.size))
    case s11_1 =>
      refine owe_if (g := 8) (t := 91) (b := false) rfl (by kernel_rfl) (by kernel_rfl) (by kernel_rfl) (by simp) (fun val w h => by rw [V8] at h; exact h) fun a wx val hG hV hN hO K hK => ?_
      have e17 : a.tmps[17]? = some (.pointer (some ⟨g17, 0, none⟩)) := (hO 17 (by kernel_rfl)).trans (by rfl)
      clear hV hN hO
      obtain ⟨⟨y0, y1, y2⟩, -⟩ := (Q14.out.on hG).cells
      go_simp
      exact hK.out _ _ (by rw [V11, upd_at]) (Below.refl _ _) hG
    case s12_1 =>
      refine owe_if (g := 8) (t := 91) (b := false) rfl (by kernel_rfl) (by kernel_rfl) (by kernel_rfl) (by simp) (fun val w h => by rw [V8] at h; exact h) fun a wx val hG hV hN hO K hK => ?_
      have e94 := hN 11 94 (by kernel_rfl) (by kernel_rfl) (by simp)
      have f94 := hV 11 (by kernel_rfl) (by kernel_rfl)
      rw [V11] at f94
      rw [f94] at e94; clear f94
      clear hV hN hO
      go_simp
      refine (C4.out _ ((HX.out.on HB14.out).on hG)).mono ?_
      rintro e w3 ⟨rfl, hb⟩
      exact hK.out _ _ (by rw [V12, upd_at]) hb (hG.trans (hb.mono hG.size))
    case s13_1 =>
      refine owe_if (g := 8) (t := 91) (b := false) rfl (by kernel_rfl) (by kernel_rfl) (by kernel_rfl) (by simp) (fun val w h => by rw [V8] at h; exact h) fun a wx val hG hV hN hO K hK => ?_
      have e93 := hN 10 93 (by kernel_rfl) (by kernel_rfl) (by simp)
      have f93 := hV 10 (by kernel_rfl) (by kernel_rfl)
      rw [V10] at f93
      rw [f93] at e93; clear f93
      have e95 := hN 12 95 (by kernel_rfl) (by kernel_rfl) (by simp)
      have f95 := hV 12 (by kernel_rfl) (by kernel_rfl)
      rw [V12] at f95
      rw [f95] at e95; clear f95
      clear hV hN hO
      go_simp
      exact hK.out _ _ (by rw [V13, upd_at]) (Below.refl _ _) hG
    case s14_1 =>
      refine owe rfl fun a wx val hG hV hN hO K hK => ?_
      have e91 := hN 8 91 (by kernel_rfl) (by kernel_rfl) (by simp)
      have f91 := hV 8 (by kernel_rfl) (by kernel_rfl)
      rw [V8] at f91
      rw [f91] at e91; clear f91
      have e96 := hN 13 96 (by kernel_rfl) (by kernel_rfl) (by simp)
      have f96 := hV 13 (by kernel_rfl) (by kernel_rfl)
      rw [V13] at f96
      rw [f96] at e96; clear f96
      clear hV hN hO
      go_simp
      exact hK.out _ _ (by rw [V14, upd_at]) (Below.refl _ _) hG
    intro val wx hG hV
    have f0 := hV 0 (by simp) (fun _ _ => by rfl)
    rw [V0] at f0
    have f1 := hV 1 (by simp) (fun _ _ => by rfl)
    rw [V1] at f1
    have f2 := hV 2 (by simp) (fun _ _ => by rfl)
    rw [V2] at f2
    have f3 := hV 3 (by simp) (fun _ _ => by rfl)
    rw [V3] at f3
    have f4 := hV 4 (by simp) (fun _ _ => by rfl)
    rw [V4] at f4
    have f5 := hV 5 (by simp) (fun _ _ => by rfl)
    rw [V5] at f5
    have f6 := hV 6 (by simp) (fun _ _ => by rfl)
    rw [V6] at f6
    have f7 := hV 7 (by simp) (fun _ _ => by rfl)
    rw [V7] at f7
    have f8 := hV 8 (by simp) (fun _ _ => by rfl)
    rw [V8] at f8
    have f9 := hV 9 (by simp) (fun _ _ => by rfl)
    rw [V9] at f9
    have f10 := hV 10 (by simp) (fun _ _ => by rfl)
    rw [V10] at f10
    have f11 := hV 11 (by simp) (fun _ _ => by rfl)
    rw [V11] at f11
    have f12 := hV 12 (by simp) (fun _ _ => by rfl)
    rw [V12] at f12
    have f13 := hV 13 (by simp) (fun _ _ => by rfl)
    rw [V13] at f13
    have f14 := hV 14 (by simp) (fun _ _ => by rfl)
    rw [V14] at f14
    clear hV V0 V1 V2 V3 V4 V5 V6 V7 V8 V9 V10 V11 V12 V13 V14
    simp only [putAll, Act.put, List.setIfInBounds_toArray, List.set_cons_zero, List.set_cons_succ]
    generalize val 0 = z0 at *; (subst f0)
    generalize val 1 = z1 at *; (subst f1)
    generalize val 2 = z2 at *; (subst f2)
    generalize val 3 = z3 at *; (subst f3)
    generalize val 4 = z4 at *; (subst f4)
    generalize val 5 = z5 at *; (subst f5)
    generalize val 6 = z6 at *; (subst f6)
    generalize val 7 = z7 at *; (subst f7)
    generalize val 8 = z8 at *; (subst f8)
    generalize val 9 = z9 at *; (subst f9)
    generalize val 10 = z10 at *; (subst f10)
    generalize val 11 = z11 at *; (subst f11)
    generalize val 12 = z12 at *; (subst f12)
    generalize val 13 = z13 at *; (subst f13)
    generalize val 14 = z14 at *; (subst f14)
    have HB15 := Lib.hid (HB14.out.trans (hG.mono HB14.out.size))
    have Q15 := Lib.hid (Q14.out.on hG)
    have HX15 := Lib.hid ((HX.out.on HB14.out).on hG)
    obtain ⟨x0, x1, x2, x3⟩ := (P11.out.on HB15.out).cells
    obtain ⟨y0, y1, y2, y3⟩ := (Q11.out.on HB15.out).cells
    simp only at x0 x1 x2 x3 y0 y1 y2 y3
    clear hG HB14 Q14 HX C3 C4 P11 Q11
    go_upto_region 16 with (fail)
    clear x0 x1 x2 x3 y0 y1 y2 y3
    have n6 := Joins.below_alloc1 wx (.cells #[.int .i64 ps, .int .i64 pa, .int .i64 po, .string pb, .int .i64 qs, .int .i64 qa, .int .i64 qo, .string qb] 23)
    have hg : (wx.alloc (.cells #[.int .i64 ps, .int .i64 pa, .int .i64 po, .string pb, .int .i64 qs, .int .i64 qa, .int .i64 qo, .string qb] 23)).heap[wx.heap.size]? = some (.cells #[.int .i64 ps, .int .i64 pa, .int .i64 po, .string pb, .int .i64 qs, .int .i64 qa, .int .i64 qo, .string qb] 23 (0, 0)) := heap_alloc_new wx _
    have hcells : ∀ j, j < 2 → At4 (wx.alloc (.cells #[.int .i64 ps, .int .i64 pa, .int .i64 po, .string pb, .int .i64 qs, .int .i64 qa, .int .i64 qo, .string qb] 23)) ((⟨wx.heap.size, 0, none⟩ : Addr).add (j * 4)) (twoP' ⟨ps, pa, po, pb⟩ ⟨qs, qa, qo, qb⟩ j) := by
      intro j hj
      rcases (show j = 0 ∨ j = 1 by omega) with rfl | rfl
      · exact ⟨(cell_of hg 0).trans rfl, (cell_of hg 1).trans rfl, (cell_of hg 2).trans rfl, (cell_of hg 3).trans rfl⟩
      · exact ⟨(cell_of hg 4).trans rfl, (cell_of hg 5).trans rfl, (cell_of hg 6).trans rfl, (cell_of hg 7).trans rfl⟩
    have hsz : (⟨wx.heap.size, 0, none⟩ : Addr).block < (wx.alloc (.cells #[.int .i64 ps, .int .i64 pa, .int .i64 po, .string pb, .int .i64 qs, .int .i64 qa, .int .i64 qo, .string qb] 23)).heap.size := by simp
    have hb16 := HB15.out.trans (n6.mono HB15.out.size)
    have HX16 := Lib.hid (HX15.out.on n6)
    have Q16 := Lib.hid (Q15.out.on n6)
    clear HB15 Q15 HX15 hg n6
    generalize wx.alloc (.cells #[.int .i64 ps, .int .i64 pa, .int .i64 po, .string pb, .int .i64 qs, .int .i64 qa, .int .i64 qo, .string qb] 23) = W16 at *
    generalize (⟨wx.heap.size, 0, none⟩ : Addr) = ad2 at *
    have HC2 := Lib.hid hcells
    have HZ2 := Lib.hid hsz
    have HB16 := Lib.hid hb16
    clear hcells hsz hb16
    go_wp2_with fail
    go_loopw [102] (fun v wp => ∃ j : Nat, j ≤ 2 ∧ v = .int .i64 j ∧ Below W16.heap.size W16 wp) (fun v _ => 2 - (intOf v).toNat)
    case atStart => exact ⟨0, by omega, rfl, Below.refl _ _⟩
    case round =>
    obtain ⟨j, hj, rfl, hbl⟩ := hrel
    have HBP := Lib.hid hbl; clear hbl
    by_cases hltj : j < 2
    · have hvs := HPS.out j
      obtain ⟨f0, f1, f2, f3⟩ := (HC2.out j hltj).keep (w' := wr) fun q hq => HBP.out.cell (by rw [hq, adb]; exact HZ2.out)
      have CPV := Lib.hid (fun n => CPT.out n (twoP' ⟨ps, pa, po, pb⟩ ⟨qs, qa, qo, qb⟩ j) hvs)
      clear CPT HPS HC2 HZ2 hvs
      generalize twoP' ⟨ps, pa, po, pb⟩ ⟨qs, qa, qo, qb⟩ j = V0 at *
      obtain ⟨vs, va, vo, vb⟩ := V0
      simp only at f0 f1 f2 f3
      simp only at CPV
      have hj2 : (j : Int) < 2 := by omega
      have hj0 : (0 : Int) ≤ j := by omega
      have hwj : IntKind.i64.wrap ((j : Int) + 1) = (j : Int) + 1 := IntWalk.i64_in _ (by omega)
      have HX17 := Lib.hid (HX16.out.on HBP.out)
      have Q17 := Lib.hid (Q16.out.on HBP.out)
      go_upto_region 18 with (fail)
      have n5 := Joins.below_alloc1 wr (.cells #[.int .i64 vs, .int .i64 va, .int .i64 vo, .string vb] 23)
      have p23 := PcAt.new wr ⟨vs, va, vo, vb⟩
      have hb5 := HBP.out.trans (n5.mono HBP.out.size)
      have q18 := Q17.out.on n5
      have x18 := HX17.out.on n5
      simp only [pcl] at p23
      clear n5 HBP f0 f1 f2 f3 HX17 Q17 HX16 Q16
      generalize wr.alloc (.cells #[.int .i64 vs, .int .i64 va, .int .i64 vo, .string vb] 23) = W18 at *
      generalize wr.heap.size = g23 at *
      have HB18 := Lib.hid hb5
      have Q18 := Lib.hid q18
      have P18 := Lib.hid p23
      have HX18 := Lib.hid x18
      clear hb5 q18 p23 x18
      go_upto_region 19 with (fail)
      have n5 := Joins.below_alloc1 W18 (.cells #[.int .i64 inc, .int .i64 RI] 3)
      have hg : (W18.alloc (.cells #[.int .i64 inc, .int .i64 RI] 3)).heap[W18.heap.size]? = some (.cells #[.int .i64 inc, .int .i64 RI] 3 (0, 0)) := heap_alloc_new W18 _
      have hcells : ∀ j, j < 2 → (W18.alloc (.cells #[.int .i64 inc, .int .i64 RI] 3)).cell? ⟨W18.heap.size, j, none⟩ = some (.int .i64 (twoI' inc RI j)) := by
        intro j hj
        rcases (show j = 0 ∨ j = 1 by omega) with rfl | rfl
        · exact (cell_of hg 0).trans rfl
        · exact (cell_of hg 1).trans rfl
      have hsz : W18.heap.size < (W18.alloc (.cells #[.int .i64 inc, .int .i64 RI] 3)).heap.size := by simp
      have hb5 := HB18.out.trans (n5.mono HB18.out.size)
      have q19 := Q18.out.on n5
      have p19 := P18.out.on n5
      have x19 := HX18.out.on n5
      clear n5 hg HB18 Q18 P18 HX18
      generalize W18.alloc (.cells #[.int .i64 inc, .int .i64 RI] 3) = W19 at *
      generalize W18.heap.size = H19 at *
      have HC3 := Lib.hid hcells
      have HZ3 := Lib.hid hsz
      have HB19 := Lib.hid hb5
      have Q19 := Lib.hid q19
      have P19 := Lib.hid p19
      have HX19 := Lib.hid x19
      clear hcells hsz hb5 q19 p19 x19
      go_wp2_with fail
      go_loopw [110] (fun v wq => ∃ m : Nat, m ≤ 2 ∧ v = .int .i64 m ∧ Below W19.heap.size W19 wq) (fun v _ => 2 - (intOf v).toNat)
      case atStart => exact ⟨0, by omega, rfl, Below.refl _ _⟩
      case round =>
      obtain ⟨m, hm, rfl, hbl⟩ := hrel
      have HBQ := Lib.hid hbl; clear hbl
      by_cases hltm : m < 2
      · have hcm := (HBQ.out.cell (p := ⟨H19, m, none⟩) HZ3.out).trans (HC3.out m hltm)
        generalize twoI' inc RI m = K at *
        obtain ⟨Pi, Pq, Pl, PE, c1, c2, c3⟩ := CPV.out K
        have C1 := Lib.hid c1; clear c1
        have C2 := Lib.hid c2; clear c2
        have C3 := Lib.hid c3; clear c3
        have hm2 : (m : Int) < 2 := by omega
        have hwm : IntKind.i64.wrap ((m : Int) + 1) = (m : Int) + 1 := IntWalk.i64_in _ (by omega)
        have Q20 := Lib.hid (Q19.out.on HBQ.out)
        have P20 := Lib.hid (P19.out.on HBQ.out)
        have HX20 := Lib.hid (HX19.out.on HBQ.out)
        obtain ⟨⟨y0, y1, y2⟩, -⟩ := Q20.out.cells
        obtain ⟨x0, x1, x2, x3⟩ := P20.out.cells
        simp only at x0 x1 x2 x3
        go_wp2_with fail; refine (C1.out _ HX20.out).mono ?_; rintro e w20 ⟨A1, k1, rfl, s1, b1⟩
        have HB21 := Lib.hid (HBQ.out.trans (b1.mono HBQ.out.size))
        have Q21 := Lib.hid (Q20.out.on b1)
        have P21 := Lib.hid (P20.out.on b1)
        have HX21 := Lib.hid (HX20.out.on b1)
        clear b1 Q20 P20 HX20 HBQ hcm y0 y1 y2 x0 x1 x2 x3 C1
        go_upto_region 22 with (fail)
        have n5 := Joins.below_alloc1 w20 (.cells #[.int .i64 Pi, .int .i64 Pq, .slice A1 Pl.length k1] 46)
        have g26 := GatAt.new w20 Pi Pq (.slice A1 Pl.length k1)
        have hb5 := HB21.out.trans (n5.mono HB21.out.size)
        have q22 := Q21.out.on n5
        have p22 := P21.out.on n5
        have x22 := HX21.out.on n5
        have s22 := (s1.below n5 (Nat.le_refl _)).more n5.size
        simp only [gcl] at g26
        clear n5 HB21 Q21 P21 HX21 s1
        generalize w20.alloc (.cells #[.int .i64 Pi, .int .i64 Pq, .slice A1 Pl.length k1] 46) = W22 at *
        generalize w20.heap.size = h26 at *
        have HB22 := Lib.hid hb5
        have G22 := Lib.hid g26
        have S22 := Lib.hid s22
        have HX22 := Lib.hid x22
        obtain ⟨⟨y0, y1, y2⟩, -⟩ := q22.cells
        obtain ⟨x0, x1, x2, x3⟩ := p22.cells
        simp only at x0 x1 x2 x3
        clear hb5 g26 s22 q22 p22 x22
        go_wp2_with fail; refine (C2.out _ HX22.out).mono ?_; rintro e w23 ⟨A2, k2, rfl, s2, b2⟩
        have HB23 := Lib.hid (HB22.out.trans (b2.mono HB22.out.size))
        have G23 := Lib.hid (G22.out.on b2)
        have S23 := Lib.hid ((S22.out.below b2 (Nat.le_refl _)).more b2.size)
        clear b2 HB22 G22 S22 HX22 y0 y1 y2 x0 x1 x2 x3 C2
        go_upto_region 23 with (fail)
        have n5 := Joins.below_alloc1 w23 (.cells #[.int .i64 Pi, .int .i64 Pq, .slice A2 Pl.length k2] 46)
        have g28 := GatAt.new w23 Pi Pq (.slice A2 Pl.length k2)
        have hb5 := HB23.out.trans (n5.mono HB23.out.size)
        have g24 := G23.out.on n5
        have s24 := (S23.out.below n5 (Nat.le_refl _)).more n5.size
        have t24 := (s2.below n5 (Nat.le_refl _)).more n5.size
        simp only [gcl] at g28
        clear n5 HB23 G23 S23 s2
        generalize w23.alloc (.cells #[.int .i64 Pi, .int .i64 Pq, .slice A2 Pl.length k2] 46) = W24 at *
        generalize w23.heap.size = h28 at *
        have HB24 := Lib.hid hb5
        have S24 := Lib.hid s24
        have T24 := Lib.hid t24
        obtain ⟨⟨y0, y1, y2⟩, -⟩ := g24.cells
        obtain ⟨⟨z0, z1, z2⟩, -⟩ := g28.cells
        clear hb5 s24 t24 g24 g28
        go_wp2_with fail; refine (C3.out _ _ _ _ _ S24.out T24.out).mono ?_; rintro e w25 ⟨rfl, b5⟩
        have HB25 := Lib.hid (HB24.out.trans (b5.mono HB24.out.size))
        clear b5 HB24 S24 T24 y0 y1 y2 z0 z1 z2
        go_wp2_with fail
        go_roundw
        case rel => exact ⟨m + 1, by omega, by go_num, HB25.out⟩
        case measure => simp [intOf]; omega
      · have hm2 : ¬ (m : Int) < 2 := by omega
        go_wp2_with fail
        go_roundw
        case rel => exact ⟨j + 1, by omega, by go_num, HB19.out.trans (HBQ.out.mono HB19.out.size)⟩
        case measure => simp [intOf]; omega
    · have hj2 : ¬ (j : Int) < 2 := by omega
      go_wp2_with fail
      go_roundw
      case rel => exact ⟨i + 1, by omega, by go_num, HB16.out.trans (HBP.out.mono HB16.out.size)⟩
      case measure => simp [intOf]; omega
  · have hi4 : ¬ (i : Int) < 4 := by omega
    go_wp2_with fail
    go_ret
    exact ⟨rfl, HB11.out.trans (HBL.out.mono HB11.out.size)⟩

end Go.Proofs.Ytggeojjiongbbaa

/-
  What was gathered, and a piece put to it: plain mathematics; the memory in which both lie.
-/
import Derived.Test.YtggeojjiongbbaaFragOwn
import Derived.Test.YtggeojjiongbbaaFragText
import Derived.Laws.MakeOwn
namespace Go.Proofs.Ytggeojjiongbbaa
open Go.RowKit

structure Gt where
  i : Int
  q : Int
  l : List ByteArray
def mayG (g : Gt) : Bool := mayB g.i g.q g.l
def okG (g : Gt) (inc : Int) (p : Pc) : Bool := mayG g && (rightP p && smallB inc)
def blank (n : Nat) : List ByteArray := List.replicate n ⟨#[]⟩
def keptB (g : Gt) (inc : Int) (p : Pc) : Bool := decide (g.i = inc) && (decide (g.q = p.seq) && decide ((g.l.length : Int) = p.of'))
def basisL (g : Gt) (inc : Int) (p : Pc) : List ByteArray := if keptB g inc p = true then g.l else blank p.of'.toNat
def putAt (l : List ByteArray) (k : Nat) (d : ByteArray) : List ByteArray := if fullB (l.getD k ⟨#[]⟩) = true then l else l.set k d
def putG (g : Gt) (inc : Int) (p : Pc) : Gt := if okG g inc p = true then (if newerB g.i g.q inc p.seq = true then g else ⟨inc, p.seq, putAt (basisL g inc p) p.at'.toNat p.bytes⟩) else g
def putE (g : Gt) (inc : Int) (p : Pc) : Int := if okG g inc p = true then 0 else 1
theorem putG_no {g : Gt} {inc : Int} {p : Pc} (h : okG g inc p = false) : putG g inc p = g ∧ putE g inc p = 1 := by
  unfold putG putE; rw [h]; exact ⟨rfl, rfl⟩
theorem putG_old {g : Gt} {inc : Int} {p : Pc} (h : okG g inc p = true) (h2 : newerB g.i g.q inc p.seq = true) : putG g inc p = g ∧ putE g inc p = 0 := by
  unfold putG putE; rw [h, h2]; exact ⟨rfl, rfl⟩
theorem putG_new {g : Gt} {inc : Int} {p : Pc} (h : okG g inc p = true) (h2 : newerB g.i g.q inc p.seq = false) {l : List ByteArray} (hl : putAt (basisL g inc p) p.at'.toNat p.bytes = l) : putG g inc p = ⟨inc, p.seq, l⟩ ∧ putE g inc p = 0 := by
  unfold putG putE; rw [h, h2, ← hl]; exact ⟨rfl, rfl⟩
theorem full_empty : fullB ⟨#[]⟩ = false := by
  unfold fullB
  simp
theorem blank_length (n : Nat) : (blank n).length = n := List.length_replicate
theorem blank_at (n k : Nat) (h : k < n) : (blank n)[k]? = some ⟨#[]⟩ := by unfold blank; rw [List.getElem?_replicate, if_pos h]

/-- What is handed back, with what was gathered in it. -/
def GatRes (g : Gt) (E : Int) (w : World) (e : Ending) (w' : World) : Prop :=
  ∃ A c, e = .returned (.tuple #[gv g.i g.q (.slice A g.l.length c), .int .i64 E]) ∧ g.l.length ≤ c ∧ Strs w' w'.heap.size A g.l ∧ Below w.heap.size w w'
theorem GatRes.of {g g' : Gt} {E E' : Int} {w w' : World} {A : Option Addr} {c : Nat} (h : g' = g ∧ E' = E) (hc : g.l.length ≤ c) (hs : Strs w' w'.heap.size A g.l) (hb : Below w.heap.size w w') : GatRes g' E' w (.returned (.tuple #[gv g.i g.q (.slice A g.l.length c), .int .i64 E])) w' := by
  obtain ⟨rfl, rfl⟩ := h
  exact ⟨A, c, rfl, hc, hs, hb⟩

/-- A new list of empty texts. -/
theorem make_run (n : Nat) (h : n ≤ 20) (w : World) : (Instr.makeSlice 27 (.int .i64 (n : Int)) (.int .i64 (n : Int))).run Try.prog w = .ok (.slice (some ⟨w.heap.size, 0, none⟩) n n) (w.alloc (.cells (madeCells #[.string ⟨#[]⟩] n) 9)) := by
  obtain ⟨i0, hi, hz0, hz1, hz2⟩ := info_parts str_info
  have := run_make (P := Try.prog) w 27 9 i0 (.string ⟨#[]⟩) Try.underlying27 hi hz0 .i64 .i64 (n : Int) (n : Int) (by omega) (Int.le_refl _) (by rw [hz2]; omega) (by omega)
  rw [this, Int.toNat_natCast, hz1, Nat.mul_one]
  rfl
theorem made_own (w : World) (B n : Nat) (hB : B ≤ w.heap.size) (h : n ≤ 20) : OwnS (w.alloc (.cells (madeCells #[.string ⟨#[]⟩] n) 9)) B (.slice (some ⟨w.heap.size, 0, none⟩) n n) (blank n) := by
  have := World.ownsRow_lit (base := B) (e := 9) (size := 1) w (madeCells #[.string ⟨#[]⟩] n) n hB (by unfold maxLen; omega) (by rw [size_madeCells]; omega)
  rw [toList_madeCells_one] at this
  unfold OwnS
  rw [blank_length]
  have e : (blank n).map Value.string = List.replicate n (.string ⟨#[]⟩) := by unfold blank; rw [List.map_replicate]
  rw [e]
  exact this

/-- A text put at its place. -/
theorem putAt_kept {l : List ByteArray} {k : Nat} {x d : ByteArray} (hx : l[k]? = some x) (h : fullB x = true) : putAt l k d = l := by
  unfold putAt
  rw [List.getD_eq_getElem?_getD, hx, Option.getD_some, h]; rfl
theorem putAt_set {l : List ByteArray} {k : Nat} {x d : ByteArray} (hx : l[k]? = some x) (h : fullB x = false) : putAt l k d = l.set k d := by
  unfold putAt
  rw [List.getD_eq_getElem?_getD, hx, Option.getD_some, h]; rfl

theorem OwnS.strs {w : World} {B : Nat} {A : Option Addr} {n c : Nat} {l : List ByteArray} (h : OwnS w B (.slice A n c) l) : Strs w w.heap.size A l := by
  obtain ⟨A', c', e, _, hs⟩ := h.row
  injection e with e1 e2 e3
  rw [e1]; exact hs
theorem OwnS.lit {w : World} {B g n c : Nat} {l : List ByteArray} (h : OwnS w B (.slice (some ⟨g, 0, none⟩) n c) l) (k : Nat) (x : ByteArray) (hx : l[k]? = some x) :
    w.cell? ⟨g, k, none⟩ = some (.string x) ∧ w.frozen? ⟨g, k, none⟩ = false ∧ n = l.length ∧ n ≤ c ∧ (B ≤ g ∧ g < w.heap.size) ∧ ∀ d, OwnS (w.setCell ⟨g, k, none⟩ (.string d)) B (.slice (some ⟨g, 0, none⟩) n c) (l.set k d) ∧ w.grownBy (w.setCell ⟨g, k, none⟩ (.string d)) (some g) := by
  have hk := (List.getElem?_eq_some_iff.1 hx).1
  obtain ⟨g', c', e, h1, h2, h3, h4, h5, h6⟩ := h.one (by omega)
  injection e with e1 e2 e3
  injection e1 with e1
  injection e1 with e1 _ _
  subst e1 e2 e3
  obtain ⟨ad, e', _, hc⟩ := h4 (by omega)
  injection e' with e'
  have := hc k x hx
  rw [← e', Addr.add] at this
  refine ⟨?_, h5 k, rfl, h3, ⟨h1, h2⟩, fun d => h6 k d⟩
  by_cases h0 : k = 0
  · subst h0; simpa using this
  · rw [if_neg h0] at this; simpa using this
theorem OwnS.cap {w : World} {B : Nat} {A : Option Addr} {n c : Nat} {l : List ByteArray} (h : OwnS w B (.slice A n c) l) : l.length ≤ c := by
  obtain ⟨A', c', e, hc, _⟩ := h.row
  injection e with e1 e2 e3
  rw [e3]; exact hc
theorem add_zero (g k : Nat) : (⟨g, 0, none⟩ : Addr).add k = ⟨g, k, none⟩ := by unfold Addr.add; split <;> simp_all
theorem kept_yes {g : Gt} {inc : Int} {p : Pc} (h : g.i = inc ∧ g.q = p.seq ∧ (g.l.length : Int) = p.of') : basisL g inc p = g.l := by
  unfold basisL keptB
  rw [if_pos (by simp [h.1, h.2.1, h.2.2])]
theorem kept_no {g : Gt} {inc : Int} {p : Pc} (h : ¬ (g.i = inc ∧ g.q = p.seq ∧ (g.l.length : Int) = p.of')) : basisL g inc p = blank p.of'.toNat := by
  unfold basisL keptB
  rw [if_neg]
  intro hh
  simp only [Bool.and_eq_true, decide_eq_true_eq] at hh
  exact h hh
theorem blank_set (n k : Nat) (h : k < n) (d : ByteArray) : putAt (blank n) k d = (blank n).set k d := putAt_set (blank_at n k h) full_empty
/-- The boxes of a call of Put, from its first world on. -/
structure St (w0 w : World) (b1 b2 : Nat) (g : Gt) (A : Option Addr) (c : Nat) (p : Pc) : Prop where
  bel : Below w0.heap.size w0 w
  gat : GatAt w w0.heap.size g.i g.q (.slice A g.l.length c)
  pc : PcAt w b1 p
  res : GatAt w b2 0 0 (.slice none 0 0)
  str : Strs w w0.heap.size A g.l
theorem St.on {w0 w w' : World} {b1 b2 : Nat} {g : Gt} {A : Option Addr} {c : Nat} {p : Pc} (h : St w0 w b1 b2 g A c p) (hb : Below w.heap.size w w') : St w0 w' b1 b2 g A c p :=
  ⟨h.bel.trans (hb.mono h.bel.size), h.gat.on hb, h.pc.on hb, h.res.on hb, h.str.below hb h.bel.size⟩
theorem St.drew {w0 w : World} {b1 b2 : Nat} {g : Gt} {A : Option Addr} {c : Nat} {p : Pc} (h : St w0 w b1 b2 g A c p) : St w0 w.drew b1 b2 g A c p := ⟨h.bel.drew, h.gat, h.pc, h.res, h.str⟩
theorem PcAt.lt {w : World} {g : Nat} {p : Pc} (h : PcAt w g p) : g < w.heap.size := (Array.getElem?_eq_some_iff.1 h).1
theorem PcAt.grown {w w' : World} {g b : Nat} {p : Pc} (h : PcAt w g p) (hg : w.grownBy w' (some b)) (hne : g ≠ b) : PcAt w' g p :=
  (hg.block g h.lt (fun e => hne (Option.some.inj e))).trans h
/-- One block of the call's own is written. -/
theorem St.grown {w0 w w' : World} {b1 b2 b : Nat} {g : Gt} {A : Option Addr} {c : Nat} {p : Pc} (h : St w0 w b1 b2 g A c p) (hg : w.grownBy w' (some b)) (h0 : w0.heap.size < b) (h1 : b1 ≠ b) (h2 : b2 ≠ b) : St w0 w' b1 b2 g A c p :=
  ⟨h.bel.grown hg h.bel.size (fun k e => by cases e; omega), h.gat.grown hg (fun e => by injection e with e; omega), h.pc.grown hg h1, h.res.grown hg (fun e => by injection e with e; exact h2 e.symm), h.str.grown hg (by omega) h.bel.size⟩
theorem St.start {w W1 W2 W3 : World} {g : Gt} {A : Option Addr} {c : Nat} {p : Pc} (hA : Strs w w.heap.size A g.l)
    (h1 : w.alloc (.cells (gcl g.i g.q (.slice A g.l.length c)) 46) = W1) (h2 : W1.alloc (.cells (pcl p) 23) = W2) (h3 : W2.alloc (.cells (gcl 0 0 (.slice none 0 0)) 46) = W3) :
    St w W3 W1.heap.size W2.heap.size g A c p ∧ w.heap.size < W1.heap.size ∧ W1.heap.size < W2.heap.size ∧ W2.heap.size < W3.heap.size := by
  have a1 := Joins.below_alloc1 w (.cells (gcl g.i g.q (.slice A g.l.length c)) 46)
  have a2 := Joins.below_alloc1 W1 (.cells (pcl p) 23)
  have a3 := Joins.below_alloc1 W2 (.cells (gcl 0 0 (.slice none 0 0)) 46)
  have g1 := GatAt.new w g.i g.q (.slice A g.l.length c)
  have g2 := PcAt.new W1 p
  have g3 := GatAt.new W2 0 0 (.slice none 0 0)
  rw [h1] at a1 g1
  rw [h2] at a2 g2
  rw [h3] at a3 g3
  have l1 := g1.lt
  have l2 := g2.lt
  have l3 := g3.lt
  have s1 := a1.size
  have s2 := a2.size
  refine ⟨⟨a1.trans ((a2.trans (a3.mono a2.size)).mono a1.size), (g1.on a2).on a3, g2.on a3, g3, ((hA.below a1 (Nat.le_refl _)).below a2 (by omega)).below a3 (by omega)⟩, l1, l2, l3⟩

/-- What the two calls hand back at their ends. -/
theorem St.fin {w0 w : World} {b1 b2 : Nat} {g g' G : Gt} {A A' : Option Addr} {c c' : Nat} {p : Pc} {E E' : Int} {B : Nat} (h : St w0 w b1 b2 g A c p) (hr : G = g' ∧ E' = E) (ho : OwnS w B (.slice A' g'.l.length c') g'.l) (hb2 : w0.heap.size ≤ b2) :
    GatRes G E' w0 (.returned (.tuple #[gv g'.i g'.q (.slice A' g'.l.length c'), .int .i64 E])) (put3 w b2 g'.i g'.q (.slice A' g'.l.length c')) :=
  GatRes.of hr ho.cap (ho.grown (put3_grown w b2 _ _ _) (ho.block h.res (by decide))).strs (put3_below h.bel hb2 _ _ _)

end Go.Proofs.Ytggeojjiongbbaa

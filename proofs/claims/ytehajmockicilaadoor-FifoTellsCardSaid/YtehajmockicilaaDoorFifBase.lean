/-
  Fifos as values and as they lie in memory; the small calls of layer 14.
-/
import Derived.Test.YtehajmockicilaaDoorTxqOwn
import Derived.Deep.DeepCutAuto
namespace Go.Proofs.YtehajmockicilaaDoor
open Go Go.RowKit

/-! ## Fifos -/
abbrev fiv (L T : Int) (A : Option Addr) (n c : Nat) : Value := .agg #[.int .i64 L, .int .i64 T, .slice A n c]
abbrev fic (L T : Int) (A : Option Addr) (n c : Nat) : Array Value := #[.int .i64 L, .int .i64 T, .slice A n c]
/-- Block b is a fifo. -/
def FiAt (w : World) (b : Nat) (L T : Int) (A : Option Addr) (n c : Nat) : Prop := w.heap[b]? = some (.cells (fic L T A n c) 30 (0, 0))
theorem FiAt.new (w : World) (L T : Int) (A : Option Addr) (n c : Nat) : FiAt (w.alloc (.cells #[.int .i64 L, .int .i64 T, .slice A n c] 30)) w.heap.size L T A n c := heap_alloc_new w _
theorem FiAt.lt {w : World} {b : Nat} {L T : Int} {A : Option Addr} {n c : Nat} (h : FiAt w b L T A n c) : b < w.heap.size := (Array.getElem?_eq_some_iff.1 h).1
theorem FiAt.on {w w' : World} {b : Nat} {L T : Int} {A : Option Addr} {n c : Nat} (h : FiAt w b L T A n c) (hb : Below w.heap.size w w') : FiAt w' b L T A n c := (hb.block b h.lt).trans h
theorem FiAt.kept {w w' : World} {b : Nat} {L T : Int} {A : Option Addr} {n c : Nat} (h : FiAt w b L T A n c) (hb : w'.heap[b]? = w.heap[b]?) : FiAt w' b L T A n c := hb.trans h
theorem FiAt.cells {w : World} {b : Nat} {L T : Int} {A : Option Addr} {n c : Nat} (h : FiAt w b L T A n c) : w.cell? ⟨b, 0, none⟩ = some (.int .i64 L) ∧ w.cell? ⟨b, 1, none⟩ = some (.int .i64 T) ∧ w.cell? ⟨b, 2, none⟩ = some (.slice A n c) := ⟨cell_of h 0, cell_of h 1, cell_of h 2⟩
theorem FiAt.frozen {w : World} {b : Nat} {L T : Int} {A : Option Addr} {n c : Nat} (h : FiAt w b L T A n c) (i : Nat) : w.frozen? ⟨b, i, none⟩ = false := by simp [World.frozen?, show w.heap[b]? = _ from h]
/-- Three cells of a block set anew. -/
abbrev set3 (w : World) (b : Nat) (x y z : Value) : World := ((w.setCell ⟨b, 0, none⟩ x).setCell ⟨b, 1, none⟩ y).setCell ⟨b, 2, none⟩ z
theorem FiAt.set {w : World} {b : Nat} {L T : Int} {A : Option Addr} {n c : Nat} (h : FiAt w b L T A n c) (L' T' : Int) (A' : Option Addr) (n' c' : Nat) : FiAt (set3 w b (.int .i64 L') (.int .i64 T') (.slice A' n' c')) b L' T' A' n' c' := by
  have h1 := set_blk (set_blk (set_blk h 0 (.int .i64 L')) 1 (.int .i64 T')) 2 (.slice A' n' c')
  unfold FiAt
  rw [h1]
  simp
theorem below_set3 {B : Nat} {a w : World} (h : Below B a w) {b : Nat} (hB : B ≤ b) (x y z : Value) : Below B a (set3 w b x y z) := ((h.setCell (p := ⟨b, 0, none⟩) hB x).setCell (p := ⟨b, 1, none⟩) hB y).setCell (p := ⟨b, 2, none⟩) hB z
theorem far3 (w : World) {b g : Nat} (x y z : Value) (h : g ≠ b) : (set3 w b x y z).heap[g]? = w.heap[g]? := by
  simp only [set3, Below.heap_setCell _ _ _ _ (show g ≠ (⟨b, _, none⟩ : Addr).block from h)]
theorem size3 (w : World) (b : Nat) (x y z : Value) : (set3 w b x y z).heap.size = w.heap.size := by simp only [set3, World.size_setCell]

/-! ## What stays where another block is written -/
theorem QTold.onw {A0 : Option Addr} {S : Nat} {w w' : World} {l : List Msg} {A : Option Addr} {c : Nat} (h : QTold A0 S w l A c) (hb : Below w.heap.size w w') : QTold A0 S w' l A c :=
  ⟨h.cap, h.msgs.on hb, fun ad e => Nat.lt_of_lt_of_le (h.low ad e) hb.size, h.fresh⟩
theorem QTold.cell1 {S b i : Nat} {w : World} {l : List Msg} {A : Option Addr} {c : Nat} (h : QTold none S w l A c) (hb : b < S) (v : Value) : QTold none S (w.setCell ⟨b, i, none⟩ v) l A c :=
  h.keep (fun ad e => by cases e) (fun k hk => Below.heap_setCell _ _ _ _ (by show k ≠ b; omega)) (Nat.le_of_eq (World.size_setCell _ _ _).symm)
theorem QTold.put3 {S b : Nat} {w : World} {l : List Msg} {A : Option Addr} {c : Nat} (h : QTold none S w l A c) (hb : b < S) (x y z : Value) : QTold none S (set3 w b x y z) l A c :=
  ((h.cell1 hb x).cell1 hb y).cell1 hb z
theorem QTold.put7 {S b : Nat} {w : World} {l : List Msg} {A : Option Addr} {c : Nat} (h : QTold none S w l A c) (hb : b < S) (m : Msg) : QTold none S (set7 w b m) l A c :=
  h.keep (fun ad e => by cases e) (fun k hk => set7_far w (by omega) m) (Nat.le_of_eq (set7_size _ _ _).symm)
theorem QTold.apart {S b i : Nat} {w : World} {l : List Msg} {A : Option Addr} {c : Nat} (h : QTold none S w l A c) (hb : ∀ ad, A = some ad → ad.block ≠ b) (v : Value) : QTold none S (w.setCell ⟨b, i, none⟩ v) l A c := by
  refine ⟨h.cap, fun hn => ?_, fun ad e => by rw [World.size_setCell]; exact h.low ad e, h.fresh⟩
  obtain ⟨ad, e, hlt, hc⟩ := h.msgs hn
  refine ⟨ad, e, by rw [World.size_setCell]; exact hlt, fun j m hm => (hc j m hm).keep fun q hq => World.cell?_of_block ?_⟩
  rw [hq, adb]
  exact Below.heap_setCell _ _ _ _ (hb ad e)
theorem QTold.apart3 {S b : Nat} {w : World} {l : List Msg} {A : Option Addr} {c : Nat} (h : QTold none S w l A c) (hb : ∀ ad, A = some ad → ad.block ≠ b) (x y z : Value) : QTold none S (set3 w b x y z) l A c :=
  ((h.apart hb x).apart hb y).apart hb z
theorem FiAt.cell1 {w : World} {g b i : Nat} {L T : Int} {A : Option Addr} {n c : Nat} (h : FiAt w g L T A n c) (hg : g ≠ b) (v : Value) : FiAt (w.setCell ⟨b, i, none⟩ v) g L T A n c :=
  (Below.heap_setCell _ _ _ _ (by show g ≠ b; exact hg)).trans h
theorem FiAt.put3 {w : World} {g b : Nat} {L T : Int} {A : Option Addr} {n c : Nat} (h : FiAt w g L T A n c) (hg : g ≠ b) (x y z : Value) : FiAt (set3 w b x y z) g L T A n c :=
  ((h.cell1 hg x).cell1 hg y).cell1 hg z
theorem FiAt.put7 {w : World} {g b : Nat} {L T : Int} {A : Option Addr} {n c : Nat} (h : FiAt w g L T A n c) (hg : g ≠ b) (m : Msg) : FiAt (set7 w b m) g L T A n c := (set7_far w hg m).trans h
theorem MsgAt.cell1 {w : World} {g b i : Nat} {m : Msg} (h : MsgAt w g m) (hg : g ≠ b) (v : Value) : MsgAt (w.setCell ⟨b, i, none⟩ v) g m :=
  (Below.heap_setCell _ _ _ _ (by show g ≠ b; exact hg)).trans h
theorem MsgAt.put3 {w : World} {g b : Nat} {m : Msg} (h : MsgAt w g m) (hg : g ≠ b) (x y z : Value) : MsgAt (set3 w b x y z) g m := ((h.cell1 hg x).cell1 hg y).cell1 hg z
theorem FiAt.lost {w : World} {b : Nat} {L T : Int} {A : Option Addr} {n c : Nat} (h : FiAt w b L T A n c) (T' : Int) : FiAt (w.setCell ⟨b, 1, none⟩ (.int .i64 T')) b L T' A n c := by
  have h1 := set_blk h 1 (.int .i64 T')
  unfold FiAt
  rw [h1]
  simp
theorem FiAt.list {w : World} {b : Nat} {L T : Int} {A : Option Addr} {n c : Nat} (h : FiAt w b L T A n c) (A' : Option Addr) (n' c' : Nat) : FiAt (w.setCell ⟨b, 2, none⟩ (.slice A' n' c')) b L T A' n' c' := by
  have h1 := set_blk h 2 (.slice A' n' c')
  unfold FiAt
  rw [h1]
  simp
theorem QTold.ofOwn {A0 : Option Addr} {S : Nat} {w : World} {l : List Msg} {A : Option Addr} {c : Nat} (h : OwnM w S (.slice A l.length c) l) : QTold A0 S w l A c := by
  obtain ⟨A', c', e, ht⟩ := QTold.own (A0 := A0) h
  injection e with e1 e2 e3
  subst e1 e3
  exact ht
theorem OwnM.cell1 {w : World} {S b i : Nat} {u : Value} {l : List Msg} (h : OwnM w S u l) (hb : b < S) (v : Value) : OwnM (w.setCell ⟨b, i, none⟩ v) S u l := ownsRow_setCell_below h (a := ⟨b, i, none⟩) hb v
theorem OwnM.put3 {w : World} {S b : Nat} {u : Value} {l : List Msg} (h : OwnM w S u l) (hb : b < S) (x y z : Value) : OwnM (set3 w b x y z) S u l := ((h.cell1 hb x).cell1 hb y).cell1 hb z
/-- A block has one type: a list's block is no fifo's. -/
theorem OwnM.no_fifo {w : World} {B b : Nat} {u : Value} {l : List Msg} {L T : Int} {A : Option Addr} {n c : Nat} (h : OwnM w B u l) (hf : FiAt w b L T A n c) : u.ownBlock ≠ some b := by
  rcases h.2 with ⟨e, _⟩ | ⟨g, cap, cur, e, hb, hr, _⟩
  · rw [e]; intro h2; cases h2
  · rw [e]; intro h2
    injection h2 with h3
    have h4 : g = b := h3
    subst h4
    rw [show w.heap[g]? = _ from hf] at hr
    injection hr with h5
    injection h5 with h6 h7 h8
    revert h7; decide
theorem OwnM.far_fifo {w : World} {B b : Nat} {l : List Msg} {A' : Option Addr} {n' c' : Nat} {L T : Int} {A : Option Addr} {n c : Nat} (h : OwnM w B (.slice A' n' c') l) (hf : FiAt w b L T A n c) : ∀ ad, A' = some ad → ad.block ≠ b := fun ad e e2 => by
  subst e
  exact h.no_fifo hf (by rw [← e2]; rfl)
theorem FiAt.grown {w w' : World} {B b : Nat} {u : Value} {l : List Msg} {L T : Int} {A : Option Addr} {n c : Nat} (hf : FiAt w b L T A n c) (h : OwnM w B u l) (hg : w.grownBy w' u.ownBlock) : FiAt w' b L T A n c :=
  (hg.block b hf.lt (fun e => h.no_fifo hf e.symm)).trans hf

/-! ## Small calls -/
def withB (a b n : Int) : Bool := decide (a ≤ n) && decide (n ≤ b)
theorem withB_iff (a b n : Int) : withB a b n = true ↔ a ≤ n ∧ n ≤ b := by unfold withB; simp
theorem withB_not (a b n : Int) : withB a b n = false ↔ n < a ∨ b < n := by rw [← Bool.not_eq_true, withB_iff]; omega
set_option maxRecDepth 100000 in
theorem fiWithin_any (a b n : Int) (w : World) : Calls Tryd.prog 53 #[.int .i64 a, .int .i64 b, .int .i64 n] w fun e w' => e = .returned (.bool (withB a b n)) ∧ w = w' := by
  by_cases h1 : a ≤ n
  · by_cases h2 : n ≤ b
    · have hv := Lib.hid ((withB_iff a b n).2 ⟨h1, h2⟩)
      go_enter Tryd.func53, Tryd.ntmps53
      go_wp2
      go_ret
      exact ⟨ret_b hv.out.symm, rfl⟩
    · have hv := Lib.hid ((withB_not a b n).2 (.inr (by omega)))
      go_enter Tryd.func53, Tryd.ntmps53
      go_wp2
      go_ret
      exact ⟨ret_b hv.out.symm, rfl⟩
  · have hv := Lib.hid ((withB_not a b n).2 (.inl (by omega)))
    go_enter Tryd.func53, Tryd.ntmps53
    go_wp2
    go_ret
    exact ⟨ret_b hv.out.symm, rfl⟩
theorem limB_with (n : Int) : withB 1 32 n = limB n := rfl
set_option maxRecDepth 100000 in
theorem fiLim_any (n : Int) (w : World) : Calls Tryd.prog 48 #[.int .i64 n] w fun e w' => e = .returned (.bool (limB n)) ∧ w = w' := by
  have cl := fun W => fiWithin_any 1 32 n W
  rw [limB_with] at cl
  generalize limB n = B at *
  go_enter Tryd.func48, Tryd.ntmps48
  go_wp2_with fail; refine (cl _).mono ?_; rintro e w1 ⟨rfl, rfl⟩
  go_wp2_with fail
  go_ret
  exact ⟨rfl, rfl⟩

theorem fi_res {fn : Func} {i j : Nat} (hr : fn.results = #[.cell i 30, .tmp j]) {Y : World} {b : Nat} {L T0 E : Int} {A : Option Addr} {n c : Nat} {T : Array Value} (h : FiAt Y b L T0 A n c) (ht : T[i]? = some (.pointer (some ⟨b, 0, none⟩))) (hs : T[j]? = some (.int .i64 E)) :
    (results fn T).run Tryd.prog Y = .ok (.tuple #[fiv L T0 A n c, .int .i64 E]) Y := by
  obtain ⟨h0, h1, h2⟩ := h.cells
  simp [results, hr, go_sem, h0, h1, h2, ht, hs]

set_option maxRecDepth 100000 in
theorem fiNew_any (n : Int) (w : World) : Calls Tryd.prog 11 #[.int .i64 n] w fun e w' => e = .returned (.tuple #[fiv (newL n) 0 none 0 0, .int .i64 (newE n)]) ∧ Below w.heap.size w w' := by
  have hN := FiAt.new w 0 0 none 0 0
  have HB := Lib.hid (Joins.below_alloc1 w (.cells #[.int .i64 0, .int .i64 0, .slice none 0 0] 30))
  have cl := fun W => fiLim_any n W
  have HN := Lib.hid hN
  have HL : Hid (newL n = if limB n = true then n else 0) := Lib.hid rfl
  have HE : Hid (newE n = if limB n = true then 0 else 1) := Lib.hid rfl
  obtain ⟨y0, y1, y2⟩ := hN.cells
  have yf := hN.frozen
  clear hN
  cases h : limB n
  · rw [h] at cl HL HE
    go_enter Tryd.func11, Tryd.ntmps11
    go_wp2_with fail; refine (cl _).mono ?_; rintro e w1 ⟨rfl, rfl⟩
    go_wp2_with fail
    rw [HL.out, HE.out]
    exact bodyPost_ret (fi_res Tryd.results11 HN.out rfl rfl) rfl ⟨rfl, HB.out⟩
  · rw [h] at cl HL HE
    go_enter Tryd.func11, Tryd.ntmps11
    go_wp2_with fail; refine (cl _).mono ?_; rintro e w1 ⟨rfl, rfl⟩
    go_wp2_with fail
    rw [HL.out, HE.out]
    exact bodyPost_ret (fi_res Tryd.results11 (FiAt.new w n 0 none 0 0) rfl rfl) rfl ⟨rfl, Joins.below_alloc1 w _⟩

set_option maxRecDepth 100000 in
theorem refFiNew_any (n : Int) (w : World) : Calls Tryd.prog 12 #[.int .i64 n] w fun e w' => e = .returned (.tuple #[fiv (newL n) 0 none 0 0, .int .i64 (newE n)]) ∧ Below w.heap.size w w' := by
  have hN := FiAt.new w 0 0 none 0 0
  have HB := Lib.hid (Joins.below_alloc1 w (.cells #[.int .i64 0, .int .i64 0, .slice none 0 0] 30))
  have HN := Lib.hid hN
  have HL : Hid (newL n = if limB n = true then n else 0) := Lib.hid rfl
  have HE : Hid (newE n = if limB n = true then 0 else 1) := Lib.hid rfl
  obtain ⟨y0, y1, y2⟩ := hN.cells
  have yf := hN.frozen
  clear hN
  by_cases h1 : n < 1
  · rw [(limB_not n).2 (.inl h1)] at HL HE
    go_enter Tryd.func12, Tryd.ntmps12
    go_wp2_with fail
    rw [HL.out, HE.out]
    exact bodyPost_ret (fi_res Tryd.results12 HN.out rfl rfl) rfl ⟨rfl, HB.out⟩
  · by_cases h2 : 32 < n
    · rw [(limB_not n).2 (.inr h2)] at HL HE
      go_enter Tryd.func12, Tryd.ntmps12
      go_wp2_with fail
      rw [HL.out, HE.out]
      exact bodyPost_ret (fi_res Tryd.results12 HN.out rfl rfl) rfl ⟨rfl, HB.out⟩
    · rw [(limB_iff n).2 (by omega)] at HL HE
      go_enter Tryd.func12, Tryd.ntmps12
      go_wp2_with fail
      rw [HL.out, HE.out]
      exact bodyPost_ret (fi_res Tryd.results12 (FiAt.new w n 0 none 0 0) rfl rfl) rfl ⟨rfl, Joins.below_alloc1 w _⟩

/-- Are two fifos the same? -/
def sameFi (L L' T T' : Int) (a b : List Msg) : Bool := (L == L' && T == T') && sameL a b
set_option maxRecDepth 100000 in
theorem sameFi_any (L L' T T' : Int) (A A' : Option Addr) (c c' : Nat) (a b : List Msg) (w : World) (ha : QIn w A c a) (hb : QIn w A' c' b) :
    Calls Tryd.prog 13 #[fiv L T A a.length c, fiv L' T' A' b.length c'] w fun e w' => e = .returned (.bool (sameFi L L' T T' a b)) ∧ Below w.heap.size w w' := by
  have HS : Hid (sameFi L L' T T' a b = ((L == L' && T == T') && sameL a b)) := Lib.hid rfl
  have q1 := FiAt.new w L T A a.length c
  have b1 := Joins.below_alloc1 w (.cells #[.int .i64 L, .int .i64 T, .slice A a.length c] 30)
  have q2 := FiAt.new (w.alloc (.cells #[.int .i64 L, .int .i64 T, .slice A a.length c] 30)) L' T' A' b.length c'
  have b2 := Joins.below_alloc1 (w.alloc (.cells #[.int .i64 L, .int .i64 T, .slice A a.length c] 30)) (.cells #[.int .i64 L', .int .i64 T', .slice A' b.length c'] 30)
  have q1' := q1.on b2
  rw [World.size_alloc] at q2
  have B2 := b1.trans (b2.mono b1.size)
  have ha2 := (ha.on b1).on b2
  have hb2 := (hb.on b1).on b2
  clear q1 b1 b2
  have hl : a.length ≤ maxLen := by have := ha.few; unfold maxLen; omega
  have cs := fun W (h1 : Msgs W W.heap.size A a) (h2 : Msgs W W.heap.size A' b) => same_any A A' c c' _ _ a b W h1 h2 hl
  obtain ⟨x0, x1, x2⟩ := q1'.cells
  obtain ⟨y0, y1, y2⟩ := q2.cells
  have HB := Lib.hid B2
  have HA := Lib.hid ha2
  have HBB := Lib.hid hb2
  clear q1' q2 B2 ha2 hb2 hl ha hb
  by_cases h : L = L'
  · subst h
    by_cases h' : T = T'
    · subst h'
      go_enter Tryd.func13, Tryd.ntmps13
      go_wp2_with fail; refine (cs _ HA.out.msgs HBB.out.msgs).mono ?_; rintro e w1 ⟨rfl, n1, rfl⟩
      go_wp2_with fail
      go_ret
      exact ⟨ret_b (by rw [HS.out]; simp), below_drewN HB.out n1⟩
    · have he : (T == T') = false := by simpa using h'
      have HE := Lib.hid he
      go_enter Tryd.func13, Tryd.ntmps13
      go_wp2_with fail
      go_ret
      exact ⟨ret_b (by rw [HS.out, HE.out]; simp), HB.out⟩
  · have he : (L == L') = false := by simpa using h
    have HE := Lib.hid he
    go_enter Tryd.func13, Tryd.ntmps13
    go_wp2_with fail
    go_ret
    exact ⟨ret_b (by rw [HS.out, HE.out]; rfl), HB.out⟩

end Go.Proofs.YtehajmockicilaaDoor

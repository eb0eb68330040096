/-
  Queues as values and as they lie in memory; the small calls of layer 13.
-/
import Derived.Test.YtehajmockicilaaDoorMsgOwn
import Derived.Test.YtehajmockicilaaDoorMsgSort
import Derived.Test.YtehajmockicilaaDoorMsgRawL
import Derived.Test.YtehajmockicilaaDoorClone
import Derived.Lib.Hide
import Derived.IntWalk
import Derived.OpenShut
import Derived.OwnWalk
import Derived.WalkSpells
import Derived.BigQuiet
import Derived.BigRegion
namespace Go.Proofs.YtehajmockicilaaDoor
open Go Go.RowKit

theorem cell_of {W : World} {b : Nat} {cells : Array Value} {t : TypeId} {x : Nat × Nat} (h : W.heap[b]? = some (.cells cells t x)) (i : Nat) : W.cell? ⟨b, i, none⟩ = cells[i]? := by simp [World.cell?, h]
theorem Msgs.on {w w' : World} {A : Option Addr} {l : List Msg} (h : Msgs w w.heap.size A l) (hb : Below w.heap.size w w') : Msgs w' w'.heap.size A l := (h.below hb (Nat.le_refl _)).more hb.size

/-! ## Queues -/
abbrev qv (L : Int) (A : Option Addr) (n c : Nat) : Value := .agg #[.int .i64 L, .slice A n c]
abbrev qc (L : Int) (A : Option Addr) (n c : Nat) : Array Value := #[.int .i64 L, .slice A n c]
/-- Block b is a queue. -/
def QAt (w : World) (b : Nat) (L : Int) (A : Option Addr) (n c : Nat) : Prop := w.heap[b]? = some (.cells (qc L A n c) 64 (0, 0))
theorem QAt.new (w : World) (L : Int) (A : Option Addr) (n c : Nat) : QAt (w.alloc (.cells #[.int .i64 L, .slice A n c] 64)) w.heap.size L A n c := heap_alloc_new w _
theorem QAt.on {w w' : World} {b : Nat} {L : Int} {A : Option Addr} {n c : Nat} (h : QAt w b L A n c) (hb : Below w.heap.size w w') : QAt w' b L A n c := (hb.block b (Array.getElem?_eq_some_iff.1 h).1).trans h
theorem QAt.lt {w : World} {b : Nat} {L : Int} {A : Option Addr} {n c : Nat} (h : QAt w b L A n c) : b < w.heap.size := (Array.getElem?_eq_some_iff.1 h).1
theorem QAt.cells {w : World} {b : Nat} {L : Int} {A : Option Addr} {n c : Nat} (h : QAt w b L A n c) : w.cell? ⟨b, 0, none⟩ = some (.int .i64 L) ∧ w.cell? ⟨b, 1, none⟩ = some (.slice A n c) := ⟨cell_of h 0, cell_of h 1⟩
theorem QAt.frozen {w : World} {b : Nat} {L : Int} {A : Option Addr} {n c : Nat} (h : QAt w b L A n c) (i : Nat) : w.frozen? ⟨b, i, none⟩ = false := by simp [World.frozen?, show w.heap[b]? = _ from h]
theorem QAt.set {w : World} {b : Nat} {L : Int} {A : Option Addr} {n c : Nat} (h : QAt w b L A n c) (L' : Int) (A' : Option Addr) (n' c' : Nat) : QAt ((w.setCell ⟨b, 0, none⟩ (.int .i64 L')).setCell ⟨b, 1, none⟩ (.slice A' n' c')) b L' A' n' c' := set_blk (set_blk h 0 (.int .i64 L')) 1 (.slice A' n' c')
theorem below_set2 {B : Nat} {a w : World} (h : Below B a w) {b : Nat} (hB : B ≤ b) (x y : Value) : Below B a ((w.setCell ⟨b, 0, none⟩ x).setCell ⟨b, 1, none⟩ y) := (h.setCell (p := ⟨b, 0, none⟩) hB x).setCell (p := ⟨b, 1, none⟩) hB y
/-- Seven cells of a block set anew. -/
def set7 (w : World) (b : Nat) (m : Msg) : World := ((((((w.setCell ⟨b, 0, none⟩ (.bool m.ext)).setCell ⟨b, 1, none⟩ (.int .i64 m.n)).setCell ⟨b, 2, none⟩ (.int .i64 m.sender)).setCell ⟨b, 3, none⟩ (.int .i64 m.inc)).setCell ⟨b, 4, none⟩ (.int .i64 m.seq)).setCell ⟨b, 5, none⟩ (.int .i64 m.number)).setCell ⟨b, 6, none⟩ (.string m.data)
theorem MsgAt.cells {w : World} {b : Nat} {m : Msg} (h : MsgAt w b m) : w.cell? ⟨b, 0, none⟩ = some (.bool m.ext) ∧ w.cell? ⟨b, 1, none⟩ = some (.int .i64 m.n) ∧ w.cell? ⟨b, 2, none⟩ = some (.int .i64 m.sender) ∧ w.cell? ⟨b, 3, none⟩ = some (.int .i64 m.inc) ∧ w.cell? ⟨b, 4, none⟩ = some (.int .i64 m.seq) ∧ w.cell? ⟨b, 5, none⟩ = some (.int .i64 m.number) ∧ w.cell? ⟨b, 6, none⟩ = some (.string m.data) :=
  ⟨cell_of h 0, cell_of h 1, cell_of h 2, cell_of h 3, cell_of h 4, cell_of h 5, cell_of h 6⟩
theorem MsgAt.frozen {w : World} {b : Nat} {m : Msg} (h : MsgAt w b m) (i : Nat) : w.frozen? ⟨b, i, none⟩ = false := by simp [World.frozen?, show w.heap[b]? = _ from h]
theorem MsgAt.lt {w : World} {b : Nat} {m : Msg} (h : MsgAt w b m) : b < w.heap.size := (Array.getElem?_eq_some_iff.1 h).1
theorem MsgAt.new (w : World) (m : Msg) : MsgAt (w.alloc (.cells (mc m) 26)) w.heap.size m := heap_alloc_new w _
theorem MsgAt.set7 {w : World} {b : Nat} {m : Msg} (h : MsgAt w b m) (m' : Msg) : MsgAt (set7 w b m') b m' := by
  have h1 := set_blk (set_blk (set_blk h 0 (.bool m'.ext)) 1 (.int .i64 m'.n)) 2 (.int .i64 m'.sender)
  have h2 := set_blk (set_blk (set_blk (set_blk h1 3 (.int .i64 m'.inc)) 4 (.int .i64 m'.seq)) 5 (.int .i64 m'.number)) 6 (.string m'.data)
  unfold MsgAt Go.Proofs.YtehajmockicilaaDoor.set7
  rw [h2]
  simp [mc]
set_option maxHeartbeats 1000000 in
theorem below_set7 {B : Nat} {a w : World} (h : Below B a w) {b : Nat} (hB : B ≤ b) (m : Msg) : Below B a (set7 w b m) :=
  ((((((h.setCell (p := ⟨b, 0, none⟩) hB _).setCell (p := ⟨b, 1, none⟩) hB _).setCell (p := ⟨b, 2, none⟩) hB _).setCell (p := ⟨b, 3, none⟩) hB _).setCell (p := ⟨b, 4, none⟩) hB _).setCell (p := ⟨b, 5, none⟩) hB _).setCell (p := ⟨b, 6, none⟩) hB _
theorem set7_far (w : World) {b g : Nat} (h : g ≠ b) (m : Msg) : (set7 w b m).heap[g]? = w.heap[g]? := by
  unfold set7
  simp only [Below.heap_setCell _ _ _ _ (show g ≠ (⟨b, _, none⟩ : Addr).block from h)]
theorem set7_size (w : World) (b : Nat) (m : Msg) : (set7 w b m).heap.size = w.heap.size := by unfold set7; simp only [World.size_setCell]

/-- A list of messages that a call takes. -/
structure QIn (w : World) (A : Option Addr) (c : Nat) (l : List Msg) : Prop where
  msgs : Msgs w w.heap.size A l
  cap : l.length ≤ c
  few : l.length ≤ 200
  data : ∀ m ∈ l, m.data.size ≤ 140737488351232
  low : ∀ ad, A = some ad → ad.block < w.heap.size
theorem QIn.on {w w' : World} {A : Option Addr} {c : Nat} {l : List Msg} (h : QIn w A c l) (hb : Below w.heap.size w w') : QIn w' A c l := ⟨h.msgs.on hb, h.cap, h.few, h.data, fun ad e => Nat.lt_of_lt_of_le (h.low ad e) hb.size⟩
/-- A queue that a call tells: its list is the one that came in, or lies in new memory. -/
structure QTold (A0 : Option Addr) (S : Nat) (w : World) (l : List Msg) (A : Option Addr) (c : Nat) : Prop where
  cap : l.length ≤ c
  msgs : Msgs w w.heap.size A l
  low : ∀ ad, A = some ad → ad.block < w.heap.size
  fresh : A = A0 ∨ ∀ ad, A = some ad → S ≤ ad.block
theorem QTold.keep {A0 : Option Addr} {S : Nat} {w W : World} {l : List Msg} {A : Option Addr} {c : Nat} (h : QTold A0 S w l A c) (h0 : ∀ ad, A0 = some ad → W.heap[ad.block]? = w.heap[ad.block]?) (h1 : ∀ k, S ≤ k → W.heap[k]? = w.heap[k]?) (hs : w.heap.size ≤ W.heap.size) : QTold A0 S W l A c := by
  refine ⟨h.cap, fun hn => ?_, fun ad e => Nat.lt_of_lt_of_le (h.low ad e) hs, h.fresh⟩
  obtain ⟨ad, e, hb, hc⟩ := h.msgs hn
  refine ⟨ad, e, Nat.lt_of_lt_of_le hb hs, fun j m hm => (hc j m hm).keep fun q hq => ?_⟩
  have hk : W.heap[ad.block]? = w.heap[ad.block]? := by
    rcases h.fresh with e2 | h2
    · exact h0 ad (by rw [← e2]; exact e)
    · exact h1 _ (h2 ad e)
  refine World.cell?_of_block ?_
  rw [hq, adb]; exact hk
theorem QTold.less {A0 : Option Addr} {S S' : Nat} {w : World} {l : List Msg} {A : Option Addr} {c : Nat} (h : QTold A0 S w l A c) (hs : S' ≤ S) : QTold A0 S' w l A c :=
  ⟨h.cap, h.msgs, h.low, h.fresh.imp id fun h2 ad e => Nat.le_trans hs (h2 ad e)⟩
theorem QTold.is {w : World} {l : List Msg} {A : Option Addr} {c : Nat} {S : Nat} (h : QIn w A c l) : QTold A S w l A c := ⟨h.cap, h.msgs, h.low, .inl rfl⟩
theorem QTold.own {A0 : Option Addr} {S : Nat} {w : World} {l : List Msg} {u : Value} (h : OwnM w S u l) : ∃ A c, u = .slice A l.length c ∧ QTold A0 S w l A c := by
  obtain ⟨A, c, e0, hc, hm⟩ := h.row
  have hlo : ∀ ad, A = some ad → ad.block < w.heap.size ∧ S ≤ ad.block := fun ad e => by
    subst e
    rcases h.2 with ⟨e, h0⟩ | ⟨g, cap, cur, e, hb, hr, _⟩
    · rw [e0] at e; cases e
    · rw [e0] at e; injection e with e1 e2 e3; cases e1
      exact ⟨(Array.getElem?_eq_some_iff.1 hr).1, hb⟩
  exact ⟨A, c, e0, hc, hm, fun ad e => (hlo ad e).1, .inr fun ad e => (hlo ad e).2⟩
theorem QTold.qin {A0 : Option Addr} {S : Nat} {w : World} {l : List Msg} {A : Option Addr} {c : Nat} (h : QTold A0 S w l A c) (hl : l.length ≤ 200) (hd : ∀ m ∈ l, m.data.size ≤ 140737488351232) : QIn w A c l := ⟨h.msgs, h.cap, hl, hd, h.low⟩
def QRes (A0 : Option Addr) (S : Nat) (w : World) (L : Int) (l : List Msg) (v : Value) : Prop := ∃ A c, v = qv L A l.length c ∧ QTold A0 S w l A c
theorem QRes.keep {A0 : Option Addr} {S : Nat} {w W : World} {L : Int} {l : List Msg} {v : Value} (h : QRes A0 S w L l v) (h0 : ∀ ad, A0 = some ad → W.heap[ad.block]? = w.heap[ad.block]?) (h1 : ∀ k, S ≤ k → W.heap[k]? = w.heap[k]?) (hs : w.heap.size ≤ W.heap.size) : QRes A0 S W L l v := by
  obtain ⟨A, c, e, h2⟩ := h
  exact ⟨A, c, e, h2.keep h0 h1 hs⟩
theorem QIn.at {w : World} {A : Option Addr} {c : Nat} {l : List Msg} (h : QIn w A c l) {k : Nat} {m : Msg} (hm : l[k]? = some m) : ∃ ad, A = some ad ∧ At7 w (ad.add (k * 7)) m := by
  obtain ⟨ad, e, _, hc⟩ := h.msgs (by have := (List.getElem?_eq_some_iff.1 hm).1; omega)
  exact ⟨ad, e, hc k m hm⟩

/-! ## Small calls -/
def limB (n : Int) : Bool := decide (1 ≤ n) && decide (n ≤ 32)
theorem limB_iff (n : Int) : limB n = true ↔ 1 ≤ n ∧ n ≤ 32 := by unfold limB; simp
theorem limB_not (n : Int) : limB n = false ↔ n < 1 ∨ 32 < n := by rw [← Bool.not_eq_true, limB_iff]; omega
set_option maxRecDepth 100000 in
theorem isLimit_any (n : Int) (w : World) : Calls Tryd.prog 60 #[.int .i64 n] w fun e w' => e = .returned (.bool (limB n)) ∧ w = w' := by
  by_cases h1 : 1 ≤ n
  · by_cases h2 : n ≤ 32
    · have hv := Lib.hid ((limB_iff n).2 ⟨h1, h2⟩)
      go_enter Tryd.func60, Tryd.ntmps60
      go_wp2
      go_ret
      exact ⟨ret_b hv.out.symm, rfl⟩
    · have hv := Lib.hid ((limB_not n).2 (.inr (by omega)))
      go_enter Tryd.func60, Tryd.ntmps60
      go_wp2
      go_ret
      exact ⟨ret_b hv.out.symm, rfl⟩
  · have hv := Lib.hid ((limB_not n).2 (.inl (by omega)))
    go_enter Tryd.func60, Tryd.ntmps60
    go_wp2
    go_ret
    exact ⟨ret_b hv.out.symm, rfl⟩

def newL (n : Int) : Int := if limB n = true then n else 0
def newE (n : Int) : Int := if limB n = true then 0 else 1
theorem q_res {fn : Func} {i j : Nat} (hr : fn.results = #[.cell i 64, .tmp j]) {Y : World} {b : Nat} {L E : Int} {A : Option Addr} {n c : Nat} {T : Array Value} (h : QAt Y b L A n c) (ht : T[i]? = some (.pointer (some ⟨b, 0, none⟩))) (hs : T[j]? = some (.int .i64 E)) :
    (results fn T).run Tryd.prog Y = .ok (.tuple #[qv L A n c, .int .i64 E]) Y := by
  obtain ⟨h0, h1⟩ := h.cells
  simp [results, hr, go_sem, h0, h1, ht, hs]

set_option maxRecDepth 100000 in
theorem new_any (n : Int) (w : World) : Calls Tryd.prog 30 #[.int .i64 n] w fun e w' => e = .returned (.tuple #[qv (newL n) none 0 0, .int .i64 (newE n)]) ∧ Below w.heap.size w w' := by
  have hN := QAt.new w 0 none 0 0
  have HB := Lib.hid (Joins.below_alloc1 w (.cells #[.int .i64 0, .slice none 0 0] 64))
  have cl := fun W => isLimit_any n W
  have HN := Lib.hid hN
  have HL : Hid (newL n = if limB n = true then n else 0) := Lib.hid rfl
  have HE : Hid (newE n = if limB n = true then 0 else 1) := Lib.hid rfl
  obtain ⟨y0, y1⟩ := hN.cells
  have y2 := hN.frozen
  clear hN
  cases h : limB n
  · rw [h] at cl HL HE
    go_enter Tryd.func30, Tryd.ntmps30
    go_wp2_with fail; refine (cl _).mono ?_; rintro e w1 ⟨rfl, rfl⟩
    go_wp2_with fail
    rw [HL.out, HE.out]
    exact bodyPost_ret (q_res Tryd.results30 HN.out rfl rfl) rfl ⟨rfl, HB.out⟩
  · rw [h] at cl HL HE
    go_enter Tryd.func30, Tryd.ntmps30
    go_wp2_with fail; refine (cl _).mono ?_; rintro e w1 ⟨rfl, rfl⟩
    go_wp2_with fail
    rw [HL.out, HE.out]
    exact bodyPost_ret (q_res Tryd.results30 (QAt.new w n none 0 0) rfl rfl) rfl ⟨rfl, Joins.below_alloc1 w _⟩

set_option maxRecDepth 100000 in
theorem refNew_any (n : Int) (w : World) : Calls Tryd.prog 31 #[.int .i64 n] w fun e w' => e = .returned (.tuple #[qv (newL n) none 0 0, .int .i64 (newE n)]) ∧ Below w.heap.size w w' := by
  have hN := QAt.new w 0 none 0 0
  have HB := Lib.hid (Joins.below_alloc1 w (.cells #[.int .i64 0, .slice none 0 0] 64))
  have HN := Lib.hid hN
  have HL : Hid (newL n = if limB n = true then n else 0) := Lib.hid rfl
  have HE : Hid (newE n = if limB n = true then 0 else 1) := Lib.hid rfl
  obtain ⟨y0, y1⟩ := hN.cells
  have y2 := hN.frozen
  clear hN
  by_cases h1 : n < 1
  · rw [(limB_not n).2 (.inl h1)] at HL HE
    go_enter Tryd.func31, Tryd.ntmps31
    go_wp2_with fail
    rw [HL.out, HE.out]
    exact bodyPost_ret (q_res Tryd.results31 HN.out rfl rfl) rfl ⟨rfl, HB.out⟩
  · by_cases h2 : 32 < n
    · rw [(limB_not n).2 (.inr h2)] at HL HE
      go_enter Tryd.func31, Tryd.ntmps31
      go_wp2_with fail
      rw [HL.out, HE.out]
      exact bodyPost_ret (q_res Tryd.results31 HN.out rfl rfl) rfl ⟨rfl, HB.out⟩
    · rw [(limB_iff n).2 (by omega)] at HL HE
      go_enter Tryd.func31, Tryd.ntmps31
      go_wp2_with fail
      rw [HL.out, HE.out]
      exact bodyPost_ret (q_res Tryd.results31 (QAt.new w n none 0 0) rfl rfl) rfl ⟨rfl, Joins.below_alloc1 w _⟩

/-- Are two queues the same? -/
def sameQ (L L' : Int) (a b : List Msg) : Bool := L == L' && sameL a b
set_option maxRecDepth 100000 in
theorem sameQ_any (L L' : Int) (A A' : Option Addr) (c c' : Nat) (a b : List Msg) (w : World) (ha : QIn w A c a) (hb : QIn w A' c' b) :
    Calls Tryd.prog 32 #[qv L A a.length c, qv L' A' b.length c'] w fun e w' => e = .returned (.bool (sameQ L L' a b)) ∧ Below w.heap.size w w' := by
  have HS : Hid (sameQ L L' a b = (L == L' && sameL a b)) := Lib.hid rfl
  have q1 := QAt.new w L A a.length c
  have b1 := Joins.below_alloc1 w (.cells #[.int .i64 L, .slice A a.length c] 64)
  have q2 := QAt.new (w.alloc (.cells #[.int .i64 L, .slice A a.length c] 64)) L' A' b.length c'
  have b2 := Joins.below_alloc1 (w.alloc (.cells #[.int .i64 L, .slice A a.length c] 64)) (.cells #[.int .i64 L', .slice A' b.length c'] 64)
  have q1' := q1.on b2
  rw [World.size_alloc] at q2
  have B2 := b1.trans (b2.mono b1.size)
  have ha2 := (ha.on b1).on b2
  have hb2 := (hb.on b1).on b2
  clear q1 b1 b2
  have hl : a.length ≤ maxLen := by have := ha.few; unfold maxLen; omega
  have cs := fun W (h1 : Msgs W W.heap.size A a) (h2 : Msgs W W.heap.size A' b) => same_any A A' c c' _ _ a b W h1 h2 hl
  obtain ⟨x0, x1⟩ := q1'.cells
  obtain ⟨y0, y1⟩ := q2.cells
  have HB := Lib.hid B2
  have HA := Lib.hid ha2
  have HBB := Lib.hid hb2
  clear q1' q2 B2 ha2 hb2 hl ha hb
  by_cases h : L = L'
  · subst h
    go_enter Tryd.func32, Tryd.ntmps32
    go_wp2_with fail; refine (cs _ HA.out.msgs HBB.out.msgs).mono ?_; rintro e w1 ⟨rfl, n1, rfl⟩
    go_wp2_with fail
    go_ret
    exact ⟨ret_b (by rw [HS.out]; simp), below_drewN HB.out n1⟩
  · have he : (L == L') = false := by simpa using h
    have HE := Lib.hid he
    go_enter Tryd.func32, Tryd.ntmps32
    go_wp2_with fail
    go_ret
    exact ⟨ret_b (by rw [HS.out, HE.out]; rfl), HB.out⟩

end Go.Proofs.YtehajmockicilaaDoor

/-
  What a keeper does: forget, take, offer.
-/
import Derived.Test.YtehajmockicilaaDoorFifTake
import Derived.Test.YtehajmockicilaaDoorIdentAny
namespace Go.Proofs.YtehajmockicilaaDoor
open Go Go.RowKit

abbrev kpc (L T : Int) (u : Value) (m : Msg) (F : Value) : Array Value := #[.int .i64 L, .int .i64 T, u, .bool m.ext, .int .i64 m.n, .int .i64 m.sender, .int .i64 m.inc, .int .i64 m.seq, .int .i64 m.number, .string m.data, F]
/-- Block b is a keeper. -/
def KpAt (w : World) (b : Nat) (L T : Int) (u : Value) (m : Msg) (F : Value) : Prop := w.heap[b]? = some (.cells (kpc L T u m F) 86 (0, 0))
theorem KpAt.lt {w : World} {b : Nat} {L T : Int} {u : Value} {m : Msg} {F : Value} (h : KpAt w b L T u m F) : b < w.heap.size := (Array.getElem?_eq_some_iff.1 h).1
theorem KpAt.on {w w' : World} {b : Nat} {L T : Int} {u : Value} {m : Msg} {F : Value} (h : KpAt w b L T u m F) (hb : Below w.heap.size w w') : KpAt w' b L T u m F := (hb.block b h.lt).trans h
theorem KpAt.kept {w w' : World} {b : Nat} {L T : Int} {u : Value} {m : Msg} {F : Value} (h : KpAt w b L T u m F) (hb : w'.heap[b]? = w.heap[b]?) : KpAt w' b L T u m F := hb.trans h
theorem KpAt.new (w : World) (L T : Int) (u : Value) (m : Msg) (F : Value) : KpAt (w.alloc (.cells (kpc L T u m F) 86)) w.heap.size L T u m F := heap_alloc_new w _
theorem KpAt.frozen {w : World} {b : Nat} {L T : Int} {u : Value} {m : Msg} {F : Value} (h : KpAt w b L T u m F) (i : Nat) : w.frozen? ⟨b, i, none⟩ = false := by simp [World.frozen?, show w.heap[b]? = _ from h]
theorem KpAt.fifo {w : World} {b : Nat} {L T : Int} {u : Value} {m : Msg} {F : Value} (h : KpAt w b L T u m F) : w.cell? ⟨b, 0, none⟩ = some (.int .i64 L) ∧ w.cell? ⟨b, 1, none⟩ = some (.int .i64 T) ∧ w.cell? ⟨b, 2, none⟩ = some u := ⟨cell_of h 0, cell_of h 1, cell_of h 2⟩
theorem KpAt.rest {w : World} {b : Nat} {L T : Int} {u : Value} {m : Msg} {F : Value} (h : KpAt w b L T u m F) : w.cell? ⟨b, 3, none⟩ = some (.bool m.ext) ∧ w.cell? ⟨b, 4, none⟩ = some (.int .i64 m.n) ∧ w.cell? ⟨b, 5, none⟩ = some (.int .i64 m.sender) ∧ w.cell? ⟨b, 6, none⟩ = some (.int .i64 m.inc) ∧ w.cell? ⟨b, 7, none⟩ = some (.int .i64 m.seq) ∧ w.cell? ⟨b, 8, none⟩ = some (.int .i64 m.number) ∧ w.cell? ⟨b, 9, none⟩ = some (.string m.data) ∧ w.cell? ⟨b, 10, none⟩ = some F :=
  ⟨cell_of h 3, cell_of h 4, cell_of h 5, cell_of h 6, cell_of h 7, cell_of h 8, cell_of h 9, cell_of h 10⟩
set_option maxRecDepth 100000 in
theorem KpAt.lost {w : World} {b : Nat} {L T : Int} {u : Value} {m : Msg} {F : Value} (h : KpAt w b L T u m F) (T' : Int) : KpAt (w.setCell ⟨b, 1, none⟩ (.int .i64 T')) b L T' u m F := by
  have h1 := set_blk h 1 (.int .i64 T')
  unfold KpAt
  rw [h1]
  simp
set_option maxRecDepth 100000 in
theorem KpAt.list {w : World} {b : Nat} {L T : Int} {u : Value} {m : Msg} {F : Value} (h : KpAt w b L T u m F) (u' : Value) : KpAt (w.setCell ⟨b, 2, none⟩ u') b L T u' m F := by
  have h1 := set_blk h 2 u'
  unfold KpAt
  rw [h1]
  simp
theorem OwnM.no_keeper {w : World} {B b : Nat} {u : Value} {l : List Msg} {L T : Int} {v : Value} {m : Msg} {F : Value} (h : OwnM w B u l) (hf : KpAt w b L T v m F) : u.ownBlock ≠ some b := by
  rcases h.2 with ⟨e, _⟩ | ⟨g, cap, cur, e, hb, hr, _⟩
  · rw [e]; intro h2; cases h2
  · rw [e]; intro h2
    injection h2 with h3
    have h4 : g = b := h3
    subst h4
    rw [show w.heap[g]? = _ from hf] at hr
    injection hr with h5
    injection h5 with h6 h7 h8
    revert h7; decide
theorem OwnM.far_keeper {w : World} {B b : Nat} {l : List Msg} {A' : Option Addr} {n' c' : Nat} {L T : Int} {v : Value} {m : Msg} {F : Value} (h : OwnM w B (.slice A' n' c') l) (hf : KpAt w b L T v m F) : ∀ ad, A' = some ad → ad.block ≠ b := fun ad e e2 => by
  subst e
  exact h.no_keeper hf (by rw [← e2]; rfl)
theorem KpAt.grown {w w' : World} {B b : Nat} {u : Value} {l : List Msg} {L T : Int} {v : Value} {m : Msg} {F : Value} (hf : KpAt w b L T v m F) (h : OwnM w B u l) (hg : w.grownBy w' u.ownBlock) : KpAt w' b L T v m F :=
  (hg.block b hf.lt (fun e => h.no_keeper hf e.symm)).trans hf

/-- Of what there was, block b alone may be another one. -/
structure But (b : Nat) (w w' : World) : Prop where
  low : Below b w w'
  rest : ∀ k, k < w.heap.size → k ≠ b → w'.heap[k]? = w.heap[k]?
theorem But.below {b : Nat} {w w' : World} (h : Below w.heap.size w w') (hb : b ≤ w.heap.size) : But b w w' := ⟨h.mono hb, fun k hk _ => h.block k hk⟩

theorem ii_res {fn : Func} {j k : Nat} (hr : fn.results = #[.tmp j, .tmp k]) {Y : World} {x y : Value} {T : Array Value} (hj : T[j]? = some x) (hk : T[k]? = some y) :
    (results fn T).run Tryd.prog Y = .ok (.tuple #[x, y]) Y := by
  simp [results, hr, go_sem, hj, hk]
set_option maxRecDepth 100000 in
theorem forget_any (b : Nat) (L T : Int) (u : Value) (m : Msg) (F : Value) (w : World) (h : KpAt w b L T u m F) :
    Calls Tryd.prog 52 #[.pointer (some ⟨b, 0, none⟩)] w fun e w' => e = .returned (.tuple #[.int .i64 T, .int .i64 0]) ∧ w' = w.setCell ⟨b, 1, none⟩ (.int .i64 0) := by
  obtain ⟨y0, y1, y2⟩ := h.fifo
  have yf := h.frozen
  clear h
  go_enter Tryd.func52, Tryd.ntmps52
  go_wp2_with fail
  exact bodyPost_ret (ii_res Tryd.results52 rfl rfl) rfl ⟨rfl, rfl⟩

theorem me_res {fn : Func} {j k : Nat} (hr : fn.results = #[.cell j 26, .tmp k]) {Y : World} {d : Nat} {m : Msg} {E : Int} {T : Array Value} (h' : MsgAt Y d m) (ht' : T[j]? = some (.pointer (some ⟨d, 0, none⟩))) (hs : T[k]? = some (.int .i64 E)) :
    (results fn T).run Tryd.prog Y = .ok (.tuple #[mv m, .int .i64 E]) Y := by
  obtain ⟨z0, z1, z2, z3, z4, z5, z6⟩ := h'.cells
  simp [results, hr, go_sem, z0, z1, z2, z3, z4, z5, z6, ht', hs]

set_option maxRecDepth 100000 in
set_option maxHeartbeats 2000000 in
theorem takeK_nil (b : Nat) (L T : Int) (A : Option Addr) (c : Nat) (m : Msg) (F : Value) (w : World) (h : KpAt w b L T (.slice A 0 c) m F) :
    Calls Tryd.prog 50 #[.pointer (some ⟨b, 0, none⟩)] w fun e w' => e = .returned (.tuple #[mv zeroM, .int .i64 41]) ∧ Below w.heap.size w w' := by
  have b1 := Joins.below_alloc1 w (.cells (mc zeroM) 26)
  have hm := MsgAt.new w zeroM
  obtain ⟨y0, y1, y2⟩ := (h.on b1).fifo
  obtain ⟨x0, x1, x2, x3, x4, x5, x6⟩ := hm.cells
  have xf := hm.frozen
  have HM := Lib.hid hm
  have HB := Lib.hid b1
  simp only [mc, zeroM] at y0 y1 y2 x0 x1 x2 x3 x4 x5 x6 xf
  clear h b1 hm
  go_enter Tryd.func50, Tryd.ntmps50
  go_wp2_with fail
  exact bodyPost_ret (me_res Tryd.results50 HM.out rfl rfl) rfl ⟨rfl, HB.out⟩

set_option maxRecDepth 100000 in
set_option maxHeartbeats 2000000 in
theorem takeK_one (b : Nat) (L T : Int) (ad : Addr) (c : Nat) (l : List Msg) (m0 m : Msg) (F : Value) (A1 : Option Addr) (c1 : Nat) (w : World) (h : KpAt w b L T (.slice (some ad) l.length c) m F) (hm0 : At7 w ad m0) (hadb : ad.block < w.heap.size) (hl : 0 < l.length)
    (hr : ∀ w, (Instr.slice 28 (.slice (some ad) l.length c) (some (.int .i64 1)) none none).run Tryd.prog w = .ok (.slice A1 (l.length - 1) c1) w) :
    Calls Tryd.prog 50 #[.pointer (some ⟨b, 0, none⟩)] w fun e w' => e = .returned (.tuple #[mv m0, .int .i64 0]) ∧ But b w w' ∧ KpAt w' b L T (.slice A1 (l.length - 1) c1) m F := by
  obtain ⟨e1, n1, s1, i1, q1, k1, d1⟩ := m0
  have hlt := h.lt
  have b1 := Joins.below_alloc1 w (.cells (mc zeroM) 26)
  have hm := MsgAt.new w zeroM
  have hk1 := h.on b1
  have ha1 : At7 (w.alloc (.cells (mc zeroM) 26)) ad ⟨e1, n1, s1, i1, q1, k1, d1⟩ := hm0.keep fun q hq => b1.cell (by rw [hq]; exact hadb)
  have b2 := Joins.below_alloc1 (w.alloc (.cells (mc zeroM) 26)) (.cells (mc ⟨e1, n1, s1, i1, q1, k1, d1⟩) 26)
  have hm2 := MsgAt.new (w.alloc (.cells (mc zeroM) 26)) ⟨e1, n1, s1, i1, q1, k1, d1⟩
  have hk2 := hk1.on b2
  have hmz := MsgAt.on hm b2
  have hB := b1.trans (b2.mono b1.size)
  have hs2 : ((w.alloc (.cells (mc zeroM) 26)).alloc (.cells (mc ⟨e1, n1, s1, i1, q1, k1, d1⟩) 26)).heap.size = w.heap.size + 2 := by simp only [World.size_alloc]
  rw [World.size_alloc] at hm2
  simp only [mc, zeroM] at hm hk1 ha1 hm2 hk2 hmz hB hs2
  obtain ⟨y0, y1, y2⟩ := hk1.fifo
  obtain ⟨x0, x1, x2, x3, x4, x5, x6⟩ := ha1
  have HK := Lib.hid (hk2.list (.slice A1 (l.length - 1) c1))
  have HK2 := Lib.hid hk2
  have HM2 := Lib.hid (hm2.cell1 (b := b) (i := 2) (by omega) (.slice A1 (l.length - 1) c1))
  have HMZ : Hid (MsgAt _ w.heap.size zeroM) := Lib.hid (MsgAt.cell1 (m := zeroM) hmz (b := b) (i := 2) (by omega) (.slice A1 (l.length - 1) c1))
  have HB := Lib.hid ((hB.mono (Nat.le_of_lt hlt)).setCell (p := ⟨b, 2, none⟩) (Nat.le_refl _) (.slice A1 (l.length - 1) c1))
  have HR : Hid (∀ k, k < w.heap.size → k ≠ b → (((w.alloc (.cells #[.bool false, .int .i64 0, .int .i64 0, .int .i64 0, .int .i64 0, .int .i64 0, .string ⟨#[]⟩] 26)).alloc (.cells #[.bool e1, .int .i64 n1, .int .i64 s1, .int .i64 i1, .int .i64 q1, .int .i64 k1, .string d1] 26)).setCell ⟨b, 2, none⟩ (.slice A1 (l.length - 1) c1)).heap[k]? = w.heap[k]?) := Lib.hid (fun k hk hkb => (Below.heap_setCell _ _ _ _ (by show k ≠ b; exact hkb)).trans (hB.block k hk))
  have HLT := Lib.hid hlt
  have hlpI : (0 : Int) < (l.length : Int) := by omega
  have hlne : ((l.length : Int) == 0) = false := beq_eq_false_iff_ne.mpr (by omega)
  clear h hm0 b1 hm hk1 b2 hm2 hmz hB hlt hs2 hk2
  go_enter Tryd.func50, Tryd.ntmps50
  go_upto_region 4 with (fail)
  generalize (w.alloc (.cells #[.bool false, .int .i64 0, .int .i64 0, .int .i64 0, .int .i64 0, .int .i64 0, .string ⟨#[]⟩] 26)).alloc (.cells #[.bool e1, .int .i64 n1, .int .i64 s1, .int .i64 i1, .int .i64 q1, .int .i64 k1, .string d1] 26) = X at *
  clear y0 y1 y2 x0 x1 x2 x3 x4 x5 x6
  obtain ⟨y0, y1, y2⟩ := HK2.out.fifo
  have yf := HK2.out.frozen
  go_upto_region 5 with (fail)
  generalize X.setCell ⟨b, 2, none⟩ (.slice A1 (l.length - 1) c1) = Y at *
  clear y0 y1 y2 yf HK2 hr
  obtain ⟨x0, x1, x2, x3, x4, x5, x6⟩ := HM2.out.cells
  obtain ⟨z0, z1, z2, z3, z4, z5, z6⟩ := HMZ.out.cells
  have zf := HMZ.out.frozen
  have HLB := Lib.hid (Nat.le_of_lt HLT.out)
  have HM7 := Lib.hid (HMZ.out.set7 ⟨e1, n1, s1, i1, q1, k1, d1⟩)
  have HP : Hid (But b w (set7 Y w.heap.size ⟨e1, n1, s1, i1, q1, k1, d1⟩) ∧ KpAt (set7 Y w.heap.size ⟨e1, n1, s1, i1, q1, k1, d1⟩) b L T (.slice A1 (l.length - 1) c1) m F) := Lib.hid (by
    have hlt := HLT.out
    exact ⟨⟨below_set7 HB.out HLB.out _, fun k hk hkb => (set7_far Y (by omega) _).trans (HR.out k hk hkb)⟩, HK.out.kept (set7_far Y (by omega) _)⟩)
  simp only [zeroM] at z0 z1 z2 z3 z4 z5 z6
  go_wp2_with fail
  have hm7 := HM7.out
  have hp := HP.out
  simp only [set7] at hm7 hp
  exact bodyPost_ret (me_res Tryd.results50 hm7 rfl rfl) rfl ⟨rfl, hp⟩

end Go.Proofs.YtehajmockicilaaDoor

/-
  The library's stable sort of messages by the program's closure: what it leaves in the row.
-/
import Derived.Test.YtgolnklgbhilaaaDoorMsgIns
import Derived.Test.YtgolnklgbhilaaaDoorMsgOwn
import Derived.RangeFuncBox
namespace Go.Proofs.YtgolnklgbhilaaaDoor
open Go.RowKit Go.Lib

theorem OwnM.own {w : World} {B : Nat} {u : Value} {l : List Msg} (h : OwnM w B u l) : ∀ g, u.ownBlock = some g → B ≤ g ∧ g < w.heap.size := by
  intro g hg
  rcases h.2 with ⟨rfl, _⟩ | ⟨g', cap, cur, rfl, hb, hh, _⟩
  · simp [Value.ownBlock] at hg
  · simp only [Value.ownBlock, Option.some.injEq] at hg
    subst hg
    exact ⟨hb, (Array.getElem?_eq_some_iff.1 hh).1⟩
theorem OwnM.far {w w' : World} {B : Nat} {u : Value} {l : List Msg} (h : OwnM w B u l) (hk : ∀ g, u.ownBlock = some g → w'.heap[g]? = w.heap[g]?) : OwnM w' B u l := by
  refine ⟨h.1, h.2.imp id ?_⟩
  rintro ⟨g, cap, cur, rfl, e2, e3, e4⟩
  exact ⟨g, cap, cur, rfl, e2, (hk g rfl).trans e3, e4⟩
theorem cell_zero_add (w : World) (g k : Nat) : w.cell? ((⟨g, 0, none⟩ : Addr).add k) = w.cell? ⟨g, k, none⟩ := by
  unfold Addr.add
  split
  · next h => subst h; rfl
  · rw [Nat.zero_add]
theorem OwnM.at7 {w : World} {B g cap n : Nat} {l : List Msg} (h : OwnM w B (.slice (some ⟨g, 0, none⟩) n cap) l) {i : Nat} {m : Msg} (hi : l[i]? = some m) :
    w.cell? ⟨g, i * 7, none⟩ = some (.bool m.ext) ∧ w.cell? ⟨g, i * 7 + 1, none⟩ = some (.int .i64 m.n) ∧ w.cell? ⟨g, i * 7 + 2, none⟩ = some (.int .i64 m.sender) ∧ w.cell? ⟨g, i * 7 + 3, none⟩ = some (.int .i64 m.inc) ∧
      w.cell? ⟨g, i * 7 + 4, none⟩ = some (.int .i64 m.seq) ∧ w.cell? ⟨g, i * 7 + 5, none⟩ = some (.int .i64 m.number) ∧ w.cell? ⟨g, i * 7 + 6, none⟩ = some (.string m.data) := by
  have c : ∀ k v, k < 7 → (mcl m)[k]? = some v → w.cell? ⟨g, i * 7 + k, none⟩ = some v := fun k v hk hv => by
    have hj : (lcl l)[i * 7 + k]? = some v := by rw [lcl_at l i k hk, hi]; exact hv
    have := World.ownsRow.cells h (g := g) rfl _ _ hj
    rwa [cell_zero_add] at this
  exact ⟨c 0 _ (by omega) rfl, c 1 _ (by omega) rfl, c 2 _ (by omega) rfl, c 3 _ (by omega) rfl, c 4 _ (by omega) rfl, c 5 _ (by omega) rfl, c 6 _ (by omega) rfl⟩

set_option maxRecDepth 100000 in
set_option maxHeartbeats 2000000 in
/-- The program's closure: it tells which of two of the row goes ahead. -/
theorem lessC_any (Bs g B cap : Nat) (l : List Msg) (W : World) (L : Laid W) (hbox : Boxed W Bs 40 (.slice (some ⟨g, 0, none⟩) l.length cap)) (hown : OwnM W B (.slice (some ⟨g, 0, none⟩) l.length cap) l)
    (i j : Nat) (a b : Msg) (ha : l[i]? = some a) (hb : l[j]? = some b) :
    Calls Tryd.prog 40 #[.int .i64 (i : Int), .int .i64 (j : Int), .pointer (some ⟨Bs, 0, none⟩)] W fun e w' => e = .returned (.bool (lessM a b)) ∧ Below W.heap.size W w' := by
  have hi : i < l.length := (List.getElem?_eq_some_iff.1 ha).1
  have hj : j < l.length := (List.getElem?_eq_some_iff.1 hb).1
  have cl := fun w L => lessM_any a b w L
  obtain ⟨x0, x1, x2, x3, x4, x5, x6⟩ := hown.at7 ha
  obtain ⟨y0, y1, y2, y3, y4, y5, y6⟩ := hown.at7 hb
  have hg := (hown.own g rfl).2
  have hc := hbox.cell
  have hBs := hbox.lt
  clear hown hbox ha hb
  generalize lessM a b = R at *
  generalize l.length = n at *
  obtain ⟨b1, n1, s1, i1, q1, k1, d1⟩ := a
  obtain ⟨b2, n2, s2, i2, q2, k2, d2⟩ := b
  simp only [mv] at *
  have CL := Lib.hid cl; clear cl
  have HI := Lib.hid L; clear L
  have hi0 : (0 : Int) ≤ (i : Int) := by omega
  have hi1 : (i : Int) < (n : Int) := by omega
  have hj0 : (0 : Int) ≤ (j : Int) := by omega
  have hj1 : (j : Int) < (n : Int) := by omega
  have hLD : Hid (∀ w', Below W.heap.size W w' → Laid w') := Lib.hid fun w' h => HI.out.below h
  go_enter Tryd.func40, Tryd.ntmps40
  go_wp2_with fail
  have hst : ∀ w', Below W.heap.size W w' → (w'.cell? ⟨Bs, 0, none⟩ = some (.slice (some ⟨g, 0, none⟩) n cap) ∧ (w'.cell? ⟨g, i * 7, none⟩ = some (.bool b1) ∧ w'.cell? ⟨g, i * 7 + 1, none⟩ = some (.int .i64 n1) ∧ w'.cell? ⟨g, i * 7 + 2, none⟩ = some (.int .i64 s1) ∧ w'.cell? ⟨g, i * 7 + 3, none⟩ = some (.int .i64 i1) ∧ w'.cell? ⟨g, i * 7 + 4, none⟩ = some (.int .i64 q1) ∧ w'.cell? ⟨g, i * 7 + 5, none⟩ = some (.int .i64 k1) ∧ w'.cell? ⟨g, i * 7 + 6, none⟩ = some (.string d1)) ∧
      (w'.cell? ⟨g, j * 7, none⟩ = some (.bool b2) ∧ w'.cell? ⟨g, j * 7 + 1, none⟩ = some (.int .i64 n2) ∧ w'.cell? ⟨g, j * 7 + 2, none⟩ = some (.int .i64 s2) ∧ w'.cell? ⟨g, j * 7 + 3, none⟩ = some (.int .i64 i2) ∧ w'.cell? ⟨g, j * 7 + 4, none⟩ = some (.int .i64 q2) ∧ w'.cell? ⟨g, j * 7 + 5, none⟩ = some (.int .i64 k2) ∧ w'.cell? ⟨g, j * 7 + 6, none⟩ = some (.string d2)) ∧ Below W.heap.size W w') := by
    intro w' hb
    have q : ∀ (o : Nat) (v : Value), W.cell? ⟨g, o, none⟩ = some v → w'.cell? ⟨g, o, none⟩ = some v := fun o v h => (hb.cell (p := ⟨g, o, none⟩) hg).trans h
    exact ⟨(hb.cell (p := ⟨Bs, 0, none⟩) hBs).trans hc, ⟨q _ _ x0, q _ _ x1, q _ _ x2, q _ _ x3, q _ _ x4, q _ _ x5, q _ _ x6⟩, ⟨q _ _ y0, q _ _ y1, q _ _ y2, q _ _ y3, q _ _ y4, q _ _ y5, q _ _ y6⟩, hb⟩
  have HST := Lib.hid hst; clear hst
  go_region_held3 (fun w' => w'.cell? ⟨Bs, 0, none⟩ = some (.slice (some ⟨g, 0, none⟩) n cap) ∧ (w'.cell? ⟨g, i * 7, none⟩ = some (.bool b1) ∧ w'.cell? ⟨g, i * 7 + 1, none⟩ = some (.int .i64 n1) ∧ w'.cell? ⟨g, i * 7 + 2, none⟩ = some (.int .i64 s1) ∧ w'.cell? ⟨g, i * 7 + 3, none⟩ = some (.int .i64 i1) ∧ w'.cell? ⟨g, i * 7 + 4, none⟩ = some (.int .i64 q1) ∧ w'.cell? ⟨g, i * 7 + 5, none⟩ = some (.int .i64 k1) ∧ w'.cell? ⟨g, i * 7 + 6, none⟩ = some (.string d1)) ∧
      (w'.cell? ⟨g, j * 7, none⟩ = some (.bool b2) ∧ w'.cell? ⟨g, j * 7 + 1, none⟩ = some (.int .i64 n2) ∧ w'.cell? ⟨g, j * 7 + 2, none⟩ = some (.int .i64 s2) ∧ w'.cell? ⟨g, j * 7 + 3, none⟩ = some (.int .i64 i2) ∧ w'.cell? ⟨g, j * 7 + 4, none⟩ = some (.int .i64 q2) ∧ w'.cell? ⟨g, j * 7 + 5, none⟩ = some (.int .i64 k2) ∧ w'.cell? ⟨g, j * 7 + 6, none⟩ = some (.string d2)) ∧ Below W.heap.size W w') (first | assumption | exact HST.out _ (Below.refl _ _).drew | exact HST.out _ (((Below.refl _ _).drew).trans (by assumption))) (first | (go_at_call 14; refine (CL.out _ (hLD.out _ (Below.refl _ _).drew)).mono ?_; rintro e w1 ⟨rfl, hb1⟩))
  go_wp2_with fail
  go_ret
  exact ⟨rfl, ((Below.refl _ _).drew).trans hb1⟩

/-! ### Two messages of the row, swapped -/
theorem flat_at (l : List Msg) (t : Nat) (ht : t < l.length * 7) : (lcl l)[t]? = some (Go.Sort.flatK mcl 7 l.toArray)[t]! := by
  have h7 : t / 7 < l.length := by omega
  have e : t = t / 7 * 7 + t % 7 := by omega
  rw [Go.Sort.get_flatK mcl 7 l.toArray t (by simpa using ht)]
  have hm : l.toArray[t / 7]! = l[t / 7] := by
    rw [List.getElem!_toArray, List.getElem!_eq_getElem?_getD, List.getElem?_eq_getElem h7]; rfl
  rw [hm]
  conv => lhs; rw [e, lcl_at l _ _ (Nat.mod_lt _ (by omega)), List.getElem?_eq_getElem h7]
  have hk : t % 7 < (mcl l[t / 7]).length := Nat.mod_lt _ (by omega)
  show (mcl l[t / 7])[t % 7]? = _
  rw [List.getElem?_eq_getElem hk, getElem!_pos (mcl l[t / 7]) (t % 7) hk]
theorem own_holds {W : World} {B g cap n : Nat} {l : List Msg} (h : OwnM W B (.slice (some ⟨g, 0, none⟩) n cap) l) : Go.Sort.HoldsK mcl 7 W g 0 l.toArray := by
  intro t ht
  rw [Go.Sort.size_flatK] at ht
  have hj := flat_at l t (by simpa using ht)
  have hc := World.ownsRow.cells h (g := g) rfl _ _ hj
  rw [cell_zero_add] at hc
  rw [Nat.zero_add]
  refine ⟨hc, ?_⟩
  rcases h.2 with ⟨hv, _⟩ | ⟨g', cap', cur, hv, _, hh, _⟩
  · cases hv
  · injection hv with hv
    injection hv with hv
    injection hv with hv
    subst hv
    exact frozen_of_heap hh t
theorem own_put {W : World} {B g cap : Nat} {l : List Msg} (h : OwnM W B (.slice (some ⟨g, 0, none⟩) l.length cap) l) (l' : List Msg) (hl : l'.length = l.length) :
    OwnM (Go.Sort.putRowK mcl 7 W g 0 l'.toArray) B (.slice (some ⟨g, 0, none⟩) l.length cap) l' ∧ W.grownBy (Go.Sort.putRowK mcl 7 W g 0 l'.toArray) (some g) := by
  refine ⟨?_, rfl, rfl, rfl, by rw [Go.Sort.size_putRowK]; exact Nat.le_refl _, fun k _ hk => ?_⟩
  · rcases h.2 with ⟨hv, _⟩ | ⟨g', cap', cur, hv, hB, hh, hn, hm, hs, ht⟩
    · cases hv
    · injection hv with hv hv2 hv3
      injection hv with hv
      injection hv with hv
      subst hv hv3
      refine ⟨by rw [lcl_length], .inr ⟨g, cap, Go.Sort.putCells id 0 (Go.Sort.flatK mcl 7 l'.toArray) cur, by rw [hl], hB, ?_, by rw [hl]; exact hn, hm, by simp [Go.Sort.putCells, hs], ?_⟩⟩
      · simp only [Go.Sort.putRowK, Go.Sort.putRow, Go.Sort.mapBlock, Array.getElem?_modify, if_true, hh, Option.map_some, Go.Sort.onCells]
      · apply List.ext_getElem?
        intro t
        by_cases h7 : t < l'.length * 7
        · rw [List.getElem?_take_of_lt h7, flat_at l' t h7]
          have hc : t < cur.size := by rw [hs]; have := Nat.mul_le_mul_right 7 hn; omega
          simp [Go.Sort.putCells, h7, hc]
        · rw [List.getElem?_eq_none (by rw [List.length_take]; omega), List.getElem?_eq_none (by rw [lcl_length]; omega)]
  · show (W.heap.modify g _)[k]? = _
    rw [Array.getElem?_modify, if_neg (fun e => hk (by rw [e]))]

end Go.Proofs.YtgolnklgbhilaaaDoor

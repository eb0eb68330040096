/-
  The law FifoOrder, walked.
-/
import Derived.Test.YtehajmockicilaaDoorFifFilt
import Derived.Deep.AppendSrc
namespace Go.Proofs.YtehajmockicilaaDoor
open Go Go.RowKit


/-- A slice into a block of messages that the call has made, whatever its offset. -/
structure TailM (w : World) (B : Nat) (A : Option Addr) (c : Nat) (l : List Msg) : Prop where
  le : l.length ≤ c
  max : c ≤ maxLen
  nil : A = none → c = 0
  blk : ∀ ad, A = some ad → ∃ g off cur, ad = ⟨g, off, none⟩ ∧ B ≤ g ∧ w.heap[g]? = some (.cells cur 26 (0, 0)) ∧ off + c * 7 ≤ cur.size ∧ ∀ j v, (lcl l)[j]? = some v → cur[off + j]? = some v
theorem TailM.start (w : World) (B : Nat) : TailM w B none 0 [] := ⟨Nat.le_refl _, Nat.zero_le _, fun _ => rfl, fun ad e => by cases e⟩
theorem TailM.on {w w' : World} {B : Nat} {A : Option Addr} {c : Nat} {l : List Msg} (h : TailM w B A c l) (hb : ∀ ad, A = some ad → w'.heap[ad.block]? = w.heap[ad.block]?) : TailM w' B A c l :=
  ⟨h.le, h.max, h.nil, fun ad e => by
    obtain ⟨g, off, cur, e1, e2, e3, e4, e5⟩ := h.blk ad e
    have := hb ad e
    rw [e1] at this
    exact ⟨g, off, cur, e1, e2, this.trans e3, e4, e5⟩⟩
theorem TailM.lt {w : World} {B : Nat} {A : Option Addr} {c : Nat} {l : List Msg} (h : TailM w B A c l) : ∀ ad, A = some ad → ad.block < w.heap.size ∧ B ≤ ad.block := fun ad e => by
  obtain ⟨g, off, cur, e1, e2, e3, _⟩ := h.blk ad e
  subst e1
  exact ⟨(Array.getElem?_eq_some_iff.1 e3).1, e2⟩
theorem TailM.below {w w' : World} {B : Nat} {A : Option Addr} {c : Nat} {l : List Msg} (h : TailM w B A c l) (hb : Below w.heap.size w w') : TailM w' B A c l := h.on fun ad e => hb.block _ (h.lt ad e).1
theorem TailM.not_fifo {w : World} {B : Nat} {A : Option Addr} {c : Nat} {l : List Msg} (h : TailM w B A c l) {b : Nat} {L T : Int} {A0 : Option Addr} {n0 c0 : Nat} (hf : FiAt w b L T A0 n0 c0) : ∀ ad, A = some ad → ad.block ≠ b := fun ad e e2 => by
  obtain ⟨g, off, cur, e1, _, e3, _⟩ := h.blk ad e
  subst e1
  have e4 : g = b := e2
  subst e4
  rw [show w.heap[g]? = _ from hf] at e3
  injection e3 with h5
  injection h5 with h6 h7 h8
  revert h7; decide
theorem TailM.put3 {w : World} {B : Nat} {A : Option Addr} {c : Nat} {l : List Msg} (h : TailM w B A c l) {b : Nat} {L T : Int} {A0 : Option Addr} {n0 c0 : Nat} (hf : FiAt w b L T A0 n0 c0) (x y z : Value) : TailM (set3 w b x y z) B A c l :=
  h.on fun ad e => far3 w x y z (h.not_fifo hf ad e)
theorem TailM.at7 {w : World} {B : Nat} {ad : Addr} {c : Nat} {l : List Msg} (h : TailM w B (some ad) c l) {j : Nat} {m : Msg} (hm : l[j]? = some m) : At7 w (ad.add (j * 7)) m := At7.of_cells fun k v hv => by
  obtain ⟨g, off, cur, e1, _, e3, _, e5⟩ := h.blk ad rfl
  subst e1
  have hk : k < 7 := (List.getElem?_eq_some_iff.1 hv).1
  rw [Go.Deep.add_add]
  have e : ((⟨g, off, none⟩ : Addr).add (j * 7 + k)) = ⟨g, off + (j * 7 + k), none⟩ := by unfold Addr.add; split <;> simp_all
  rw [e, cell_of e3]
  exact e5 _ _ (by rw [lcl_at l j k hk, hm]; exact hv)
theorem TailM.msgs {w : World} {B : Nat} {A : Option Addr} {c : Nat} {l : List Msg} (h : TailM w B A c l) : Msgs w w.heap.size A l := fun hn => by
  cases A with
  | none => have := h.nil rfl; have := h.le; omega
  | some ad => exact ⟨ad, rfl, (h.lt ad rfl).1, fun j m hm => h.at7 hm⟩
theorem TailM.qin {w : World} {B : Nat} {A : Option Addr} {c : Nat} {l : List Msg} (h : TailM w B A c l) (hl : l.length ≤ 200) (hd : ∀ m ∈ l, m.data.size ≤ 140737488351232) : QIn w A c l :=
  ⟨h.msgs, h.le, hl, hd, fun ad e => (h.lt ad e).1⟩
/-- The first away. -/
theorem TailM.cut {w : World} {B : Nat} {A : Option Addr} {c : Nat} {x : Msg} {l : List Msg} (h : TailM w B A c (x :: l)) : ∃ A1 c1, TailM w B A1 c1 l ∧ (∀ a1, A1 = some a1 → ∃ ad, A = some ad ∧ a1.block = ad.block) ∧
    ∀ W, (Instr.slice 28 (.slice A (l.length + 1) c) (some (.int .i64 1)) none none).run Tryd.prog W = .ok (.slice A1 l.length c1) W := by
  have hle := h.le
  simp only [List.length_cons] at hle
  cases A with
  | none => have := h.nil rfl; omega
  | some ad =>
    have hu : Tryd.prog.underlying 28 = some (.slice (Tryd.prog.elem 28)) := by kernel_rfl
    have hs : ∀ w, (sizeOf (Tryd.prog.elem 28)).run Tryd.prog w = .ok 7 w := fun w => by
      obtain ⟨i0, hi, hz0, hz1, hz2⟩ := info_parts msg_info
      have he : Tryd.prog.elem 28 = 26 := by kernel_rfl
      rw [he]
      simp [sizeOf, typeInfo, hi, hz1]
    obtain ⟨g, off, cur, e1, e2, e3, e4, e5⟩ := h.blk ad rfl
    subst e1
    have ha : ((⟨g, off, none⟩ : Addr).add (1 * 7)) = ⟨g, off + 7, none⟩ := by unfold Addr.add; split <;> simp_all
    refine ⟨some (if c = 1 then ⟨g, off, none⟩ else ⟨g, off + 7, none⟩), c - 1, ⟨by omega, by have := h.max; omega, (fun e => by cases e), fun a e => ?_⟩, fun a e => ⟨_, rfl, by cases e; split <;> rfl⟩, fun W => ?_⟩
    · cases e
      by_cases h1 : c = 1
      · rw [if_pos h1]
        have hl0 : l = [] := List.length_eq_zero_iff.1 (by omega)
        subst hl0
        exact ⟨g, off, cur, rfl, e2, e3, by omega, fun j v hv => by simp [lcl] at hv⟩
      · rw [if_neg h1]
        refine ⟨g, off + 7, cur, rfl, e2, e3, by omega, fun j v hv => ?_⟩
        have := e5 (7 + j) v (by
          show (mcl x ++ lcl l)[7 + j]? = some v
          rw [List.getElem?_append_right (by show 7 ≤ _; omega)]
          show (lcl l)[7 + j - 7]? = some v
          rw [show 7 + j - 7 = j by omega]; exact hv)
        rw [← Nat.add_assoc] at this
        exact this
    · rw [run_slice_l W 28 (some ⟨g, off, none⟩) (l.length + 1) c hu .i64 1 (by omega) (by omega), hs]
      by_cases h1 : c = 1
      · simp [Result.andThen, sliced, h1]
      · simp [Result.andThen, sliced, h1, Addr.add]
theorem set_cells7 (w : World) (g o : Nat) (m : Msg) : w.setCells g o (mcl m) = ((((((w.setCell ⟨g, o, none⟩ (.bool m.ext)).setCell ⟨g, o + 1, none⟩ (.int .i64 m.n)).setCell ⟨g, o + 1 + 1, none⟩ (.int .i64 m.sender)).setCell ⟨g, o + 1 + 1 + 1, none⟩ (.int .i64 m.inc)).setCell ⟨g, o + 1 + 1 + 1 + 1, none⟩ (.int .i64 m.seq)).setCell ⟨g, o + 1 + 1 + 1 + 1 + 1, none⟩ (.int .i64 m.number)).setCell ⟨g, o + 1 + 1 + 1 + 1 + 1 + 1, none⟩ (.string m.data) := rfl

set_option maxRecDepth 100000 in
set_option maxHeartbeats 1000000 in
theorem run_tail (w : World) (B : Nat) (ty : TypeId) (A : Option Addr) (c : Nat) (l : List Msg) (m : Msg) (g0 : Nat) (h : TailM w B A c l) (hg : MsgAt w g0 m) (hB : B ≤ w.heap.size) (hl : l.length ≤ 900) :
    ∃ A' c' w', (Builtin.append_ #[28, 28] ty #[.slice A l.length c, .slice (some ⟨g0, 0, none⟩) 1 1]).run Tryd.prog w = .ok (.slice A' (l.length + 1) c') w' ∧ TailM w' B A' c' (l ++ [m]) ∧ Below B w w' ∧ (∀ k, k < w.heap.size → (∀ ad, A = some ad → ad.block ≠ k) → w'.heap[k]? = w.heap[k]?) ∧ (∀ a, A' = some a → (∃ ad, A = some ad ∧ a.block = ad.block) ∨ w.heap.size ≤ a.block) := by
  obtain ⟨i0, hi, hz0, hz1, hz2⟩ := info_parts msg_info
  have hl1 : lcl (l ++ [m]) = lcl l ++ mcl m := by rw [lcl_append]; simp [lcl]
  have hml : (mcl m).length = 1 * 7 := rfl
  have hnews : ∀ j v, (mcl m)[j]? = some v → w.cell? ((⟨g0, 0, none⟩ : Addr).add j) = some v := fun j v hv => by
    have e : ((⟨g0, 0, none⟩ : Addr).add j) = ⟨g0, j, none⟩ := by unfold Addr.add; split <;> simp_all
    rw [e, cell_of hg]
    simpa [mc, mcl] using hv
  have hone : ∀ u ∈ mcl m, u.oneCell' = true := fun x hx => by
    simp [mcl] at hx
    rcases hx with rfl | rfl | rfl | rfl | rfl | rfl | rfl <;> rfl
  have hsrc : Src Tryd.prog 7 28 (.slice (some ⟨g0, 0, none⟩) 1 1) 1 (mcl m) w := Src.ofSlice w Tryd.underlying28 ⟨g0, 0, none⟩ 1 1 (mcl m) hml hnews hone
  by_cases hroom : l.length + 1 ≤ c
  · cases A with
    | none => have := h.nil rfl; omega
    | some ad =>
      obtain ⟨g, off, cur, e1, e2, e3, e4, e5⟩ := h.blk ad rfl
      subst e1
      have hrun := run_append_room_src (P := Tryd.prog) w 28 28 ty 26 i0 Tryd.underlying28 hi g off l.length c (.slice (some ⟨g0, 0, none⟩) 1 1) 1 (mcl m) (by rw [hz1]; exact hsrc) hroom
        (fun j hj => by
          have hj7 : j < 7 := hj
          rw [hz1, cell_of e3, Array.getElem?_eq_getElem (by omega)]; rfl)
        (fun j hj => by simp [World.frozen?, e3])
      rw [hz1] at hrun
      have hset : ∀ k, k ≠ g → (w.setCells g (off + l.length * 7) (mcl m)).heap[k]? = w.heap[k]? := fun k hk => by
        rw [set_cells7]
        simp only [Below.heap_setCell _ _ _ _ (show k ≠ (⟨g, _, none⟩ : Addr).block from hk)]
      have hsz : (w.setCells g (off + l.length * 7) (mcl m)).heap.size = w.heap.size := by rw [set_cells7]; simp only [World.size_setCell]
      have hbl : Below B w (w.setCells g (off + l.length * 7) (mcl m)) := by
        rw [set_cells7]
        exact (((((((Below.refl B w).setCell (p := ⟨g, _, none⟩) e2 _).setCell (p := ⟨g, _, none⟩) e2 _).setCell (p := ⟨g, _, none⟩) e2 _).setCell (p := ⟨g, _, none⟩) e2 _).setCell (p := ⟨g, _, none⟩) e2 _).setCell (p := ⟨g, _, none⟩) e2 _).setCell (p := ⟨g, _, none⟩) e2 _
      refine ⟨some ⟨g, off, none⟩, c, _, hrun, ⟨by simp; omega, h.max, (fun e => by cases e), fun a e => ?_⟩, hbl, fun k hk hno => hset k (fun e => hno _ rfl e.symm), fun a e => .inl ⟨_, rfl, by cases e; rfl⟩⟩
      cases e
      have hblk : ∃ cur', (w.setCells g (off + l.length * 7) (mcl m)).heap[g]? = some (.cells cur' 26 (0, 0)) ∧ cur'.size = cur.size := by
        rw [set_cells7]
        have s1 := set_blk e3 (off + l.length * 7) (.bool m.ext)
        have s2 := set_blk s1 (off + l.length * 7 + 1) (.int .i64 m.n)
        have s3 := set_blk s2 (off + l.length * 7 + 1 + 1) (.int .i64 m.sender)
        have s4 := set_blk s3 (off + l.length * 7 + 1 + 1 + 1) (.int .i64 m.inc)
        have s5 := set_blk s4 (off + l.length * 7 + 1 + 1 + 1 + 1) (.int .i64 m.seq)
        have s6 := set_blk s5 (off + l.length * 7 + 1 + 1 + 1 + 1 + 1) (.int .i64 m.number)
        have s7 := set_blk s6 (off + l.length * 7 + 1 + 1 + 1 + 1 + 1 + 1) (.string m.data)
        exact ⟨_, s7, by simp only [Array.size_setIfInBounds]⟩
      obtain ⟨cur', hc1, hc2⟩ := hblk
      refine ⟨g, off, cur', rfl, e2, hc1, by omega, fun j v hv => ?_⟩
      rw [← cell_of hc1 (off + j)]
      have hj : j < (lcl (l ++ [m])).length := (List.getElem?_eq_some_iff.1 hv).1
      rw [lcl_length, List.length_append] at hj
      simp only [List.length_cons, List.length_nil, Nat.zero_add] at hj
      rw [hl1] at hv
      by_cases hlt : j < l.length * 7
      · rw [List.getElem?_append_left (by rw [lcl_length]; exact hlt)] at hv
        rw [World.cell?_setCells_out g (mcl m) (off + l.length * 7) w ⟨g, off + j, none⟩ (fun _ _ => Or.inl (by show off + j < off + l.length * 7; omega)), cell_of e3]
        exact e5 j v hv
      · rw [List.getElem?_append_right (by rw [lcl_length]; omega), lcl_length] at hv
        have := World.cell?_setCells_in g (mcl m) (off + l.length * 7) w (fun i hi => by
          have hi7 : i < 7 := hi
          rw [cell_of e3, Array.getElem?_eq_getElem (by omega)]; rfl) (j - l.length * 7) (by show j - l.length * 7 < 7; omega)
        rw [show off + l.length * 7 + (j - l.length * 7) = off + j by omega] at this
        rw [this]
        rw [List.getElem?_eq_getElem (by show j - l.length * 7 < 7; omega)] at hv
        exact hv
  · have hcl : c = l.length := by have := h.le; omega
    have hold : (Builtin.firstCells 7 l.length (.slice A l.length c)).run Tryd.prog w.drew = .ok (lcl l).toArray w.drew := by
      cases A with
      | none =>
        have := h.nil rfl
        have hl0 : l = [] := List.length_eq_zero_iff.1 (by omega)
        subst hl0
        exact run_firstCells_none w.drew 7 0 0 c
      | some ad =>
        refine run_firstCells_some w.drew 7 l.length ad l.length c (lcl l) (lcl_length l) fun j v hv => ?_
        obtain ⟨g, off, cur, e1, e2, e3, e4, e5⟩ := h.blk ad rfl
        subst e1
        have e : ((⟨g, off, none⟩ : Addr).add j) = ⟨g, off + j, none⟩ := by unfold Addr.add; split <;> simp_all
        rw [e]
        show w.cell? _ = _
        rw [cell_of e3]
        exact e5 j v hv
    have hrun := run_append_grow_src (P := Tryd.prog) w 28 28 ty 26 i0 _ Tryd.underlying28 hi hz0 A l.length c (lcl l) (by rw [hz1]; exact hold) (.slice (some ⟨g0, 0, none⟩) 1 1) 1 (mcl m) (by rw [hz1]; exact hsrc) (by omega) (by omega) (growslice_fits (by omega) (by rw [hz2]; omega))
    have hge := grownCap_ge w (l.length + 1) c 26
    have hcm := grownCap_le_maxLen w (l.length + 1) c 26 (by unfold maxLen; omega)
    refine ⟨_, _, _, hrun, ⟨by rw [List.length_append]; exact hge, hcm, (fun e => by cases e), fun a e => ?_⟩, (Below.refl B w).drew.trans (Joins.below_alloc1 w.drew _ |>.mono hB), fun k hk _ => Below.heap_alloc w.drew _ k hk, fun a e => .inr (by cases e; exact Nat.le_refl _)⟩
    cases e
    have hnew : (w.drew.alloc (.cells ((lcl l ++ mcl m).toArray ++ Builtin.zeroCells (mv zeroM).cells (grownCap w (l.length + 1) c 26 - (l.length + 1))) 26)).heap[w.heap.size]? = some (.cells ((lcl l ++ mcl m).toArray ++ Builtin.zeroCells (mv zeroM).cells (grownCap w (l.length + 1) c 26 - (l.length + 1))) 26 (0, 0)) := heap_alloc_new w.drew _
    refine ⟨w.heap.size, 0, _, rfl, hB, hnew, ?_, fun j v hv => ?_⟩
    · rw [Array.size_append, List.size_toArray, List.length_append, lcl_length, size_zeroCells]
      show 0 + _ * 7 ≤ l.length * 7 + 7 + _ * 7
      omega
    · rw [hl1] at hv
      have hj := (List.getElem?_eq_some_iff.1 hv).1
      rw [Nat.zero_add, Array.getElem?_append_left (by rw [List.size_toArray]; exact hj), List.getElem?_toArray]
      exact hv

section
variable {ops : Array Oper} {rest : List Oper} {o : Oper} {a : Act} {w : World} {Q : Exit → Act → World → Prop}
set_option maxRecDepth 100000 in
theorem list_tail (hw : Region.wanted o (yielded ops a.tmps) = true) (s x : Operand) (ho : o.op = .call { callee := .builtin .append, args := #[s, x], argTypes := #[28, 28] })
    (B : Nat) (A : Option Addr) (c : Nat) (l : List Msg) (m : Msg) (g0 : Nat) (hs : a.eval s = .slice A l.length c) (hx : a.eval x = .slice (some ⟨g0, 0, none⟩) 1 1) (h : TailM w B A c l) (hg : MsgAt w g0 m) (hB : B ≤ w.heap.size) (hl : l.length ≤ 900)
    (hK : ∀ A' c' w', TailM w' B A' c' (l ++ [m]) → Below B w w' → (∀ k, k < w.heap.size → (∀ ad, A = some ad → ad.block ≠ k) → w'.heap[k]? = w.heap[k]?) → (∀ a, A' = some a → (∃ ad, A = some ad ∧ a.block = ad.block) ∨ w.heap.size ≤ a.block) → wpList Tryd.prog ops Q rest (a.put o.dst (.slice A' (l.length + 1) c')) w') : wpList Tryd.prog ops Q (o :: rest) a w :=
  wpList_step fun K hK' => by
    rw [if_pos hw]
    obtain ⟨A', c', w', hrun, h2, h3, h4, h5⟩ := run_tail w B o.type A c l m g0 h hg hB hl
    unfold Oper.wp
    simp [execOp, ho, resolve, invoke, builtin, hs, hx, hrun, Result.andThen]
    exact hK' _ _ (hK A' c' w' h2 h3 h4 h5)
end


theorem right_few {L T : Int} {l : List Msg} (h : rightFi L T l = true) : l.length ≤ 32 := by
  obtain ⟨h1, h2, _⟩ := (rightFi_iff _ _ _).1 h
  omega
theorem right_small8 {L T : Int} {l : List Msg} (h : rightFi L T l = true) : ∀ m ∈ l, m.data.size ≤ 140737488351232 := fun m hm => by
  have h1 := ((rightFi_iff _ _ _).1 h).2.2.2 m hm
  have := ((rightM_iff m).1 h1).2.2.2.2.2
  omega
def ApartA (A1 A2 : Option Addr) : Prop := ∀ a1, A1 = some a1 → ∀ a2, A2 = some a2 → a1.block ≠ a2.block
theorem QIn.on2 {w w' : World} {A : Option Addr} {c : Nat} {l : List Msg} (h : QIn w A c l) (hb : ∀ ad, A = some ad → w'.heap[ad.block]? = w.heap[ad.block]?) (hs : w.heap.size ≤ w'.heap.size) : QIn w' A c l := by
  refine ⟨fun hn => ?_, h.cap, h.few, h.data, fun ad e => Nat.lt_of_lt_of_le (h.low ad e) hs⟩
  obtain ⟨ad, e, hbl, hc⟩ := h.msgs hn
  refine ⟨ad, e, Nat.lt_of_lt_of_le hbl hs, fun j m hm => (hc j m hm).keep fun q hq => World.cell?_of_block ?_⟩
  rw [hq, adb]
  exact hb ad e
theorem LieIn.on2 {w w' : World} {A : Option Addr} {l : List (Bool × Int × Int)} (h : LieIn w A l) (hb : ∀ ad, A = some ad → w'.heap[ad.block]? = w.heap[ad.block]?) (hs : w.heap.size ≤ w'.heap.size) : LieIn w' A l := by
  rcases h with h | ⟨a, e, hlt, hc⟩
  · exact .inl h
  · have hk := hb a e
    refine .inr ⟨a, e, Nat.lt_of_lt_of_le hlt hs, fun j f hf => ?_⟩
    obtain ⟨h0, h1, h2⟩ := hc j f hf
    have hb' : (a.add (j * 3)).block = a.block := add_block a _
    exact ⟨(World.cell?_of_block (by rw [hb']; exact hk)).trans h0, (World.cell?_of_block (by show w'.heap[(a.add (j * 3)).block]? = w.heap[(a.add (j * 3)).block]?; rw [hb']; exact hk)).trans h1, (World.cell?_of_block (by show w'.heap[(a.add (j * 3)).block]? = w.heap[(a.add (j * 3)).block]?; rw [hb']; exact hk)).trans h2⟩
/-- What holds all the while: the fifo in its variable, what is wanted beside it, the filters. -/
structure OrdS (w : World) (SB b : Nat) (L T : Int) (l : List Msg) (AF : Option Addr) (fs : List (Bool × Int × Int)) (A : Option Addr) (c : Nat) (Aw : Option Addr) (cw : Nat) (W : World) : Prop where
  at_ : FiAt W b L T A l.length c
  inn : QIn W A c l
  right : rightFi L T l = true
  want : TailM W SB Aw cw l
  apart : ApartA A Aw
  lie : LieIn W AF fs
  below : Below w.heap.size w W
theorem OrdS.on {w : World} {SB b : Nat} {L T : Int} {l : List Msg} {AF : Option Addr} {fs : List (Bool × Int × Int)} {A : Option Addr} {c : Nat} {Aw : Option Addr} {cw : Nat} {W W' : World} (h : OrdS w SB b L T l AF fs A c Aw cw W) (hb : Below W.heap.size W W') : OrdS w SB b L T l AF fs A c Aw cw W' :=
  ⟨h.at_.on hb, h.inn.on hb, h.right, h.want.below hb, h.apart, h.lie.below hb, h.below.trans (hb.mono h.below.size)⟩
/-- The fifo's variable set anew; what is wanted, as it is or cut. -/
theorem OrdS.store {w : World} {SB b : Nat} {L T T' : Int} {l l' : List Msg} {AF : Option Addr} {fs : List (Bool × Int × Int)} {A A' : Option Addr} {c c' : Nat} {Aw Aw' : Option Addr} {cw cw' : Nat} {W : World} (h : OrdS w SB b L T l AF fs A c Aw cw W) (hi : QIn W A' c' l') (hr : rightFi L T' l' = true) (ht : TailM W SB Aw' cw' l') (ha : ApartA A' Aw') (hnf : ∀ ad, AF = some ad → ad.block ≠ b) (hwb : w.heap.size ≤ b) : OrdS w SB b L T' l' AF fs A' c' Aw' cw' (set3 W b (.int .i64 L) (.int .i64 T') (.slice A' l'.length c')) :=
  ⟨h.at_.set L T' A' l'.length c', hi.farF h.at_ _ _ _, hr, ht.put3 h.at_ _ _ _, ha, h.lie.far3 hnf _ _ _, below_set3 h.below hwb _ _ _⟩
theorem apart_told {Af Aw A5 : Option Addr} {SB S cw c5 : Nat} {W w' : World} {l l' : List Msg} (ht : QTold Af S w' l' A5 c5) (ha : ApartA Af Aw) (hw : TailM W SB Aw cw l) (hS : W.heap.size ≤ S) : ApartA A5 Aw := fun a1 e1 a2 e2 => by
  rcases ht.fresh with h | h
  · exact ha a1 (by rw [← h]; exact e1) a2 e2
  · have := h a1 e1; have := (hw.lt a2 e2).1; omega

set_option maxRecDepth 100000 in
set_option maxHeartbeats 16000000 in
theorem fifoOrder_walk (lim : Int) (Ap : Option Addr) (cp : Nat) (ps : List (Int × Int)) (A : Option Addr) (c : Nat) (rs : List Raw) (At : Option Addr) (ct : Nat) (tk : List Int) (hlim : (Lit.int .i64 lim).wf = true)
    (w : World) (L : Laid w) (f1 : PrsOkf w Ap cp ps) (f2 : RowsOk w A c rs) (ft1 : 0 < tk.length → ∃ ad, At = some ad ∧ ad.block < w.heap.size ∧ ∀ j x, tk[j]? = some x → w.cell? (ad.add j) = some (.int .i64 x)) (ft2 : tk.length ≤ ct ∧ ct ≤ maxLen) (ft3 : ∀ n ∈ tk, (Lit.int .i64 n).wf = true) :
    Calls Tryd.prog 4 #[.int .i64 lim, .slice Ap ps.length cp, .slice A rs.length c, .slice At tk.length ct] w fun e w' => e = .returned (.bool true) ∧ Below w.heap.size w w' := by
  have HPW := Lib.hid f1
  have HRS := Lib.hid f2.1
  have HWF := Lib.hid f2.2.2
  have HTK := Lib.hid ft1
  have HTW := Lib.hid ft3
  have hlc := f2.2.1.1
  have hcm := f2.2.1.2
  have hlt1 := ft2.1
  have hlt2 := ft2.2
  unfold maxLen at hcm hlt2
  have HLW := Lib.hid L
  have cA := fun W LL => fiAwake_any W LL
  have cP := fun W => pick14_any lim 8 hlim (by omega) W
  have hpl := pickI_range lim 8 (by omega)
  generalize pickI lim 8 = P at *
  obtain ⟨LQ, hLQ⟩ : ∃ LQ : Int, LQ = 1 + P := ⟨_, rfl⟩
  have hL8 : 1 ≤ LQ ∧ LQ ≤ 8 := by omega
  have HL8 := Lib.hid hL8
  have HPL : Hid (1 + P = LQ) := Lib.hid hLQ.symm
  have cn := fun W => fiNew_any LQ W
  have hlb : limB LQ = true := (limB_iff LQ).2 ⟨by omega, by omega⟩
  have hnl : newL LQ = LQ := by unfold newL; rw [hlb, if_pos rfl]
  have hne : newE LQ = 0 := by unfold newE; rw [hlb, if_pos rfl]
  rw [hnl, hne] at cn
  have HCN := Lib.hid cn
  have HFS := Lib.hid (filL_length ps)
  have HCF : Hid (∀ W, PrsOkf W Ap cp ps → Calls Tryd.prog 24 #[.slice Ap ps.length cp] W fun e w' => ∃ A' c', e = .returned (.slice A' (filL ps).length c') ∧ LieIn w' A' (filL ps) ∧ (∀ ad, A' = some ad → W.heap.size ≤ ad.block) ∧ Below W.heap.size W w') := Lib.hid (fun W h => filters_any Ap cp ps W h)
  generalize filL ps = fs at *
  clear hLQ hpl hlim L f1 f2 ft1 ft2 ft3 cn hlb hnl hne
  go_enter Tryd.func4, Tryd.ntmps4
  go_wp2_with fail; refine (cA _ HLW.out).mono ?_; rintro e w1 ⟨rfl, b1⟩
  have HB := Lib.hid b1
  clear b1 cA
  go_wp2_with fail; refine (cP _).mono ?_; rintro e w2 ⟨rfl, rfl⟩
  have hpl := HPL.out
  have cf := HCF.out _ (HPW.out.on HB.out)
  clear cP HCF
  go_wp2_with fail; refine cf.mono ?_; rintro e w3 ⟨AF, cf3, rfl, hlie, hlow, b3⟩
  have cn := HCN.out
  go_wp2_with fail; refine (cn _).mono ?_; rintro e w4 ⟨rfl, b4⟩
  have hlt4 : ∀ ad, AF = some ad → ad.block < w3.heap.size := fun ad e => by
    rcases hlie with h | ⟨a, e2, h2, _⟩
    · rw [h.2] at e; cases e
    · rw [e2] at e; cases e; exact h2
  have hb := Joins.below_alloc1 w4 (.cells #[.int .i64 LQ, .int .i64 0, .slice none 0 0] 30)
  have h34 := b4.trans (hb.mono b4.size)
  have HNF : Hid (∀ ad, AF = some ad → ad.block ≠ w4.heap.size) := Lib.hid (fun ad e => by have := hlt4 ad e; have := b4.size; omega)
  have HS12 : Hid (w.heap.size ≤ w4.heap.size) := Lib.hid (by have := HB.out.size; have := b3.size; have := b4.size; omega)
  have HNB : Hid (∀ ad, AF = some ad → ad.block < w4.heap.size + 1) := Lib.hid (fun ad e => by have := hlt4 ad e; have := b4.size; omega)
  have HOS : Hid (OrdS w (w4.heap.size + 1) w4.heap.size LQ 0 [] AF fs none 0 none 0 (w4.alloc (.cells #[.int .i64 LQ, .int .i64 0, .slice none 0 0] 30))) := Lib.hid ⟨FiAt.new w4 LQ 0 none 0 0, ⟨Msgs.nil _ _ _, Nat.le_refl _, by decide, (fun m h => by cases h), fun ad e => by cases e⟩, (rightFi_iff _ _ _).2 ⟨by have := HL8.out; omega, by have := HL8.out; simp; omega, by omega, by simp⟩, TailM.start _ _, (fun a1 e => by cases e), hlie.below h34, HB.out.trans ((b3.trans (h34.mono b3.size)).mono HB.out.size)⟩
  have HSB : Hid ((w4.alloc (.cells #[.int .i64 LQ, .int .i64 0, .slice none 0 0] 30)).heap.size = w4.heap.size + 1) := Lib.hid (World.size_alloc _ _)
  clear hlie hlow b3 b4 hb h34 hlt4 cf cn hpl
  go_upto_region 5 with (fail)
  generalize w4.alloc (.cells #[.int .i64 LQ, .int .i64 0, .slice none 0 0] 30) = W4 at *
  generalize w4.heap.size = b12 at *
  go_upto_region 9 with (fail)
  go_wp2_with fail
  go_loopw [14, 15, 16, 17, 18, 19, 20, 21, 22, 23, 24, 25] (fun u v i _ _ _ _ _ _ _ _ _ wr => ∃ (k T : Nat) (lf : List Msg) (Af : Option Addr) (cf : Nat) (Aw : Option Addr) (cw : Nat), k ≤ rs.length ∧ k ≤ 40 ∧ T ≤ k ∧ i = .int .i64 (k : Int) ∧ u = .slice Aw lf.length cw ∧ v = .int .i64 (T : Int) ∧ OrdS w (b12 + 1) b12 LQ (T : Int) lf AF fs Af cf Aw cw wr ∧ b12 + 1 ≤ wr.heap.size) (fun _ _ i _ _ _ _ _ _ _ _ _ _ => 40 - (intOf i).toNat)
  case atStart => exact ⟨0, 0, [], none, 0, none, 0, by omega, by omega, by omega, rfl, rfl, rfl, HOS.out, Nat.le_of_eq HSB.out.symm⟩
  case round =>
    clear HOS HSB HB
    obtain ⟨k, T, lf, Af, cf, Aw, cw, hk, hk40, hTk, rfl, rfl, rfl, hos, hsz⟩ := hrel
    generalize wr = wo at *
    have HOS := Lib.hid hos
    have HSZ := Lib.hid hsz
    clear hos hsz
    by_cases hgo : k < rs.length ∧ k < 40
    · obtain ⟨hlt, hlt40⟩ := hgo
      have hltI : (k : Int) < (rs.length : Int) := by omega
      have hlt40I : (k : Int) < 40 := by omega
      obtain ⟨r, hr⟩ : ∃ r, rs[k]? = some r := ⟨_, List.getElem?_eq_getElem hlt⟩
      have hwr := HWF.out k r hr
      obtain ⟨ad, rfl, hadb, hcc⟩ := HRS.out (by omega)
      obtain ⟨x0, x1, x2, x3, x4, x5⟩ : At6 wo (ad.add (k * 6)) r := (hcc k r hr).keep fun q hq => HOS.out.below.cell (by rw [hq, adb]; exact hadb)
      have cm := fun W => rmsg_any r hwr fdT (by decide) W
      have hmr := rmsg_right fdT r
      have hmd := rmsg_data fdT r
      clear hcc hwr hr
      generalize rmsg fdT r = m at *
      have HMR := Lib.hid hmr
      obtain ⟨HH, T2, lg, hE, hH, hT, hG, hrg, hcase⟩ := off_three (anyI m.ext m.n fs) HOS.out.right hmr
      have hl32 := right_few HOS.out.right
      have HCO : Hid (∀ W, Below wo.heap.size wo W → Calls Tryd.prog 25 #[fiv LQ T Af lf.length cf, mv m, .slice AF fs.length cf3] W (FiPost Af LQ T2 lg HH 0 W)) := Lib.hid (fun W h1 => by
        have h := offer_any LQ T Af cf lf m AF cf3 fs W (HLW.out.below (HOS.out.on h1).below) (HOS.out.inn.on h1) (by omega) (HOS.out.lie.below h1) (by have := HFS.out; omega)
        rw [hE, hH, hT, hG] at h
        exact h)
      have HAN : Hid (∀ W, Below wo.heap.size wo W → Calls Tryd.prog 27 #[.agg #[.bool m.ext, .int .i64 m.n], .slice AF fs.length cf3] W fun e w' => e = .returned (.bool (anyI m.ext m.n fs)) ∧ Below W.heap.size W w') := Lib.hid (fun W h1 => refAny_any m.ext m.n AF cf3 fs W (HOS.out.lie.below h1) (by have := HFS.out; omega))
      have HRG := Lib.hid hrg
      clear hE hH hT hG hrg hmd hmr hl32
      generalize anyI m.ext m.n fs = th at *
      obtain ⟨e1, n1, s1, i1, q1, k1, d1⟩ := m
      obtain ⟨r0, r1, r2, r3, r4, r5⟩ := r
      simp only [mv, fdT] at cm HCO HAN
      rcases hcase with ⟨h1, h2, h3, h4⟩ | ⟨h1, h2, h3, h4, h5⟩ | ⟨h1, h2, h3, h4, h5⟩
      · subst h1
        have h3s := h3.symm
        clear h3
        subst h3s
        subst h4
        subst h2
        have HLEN : Hid (True) := Lib.hid trivial
        go_wp2_with fail; refine (cm _).mono ?_; rintro e w3 ⟨rfl, b3⟩
        have hbm := Joins.below_alloc1 w3 (.cells #[.bool e1, .int .i64 n1, .int .i64 s1, .int .i64 i1, .int .i64 q1, .int .i64 k1, .string d1] 26)
        have hb3 := b3.trans (hbm.mono b3.size)
        have HM : Hid (MsgAt _ w3.heap.size ⟨e1, n1, s1, i1, q1, k1, d1⟩) := Lib.hid (MsgAt.new w3 ⟨e1, n1, s1, i1, q1, k1, d1⟩)
        have HO1 := Lib.hid (HOS.out.on hb3)
        have hpc := HCO.out _ hb3
        have HW1 := Lib.hid hb3
        clear b3 hbm hb3 cm x0 x1 x2 x3 x4 x5
        go_upto_region 13 with (fail)
        generalize w3.alloc (.cells #[.bool e1, .int .i64 n1, .int .i64 s1, .int .i64 i1, .int .i64 q1, .int .i64 k1, .string d1] 26) = W3 at *
        generalize w3.heap.size = b17 at *
        obtain ⟨y0, y1, y2⟩ := HO1.out.at_.cells
        obtain ⟨x0, x1, x2, x3, x4, x5, x6⟩ := MsgAt.cells HM.out
        go_wp2_with fail; refine hpc.mono ?_; rintro e w5 ⟨A5, c5, rfl, ht5, b5⟩
        have hb := Joins.below_alloc1 w5 (.cells #[.int .i64 LQ, .int .i64 (T : Int), .slice A5 lf.length c5] 30)
        have h5b := b5.trans (hb.mono b5.size)
        have HAP := Lib.hid (apart_told ht5 HO1.out.apart HO1.out.want (Nat.le_refl _))
        have HI5 := Lib.hid ((ht5.qin (Nat.le_trans (right_few HRG.out) (by decide)) (right_small8 HRG.out)).on hb)
        have HG5 := Lib.hid (FiAt.new w5 LQ (T : Int) A5 lf.length c5)
        have HM5 : Hid (MsgAt _ b17 ⟨e1, n1, s1, i1, q1, k1, d1⟩) := Lib.hid (MsgAt.on HM.out h5b)
        have HO5 := Lib.hid (HO1.out.on h5b)
        have can := HAN.out _ (HW1.out.trans (h5b.mono HW1.out.size))
        clear y0 y1 y2 x0 x1 x2 x3 x4 x5 x6 hpc ht5 b5 hb h5b HO1 HM HW1 HAN HCO
        go_upto_region 14 with (fail)
        generalize w5.alloc (.cells #[.int .i64 LQ, .int .i64 (T : Int), .slice A5 lf.length c5] 30) = W5 at *
        generalize w5.heap.size = b18 at *
        obtain ⟨x0, x1, x2, x3, x4, x5, x6⟩ := MsgAt.cells HM5.out
        go_wp2_with fail; refine can.mono ?_; rintro e w7 ⟨rfl, b7⟩
        have HI7 := Lib.hid (HI5.out.on b7)
        have HG7 := Lib.hid (HG5.out.on b7)
        have HM7 : Hid (MsgAt _ b17 ⟨e1, n1, s1, i1, q1, k1, d1⟩) := Lib.hid (MsgAt.on HM5.out b7)
        have HO7 := Lib.hid (HO5.out.on b7)
        clear x0 x1 x2 x3 x4 x5 x6 can b7 HI5 HG5 HM5 HO5
        have hlen := HLEN.out
        go_upto_region 17 with (fail)
        obtain ⟨y0, y1, y2⟩ := HO7.out.at_.cells
        have yf := HO7.out.at_.frozen
        obtain ⟨z0, z1, z2⟩ := HG7.out.cells
        have HS := Lib.hid (HO7.out.store HI7.out HRG.out HO7.out.want HAP.out HNF.out HS12.out)
        have HSZ7 : Hid (b12 + 1 ≤ (set3 w7 b12 (.int .i64 LQ) (.int .i64 (T : Int)) (.slice A5 lf.length c5)).heap.size) := Lib.hid (by rw [size3]; exact HO7.out.at_.lt)
        clear HI7 HG7 HM7 HO7 HAP
        go_upto_region 22 with (fail)
        simp only [set3] at HS HSZ7
        generalize ((w7.setCell ⟨b12, 0, none⟩ (.int .i64 LQ)).setCell ⟨b12, 1, none⟩ (.int .i64 (T : Int))).setCell ⟨b12, 2, none⟩ (.slice A5 lf.length c5) = W8 at *
        clear y0 y1 y2 yf z0 z1 z2
        go_wp2_with fail
        go_loopw [14, 22, 23, 24, 25] (fun u j _ _ _ wr => ∃ (jj : Nat) (l2 : List Msg) (Ag : Option Addr) (cg : Nat) (Av : Option Addr) (cv : Nat), jj ≤ 4 ∧ j = .int .i64 (jj : Int) ∧ u = .slice Av l2.length cv ∧ OrdS w (b12 + 1) b12 LQ (T : Int) l2 AF fs Ag cg Av cv wr ∧ b12 + 1 ≤ wr.heap.size) (fun _ j _ _ _ _ => 4 - (intOf j).toNat)
        case atStart => exact ⟨0, lf, A5, c5, Aw, cw, by omega, rfl, rfl, HS.out, HSZ7.out⟩
        case round =>
          clear HS HSZ7 HRG HOS HSZ
          obtain ⟨jj, l2, Ag, cg, Av, cv, hjj, rfl, rfl, hos, hsz⟩ := hrel
          have HOI := Lib.hid hos
          have HSI := Lib.hid hsz
          clear hos hsz hlen
          obtain ⟨y0, y1, y2⟩ := HOI.out.at_.cells
          by_cases hkt : k < tk.length
          · have hktI : (k : Int) < (tk.length : Int) := by omega
            obtain ⟨x, hx⟩ : ∃ x, tk[k]? = some x := ⟨_, List.getElem?_eq_getElem hkt⟩
            obtain ⟨at1, rfl, hatb, hatc⟩ := HTK.out (by omega)
            have hxc : wr.cell? (at1.add k) = some (.int .i64 x) := (HOI.out.below.cell (by rw [adb]; exact hatb)).trans (hatc k x hx)
            have cpk := fun W => pick14_any x 4 (HTW.out x (List.mem_of_getElem? hx)) (by omega) W
            have hpr := pickI_range x 4 (by omega)
            clear hx hatc hatb
            generalize pickI x 4 = PX at *
            by_cases hjp : (jj : Int) < PX
            · go_wp2_with fail; refine (cpk _).mono ?_; rintro e w8 ⟨rfl, rfl⟩
              clear cpk hxc
              have hj4 : jj < 4 := by omega
              go_upto_region 25 with (fail)
              clear hpr hjp
              cases l2 with
              | nil =>
                obtain ⟨hE, hM, hL⟩ := take_nil HOI.out.right rfl
                have hpc := takeFi_any LQ (T : Int) Ag cg [] wr (HLW.out.below HOI.out.below) HOI.out.inn
                rw [hE, hM, hL] at hpc
                simp only [List.length_nil, zeroM] at hpc
                simp only [List.length_nil] at y2
                clear hE hM hL
                go_wp2_with fail; refine hpc.mono ?_; rintro e w9 ⟨A7, c7, rfl, ht7, b7⟩
                have hba := Joins.below_alloc1 w9 (.cells #[.int .i64 LQ, .int .i64 (T : Int), .slice A7 0 c7] 30)
                have hbb := Joins.below_alloc1 (w9.alloc (.cells #[.int .i64 LQ, .int .i64 (T : Int), .slice A7 0 c7] 30)) (.cells #[.bool false, .int .i64 0, .int .i64 0, .int .i64 0, .int .i64 0, .int .i64 0, .string ⟨#[]⟩] 26)
                have hab := hba.trans (hbb.mono hba.size)
                have hall := b7.trans (hab.mono b7.size)
                have HQ := Lib.hid ((FiAt.new w9 LQ (T : Int) A7 0 c7).on hbb)
                have hqi := (ht7.qin (by simp) (by simp)).on hab
                have HO9 := Lib.hid (HOI.out.on hall)
                have HS9 := Lib.hid (Nat.le_trans HSI.out hall.size)
                clear y0 y1 y2 hpc ht7 b7 hba hbb hab hall HOI HSI
                go_upto_region 26 with (fail)
                generalize (w9.alloc (.cells #[.int .i64 LQ, .int .i64 (T : Int), .slice A7 0 c7] 30)).alloc (.cells #[.bool false, .int .i64 0, .int .i64 0, .int .i64 0, .int .i64 0, .int .i64 0, .string ⟨#[]⟩] 26) = W9 at *
                generalize w9.heap.size = b23 at *
                obtain ⟨z0, z1, z2⟩ := HQ.out.cells
                obtain ⟨y0, y1, y2⟩ := HO9.out.at_.cells
                simp only [List.length_nil] at y2
                have csm := sameFi_any LQ LQ (T : Int) (T : Int) A7 Ag c7 cg [] [] W9 hqi HO9.out.inn
                rw [show sameFi LQ LQ (T : Int) (T : Int) [] [] = true by unfold sameFi; rw [(sameL_iff _ _).2 rfl]; simp] at csm
                simp only [List.length_nil] at csm
                clear hqi
                go_wp2_with fail; refine csm.mono ?_; rintro e w10 ⟨rfl, b10⟩
                have HO10 := Lib.hid (HO9.out.on b10)
                have HS10 := Lib.hid (Nat.le_trans HS9.out b10.size)
                clear y0 y1 y2 z0 z1 z2 csm b10 HQ HO9 HS9
                go_wp2_with fail
                go_roundw
                case rel => exact ⟨jj + 1, [], Ag, cg, Av, cv, by omega, by go_num, rfl, HO10.out, HS10.out⟩
                case measure => simp [intOf]; omega
              | cons x2 tl =>
                obtain ⟨hE, hM, hL, hrt⟩ := take_cons HOI.out.right
                have hpc := takeFi_any LQ (T : Int) Ag cg (x2 :: tl) wr (HLW.out.below HOI.out.below) HOI.out.inn
                rw [hE, hM, hL] at hpc
                have HRT := Lib.hid hrt
                obtain ⟨A1, c1, htc, htb, hcut⟩ := HOI.out.want.cut
                have hav : ∃ av, Av = some av := by
                  cases hA : Av with
                  | none => have := HOI.out.want.nil hA; have := HOI.out.want.le; simp at this; omega
                  | some av => exact ⟨av, rfl⟩
                obtain ⟨av, rfl⟩ := hav
                have HX0 : Hid (∀ W, Below wr.heap.size wr W → At7 W av x2) := Lib.hid (fun W h => by
                  have h7 := (HOI.out.want.below h).at7 (j := 0) (m := x2) rfl
                  rw [show av.add (0 * 7) = av by unfold Addr.add; rfl] at h7
                  exact h7)
                have HTC := Lib.hid htc
                have HTB := Lib.hid htb
                simp only [List.length_cons] at hpc y2
                clear hE hM hL hrt htc htb
                obtain ⟨f1, g1, t1, j1, p1, u1, v1⟩ := x2
                go_wp2_with fail; refine hpc.mono ?_; rintro e w9 ⟨A7, c7, rfl, ht7, b7⟩
                have hba := Joins.below_alloc1 w9 (.cells #[.int .i64 LQ, .int .i64 (T : Int), .slice A7 tl.length c7] 30)
                have hbb := Joins.below_alloc1 (w9.alloc (.cells #[.int .i64 LQ, .int .i64 (T : Int), .slice A7 tl.length c7] 30)) (.cells #[.bool f1, .int .i64 g1, .int .i64 t1, .int .i64 j1, .int .i64 p1, .int .i64 u1, .string v1] 26)
                have hab := hba.trans (hbb.mono hba.size)
                have hall := b7.trans (hab.mono b7.size)
                have HQ := Lib.hid ((FiAt.new w9 LQ (T : Int) A7 tl.length c7).on hbb)
                have hm24 := MsgAt.new (w9.alloc (.cells #[.int .i64 LQ, .int .i64 (T : Int), .slice A7 tl.length c7] 30)) ⟨f1, g1, t1, j1, p1, u1, v1⟩
                have HM24 : Hid (MsgAt _ (w9.heap.size + 1) ⟨f1, g1, t1, j1, p1, u1, v1⟩) := Lib.hid (by rw [World.size_alloc] at hm24; exact hm24)
                have HI9 := Lib.hid ((ht7.qin (Nat.le_trans (right_few HRT.out) (by decide)) (right_small8 HRT.out)).on hab)
                have HAP7 : Hid (ApartA A7 A1) := Lib.hid (fun a1 e1 a2 e2 => by
                  obtain ⟨a3, e3, e4⟩ := HTB.out a2 e2
                  rw [e4]
                  exact apart_told ht7 HOI.out.apart HOI.out.want (Nat.le_refl _) a1 e1 a3 e3)
                have HO9 := Lib.hid (HOI.out.on hall)
                have HS9 := Lib.hid (Nat.le_trans HSI.out hall.size)
                have HTC9 := Lib.hid (HTC.out.below hall)
                have HX9 := Lib.hid (HX0.out _ hall)
                clear y0 y1 y2 hpc ht7 b7 hba hbb hab hall HOI HSI HTC HX0 hm24 HTB
                simp only [mc] at HM24 HQ HI9 HO9 HS9 HTC9 HX9
                have hne0 : (((tl.length + 1 : Nat) : Int) == 0) = false := beq_eq_false_iff_ne.mpr (by omega)
                have hne1 : ((tl.length : Int) + 1 == 0) = false := beq_eq_false_iff_ne.mpr (by omega)
                go_upto_region 29 with (fail)
                generalize (w9.alloc (.cells #[.int .i64 LQ, .int .i64 (T : Int), .slice A7 tl.length c7] 30)).alloc (.cells #[.bool f1, .int .i64 g1, .int .i64 t1, .int .i64 j1, .int .i64 p1, .int .i64 u1, .string v1] 26) = W9 at *
                generalize w9.heap.size = b23 at *
                obtain ⟨a0, a1, a2, a3, a4, a5, a6⟩ := MsgAt.cells HM24.out
                obtain ⟨c0, c1x, c2, c3, c4, c5x, c6⟩ := HX9.out
                have hg1 := fun x y W => eqM_guard .neq x y ⟨f1, g1, t1, j1, p1, u1, v1⟩ ⟨f1, g1, t1, j1, p1, u1, v1⟩ W
                have hg2 := neqM ⟨f1, g1, t1, j1, p1, u1, v1⟩ ⟨f1, g1, t1, j1, p1, u1, v1⟩
                rw [(sameM_iff _ _).2 rfl, Bool.not_true] at hg2
                simp only [mv] at hg1 hg2
                have hnp : (0 : Int) < ((tl.length + 1 : Nat) : Int) := by omega
                have hnp1 : (0 : Int) < (tl.length : Int) + 1 := by omega
                go_quiet (fail)
                go_upto_region 31 with (fail)
                have HQn := Lib.hid (HQ.out.on (below_drewN (Below.refl _ W9) nq))
                have HIn := Lib.hid (HI9.out.on (below_drewN (Below.refl _ W9) nq))
                have HOn := Lib.hid (HO9.out.on (below_drewN (Below.refl _ W9) nq))
                have HTn := Lib.hid (HTC9.out.below (below_drewN (Below.refl _ W9) nq))
                have HSn : Hid (b12 + 1 ≤ (W9.drewN nq).heap.size) := Lib.hid (Nat.le_trans HS9.out (below_drewN (Below.refl 0 W9) nq).size)
                clear a0 a1 a2 a3 a4 a5 a6 c0 c1x c2 c3 c4 c5x c6 hg1 hg2 hnp hnp1 hne0 hne1 HQ HI9 HO9 HTC9 HS9 HX9 HM24
                generalize W9.drewN nq = W10 at *
                go_upto_region 32 with (fail)
                obtain ⟨z0, z1, z2⟩ := HQn.out.cells
                obtain ⟨y0, y1, y2⟩ := HOn.out.at_.cells
                have yf := HOn.out.at_.frozen
                have HS11 := Lib.hid (HOn.out.store HIn.out HRT.out HTn.out HAP7.out HNF.out HS12.out)
                have HZ11 : Hid (b12 + 1 ≤ (set3 W10 b12 (.int .i64 LQ) (.int .i64 (T : Int)) (.slice A7 tl.length c7)).heap.size) := Lib.hid (by rw [size3]; exact HSn.out)
                clear hcut HQn HIn HOn HTn HSn HAP7
                go_wp2_with fail
                go_roundw
                case rel => exact ⟨jj + 1, tl, A7, c7, A1, c1, by omega, by go_num, rfl, HS11.out, HZ11.out⟩
                case measure => simp [intOf]; omega
            · go_wp2_with fail; refine (cpk _).mono ?_; rintro e w8 ⟨rfl, rfl⟩
              clear cpk hxc
              go_upto_region 33 with (fail)
              clear hpr hjp
              have csm := same_any Ag Av cg cv _ _ l2 l2 wr HOI.out.inn.msgs HOI.out.want.msgs (by have := HOI.out.inn.few; unfold maxLen; omega)
              rw [(sameL_iff _ _).2 rfl] at csm
              go_wp2_with fail; refine csm.mono ?_; rintro e w9 ⟨rfl, n9, rfl⟩
              have HO9 := Lib.hid (HOI.out.on (below_drewN (Below.refl _ wr) n9))
              have HS9 : Hid (b12 + 1 ≤ (wr.drewN n9).heap.size) := Lib.hid (Nat.le_trans HSI.out (below_drewN (Below.refl 0 wr) n9).size)
              clear y0 y1 y2 csm HOI HSI
              generalize wr.drewN n9 = W9 at *
              obtain ⟨y0, y1, y2⟩ := HO9.out.at_.cells
              have crt := rightFi_any LQ (T : Int) Ag cg l2 W9 (HLW.out.below HO9.out.below) HO9.out.inn
              rw [HO9.out.right] at crt
              go_wp2_with fail; refine crt.mono ?_; rintro e w10 ⟨rfl, b10⟩
              have HO10 := Lib.hid (HO9.out.on b10)
              have HS10 := Lib.hid (Nat.le_trans HS9.out b10.size)
              clear y0 y1 y2 crt b10 HO9 HS9
              go_wp2_with fail
              go_roundw
              case rel => exact ⟨k + 1, T, l2, Ag, cg, Av, cv, by omega, by omega, by omega, by go_num, rfl, rfl, HO10.out, HS10.out⟩
              case measure => simp [intOf]; omega
          · have hktI : ¬ (k : Int) < (tk.length : Int) := by omega
            have csm := same_any Ag Av cg cv _ _ l2 l2 wr HOI.out.inn.msgs HOI.out.want.msgs (by have := HOI.out.inn.few; unfold maxLen; omega)
            rw [(sameL_iff _ _).2 rfl] at csm
            go_wp2_with fail; refine csm.mono ?_; rintro e w9 ⟨rfl, n9, rfl⟩
            have HO9 := Lib.hid (HOI.out.on (below_drewN (Below.refl _ wr) n9))
            have HS9 : Hid (b12 + 1 ≤ (wr.drewN n9).heap.size) := Lib.hid (Nat.le_trans HSI.out (below_drewN (Below.refl 0 wr) n9).size)
            clear y0 y1 y2 csm HOI HSI
            generalize wr.drewN n9 = W9 at *
            obtain ⟨y0, y1, y2⟩ := HO9.out.at_.cells
            have crt := rightFi_any LQ (T : Int) Ag cg l2 W9 (HLW.out.below HO9.out.below) HO9.out.inn
            rw [HO9.out.right] at crt
            go_wp2_with fail; refine crt.mono ?_; rintro e w10 ⟨rfl, b10⟩
            have HO10 := Lib.hid (HO9.out.on b10)
            have HS10 := Lib.hid (Nat.le_trans HS9.out b10.size)
            clear y0 y1 y2 crt b10 HO9 HS9
            go_wp2_with fail
            go_roundw
            case rel => exact ⟨k + 1, T, l2, Ag, cg, Av, cv, by omega, by omega, by omega, by go_num, rfl, rfl, HO10.out, HS10.out⟩
            case measure => simp [intOf]; omega
      · subst h1
        subst h3
        subst h4
        subst h2
        have HLEN : Hid ((lf.length : Int) < LQ) := Lib.hid h5
        clear h5
        have HLG : Hid ((lf ++ [(⟨e1, n1, s1, i1, q1, k1, d1⟩ : Msg)]).length = lf.length + 1) := Lib.hid (by simp)
        go_wp2_with fail; refine (cm _).mono ?_; rintro e w3 ⟨rfl, b3⟩
        have hbm := Joins.below_alloc1 w3 (.cells #[.bool e1, .int .i64 n1, .int .i64 s1, .int .i64 i1, .int .i64 q1, .int .i64 k1, .string d1] 26)
        have hb3 := b3.trans (hbm.mono b3.size)
        have HM : Hid (MsgAt _ w3.heap.size ⟨e1, n1, s1, i1, q1, k1, d1⟩) := Lib.hid (MsgAt.new w3 ⟨e1, n1, s1, i1, q1, k1, d1⟩)
        have HO1 := Lib.hid (HOS.out.on hb3)
        have hpc := HCO.out _ hb3
        have HW1 := Lib.hid hb3
        clear b3 hbm hb3 cm x0 x1 x2 x3 x4 x5
        go_upto_region 13 with (fail)
        generalize w3.alloc (.cells #[.bool e1, .int .i64 n1, .int .i64 s1, .int .i64 i1, .int .i64 q1, .int .i64 k1, .string d1] 26) = W3 at *
        generalize w3.heap.size = b17 at *
        obtain ⟨y0, y1, y2⟩ := HO1.out.at_.cells
        obtain ⟨x0, x1, x2, x3, x4, x5, x6⟩ := MsgAt.cells HM.out
        go_wp2_with fail; refine hpc.mono ?_; rintro e w5 ⟨A5, c5, rfl, ht5, b5⟩
        rw [HLG.out]
        have hb := Joins.below_alloc1 w5 (.cells #[.int .i64 LQ, .int .i64 (T : Int), .slice A5 (lf.length + 1) c5] 30)
        have h5b := b5.trans (hb.mono b5.size)
        have HAP := Lib.hid (apart_told ht5 HO1.out.apart HO1.out.want (Nat.le_refl _))
        have HI5 := Lib.hid ((ht5.qin (Nat.le_trans (right_few HRG.out) (by decide)) (right_small8 HRG.out)).on hb)
        have HG5 := Lib.hid (FiAt.new w5 LQ (T : Int) A5 (lf.length + 1) c5)
        have HM5 : Hid (MsgAt _ b17 ⟨e1, n1, s1, i1, q1, k1, d1⟩) := Lib.hid (MsgAt.on HM.out h5b)
        have HO5 := Lib.hid (HO1.out.on h5b)
        have can := HAN.out _ (HW1.out.trans (h5b.mono HW1.out.size))
        clear y0 y1 y2 x0 x1 x2 x3 x4 x5 x6 hpc ht5 b5 hb h5b HO1 HM HW1 HAN HCO
        go_upto_region 14 with (fail)
        generalize w5.alloc (.cells #[.int .i64 LQ, .int .i64 (T : Int), .slice A5 (lf.length + 1) c5] 30) = W5 at *
        generalize w5.heap.size = b18 at *
        obtain ⟨x0, x1, x2, x3, x4, x5, x6⟩ := MsgAt.cells HM5.out
        go_wp2_with fail; refine can.mono ?_; rintro e w7 ⟨rfl, b7⟩
        have HI7 := Lib.hid (HI5.out.on b7)
        have HG7 := Lib.hid (HG5.out.on b7)
        have HM7 : Hid (MsgAt _ b17 ⟨e1, n1, s1, i1, q1, k1, d1⟩) := Lib.hid (MsgAt.on HM5.out b7)
        have HO7 := Lib.hid (HO5.out.on b7)
        clear x0 x1 x2 x3 x4 x5 x6 can b7 HI5 HG5 HM5 HO5
        have hlen := HLEN.out
        go_upto_region 17 with (fail)
        obtain ⟨y0, y1, y2⟩ := HO7.out.at_.cells
        have yf := HO7.out.at_.frozen
        obtain ⟨z0, z1, z2⟩ := HG7.out.cells
        have HFA := Lib.hid (HO7.out.at_.set LQ (T : Int) A5 (lf.length + 1) c5)
        have HI8 := Lib.hid (HI7.out.farF HO7.out.at_ (.int .i64 LQ) (.int .i64 (T : Int)) (.slice A5 (lf.length + 1) c5))
        have HT8 := Lib.hid (HO7.out.want.put3 HO7.out.at_ (.int .i64 LQ) (.int .i64 (T : Int)) (.slice A5 (lf.length + 1) c5))
        have HL8b := Lib.hid (HO7.out.lie.far3 HNF.out (.int .i64 LQ) (.int .i64 (T : Int)) (.slice A5 (lf.length + 1) c5))
        have HB8 := Lib.hid (below_set3 HO7.out.below HS12.out (.int .i64 LQ) (.int .i64 (T : Int)) (.slice A5 (lf.length + 1) c5))
        have HM8 : Hid (MsgAt _ b17 ⟨e1, n1, s1, i1, q1, k1, d1⟩) := Lib.hid (MsgAt.put3 HM7.out (b := b12) (fun e => by
          have h1 := HM7.out
          have h2 := HO7.out.at_
          unfold MsgAt at h1
          unfold FiAt at h2
          rw [e, h2] at h1
          injection h1 with h3
          injection h3 with h4 h5 h6
          revert h5; decide) (.int .i64 LQ) (.int .i64 (T : Int)) (.slice A5 (lf.length + 1) c5))
        have HSZ8 : Hid (b12 + 1 ≤ (set3 w7 b12 (.int .i64 LQ) (.int .i64 (T : Int)) (.slice A5 (lf.length + 1) c5)).heap.size) := Lib.hid (by rw [size3]; exact HO7.out.at_.lt)
        clear HI7 HG7 HM7 HO7
        go_upto_region 19 with (fail)
        simp only [set3] at HFA HI8 HT8 HL8b HB8 HM8 HSZ8
        generalize ((w7.setCell ⟨b12, 0, none⟩ (.int .i64 LQ)).setCell ⟨b12, 1, none⟩ (.int .i64 (T : Int))).setCell ⟨b12, 2, none⟩ (.slice A5 (lf.length + 1) c5) = W7 at *
        clear y0 y1 y2 yf z0 z1 z2
        obtain ⟨x0, x1, x2, x3, x4, x5, x6⟩ := MsgAt.cells HM8.out
        have hbm := Joins.below_alloc1 W7 (.cells #[.bool e1, .int .i64 n1, .int .i64 s1, .int .i64 i1, .int .i64 q1, .int .i64 k1, .string d1] 26)
        have HTm := Lib.hid (HT8.out.below hbm)
        have HSm : Hid (b12 + 1 ≤ (W7.alloc (.cells #[.bool e1, .int .i64 n1, .int .i64 s1, .int .i64 i1, .int .i64 q1, .int .i64 k1, .string d1] 26)).heap.size) := Lib.hid (Nat.le_trans HSZ8.out hbm.size)
        have HFm := Lib.hid (HFA.out.on hbm)
        have HIm := Lib.hid (HI8.out.on hbm)
        have HLm := Lib.hid (HL8b.out.below hbm)
        have HBm := Lib.hid (HB8.out.trans (hbm.mono HB8.out.size))
        have HXm : Hid (MsgAt (W7.alloc (.cells #[.bool e1, .int .i64 n1, .int .i64 s1, .int .i64 i1, .int .i64 q1, .int .i64 k1, .string d1] 26)) W7.heap.size ⟨e1, n1, s1, i1, q1, k1, d1⟩) := Lib.hid (MsgAt.new W7 ⟨e1, n1, s1, i1, q1, k1, d1⟩)
        have hl32 := right_few HRG.out
        rw [HLG.out] at hl32
        clear hbm HFA HI8 HT8 HL8b HB8 HM8 HSZ8
        go_wp2_with (at_builtin; refine list_tail (by rfl) _ _ rfl (b12 + 1) Aw cw lf ⟨e1, n1, s1, i1, q1, k1, d1⟩ W7.heap.size rfl rfl HTm.out HXm.out HSm.out (by omega) ?_)
        intro Aw2 cw2 w9 htl hbl hoth hnew
        have HS0 : Hid (OrdS w (b12 + 1) b12 LQ (T : Int) (lf ++ [⟨e1, n1, s1, i1, q1, k1, d1⟩]) AF fs A5 c5 Aw2 cw2 w9) := Lib.hid ⟨by
            rw [HLG.out]
            exact HFm.out.kept (hbl.block _ (Nat.lt_succ_self _)), HIm.out.on2 (fun ad e => hoth _ (by have := HIm.out.low ad e; rwa [World.size_alloc] at this) (fun a2 e2 e3 => HAP.out ad e a2 e2 e3.symm)) hbl.size, HRG.out, htl, fun a1 e1 a2 e2 => by
            rcases hnew a2 e2 with ⟨a3, e3, e4⟩ | e4
            · rw [e4]; exact HAP.out a1 e1 a3 e3
            · have := HIm.out.low a1 e1; rw [World.size_alloc] at this; omega, HLm.out.on2 (fun ad e => hbl.block _ (HNB.out ad e)) hbl.size, HBm.out.trans (hbl.mono (by have := HS12.out; omega))⟩
        have HSZ7 : Hid (b12 + 1 ≤ w9.heap.size) := Lib.hid (Nat.le_trans HSm.out hbl.size)
        clear htl hbl hoth hnew HAP x0 x1 x2 x3 x4 x5 x6 HTm HSm HFm HIm HLm HBm HXm hl32
        have HS := HS0
        clear HS0
        go_upto_region 22 with (fail)
        generalize w9 = W8 at *
        skip
        go_wp2_with fail
        go_loopw [14, 22, 23, 24, 25] (fun u j _ _ _ wr => ∃ (jj : Nat) (l2 : List Msg) (Ag : Option Addr) (cg : Nat) (Av : Option Addr) (cv : Nat), jj ≤ 4 ∧ j = .int .i64 (jj : Int) ∧ u = .slice Av l2.length cv ∧ OrdS w (b12 + 1) b12 LQ (T : Int) l2 AF fs Ag cg Av cv wr ∧ b12 + 1 ≤ wr.heap.size) (fun _ j _ _ _ _ => 4 - (intOf j).toNat)
        case atStart => exact ⟨0, (lf ++ [⟨e1, n1, s1, i1, q1, k1, d1⟩]), A5, c5, Aw2, cw2, by omega, rfl, by rw [HLG.out], HS.out, HSZ7.out⟩
        case round =>
          clear HS HSZ7 HRG HOS HSZ
          obtain ⟨jj, l2, Ag, cg, Av, cv, hjj, rfl, rfl, hos, hsz⟩ := hrel
          have HOI := Lib.hid hos
          have HSI := Lib.hid hsz
          clear hos hsz hlen
          obtain ⟨y0, y1, y2⟩ := HOI.out.at_.cells
          by_cases hkt : k < tk.length
          · have hktI : (k : Int) < (tk.length : Int) := by omega
            obtain ⟨x, hx⟩ : ∃ x, tk[k]? = some x := ⟨_, List.getElem?_eq_getElem hkt⟩
            obtain ⟨at1, rfl, hatb, hatc⟩ := HTK.out (by omega)
            have hxc : wr.cell? (at1.add k) = some (.int .i64 x) := (HOI.out.below.cell (by rw [adb]; exact hatb)).trans (hatc k x hx)
            have cpk := fun W => pick14_any x 4 (HTW.out x (List.mem_of_getElem? hx)) (by omega) W
            have hpr := pickI_range x 4 (by omega)
            clear hx hatc hatb
            generalize pickI x 4 = PX at *
            by_cases hjp : (jj : Int) < PX
            · go_wp2_with fail; refine (cpk _).mono ?_; rintro e w8 ⟨rfl, rfl⟩
              clear cpk hxc
              have hj4 : jj < 4 := by omega
              go_upto_region 25 with (fail)
              clear hpr hjp
              cases l2 with
              | nil =>
                obtain ⟨hE, hM, hL⟩ := take_nil HOI.out.right rfl
                have hpc := takeFi_any LQ (T : Int) Ag cg [] wr (HLW.out.below HOI.out.below) HOI.out.inn
                rw [hE, hM, hL] at hpc
                simp only [List.length_nil, zeroM] at hpc
                simp only [List.length_nil] at y2
                clear hE hM hL
                go_wp2_with fail; refine hpc.mono ?_; rintro e w9 ⟨A7, c7, rfl, ht7, b7⟩
                have hba := Joins.below_alloc1 w9 (.cells #[.int .i64 LQ, .int .i64 (T : Int), .slice A7 0 c7] 30)
                have hbb := Joins.below_alloc1 (w9.alloc (.cells #[.int .i64 LQ, .int .i64 (T : Int), .slice A7 0 c7] 30)) (.cells #[.bool false, .int .i64 0, .int .i64 0, .int .i64 0, .int .i64 0, .int .i64 0, .string ⟨#[]⟩] 26)
                have hab := hba.trans (hbb.mono hba.size)
                have hall := b7.trans (hab.mono b7.size)
                have HQ := Lib.hid ((FiAt.new w9 LQ (T : Int) A7 0 c7).on hbb)
                have hqi := (ht7.qin (by simp) (by simp)).on hab
                have HO9 := Lib.hid (HOI.out.on hall)
                have HS9 := Lib.hid (Nat.le_trans HSI.out hall.size)
                clear y0 y1 y2 hpc ht7 b7 hba hbb hab hall HOI HSI
                go_upto_region 26 with (fail)
                generalize (w9.alloc (.cells #[.int .i64 LQ, .int .i64 (T : Int), .slice A7 0 c7] 30)).alloc (.cells #[.bool false, .int .i64 0, .int .i64 0, .int .i64 0, .int .i64 0, .int .i64 0, .string ⟨#[]⟩] 26) = W9 at *
                generalize w9.heap.size = b23 at *
                obtain ⟨z0, z1, z2⟩ := HQ.out.cells
                obtain ⟨y0, y1, y2⟩ := HO9.out.at_.cells
                simp only [List.length_nil] at y2
                have csm := sameFi_any LQ LQ (T : Int) (T : Int) A7 Ag c7 cg [] [] W9 hqi HO9.out.inn
                rw [show sameFi LQ LQ (T : Int) (T : Int) [] [] = true by unfold sameFi; rw [(sameL_iff _ _).2 rfl]; simp] at csm
                simp only [List.length_nil] at csm
                clear hqi
                go_wp2_with fail; refine csm.mono ?_; rintro e w10 ⟨rfl, b10⟩
                have HO10 := Lib.hid (HO9.out.on b10)
                have HS10 := Lib.hid (Nat.le_trans HS9.out b10.size)
                clear y0 y1 y2 z0 z1 z2 csm b10 HQ HO9 HS9
                go_wp2_with fail
                go_roundw
                case rel => exact ⟨jj + 1, [], Ag, cg, Av, cv, by omega, by go_num, rfl, HO10.out, HS10.out⟩
                case measure => simp [intOf]; omega
              | cons x2 tl =>
                obtain ⟨hE, hM, hL, hrt⟩ := take_cons HOI.out.right
                have hpc := takeFi_any LQ (T : Int) Ag cg (x2 :: tl) wr (HLW.out.below HOI.out.below) HOI.out.inn
                rw [hE, hM, hL] at hpc
                have HRT := Lib.hid hrt
                obtain ⟨A1, c1, htc, htb, hcut⟩ := HOI.out.want.cut
                have hav : ∃ av, Av = some av := by
                  cases hA : Av with
                  | none => have := HOI.out.want.nil hA; have := HOI.out.want.le; simp at this; omega
                  | some av => exact ⟨av, rfl⟩
                obtain ⟨av, rfl⟩ := hav
                have HX0 : Hid (∀ W, Below wr.heap.size wr W → At7 W av x2) := Lib.hid (fun W h => by
                  have h7 := (HOI.out.want.below h).at7 (j := 0) (m := x2) rfl
                  rw [show av.add (0 * 7) = av by unfold Addr.add; rfl] at h7
                  exact h7)
                have HTC := Lib.hid htc
                have HTB := Lib.hid htb
                simp only [List.length_cons] at hpc y2
                clear hE hM hL hrt htc htb
                obtain ⟨f1, g1, t1, j1, p1, u1, v1⟩ := x2
                go_wp2_with fail; refine hpc.mono ?_; rintro e w9 ⟨A7, c7, rfl, ht7, b7⟩
                have hba := Joins.below_alloc1 w9 (.cells #[.int .i64 LQ, .int .i64 (T : Int), .slice A7 tl.length c7] 30)
                have hbb := Joins.below_alloc1 (w9.alloc (.cells #[.int .i64 LQ, .int .i64 (T : Int), .slice A7 tl.length c7] 30)) (.cells #[.bool f1, .int .i64 g1, .int .i64 t1, .int .i64 j1, .int .i64 p1, .int .i64 u1, .string v1] 26)
                have hab := hba.trans (hbb.mono hba.size)
                have hall := b7.trans (hab.mono b7.size)
                have HQ := Lib.hid ((FiAt.new w9 LQ (T : Int) A7 tl.length c7).on hbb)
                have hm24 := MsgAt.new (w9.alloc (.cells #[.int .i64 LQ, .int .i64 (T : Int), .slice A7 tl.length c7] 30)) ⟨f1, g1, t1, j1, p1, u1, v1⟩
                have HM24 : Hid (MsgAt _ (w9.heap.size + 1) ⟨f1, g1, t1, j1, p1, u1, v1⟩) := Lib.hid (by rw [World.size_alloc] at hm24; exact hm24)
                have HI9 := Lib.hid ((ht7.qin (Nat.le_trans (right_few HRT.out) (by decide)) (right_small8 HRT.out)).on hab)
                have HAP7 : Hid (ApartA A7 A1) := Lib.hid (fun a1 e1 a2 e2 => by
                  obtain ⟨a3, e3, e4⟩ := HTB.out a2 e2
                  rw [e4]
                  exact apart_told ht7 HOI.out.apart HOI.out.want (Nat.le_refl _) a1 e1 a3 e3)
                have HO9 := Lib.hid (HOI.out.on hall)
                have HS9 := Lib.hid (Nat.le_trans HSI.out hall.size)
                have HTC9 := Lib.hid (HTC.out.below hall)
                have HX9 := Lib.hid (HX0.out _ hall)
                clear y0 y1 y2 hpc ht7 b7 hba hbb hab hall HOI HSI HTC HX0 hm24 HTB
                simp only [mc] at HM24 HQ HI9 HO9 HS9 HTC9 HX9
                have hne0 : (((tl.length + 1 : Nat) : Int) == 0) = false := beq_eq_false_iff_ne.mpr (by omega)
                have hne1 : ((tl.length : Int) + 1 == 0) = false := beq_eq_false_iff_ne.mpr (by omega)
                go_upto_region 29 with (fail)
                generalize (w9.alloc (.cells #[.int .i64 LQ, .int .i64 (T : Int), .slice A7 tl.length c7] 30)).alloc (.cells #[.bool f1, .int .i64 g1, .int .i64 t1, .int .i64 j1, .int .i64 p1, .int .i64 u1, .string v1] 26) = W9 at *
                generalize w9.heap.size = b23 at *
                obtain ⟨a0, a1, a2, a3, a4, a5, a6⟩ := MsgAt.cells HM24.out
                obtain ⟨c0, c1x, c2, c3, c4, c5x, c6⟩ := HX9.out
                have hg1 := fun x y W => eqM_guard .neq x y ⟨f1, g1, t1, j1, p1, u1, v1⟩ ⟨f1, g1, t1, j1, p1, u1, v1⟩ W
                have hg2 := neqM ⟨f1, g1, t1, j1, p1, u1, v1⟩ ⟨f1, g1, t1, j1, p1, u1, v1⟩
                rw [(sameM_iff _ _).2 rfl, Bool.not_true] at hg2
                simp only [mv] at hg1 hg2
                have hnp : (0 : Int) < ((tl.length + 1 : Nat) : Int) := by omega
                have hnp1 : (0 : Int) < (tl.length : Int) + 1 := by omega
                go_quiet (fail)
                go_upto_region 31 with (fail)
                have HQn := Lib.hid (HQ.out.on (below_drewN (Below.refl _ W9) nq))
                have HIn := Lib.hid (HI9.out.on (below_drewN (Below.refl _ W9) nq))
                have HOn := Lib.hid (HO9.out.on (below_drewN (Below.refl _ W9) nq))
                have HTn := Lib.hid (HTC9.out.below (below_drewN (Below.refl _ W9) nq))
                have HSn : Hid (b12 + 1 ≤ (W9.drewN nq).heap.size) := Lib.hid (Nat.le_trans HS9.out (below_drewN (Below.refl 0 W9) nq).size)
                clear a0 a1 a2 a3 a4 a5 a6 c0 c1x c2 c3 c4 c5x c6 hg1 hg2 hnp hnp1 hne0 hne1 HQ HI9 HO9 HTC9 HS9 HX9 HM24
                generalize W9.drewN nq = W10 at *
                go_upto_region 32 with (fail)
                obtain ⟨z0, z1, z2⟩ := HQn.out.cells
                obtain ⟨y0, y1, y2⟩ := HOn.out.at_.cells
                have yf := HOn.out.at_.frozen
                have HS11 := Lib.hid (HOn.out.store HIn.out HRT.out HTn.out HAP7.out HNF.out HS12.out)
                have HZ11 : Hid (b12 + 1 ≤ (set3 W10 b12 (.int .i64 LQ) (.int .i64 (T : Int)) (.slice A7 tl.length c7)).heap.size) := Lib.hid (by rw [size3]; exact HSn.out)
                clear hcut HQn HIn HOn HTn HSn HAP7
                go_wp2_with fail
                go_roundw
                case rel => exact ⟨jj + 1, tl, A7, c7, A1, c1, by omega, by go_num, rfl, HS11.out, HZ11.out⟩
                case measure => simp [intOf]; omega
            · go_wp2_with fail; refine (cpk _).mono ?_; rintro e w8 ⟨rfl, rfl⟩
              clear cpk hxc
              go_upto_region 33 with (fail)
              clear hpr hjp
              have csm := same_any Ag Av cg cv _ _ l2 l2 wr HOI.out.inn.msgs HOI.out.want.msgs (by have := HOI.out.inn.few; unfold maxLen; omega)
              rw [(sameL_iff _ _).2 rfl] at csm
              go_wp2_with fail; refine csm.mono ?_; rintro e w9 ⟨rfl, n9, rfl⟩
              have HO9 := Lib.hid (HOI.out.on (below_drewN (Below.refl _ wr) n9))
              have HS9 : Hid (b12 + 1 ≤ (wr.drewN n9).heap.size) := Lib.hid (Nat.le_trans HSI.out (below_drewN (Below.refl 0 wr) n9).size)
              clear y0 y1 y2 csm HOI HSI
              generalize wr.drewN n9 = W9 at *
              obtain ⟨y0, y1, y2⟩ := HO9.out.at_.cells
              have crt := rightFi_any LQ (T : Int) Ag cg l2 W9 (HLW.out.below HO9.out.below) HO9.out.inn
              rw [HO9.out.right] at crt
              go_wp2_with fail; refine crt.mono ?_; rintro e w10 ⟨rfl, b10⟩
              have HO10 := Lib.hid (HO9.out.on b10)
              have HS10 := Lib.hid (Nat.le_trans HS9.out b10.size)
              clear y0 y1 y2 crt b10 HO9 HS9
              go_wp2_with fail
              go_roundw
              case rel => exact ⟨k + 1, T, l2, Ag, cg, Av, cv, by omega, by omega, by omega, by go_num, rfl, rfl, HO10.out, HS10.out⟩
              case measure => simp [intOf]; omega
          · have hktI : ¬ (k : Int) < (tk.length : Int) := by omega
            have csm := same_any Ag Av cg cv _ _ l2 l2 wr HOI.out.inn.msgs HOI.out.want.msgs (by have := HOI.out.inn.few; unfold maxLen; omega)
            rw [(sameL_iff _ _).2 rfl] at csm
            go_wp2_with fail; refine csm.mono ?_; rintro e w9 ⟨rfl, n9, rfl⟩
            have HO9 := Lib.hid (HOI.out.on (below_drewN (Below.refl _ wr) n9))
            have HS9 : Hid (b12 + 1 ≤ (wr.drewN n9).heap.size) := Lib.hid (Nat.le_trans HSI.out (below_drewN (Below.refl 0 wr) n9).size)
            clear y0 y1 y2 csm HOI HSI
            generalize wr.drewN n9 = W9 at *
            obtain ⟨y0, y1, y2⟩ := HO9.out.at_.cells
            have crt := rightFi_any LQ (T : Int) Ag cg l2 W9 (HLW.out.below HO9.out.below) HO9.out.inn
            rw [HO9.out.right] at crt
            go_wp2_with fail; refine crt.mono ?_; rintro e w10 ⟨rfl, b10⟩
            have HO10 := Lib.hid (HO9.out.on b10)
            have HS10 := Lib.hid (Nat.le_trans HS9.out b10.size)
            clear y0 y1 y2 crt b10 HO9 HS9
            go_wp2_with fail
            go_roundw
            case rel => exact ⟨k + 1, T, l2, Ag, cg, Av, cv, by omega, by omega, by omega, by go_num, rfl, rfl, HO10.out, HS10.out⟩
            case measure => simp [intOf]; omega
      · subst h1
        have h3s := h3.symm
        clear h3
        subst h3s
        subst h4
        have hmt : min ((T : Int) + 1) 65535 = (T : Int) + 1 := by omega
        rw [hmt] at h2
        clear hmt
        subst h2
        have HLEN : Hid (¬ (lf.length : Int) < LQ) := Lib.hid (by omega)
        clear h5
        go_wp2_with fail; refine (cm _).mono ?_; rintro e w3 ⟨rfl, b3⟩
        have hbm := Joins.below_alloc1 w3 (.cells #[.bool e1, .int .i64 n1, .int .i64 s1, .int .i64 i1, .int .i64 q1, .int .i64 k1, .string d1] 26)
        have hb3 := b3.trans (hbm.mono b3.size)
        have HM : Hid (MsgAt _ w3.heap.size ⟨e1, n1, s1, i1, q1, k1, d1⟩) := Lib.hid (MsgAt.new w3 ⟨e1, n1, s1, i1, q1, k1, d1⟩)
        have HO1 := Lib.hid (HOS.out.on hb3)
        have hpc := HCO.out _ hb3
        have HW1 := Lib.hid hb3
        clear b3 hbm hb3 cm x0 x1 x2 x3 x4 x5
        go_upto_region 13 with (fail)
        generalize w3.alloc (.cells #[.bool e1, .int .i64 n1, .int .i64 s1, .int .i64 i1, .int .i64 q1, .int .i64 k1, .string d1] 26) = W3 at *
        generalize w3.heap.size = b17 at *
        obtain ⟨y0, y1, y2⟩ := HO1.out.at_.cells
        obtain ⟨x0, x1, x2, x3, x4, x5, x6⟩ := MsgAt.cells HM.out
        go_wp2_with fail; refine hpc.mono ?_; rintro e w5 ⟨A5, c5, rfl, ht5, b5⟩
        have hb := Joins.below_alloc1 w5 (.cells #[.int .i64 LQ, .int .i64 ((T : Int) + 1), .slice A5 lf.length c5] 30)
        have h5b := b5.trans (hb.mono b5.size)
        have HAP := Lib.hid (apart_told ht5 HO1.out.apart HO1.out.want (Nat.le_refl _))
        have HI5 := Lib.hid ((ht5.qin (Nat.le_trans (right_few HRG.out) (by decide)) (right_small8 HRG.out)).on hb)
        have HG5 := Lib.hid (FiAt.new w5 LQ ((T : Int) + 1) A5 lf.length c5)
        have HM5 : Hid (MsgAt _ b17 ⟨e1, n1, s1, i1, q1, k1, d1⟩) := Lib.hid (MsgAt.on HM.out h5b)
        have HO5 := Lib.hid (HO1.out.on h5b)
        have can := HAN.out _ (HW1.out.trans (h5b.mono HW1.out.size))
        clear y0 y1 y2 x0 x1 x2 x3 x4 x5 x6 hpc ht5 b5 hb h5b HO1 HM HW1 HAN HCO
        go_upto_region 14 with (fail)
        generalize w5.alloc (.cells #[.int .i64 LQ, .int .i64 ((T : Int) + 1), .slice A5 lf.length c5] 30) = W5 at *
        generalize w5.heap.size = b18 at *
        obtain ⟨x0, x1, x2, x3, x4, x5, x6⟩ := MsgAt.cells HM5.out
        go_wp2_with fail; refine can.mono ?_; rintro e w7 ⟨rfl, b7⟩
        have HI7 := Lib.hid (HI5.out.on b7)
        have HG7 := Lib.hid (HG5.out.on b7)
        have HM7 : Hid (MsgAt _ b17 ⟨e1, n1, s1, i1, q1, k1, d1⟩) := Lib.hid (MsgAt.on HM5.out b7)
        have HO7 := Lib.hid (HO5.out.on b7)
        clear x0 x1 x2 x3 x4 x5 x6 can b7 HI5 HG5 HM5 HO5
        have hlen := HLEN.out
        go_upto_region 17 with (fail)
        obtain ⟨y0, y1, y2⟩ := HO7.out.at_.cells
        have yf := HO7.out.at_.frozen
        obtain ⟨z0, z1, z2⟩ := HG7.out.cells
        have HS := Lib.hid (HO7.out.store HI7.out HRG.out HO7.out.want HAP.out HNF.out HS12.out)
        have HSZ7 : Hid (b12 + 1 ≤ (set3 w7 b12 (.int .i64 LQ) (.int .i64 ((T : Int) + 1)) (.slice A5 lf.length c5)).heap.size) := Lib.hid (by rw [size3]; exact HO7.out.at_.lt)
        clear HI7 HG7 HM7 HO7 HAP
        have hwt : IntKind.i64.wrap ((T : Int) + 1) = (T : Int) + 1 := IntWalk.i64_in _ (by omega)
        go_upto_region 22 with (fail)
        simp only [set3] at HS HSZ7
        generalize ((w7.setCell ⟨b12, 0, none⟩ (.int .i64 LQ)).setCell ⟨b12, 1, none⟩ (.int .i64 ((T : Int) + 1))).setCell ⟨b12, 2, none⟩ (.slice A5 lf.length c5) = W8 at *
        clear y0 y1 y2 yf z0 z1 z2
        go_wp2_with fail
        go_loopw [14, 22, 23, 24, 25] (fun u j _ _ _ wr => ∃ (jj : Nat) (l2 : List Msg) (Ag : Option Addr) (cg : Nat) (Av : Option Addr) (cv : Nat), jj ≤ 4 ∧ j = .int .i64 (jj : Int) ∧ u = .slice Av l2.length cv ∧ OrdS w (b12 + 1) b12 LQ ((T : Int) + 1) l2 AF fs Ag cg Av cv wr ∧ b12 + 1 ≤ wr.heap.size) (fun _ j _ _ _ _ => 4 - (intOf j).toNat)
        case atStart => exact ⟨0, lf, A5, c5, Aw, cw, by omega, rfl, rfl, HS.out, HSZ7.out⟩
        case round =>
          clear HS HSZ7 HRG HOS HSZ
          obtain ⟨jj, l2, Ag, cg, Av, cv, hjj, rfl, rfl, hos, hsz⟩ := hrel
          have HOI := Lib.hid hos
          have HSI := Lib.hid hsz
          clear hos hsz hlen
          obtain ⟨y0, y1, y2⟩ := HOI.out.at_.cells
          by_cases hkt : k < tk.length
          · have hktI : (k : Int) < (tk.length : Int) := by omega
            obtain ⟨x, hx⟩ : ∃ x, tk[k]? = some x := ⟨_, List.getElem?_eq_getElem hkt⟩
            obtain ⟨at1, rfl, hatb, hatc⟩ := HTK.out (by omega)
            have hxc : wr.cell? (at1.add k) = some (.int .i64 x) := (HOI.out.below.cell (by rw [adb]; exact hatb)).trans (hatc k x hx)
            have cpk := fun W => pick14_any x 4 (HTW.out x (List.mem_of_getElem? hx)) (by omega) W
            have hpr := pickI_range x 4 (by omega)
            clear hx hatc hatb
            generalize pickI x 4 = PX at *
            by_cases hjp : (jj : Int) < PX
            · go_wp2_with fail; refine (cpk _).mono ?_; rintro e w8 ⟨rfl, rfl⟩
              clear cpk hxc
              have hj4 : jj < 4 := by omega
              go_upto_region 25 with (fail)
              clear hpr hjp
              cases l2 with
              | nil =>
                obtain ⟨hE, hM, hL⟩ := take_nil HOI.out.right rfl
                have hpc := takeFi_any LQ ((T : Int) + 1) Ag cg [] wr (HLW.out.below HOI.out.below) HOI.out.inn
                rw [hE, hM, hL] at hpc
                simp only [List.length_nil, zeroM] at hpc
                simp only [List.length_nil] at y2
                clear hE hM hL
                go_wp2_with fail; refine hpc.mono ?_; rintro e w9 ⟨A7, c7, rfl, ht7, b7⟩
                have hba := Joins.below_alloc1 w9 (.cells #[.int .i64 LQ, .int .i64 ((T : Int) + 1), .slice A7 0 c7] 30)
                have hbb := Joins.below_alloc1 (w9.alloc (.cells #[.int .i64 LQ, .int .i64 ((T : Int) + 1), .slice A7 0 c7] 30)) (.cells #[.bool false, .int .i64 0, .int .i64 0, .int .i64 0, .int .i64 0, .int .i64 0, .string ⟨#[]⟩] 26)
                have hab := hba.trans (hbb.mono hba.size)
                have hall := b7.trans (hab.mono b7.size)
                have HQ := Lib.hid ((FiAt.new w9 LQ ((T : Int) + 1) A7 0 c7).on hbb)
                have hqi := (ht7.qin (by simp) (by simp)).on hab
                have HO9 := Lib.hid (HOI.out.on hall)
                have HS9 := Lib.hid (Nat.le_trans HSI.out hall.size)
                clear y0 y1 y2 hpc ht7 b7 hba hbb hab hall HOI HSI
                go_upto_region 26 with (fail)
                generalize (w9.alloc (.cells #[.int .i64 LQ, .int .i64 ((T : Int) + 1), .slice A7 0 c7] 30)).alloc (.cells #[.bool false, .int .i64 0, .int .i64 0, .int .i64 0, .int .i64 0, .int .i64 0, .string ⟨#[]⟩] 26) = W9 at *
                generalize w9.heap.size = b23 at *
                obtain ⟨z0, z1, z2⟩ := HQ.out.cells
                obtain ⟨y0, y1, y2⟩ := HO9.out.at_.cells
                simp only [List.length_nil] at y2
                have csm := sameFi_any LQ LQ ((T : Int) + 1) ((T : Int) + 1) A7 Ag c7 cg [] [] W9 hqi HO9.out.inn
                rw [show sameFi LQ LQ ((T : Int) + 1) ((T : Int) + 1) [] [] = true by unfold sameFi; rw [(sameL_iff _ _).2 rfl]; simp] at csm
                simp only [List.length_nil] at csm
                clear hqi
                go_wp2_with fail; refine csm.mono ?_; rintro e w10 ⟨rfl, b10⟩
                have HO10 := Lib.hid (HO9.out.on b10)
                have HS10 := Lib.hid (Nat.le_trans HS9.out b10.size)
                clear y0 y1 y2 z0 z1 z2 csm b10 HQ HO9 HS9
                go_wp2_with fail
                go_roundw
                case rel => exact ⟨jj + 1, [], Ag, cg, Av, cv, by omega, by go_num, rfl, HO10.out, HS10.out⟩
                case measure => simp [intOf]; omega
              | cons x2 tl =>
                obtain ⟨hE, hM, hL, hrt⟩ := take_cons HOI.out.right
                have hpc := takeFi_any LQ ((T : Int) + 1) Ag cg (x2 :: tl) wr (HLW.out.below HOI.out.below) HOI.out.inn
                rw [hE, hM, hL] at hpc
                have HRT := Lib.hid hrt
                obtain ⟨A1, c1, htc, htb, hcut⟩ := HOI.out.want.cut
                have hav : ∃ av, Av = some av := by
                  cases hA : Av with
                  | none => have := HOI.out.want.nil hA; have := HOI.out.want.le; simp at this; omega
                  | some av => exact ⟨av, rfl⟩
                obtain ⟨av, rfl⟩ := hav
                have HX0 : Hid (∀ W, Below wr.heap.size wr W → At7 W av x2) := Lib.hid (fun W h => by
                  have h7 := (HOI.out.want.below h).at7 (j := 0) (m := x2) rfl
                  rw [show av.add (0 * 7) = av by unfold Addr.add; rfl] at h7
                  exact h7)
                have HTC := Lib.hid htc
                have HTB := Lib.hid htb
                simp only [List.length_cons] at hpc y2
                clear hE hM hL hrt htc htb
                obtain ⟨f1, g1, t1, j1, p1, u1, v1⟩ := x2
                go_wp2_with fail; refine hpc.mono ?_; rintro e w9 ⟨A7, c7, rfl, ht7, b7⟩
                have hba := Joins.below_alloc1 w9 (.cells #[.int .i64 LQ, .int .i64 ((T : Int) + 1), .slice A7 tl.length c7] 30)
                have hbb := Joins.below_alloc1 (w9.alloc (.cells #[.int .i64 LQ, .int .i64 ((T : Int) + 1), .slice A7 tl.length c7] 30)) (.cells #[.bool f1, .int .i64 g1, .int .i64 t1, .int .i64 j1, .int .i64 p1, .int .i64 u1, .string v1] 26)
                have hab := hba.trans (hbb.mono hba.size)
                have hall := b7.trans (hab.mono b7.size)
                have HQ := Lib.hid ((FiAt.new w9 LQ ((T : Int) + 1) A7 tl.length c7).on hbb)
                have hm24 := MsgAt.new (w9.alloc (.cells #[.int .i64 LQ, .int .i64 ((T : Int) + 1), .slice A7 tl.length c7] 30)) ⟨f1, g1, t1, j1, p1, u1, v1⟩
                have HM24 : Hid (MsgAt _ (w9.heap.size + 1) ⟨f1, g1, t1, j1, p1, u1, v1⟩) := Lib.hid (by rw [World.size_alloc] at hm24; exact hm24)
                have HI9 := Lib.hid ((ht7.qin (Nat.le_trans (right_few HRT.out) (by decide)) (right_small8 HRT.out)).on hab)
                have HAP7 : Hid (ApartA A7 A1) := Lib.hid (fun a1 e1 a2 e2 => by
                  obtain ⟨a3, e3, e4⟩ := HTB.out a2 e2
                  rw [e4]
                  exact apart_told ht7 HOI.out.apart HOI.out.want (Nat.le_refl _) a1 e1 a3 e3)
                have HO9 := Lib.hid (HOI.out.on hall)
                have HS9 := Lib.hid (Nat.le_trans HSI.out hall.size)
                have HTC9 := Lib.hid (HTC.out.below hall)
                have HX9 := Lib.hid (HX0.out _ hall)
                clear y0 y1 y2 hpc ht7 b7 hba hbb hab hall HOI HSI HTC HX0 hm24 HTB
                simp only [mc] at HM24 HQ HI9 HO9 HS9 HTC9 HX9
                have hne0 : (((tl.length + 1 : Nat) : Int) == 0) = false := beq_eq_false_iff_ne.mpr (by omega)
                have hne1 : ((tl.length : Int) + 1 == 0) = false := beq_eq_false_iff_ne.mpr (by omega)
                go_upto_region 29 with (fail)
                generalize (w9.alloc (.cells #[.int .i64 LQ, .int .i64 ((T : Int) + 1), .slice A7 tl.length c7] 30)).alloc (.cells #[.bool f1, .int .i64 g1, .int .i64 t1, .int .i64 j1, .int .i64 p1, .int .i64 u1, .string v1] 26) = W9 at *
                generalize w9.heap.size = b23 at *
                obtain ⟨a0, a1, a2, a3, a4, a5, a6⟩ := MsgAt.cells HM24.out
                obtain ⟨c0, c1x, c2, c3, c4, c5x, c6⟩ := HX9.out
                have hg1 := fun x y W => eqM_guard .neq x y ⟨f1, g1, t1, j1, p1, u1, v1⟩ ⟨f1, g1, t1, j1, p1, u1, v1⟩ W
                have hg2 := neqM ⟨f1, g1, t1, j1, p1, u1, v1⟩ ⟨f1, g1, t1, j1, p1, u1, v1⟩
                rw [(sameM_iff _ _).2 rfl, Bool.not_true] at hg2
                simp only [mv] at hg1 hg2
                have hnp : (0 : Int) < ((tl.length + 1 : Nat) : Int) := by omega
                have hnp1 : (0 : Int) < (tl.length : Int) + 1 := by omega
                go_quiet (fail)
                go_upto_region 31 with (fail)
                have HQn := Lib.hid (HQ.out.on (below_drewN (Below.refl _ W9) nq))
                have HIn := Lib.hid (HI9.out.on (below_drewN (Below.refl _ W9) nq))
                have HOn := Lib.hid (HO9.out.on (below_drewN (Below.refl _ W9) nq))
                have HTn := Lib.hid (HTC9.out.below (below_drewN (Below.refl _ W9) nq))
                have HSn : Hid (b12 + 1 ≤ (W9.drewN nq).heap.size) := Lib.hid (Nat.le_trans HS9.out (below_drewN (Below.refl 0 W9) nq).size)
                clear a0 a1 a2 a3 a4 a5 a6 c0 c1x c2 c3 c4 c5x c6 hg1 hg2 hnp hnp1 hne0 hne1 HQ HI9 HO9 HTC9 HS9 HX9 HM24
                generalize W9.drewN nq = W10 at *
                go_upto_region 32 with (fail)
                obtain ⟨z0, z1, z2⟩ := HQn.out.cells
                obtain ⟨y0, y1, y2⟩ := HOn.out.at_.cells
                have yf := HOn.out.at_.frozen
                have HS11 := Lib.hid (HOn.out.store HIn.out HRT.out HTn.out HAP7.out HNF.out HS12.out)
                have HZ11 : Hid (b12 + 1 ≤ (set3 W10 b12 (.int .i64 LQ) (.int .i64 ((T : Int) + 1)) (.slice A7 tl.length c7)).heap.size) := Lib.hid (by rw [size3]; exact HSn.out)
                clear hcut HQn HIn HOn HTn HSn HAP7
                go_wp2_with fail
                go_roundw
                case rel => exact ⟨jj + 1, tl, A7, c7, A1, c1, by omega, by go_num, rfl, HS11.out, HZ11.out⟩
                case measure => simp [intOf]; omega
            · go_wp2_with fail; refine (cpk _).mono ?_; rintro e w8 ⟨rfl, rfl⟩
              clear cpk hxc
              go_upto_region 33 with (fail)
              clear hpr hjp
              have csm := same_any Ag Av cg cv _ _ l2 l2 wr HOI.out.inn.msgs HOI.out.want.msgs (by have := HOI.out.inn.few; unfold maxLen; omega)
              rw [(sameL_iff _ _).2 rfl] at csm
              go_wp2_with fail; refine csm.mono ?_; rintro e w9 ⟨rfl, n9, rfl⟩
              have HO9 := Lib.hid (HOI.out.on (below_drewN (Below.refl _ wr) n9))
              have HS9 : Hid (b12 + 1 ≤ (wr.drewN n9).heap.size) := Lib.hid (Nat.le_trans HSI.out (below_drewN (Below.refl 0 wr) n9).size)
              clear y0 y1 y2 csm HOI HSI
              generalize wr.drewN n9 = W9 at *
              obtain ⟨y0, y1, y2⟩ := HO9.out.at_.cells
              have crt := rightFi_any LQ ((T : Int) + 1) Ag cg l2 W9 (HLW.out.below HO9.out.below) HO9.out.inn
              rw [HO9.out.right] at crt
              go_wp2_with fail; refine crt.mono ?_; rintro e w10 ⟨rfl, b10⟩
              have HO10 := Lib.hid (HO9.out.on b10)
              have HS10 := Lib.hid (Nat.le_trans HS9.out b10.size)
              clear y0 y1 y2 crt b10 HO9 HS9
              go_wp2_with fail
              go_roundw
              case rel => exact ⟨k + 1, T + 1, l2, Ag, cg, Av, cv, by omega, by omega, by omega, by go_num, rfl, by go_num, (by have h := HO10.out; rwa [show (T : Int) + 1 = ((T + 1 : Nat) : Int) by omega] at h), HS10.out⟩
              case measure => simp [intOf]; omega
          · have hktI : ¬ (k : Int) < (tk.length : Int) := by omega
            have csm := same_any Ag Av cg cv _ _ l2 l2 wr HOI.out.inn.msgs HOI.out.want.msgs (by have := HOI.out.inn.few; unfold maxLen; omega)
            rw [(sameL_iff _ _).2 rfl] at csm
            go_wp2_with fail; refine csm.mono ?_; rintro e w9 ⟨rfl, n9, rfl⟩
            have HO9 := Lib.hid (HOI.out.on (below_drewN (Below.refl _ wr) n9))
            have HS9 : Hid (b12 + 1 ≤ (wr.drewN n9).heap.size) := Lib.hid (Nat.le_trans HSI.out (below_drewN (Below.refl 0 wr) n9).size)
            clear y0 y1 y2 csm HOI HSI
            generalize wr.drewN n9 = W9 at *
            obtain ⟨y0, y1, y2⟩ := HO9.out.at_.cells
            have crt := rightFi_any LQ ((T : Int) + 1) Ag cg l2 W9 (HLW.out.below HO9.out.below) HO9.out.inn
            rw [HO9.out.right] at crt
            go_wp2_with fail; refine crt.mono ?_; rintro e w10 ⟨rfl, b10⟩
            have HO10 := Lib.hid (HO9.out.on b10)
            have HS10 := Lib.hid (Nat.le_trans HS9.out b10.size)
            clear y0 y1 y2 crt b10 HO9 HS9
            go_wp2_with fail
            go_roundw
            case rel => exact ⟨k + 1, T + 1, l2, Ag, cg, Av, cv, by omega, by omega, by omega, by go_num, rfl, by go_num, (by have h := HO10.out; rwa [show (T : Int) + 1 = ((T + 1 : Nat) : Int) by omega] at h), HS10.out⟩
            case measure => simp [intOf]; omega
    · have hl := lost_right HOS.out.right
      have hpc := lost_in LQ T Af cf lf wo (HLW.out.below HOS.out.below) HOS.out.inn
      rw [hl.1, hl.2.1, hl.2.2.1] at hpc
      have HR0 := Lib.hid hl.2.2.2
      obtain ⟨y0, y1, y2⟩ := HOS.out.at_.cells
      have HBO := Lib.hid HOS.out.below
      clear hl
      by_cases hlt : (k : Int) < (rs.length : Int)
      · have hlt40I : ¬ (k : Int) < 40 := fun h => hgo ⟨by omega, by omega⟩
        clear hgo
        go_wp2_with fail; refine hpc.mono ?_; rintro e w5 ⟨A5, c5, rfl, hi5, b5⟩
        have hb := Joins.below_alloc1 w5 (.cells #[.int .i64 LQ, .int .i64 0, .slice A5 lf.length c5] 30)
        have HG := Lib.hid (FVar.new (L := LQ) (T := 0) hi5)
        have HB5 := Lib.hid (HBO.out.trans ((b5.trans (hb.mono b5.size)).mono HBO.out.size))
        clear y0 y1 y2 hpc hi5 b5 hb HBO
        go_upto_region 36 with (fail)
        generalize w5.alloc (.cells #[.int .i64 LQ, .int .i64 0, .slice A5 lf.length c5] 30) = W5 at *
        generalize w5.heap.size = b26 at *
        obtain ⟨A9, c9, hfa, hfi⟩ := HG.out
        obtain ⟨y0, y1, y2⟩ := hfa.cells
        have hl2 := lost_right HR0.out
        have hpc := lost_in LQ 0 A9 c9 lf W5 (HLW.out.below HB5.out) hfi
        rw [hl2.1, hl2.2.1, hl2.2.2.1] at hpc
        clear hl2 hfa hfi
        go_wp2_with fail; refine hpc.mono ?_; rintro e w6 ⟨A6, c6, rfl, hi6, b6⟩
        have hb := Joins.below_alloc1 w6 (.cells #[.int .i64 LQ, .int .i64 0, .slice A6 lf.length c6] 30)
        have HZ := Lib.hid (HB5.out.trans ((b6.trans (hb.mono b6.size)).mono HB5.out.size))
        clear y0 y1 y2 hpc hi6 b6 hb HB5
        go_wp2_with fail
        go_ret
        exact ⟨rfl, HZ.out⟩
      · clear hgo
        go_wp2_with fail; refine hpc.mono ?_; rintro e w5 ⟨A5, c5, rfl, hi5, b5⟩
        have hb := Joins.below_alloc1 w5 (.cells #[.int .i64 LQ, .int .i64 0, .slice A5 lf.length c5] 30)
        have HG := Lib.hid (FVar.new (L := LQ) (T := 0) hi5)
        have HB5 := Lib.hid (HBO.out.trans ((b5.trans (hb.mono b5.size)).mono HBO.out.size))
        clear y0 y1 y2 hpc hi5 b5 hb HBO
        go_upto_region 36 with (fail)
        generalize w5.alloc (.cells #[.int .i64 LQ, .int .i64 0, .slice A5 lf.length c5] 30) = W5 at *
        generalize w5.heap.size = b26 at *
        obtain ⟨A9, c9, hfa, hfi⟩ := HG.out
        obtain ⟨y0, y1, y2⟩ := hfa.cells
        have hl2 := lost_right HR0.out
        have hpc := lost_in LQ 0 A9 c9 lf W5 (HLW.out.below HB5.out) hfi
        rw [hl2.1, hl2.2.1, hl2.2.2.1] at hpc
        clear hl2 hfa hfi
        go_wp2_with fail; refine hpc.mono ?_; rintro e w6 ⟨A6, c6, rfl, hi6, b6⟩
        have hb := Joins.below_alloc1 w6 (.cells #[.int .i64 LQ, .int .i64 0, .slice A6 lf.length c6] 30)
        have HZ := Lib.hid (HB5.out.trans ((b6.trans (hb.mono b6.size)).mono HB5.out.size))
        clear y0 y1 y2 hpc hi6 b6 hb HB5
        go_wp2_with fail
        go_ret
        exact ⟨rfl, HZ.out⟩

end Go.Proofs.YtehajmockicilaaDoor

/-
  Texts split, by the document.
-/
import Derived.Maps.AppendAt
import Derived.Laws.OwnMore
import Derived.Test.YtmmbnjkdknnidaaGreatDoorFragEncPV
set_option maxHeartbeats 2000000
set_option maxRecDepth 100000
namespace Go.Proofs.YtmmbnjkdknnidaaGreatDoor.F
open Lib (hid)
open Go.RowKit
theorem pc_info : (Tryz.prog.info? 53).map (fun i => (i.zero, i.size, i.bytes)) = some (some (pv zeroP), 4, 40) := by kernel_rfl
theorem ownsRow_on {w w' : World} {B : Nat} {e : TypeId} {size n : Nat} {u : Value} {xs : List Value} (h : w.ownsRow B e size u n xs) (hb : Below w.heap.size w w') : w'.ownsRow B e size u n xs := by
 refine ⟨h.1, h.2.imp id ?_⟩
 rintro ⟨g, cap, cur, e1, e2, e3, e4⟩
 exact ⟨g, cap, cur, e1, e2, (hb.block g (Array.getElem?_eq_some_iff.1 e3).1).trans e3, e4⟩
def pcl' (p : Pc) : List Value := [.int .i64 p.seq, .int .i64 p.at', .int .i64 p.of', .string p.bytes]
def lclP (l : List Pc) : List Value := l.flatMap pcl'
theorem lclP_append (a b : List Pc) : lclP (a ++ b) = lclP a ++ lclP b := List.flatMap_append
theorem lclP_at : ∀ (l : List Pc) (j k : Nat), k < 4 → (lclP l)[j * 4 + k]? = (l[j]?).bind fun m => (pcl' m)[k]?
 | [], j, k, hk => by simp [lclP]
 | m :: l, 0, k, hk => by
  show (pcl' m ++ lclP l)[0 * 4 + k]? = _
  rw [Nat.zero_mul, Nat.zero_add, List.getElem?_append_left (by show k < 4; exact hk)]
  rfl
 | m :: l, j + 1, k, hk => by
  show (pcl' m ++ lclP l)[(j + 1) * 4 + k]? = _
  rw [List.getElem?_append_right (by show 4 ≤ _; omega)]
  show (lclP l)[(j + 1) * 4 + k - 4]? = _
  rw [show (j + 1) * 4 + k - 4 = j * 4 + k by omega, lclP_at l j k hk]
  rfl
def OwnP (w : World) (B : Nat) (u : Value) (l : List Pc) : Prop := w.ownsRow B 53 4 u l.length (lclP l)
theorem OwnP.nil (w : World) (B : Nat) : OwnP w B (.slice none 0 0) [] := World.ownsRow_nil _ _ _ _
theorem addr_off (p : Addr) (k : Nat) (h : 0 < k) : p.add k = ⟨p.block, p.off + k, none⟩ := by
 unfold Addr.add
 rw [if_neg (by omega)]
theorem At4.of_cells {w : World} {p : Addr} {m : Pc} (h : ∀ k v, (pcl' m)[k]? = some v → w.cell? (p.add k) = some v) : At4 w p m := by
 have e : p.add 0 = p := by unfold Addr.add; rfl
 have h0 := h 0 _ rfl
 rw [e] at h0
 have g : ∀ k, 0 < k → ∀ v, (pcl' m)[k]? = some v → w.cell? ⟨p.block, p.off + k, none⟩ = some v := fun k hk v hv => by rw [← addr_off p k hk]; exact h k v hv
 exact ⟨h0, g 1 (by omega) _ rfl, g 2 (by omega) _ rfl, g 3 (by omega) _ rfl⟩
theorem OwnP.row {w : World} {B : Nat} {u : Value} {l : List Pc} (h : OwnP w B u l) : ∃ A c, u = .slice A l.length c ∧ l.length ≤ c ∧ Pcs w w.heap.size A l := by
 have hh := h
 rcases h.2 with ⟨rfl, h0⟩ | ⟨g, cap, cur, rfl, hb, hr, hn, hm, hs, ht⟩
 ·exact ⟨none, 0, by rw [h0], by omega, fun hn => absurd hn (by omega)⟩
 ·refine ⟨_, cap, rfl, hn, fun _ => ⟨_, rfl, (Array.getElem?_eq_some_iff.1 hr).1, fun j m hm => At4.of_cells fun k v hv => ?_⟩⟩
  have hk : k < 4 := (List.getElem?_eq_some_iff.1 hv).1
  have hj : (lclP l)[j * 4 + k]? = some v := by rw [lclP_at l j k hk, hm]; exact hv
  rw [Go.Deep.add_add]
  exact World.ownsRow.cells hh (g := g) rfl _ _ hj
theorem run_appP (w : World) (B : Nat) (ty : TypeId) (u : Value) (l : List Pc) (m : Pc) (h : OwnP w B u l) (hb : Nat) (hr : w.heap[hb]? = some (.cells (pcl m) 53 (0, 0))) (hB : B ≤ w.heap.size) (hl : l.length ≤ 1000) :
  ∃ u' w', (Builtin.append_ #[26, 26] ty #[u, .slice (some ⟨hb, 0, none⟩) 1 1]).run Tryz.prog w = .ok u' w' ∧ OwnP w' B u' (l ++ [m]) ∧ w.grownBy w' u.ownBlock := by
 obtain ⟨i0, hi, hz0, hz1, hz2⟩ := info_parts pc_info
 obtain ⟨u', w', h1, h2, h3, _⟩ := run_append_own_at (P := Tryz.prog) w B 26 ty 53 i0 _ 4 40 Tryz.underlying26 hi hz0 hz1 hz2 rfl (by decide) u _ _ h ⟨hb, 0, none⟩ 1 1 (pcl' m) rfl
  (fun j x hx => by
   have e : (⟨hb, 0, none⟩ : Addr).add j = ⟨hb, j, none⟩ := by unfold Addr.add; split <;> simp_all
   rw [e, cell_of hr j]
   have e2 : (pcl m)[j]? = (pcl' m)[j]? := by simp [pcl, pcl']
   rw [e2]; exact hx)
  (fun x hx => by
   simp [pcl'] at hx
   rcases hx with rfl | rfl | rfl | rfl <;> rfl) (by unfold maxLen; omega) (by omega) hB
 refine ⟨u', w', h1, ?_, h3⟩
 unfold OwnP
 rw [List.length_append, lclP_append]
 exact h2
end Go.Proofs.YtmmbnjkdknnidaaGreatDoor.F
namespace Go.Proofs.YtmmbnjkdknnidaaGreatDoor.F
open Lib (hid)
open Go.RowKit
section
variable {ops : Array Oper} {rest : List Oper} {o : Oper} {a : Act} {w : World} {K : Act → World → Prop} {Q : Exit → Act → World → Prop}
theorem wp_appP (s x : Operand) (ho : o.op = .call { callee := .builtin .append, args := #[s, x], argTypes := #[26, 26] })
  (B : Nat) (u : Value) (l : List Pc) (m : Pc) (hb : Nat) (hs : a.eval s = u) (hx : a.eval x = .slice (some ⟨hb, 0, none⟩) 1 1) (h : OwnP w B u l) (hr : w.heap[hb]? = some (.cells (pcl m) 53 (0, 0))) (hB : B ≤ w.heap.size) (hl : l.length ≤ 1000)
  (hK : ∀ u' w', OwnP w' B u' (l ++ [m]) → w.grownBy w' u.ownBlock → K (a.put o.dst u') w') : o.wp Tryz.prog a w K Q := by
 obtain ⟨u', w', hrun, h2, h3⟩ := run_appP w B o.type u l m h hb hr hB hl
 unfold Oper.wp
 simp [execOp, ho, resolve, invoke, builtin, hs, hx, hrun, Result.andThen]
 exact hK u' w' h2 h3
theorem list_appP (hw : Region.wanted o (yielded ops a.tmps) = true) (s x : Operand) (ho : o.op = .call { callee := .builtin .append, args := #[s, x], argTypes := #[26, 26] })
  (B : Nat) (u : Value) (l : List Pc) (m : Pc) (hb : Nat) (hs : a.eval s = u) (hx : a.eval x = .slice (some ⟨hb, 0, none⟩) 1 1) (h : OwnP w B u l) (hr : w.heap[hb]? = some (.cells (pcl m) 53 (0, 0))) (hB : B ≤ w.heap.size) (hl : l.length ≤ 1000)
  (hK : ∀ u' w', OwnP w' B u' (l ++ [m]) → w.grownBy w' u.ownBlock → wpList Tryz.prog ops Q rest (a.put o.dst u') w') : wpList Tryz.prog ops Q (o :: rest) a w :=
 wpList_step fun K hK' => by
  rw [if_pos hw]
  exact wp_appP s x ho B u l m hb hs hx h hr hB hl fun u' w' h1 h2 => hK' _ _ (hK u' w' h1 h2)
end
def SplitPost (q : Int) (s : ByteArray) (n : Int) (w : World) (e : Ending) (w' : World) : Prop :=
 ∃ A c, e = .returned (.tuple #[.slice A (splitR q s n).length c, .int .i64 (splitE q s n)]) ∧ Pcs w' w'.heap.size A (splitR q s n) ∧ Below w.heap.size w w'
theorem split_none {q : Int} {s : ByteArray} {n : Int} (h : splitB q s.size n = false) {w w' : World} (hb : Below w.heap.size w w') : SplitPost q s n w (.returned (.tuple #[.slice none 0 0, .int .i64 1])) w' := by
 refine ⟨none, 0, ?_, ?_, hb⟩
 ·unfold splitR splitE; rw [h]; rfl
 ·unfold splitR; rw [h]; exact Pcs.nil _ _ _
theorem split_some {q : Int} {s : ByteArray} {n : Int} (h : splitB q s.size n = true) {w w' : World} {u : Value} {B : Nat} (ho : OwnP w' B u (splitL q s n.toNat)) (hb : Below w.heap.size w w') : SplitPost q s n w (.returned (.tuple #[u, .int .i64 0])) w' := by
 obtain ⟨A, c, rfl, _, hr⟩ := ho.row
 have e1 : splitR q s n = splitL q s n.toNat := by unfold splitR; rw [h]; rfl
 have e2 : splitE q s n = 0 := by unfold splitE; rw [h]; rfl
 exact ⟨A, c, by rw [e1, e2], by rw [e1]; exact hr, hb⟩
theorem refSplit_any (q : Int) (s : ByteArray) (n : Int) (hs : s.size ≤ maxLen) (w : World) :
  Calls Tryz.prog 78 #[.int .i64 q, .string s, .int .i64 n] w (SplitPost q s n w) := by
 have cs := fun w => refSmall5_any q w
 unfold maxLen at hs
 by_cases hsp : splitB q s.size n = true
 ·obtain ⟨⟨a, b⟩, ⟨c, d⟩, e, f⟩ := (splitB_iff _ _ _).1 hsp
  rw [show smallB q = true from (smallB_iff q).2 ⟨a, b⟩] at cs
  obtain ⟨m, rfl⟩ : ∃ m : Nat, n = m := ⟨n.toNat, by omega⟩
  have HP := hid hsp; clear hsp
  have HL := hid (splitL_length q s m)
  have cle := countP_le s.size m c (by omega)
  have cat := fun k => countP_at (z := s.size) (n := m) (k := k) (by omega)
  have CAT := hid cat; clear cat
  have e1 : (s.size : Int) + m - 1 = ((s.size + m - 1 : Nat) : Int) := by omega
  have hq : (((s.size : Int) + m - 1) / (m : Int)) = ((countP s.size m : Nat) : Int) := by rw [e1]; rfl
  have c' : (1 : Int) ≤ s.size := by omega
  have d' : (s.size : Int) ≤ 20 := by omega
  clear e1
  have STK := hid (fun k h => splitL_take q s m k h)
  have CUT := hid (fun k h e f he hf => cut_run s k m (by omega) e f he hf (CAT.out k h))
  obtain ⟨N, hN⟩ : ∃ N, N = countP s.size m := ⟨_, rfl⟩
  rw [← hN] at hq cle HL CAT STK
  have HNN := hid hN; clear hN
  go_enter Tryz.func78, Tryz.ntmps78
  go_wp2_with fail; refine (cs _).mono ?_; rintro e w1 ⟨rfl, rfl⟩
  clear cs
  go_wp2_with fail
  rw [hq]
  clear hq
  go_loopw [9, 10] (fun u ix wr => ∃ k : Nat, k ≤ N ∧ ix = .int .i64 k ∧ OwnP wr w.heap.size u ((splitL q s m).take k) ∧ Below w.heap.size w wr) (fun _ ix _ => N - (intOf ix).toNat)
  case atStart => exact ⟨0, by omega, rfl, OwnP.nil _ _, Below.refl _ _⟩
  case round =>
   obtain ⟨k, hk, rfl, ho, hb⟩ := hrel
   have HO := hid ho; clear ho
   have HB := hid hb; clear hb
   by_cases hlt : k < N
   ·have hkm := CAT.out k hlt
    have cut := CUT.out k (by have := HNN.out; omega)
    have STK1 := hid (STK.out k hlt)
    have hpe : pieceP q s m k = ⟨q, (k : Int), (N : Int), cutT s k m⟩ := by unfold pieceP; rw [← HNN.out]
    rw [hpe] at STK1
    clear hpe
    obtain ⟨M, hM⟩ : ∃ M, M = k * m := ⟨_, rfl⟩
    rw [← hM] at cut hkm
    have em : (k : Int) * (m : Int) = (M : Int) := by rw [hM]; exact (Int.natCast_mul k m).symm
    clear hM
    generalize hT : cutT s k m = T at *
    clear hT
    by_cases hmin : M + m ≤ s.size
    ·have hmin' : (M : Int) + m ≤ s.size := by omega
     have cut1 := fun w => cut (M : Int) ((M : Int) + m) rfl (by rw [Nat.min_eq_left hmin]; omega) w
     clear cut hmin
     have hsz := HB.out.size
     have hO2 : OwnP (wr.alloc (.cells (pcl ⟨q, (k : Int), (N : Int), T⟩) 53)) w.heap.size _ _ := ownsRow_on HO.out (Joins.below_alloc1 wr _)
     have HO2 := hid hO2; clear hO2
     go_wp2_with (at_builtin; refine list_appP (by rfl) _ _ rfl w.heap.size _ _ ⟨q, (k : Int), (N : Int), T⟩ wr.heap.size rfl rfl HO2.out (heap_alloc_new wr _) (by simp; omega) (by rw [List.length_take, HL.out]; omega) ?_; intro u' w5 hown5 hg5)
     have HO5 := hid hown5; clear hown5
     have HB5 := hid ((HB.out.alloc hsz (.cells (pcl ⟨q, (k : Int), (N : Int), T⟩) 53)).grown hg5 (by simp; omega) (fun g e => (World.ownsRow.lt HO2.out g e).1))
     clear hg5
     go_roundw
     case rel => exact ⟨k + 1, by omega, by go_num, by rw [STK1.out]; exact HO5.out, HB5.out⟩
     case measure => simp [intOf]; omega
    ·have hmin' : (s.size : Int) < (M : Int) + m := by omega
     have cut1 := fun w => cut (M : Int) (s.size : Int) rfl (by rw [Nat.min_eq_right (by omega)]) w
     clear cut hmin
     have hsz := HB.out.size
     have hO2 : OwnP (wr.alloc (.cells (pcl ⟨q, (k : Int), (N : Int), T⟩) 53)) w.heap.size _ _ := ownsRow_on HO.out (Joins.below_alloc1 wr _)
     have HO2 := hid hO2; clear hO2
     go_wp2_with (at_builtin; refine list_appP (by rfl) _ _ rfl w.heap.size _ _ ⟨q, (k : Int), (N : Int), T⟩ wr.heap.size rfl rfl HO2.out (heap_alloc_new wr _) (by simp; omega) (by rw [List.length_take, HL.out]; omega) ?_; intro u' w5 hown5 hg5)
     have HO5 := hid hown5; clear hown5
     have HB5 := hid ((HB.out.alloc hsz (.cells (pcl ⟨q, (k : Int), (N : Int), T⟩) 53)).grown hg5 (by simp; omega) (fun g e => (World.ownsRow.lt HO2.out g e).1))
     clear hg5
     go_roundw
     case rel => exact ⟨k + 1, by omega, by go_num, by rw [STK1.out]; exact HO5.out, HB5.out⟩
     case measure => simp [intOf]; omega
   ·have ek : k = N := by omega
    subst ek
    go_wp2_with fail
    go_ret2
    refine split_some HP.out (B := w.heap.size) ?_ HB.out
    have := HO.out
    rwa [List.take_of_length_le (by rw [HL.out]; exact Nat.le_refl _)] at this
 ·have hf : splitB q s.size n = false := by simpa using hsp
  have HF := hid hf
  have hcase : smallB q = false ∨ (smallB q = true ∧ ((s.size : Int) < 1 ∨ ((1 : Int) ≤ s.size ∧ ((20 : Int) < s.size ∨ ((s.size : Int) ≤ 20 ∧ (n < 1 ∨ (1 ≤ n ∧ 16 < n))))))) := by
   cases hq : smallB q
   ·exact .inl rfl
   ·refine .inr ⟨rfl, ?_⟩
    rcases Int.lt_or_le s.size 1 with h | h
    ·exact .inl h
    ·refine .inr ⟨h, ?_⟩
     rcases Int.lt_or_le 20 s.size with h2 | h2
     ·exact .inl h2
     ·refine .inr ⟨h2, ?_⟩
      rcases Int.lt_or_le n 1 with h3 | h3
      ·exact .inl h3
      ·refine .inr ⟨h3, ?_⟩
       rcases Int.lt_or_le 16 n with h4 | h4
       ·exact h4
       ·exact absurd ((splitB_iff q s.size n).2 ⟨(smallB_iff q).1 hq, ⟨by omega, by omega⟩, h3, h4⟩) hsp
  clear hsp hf
  rcases hcase with h | ⟨h, h1 | ⟨h1, h2 | ⟨h2, h3 | ⟨h3, h4⟩⟩⟩⟩
  all_goals
   rw [h] at cs
   clear h
   go_enter Tryz.func78, Tryz.ntmps78
   go_wp2_with fail; refine (cs _).mono ?_; rintro e w1 ⟨rfl, rfl⟩
   go_wp2_with fail
   go_ret2
   exact split_none HF.out (Below.refl _ _)
end Go.Proofs.YtmmbnjkdknnidaaGreatDoor.F

/-
  Texts split, by the document.
-/
import Derived.Test.YtggeojjiongbbaaFragApp
import Derived.Test.YtggeojjiongbbaaFragMath
namespace Go.Proofs.Ytggeojjiongbbaa
open Go.RowKit

section
variable {ops : Array Oper} {rest : List Oper} {o : Oper} {a : Act} {w : World} {K : Act → World → Prop} {Q : Exit → Act → World → Prop}
set_option maxRecDepth 100000 in
/-- 'append(u, p)' at an operation. -/
theorem wp_appP (s x : Operand) (ho : o.op = .call { callee := .builtin .append, args := #[s, x], argTypes := #[30, 30] })
    (B : Nat) (u : Value) (l : List Pc) (m : Pc) (hb : Nat) (hs : a.eval s = u) (hx : a.eval x = .slice (some ⟨hb, 0, none⟩) 1 1) (h : OwnP w B u l) (hr : w.heap[hb]? = some (.cells (pcl m) 23 (0, 0))) (hB : B ≤ w.heap.size) (hl : l.length ≤ 1000)
    (hK : ∀ u' w', OwnP w' B u' (l ++ [m]) → w.grownBy w' u.ownBlock → K (a.put o.dst u') w') : o.wp Try.prog a w K Q := by
  obtain ⟨u', w', hrun, h2, h3⟩ := run_appP w B o.type u l m h hb hr hB hl
  unfold Oper.wp
  simp [execOp, ho, resolve, invoke, builtin, hs, hx, hrun, Result.andThen]
  exact hK u' w' h2 h3
set_option maxRecDepth 100000 in
theorem list_appP (hw : Region.wanted o (yielded ops a.tmps) = true) (s x : Operand) (ho : o.op = .call { callee := .builtin .append, args := #[s, x], argTypes := #[30, 30] })
    (B : Nat) (u : Value) (l : List Pc) (m : Pc) (hb : Nat) (hs : a.eval s = u) (hx : a.eval x = .slice (some ⟨hb, 0, none⟩) 1 1) (h : OwnP w B u l) (hr : w.heap[hb]? = some (.cells (pcl m) 23 (0, 0))) (hB : B ≤ w.heap.size) (hl : l.length ≤ 1000)
    (hK : ∀ u' w', OwnP w' B u' (l ++ [m]) → w.grownBy w' u.ownBlock → wpList Try.prog ops Q rest (a.put o.dst u') w') : wpList Try.prog ops Q (o :: rest) a w :=
  wpList_step fun K hK' => by
    rw [if_pos hw]
    exact wp_appP s x ho B u l m hb hs hx h hr hB hl fun u' w' h1 h2 => hK' _ _ (hK u' w' h1 h2)
end

/-- What Split hands back. -/
def SplitPost (q : Int) (s : ByteArray) (n : Int) (w : World) (e : Ending) (w' : World) : Prop :=
  ∃ A c, e = .returned (.tuple #[.slice A (splitR q s n).length c, .int .i64 (splitE q s n)]) ∧ Pcs w' w'.heap.size A (splitR q s n) ∧ Below w.heap.size w w'
theorem split_none {q : Int} {s : ByteArray} {n : Int} (h : splitB q s.size n = false) {w w' : World} (hb : Below w.heap.size w w') : SplitPost q s n w (.returned (.tuple #[.slice none 0 0, .int .i64 1])) w' := by
  refine ⟨none, 0, ?_, ?_, hb⟩
  · unfold splitR splitE; rw [h]; rfl
  · unfold splitR; rw [h]; exact Pcs.nil _ _ _
theorem split_some {q : Int} {s : ByteArray} {n : Int} (h : splitB q s.size n = true) {w w' : World} {u : Value} {B : Nat} (ho : OwnP w' B u (splitL q s n.toNat)) (hb : Below w.heap.size w w') : SplitPost q s n w (.returned (.tuple #[u, .int .i64 0])) w' := by
  obtain ⟨A, c, rfl, _, hr⟩ := ho.row
  have e1 : splitR q s n = splitL q s n.toNat := by unfold splitR; rw [h]; rfl
  have e2 : splitE q s n = 0 := by unfold splitE; rw [h]; rfl
  exact ⟨A, c, by rw [e1, e2], by rw [e1]; exact hr, hb⟩

theorem count_run (z n : Nat) (hz : z ≤ 20) (hn : 1 ≤ n) (hn2 : n ≤ 16) : (z : Int) + n - 1 = ((z + n - 1 : Nat) : Int) ∧ ((z + n - 1 : Nat) : Int) / n = (countP z n : Nat) := by
  refine ⟨by omega, ?_⟩
  unfold countP
  rfl

set_option maxRecDepth 100000 in
set_option maxHeartbeats 2000000 in
theorem refSplit_any (q : Int) (s : ByteArray) (n : Int) (hs : s.size ≤ maxLen) (w : World) :
    Calls Try.prog 13 #[.int .i64 q, .string s, .int .i64 n] w (SplitPost q s n w) := by
  have cs := fun w => refSmall5_any q w
  unfold maxLen at hs
  by_cases hsp : splitB q s.size n = true
  · obtain ⟨⟨a, b⟩, ⟨c, d⟩, e, f⟩ := (splitB_iff _ _ _).1 hsp
    rw [show smallB q = true from (smallB_iff q).2 ⟨a, b⟩] at cs
    obtain ⟨m, rfl⟩ : ∃ m : Nat, n = m := ⟨n.toNat, by omega⟩
    have HP := Lib.hid hsp; clear hsp
    have HL := Lib.hid (splitL_length q s m)
    have cle := countP_le s.size m c (by omega)
    have cat := fun k => countP_at (z := s.size) (n := m) (k := k) (by omega)
    have CAT := Lib.hid cat; clear cat
    have e1 : (s.size : Int) + m - 1 = ((s.size + m - 1 : Nat) : Int) := by omega
    have hq : (((s.size : Int) + m - 1) / (m : Int)) = ((countP s.size m : Nat) : Int) := by rw [e1]; rfl
    have c' : (1 : Int) ≤ s.size := by omega
    have d' : (s.size : Int) ≤ 20 := by omega
    clear e1
    have STK := Lib.hid (fun k h => splitL_take q s m k h)
    have CUT := Lib.hid (fun k h e f he hf => cut_run s k m (by omega) e f he hf (CAT.out k h))
    obtain ⟨N, hN⟩ : ∃ N, N = countP s.size m := ⟨_, rfl⟩
    rw [← hN] at hq cle HL CAT STK
    have HNN := Lib.hid hN; clear hN
    go_enter Try.func13, Try.ntmps13
    go_wp2_with fail; refine (cs _).mono ?_; rintro e w1 ⟨rfl, rfl⟩
    clear cs
    go_wp2_with fail
    rw [hq]
    clear hq
    go_loopw [9, 10] (fun u ix wr => ∃ k : Nat, k ≤ N ∧ ix = .int .i64 k ∧ OwnP wr w.heap.size u ((splitL q s m).take k) ∧ Below w.heap.size w wr) (fun _ ix _ => N - (intOf ix).toNat)
    case atStart => exact ⟨0, by omega, rfl, OwnP.nil _ _, Below.refl _ _⟩
    case round =>
      obtain ⟨k, hk, rfl, ho, hb⟩ := hrel
      have HO := Lib.hid ho; clear ho
      have HB := Lib.hid hb; clear hb
      by_cases hlt : k < N
      · have hkm := CAT.out k hlt
        have cut := CUT.out k (by have := HNN.out; omega)
        have STK1 := Lib.hid (STK.out k hlt)
        have hpe : pieceP q s m k = ⟨q, (k : Int), (N : Int), cutT s k m⟩ := by unfold pieceP; rw [← HNN.out]
        rw [hpe] at STK1
        clear hpe
        obtain ⟨M, hM⟩ : ∃ M, M = k * m := ⟨_, rfl⟩
        rw [← hM] at cut hkm
        have em : (k : Int) * (m : Int) = (M : Int) := by rw [hM]; exact (Int.natCast_mul k m).symm
        clear hM
        generalize hT : cutT s k m = T at *
        clear hT
        by_cases hmin : M + m ≤ s.size
        · have hmin' : (M : Int) + m ≤ s.size := by omega
          have cut1 := fun w => cut (M : Int) ((M : Int) + m) rfl (by rw [Nat.min_eq_left hmin]; omega) w
          clear cut hmin
          have hsz := HB.out.size
          have hO2 : OwnP (wr.alloc (.cells (pcl ⟨q, (k : Int), (N : Int), T⟩) 23)) w.heap.size _ _ := ownsRow_on HO.out (Joins.below_alloc1 wr _)
          have HO2 := Lib.hid hO2; clear hO2
          go_wp2_with (at_builtin; refine list_appP (by rfl) _ _ rfl w.heap.size _ _ ⟨q, (k : Int), (N : Int), T⟩ wr.heap.size rfl rfl HO2.out (heap_alloc_new wr _) (by simp; omega) (by rw [List.length_take, HL.out]; omega) ?_; intro u' w5 hown5 hg5)
          have HO5 := Lib.hid hown5; clear hown5
          have HB5 := Lib.hid ((HB.out.alloc hsz (.cells (pcl ⟨q, (k : Int), (N : Int), T⟩) 23)).grown hg5 (by simp; omega) (fun g e => (World.ownsRow.lt HO2.out g e).1))
          clear hg5
          go_roundw
          case rel => exact ⟨k + 1, by omega, by go_num, by rw [STK1.out]; exact HO5.out, HB5.out⟩
          case measure => simp [intOf]; omega
        · have hmin' : (s.size : Int) < (M : Int) + m := by omega
          have cut1 := fun w => cut (M : Int) (s.size : Int) rfl (by rw [Nat.min_eq_right (by omega)]) w
          clear cut hmin
          have hsz := HB.out.size
          have hO2 : OwnP (wr.alloc (.cells (pcl ⟨q, (k : Int), (N : Int), T⟩) 23)) w.heap.size _ _ := ownsRow_on HO.out (Joins.below_alloc1 wr _)
          have HO2 := Lib.hid hO2; clear hO2
          go_wp2_with (at_builtin; refine list_appP (by rfl) _ _ rfl w.heap.size _ _ ⟨q, (k : Int), (N : Int), T⟩ wr.heap.size rfl rfl HO2.out (heap_alloc_new wr _) (by simp; omega) (by rw [List.length_take, HL.out]; omega) ?_; intro u' w5 hown5 hg5)
          have HO5 := Lib.hid hown5; clear hown5
          have HB5 := Lib.hid ((HB.out.alloc hsz (.cells (pcl ⟨q, (k : Int), (N : Int), T⟩) 23)).grown hg5 (by simp; omega) (fun g e => (World.ownsRow.lt HO2.out g e).1))
          clear hg5
          go_roundw
          case rel => exact ⟨k + 1, by omega, by go_num, by rw [STK1.out]; exact HO5.out, HB5.out⟩
          case measure => simp [intOf]; omega
      · have ek : k = N := by omega
        subst ek
        go_wp2_with fail
        go_ret2
        refine split_some HP.out (B := w.heap.size) ?_ HB.out
        have := HO.out
        rwa [List.take_of_length_le (by rw [HL.out]; exact Nat.le_refl _)] at this
  · have hf : splitB q s.size n = false := by simpa using hsp
    have HF := Lib.hid hf
    have hcase : smallB q = false ∨ (smallB q = true ∧ ((s.size : Int) < 1 ∨ ((1 : Int) ≤ s.size ∧ ((20 : Int) < s.size ∨ ((s.size : Int) ≤ 20 ∧ (n < 1 ∨ (1 ≤ n ∧ 16 < n))))))) := by
      cases hq : smallB q
      · exact .inl rfl
      · refine .inr ⟨rfl, ?_⟩
        rcases Int.lt_or_le s.size 1 with h | h
        · exact .inl h
        · refine .inr ⟨h, ?_⟩
          rcases Int.lt_or_le 20 s.size with h2 | h2
          · exact .inl h2
          · refine .inr ⟨h2, ?_⟩
            rcases Int.lt_or_le n 1 with h3 | h3
            · exact .inl h3
            · refine .inr ⟨h3, ?_⟩
              rcases Int.lt_or_le 16 n with h4 | h4
              · exact h4
              · exact absurd ((splitB_iff q s.size n).2 ⟨(smallB_iff q).1 hq, ⟨by omega, by omega⟩, h3, h4⟩) hsp
    clear hsp hf
    rcases hcase with h | ⟨h, h1 | ⟨h1, h2 | ⟨h2, h3 | ⟨h3, h4⟩⟩⟩⟩
    all_goals
      rw [h] at cs
      clear h
      go_enter Try.func13, Try.ntmps13
      go_wp2_with fail; refine (cs _).mono ?_; rintro e w1 ⟨rfl, rfl⟩
      go_wp2_with fail
      go_ret2
      exact split_none HF.out (Below.refl _ _)

end Go.Proofs.Ytggeojjiongbbaa

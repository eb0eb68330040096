/-
  The law CliqueMost.
-/
import Derived.Test.YtplnmkeopdmanaaCliAwake
import Derived.Laws.MakeOwn
namespace Go.Proofs.Ytplnmkeopdmanaa
open Go.RowKit

theorem make_ints (n : Nat) (h : n ≤ 1000) (w : World) : (Instr.makeSlice 30 (.int .i64 (n : Int)) (.int .i64 (n : Int))).run Try.prog w = .ok (.slice (some ⟨w.heap.size, 0, none⟩) n n) (w.alloc (.cells ((List.replicate n (0 : Int)).map (Value.int .i64)).toArray 3)) := by
  obtain ⟨i0, hi, hz0, hz1, hz2⟩ := info_parts int_info
  have := run_make (P := Try.prog) w 30 3 i0 (.int .i64 0) Try.underlying30 hi hz0 .i64 .i64 (n : Int) (n : Int) (by omega) (Int.le_refl _) (by rw [hz2]; omega) (by omega)
  have e : madeCells #[Value.int .i64 0] n = ((List.replicate n (0 : Int)).map (Value.int .i64)).toArray := by
    apply Array.toList_inj.1
    rw [toList_madeCells_one, List.map_replicate]
  rw [this, Int.toNat_natCast, hz1, Nat.mul_one, ← e]
  rfl

theorem ack_none (k : Int) (n : Nat) : ackN k (List.replicate n 0) = 0 := by
  unfold ackN
  rw [List.countP_eq_zero]
  intro x hx
  rw [(List.mem_replicate.1 hx).2]
  unfold hasB
  have e : md 0 = 0 := rfl
  rw [e, Nat.zero_testBit]; simp
theorem full_has (k : Int) : hasB 65535 k = nodeB k := by
  unfold hasB
  cases h : nodeB k
  · rfl
  · have e : md 65535 = 2 ^ 16 - 1 := rfl
    obtain ⟨h0, h1⟩ := (nodeB_iff k).1 h
    rw [e, Nat.testBit_two_pow_sub_one]
    simp; omega
theorem ack_all (k : Int) (n : Nat) (h : nodeB k = true) : ackN k (List.replicate n 65535) = n := by
  unfold ackN
  rw [List.countP_eq_length.2 (fun x hx => by rw [(List.mem_replicate.1 hx).2, full_has, h]), List.length_replicate]
theorem ack_off (k : Int) (l : List Int) (h : nodeB k = false) : ackN k l = 0 := by
  unfold ackN
  rw [List.countP_eq_zero]
  intro x _
  unfold hasB; rw [h]; simp
theorem clear_all (k : Int) (n : Nat) (h0 : 0 ≤ k) (h1 : k < n) (h2 : 2 ≤ n) (h3 : n ≤ 16) : clearB k n (List.replicate (n - 1) 65535) = true := by
  have hn : nodeB k = true := (nodeB_iff k).2 ⟨h0, by omega⟩
  unfold clearB
  rw [hn, ack_all _ _ hn, (inB_iff 1 16 n).2 ⟨by omega, by omega⟩]
  simp; omega
theorem clear_none (k : Int) (n : Nat) (h2 : 2 ≤ n) : clearB k n (List.replicate n 0) = false := by
  unfold clearB
  rw [ack_none]
  have : decide ((n : Int) < 2 * (((0 : Nat) : Int) + 1)) = false := by simp; omega
  rw [this]; simp
theorem clear_one (k : Int) (n : Nat) (h : nodeB k = true) : clearB k 1 (List.replicate n 0) = true := by
  unfold clearB
  rw [ack_none, h]; rfl
theorem clear_off (k m : Int) (l : List Int) (h : nodeB k = false) : clearB k m l = false := by unfold clearB; rw [h]; rfl

set_option maxRecDepth 100000 in
set_option maxHeartbeats 4000000 in
theorem cliqueMost_walk (a0 a1 a2 : Int) (w0 : (Lit.int .i64 a0).wf = true) (w1 : (Lit.int .i64 a1).wf = true) (_w2 : (Lit.int .i64 a2).wf = true) (w : World) :
    Calls Try.prog 8 #[.int .i64 a0, .int .i64 a1, .int .i64 a2] w fun e w' => e = .returned (.bool true) ∧ Below w.heap.size w w' := by
  obtain ⟨i0, hi0, hz0, hz1, hz2⟩ := info_parts int_info
  have p1 := Lib.hid (fun W => pick_any a0 15 w0 (by omega) W)
  obtain ⟨q0, q1⟩ := pickI_range a0 15 (by omega)
  generalize pickI a0 15 = q at *
  obtain ⟨N, hN⟩ : ∃ N : Nat, 2 + q = (N : Int) := ⟨(2 + q).toNat, by omega⟩
  have hN2 : 2 ≤ N ∧ N ≤ 16 := by omega
  obtain ⟨n2, n16⟩ := hN2
  have g1 : IntKind.i64.wrap (2 + q) = (N : Int) := by rw [← hN]; exact IntWalk.i64_in _ (by omega)
  have g2 : IntKind.i64.wrap ((N : Int) - 1) = (N : Int) - 1 := IntWalk.i64_in _ (by omega)
  have p2 := Lib.hid (fun W => pick_any a1 N w1 (by omega) W)
  obtain ⟨k0, k1⟩ := pickI_range a1 N (by omega)
  generalize pickI a1 N = k at *
  have hk : nodeB k = true := (nodeB_iff k).2 ⟨by omega, by omega⟩
  have e1 := Lib.hid (clear_all k N k0 k1 n2 n16)
  have e2 := Lib.hid (clear_none k N n2)
  have e3 := Lib.hid (clear_one k N hk)
  have e4 := Lib.hid (ack_all k (N - 1) hk)
  have e5 := Lib.hid (ack_none k N)
  have AW := Lib.hid (fun W => awake_any W)
  have mk := fun W => make_ints N (by omega) W
  clear w0 w1 q0 q1 hN hk
  go_enter Try.func8, Try.ntmps8
  go_wp2_with fail
  (with_reducible refine (AW.out _).mono ?_); rintro e v1 ⟨rfl, hb⟩
  have HB := Lib.hid hb; clear hb
  go_wp2_with fail
  (with_reducible refine (p1.out _).mono ?_); rintro e v2 ⟨rfl, rfl⟩
  go_wp2_with fail
  (with_reducible refine (p2.out _).mono ?_); rintro e v2 ⟨rfl, rfl⟩
  go_wp2_with fail
  have hr := Row.new v1 (List.replicate N 0)
  have hb := Joins.below_alloc1 v1 (.cells ((List.replicate N (0 : Int)).map (Value.int .i64)).toArray 3)
  have eA : ((List.replicate N (0 : Int)).map (Value.int .i64)).toArray = Array.replicate N (.int .i64 0) := by
    apply Array.toList_inj.1
    rw [List.map_replicate]; simp
  rw [eA] at hr hb
  clear eA mk
  obtain ⟨V, hV⟩ : ∃ W, W = v1.alloc (.cells (Array.replicate N (.int .i64 0)) 3) := ⟨_, rfl⟩
  have hs : V.heap.size = v1.heap.size + 1 := by rw [hV, World.size_alloc]
  rw [← hV] at hr hb ⊢
  rw [← hs] at hr
  replace HB := Lib.hid (HB.out.trans (hb.mono HB.out.size))
  generalize (some ⟨v1.heap.size, 0, none⟩ : Option Addr) = A0 at *
  clear hb hV hs
  have HR := Lib.hid hr; clear hr
  generalize hBB : V.heap.size = B at *
  have hBw : w.heap.size ≤ B := by rw [← hBB]; exact HB.out.size
  have HV0 : Hid (B ≤ V.heap.size) := Lib.hid (by omega)
  go_loopw [10, 12] (fun u i wr => ∃ j : Nat, j ≤ N - 1 ∧ i = .int .i64 j ∧ wr.ownsRow B 3 1 u j ((List.replicate j (65535 : Int)).map (Value.int .i64)) ∧ Row wr B A0 (List.replicate N 0) ∧ Below w.heap.size w wr ∧ B ≤ wr.heap.size) (fun _ i _ => N - (intOf i).toNat)
  case atStart => exact ⟨0, by omega, rfl, World.ownsRow_nil _ _ _ _, HR.out, HB.out, HV0.out⟩
  case round =>
    obtain ⟨j, hj, rfl, hrow, hr, hb, hB9⟩ := hrel
    have HB9 := Lib.hid hb; clear hb
    have HR9 := Lib.hid hr; clear hr
    clear HB HR
    by_cases hlt : (j : Int) < (N : Int) - 1
    · go_wp2_with (at_builtin; refine wpList_append_own _ rfl _ _ 30 rfl B 3 i0 (.int .i64 0) 1 8 Try.underlying30 hi0 hz0 hz1 hz2 rfl (by decide) _ _ _ rfl (hrow.alloc _) ⟨wr.heap.size, 0, none⟩ 1 1 [.int .i64 65535] rfl rfl (cell_one_new _ _ _) (by simp [Value.oneCell']) (by simp only [maxLen]; omega) (by omega) (by simp; omega) ?_; intro v' w3 hown' hgrow3 hnil3)
      have hb3 := (HB9.out.alloc HB9.out.size (.cells #[.int .i64 65535] 3)).grown hgrow3 (by simp; omega) (fun g e' => Nat.le_trans hBw (hrow.lt g e').1)
      have hb4 := ((Below.refl B wr).alloc hB9 (.cells #[.int .i64 65535] 3)).grown hgrow3 (by simp; omega) (fun g e' => (hrow.lt g e').1)
      have HB3 := Lib.hid hb3; clear hb3
      have HB4 := Lib.hid hb4; clear hb4
      go_roundw
      case rel => exact ⟨j + 1, by omega, by go_num, by rw [List.replicate_succ', List.map_append]; exact hown', HR9.out.below HB4.out (Nat.le_refl _), HB3.out, Nat.le_trans hB9 HB4.out.size⟩
      case measure => simp [intOf]; omega
    · have ej : N - 1 = j := by omega
      rw [ej] at e1 e4
      obtain ⟨A, c, rfl, hc, hU⟩ := Row.of_own (l := List.replicate j 65535) (by rw [List.length_replicate]; exact hrow)
      rw [List.length_replicate]
      have hR2 : Row wr wr.heap.size A0 (List.replicate N 0) := HR9.out.more hB9
      clear hrow ej HR9
      have cA := fun x m => clear_any x m A c _ (List.replicate j 65535) wr hU (by rw [List.length_replicate]; omega)
      have cN := fun x m => clear_any x m A0 N _ (List.replicate N 0) wr hR2 (by rw [List.length_replicate]; omega)
      have dA := fun x => acked_any x A c _ (List.replicate j 65535) wr hU (by rw [List.length_replicate]; unfold maxLen; omega)
      have dN := fun x => acked_any x A0 N _ (List.replicate N 0) wr hR2 (by rw [List.length_replicate]; unfold maxLen; omega)
      rw [List.length_replicate] at cA cN dA dN
      have c1 := cA k N; rw [e1.out] at c1
      have c2 := cN k N; rw [e2.out] at c2
      have c3 := cN k 1; rw [e3.out] at c3
      have c4 := dA k; rw [e4.out] at c4
      have c5 := dN k; rw [e5.out] at c5
      have c6 := cA a2 N
      have c7 := dA a2
      clear cA cN dA dN
      have C1 := Lib.hid c1; have C2 := Lib.hid c2; have C3 := Lib.hid c3; have C4 := Lib.hid c4; have C5 := Lib.hid c5; have C6 := Lib.hid c6; have C7 := Lib.hid c7
      clear c1 c2 c3 c4 c5 c6 c7
      have hjN : (j : Int) = (N : Int) - 1 := by omega
      have HJ := Lib.hid hjN
      have hjt : ((j : Int) == (N : Int) - 1) = true := by simpa using hjN
      clear hjN
      go_wp2_with fail
      (with_reducible refine C1.out.mono ?_); rintro e x1 ⟨rfl, rfl⟩
      go_wp2_with fail
      (with_reducible refine C2.out.mono ?_); rintro e x1 ⟨rfl, rfl⟩
      go_wp2_with fail
      (with_reducible refine C3.out.mono ?_); rintro e x1 ⟨rfl, rfl⟩
      go_wp2_with fail
      (with_reducible refine C4.out.mono ?_); rintro e x1 ⟨rfl, rfl⟩
      go_wp2_with fail
      (with_reducible refine C5.out.mono ?_); rintro e x1 ⟨rfl, rfl⟩
      by_cases ha : 0 ≤ a2
      · by_cases hb : a2 ≤ 15
        · go_wp2_with fail
          go_ret
          exact ⟨rfl, HB9.out⟩
        · have hno := (nodeB_no a2).2 (.inr (by omega))
          have c6 := C6.out; rw [clear_off _ _ _ hno] at c6
          have c7 := C7.out; rw [ack_off _ _ hno] at c7
          clear hno
          go_wp2_with fail
          (with_reducible refine c6.mono ?_); rintro e x1 ⟨rfl, rfl⟩
          go_wp2_with fail
          (with_reducible refine c7.mono ?_); rintro e x1 ⟨rfl, rfl⟩
          go_wp2_with fail
          go_ret
          exact ⟨rfl, HB9.out⟩
      · have hno := (nodeB_no a2).2 (.inl (by omega))
        have c6 := C6.out; rw [clear_off _ _ _ hno] at c6
        have c7 := C7.out; rw [ack_off _ _ hno] at c7
        clear hno
        go_wp2_with fail
        (with_reducible refine c6.mono ?_); rintro e x1 ⟨rfl, rfl⟩
        go_wp2_with fail
        (with_reducible refine c7.mono ?_); rintro e x1 ⟨rfl, rfl⟩
        go_wp2_with fail
        go_ret
        exact ⟨rfl, HB9.out⟩

end Go.Proofs.Ytplnmkeopdmanaa

/-
  The walk of the law FragSizes.
-/
import Derived.Test.YtggeojjiongbbaaFragAwake
namespace Go.Proofs.Ytggeojjiongbbaa
open Go.RowKit

theorem splitOk_any (q : Int) (hq : 1 ≤ q ∧ q ≤ 65535) (x : ByteArray) (hx : 1 ≤ x.size ∧ x.size ≤ 20) (k : Nat) (hk : 1 ≤ k ∧ k ≤ 16) (w : World) :
    Calls Try.prog 12 #[.int .i64 q, .string x, .int .i64 k] w fun e w' => ∃ A c, e = .returned (.tuple #[.slice A (countP x.size k) c, .int .i64 0]) ∧ Pcs w' w'.heap.size A (splitL q x k) ∧ Below w.heap.size w w' := by
  have h : splitB q x.size (k : Int) = true := (splitB_iff _ _ _).2 ⟨hq, hx, by omega, by omega⟩
  have e1 : splitR q x (k : Int) = splitL q x k := by unfold splitR; rw [h]; rfl
  have e2 : splitE q x (k : Int) = 0 := by unfold splitE; rw [h]; rfl
  refine (splitP_any q x k (by unfold maxLen; omega) w).mono ?_
  rintro e w' ⟨A, c, he, hp, hb⟩
  rw [e1] at hp
  rw [e1, e2, splitL_length] at he
  exact ⟨A, c, he, hp, hb⟩
theorem splitBad_any (q : Int) (x : ByteArray) (hx : x.size ≤ 20) (k : Int) (hk : 16 < k) (w : World) :
    Calls Try.prog 12 #[.int .i64 q, .string x, .int .i64 k] w fun e w' => ∃ A c, e = .returned (.tuple #[.slice A 0 c, .int .i64 1]) ∧ Below w.heap.size w w' := by
  have h : splitB q x.size k = false := by rw [← Bool.not_eq_true, splitB_iff]; omega
  have e1 : splitR q x k = [] := by unfold splitR; rw [h]; rfl
  have e2 : splitE q x k = 1 := by unfold splitE; rw [h]; rfl
  refine (splitP_any q x k (by unfold maxLen; omega) w).mono ?_
  rintro e w' ⟨A, c, he, hp, hb⟩
  rw [e1, e2] at he
  exact ⟨A, c, he, hb⟩
theorem countP_anti {z a b : Nat} (ha : 1 ≤ a) (h : a ≤ b) (hz : 1 ≤ z) : countP z b ≤ countP z a := by
  have h1 := countP_end (z := z) ha
  have h2 : z ≤ countP z a * b := Nat.le_trans h1 (Nat.mul_le_mul_left _ h)
  unfold countP at h2 ⊢
  apply Nat.le_of_lt_succ
  rw [Nat.div_lt_iff_lt_mul (by omega)]
  have h3 : ((z + a - 1) / a).succ * b = (z + a - 1) / a * b + b := Nat.succ_mul _ _
  omega
theorem countP_one (z : Nat) : countP z 1 = z := by unfold countP; simp

set_option maxRecDepth 100000 in
set_option maxHeartbeats 4000000 in
theorem fragSizes_walk (s : ByteArray) (one two : Int) (hs : s.size ≤ 140737488351232) (h1 : (Lit.int .i64 one).wf = true) (h2 : (Lit.int .i64 two).wf = true) (w : World) :
    Calls Try.prog 7 #[.string s, .int .i64 one, .int .i64 two] w fun e w' => e = .returned (.bool true) ∧ Below w.heap.size w w' := by
  have ct := fun W => text_any s (by unfold maxLen; omega) W
  have hx := textT_size s
  generalize textT s = x at *
  have cp1 := fun W => pick_any one 16 h1 (by omega) W
  have cp2 := fun W => pick_any two 16 h2 (by omega) W
  have r1 := pickI_range one 16 (by omega)
  have r2 := pickI_range two 16 (by omega)
  generalize pickI one 16 = m at *
  generalize pickI two 16 = n at *
  obtain ⟨M, rfl⟩ : ∃ M : Nat, m = M := ⟨m.toNat, by omega⟩
  obtain ⟨N, rfl⟩ : ∃ N : Nat, n = N := ⟨n.toNat, by omega⟩
  have c1 := fun W => splitOk_any 3 (by omega) x hx 1 (by omega) W
  have c17 := fun W => splitBad_any 3 x hx.2 17 (by omega) W
  have CUT := Lib.hid (fun k h e f he hf => cut_run x k 1 (Nat.le_refl 1) e f he hf h)
  rw [countP_one] at c1
  have hz1 : (1 : Int) ≤ x.size := by omega
  have hz2 : (x.size : Int) ≤ 20 := by omega
  rcases Nat.le_total M N with hmn | hmn
  · have ca := fun W => splitOk_any 3 (by omega) x hx (1 + M) (by omega) W
    have cb := fun W => splitOk_any 3 (by omega) x hx (1 + N) (by omega) W
    have hanti := countP_anti (z := x.size) (a := 1 + M) (b := 1 + N) (by omega) (by omega) hx.1
    have hpos := countP_pos x.size (1 + N) hx.1 (by omega)
    generalize countP x.size (1 + M) = KA at *
    generalize countP x.size (1 + N) = KB at *
    have eM : ((1 + M : Nat) : Int) = 1 + (M : Int) := by omega
    have eN : ((1 + N : Nat) : Int) = 1 + (N : Int) := by omega
    rw [eM] at ca
    rw [eN] at cb
    have hmi : min (M : Int) (N : Int) = M := by omega
    have hma : max (M : Int) (N : Int) = N := by omega
    clear eM eN h1 h2 hs
    have hle : 1 + (M : Int) ≤ 1 + (N : Int) := by omega
    have hab : (KB : Int) ≤ KA := by omega
    have hb1 : (1 : Int) ≤ KB := by omega
    go_enter Try.func7, Try.ntmps7
    go_wp2_with fail; refine (awake_any _).mono ?_; rintro e w1 ⟨rfl, b1⟩
    have HB1 := Lib.hid b1; clear b1
    go_wp2_with fail; refine (ct _).mono ?_; rintro e w2 ⟨rfl, rfl⟩
    go_wp2_with fail; refine (cp1 _).mono ?_; rintro e w2 ⟨rfl, rfl⟩
    go_wp2_with fail; refine (cp2 _).mono ?_; rintro e w2 ⟨rfl, rfl⟩
    clear ct cp1 cp2
    go_wp2_with fail; refine (ca _).mono ?_; rintro e w2 ⟨Aa, ka, rfl, -, b2⟩
    have HB2 := Lib.hid (HB1.out.trans (b2.mono HB1.out.size)); clear b2
    go_wp2_with fail; refine (cb _).mono ?_; rintro e w3 ⟨Ab, kb, rfl, -, b3⟩
    have HB3 := Lib.hid (HB2.out.trans (b3.mono HB2.out.size)); clear b3
    go_wp2_with fail; refine (c1 _).mono ?_; rintro e w4 ⟨Ac, kc, rfl, hpc, b4⟩
    have HB4 := Lib.hid (HB3.out.trans (b4.mono HB3.out.size)); clear b4
    clear ca cb c1
    go_wp2_with fail; refine (c17 _).mono ?_; rintro e w5 ⟨Ad, kd, rfl, b5⟩
    have HB5 := Lib.hid (HB4.out.trans (b5.mono HB4.out.size))
    have HP5 := Lib.hid (hpc.below b5 (Nat.le_refl _))
    clear b5 hpc c17
    go_wp2_with fail
    clear hmi hma hle
    go_loopw [19] (fun ix wr => ∃ k : Nat, k ≤ x.size ∧ ix = .int .i64 k ∧ ∃ n, wr = w5.drewN n) (fun ix _ => x.size - (intOf ix).toNat)
    case atStart => exact ⟨0, by omega, rfl, 0, rfl⟩
    case round =>
      obtain ⟨k, hk, rfl, n9, rfl⟩ := hrel
      by_cases hlt : k < x.size
      · have hat : (splitL 3 x 1)[k]? = some (pieceP 3 x 1 k) := splitL_at _ _ _ _ (by rw [countP_one]; exact hlt)
        obtain ⟨ad, rfl, _, hc⟩ := HP5.out (by rw [splitL_length, countP_one]; omega)
        obtain ⟨f0, f1, f2, f3⟩ := hc k _ hat
        have hb : (pieceP 3 x 1 k).bytes = cutT x k 1 := rfl
        rw [hb] at f3
        have hcut := fun W => CUT.out k (by rw [Nat.mul_one]; exact hlt) (k : Int) ((k : Int) + 1) (by omega) (by omega) W
        clear hc hat hb f0 f1 f2
        generalize cutT x k 1 = T at *
        have q1 : IntKind.i64.wrap ((k : Int) + 1) = (k : Int) + 1 := IntWalk.i64_in _ (by omega)
        have hkx : (k : Int) < x.size := by omega
        go_wp2_with fail
        go_quiet (fail)
        go_wp2_with fail
        go_roundw
        case rel => exact ⟨k + 1, by omega, by go_num, _, rfl⟩
        case measure => simp [intOf]; omega
      · have ek : k = x.size := by omega
        subst ek
        clear CUT HP5
        go_wp2_with fail
        go_ret
        exact ⟨rfl, drew_on HB5.out _⟩
  · have ca := fun W => splitOk_any 3 (by omega) x hx (1 + N) (by omega) W
    have cb := fun W => splitOk_any 3 (by omega) x hx (1 + M) (by omega) W
    have hanti := countP_anti (z := x.size) (a := 1 + N) (b := 1 + M) (by omega) (by omega) hx.1
    have hpos := countP_pos x.size (1 + M) hx.1 (by omega)
    generalize countP x.size (1 + N) = KA at *
    generalize countP x.size (1 + M) = KB at *
    have eN : ((1 + N : Nat) : Int) = 1 + (N : Int) := by omega
    have eM : ((1 + M : Nat) : Int) = 1 + (M : Int) := by omega
    rw [eN] at ca
    rw [eM] at cb
    have hmi : min (M : Int) (N : Int) = N := by omega
    have hma : max (M : Int) (N : Int) = M := by omega
    clear eM eN h1 h2 hs
    have hle : 1 + (N : Int) ≤ 1 + (M : Int) := by omega
    have hab : (KB : Int) ≤ KA := by omega
    have hb1 : (1 : Int) ≤ KB := by omega
    go_enter Try.func7, Try.ntmps7
    go_wp2_with fail; refine (awake_any _).mono ?_; rintro e w1 ⟨rfl, b1⟩
    have HB1 := Lib.hid b1; clear b1
    go_wp2_with fail; refine (ct _).mono ?_; rintro e w2 ⟨rfl, rfl⟩
    go_wp2_with fail; refine (cp1 _).mono ?_; rintro e w2 ⟨rfl, rfl⟩
    go_wp2_with fail; refine (cp2 _).mono ?_; rintro e w2 ⟨rfl, rfl⟩
    clear ct cp1 cp2
    go_wp2_with fail; refine (ca _).mono ?_; rintro e w2 ⟨Aa, ka, rfl, -, b2⟩
    have HB2 := Lib.hid (HB1.out.trans (b2.mono HB1.out.size)); clear b2
    go_wp2_with fail; refine (cb _).mono ?_; rintro e w3 ⟨Ab, kb, rfl, -, b3⟩
    have HB3 := Lib.hid (HB2.out.trans (b3.mono HB2.out.size)); clear b3
    go_wp2_with fail; refine (c1 _).mono ?_; rintro e w4 ⟨Ac, kc, rfl, hpc, b4⟩
    have HB4 := Lib.hid (HB3.out.trans (b4.mono HB3.out.size)); clear b4
    clear ca cb c1
    go_wp2_with fail; refine (c17 _).mono ?_; rintro e w5 ⟨Ad, kd, rfl, b5⟩
    have HB5 := Lib.hid (HB4.out.trans (b5.mono HB4.out.size))
    have HP5 := Lib.hid (hpc.below b5 (Nat.le_refl _))
    clear b5 hpc c17
    go_wp2_with fail
    clear hmi hma hle
    go_loopw [19] (fun ix wr => ∃ k : Nat, k ≤ x.size ∧ ix = .int .i64 k ∧ ∃ n, wr = w5.drewN n) (fun ix _ => x.size - (intOf ix).toNat)
    case atStart => exact ⟨0, by omega, rfl, 0, rfl⟩
    case round =>
      obtain ⟨k, hk, rfl, n9, rfl⟩ := hrel
      by_cases hlt : k < x.size
      · have hat : (splitL 3 x 1)[k]? = some (pieceP 3 x 1 k) := splitL_at _ _ _ _ (by rw [countP_one]; exact hlt)
        obtain ⟨ad, rfl, _, hc⟩ := HP5.out (by rw [splitL_length, countP_one]; omega)
        obtain ⟨f0, f1, f2, f3⟩ := hc k _ hat
        have hb : (pieceP 3 x 1 k).bytes = cutT x k 1 := rfl
        rw [hb] at f3
        have hcut := fun W => CUT.out k (by rw [Nat.mul_one]; exact hlt) (k : Int) ((k : Int) + 1) (by omega) (by omega) W
        clear hc hat hb f0 f1 f2
        generalize cutT x k 1 = T at *
        have q1 : IntKind.i64.wrap ((k : Int) + 1) = (k : Int) + 1 := IntWalk.i64_in _ (by omega)
        have hkx : (k : Int) < x.size := by omega
        go_wp2_with fail
        go_quiet (fail)
        go_wp2_with fail
        go_roundw
        case rel => exact ⟨k + 1, by omega, by go_num, _, rfl⟩
        case measure => simp [intOf]; omega
      · have ek : k = x.size := by omega
        subst ek
        clear CUT HP5
        go_wp2_with fail
        go_ret
        exact ⟨rfl, drew_on HB5.out _⟩

end Go.Proofs.Ytggeojjiongbbaa

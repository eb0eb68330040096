/-
  The walk of the law FragBack.
-/
import Derived.Test.YtggeojjiongbbaaFragSizes
import Derived.Test.YtggeojjiongbbaaFragTrip
namespace Go.Proofs.Ytggeojjiongbbaa
open Go.RowKit

def cut100 (s : ByteArray) : ByteArray := txt (s.data.toList.take 100)
theorem cut100_size (s : ByteArray) : (cut100 s).size ≤ 100 := by
  unfold cut100; rw [txt_size, List.length_take]; omega
theorem cut100_short {s : ByteArray} (h : s.size ≤ 100) : cut100 s = s := by
  unfold cut100
  rw [List.take_of_length_le (by rw [← Lib.size_eq]; exact h)]; rfl
theorem cut100_long (s : ByteArray) : s.extract 0 100 = cut100 s := by
  rw [Lib.extract_eq]; rfl

theorem cut100_min (s : ByteArray) : s.extract 0 (min (s.size : Int) 100).toNat = cut100 s := by
  by_cases h : s.size ≤ 100
  · have e : (min (s.size : Int) 100).toNat = s.size := by omega
    rw [e, cut100_short h]
    rw [Lib.extract_eq, Lib.size_eq, List.drop_zero, Nat.sub_zero, List.take_length]
  · have e : (min (s.size : Int) 100).toNat = 100 := by omega
    rw [e, cut100_long]

theorem upK_size (x : ByteArray) (n k : Nat) : (upK x n k).size ≤ x.size := by
  unfold upK; rw [txt_size, List.length_take, ← Lib.size_eq]; omega
theorem cutT_full (x : ByteArray) {n k : Nat} (hn : 1 ≤ n) (h : k + 1 < countP x.size n) : (cutT x k n).size = n := by
  have h1 := countP_at (z := x.size) (n := n) (k := k + 1) hn h
  have e : (k + 1) * n = k * n + n := Nat.succ_mul k n
  rw [cutT_size]; omega
theorem back_calls {q : Int} {x : ByteArray} {n k : Nat} (h : splitB q x.size (n : Int) = true) (hk : k < countP x.size n) (y : ByteArray) (hy : y.size ≤ 100) :
    ∃ E : ByteArray, E.size ≤ 21 ∧ (∀ W, Calls Try.prog 16 #[pv (pieceP q x n k)] W fun e w' => e = .returned (.tuple #[.string E, .int .i64 0]) ∧ Below W.heap.size W w') ∧
      ∀ W, Calls Try.prog 20 #[.string (E ++ y)] W fun e w' => e = .returned (.tuple #[pv (pieceP q x n k), .string y, .int .i64 0]) ∧ Below W.heap.size W w' := by
  have hr : rightP (pieceP q x n k) = true := piece_right h hk
  have hb : (pieceP q x n k).bytes.size ≤ 16 := ((rightP_iff _).1 hr).2.2.2.2
  have he := encP_list hr
  have hl : (encP (pieceP q x n k)).size ≤ 21 := by
    rw [Lib.size_eq, he]
    unfold encL
    rw [List.length_append, ← Lib.size_eq]
    simp only [List.length_cons, List.length_nil]
    omega
  refine ⟨encP (pieceP q x n k), hl, fun W => ?_, fun W => ?_⟩
  · have c := encP_any (pieceP q x n k) (by unfold maxLen; omega) W
    rw [show encPE (pieceP q x n k) = 0 by unfold encPE; rw [hr]; rfl] at c
    exact c
  · have c := decP_any (encP (pieceP q x n k) ++ y) (by rw [ByteArray.size_append]; omega) W
    obtain ⟨d1, d2, d3⟩ := dec_enc hr y.data.toList
    unfold DecPost at c
    rw [app_data, he, d1, d2, d3] at c
    exact c
theorem dec_calls (y : ByteArray) (hy : y.size ≤ 100) : ∃ (M : Pc) (R : ByteArray) (E : Int), (∀ W, Calls Try.prog 20 #[.string y] W fun e w' => e = .returned (.tuple #[pv M, .string R, .int .i64 E]) ∧ Below W.heap.size W w') ∧
    (E ≠ 0 ∨ (E = 0 ∧ ∃ Z : ByteArray, Z ++ R = y ∧ Z.size + R.size ≤ 100 ∧ ∀ W, Calls Try.prog 16 #[pv M] W fun e w' => e = .returned (.tuple #[.string Z, .int .i64 0]) ∧ Below W.heap.size W w')) := by
  refine ⟨decR y.data.toList, decRest y.data.toList, decE y.data.toList, fun W => decP_any y (by omega) W, ?_⟩
  by_cases h0 : decE y.data.toList = 0
  · right
    obtain ⟨e1, e2⟩ := enc_dec h0
    have hr : rightP (decR y.data.toList) = true := by
      unfold encPE at e1
      cases h : rightP (decR y.data.toList)
      · rw [h] at e1; exact absurd e1 (by decide)
      · rfl
    have hb : (decR y.data.toList).bytes.size ≤ 16 := ((rightP_iff _).1 hr).2.2.2.2
    refine ⟨h0, encP (decR y.data.toList), e2, ?_, fun W => ?_⟩
    · rw [← ByteArray.size_append, e2]; exact hy
    · have c := encP_any (decR y.data.toList) (by unfold maxLen; omega) W
      rw [e1] at c
      exact c
  · exact Or.inl h0

set_option maxRecDepth 100000 in
set_option maxHeartbeats 8000000 in
theorem fragBack_walk (s : ByteArray) (size seq : Int) (more : ByteArray) (hs : s.size ≤ 140737488351232) (h1 : (Lit.int .i64 size).wf = true) (h2 : (Lit.int .i64 seq).wf = true) (hm : more.size ≤ 140737488351232) (w : World) :
    Calls Try.prog 6 #[.string s, .int .i64 size, .int .i64 seq, .string more] w fun e w' => e = .returned (.bool true) ∧ Below w.heap.size w w' := by
  have ct := fun W => text_any s (by unfold maxLen; omega) W
  have hx := textT_size s
  generalize textT s = x at *
  have cp1 := fun W => pick_any size 16 h1 (by omega) W
  have cp2 := fun W => pick_any seq 65535 h2 (by omega) W
  have r1 := pickI_range size 16 (by omega)
  have r2 := pickI_range seq 65535 (by omega)
  generalize pickI size 16 = m1 at *
  generalize pickI seq 65535 = m2 at *
  obtain ⟨N, hN⟩ : ∃ N : Nat, 1 + m1 = N := ⟨(1 + m1).toNat, by omega⟩
  obtain ⟨Q, hQ⟩ : ∃ Q : Int, 1 + m2 = Q := ⟨_, rfl⟩
  have n1 : 1 ≤ N := by omega
  have n2 : N ≤ 16 := by omega
  have q1 : 1 ≤ Q := by omega
  have q2 : Q ≤ 65535 := by omega
  have cs := fun W => splitOk_any Q ⟨q1, q2⟩ x hx N ⟨n1, n2⟩ W
  obtain ⟨KN, hKN⟩ : ∃ KN, KN = countP x.size N := ⟨_, rfl⟩
  rw [← hKN] at cs
  have HKN := Lib.hid hKN
  have hy := cut100_size more
  have HSPB : Hid (splitB Q x.size (N : Int) = true) := Lib.hid ((splitB_iff _ _ _).2 ⟨⟨q1, q2⟩, hx, by omega, by omega⟩)
  have CS := Lib.hid cs; clear cs
  have CT := Lib.hid ct; clear ct
  have CP1 := Lib.hid cp1; clear cp1
  have CP2 := Lib.hid cp2; clear cp2
  have HNN := Lib.hid hN; have HQQ := Lib.hid hQ
  clear hKN hN hQ h1 h2 hs
  go_enter Try.func6, Try.ntmps6
  go_wp2_with fail; refine (awake_any _).mono ?_; rintro e w1 ⟨rfl, b1⟩
  have HB1 := Lib.hid b1; clear b1
  go_wp2_with fail; refine (CT.out _).mono ?_; rintro e w2 ⟨rfl, rfl⟩
  go_upto_region 3 with (fail)
  go_cut [11] (fun v wx => v = .string (cut100 more) ∧ w1 = wx)
  case first =>
    have HE := Lib.hid (cut100_min more)
    go_wp2_with fail
    go_meet
    exact ⟨by rw [HE.out], rfl⟩
  case rest =>
  obtain ⟨rfl, rfl⟩ := hcut
  generalize cut100 more = y at *
  clear hm
  have hN := HNN.out
  have hQ := HQQ.out
  go_wp2_with fail; refine (CP1.out _).mono ?_; rintro e w2 ⟨rfl, rfl⟩
  go_wp2_with fail; refine (CP2.out _).mono ?_; rintro e w2 ⟨rfl, rfl⟩
  go_wp2_with fail; ((with_reducible refine (CS.out _).mono ?_); rintro e w3 ⟨Al, cl, rfl, hps, b3⟩)
  have HB3 := Lib.hid (HB1.out.trans (b3.mono HB1.out.size)); clear b3
  have hKp : 1 ≤ KN := by rw [HKN.out]; exact countP_pos _ _ hx.1 n1
  have hKx : KN ≤ x.size := by rw [HKN.out]; exact countP_le _ _ hx.1 n1
  obtain ⟨ad, rfl, had, -⟩ := hps (by rw [splitL_length, ← HKN.out]; exact hKp)
  have HAT : Hid (∀ W k, k < KN → Below w3.heap.size w3 W → At4 W (ad.add (k * 4)) ⟨Q, k, KN, cutT x k N⟩) := Lib.hid (fun W k hk hb => by
    obtain ⟨ad', e, -, hc⟩ := hps.below hb (Nat.le_refl _) (by rw [splitL_length, ← HKN.out]; exact hKp)
    have h2 := hc k _ (splitL_at Q x N k (by rw [← HKN.out]; exact hk))
    injection e with e
    rw [e, HKN.out]; exact h2)
  have BC := Lib.hid (fun k (hk : k < KN) => back_calls (q := Q) (x := x) (n := N) (k := k) HSPB.out (by rw [← HKN.out]; exact hk) y hy)
  have DC := Lib.hid (dec_calls y hy)
  have CTF := Lib.hid (fun k (hk : k + 1 < KN) => cutT_full x (n := N) (k := k) n1 (by rw [← HKN.out]; exact hk))
  have HUP := Lib.hid (fun k => upK_size x N k)
  have HALL := Lib.hid (upK_all x N n1)
  have hquo : (((x.size : Int) + N - 1) / (N : Int)) = (KN : Int) := by
    rw [show (x.size : Int) + N - 1 = ((x.size + N - 1 : Nat) : Int) by omega, HKN.out]; rfl
  rw [← HKN.out] at HALL
  clear hps had HSPB
  clear hN hQ CP1 CP2 CS CT
  go_wp2_with fail
  go_loopw [15, 16] (fun al ix wr => ∃ k : Nat, k ≤ KN ∧ ix = .int .i64 k ∧ (∃ z, al = .string z ∧ z = upK x N k) ∧ Below w3.heap.size w3 wr) (fun _ ix _ => KN - (intOf ix).toNat)
  case atStart => exact ⟨0, by omega, rfl, ⟨_, rfl, (upK_zero x N).symm⟩, Below.refl _ _⟩
  case round =>
    obtain ⟨k, hk, rfl, ⟨z, rfl, hz⟩, hbl⟩ := hrel
    have HBL := Lib.hid hbl; clear hbl
    have hzs : z.size ≤ x.size := by rw [hz]; exact HUP.out k
    have HZ := Lib.hid hz; clear hz
    by_cases hlt : k < KN
    · obtain ⟨E, hE, cE, cD⟩ := BC.out k hlt
      obtain ⟨f0, f1, f2, f3⟩ := HAT.out _ k hlt HBL.out
      have hP : pieceP Q x N k = ⟨Q, k, KN, cutT x k N⟩ := by unfold pieceP; rw [← HKN.out]
      rw [hP] at cE cD
      have HUS := Lib.hid (upK_succ x N k)
      have hT : k + 1 < KN → (cutT x k N).size = N := CTF.out k
      have hT2 : (cutT x k N).size ≤ 16 := by rw [cutT_size]; omega
      have HAK := Lib.hid (fun W hb => HAT.out W k hlt hb)
      clear hP
      generalize cutT x k N = T at *
      have hkx : (k : Int) < KN := by omega
      have q1 : IntKind.i64.wrap ((k : Int) + 1) = (k : Int) + 1 := IntWalk.i64_in _ (by omega)
      simp only [pv] at cE cD
      go_wp2_with fail; ((with_reducible refine (cE _).mono ?_); rintro e w4 ⟨rfl, b4⟩)
      have HB4 := Lib.hid (HBL.out.trans (b4.mono HBL.out.size)); clear b4
      have hsz : E.size + y.size ≤ 121 := by omega
      have hsz2 : (E ++ y).size ≤ 121 := by rw [ByteArray.size_append]; exact hsz
      go_wp2_with fail; ((with_reducible refine (cD _).mono ?_); rintro e w5 ⟨rfl, b5⟩)
      have HB5 := Lib.hid (HB4.out.trans (b5.mono HB4.out.size)); clear b5
      clear cE cD f0 f1 f2 f3
      go_upto_region 12 with (fail)
      have hp := (PcAt.new w5 ⟨Q, k, KN, T⟩).cells
      have hb7 := HB5.out.trans ((Joins.below_alloc1 w5 (.cells (pcl ⟨Q, k, KN, T⟩) 23)).mono HB5.out.size)
      simp only [pcl] at hp hb7
      generalize w5.alloc (.cells #[.int .i64 Q, .int .i64 k, .int .i64 KN, .string T] 23) = W7 at *
      generalize w5.heap.size = b at *
      obtain ⟨p0, p1, p2, p3⟩ := hp
      obtain ⟨f0, f1, f2, f3⟩ := HAK.out _ hb7
      have HB7 := Lib.hid hb7; clear hb7
      have hEG := fun p q w => eqP_guard .neq p q ⟨Q, k, KN, T⟩ ⟨Q, k, KN, T⟩ w
      have hNE := fun w => neqP ⟨Q, k, KN, T⟩ ⟨Q, k, KN, T⟩ w
      rw [(sameP_iff _ _).2 rfl] at hNE
      simp only [pv] at hEG hNE
      by_cases hl1 : k + 1 < KN
      · have hTN := hT hl1
        have hTN' : (T.size : Int) = N := by omega
        have hd : ((k : Int) + 1 < KN) := by omega
        clear hT hl1 hTN
        go_quiet (fail)
        go_wp2_with fail
        go_roundw
        case rel => exact ⟨k + 1, by omega, by go_num, ⟨_, rfl, by rw [HUS.out, HZ.out]⟩, drew_on HB7.out _⟩
        case measure => simp [intOf]; omega
      · have hd : ¬ ((k : Int) + 1 < KN) := by omega
        clear hT hl1
        go_quiet (fail)
        go_wp2_with fail
        go_roundw
        case rel => exact ⟨k + 1, by omega, by go_num, ⟨_, rfl, by rw [HUS.out, HZ.out]⟩, drew_on HB7.out _⟩
        case measure => simp [intOf]; omega
    · have ek : k = KN := by omega
      subst ek
      have hzx : z = x := HZ.out.trans HALL.out
      subst hzx
      clear BC CTF HUP HALL HAT HZ hzs
      obtain ⟨M, R, E, cD, hE⟩ := DC.out
      obtain ⟨ms, ma, mo, mb⟩ := M
      simp only [pv] at cD hE
      have hz1 : (1 : Int) ≤ z.size := by omega
      have hz2 : (z.size : Int) ≤ 20 := by omega
      go_wp2_with fail; ((with_reducible refine (cD _).mono ?_); rintro e w4 ⟨rfl, b4⟩)
      have HB4 := Lib.hid (HBL.out.trans (b4.mono HBL.out.size)); clear b4
      have hp := (PcAt.new w4 ⟨ms, ma, mo, mb⟩).cells
      have hb7 := HB4.out.trans ((Joins.below_alloc1 w4 (.cells (pcl ⟨ms, ma, mo, mb⟩) 23)).mono HB4.out.size)
      simp only [pcl] at hp hb7
      have HB7 := Lib.hid hb7; clear hb7
      obtain ⟨p0, p1, p2, p3⟩ := hp
      rcases hE with hE | ⟨rfl, Z, hZR, hZs, cE⟩
      · go_wp2_with fail
        go_ret
        exact ⟨rfl, HB3.out.trans (HB7.out.mono HB3.out.size)⟩
      · go_wp2_with fail; ((with_reducible refine (cE _).mono ?_); rintro e w6 ⟨rfl, b6⟩)
        have HB6 := Lib.hid (HB7.out.trans (b6.mono HB7.out.size)); clear b6
        go_wp2_with fail
        go_ret
        exact ⟨rfl, HB3.out.trans (HB6.out.mono HB3.out.size)⟩

end Go.Proofs.Ytggeojjiongbbaa

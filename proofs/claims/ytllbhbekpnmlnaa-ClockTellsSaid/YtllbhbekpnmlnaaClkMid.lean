/-
  What clock.refused, Middle and Correct do.
-/
import Derived.Test.YtllbhbekpnmlnaaClkPut
namespace Go.Proofs.Ytllbhbekpnmlnaa
open Go.RowKit

def errE (e : Int) : Value := .int .i64 e
theorem all_take (l : List Int) (k : Nat) (x : Int) (h : l[k]? = some x) (ha : (l.take k).all devB = true) (hx : devB x = true) : (l.take (k + 1)).all devB = true := by
  obtain ⟨hk, e⟩ := List.getElem?_eq_some_iff.1 h
  rw [List.take_succ_eq_append_getElem hk, e, List.all_append, ha]
  simp [hx]
theorem not_all (l : List Int) (k : Nat) (x : Int) (h : l[k]? = some x) (hx : devB x = false) : l.all devB = false := by
  rw [← Bool.not_eq_true, List.all_eq_true]
  intro hh
  have := hh x (List.mem_of_getElem? h)
  rw [hx] at this
  cases this
theorem devB_in (x : Int) : inB (-1073741824) 1073741824 x = devB x := rfl
theorem dropB_in (d : Int) : inB 0 7 d = dropB d := rfl
theorem midE_drop {d : Int} {l : List Int} (h : dropB d = false) : midE d l = 1 := by unfold midE; rw [if_pos h]
theorem midE_dev {d : Int} {l : List Int} (h : l.all devB = false) : midE d l = 1 := by unfold midE; split <;> first | rfl | rw [if_pos h]
theorem midE_long {d : Int} {l : List Int} (h : dropB d = true) (ha : l.all devB = true) (h64 : 64 < l.length) : midE d l = 4 := by
  unfold midE
  rw [h, ha]
  simp [h64]
theorem midE_few {d : Int} {l : List Int} (h : dropB d = true) (ha : l.all devB = true) (h64 : l.length ≤ 64) (hs : (l.length : Int) ≤ 2 * d) : midE d l = 3 := by
  unfold midE
  rw [h, ha]
  simp [hs]
  omega

set_option maxRecDepth 100000 in
set_option maxHeartbeats 400000 in
theorem refused_any (d : Int) (A : Option Addr) (c B : Nat) (l : List Int) (w : World) (h : Row w B A l) (hl : l.length ≤ maxLen) :
    Calls Try.prog 26 #[.int .i64 d, .slice A l.length c] w fun e w' => e = .returned (.int .i64 (midE d l)) ∧ w = w' := by
  unfold maxLen at hl
  have c1 := fun W => within_any 0 7 d W
  rw [dropB_in] at c1
  cases hd : dropB d
  · rw [hd] at c1
    have HE := Lib.hid (midE_drop (l := l) hd)
    clear hd
    go_enter Try.func26, Try.ntmps26
    go_wp2_with fail; refine (c1 _).mono ?_; rintro e w1 ⟨rfl, rfl⟩
    go_wp2_with fail
    go_ret
    exact ⟨ret_i HE.out.symm, rfl⟩
  · rw [hd] at c1
    have HD := Lib.hid hd
    have hd7 := (dropB_iff d).1 hd
    clear hd
    go_enter Try.func26, Try.ntmps26
    go_wp2_with fail; refine (c1 _).mono ?_; rintro e w1 ⟨rfl, rfl⟩
    clear c1
    go_wp2_with fail
    go_loop [12] (fun i => ∃ k : Nat, k ≤ l.length ∧ i = .int .i64 k ∧ (l.take k).all devB = true) (fun i => l.length - (intOf i).toNat)
    case atStart => exact ⟨0, by omega, rfl, rfl⟩
    case round =>
      obtain ⟨k, hk, rfl, ha⟩ := hrel
      have HA := Lib.hid ha; clear ha
      by_cases hlt : k < l.length
      · obtain ⟨x, hx⟩ : ∃ x, l[k]? = some x := ⟨_, List.getElem?_eq_getElem hlt⟩
        obtain ⟨ad, rfl, hb, hc⟩ := h (by omega)
        have hck := hc k x hx
        have HX := Lib.hid hx
        have hkI : (k : Int) < (l.length : Int) := by omega
        have c2 := fun W => within_any (-1073741824) 1073741824 x W
        rw [devB_in] at c2
        clear hc hx
        cases hdx : devB x
        · rw [hdx] at c2
          have HE := Lib.hid (midE_dev (d := d) (not_all l k x HX.out hdx))
          clear hdx
          go_wp2_with fail; refine (c2 _).mono ?_; rintro e w1 ⟨rfl, rfl⟩
          go_wp2_with fail
          go_ret
          exact ⟨ret_i HE.out.symm, rfl⟩
        · rw [hdx] at c2
          have HT := Lib.hid (all_take l k x HX.out HA.out hdx)
          clear hdx
          go_wp2_with fail; refine (c2 _).mono ?_; rintro e w1 ⟨rfl, rfl⟩
          go_wp2_with fail
          go_round
          case rel => exact ⟨k + 1, by omega, by go_num, HT.out⟩
          case measure => simp [intOf]; omega
      · have ek : k = l.length := by omega
        subst ek
        have hall : l.all devB = true := by have := HA.out; rwa [List.take_length] at this
        have H4 := Lib.hid (midE_long HD.out hall)
        have H3 := Lib.hid (midE_few HD.out hall)
        have H0 := Lib.hid (fun a b => (midE_zero d l).2 ⟨HD.out, hall, a, b⟩)
        clear hall
        by_cases h64 : 64 < l.length
        · have h64I : (64 : Int) < (l.length : Int) := by omega
          go_wp2_with fail
          go_ret
          exact ⟨ret_i (H4.out h64).symm, rfl⟩
        · have h64I : ¬ (64 : Int) < (l.length : Int) := by omega
          by_cases hs : (l.length : Int) ≤ 2 * d
          · go_wp2_with fail
            go_ret
            exact ⟨ret_i (H3.out (by omega) hs).symm, rfl⟩
          · go_wp2_with fail
            go_ret
            exact ⟨ret_i (H0.out (by omega) (by omega)).symm, rfl⟩

theorem cut_row {w : World} {g m n : Nat} {L : List Int} (hg : g < w.heap.size) (h : ∀ (j : Nat) (x : Int), L[j]? = some x → w.cell? ⟨g, j, none⟩ = some (.int .i64 x)) : Row w w.heap.size (some ⟨g, m, none⟩) ((L.take n).drop m) := fun _ => by
  refine ⟨_, rfl, hg, fun j x hx => ?_⟩
  rw [show (⟨g, m, none⟩ : Addr).add j = ⟨g, m + j, none⟩ from by unfold Addr.add; split <;> simp_all]
  refine h _ _ ?_
  rw [List.getElem?_drop] at hx
  have hj : m + j < (L.take n).length := (List.getElem?_eq_some_iff.1 hx).1
  rw [List.length_take] at hj
  rwa [List.getElem?_take_of_lt (by omega)] at hx
theorem put_calls (B : Nat) (u : Value) (s : List Int) (x : Int) (w : World) (ho : Own w B u s) (hs : Rises s) (hl : s.length ≤ 64) (hB : B ≤ w.heap.size) :
    Calls Try.prog 27 #[u, .int .i64 x] w fun e w' => ∃ u', e = .returned u' ∧ Own w' B u' (insI x s) ∧ Below B w w' := put_any B u s x w ho hs hl hB

set_option maxRecDepth 100000 in
set_option maxHeartbeats 400000 in
theorem middle_any (d : Int) (A : Option Addr) (c : Nat) (l : List Int) (w : World) (h : Row w w.heap.size A l) (hl : l.length ≤ maxLen) :
    Calls Try.prog 16 #[.int .i64 d, .slice A l.length c] w fun e w' => e = .returned (.tuple #[.int .i64 (midV d l), .int .i64 (midE d l)]) ∧ Below w.heap.size w w' := by
  have c1 := Lib.hid (refused_any d A c w.heap.size l w h hl)
  unfold maxLen at hl
  by_cases he : midE d l = 0
  · obtain ⟨hd, hall, h64, hs⟩ := (midE_zero d l).1 he
    have hd7 := (dropB_iff d).1 hd
    obtain ⟨m, rfl⟩ : ∃ m : Nat, d = (m : Int) := ⟨d.toNat, by omega⟩
    have HV := Lib.hid (midV_ok rfl he)
    obtain ⟨le1, le2, le3⟩ := left_ends l m (by omega)
    have n1 := dev_nth hall (i := m) (by omega)
    have n2 := dev_nth hall (i := l.length - 1 - m) (by omega)
    have HL1 := Lib.hid le1
    have HL2 := Lib.hid le2
    have HL3 := Lib.hid le3
    have HE := Lib.hid he
    have c1' := c1.out
    rw [he] at c1'
    clear hd hall he le1 le2 le3 c1
    go_enter Try.func16, Try.ntmps16
    go_wp2_with fail; refine c1'.mono ?_; rintro e w1 ⟨rfl, rfl⟩
    clear c1'
    go_wp2_with fail
    have HO0 := Own.nil w w.heap.size
    go_loopw [7, 22] (fun u i wr => ∃ k : Nat, k ≤ l.length ∧ i = .int .i64 k ∧ Own wr w.heap.size u (sortI (l.take k)) ∧ Below w.heap.size w wr) (fun _ i _ => l.length - (intOf i).toNat)
    case atStart => exact ⟨0, by omega, rfl, HO0, Below.refl _ _⟩
    case round =>
      obtain ⟨k, hk, rfl, ho, hb⟩ := hrel
      have HO := Lib.hid ho; clear ho HO0
      have HB := Lib.hid hb; clear hb
      by_cases hlt : k < l.length
      · obtain ⟨x, hx⟩ : ∃ x, l[k]? = some x := ⟨_, List.getElem?_eq_getElem hlt⟩
        obtain ⟨ad, rfl, hb, hc⟩ := (h.below HB.out (Nat.le_refl _)) (by omega)
        have hck := hc k x hx
        have HT := Lib.hid (sortI_take l k x hx)
        have hkI : (k : Int) < (l.length : Int) := by omega
        have c2 := Lib.hid (put_calls w.heap.size _ (sortI (l.take k)) x wr HO.out (sortI_rises _) (by rw [sortI_length, List.length_take]; omega) HB.out.size)
        clear hc hx
        go_wp2_with fail; (with_reducible refine c2.out.mono ?_); rintro e w2 ⟨u', rfl, ho2, hb2⟩
        have HO2 := Lib.hid ho2; clear ho2 c2
        have HB2 := Lib.hid hb2; clear hb2
        go_wp2_with fail
        go_roundw
        case rel => exact ⟨k + 1, by omega, by go_num, by rw [HT.out]; exact HO2.out, HB.out.trans HB2.out⟩
        case measure => simp [intOf]; omega
      · have ek : k = l.length := by omega
        have ho := HO.out
        rw [ek, List.take_length] at ho
        obtain ⟨g, c2, e, hg1, hg2, hc2, hcell, hfz, -⟩ := ho.one (by rw [sortI_length]; omega)
        rw [sortI_length] at e hc2
        subst e
        have c3 := ends_any (some ⟨g, m, none⟩) (c2 - m) wr.heap.size _ wr (cut_row (m := m) (n := l.length - m) hg2 hcell) (Nat.le_refl _) (fun e => by have := HL1.out; rw [e] at this; simp at this; omega) (by rw [HL1.out]; unfold maxLen; omega)
        rw [HL1.out, HL2.out, HL3.out] at c3
        have C3 := Lib.hid c3
        clear c3 HL1 HL2 HL3 ho
        generalize nth l m = p at *
        generalize nth l (l.length - 1 - m) = q at *
        have C4 := Lib.hid (fun W => divide_any (p + q) 2 (by omega) (by omega) (by omega) W)
        go_wp2_with fail; (with_reducible refine C3.out.mono ?_); rintro e w3 ⟨rfl, b3⟩
        have HB3 := Lib.hid b3; clear b3
        go_wp2_with fail; (with_reducible refine (C4.out _).mono ?_); rintro e w4 ⟨rfl, b4⟩
        have HB4 := Lib.hid b4; clear b4
        go_wp2_with fail
        go_ret2
        exact ⟨ret_ii HV.out.symm HE.out.symm, (HB.out.trans (HB3.out.mono HB.out.size)).trans (HB4.out.mono (HB.out.trans (HB3.out.mono HB.out.size)).size)⟩
  · have HV := Lib.hid (midV_bad he)
    have hne : (midE d l != 0) = true := by simpa using he
    clear he
    generalize midE d l = E at *
    go_enter Try.func16, Try.ntmps16
    go_wp2_with fail; refine c1.out.mono ?_; rintro e w1 ⟨rfl, rfl⟩
    clear c1
    go_wp2_with fail
    go_ret2
    exact ⟨ret_ii HV.out.symm rfl, Below.refl _ _⟩

/-- An offset, put right. -/
def corrI (o d most : Int) (l : List Int) : Int := if midE d l = 0 ∧ 0 ≤ most then wrap64 (o + min (max (midV d l) (-most)) most) else o

set_option maxRecDepth 100000 in
set_option maxHeartbeats 400000 in
theorem correct_any (o d most : Int) (hb : -9223372036854775808 ≤ most ∧ most ≤ 9223372036854775807) (A : Option Addr) (c : Nat) (l : List Int) (w : World) (h : Row w w.heap.size A l) (hl : l.length ≤ maxLen) :
    Calls Try.prog 18 #[.int .i64 o, .int .i64 d, .int .i64 most, .slice A l.length c] w fun e w' => e = .returned (.int .i64 (corrI o d most l)) ∧ Below w.heap.size w w' := by
  have c1 := Lib.hid (middle_any d A c l w h hl)
  have HC : Hid (corrI o d most l = if midE d l = 0 ∧ 0 ≤ most then wrap64 (o + min (max (midV d l) (-most)) most) else o) := Lib.hid rfl
  unfold maxLen at hl
  by_cases he : midE d l = 0
  · by_cases hm : 0 ≤ most
    · rw [he] at c1
      rw [if_pos ⟨he, hm⟩] at HC
      clear he
      generalize midV d l = V at *
      go_enter Try.func18, Try.ntmps18
      go_wp2_with fail; refine c1.out.mono ?_; rintro e w1 ⟨rfl, b1⟩
      have HB := Lib.hid b1; clear b1 c1
      go_wp2_with fail
      all_goals
        go_ret
        refine ⟨ret_i ?_, HB.out⟩
        rw [HC.out]
        congr 1
        simp only [max_go] at *
        omega
    · rw [he] at c1
      rw [if_neg (fun e => hm e.2)] at HC
      clear he
      generalize midV d l = V at *
      go_enter Try.func18, Try.ntmps18
      go_wp2_with fail; refine c1.out.mono ?_; rintro e w1 ⟨rfl, b1⟩
      have HB := Lib.hid b1; clear b1 c1
      go_wp2_with fail
      go_ret
      exact ⟨ret_i HC.out.symm, HB.out⟩
  · have hne : (midE d l != 0) = true := by simpa using he
    rw [if_neg (fun e => he e.1)] at HC
    clear he
    generalize midE d l = E at *
    generalize midV d l = V at *
    go_enter Try.func18, Try.ntmps18
    go_wp2_with fail; refine c1.out.mono ?_; rintro e w1 ⟨rfl, b1⟩
    have HB := Lib.hid b1; clear b1 c1
    go_wp2_with fail
    go_ret
    exact ⟨ret_i HC.out.symm, HB.out⟩

end Go.Proofs.Ytllbhbekpnmlnaa

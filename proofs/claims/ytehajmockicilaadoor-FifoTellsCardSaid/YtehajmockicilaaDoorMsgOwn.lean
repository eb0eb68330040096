/-
  What the program's own Right and Less of messages do.
-/
import Derived.Test.YtehajmockicilaaDoorMsgLess
namespace Go.Proofs.YtehajmockicilaaDoor
open Go.RowKit

theorem all_take (l : List Int) (k : Nat) (x : Int) (hx : l[k]? = some x) : (l.take (k + 1)).all smallB = ((l.take k).all smallB && smallB x) := by
  obtain ⟨hk, he⟩ := List.getElem?_eq_some_iff.1 hx
  rw [List.take_succ_eq_append_getElem hk, he, List.all_append]
  simp
set_option maxRecDepth 100000 in
theorem all_miss (l : List Int) (k : Nat) (x : Int) (hx : l[k]? = some x) (h : smallB x = false) : l.all smallB = false := by
  rw [← Bool.not_eq_true, List.all_eq_true]
  intro ha
  rw [ha x (List.mem_of_getElem? hx)] at h
  cases h

set_option maxRecDepth 100000 in
set_option maxHeartbeats 400000 in
theorem counted_any (g : Nat) (l : List Int) (w : World) (hl : l.length ≤ 1000) (h : ∀ j x, l[j]? = some x → w.cell? ⟨g, j, none⟩ = some (.int .i64 x)) :
    Calls Tryd.prog 77 #[.slice (some ⟨g, 0, none⟩) l.length l.length] w fun e w' => e = .returned (.bool (l.all smallB)) ∧ w = w' := by
  obtain ⟨R, hR⟩ : ∃ R, R = l.all smallB := ⟨_, rfl⟩
  rw [← hR]
  have HR := Lib.hid hR; clear hR
  have HC := Lib.hid h; clear h
  go_enter Tryd.func77, Tryd.ntmps77
  go_wp2
  go_loop [4, 7] (fun v i => ∃ k : Nat, k ≤ l.length ∧ i = .int .i64 k ∧ (l.take k).all smallB = true) (fun _ i => l.length - (intOf i).toNat)
  case atStart => exact ⟨0, by omega, rfl, rfl⟩
  case round =>
    obtain ⟨k, hk, rfl, hal⟩ := hrel
    have HAL := Lib.hid hal; clear hal
    by_cases hlt : k < l.length
    · obtain ⟨x, hx⟩ : ∃ x, l[k]? = some x := ⟨_, List.getElem?_eq_getElem hlt⟩
      have hck := HC.out k x hx
      have HT := Lib.hid (all_take l k x hx)
      have HM := Lib.hid (all_miss l k x hx)
      clear hx
      by_cases k0 : x < 1
      · have HS := Lib.hid (show smallB x = false by rw [← Bool.not_eq_true, smallB_iff]; omega)
        go_wp2
        go_ret
        exact ⟨ret_b (by rw [HR.out, HM.out HS.out]), rfl⟩
      · by_cases k1 : 65535 < x
        · have HS := Lib.hid (show smallB x = false by rw [← Bool.not_eq_true, smallB_iff]; omega)
          go_wp2
          go_ret
          exact ⟨ret_b (by rw [HR.out, HM.out HS.out]), rfl⟩
        · have HS := Lib.hid (show smallB x = true by rw [smallB_iff]; omega)
          go_wp2
          go_round
          case rel => exact ⟨k + 1, by omega, by go_num, by rw [HT.out, HAL.out, HS.out]; rfl⟩
          case measure => simp [intOf]; omega
    · have ek : k = l.length := by omega
      subst ek
      go_wp2
      go_ret
      have hh := HAL.out
      rw [List.take_length] at hh
      exact ⟨ret_b (by rw [HR.out, hh]), rfl⟩

set_option maxRecDepth 100000 in
theorem counted_three (a b c : Int) (w : World) :
    Calls Tryd.prog 77 #[.slice (some ⟨w.heap.size, 0, none⟩) 3 3] (w.alloc (.cells #[.int .i64 a, .int .i64 b, .int .i64 c] 3)) fun e w' => e = .returned (.bool (smallB a && (smallB b && smallB c))) ∧ w.alloc (.cells #[.int .i64 a, .int .i64 b, .int .i64 c] 3) = w' := by
  have h := counted_any w.heap.size [a, b, c] (w.alloc (.cells #[.int .i64 a, .int .i64 b, .int .i64 c] 3)) (by simp) (fun j x hx => by
    have hj : j < 3 := (List.getElem?_eq_some_iff.1 hx).1
    rcases (show j = 0 ∨ j = 1 ∨ j = 2 by omega) with rfl | rfl | rfl
    · have e : x = a := by simpa using hx.symm
      subst e; simp [go_sem]
    · have e : x = b := by simpa using hx.symm
      subst e; simp [go_sem]
    · have e : x = c := by simpa using hx.symm
      subst e; simp [go_sem])
  simpa using h

set_option maxRecDepth 100000 in
set_option maxHeartbeats 1000000 in
theorem rightM_any (m : Msg) (hd : m.data.size ≤ maxLen) (w : World) (L : Laid w) :
    Calls Tryd.prog 54 #[mv m] w fun e w' => e = .returned (.bool (rightM m)) ∧ Below w.heap.size w w' := by
  have HM : Hid (rightM m = (rightI m.ext m.n && (senderB m.sender && ((smallB m.inc && (smallB m.seq && smallB m.number)) && dataB m.data)))) := Lib.hid (by unfold rightM; simp [Bool.and_assoc])
  have hnew := Holds.new w m
  have hL := L.alloc (.cells (mc m) 26)
  obtain ⟨b, n, se, ic, sq, nu, d⟩ := m
  unfold maxLen at hd
  simp only [mv, mc] at *
  have cr := fun w L => right_any b n w L
  have cc := fun w => counted_three ic sq nu w
  generalize rightM _ = R at *
  generalize rightI b n = r at *
  generalize (smallB ic && (smallB sq && smallB nu)) = s at *
  go_enter Tryd.func54, Tryd.ntmps54
  go_wp2_with fail; refine (cr _ hL).mono ?_; rintro e w1 ⟨rfl, hb⟩
  obtain ⟨_, h0, h1, h2, h3, h4, h5, h6⟩ := hnew.below hb
  have HN := Lib.hid (hnew.below hb)
  have HB := Lib.hid ((Joins.below_alloc1 w _).trans (hb.mono (by simp)))
  clear hb hnew hL
  cases r
  · go_wp2_with fail
    go_ret
    exact ⟨ret_b (HM.out.trans (by simp)).symm, HB.out⟩
  · by_cases k0 : 0 ≤ se
    · by_cases k1 : se < 16
      · have hs : senderB se = true := (senderB_iff se).2 ⟨k0, by omega⟩
        rw [hs] at HM
        clear hs
        have HN2 := Lib.hid (HN.out.old (.cells #[.int .i64 ic, .int .i64 sq, .int .i64 nu] 3))
        have HB2 := Lib.hid (HB.out.trans ((Joins.below_alloc1 w1 (.cells #[.int .i64 ic, .int .i64 sq, .int .i64 nu] 3)).mono (HB.out.size)))
        cases s
        · go_wp2_with fail; refine (cc _).mono ?_; rintro e w2 ⟨rfl, rfl⟩
          go_wp2_with fail
          go_ret
          exact ⟨ret_b (HM.out.trans (by simp)).symm, HB2.out⟩
        · by_cases k2 : (d.size : Int) ≤ 8
          · have hz : dataB d = true := (dataB_iff d).2 (by omega)
            rw [hz] at HM
            clear hz
            obtain ⟨_, g0, g1, g2, g3, g4, g5, g6⟩ := HN2.out
            go_wp2_with fail; refine (cc _).mono ?_; rintro e w2 ⟨rfl, rfl⟩
            go_wp2_with fail
            go_ret
            exact ⟨ret_b (HM.out.trans (by simp)).symm, HB2.out⟩
          · have hz : dataB d = false := by rw [← Bool.not_eq_true, dataB_iff]; omega
            rw [hz] at HM
            clear hz
            obtain ⟨_, g0, g1, g2, g3, g4, g5, g6⟩ := HN2.out
            go_wp2_with fail; refine (cc _).mono ?_; rintro e w2 ⟨rfl, rfl⟩
            go_wp2_with fail
            go_ret
            exact ⟨ret_b (HM.out.trans (by simp; omega)).symm, HB2.out⟩
      · have hs : senderB se = false := by rw [← Bool.not_eq_true, senderB_iff]; omega
        rw [hs] at HM
        clear hs
        go_wp2_with fail
        go_ret
        exact ⟨ret_b (HM.out.trans (by simp)).symm, HB.out⟩
    · have hs : senderB se = false := by rw [← Bool.not_eq_true, senderB_iff]; omega
      rw [hs] at HM
      clear hs
      go_wp2_with fail
      go_ret
      exact ⟨ret_b (HM.out.trans (by simp)).symm, HB.out⟩

set_option maxRecDepth 100000 in
set_option maxHeartbeats 1000000 in
theorem lessM_any (a b : Msg) (w : World) (L : Laid w) :
    Calls Tryd.prog 66 #[mv a, mv b] w fun e w' => e = .returned (.bool (lessM a b)) ∧ Below w.heap.size w w' := by
  have HM : Hid (lessM a b = if sameId a b = true then (if a.sender = b.sender then decide (a.number < b.number) else decide (a.sender < b.sender)) else lessI a.ext a.n b.ext b.n) := Lib.hid rfl
  have hA := (Holds.new w a).old (.cells (mc b) 26)
  have hB := Holds.new (w.alloc (.cells (mc a) 26)) b
  have hW := Joins.below_alloc2 w (.cells (mc a) 26) (.cells (mc b) 26)
  have hL := (L.alloc (.cells (mc a) 26)).alloc (.cells (mc b) 26)
  have hEG := fun x y w => eq_guard .neq x y a.ext b.ext a.n b.n w
  have hNE := neq_same a b
  have hNO := neq_other a b
  have cl := fun w L => less_any a.ext a.n b.ext b.n w L
  generalize hS : sameId a b = S at *
  clear hS
  generalize lessM a b = R at *
  generalize lessI a.ext a.n b.ext b.n = K at *
  obtain ⟨b1, n1, se1, ic1, sq1, nu1, d1⟩ := a
  obtain ⟨b2, n2, se2, ic2, sq2, nu2, d2⟩ := b
  simp only [mv, mc] at *
  obtain ⟨_, x0, x1, x2, x3, x4, x5, x6⟩ := hA
  obtain ⟨_, y0, y1, y2, y3, y4, y5, y6⟩ := hB
  rw [World.size_alloc] at y0 y1 y2 y5
  go_enter Tryd.func66, Tryd.ntmps66
  cases S
  · have hne := hNO rfl
    clear hNE hNO
    have HW := Lib.hid hW; clear hW
    go_wp2_with fail; refine (cl _ hL).mono ?_; rintro e w1 ⟨rfl, hb⟩
    go_wp2_with fail
    go_ret
    exact ⟨ret_b (HM.out.trans (by simp)).symm, HW.out.trans (hb.mono (by simp; omega))⟩
  · have hne := hNE rfl
    clear hNE hNO hL
    have HW := Lib.hid hW; clear hW
    by_cases hs : se1 = se2
    · have hs2 : ((se1 : Int) != se2) = false := by simpa using hs
      have HS := Lib.hid hs; clear hs
      go_wp2_with fail
      go_ret
      exact ⟨ret_b (HM.out.trans (by simp [HS.out])).symm, HW.out⟩
    · have hs2 : ((se1 : Int) != se2) = true := by simpa using hs
      have HS := Lib.hid hs; clear hs
      go_wp2_with fail
      go_ret
      exact ⟨ret_b (HM.out.trans (by simp [HS.out])).symm, HW.out⟩

end Go.Proofs.YtehajmockicilaaDoor

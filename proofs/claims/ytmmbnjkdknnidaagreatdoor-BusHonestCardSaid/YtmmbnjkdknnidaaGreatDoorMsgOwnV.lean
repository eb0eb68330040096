/-
  What the program's own Right and Less of messages do.
-/
import Derived.Test.YtmmbnjkdknnidaaGreatDoorIdentEqV
import Derived.Test.YtmmbnjkdknnidaaGreatDoorIdentPsV
set_option maxHeartbeats 1000000
set_option maxRecDepth 100000
namespace Go.Proofs.YtmmbnjkdknnidaaGreatDoor
open Lib (hid)
open Go.RowKit
structure Msg where
 ext : Bool
 n : Int
 sender : Int
 inc : Int
 seq : Int
 number : Int
 data : ByteArray
abbrev mv (m : Msg) : Value := .agg #[.bool m.ext, .int .i64 m.n, .int .i64 m.sender, .int .i64 m.inc, .int .i64 m.seq, .int .i64 m.number, .string m.data]
abbrev mc (m : Msg) : Array Value := #[.bool m.ext, .int .i64 m.n, .int .i64 m.sender, .int .i64 m.inc, .int .i64 m.seq, .int .i64 m.number, .string m.data]
def zeroM : Msg := ⟨false, 0, 0, 0, 0, 0, ⟨#[]⟩⟩
def Holds (w : World) (B : Nat) (m : Msg) : Prop :=
 B < w.heap.size ∧ w.cell? ⟨B, 0, none⟩ = some (.bool m.ext) ∧ w.cell? ⟨B, 1, none⟩ = some (.int .i64 m.n) ∧ w.cell? ⟨B, 2, none⟩ = some (.int .i64 m.sender) ∧
 w.cell? ⟨B, 3, none⟩ = some (.int .i64 m.inc) ∧ w.cell? ⟨B, 4, none⟩ = some (.int .i64 m.seq) ∧ w.cell? ⟨B, 5, none⟩ = some (.int .i64 m.number) ∧ w.cell? ⟨B, 6, none⟩ = some (.string m.data)
theorem Holds.new (w : World) (m : Msg) : Holds (w.alloc (.cells (mc m) 109)) w.heap.size m := by
 refine ⟨by simp, ?_, ?_, ?_, ?_, ?_, ?_, ?_⟩ <;> simp [go_sem]
theorem Holds.below {w w' : World} {B : Nat} {m : Msg} (h : Holds w B m) (hb : Below w.heap.size w w') : Holds w' B m := by
 obtain ⟨hB, h0, h1, h2, h3, h4, h5, h6⟩ := h
 exact ⟨Nat.lt_of_lt_of_le hB hb.size, (hb.cell (p := ⟨B, 0, none⟩) hB).trans h0, (hb.cell (p := ⟨B, 1, none⟩) hB).trans h1, (hb.cell (p := ⟨B, 2, none⟩) hB).trans h2, (hb.cell (p := ⟨B, 3, none⟩) hB).trans h3, (hb.cell (p := ⟨B, 4, none⟩) hB).trans h4, (hb.cell (p := ⟨B, 5, none⟩) hB).trans h5, (hb.cell (p := ⟨B, 6, none⟩) hB).trans h6⟩
theorem Holds.old {w : World} {B : Nat} {m : Msg} (h : Holds w B m) (o : Obj) : Holds (w.alloc o) B m := h.below (Joins.below_alloc1 w o)
def Seven (w : World) (g : Nat) : Prop := ∃ Z : Array Value, w.heap[g]? = some (.cells Z 109 (0, 0)) ∧ Z.size = 7
theorem Seven.new (w : World) (m : Msg) : Seven (w.alloc (.cells (mc m) 109)) w.heap.size := ⟨_, heap_alloc_new w _, rfl⟩
theorem Seven.below {w w' : World} {g : Nat} (h : Seven w g) (hb : Below w.heap.size w w') : Seven w' g := by
 obtain ⟨Z, h1, h2⟩ := h
 exact ⟨Z, (hb.block g (Array.getElem?_eq_some_iff.1 h1).1).trans h1, h2⟩
theorem ret_i {a b : Int} (h : a = b) : Ending.returned (.int .i64 a) = .returned (.int .i64 b) := by rw [h]
theorem ret_b {a b : Bool} (h : a = b) : Ending.returned (.bool a) = .returned (.bool b) := by rw [h]
def smallB (n : Int) : Bool := decide (1 ≤ n) && decide (n ≤ 65535)
def senderB (n : Int) : Bool := decide (0 ≤ n) && decide (n ≤ 15)
def dataB (d : ByteArray) : Bool := decide (d.size ≤ 8)
def rightM (m : Msg) : Bool := rightI m.ext m.n && (senderB m.sender && (smallB m.inc && (smallB m.seq && (smallB m.number && dataB m.data))))
theorem smallB_iff (n : Int) : smallB n = true ↔ 1 ≤ n ∧ n ≤ 65535 := by unfold smallB; simp
theorem senderB_iff (n : Int) : senderB n = true ↔ 0 ≤ n ∧ n ≤ 15 := by unfold senderB; simp
theorem dataB_iff (d : ByteArray) : dataB d = true ↔ d.size ≤ 8 := by unfold dataB; simp
theorem rightM_iff (m : Msg) : rightM m = true ↔ rightI m.ext m.n = true ∧ (0 ≤ m.sender ∧ m.sender ≤ 15) ∧ (1 ≤ m.inc ∧ m.inc ≤ 65535) ∧ (1 ≤ m.seq ∧ m.seq ≤ 65535) ∧ (1 ≤ m.number ∧ m.number ≤ 65535) ∧ m.data.size ≤ 8 := by
 unfold rightM
 simp only [Bool.and_eq_true, senderB_iff, smallB_iff, dataB_iff]
def sameId (a b : Msg) : Bool := a.ext == b.ext && a.n == b.n
def lessM (a b : Msg) : Bool := if sameId a b = true then (if a.sender = b.sender then decide (a.number < b.number) else decide (a.sender < b.sender)) else lessI a.ext a.n b.ext b.n
theorem neq_same (a b : Msg) (h : sameId a b = true) (w : World) : (binOp .neq 107 (.agg #[.bool a.ext, .int .i64 a.n]) (.agg #[.bool b.ext, .int .i64 b.n])).run Tryz.prog w = .ok (.bool false) w := by
 rw [neq_agg]; unfold sameId at h; rw [h]; rfl
theorem neq_other (a b : Msg) (h : sameId a b = false) (w : World) : (binOp .neq 107 (.agg #[.bool a.ext, .int .i64 a.n]) (.agg #[.bool b.ext, .int .i64 b.n])).run Tryz.prog w = .ok (.bool true) w := by
 rw [neq_agg]; unfold sameId at h; rw [h]; rfl
theorem refLessM_any (a b : Msg) (w : World) :
  Calls Tryz.prog 101 #[mv a, mv b] w fun e w' => e = .returned (.bool (lessM a b)) ∧ Below w.heap.size w w' := by
 have HM : Hid (lessM a b = if sameId a b = true then (if a.sender = b.sender then decide (a.number < b.number) else decide (a.sender < b.sender)) else lessI a.ext a.n b.ext b.n) := hid rfl
 have hA := (Holds.new w a).old (.cells (mc b) 109)
 have hB := Holds.new (w.alloc (.cells (mc a) 109)) b
 have hW := Joins.below_alloc2 w (.cells (mc a) 109) (.cells (mc b) 109)
 have hEG := fun x y w => eq_guard .neq x y a.ext b.ext a.n b.n w
 have hNE := neq_same a b
 have hNO := neq_other a b
 have cl := fun w => refLess_any a.ext a.n b.ext b.n w
 generalize hS : sameId a b = S at *
 clear hS
 generalize lessM a b = R at *
 generalize lessI a.ext a.n b.ext b.n = L at *
 obtain ⟨b1, n1, se1, ic1, sq1, nu1, d1⟩ := a
 obtain ⟨b2, n2, se2, ic2, sq2, nu2, d2⟩ := b
 simp only [mv, mc] at *
 obtain ⟨_, x0, x1, x2, x3, x4, x5, x6⟩ := hA
 obtain ⟨_, y0, y1, y2, y3, y4, y5, y6⟩ := hB
 rw [World.size_alloc] at y0 y1 y2 y5
 go_enter Tryz.func101, Tryz.ntmps101
 cases S
 ·have hne := hNO rfl
  clear hNE hNO
  have HW := hid hW; clear hW
  go_wp2_with fail; refine (cl _).mono ?_; rintro e w1 ⟨rfl, hb⟩
  go_wp2_with fail
  go_ret
  exact ⟨ret_b (HM.out.trans (by simp)).symm, HW.out.trans (hb.mono (by simp; omega))⟩
 ·have hne := hNE rfl
  clear hNE hNO
  have HW := hid hW; clear hW
  by_cases hs : se1 = se2
  ·have hs2 : ((se1 : Int) != se2) = false := by simpa using hs
   have HS := hid hs; clear hs
   go_wp2_with fail
   go_ret
   exact ⟨ret_b (HM.out.trans (by simp [HS.out])).symm, HW.out⟩
  ·have hs2 : ((se1 : Int) != se2) = true := by simpa using hs
   have HS := hid hs; clear hs
   go_wp2_with fail
   go_ret
   exact ⟨ret_b (HM.out.trans (by simp [HS.out])).symm, HW.out⟩
theorem all_take (l : List Int) (k : Nat) (x : Int) (hx : l[k]? = some x) : (l.take (k + 1)).all smallB = ((l.take k).all smallB && smallB x) := by
 obtain ⟨hk, he⟩ := List.getElem?_eq_some_iff.1 hx
 rw [List.take_succ_eq_append_getElem hk, he, List.all_append]
 simp
theorem all_miss (l : List Int) (k : Nat) (x : Int) (hx : l[k]? = some x) (h : smallB x = false) : l.all smallB = false := by
 rw [← Bool.not_eq_true, List.all_eq_true]
 intro ha
 rw [ha x (List.mem_of_getElem? hx)] at h
 cases h
theorem counted_any (g : Nat) (l : List Int) (w : World) (hl : l.length ≤ 1000) (h : ∀ j x, l[j]? = some x → w.cell? ⟨g, j, none⟩ = some (.int .i64 x)) :
  Calls Tryz.prog 153 #[.slice (some ⟨g, 0, none⟩) l.length l.length] w fun e w' => e = .returned (.bool (l.all smallB)) ∧ w = w' := by
 obtain ⟨R, hR⟩ : ∃ R, R = l.all smallB := ⟨_, rfl⟩
 rw [← hR]
 have HR := hid hR; clear hR
 have HC := hid h; clear h
 go_enter Tryz.func153, Tryz.ntmps153
 go_wp2
 go_loop [4, 7] (fun v i => ∃ k : Nat, k ≤ l.length ∧ i = .int .i64 k ∧ (l.take k).all smallB = true) (fun _ i => l.length - (intOf i).toNat)
 case atStart => exact ⟨0, by omega, rfl, rfl⟩
 case round =>
  obtain ⟨k, hk, rfl, hal⟩ := hrel
  have HAL := hid hal; clear hal
  by_cases hlt : k < l.length
  ·obtain ⟨x, hx⟩ : ∃ x, l[k]? = some x := ⟨_, List.getElem?_eq_getElem hlt⟩
   have hck := HC.out k x hx
   have HT := hid (all_take l k x hx)
   have HM := hid (all_miss l k x hx)
   clear hx
   by_cases k0 : x < 1
   ·have HS := hid (show smallB x = false by rw [← Bool.not_eq_true, smallB_iff]; omega)
    go_wp2
    go_ret
    exact ⟨ret_b (by rw [HR.out, HM.out HS.out]), rfl⟩
   ·by_cases k1 : 65535 < x
    ·have HS := hid (show smallB x = false by rw [← Bool.not_eq_true, smallB_iff]; omega)
     go_wp2
     go_ret
     exact ⟨ret_b (by rw [HR.out, HM.out HS.out]), rfl⟩
    ·have HS := hid (show smallB x = true by rw [smallB_iff]; omega)
     go_wp2
     go_round
     case rel => exact ⟨k + 1, by omega, by go_num, by rw [HT.out, HAL.out, HS.out]; rfl⟩
     case measure => simp [intOf]; omega
  ·have ek : k = l.length := by omega
   subst ek
   go_wp2
   go_ret
   have hh := HAL.out
   rw [List.take_length] at hh
   exact ⟨ret_b (by rw [HR.out, hh]), rfl⟩
theorem counted_three (a b c : Int) (w : World) :
  Calls Tryz.prog 153 #[.slice (some ⟨w.heap.size, 0, none⟩) 3 3] (w.alloc (.cells #[.int .i64 a, .int .i64 b, .int .i64 c] 3)) fun e w' => e = .returned (.bool (smallB a && (smallB b && smallB c))) ∧ w.alloc (.cells #[.int .i64 a, .int .i64 b, .int .i64 c] 3) = w' := by
 have h := counted_any w.heap.size [a, b, c] (w.alloc (.cells #[.int .i64 a, .int .i64 b, .int .i64 c] 3)) (by simp) (fun j x hx => by
  have hj : j < 3 := (List.getElem?_eq_some_iff.1 hx).1
  rcases (show j = 0 ∨ j = 1 ∨ j = 2 by omega) with rfl | rfl | rfl
  ·have e : x = a := by simpa using hx.symm
   subst e; simp [go_sem]
  ·have e : x = b := by simpa using hx.symm
   subst e; simp [go_sem]
  ·have e : x = c := by simpa using hx.symm
   subst e; simp [go_sem])
 simpa using h
theorem rightM_any (m : Msg) (hd : m.data.size ≤ maxLen) (w : World) (L : Laid w) :
  Calls Tryz.prog 128 #[mv m] w fun e w' => e = .returned (.bool (rightM m)) ∧ Below w.heap.size w w' := by
 have HM : Hid (rightM m = (rightI m.ext m.n && (senderB m.sender && ((smallB m.inc && (smallB m.seq && smallB m.number)) && dataB m.data)))) := hid (by unfold rightM; simp [Bool.and_assoc])
 have hnew := Holds.new w m
 have hL := L.alloc (.cells (mc m) 109)
 obtain ⟨b, n, se, ic, sq, nu, d⟩ := m
 unfold maxLen at hd
 simp only [mv, mc] at *
 have cr := fun w L => right_any b n w L
 have cc := fun w => counted_three ic sq nu w
 generalize rightM _ = R at *
 generalize rightI b n = r at *
 generalize (smallB ic && (smallB sq && smallB nu)) = s at *
 go_enter Tryz.func128, Tryz.ntmps128
 go_wp2_with fail; refine (cr _ hL).mono ?_; rintro e w1 ⟨rfl, hb⟩
 obtain ⟨_, h0, h1, h2, h3, h4, h5, h6⟩ := hnew.below hb
 have HN := hid (hnew.below hb)
 have HB := hid ((Joins.below_alloc1 w _).trans (hb.mono (by simp)))
 clear hb hnew hL
 cases r
 ·go_wp2_with fail
  go_ret
  exact ⟨ret_b (HM.out.trans (by simp)).symm, HB.out⟩
 ·by_cases k0 : 0 ≤ se
  ·by_cases k1 : se < 16
   ·have hs : senderB se = true := (senderB_iff se).2 ⟨k0, by omega⟩
    rw [hs] at HM
    clear hs
    have HN2 := hid (HN.out.old (.cells #[.int .i64 ic, .int .i64 sq, .int .i64 nu] 3))
    have HB2 := hid (HB.out.trans ((Joins.below_alloc1 w1 (.cells #[.int .i64 ic, .int .i64 sq, .int .i64 nu] 3)).mono (HB.out.size)))
    cases s
    ·go_wp2_with fail; refine (cc _).mono ?_; rintro e w2 ⟨rfl, rfl⟩
     go_wp2_with fail
     go_ret
     exact ⟨ret_b (HM.out.trans (by simp)).symm, HB2.out⟩
    ·by_cases k2 : (d.size : Int) ≤ 8
     ·have hz : dataB d = true := (dataB_iff d).2 (by omega)
      rw [hz] at HM
      clear hz
      obtain ⟨_, g0, g1, g2, g3, g4, g5, g6⟩ := HN2.out
      go_wp2_with fail; refine (cc _).mono ?_; rintro e w2 ⟨rfl, rfl⟩
      go_wp2_with fail
      go_ret
      exact ⟨ret_b (HM.out.trans (by simp)).symm, HB2.out⟩
     ·have hz : dataB d = false := by rw [← Bool.not_eq_true, dataB_iff]; omega
      rw [hz] at HM
      clear hz
      obtain ⟨_, g0, g1, g2, g3, g4, g5, g6⟩ := HN2.out
      go_wp2_with fail; refine (cc _).mono ?_; rintro e w2 ⟨rfl, rfl⟩
      go_wp2_with fail
      go_ret
      exact ⟨ret_b (HM.out.trans (by simp; omega)).symm, HB2.out⟩
   ·have hs : senderB se = false := by rw [← Bool.not_eq_true, senderB_iff]; omega
    rw [hs] at HM
    clear hs
    go_wp2_with fail
    go_ret
    exact ⟨ret_b (HM.out.trans (by simp)).symm, HB.out⟩
  ·have hs : senderB se = false := by rw [← Bool.not_eq_true, senderB_iff]; omega
   rw [hs] at HM
   clear hs
   go_wp2_with fail
   go_ret
   exact ⟨ret_b (HM.out.trans (by simp)).symm, HB.out⟩
theorem lessM_any (a b : Msg) (w : World) (L : Laid w) :
  Calls Tryz.prog 131 #[mv a, mv b] w fun e w' => e = .returned (.bool (lessM a b)) ∧ Below w.heap.size w w' := by
 have HM : Hid (lessM a b = if sameId a b = true then (if a.sender = b.sender then decide (a.number < b.number) else decide (a.sender < b.sender)) else lessI a.ext a.n b.ext b.n) := hid rfl
 have hA := (Holds.new w a).old (.cells (mc b) 109)
 have hB := Holds.new (w.alloc (.cells (mc a) 109)) b
 have hW := Joins.below_alloc2 w (.cells (mc a) 109) (.cells (mc b) 109)
 have hL := (L.alloc (.cells (mc a) 109)).alloc (.cells (mc b) 109)
 have hEG := fun x y w => eq_guard .neq x y a.ext b.ext a.n b.n w
 have hNE := neq_same a b
 have hNO := neq_other a b
 have cl := fun w L => less_any a.ext a.n b.ext b.n w L
 generalize hS : sameId a b = S at *
 clear hS
 generalize lessM a b = R at *
 generalize lessI a.ext a.n b.ext b.n = K at *
 obtain ⟨b1, n1, se1, ic1, sq1, nu1, d1⟩ := a
 obtain ⟨b2, n2, se2, ic2, sq2, nu2, d2⟩ := b
 simp only [mv, mc] at *
 obtain ⟨_, x0, x1, x2, x3, x4, x5, x6⟩ := hA
 obtain ⟨_, y0, y1, y2, y3, y4, y5, y6⟩ := hB
 rw [World.size_alloc] at y0 y1 y2 y5
 go_enter Tryz.func131, Tryz.ntmps131
 cases S
 ·have hne := hNO rfl
  clear hNE hNO
  have HW := hid hW; clear hW
  go_wp2_with fail; refine (cl _ hL).mono ?_; rintro e w1 ⟨rfl, hb⟩
  go_wp2_with fail
  go_ret
  exact ⟨ret_b (HM.out.trans (by simp)).symm, HW.out.trans (hb.mono (by simp; omega))⟩
 ·have hne := hNE rfl
  clear hNE hNO hL
  have HW := hid hW; clear hW
  by_cases hs : se1 = se2
  ·have hs2 : ((se1 : Int) != se2) = false := by simpa using hs
   have HS := hid hs; clear hs
   go_wp2_with fail
   go_ret
   exact ⟨ret_b (HM.out.trans (by simp [HS.out])).symm, HW.out⟩
  ·have hs2 : ((se1 : Int) != se2) = true := by simpa using hs
   have HS := hid hs; clear hs
   go_wp2_with fail
   go_ret
   exact ⟨ret_b (HM.out.trans (by simp [HS.out])).symm, HW.out⟩
end Go.Proofs.YtmmbnjkdknnidaaGreatDoor

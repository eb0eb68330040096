/-
  Where the first one stands that is meant: the program's place, by each of its closures; has.
-/
import Derived.Test.YtehajmockicilaaDoorTxqBase
namespace Go.Proofs.YtehajmockicilaaDoor
open Go Go.RowKit

theorem find_stop {p : Msg → Bool} {l : List Msg} {k : Nat} {m : Msg} (h : ∀ j x, j < k → l[j]? = some x → p x = false) (hm : l[k]? = some m) (hp : p m = true) : l.findIdx p = k := by
  obtain ⟨hk, e⟩ := List.getElem?_eq_some_iff.1 hm
  rw [List.findIdx_eq hk]
  exact ⟨by rw [e]; exact hp, fun j hj => by
    have := h j l[j] hj (List.getElem?_eq_getElem (by omega))
    exact this⟩
theorem find_none {p : Msg → Bool} {l : List Msg} (h : ∀ j x, j < l.length → l[j]? = some x → p x = false) : l.findIdx p = l.length := by
  rw [List.findIdx_eq_length]
  intro x hx
  obtain ⟨j, hj, e⟩ := List.getElem_of_mem hx
  exact h j x hj (by rw [List.getElem?_eq_getElem hj, e])
theorem find_more {p : Msg → Bool} {l : List Msg} {k : Nat} {m : Msg} (h : ∀ j x, j < k → l[j]? = some x → p x = false) (hm : l[k]? = some m) (hp : p m = false) : ∀ j x, j < k + 1 → l[j]? = some x → p x = false := fun j x hj hx => by
  rcases Nat.lt_or_ge j k with h1 | h1
  · exact h j x h1 hx
  · obtain rfl : j = k := by omega
    rw [hm] at hx; cases hx; exact hp

/-- Block b is a number. -/
def NumAt (w : World) (b : Nat) (n : Int) : Prop := w.heap[b]? = some (.cells #[.int .i64 n] 3 (0, 0))
theorem NumAt.new (w : World) (n : Int) : NumAt (w.alloc (.cells #[.int .i64 n] 3)) w.heap.size n := heap_alloc_new w _
theorem NumAt.on {w w' : World} {b : Nat} {n : Int} (h : NumAt w b n) (hb : Below w.heap.size w w') : NumAt w' b n := (hb.block b (Array.getElem?_eq_some_iff.1 h).1).trans h
theorem NumAt.cell {w : World} {b : Nat} {n : Int} (h : NumAt w b n) : w.cell? ⟨b, 0, none⟩ = some (.int .i64 n) := cell_of h 0

def isNum (n : Int) (m : Msg) : Bool := m.number == n
def isAny (_ : Msg) : Bool := true
abbrev numF (b : Nat) : Value := .func (.func 86) #[] #[.pointer (some ⟨b, 0, none⟩)]
abbrev behF (b : Nat) : Value := .func (.func 88) #[] #[.pointer (some ⟨b, 0, none⟩)]
abbrev anyF : Value := .func (.func 62) #[] #[]

set_option maxRecDepth 100000 in
theorem numF_any (b : Nat) (n : Int) (m : Msg) (w : World) (h : NumAt w b n) :
    Calls Tryd.prog 86 #[mv m, .pointer (some ⟨b, 0, none⟩)] w fun e w' => e = .returned (.bool (isNum n m)) ∧ Below w.heap.size w w' := by
  have hM := MsgAt.new w m
  have hb := Joins.below_alloc1 w (.cells (mc m) 26)
  have y := (h.on hb).cell
  obtain ⟨x0, x1, x2, x3, x4, x5, x6⟩ := hM.cells
  have HB := Lib.hid hb
  have HI : Hid (isNum n m = (m.number == n)) := Lib.hid rfl
  clear hM hb h
  obtain ⟨e1, n1, s1, i1, q1, k1, d1⟩ := m
  simp only [mv, mc] at *
  go_enter Tryd.func86, Tryd.ntmps86
  go_wp2_with fail
  go_ret
  exact ⟨ret_b HI.out.symm, HB.out⟩

set_option maxRecDepth 100000 in
theorem behF_any (b : Nat) (a m : Msg) (w : World) (L : Laid w) (h : MsgAt w b a) :
    Calls Tryd.prog 88 #[mv m, .pointer (some ⟨b, 0, none⟩)] w fun e w' => e = .returned (.bool (lessM a m)) ∧ Below w.heap.size w w' := by
  have hM := MsgAt.new w m
  have hb := Joins.below_alloc1 w (.cells (mc m) 26)
  have hA := h.on hb
  have hL := L.below hb
  have cl := fun W LL => lessM_any a m W LL
  obtain ⟨x0, x1, x2, x3, x4, x5, x6⟩ := hM.cells
  obtain ⟨y0, y1, y2, y3, y4, y5, y6⟩ := hA.cells
  have HB := Lib.hid hb
  clear hM hb h hA
  generalize lessM a m = R at *
  obtain ⟨e1, n1, s1, i1, q1, k1, d1⟩ := m
  obtain ⟨e2, n2, s2, i2, q2, k2, d2⟩ := a
  simp only [mv, mc] at *
  go_enter Tryd.func88, Tryd.ntmps88
  go_wp2_with fail; refine (cl _ hL).mono ?_; rintro e w1 ⟨rfl, b1⟩
  go_wp2_with fail
  go_ret
  exact ⟨rfl, HB.out.trans (b1.mono HB.out.size)⟩

set_option maxRecDepth 100000 in
theorem anyF_any (m : Msg) (w : World) :
    Calls Tryd.prog 62 #[mv m] w fun e w' => e = .returned (.bool (isAny m)) ∧ Below w.heap.size w w' := by
  have HB := Lib.hid (Joins.below_alloc1 w (.cells (mc m) 26))
  obtain ⟨e1, n1, s1, i1, q1, k1, d1⟩ := m
  simp only [mv, mc] at *
  go_enter Tryd.func62, Tryd.ntmps62
  go_wp2_with fail
  go_ret
  exact ⟨rfl, HB.out⟩

set_option maxRecDepth 100000 in
set_option maxHeartbeats 2000000 in
theorem place_num (b : Nat) (n : Int) (A : Option Addr) (c : Nat) (l : List Msg) (w : World) (hq : QIn w A c l) (hN : NumAt w b n) :
    Calls Tryd.prog 70 #[.slice A l.length c, numF b] w fun e w' => e = .returned (.int .i64 (l.findIdx (isNum n))) ∧ Below w.heap.size w w' := by
  obtain ⟨R, hR⟩ : ∃ R, R = l.findIdx (isNum n) := ⟨_, rfl⟩
  have HS : Hid (∀ k m, (∀ j x, j < k → l[j]? = some x → isNum n x = false) → l[k]? = some m → isNum n m = true → R = k) := Lib.hid (fun k m h1 h2 h3 => by rw [hR]; exact find_stop h1 h2 h3)
  have HE : Hid ((∀ j x, j < l.length → l[j]? = some x → isNum n x = false) → R = l.length) := Lib.hid (fun h => by rw [hR]; exact find_none h)
  rw [← hR]
  clear hR
  have hfew := hq.few
  have HQ := Lib.hid hq; clear hq
  go_enter Tryd.func70, Tryd.ntmps70
  go_wp2
  go_loopw [9] (fun i wr => ∃ k : Nat, k ≤ l.length ∧ i = .int .i64 k ∧ (∀ j x, j < k → l[j]? = some x → isNum n x = false) ∧ Below w.heap.size w wr) (fun i _ => l.length - (intOf i).toNat)
  case atStart => exact ⟨0, by omega, rfl, fun j x hj => by omega, Below.refl _ _⟩
  case round =>
    obtain ⟨k, hk, rfl, hno, hb⟩ := hrel
    have HNO := Lib.hid hno; clear hno
    have HB := Lib.hid hb
    by_cases hlt : k < l.length
    · have hltI : (k : Int) < (l.length : Int) := by omega
      obtain ⟨m, hm⟩ : ∃ m, l[k]? = some m := ⟨_, List.getElem?_eq_getElem hlt⟩
      obtain ⟨ad, rfl, hat⟩ := (HQ.out.on hb).at hm
      have hM := MsgAt.new wr m
      have b1 := Joins.below_alloc1 wr (.cells (mc m) 26)
      have cl := fun W => fun (hN : NumAt W b n) => numF_any b n m W hN
      have HB1 := Lib.hid (hb.trans (b1.mono hb.size))
      have HM := Lib.hid hm
      have hn2 := (hN.on hb).on b1
      have HN := Lib.hid (find_more HNO.out hm)
      have HSS := Lib.hid (HS.out k m HNO.out hm)
      obtain ⟨x0, x1, x2, x3, x4, x5, x6⟩ := hM.cells
      clear hM b1 hb hm
      cases hp : isNum n m
      · have HP := Lib.hid hp
        rw [hp] at cl
        clear hp
        obtain ⟨e1, n1, s1, i1, q1, k1, d1⟩ := m
        obtain ⟨y0, y1, y2, y3, y4, y5, y6⟩ := hat
        simp only [mv, mc] at *
        go_wp2_with fail; refine (cl _ hn2).mono ?_; rintro e w1 ⟨rfl, b2⟩
        have HB2 := Lib.hid (HB1.out.trans (b2.mono HB1.out.size))
        clear b2 y0 y1 y2 y3 y4 y5 y6 x0 x1 x2 x3 x4 x5 x6 cl
        go_wp2_with fail
        go_roundw
        case rel => exact ⟨k + 1, by omega, by go_num, HN.out HP.out, HB2.out⟩
        case measure => simp [intOf]; omega
      · have HP := Lib.hid hp
        rw [hp] at cl
        clear hp
        obtain ⟨e1, n1, s1, i1, q1, k1, d1⟩ := m
        obtain ⟨y0, y1, y2, y3, y4, y5, y6⟩ := hat
        simp only [mv, mc] at *
        go_wp2_with fail; refine (cl _ hn2).mono ?_; rintro e w1 ⟨rfl, b2⟩
        have HB2 := Lib.hid (HB1.out.trans (b2.mono HB1.out.size))
        clear b2 y0 y1 y2 y3 y4 y5 y6 x0 x1 x2 x3 x4 x5 x6 cl
        go_wp2_with fail
        go_ret
        exact ⟨ret_i (by rw [HSS.out HP.out]), HB2.out⟩
    · have hltI : ¬ (k : Int) < (l.length : Int) := by omega
      have hkl : k = l.length := by omega
      have HKL := Lib.hid hkl; clear hkl
      go_wp2
      go_ret
      refine ⟨ret_i ?_, HB.out⟩
      rw [HE.out (by have h := HNO.out; rw [HKL.out] at h; exact h)]

set_option maxRecDepth 100000 in
set_option maxHeartbeats 2000000 in
theorem place_beh (b : Nat) (a : Msg) (A : Option Addr) (c : Nat) (l : List Msg) (w : World) (hq : QIn w A c l) (L : Laid w) (hN : MsgAt w b a) :
    Calls Tryd.prog 70 #[.slice A l.length c, behF b] w fun e w' => e = .returned (.int .i64 (l.findIdx (lessM a))) ∧ Below w.heap.size w w' := by
  obtain ⟨R, hR⟩ : ∃ R, R = l.findIdx (lessM a) := ⟨_, rfl⟩
  have HS : Hid (∀ k m, (∀ j x, j < k → l[j]? = some x → lessM a x = false) → l[k]? = some m → lessM a m = true → R = k) := Lib.hid (fun k m h1 h2 h3 => by rw [hR]; exact find_stop h1 h2 h3)
  have HE : Hid ((∀ j x, j < l.length → l[j]? = some x → lessM a x = false) → R = l.length) := Lib.hid (fun h => by rw [hR]; exact find_none h)
  rw [← hR]
  clear hR
  have hfew := hq.few
  have HQ := Lib.hid hq; clear hq
  go_enter Tryd.func70, Tryd.ntmps70
  go_wp2
  go_loopw [9] (fun i wr => ∃ k : Nat, k ≤ l.length ∧ i = .int .i64 k ∧ (∀ j x, j < k → l[j]? = some x → lessM a x = false) ∧ Below w.heap.size w wr) (fun i _ => l.length - (intOf i).toNat)
  case atStart => exact ⟨0, by omega, rfl, fun j x hj => by omega, Below.refl _ _⟩
  case round =>
    obtain ⟨k, hk, rfl, hno, hb⟩ := hrel
    have HNO := Lib.hid hno; clear hno
    have HB := Lib.hid hb
    by_cases hlt : k < l.length
    · have hltI : (k : Int) < (l.length : Int) := by omega
      obtain ⟨m, hm⟩ : ∃ m, l[k]? = some m := ⟨_, List.getElem?_eq_getElem hlt⟩
      obtain ⟨ad, rfl, hat⟩ := (HQ.out.on hb).at hm
      have hM := MsgAt.new wr m
      have b1 := Joins.below_alloc1 wr (.cells (mc m) 26)
      have cl := fun W => fun (hN : Laid W ∧ MsgAt W b a) => behF_any b a m W hN.1 hN.2
      have HB1 := Lib.hid (hb.trans (b1.mono hb.size))
      have HM := Lib.hid hm
      have hn2 := And.intro ((L.below hb).below b1) ((hN.on hb).on b1)
      have HN := Lib.hid (find_more HNO.out hm)
      have HSS := Lib.hid (HS.out k m HNO.out hm)
      obtain ⟨x0, x1, x2, x3, x4, x5, x6⟩ := hM.cells
      clear hM b1 hb hm
      cases hp : lessM a m
      · have HP := Lib.hid hp
        rw [hp] at cl
        clear hp
        obtain ⟨e1, n1, s1, i1, q1, k1, d1⟩ := m
        obtain ⟨y0, y1, y2, y3, y4, y5, y6⟩ := hat
        simp only [mv, mc] at *
        go_wp2_with fail; refine (cl _ hn2).mono ?_; rintro e w1 ⟨rfl, b2⟩
        have HB2 := Lib.hid (HB1.out.trans (b2.mono HB1.out.size))
        clear b2 y0 y1 y2 y3 y4 y5 y6 x0 x1 x2 x3 x4 x5 x6 cl
        go_wp2_with fail
        go_roundw
        case rel => exact ⟨k + 1, by omega, by go_num, HN.out HP.out, HB2.out⟩
        case measure => simp [intOf]; omega
      · have HP := Lib.hid hp
        rw [hp] at cl
        clear hp
        obtain ⟨e1, n1, s1, i1, q1, k1, d1⟩ := m
        obtain ⟨y0, y1, y2, y3, y4, y5, y6⟩ := hat
        simp only [mv, mc] at *
        go_wp2_with fail; refine (cl _ hn2).mono ?_; rintro e w1 ⟨rfl, b2⟩
        have HB2 := Lib.hid (HB1.out.trans (b2.mono HB1.out.size))
        clear b2 y0 y1 y2 y3 y4 y5 y6 x0 x1 x2 x3 x4 x5 x6 cl
        go_wp2_with fail
        go_ret
        exact ⟨ret_i (by rw [HSS.out HP.out]), HB2.out⟩
    · have hltI : ¬ (k : Int) < (l.length : Int) := by omega
      have hkl : k = l.length := by omega
      have HKL := Lib.hid hkl; clear hkl
      go_wp2
      go_ret
      refine ⟨ret_i ?_, HB.out⟩
      rw [HE.out (by have h := HNO.out; rw [HKL.out] at h; exact h)]

set_option maxRecDepth 100000 in
set_option maxHeartbeats 2000000 in
theorem place_all (_z : Nat) (A : Option Addr) (c : Nat) (l : List Msg) (w : World) (hq : QIn w A c l) :
    Calls Tryd.prog 70 #[.slice A l.length c, anyF] w fun e w' => e = .returned (.int .i64 (l.findIdx (isAny))) ∧ Below w.heap.size w w' := by
  obtain ⟨R, hR⟩ : ∃ R, R = l.findIdx (isAny) := ⟨_, rfl⟩
  have HS : Hid (∀ k m, (∀ j x, j < k → l[j]? = some x → isAny x = false) → l[k]? = some m → isAny m = true → R = k) := Lib.hid (fun k m h1 h2 h3 => by rw [hR]; exact find_stop h1 h2 h3)
  have HE : Hid ((∀ j x, j < l.length → l[j]? = some x → isAny x = false) → R = l.length) := Lib.hid (fun h => by rw [hR]; exact find_none h)
  rw [← hR]
  clear hR
  have hfew := hq.few
  have HQ := Lib.hid hq; clear hq
  go_enter Tryd.func70, Tryd.ntmps70
  go_wp2
  go_loopw [9] (fun i wr => ∃ k : Nat, k ≤ l.length ∧ i = .int .i64 k ∧ (∀ j x, j < k → l[j]? = some x → isAny x = false) ∧ Below w.heap.size w wr) (fun i _ => l.length - (intOf i).toNat)
  case atStart => exact ⟨0, by omega, rfl, fun j x hj => by omega, Below.refl _ _⟩
  case round =>
    obtain ⟨k, hk, rfl, hno, hb⟩ := hrel
    have HNO := Lib.hid hno; clear hno
    have HB := Lib.hid hb
    by_cases hlt : k < l.length
    · have hltI : (k : Int) < (l.length : Int) := by omega
      obtain ⟨m, hm⟩ : ∃ m, l[k]? = some m := ⟨_, List.getElem?_eq_getElem hlt⟩
      obtain ⟨ad, rfl, hat⟩ := (HQ.out.on hb).at hm
      have hM := MsgAt.new wr m
      have b1 := Joins.below_alloc1 wr (.cells (mc m) 26)
      have cl := fun W => fun (_ : True) => anyF_any m W
      have HB1 := Lib.hid (hb.trans (b1.mono hb.size))
      have HM := Lib.hid hm
      skip
      have HN := Lib.hid (find_more HNO.out hm)
      have HSS := Lib.hid (HS.out k m HNO.out hm)
      obtain ⟨x0, x1, x2, x3, x4, x5, x6⟩ := hM.cells
      clear hM b1 hb hm
      cases hp : isAny m
      · have HP := Lib.hid hp
        rw [hp] at cl
        clear hp
        obtain ⟨e1, n1, s1, i1, q1, k1, d1⟩ := m
        obtain ⟨y0, y1, y2, y3, y4, y5, y6⟩ := hat
        simp only [mv, mc] at *
        go_wp2_with fail; refine (cl _ trivial).mono ?_; rintro e w1 ⟨rfl, b2⟩
        have HB2 := Lib.hid (HB1.out.trans (b2.mono HB1.out.size))
        clear b2 y0 y1 y2 y3 y4 y5 y6 x0 x1 x2 x3 x4 x5 x6 cl
        go_wp2_with fail
        go_roundw
        case rel => exact ⟨k + 1, by omega, by go_num, HN.out HP.out, HB2.out⟩
        case measure => simp [intOf]; omega
      · have HP := Lib.hid hp
        rw [hp] at cl
        clear hp
        obtain ⟨e1, n1, s1, i1, q1, k1, d1⟩ := m
        obtain ⟨y0, y1, y2, y3, y4, y5, y6⟩ := hat
        simp only [mv, mc] at *
        go_wp2_with fail; refine (cl _ trivial).mono ?_; rintro e w1 ⟨rfl, b2⟩
        have HB2 := Lib.hid (HB1.out.trans (b2.mono HB1.out.size))
        clear b2 y0 y1 y2 y3 y4 y5 y6 x0 x1 x2 x3 x4 x5 x6 cl
        go_wp2_with fail
        go_ret
        exact ⟨ret_i (by rw [HSS.out HP.out]), HB2.out⟩
    · have hltI : ¬ (k : Int) < (l.length : Int) := by omega
      have hkl : k = l.length := by omega
      have HKL := Lib.hid hkl; clear hkl
      go_wp2
      go_ret
      refine ⟨ret_i ?_, HB.out⟩
      rw [HE.out (by have h := HNO.out; rw [HKL.out] at h; exact h)]

/-- Is there one of that number? -/
def hasN (l : List Msg) (n : Int) : Bool := decide (l.findIdx (isNum n) < l.length)
set_option maxRecDepth 100000 in
theorem has_any (b : Nat) (n : Int) (A : Option Addr) (c : Nat) (l : List Msg) (w : World) (hq : QIn w A c l) (hN : NumAt w b n) :
    Calls Tryd.prog 67 #[.slice A l.length c, numF b] w fun e w' => e = .returned (.bool (hasN l n)) ∧ Below w.heap.size w w' := by
  have cp := fun W (h1 : QIn W A c l) h2 => place_num b n A c l W h1 h2
  have HH : Hid (hasN l n = decide (l.findIdx (isNum n) < l.length)) := Lib.hid rfl
  have hfew := hq.few
  have HF : Hid (decide (((l.findIdx (isNum n) : Nat) : Int) < (l.length : Int)) = hasN l n) := Lib.hid (by rw [HH.out]; simp)
  generalize hasN l n = H at *
  generalize l.findIdx (isNum n) = I at *
  clear HH
  go_enter Tryd.func67, Tryd.ntmps67
  go_wp2_with fail; refine (cp _ hq hN).mono ?_; rintro e w1 ⟨rfl, b1⟩
  go_wp2_with fail
  go_ret
  exact ⟨ret_b (by rw [← HF.out]; simp), b1⟩
theorem ofNumber_any (n : Int) (w : World) :
    Calls Tryd.prog 68 #[.int .i64 n] w fun e w' => e = .returned (numF w.heap.size) ∧ NumAt w' w.heap.size n ∧ Below w.heap.size w w' := by
  have hmf : ∀ (fn : Fn) (first cap : Array Value) (w : World), (Instr.makeFunc fn first cap).run Tryd.prog w = .ok (.func fn first cap) w := fun _ _ _ _ => rfl
  have HN := Lib.hid (NumAt.new w n)
  have HB := Lib.hid (Joins.below_alloc1 w (.cells #[.int .i64 n] 3))
  go_enter Tryd.func68, Tryd.ntmps68
  go_wp2_with fail
  go_ret
  exact ⟨rfl, HN.out, HB.out⟩
theorem behind_any (m : Msg) (w : World) :
    Calls Tryd.prog 71 #[mv m] w fun e w' => e = .returned (behF w.heap.size) ∧ MsgAt w' w.heap.size m ∧ Below w.heap.size w w' := by
  have hmf : ∀ (fn : Fn) (first cap : Array Value) (w : World), (Instr.makeFunc fn first cap).run Tryd.prog w = .ok (.func fn first cap) w := fun _ _ _ _ => rfl
  have HN := Lib.hid (MsgAt.new w m)
  have HB := Lib.hid (Joins.below_alloc1 w (.cells (mc m) 26))
  obtain ⟨e1, n1, s1, i1, q1, k1, d1⟩ := m
  simp only [mv, mc] at *
  go_enter Tryd.func71, Tryd.ntmps71
  go_wp2_with fail
  go_ret
  exact ⟨rfl, HN.out, HB.out⟩
end Go.Proofs.YtehajmockicilaaDoor


/-
  What find, First, Take and Abort tell: the program's side.
-/
import Derived.Test.YtehajmockicilaaDoorTxqRef
import Derived.Test.YtehajmockicilaaDoorTxqCut
import Derived.Test.YtehajmockicilaaDoorOncePhase
namespace Go.Proofs.YtehajmockicilaaDoor
open Go Go.RowKit

def cutE (L : Int) (l : List Msg) (i : Nat) : Int := if rightQ L l = true then (if i < l.length then 0 else 41) else 1
def cutL (L : Int) (l : List Msg) (i : Nat) : List Msg := if rightQ L l = true then l.eraseIdx i else l
def cutM (L : Int) (l : List Msg) (i : Nat) : Msg := if rightQ L l = true then l.getD i zeroM else zeroM
def findI (L : Int) (l : List Msg) (i : Nat) : Int := if rightQ L l = true then (if i < l.length then (i : Int) else 0) else 0
theorem cut_wrong {L : Int} {l : List Msg} {i : Nat} (h : rightQ L l = false) : cutE L l i = 1 ∧ cutL L l i = l ∧ cutM L l i = zeroM ∧ findI L l i = 0 := by unfold cutE cutL cutM findI; simp [h]
theorem cut_none {L : Int} {l : List Msg} {i : Nat} (h : rightQ L l = true) (hi : i = l.length) : cutE L l i = 41 ∧ cutL L l i = l ∧ cutM L l i = zeroM ∧ findI L l i = 0 := by
  subst hi
  unfold cutE cutL cutM findI
  simp [h, List.eraseIdx_of_length_le]
theorem cut_one {L : Int} {l : List Msg} {i : Nat} {m : Msg} (h : rightQ L l = true) (hm : l[i]? = some m) : cutE L l i = 0 ∧ cutL L l i = l.eraseIdx i ∧ cutM L l i = m ∧ findI L l i = i := by
  obtain ⟨hi, e⟩ := List.getElem?_eq_some_iff.1 hm
  subst e
  unfold cutE cutL cutM findI
  simp [h, hi]
theorem find_le (p : Msg → Bool) (l : List Msg) : l.findIdx p ≤ l.length := List.findIdx_le_length

/-- What a call that takes a message tells. -/
def TakePost (L : Int) (A : Option Addr) (l : List Msg) (i : Nat) (w : World) (e : Ending) (w' : World) : Prop :=
  ∃ v, e = .returned (.tuple #[v, mv (cutM L l i), .int .i64 (cutE L l i)]) ∧ QRes A w.heap.size w' L (cutL L l i) v ∧ Below w.heap.size w w'
theorem take_same {L : Int} {l : List Msg} {i : Nat} {E : Int} {A : Option Addr} {c : Nat} {w w' : World} (hb : Below w.heap.size w w') (hm : QIn w A c l) (h : cutE L l i = E ∧ cutL L l i = l ∧ cutM L l i = zeroM ∧ findI L l i = 0) :
    TakePost L A l i w (.returned (.tuple #[qv L A l.length c, mv zeroM, .int .i64 E])) w' := by
  obtain ⟨h1, h2, h3, -⟩ := h
  unfold TakePost
  rw [h1, h2, h3]
  exact ⟨_, rfl, ⟨A, c, rfl, QTold.is (hm.on hb)⟩, hb⟩
theorem qm_res {fn : Func} {i j k : Nat} (hr : fn.results = #[.cell i 64, .cell j 26, .tmp k]) {Y : World} {b d : Nat} {L E : Int} {A : Option Addr} {n c : Nat} {m : Msg} {T : Array Value} (h : QAt Y b L A n c) (h' : MsgAt Y d m) (ht : T[i]? = some (.pointer (some ⟨b, 0, none⟩))) (ht' : T[j]? = some (.pointer (some ⟨d, 0, none⟩))) (hs : T[k]? = some (.int .i64 E)) :
    (results fn T).run Tryd.prog Y = .ok (.tuple #[qv L A n c, mv m, .int .i64 E]) Y := by
  obtain ⟨h0, h1⟩ := h.cells
  obtain ⟨z0, z1, z2, z3, z4, z5, z6⟩ := h'.cells
  simp [results, hr, go_sem, h0, h1, z0, z1, z2, z3, z4, z5, z6, ht, ht', hs]
theorem mb_res {fn : Func} {j k : Nat} (hr : fn.results = #[.cell j 26, .tmp k]) {Y : World} {d : Nat} {m : Msg} {b : Bool} {T : Array Value} (h' : MsgAt Y d m) (ht' : T[j]? = some (.pointer (some ⟨d, 0, none⟩))) (hs : T[k]? = some (.bool b)) :
    (results fn T).run Tryd.prog Y = .ok (.tuple #[mv m, .bool b]) Y := by
  obtain ⟨z0, z1, z2, z3, z4, z5, z6⟩ := h'.cells
  simp [results, hr, go_sem, z0, z1, z2, z3, z4, z5, z6, ht', hs]

theorem blk_far2 {w : World} {g b : Nat} {l : List Msg} (h : BlkM w g l) (hg : g ≠ b) (x y : Value) : BlkM ((w.setCell ⟨b, 0, none⟩ x).setCell ⟨b, 1, none⟩ y) g l := by
  unfold BlkM
  rw [Below.heap_setCell _ _ _ _ (by show g ≠ b; exact hg), Below.heap_setCell _ _ _ _ (by show g ≠ b; exact hg)]
  exact h
theorem msg_far2 {w : World} {g b : Nat} {m : Msg} (h : MsgAt w g m) (hg : g ≠ b) (x y : Value) : MsgAt ((w.setCell ⟨b, 0, none⟩ x).setCell ⟨b, 1, none⟩ y) g m := by
  unfold MsgAt
  rw [Below.heap_setCell _ _ _ _ (by show g ≠ b; exact hg), Below.heap_setCell _ _ _ _ (by show g ≠ b; exact hg)]
  exact h
theorem que_far2 {w : World} {g b : Nat} {L : Int} {A : Option Addr} {n c : Nat} (h : QAt w g L A n c) (hg : g ≠ b) (x y : Value) : QAt ((w.setCell ⟨b, 0, none⟩ x).setCell ⟨b, 1, none⟩ y) g L A n c := by
  unfold QAt
  rw [Below.heap_setCell _ _ _ _ (by show g ≠ b; exact hg), Below.heap_setCell _ _ _ _ (by show g ≠ b; exact hg)]
  exact h
theorem que_far7 {w : World} {g b : Nat} {L : Int} {A : Option Addr} {n c : Nat} (h : QAt w g L A n c) (hg : g ≠ b) (m : Msg) : QAt (set7 w b m) g L A n c := by
  unfold QAt
  rw [set7_far w hg]
  exact h

set_option maxRecDepth 100000 in
set_option maxHeartbeats 2000000 in
theorem find_num (b : Nat) (n : Int) (L : Int) (A : Option Addr) (c : Nat) (l : List Msg) (w : World) (LL : Laid w) (hq : QIn w A c l) (hN : NumAt w b n) :
    Calls Tryd.prog 61 #[qv L A l.length c, numF b] w fun e w' => e = .returned (.tuple #[.int .i64 (findI L l (l.findIdx (isNum n))), .int .i64 (cutE L l (l.findIdx (isNum n)))]) ∧ Below w.heap.size w w' := by
  have hfew := hq.few
  have q1 := QAt.new w L A l.length c
  have b1 := Joins.below_alloc1 w (.cells #[.int .i64 L, .slice A l.length c] 64)
  have hq1 := hq.on b1
  have hL1 := LL.below b1
  have hn1 := hN.on b1
  have HB := Lib.hid b1
  have HQA := Lib.hid q1
  obtain ⟨y0, y1⟩ := q1.cells
  have cr := fun W h1 h2 => rightQ_any L A c l W h1 h2
  have hle := find_le (isNum n) l
  have HL : Hid (l.findIdx (isNum n) = l.length → rightQ L l = true → cutE L l (l.findIdx (isNum n)) = 41 ∧ findI L l (l.findIdx (isNum n)) = 0) := Lib.hid (fun h1 h2 => by
    have := cut_none h2 h1; exact ⟨this.1, this.2.2.2⟩)
  have HO : Hid (l.findIdx (isNum n) < l.length → rightQ L l = true → cutE L l (l.findIdx (isNum n)) = 0 ∧ findI L l (l.findIdx (isNum n)) = l.findIdx (isNum n)) := Lib.hid (fun h1 h2 => by
    have := cut_one h2 (List.getElem?_eq_getElem h1); exact ⟨this.1, this.2.2.2⟩)
  have HX : Hid (rightQ L l = false → cutE L l (l.findIdx (isNum n)) = 1 ∧ findI L l (l.findIdx (isNum n)) = 0) := Lib.hid (fun h1 => by
    have := cut_wrong (i := l.findIdx (isNum n)) h1; exact ⟨this.1, this.2.2.2⟩)
  have cp := fun W (h1 : QIn W A c l) (h2 : NumAt W b n) => place_num b n A c l W h1 h2
  clear hq q1 LL
  generalize cutE L l (l.findIdx (isNum n)) = E at *
  generalize findI L l (l.findIdx (isNum n)) = F at *
  generalize l.findIdx (isNum n) = I at *
  generalize hR : rightQ L l = R at *
  clear hR
  cases R
  · obtain ⟨he, hf⟩ := HX.out rfl
    have HEF := Lib.hid (And.intro he hf)
    clear he hf b1
    go_enter Tryd.func61, Tryd.ntmps61
    go_wp2_with fail; refine (cr _ hL1 hq1).mono ?_; rintro e w1 ⟨rfl, b2⟩
    go_wp2_with fail
    go_ret2
    exact ⟨by rw [HEF.out.1, HEF.out.2]; rfl, HB.out.trans (b2.mono HB.out.size)⟩
  · by_cases hlt : I < l.length
    · obtain ⟨he, hf⟩ := HO.out hlt rfl
      have HEF := Lib.hid (And.intro he hf)
      have hne : ((I : Int) == (l.length : Int)) = false := by simp; omega
      clear he hf b1
      go_enter Tryd.func61, Tryd.ntmps61
      go_wp2_with fail; refine (cr _ hL1 hq1).mono ?_; rintro e w1 ⟨rfl, b2⟩
      have q2 := HQA.out.on b2
      obtain ⟨y2, y3⟩ := q2.cells
      have hq2 := hq1.on b2
      have hn2 := hn1.on b2
      have HB2 := Lib.hid (HB.out.trans (b2.mono HB.out.size))
      have HQ2 := Lib.hid q2
      clear b2 q2 cr hL1
      go_wp2_with fail; refine (cp _ hq2 hn2).mono ?_; rintro e w2 ⟨rfl, b3⟩
      obtain ⟨y4, y5⟩ := (HQ2.out.on b3).cells
      have HB3 := Lib.hid (HB2.out.trans (b3.mono HB2.out.size))
      clear b3
      go_wp2_with fail
      go_ret2
      exact ⟨by rw [HEF.out.1, HEF.out.2]; rfl, HB3.out⟩
    · have hIl : I = l.length := by omega
      obtain ⟨he, hf⟩ := HL.out hIl rfl
      have HEF := Lib.hid (And.intro he hf)
      have hne : ((I : Int) == (l.length : Int)) = true := by rw [hIl]; simp
      clear he hf b1 hIl
      go_enter Tryd.func61, Tryd.ntmps61
      go_wp2_with fail; refine (cr _ hL1 hq1).mono ?_; rintro e w1 ⟨rfl, b2⟩
      have q2 := HQA.out.on b2
      obtain ⟨y2, y3⟩ := q2.cells
      have hq2 := hq1.on b2
      have hn2 := hn1.on b2
      have HB2 := Lib.hid (HB.out.trans (b2.mono HB.out.size))
      have HQ2 := Lib.hid q2
      clear b2 q2 cr hL1
      go_wp2_with fail; refine (cp _ hq2 hn2).mono ?_; rintro e w2 ⟨rfl, b3⟩
      obtain ⟨y4, y5⟩ := (HQ2.out.on b3).cells
      have HB3 := Lib.hid (HB2.out.trans (b3.mono HB2.out.size))
      clear b3
      go_wp2_with fail
      go_ret2
      exact ⟨by rw [HEF.out.1, HEF.out.2]; rfl, HB3.out⟩

set_option maxRecDepth 100000 in
set_option maxHeartbeats 2000000 in
theorem find_all (_z : Nat) (L : Int) (A : Option Addr) (c : Nat) (l : List Msg) (w : World) (LL : Laid w) (hq : QIn w A c l) :
    Calls Tryd.prog 61 #[qv L A l.length c, anyF] w fun e w' => e = .returned (.tuple #[.int .i64 (findI L l (l.findIdx (isAny))), .int .i64 (cutE L l (l.findIdx (isAny)))]) ∧ Below w.heap.size w w' := by
  have hfew := hq.few
  have q1 := QAt.new w L A l.length c
  have b1 := Joins.below_alloc1 w (.cells #[.int .i64 L, .slice A l.length c] 64)
  have hq1 := hq.on b1
  have hL1 := LL.below b1
  skip
  have HB := Lib.hid b1
  have HQA := Lib.hid q1
  obtain ⟨y0, y1⟩ := q1.cells
  have cr := fun W h1 h2 => rightQ_any L A c l W h1 h2
  have hle := find_le (isAny) l
  have HL : Hid (l.findIdx (isAny) = l.length → rightQ L l = true → cutE L l (l.findIdx (isAny)) = 41 ∧ findI L l (l.findIdx (isAny)) = 0) := Lib.hid (fun h1 h2 => by
    have := cut_none h2 h1; exact ⟨this.1, this.2.2.2⟩)
  have HO : Hid (l.findIdx (isAny) < l.length → rightQ L l = true → cutE L l (l.findIdx (isAny)) = 0 ∧ findI L l (l.findIdx (isAny)) = l.findIdx (isAny)) := Lib.hid (fun h1 h2 => by
    have := cut_one h2 (List.getElem?_eq_getElem h1); exact ⟨this.1, this.2.2.2⟩)
  have HX : Hid (rightQ L l = false → cutE L l (l.findIdx (isAny)) = 1 ∧ findI L l (l.findIdx (isAny)) = 0) := Lib.hid (fun h1 => by
    have := cut_wrong (i := l.findIdx (isAny)) h1; exact ⟨this.1, this.2.2.2⟩)
  have cp := fun W (h1 : QIn W A c l) => place_all 0 A c l W h1
  clear hq q1 LL
  generalize cutE L l (l.findIdx (isAny)) = E at *
  generalize findI L l (l.findIdx (isAny)) = F at *
  generalize l.findIdx (isAny) = I at *
  generalize hR : rightQ L l = R at *
  clear hR
  cases R
  · obtain ⟨he, hf⟩ := HX.out rfl
    have HEF := Lib.hid (And.intro he hf)
    clear he hf b1
    go_enter Tryd.func61, Tryd.ntmps61
    go_wp2_with fail; refine (cr _ hL1 hq1).mono ?_; rintro e w1 ⟨rfl, b2⟩
    go_wp2_with fail
    go_ret2
    exact ⟨by rw [HEF.out.1, HEF.out.2]; rfl, HB.out.trans (b2.mono HB.out.size)⟩
  · by_cases hlt : I < l.length
    · obtain ⟨he, hf⟩ := HO.out hlt rfl
      have HEF := Lib.hid (And.intro he hf)
      have hne : ((I : Int) == (l.length : Int)) = false := by simp; omega
      clear he hf b1
      go_enter Tryd.func61, Tryd.ntmps61
      go_wp2_with fail; refine (cr _ hL1 hq1).mono ?_; rintro e w1 ⟨rfl, b2⟩
      have q2 := HQA.out.on b2
      obtain ⟨y2, y3⟩ := q2.cells
      have hq2 := hq1.on b2
      skip
      have HB2 := Lib.hid (HB.out.trans (b2.mono HB.out.size))
      have HQ2 := Lib.hid q2
      clear b2 q2 cr hL1
      go_wp2_with fail; refine (cp _ hq2).mono ?_; rintro e w2 ⟨rfl, b3⟩
      obtain ⟨y4, y5⟩ := (HQ2.out.on b3).cells
      have HB3 := Lib.hid (HB2.out.trans (b3.mono HB2.out.size))
      clear b3
      go_wp2_with fail
      go_ret2
      exact ⟨by rw [HEF.out.1, HEF.out.2]; rfl, HB3.out⟩
    · have hIl : I = l.length := by omega
      obtain ⟨he, hf⟩ := HL.out hIl rfl
      have HEF := Lib.hid (And.intro he hf)
      have hne : ((I : Int) == (l.length : Int)) = true := by rw [hIl]; simp
      clear he hf b1 hIl
      go_enter Tryd.func61, Tryd.ntmps61
      go_wp2_with fail; refine (cr _ hL1 hq1).mono ?_; rintro e w1 ⟨rfl, b2⟩
      have q2 := HQA.out.on b2
      obtain ⟨y2, y3⟩ := q2.cells
      have hq2 := hq1.on b2
      skip
      have HB2 := Lib.hid (HB.out.trans (b2.mono HB.out.size))
      have HQ2 := Lib.hid q2
      clear b2 q2 cr hL1
      go_wp2_with fail; refine (cp _ hq2).mono ?_; rintro e w2 ⟨rfl, b3⟩
      obtain ⟨y4, y5⟩ := (HQ2.out.on b3).cells
      have HB3 := Lib.hid (HB2.out.trans (b3.mono HB2.out.size))
      clear b3
      go_wp2_with fail
      go_ret2
      exact ⟨by rw [HEF.out.1, HEF.out.2]; rfl, HB3.out⟩

end Go.Proofs.YtehajmockicilaaDoor


/-
  Lists of messages in memory of their own: owned, ownTexts; what makeSlice and copy make.
-/
import Derived.Test.YtehajmockicilaaDoorTxqBase
import Derived.Laws.MakeOwn
import Derived.Laws.CopyOwn
namespace Go.Proofs.YtehajmockicilaaDoor
open Go Go.RowKit

theorem m_res {fn : Func} {i : Nat} (hr : fn.results = #[.cell i 26]) {Y : World} {b : Nat} {m : Msg} {T : Array Value} (h : MsgAt Y b m) (ht : T[i]? = some (.pointer (some ⟨b, 0, none⟩))) :
    (results fn T).run Tryd.prog Y = .ok (mv m) Y := by
  obtain ⟨h0, h1, h2, h3, h4, h5, h6⟩ := h.cells
  simp [results, hr, go_sem, h0, h1, h2, h3, h4, h5, h6, ht]

theorem clone_any (s : ByteArray) (w : World) (hlim : s.size ≤ 281474976710656) :
    Calls Tryd.prog 83 #[.string s] w fun e w' => e = .returned (.string s) ∧ Below w.heap.size w w' := by
  have cc := fun W => stringsliteClone s W hlim
  clear hlim
  go_enter Tryd.func83, Tryd.ntmps83
  go_wp2_with fail; refine (cc _).mono ?_; rintro e w1 ⟨rfl, b1⟩
  go_wp2_with fail
  go_ret
  exact ⟨rfl, b1⟩

theorem cells_eq {cs : Array Value} {k : Nat} {v : Value} (h : cs[k]? = some v) : cs.setIfInBounds k v = cs := by
  apply Array.ext
  · simp
  · intro j h1 h2
    rw [Array.getElem_setIfInBounds]
    split
    · rename_i e; subst e
      obtain ⟨hk, e⟩ := Array.getElem?_eq_some_iff.1 h
      exact e.symm
    · rfl
/-- A cell set to what it is. -/
theorem setCell_is {w : World} {b k : Nat} {v : Value} {cs : Array Value} {t : TypeId} (hb : w.heap[b]? = some (.cells cs t (0, 0))) (h : cs[k]? = some v) : w.setCell ⟨b, k, none⟩ v = w := by
  rw [setCell_eq_setRow w b k cs t (0, 0) v hb, cells_eq h, setRow_self w b cs t (0, 0) hb]

set_option maxRecDepth 100000 in
set_option maxHeartbeats 1000000 in
theorem owned_any (m : Msg) (w : World) (hd : m.data.size ≤ 281474976710656) :
    Calls Tryd.prog 63 #[mv m] w fun e w' => e = .returned (mv m) ∧ Below w.heap.size w w' := by
  have cc := fun W => clone_any m.data W hd
  have hA := MsgAt.new w m
  have b1 := Joins.below_alloc1 w (.cells (mc m) 26)
  have hZ := MsgAt.new (w.alloc (.cells (mc m) 26)) zeroM
  have b2 := Joins.below_alloc1 (w.alloc (.cells (mc m) 26)) (.cells (mc zeroM) 26)
  have hA2 := hA.on b2
  have hB := b1.trans (b2.mono b1.size)
  rw [World.size_alloc] at hZ
  simp only [mc, zeroM] at hZ hB b1 b2 hA2
  clear hA b1 b2 hd
  obtain ⟨e1, n1, s1, i1, q1, k1, d1⟩ := m
  simp only [mv] at *
  obtain ⟨x0, x1, x2, x3, x4, x5, x6⟩ := hA2.cells
  go_enter Tryd.func63, Tryd.ntmps63
  go_wp2_with fail
  generalize (w.alloc (.cells #[.bool e1, .int .i64 n1, .int .i64 s1, .int .i64 i1, .int .i64 q1, .int .i64 k1, .string d1] 26)).alloc (.cells #[.bool false, .int .i64 0, .int .i64 0, .int .i64 0, .int .i64 0, .int .i64 0, .string ⟨#[]⟩] 26) = X at *
  refine (cc _).mono ?_; rintro e w1 ⟨rfl, b3⟩
  have hA3 := hA2.on b3
  have hZ3 := MsgAt.on (m := ⟨false, 0, 0, 0, 0, 0, ⟨#[]⟩⟩) hZ b3
  have HB := Lib.hid (hB.trans (b3.mono hB.size))
  have hsame := setCell_is (k := 6) (v := .string d1) hA3 rfl
  have HA := Lib.hid hA3
  have HZ := Lib.hid hZ3
  clear x0 x1 x2 x3 x4 x5 x6
  obtain ⟨x0, x1, x2, x3, x4, x5, x6⟩ := hA3.cells
  obtain ⟨z0, z1, z2, z3, z4, z5, z6⟩ := hZ3.cells
  have xf := hA3.frozen
  have zf := hZ3.frozen
  clear hA3 hZ3 hA2 hZ hB b3 cc
  go_wp2_with fail
  have hp := MsgAt.set7 HZ.out ⟨e1, n1, s1, i1, q1, k1, d1⟩
  have hb := below_set7 HB.out (b := w.heap.size + 1) (by omega) ⟨e1, n1, s1, i1, q1, k1, d1⟩
  unfold set7 at hp hb
  exact bodyPost_ret (m_res Tryd.results63 hp rfl) rfl ⟨rfl, hb⟩

/-- A block of messages. -/
def BlkM (w : World) (g : Nat) (l : List Msg) : Prop := w.heap[g]? = some (.cells (lcl l).toArray 26 (0, 0))
theorem BlkM.lt {w : World} {g : Nat} {l : List Msg} (h : BlkM w g l) : g < w.heap.size := (Array.getElem?_eq_some_iff.1 h).1
theorem BlkM.on {w w' : World} {g : Nat} {l : List Msg} (h : BlkM w g l) (hb : Below w.heap.size w w') : BlkM w' g l := (hb.block g h.lt).trans h
theorem BlkM.frozen {w : World} {g : Nat} {l : List Msg} (h : BlkM w g l) (i : Nat) : w.frozen? ⟨g, i, none⟩ = false := by simp [World.frozen?, show w.heap[g]? = _ from h]
theorem BlkM.cell {w : World} {g : Nat} {l : List Msg} (_h : BlkM w g l) {j k : Nat} {m : Msg} (hm : l[j]? = some m) {v : Value} (hv : (mcl m)[k]? = some v) : (lcl l).toArray[j * 7 + k]? = some v := by
  have hk : k < 7 := (List.getElem?_eq_some_iff.1 hv).1
  rw [List.getElem?_toArray, lcl_at l j k hk, hm]; exact hv
theorem BlkM.at7 {w : World} {g : Nat} {l : List Msg} (h : BlkM w g l) {j : Nat} {m : Msg} (hm : l[j]? = some m) : At7 w ((⟨g, 0, none⟩ : Addr).add (j * 7)) m := At7.of_cells fun k v hv => by
  rw [Go.Deep.add_add]
  have e : ((⟨g, 0, none⟩ : Addr).add (j * 7 + k)) = ⟨g, j * 7 + k, none⟩ := by unfold Addr.add; split <;> simp_all
  rw [e, cell_of h, h.cell hm hv]
theorem BlkM.msgs {w : World} {g : Nat} {l : List Msg} (h : BlkM w g l) : Msgs w w.heap.size (some ⟨g, 0, none⟩) l := fun _ => ⟨_, rfl, h.lt, fun _ _ hm => h.at7 hm⟩
theorem BlkM.same {w : World} {g : Nat} {l : List Msg} (h : BlkM w g l) {j k : Nat} {m : Msg} (hm : l[j]? = some m) {v : Value} (hv : (mcl m)[k]? = some v) : w.setCell ⟨g, j * 7 + k, none⟩ v = w := setCell_is h (h.cell hm hv)

set_option maxRecDepth 100000 in
set_option maxHeartbeats 2000000 in
theorem ownTexts_any (g : Nat) (l : List Msg) (c : Nat) (w : World) (hg : BlkM w g l) (hl : l.length ≤ 1000) (hd : ∀ m ∈ l, m.data.size ≤ 140737488351232) :
    Calls Tryd.prog 87 #[.slice (some ⟨g, 0, none⟩) l.length c] w fun e w' => e = .returned (.slice (some ⟨g, 0, none⟩) l.length c) ∧ Below w.heap.size w w' := by
  have HG := Lib.hid hg
  have HD := Lib.hid hd
  clear hg hd
  go_enter Tryd.func87, Tryd.ntmps87
  go_wp2
  go_loopw [3, 6] (fun _ i wr => ∃ k : Nat, k ≤ l.length ∧ i = .int .i64 k ∧ Below w.heap.size w wr) (fun _ i _ => l.length - (intOf i).toNat)
  case atStart => exact ⟨0, by omega, rfl, Below.refl _ _⟩
  case round =>
    obtain ⟨k, hk, rfl, hb⟩ := hrel
    have HB := Lib.hid hb
    by_cases hlt : k < l.length
    · have hltI : (k : Int) < (l.length : Int) := by omega
      obtain ⟨m, hm⟩ : ∃ m, l[k]? = some m := ⟨_, List.getElem?_eq_getElem hlt⟩
      have hd : m.data.size ≤ 281474976710656 := by have := HD.out m (List.mem_of_getElem? hm); omega
      have co := fun W => owned_any m W hd
      have HG1 := Lib.hid (HG.out.on hb)
      obtain ⟨y0, y1, y2, y3, y4, y5, y6⟩ := HG1.out.at7 hm
      have HM := Lib.hid hm
      have hof : ((⟨g, 0, none⟩ : Addr).add (k * 7)) = ⟨g, k * 7, none⟩ := by unfold Addr.add; split <;> simp_all
      rw [hof] at y0 y1 y2 y3 y4 y5 y6
      clear hb hd hm hof
      obtain ⟨e1, n1, s1, i1, q1, k1, d1⟩ := m
      simp only [mv] at *
      go_wp2_with fail
      refine (co _).mono ?_; rintro e w1 ⟨rfl, b1⟩
      have HB1 := Lib.hid (HB.out.trans (b1.mono HB.out.size))
      have hg1 := HG1.out.on b1
      clear y0 y1 y2 y3 y4 y5 y6
      obtain ⟨y0, y1, y2, y3, y4, y5, y6⟩ := hg1.at7 HM.out
      have hof : ((⟨g, 0, none⟩ : Addr).add (k * 7)) = ⟨g, k * 7, none⟩ := by unfold Addr.add; split <;> simp_all
      rw [hof] at y0 y1 y2 y3 y4 y5 y6
      have r0 := hg1.same HM.out (k := 0) (v := .bool e1) rfl
      have r1 := hg1.same HM.out (k := 1) (v := .int .i64 n1) rfl
      have r2 := hg1.same HM.out (k := 2) (v := .int .i64 s1) rfl
      have r3 := hg1.same HM.out (k := 3) (v := .int .i64 i1) rfl
      have r4 := hg1.same HM.out (k := 4) (v := .int .i64 q1) rfl
      have r5 := hg1.same HM.out (k := 5) (v := .int .i64 k1) rfl
      have r6 := hg1.same HM.out (k := 6) (v := .string d1) rfl
      rw [Nat.add_zero] at r0
      have yf := hg1.frozen
      clear hg1 b1 hof co
      go_wp2_with fail
      go_roundw
      case rel => exact ⟨k + 1, by omega, by go_num, HB1.out⟩
      case measure => simp [intOf]; omega
    · have hltI : ¬ (k : Int) < (l.length : Int) := by omega
      clear hb
      go_wp2
      go_ret
      exact ⟨rfl, HB.out⟩

end Go.Proofs.YtehajmockicilaaDoor

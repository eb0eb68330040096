/-
  What the program's Sort does.
-/
import Derived.Test.YtgolnklgbhilaaaDoorMsgStable
import Derived.Test.YtgolnklgbhilaaaDoorMsgAsm
namespace Go.Proofs.YtgolnklgbhilaaaDoor
open Go.RowKit Go.Lib

theorem box_below {W W' : World} {B : Nat} {t : TypeId} {v : Value} (h : Boxed W B t v) (hb : Below W.heap.size W W') : Boxed W' B t v := (hb.block B h.lt).trans h
/-- The same data stored into a message of the call's own: nothing has turned. -/
theorem data_again {W : World} {p : Nat} {m : Msg} (h : MsgAt W p m) : W.setCell ⟨p, 6, none⟩ (.string m.data) = W := by
  have hl := (Array.getElem?_eq_some_iff.1 h).1
  show ({ W with heap := _ } : World) = W
  have e : (W.setCell ⟨p, 6, none⟩ (.string m.data)).heap = W.heap := by
    apply Array.ext_getElem?
    intro k
    by_cases hk : k = p
    · subst hk
      have := set_blk h 6 (.string m.data)
      rw [this]
      rw [show W.heap[k]? = _ from h]
      rfl
    · exact Below.heap_setCell W _ _ k hk
  exact congrArg (fun hh => ({ W with heap := hh } : World)) e

set_option maxRecDepth 100000 in
set_option maxHeartbeats 4000000 in
theorem sortP_any (A : Option Addr) (c B : Nat) (l : List Msg) (w : World) (L : Laid w) (h : Msgs w B A l) (hB : B ≤ w.heap.size) (hl : l.length ≤ 19) (hd : ∀ (j : Nat) (m : Msg), l[j]? = some m → m.data.size ≤ 281474976710656) :
    Calls Tryd.prog 21 #[.slice A l.length c] w fun e w' => ∃ u, e = .returned u ∧ OwnM w' w.heap.size u (sortL l) ∧ Below w.heap.size w w' := by
  have hb1 := Joins.below_alloc1 w (.cells #[.slice none 0 0] 40)
  have hbx := Boxed.new w 40 (.slice none 0 0)
  have hsz : (w.alloc (.cells #[.slice none 0 0] 40)).heap.size = w.heap.size + 1 := World.size_alloc _ _
  go_enter Tryd.func21, Tryd.ntmps21
  go_wp2
  go_loopw [8] (fun i wr => ∃ k : Nat, k ≤ l.length ∧ i = .int .i64 (k : Int) ∧ ∃ u, Boxed wr w.heap.size 40 u ∧ OwnM wr (w.heap.size + 1) u (keptL (l.take k)) ∧ Below w.heap.size w wr ∧ w.heap.size + 1 ≤ wr.heap.size) (fun i _ => l.length - (intOf i).toNat)
  case atStart => exact ⟨0, by omega, rfl, _, hbx, OwnM.nil _ _, hb1, by rw [hsz]; exact Nat.le_refl _⟩
  case round =>
    obtain ⟨k, hk, rfl, u, hbox, hown, hb, hsw⟩ := hrel
    have hl0 := h.below hb hB
    have hkl := kept_length (l.take k)
    rw [List.length_take] at hkl
    by_cases hlt : k < l.length
    · obtain ⟨m, hm⟩ : ∃ m, l[k]? = some m := ⟨_, List.getElem?_eq_getElem hlt⟩
      have hkt := kept_take l k m hm
      obtain ⟨ad, rfl, hadb, hc⟩ := hl0 (by omega)
      have hcm := hc k m hm
      have hdm := hd k m hm
      have hL := L.below hb
      have cr := fun w L => right_any m.ext m.n w L
      have cc := fun w => clone_any m.data hdm w
      have hM := (show MsgAt (wr.alloc (.cells (mc m) 25)) wr.heap.size m from heap_alloc_new wr _)
      have hb2 := Joins.below_alloc1 wr (.cells (mc m) 25)
      have hL2 := hL.below hb2
      generalize keptL (l.take k) = out at *
      have HKT := Lib.hid hkt; clear hkt
      have HBOX := Lib.hid (box_below hbox hb2)
      have HOWN := Lib.hid (hown.on hb2)
      have HB := Lib.hid (hb.trans (hb2.mono hb.size))
      clear hc hl0 hown hbox
      obtain ⟨x0, x1, x2, x3, x4, x5, x6⟩ := hcm
      simp only [mc] at hM hL2 HBOX HOWN HB hb2
      have hne : w.heap.size ≠ wr.heap.size := by omega
      have HS := Lib.hid (show w.heap.size + 1 ≤ (wr.alloc (.cells #[.bool m.ext, .int .i64 m.n, .int .i64 m.sender, .int .i64 m.inc, .int .i64 m.seq, .int .i64 m.number, .string m.data] 25)).heap.size by rw [World.size_alloc]; omega)
      generalize hW2 : wr.alloc (.cells #[.bool m.ext, .int .i64 m.n, .int .i64 m.sender, .int .i64 m.inc, .int .i64 m.seq, .int .i64 m.number, .string m.data] 25) = W2 at *
      obtain ⟨_, y0, y1, y2, y3, y4, y5, y6⟩ := Holds.of_blk hM
      cases hri : rightI m.ext m.n
      · rw [hri] at cr
        have HRI := Lib.hid hri; clear hri
        go_wp2_with fail
        refine (cr _ hL2).mono ?_
        rintro e w3 ⟨rfl, b3⟩
        have HS3 := Lib.hid b3.size
        go_wp2_with fail
        go_roundw
        case rel => exact ⟨k + 1, by omega, by go_num, u, box_below HBOX.out b3, by rw [HKT.out, HRI.out]; exact HOWN.out.on b3, HB.out.trans (b3.mono HB.out.size), by have := HS3.out; have := HS.out; omega⟩
        case measure => simp [intOf]; omega
      · rw [hri] at cr
        have HRI := Lib.hid hri; clear hri
        go_wp2_with fail
        refine (cr _ hL2).mono ?_
        rintro e w3 ⟨rfl, b3⟩
        have hM3 := hM.on b3
        have HBOX3 := Lib.hid (box_below HBOX.out b3)
        have HOWN3 := Lib.hid (HOWN.out.on b3)
        have HB3 := Lib.hid (HB.out.trans (b3.mono HB.out.size))
        have HS3 := Lib.hid (show w.heap.size + 1 ≤ w3.heap.size by have := b3.size; have := HS.out; omega)
        clear x0 x1 x2 x3 x4 x5 x6 y0 y1 y2 y3 y4 y5 y6 hM hb2 hL2 hW2 b3 HBOX HOWN HB HS
        obtain ⟨_, y0, y1, y2, y3, y4, y5, y6⟩ := Holds.of_blk hM3
        go_wp2_with fail
        refine (cc _).mono ?_
        rintro e w4 ⟨rfl, b4⟩
        have hM4 := hM3.on b4
        have HBOX4 := Lib.hid (box_below HBOX3.out b4)
        have HOWN4 := Lib.hid (HOWN3.out.on b4)
        have HB4 := Lib.hid (HB3.out.trans (b4.mono HB3.out.size))
        have HS4 := Lib.hid (show w.heap.size + 1 ≤ w4.heap.size by have := b4.size; have := HS3.out; omega)
        clear y0 y1 y2 y3 y4 y5 y6 hM3 b4 HBOX3 HOWN3 HB3 HS3
        obtain ⟨_, y0, y1, y2, y3, y4, y5, y6⟩ := Holds.of_blk hM4
        have hfz : w4.frozen? ⟨wr.heap.size, 6, none⟩ = false := frozen_of_heap hM4 6
        have hag := data_again hM4
        have hc4 := HBOX4.out.cell
        have hfar : ∀ g, u.ownBlock = some g → w.heap.size + 1 ≤ g := fun g e => (HOWN4.out.own g e).1
        have HBX : Hid (∀ w5, (w4.alloc (.cells (mc m) 25)).grownBy w5 u.ownBlock → Boxed w5 w.heap.size 40 u) := Lib.hid fun w5 hg => (HBOX4.out.alloc _).kept hg (fun e => by have := hfar _ e.symm; omega)
        have HBL : Hid (∀ w5, (w4.alloc (.cells (mc m) 25)).grownBy w5 u.ownBlock → Below w.heap.size w w5) := Lib.hid fun w5 hg => (HB4.out.alloc (by have := HS4.out; omega) _).grown hg (by have := HS4.out; simp; omega) (fun g e => by have := hfar g e; omega)
        have HS5 : Hid (∀ w5, (w4.alloc (.cells (mc m) 25)).grownBy w5 u.ownBlock → w.heap.size + 1 ≤ w5.heap.size) := Lib.hid fun w5 hg => by have h1 := hg.size; rw [World.size_alloc] at h1; have := HS4.out; omega
        clear hfar
        go_wp2_with (at_builtin; refine list_appM (by rfl) _ _ rfl (w.heap.size + 1) (w4.alloc (.cells (mc m) 25)).heap.size u out [m] (some ⟨w4.heap.size, 0, none⟩) 1 rfl rfl (HOWN4.out.on (Joins.below_alloc1 w4 _)) (Msgs.one (heap_alloc_new w4 _)) (by have := HS4.out; simp; omega) (by simp; omega) ?_; intro u' w5 hown5 hg5; obtain ⟨A', c', rfl, _, _⟩ := hown5.row; rw [show (out ++ [m]).length = out.length + 1 from by simp] at hown5; have hbx5 := HBX.out w5 hg5; have hc5 := hbx5.cell; have hf5 := hbx5.frozen; have HOWN5 := Lib.hid hown5; have HBX5 := Lib.hid hbx5; have HB5 := Lib.hid (HBL.out w5 hg5); clear hown5 hbx5 hc4)
        have hne5 : ∀ g, (Value.slice A' (out.length + 1) c').ownBlock = some g → g ≠ w.heap.size := fun g e => by have := (HOWN5.out.own g e).1; omega
        have hs5 := HS5.out w5 hg5
        go_roundw
        case rel => exact ⟨k + 1, by omega, by go_num, _, HBX5.out.set _, by rw [HKT.out, HRI.out, if_pos rfl]; exact HOWN5.out.far fun g e => Below.heap_setCell w5 ⟨w.heap.size, 0, none⟩ _ g (hne5 g e), HB5.out.setCell (p := ⟨w.heap.size, 0, none⟩) (Nat.le_refl _) _, by simp [World.setCell]; omega⟩
        case measure => simp [intOf]; omega
    · have ek : k = l.length := by omega
      subst ek
      rw [List.take_length] at hown
      have hc := hbox.cell
      have hss := sliceStable_any w L w.heap.size (w.heap.size + 1) u (keptL l) wr hb (Nat.le_refl _) (by omega) (by have := kept_length l; omega) hbox hown
      rw [← sortL_kept] at hss
      go_wp2_with fail
      refine hss.mono ?_
      rintro e w3 ⟨rfl, hb3, hbox3, hown3⟩
      have hc3 := hbox3.cell
      go_wp2_with fail
      go_ret
      exact ⟨_, rfl, hown3.base (by omega), hb3⟩

end Go.Proofs.YtgolnklgbhilaaaDoor

/-
  The program's Begin: the document's.
-/
import Derived.Test.YtlgbgkiajhcneaaLatCall
namespace Go.Proofs.Ytlgbgkiajhcneaa
open Go.RowKit

set_option maxRecDepth 100000 in
set_option maxHeartbeats 1000000 in
theorem begin_any (la lg n : Int) (w : World) :
    Calls Try.prog 22 #[lv la lg, .int .i64 n] w fun e w' => e = .returned (.tuple #[.int .i64 (begV la lg n), .int .i64 (errB (begB la lg n))]) ∧ Below w.heap.size w w' := by
  have hL := LtAt.new w la lg
  have hB0 := Joins.below_alloc1 w (.cells #[.int .i64 la, .int .i64 lg] 23)
  obtain ⟨W1, hW1⟩ : ∃ W, W = w.alloc (.cells #[.int .i64 la, .int .i64 lg] 23) := ⟨_, rfl⟩
  have hs1 : W1.heap.size = w.heap.size + 1 := by rw [hW1, World.size_alloc]
  rw [← hW1] at hL hB0
  have hX := BxAt.new W1 n
  have hC := Joins.below_alloc1 W1 (.cells #[.int .i64 n] 3)
  obtain ⟨W2, hW2⟩ : ∃ W, W = W1.alloc (.cells #[.int .i64 n] 3) := ⟨_, rfl⟩
  have hs2 : W2.heap.size = w.heap.size + 2 := by rw [hW2, World.size_alloc, hs1]
  rw [← hW2] at hX hC
  rw [hs1] at hX
  have hL2 := hL.on hC
  have hB1 := hB0.trans (hC.mono (by rw [hs1]; omega))
  have hrow := Row.new W2 [n]
  have hCt := Joins.below_alloc1 W2 (.cells #[.int .i64 n] 3)
  obtain ⟨W3, hW3⟩ : ∃ W, W = W2.alloc (.cells #[.int .i64 n] 3) := ⟨_, rfl⟩
  have hs3 : W3.heap.size = w.heap.size + 3 := by rw [hW3, World.size_alloc, hs2]
  have hrow2 : Row W3 W3.heap.size (some ⟨w.heap.size + 2, 0, none⟩) [n] := by rw [hW3, World.size_alloc, ← hs2]; exact hrow
  rw [← hW3] at hCt
  have hLm := hL2.on hCt
  have hXm := hX.on hCt
  have hBt := hB1.trans (hCt.mono (by rw [hs2]; omega))
  have HP : Hid (mayL la lg n = true → -21990232555520000 ≤ n * (la + lg) ∧ n * (la + lg) ≤ 21990232555520000) := Lib.hid (fun h => by
    obtain ⟨⟨⟨a0, a1⟩, g0, g1⟩, t0, t1⟩ := (mayL_iff la lg n).1 h
    exact prod_bound ⟨t0, t1⟩ (by omega))
  have hg := guardBegin la lg (some ⟨w.heap.size + 2, 0, none⟩) 1 [n] (by simp) ⟨w.heap.size + 1, 0, none⟩ (n * (la + lg)) W3 hrow2 (fun hr ht W hb => by
    have hm : mayL la lg n = true := by unfold mayL; rw [hr, ht n (by simp)]; rfl
    have l0 : w.heap.size + 1 < W.heap.size := by have := hb.size; have := hXm.lt; omega
    have k0 := (hb.cell (p := ⟨w.heap.size + 1, 0, none⟩) hXm.lt).trans hXm.cell
    have := HP.out hm
    exact cBegin_any la (la + lg) (lg / 2) n _ W l0 k0 (by omega))
  rw [sel_may, err_may] at hg
  obtain ⟨y0, y1⟩ := hL2.cells
  have x0 := hX.cell
  have hmf : ∀ (fn : Fn) (first cap : Array Value) (w : World), (Instr.makeFunc fn first cap).run Try.prog w = .ok (.func fn first cap) w := fun _ _ _ _ => rfl
  cases hm : mayL la lg n
  · obtain ⟨e1, e2⟩ := beg_no1 hm
    rw [e1, e2]
    rw [hm] at hg
    have HG := Lib.hid hg
    have HBT := Lib.hid hBt
    clear hg hBt hX hL hLm hXm hrow hrow2 HP hm e1 e2
    subst hW3 hW2 hW1
    go_enter Try.func22, Try.ntmps22
    go_wp2_with fail
    refine HG.out.mono ?_; rintro e v1 ⟨rfl, b1⟩
    have HB9 := Lib.hid (HBT.out.trans (b1.mono HBT.out.size)); clear b1
    have he : errB false = 1 := rfl
    go_wp2_with fail
    go_ret2
    exact ⟨rfl, HB9.out.trans ((Joins.below_alloc1 _ _).mono HB9.out.size)⟩
  · obtain ⟨p0, p1⟩ := HP.out hm
    have hrt : rightL la lg = true := by
      have := (mayL_iff la lg n).1 hm
      rw [rightL_iff]; exact this.1
    have HV : Hid (begV la lg n = (if timeB (n * (la + lg)) then n * (la + lg) else 0) ∧ begB la lg n = timeB (n * (la + lg))) := Lib.hid (by
      cases h2 : timeB (n * (la + lg))
      · exact beg_no2 h2
      · exact beg_of hm h2)
    rw [hm] at hg
    simp only [if_true] at hg
    generalize n * (la + lg) = P at *
    have he : errB true = 0 := rfl
    rw [he] at hg
    have HG := Lib.hid hg
    have HBT := Lib.hid hBt
    have HLm := Lib.hid hLm
    clear hg hBt hX hL hLm hXm hrow hrow2 HP hm he
    subst hW3 hW2 hW1
    go_enter Try.func22, Try.ntmps22
    go_wp2_with fail
    refine HG.out.mono ?_; rintro e v1 ⟨rfl, b1⟩
    have HB9 := Lib.hid (HBT.out.trans (b1.mono HBT.out.size))
    have hlv := HLm.out.on b1
    have hlv2 := hlv.on (Joins.below_alloc1 v1 (.cells #[.int .i64 P] 3))
    have hbx := BxAt.new v1 P
    have hbx2 := hbx.on (Joins.below_alloc1 _ (.cells #[.int .i64 P] 3))
    have hrw := Row.new (v1.alloc (.cells #[.int .i64 P] 3)) [P]
    have HB10 := Lib.hid (HB9.out.trans ((Joins.below_alloc2 v1 (.cells #[.int .i64 P] 3) (.cells #[.int .i64 P] 3)).mono HB9.out.size))
    have hg2 := guardBegin2 la lg (some ⟨v1.heap.size + 1, 0, none⟩) 1 [P] (by simp) ⟨v1.heap.size, 0, none⟩ P ((v1.alloc (.cells #[.int .i64 P] 3)).alloc (.cells #[.int .i64 P] 3)) (by rw [World.size_alloc] at hrw ⊢; rw [World.size_alloc]; exact hrw) (fun hr ht W hb => by
      have l0 : v1.heap.size < W.heap.size := by have := hb.size; have := hbx2.lt; omega
      have k0 := (hb.cell (p := ⟨v1.heap.size, 0, none⟩) hbx2.lt).trans hbx2.cell
      exact cBegin2_any la (la + lg) (lg / 2) P _ W l0 k0)
    rw [sel_may, err_may, may_right hrt, ← HV.out.1, ← HV.out.2] at hg2
    have HG2 := Lib.hid hg2
    obtain ⟨z0, z1⟩ := hlv2.cells
    have x1 := hbx.cell
    clear hg2 hrw hbx2 hbx hlv2 hlv b1 y0 y1 x0 hrt
    go_wp2_with fail
    refine HG2.out.mono ?_; rintro e v2 ⟨rfl, b2⟩
    have HB11 := Lib.hid (HB10.out.trans (b2.mono HB10.out.size)); clear b2
    go_wp2_with fail
    go_ret2
    exact ⟨rfl, HB11.out⟩

end Go.Proofs.Ytlgbgkiajhcneaa

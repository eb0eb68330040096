/-
  The library's Join of texts without a separator.
-/
import Derived.Test.YtggeojjiongbbaaFragShelf
import Derived.BigRegion
namespace Go.Proofs.Ytggeojjiongbbaa
open Go.Shelf
open Go.RowKit

set_option maxHeartbeats 2000000 in
set_option maxRecDepth 100000 in
theorem grow_any (B b n : Nat) (w : World) (hB : B ≤ b) (hbk : w.heap[b]? = some (.cells #[.pointer none, .slice none 0 0] 83 (0, 0))) (hBw : B ≤ w.heap.size) (hn : n ≤ 1000000) (hn0 : 0 < n) :
    Calls Try.prog 49 #[.pointer (some ⟨b, 0, none⟩), .int .i64 n] w fun e w' => e = .returned (.tuple #[]) ∧ (Lib.BuilderAt 83 5 B b (.pointer (some ⟨b, 0, none⟩)) [] w' ∧ Below B w w') := by
  have hbk1 : (w.setCell ⟨b, 0, none⟩ (.pointer (some ⟨b, 0, none⟩))).heap[b]? = some (.cells #[.pointer (some ⟨b, 0, none⟩), .slice none 0 0] 83 (0, 0)) := by
    simp [World.setCell, Array.getElem?_modify, hbk]
  have hb1 : Below B w (w.setCell ⟨b, 0, none⟩ (.pointer (some ⟨b, 0, none⟩))) := (Below.refl B w).setCell (p := ⟨b, 0, none⟩) hB _
  have hU : Lib.BuilderAt 83 5 B b (.pointer (some ⟨b, 0, none⟩)) [] (w.setCell ⟨b, 0, none⟩ (.pointer (some ⟨b, 0, none⟩))) := ⟨hB, .slice none 0 0, hbk1, World.ownsRow_nil _ _ _ _, by simp [Value.ownBlock]⟩
  have hcc := copyCheck_fresh b w (by rw [Lib.cell_of_heap hbk]; rfl) (by simp [World.shape?, hbk]) (Lib.frozen_of_heap hbk 0)
  have hsz : (w.setCell ⟨b, 0, none⟩ (.pointer (some ⟨b, 0, none⟩))).heap.size = w.heap.size := by simp
  generalize hW1 : w.setCell ⟨b, 0, none⟩ (.pointer (some ⟨b, 0, none⟩)) = W1 at *
  have c1 : W1.cell? ⟨b, 1, none⟩ = some (.slice none 0 0) := by rw [Lib.cell_of_heap hbk1]; rfl
  have cg := Any.Builder_grow_fresh lays241 Builder_Extra_169 B b n W1.drew hB hbk1 (by show B ≤ W1.heap.size; omega) (by omega)
  have cg : Calls Try.prog 55 #[.pointer (some ⟨b, 0, none⟩), .int .i64 n] W1.drew fun e w' => e = .returned (.tuple #[]) ∧ (Lib.BuilderAt 83 5 B b (.pointer (some ⟨b, 0, none⟩)) [] w' ∧ Below B W1.drew w') := cg
  have HB1 := Lib.hid hb1; clear hb1
  have HU := Lib.hid hU; clear hU
  have HBK := Lib.hid hbk1; clear hbk1 hbk hW1 hsz
  have hn' : (n : Int) ≤ 1000000 := by omega
  go_enter Try.func49, Try.ntmps49
  go_wp2_with fail; refine hcc.mono ?_; rintro e w1 ⟨rfl, rfl⟩
  go_wp2_with fail
  go_region
  go_wp2_with fail; refine cg.mono ?_; rintro e w2 ⟨rfl, h2, b2⟩
  have H2 := Lib.hid h2; clear h2
  have HB2 := Lib.hid (HB1.out.drew.trans b2); clear b2
  go_wp2_with fail
  go_end0
  exact ⟨rfl, H2.out, HB2.out⟩

theorem strCells_app (a b : ByteArray) : Lib.strCells (a ++ b) = Lib.strCells a ++ Lib.strCells b := by
  unfold Lib.strCells
  simp
theorem strCells_none : Lib.strCells ⟨#[]⟩ = [] := rfl
theorem join_size (l : List ByteArray) (h : ∀ d ∈ l, d.size ≤ 16) : ∀ k, k ≤ l.length → (joinT (l.take k)).size ≤ 16 * k
  | 0, _ => by simp [joinT]; rfl
  | k + 1, hk => by
    have hd : l[k]? = some l[k] := List.getElem?_eq_getElem (by omega)
    rw [join_take hd, ByteArray.size_append]
    have := join_size l h k (by omega)
    have := h l[k] (List.getElem_mem _)
    omega

theorem join_pos (l : List ByteArray) (h1 : 1 ≤ l.length) (h : ∀ d ∈ l, 1 ≤ d.size) : 0 < (joinT l).size := by
  have hd : l[l.length - 1]? = some l[l.length - 1] := List.getElem?_eq_getElem (by omega)
  have e := join_take hd
  rw [Nat.sub_add_cancel h1, List.take_length] at e
  rw [e, ByteArray.size_append]
  have := h l[l.length - 1] (List.getElem_mem _)
  omega

set_option maxHeartbeats 4000000 in
set_option maxRecDepth 100000 in
theorem join_any (A : Option Addr) (c : Nat) (l : List ByteArray) (w : World) (hA : Strs w w.heap.size A l) (h1 : 1 ≤ l.length) (h20 : l.length ≤ 20) (hc : l.length ≤ c) (hz : ∀ d ∈ l, d.size ≤ 16) (hf : ∀ d ∈ l, 1 ≤ d.size) :
    Calls Try.prog 38 #[.slice A l.length c, .string ⟨#[]⟩] w fun e w' => e = .returned (.string (joinT l)) ∧ Below w.heap.size w w' := by
  have JS := Lib.hid (fun k hk => join_size l hz k hk)
  have HZ := Lib.hid hz; clear hz
  have HF := Lib.hid hf; clear hf
  obtain ⟨ad, rfl, hlt, hcell⟩ := hA (by omega)
  have HC := Lib.hid hcell; clear hcell hA
  by_cases hone : l.length = 1
  · obtain ⟨d, rfl⟩ : ∃ d, l = [d] := List.length_eq_one_iff.1 hone
    have c0 := HC.out 0 d rfl
    have e0 : ad.add 0 = ad := by unfold Addr.add; rfl
    rw [e0] at c0
    have HV : Hid (joinT [d] = d) := Lib.hid (by show (⟨#[]⟩ : ByteArray) ++ d = d; exact ByteArray.empty_append)
    clear hone e0
    go_enter Try.func38, Try.ntmps38
    go_wp2_with fail
    go_ret
    exact ⟨by rw [HV.out]; rfl, Below.refl _ _⟩
  · have h2 : 2 ≤ l.length := by omega
    have hne1 : ((l.length : Int) == 1) = false := beq_eq_false_iff_ne.2 (by omega)
    have hne0 : ((l.length : Int) == 0) = false := beq_eq_false_iff_ne.2 (by omega)
    go_enter Try.func38, Try.ntmps38
    go_wp2_with fail
    go_loopw [5, 41] (fun n ix wr => ∃ k : Nat, k ≤ l.length ∧ ix = .int .i64 k ∧ n = .int .i64 (joinT (l.take k)).size ∧ w = wr) (fun _ ix _ => l.length - (intOf ix).toNat)
    case atStart => exact ⟨0, by omega, rfl, rfl, rfl⟩
    case round =>
      obtain ⟨k, hk, rfl, rfl, rfl⟩ := hrel
      by_cases hk2 : k < l.length
      · obtain ⟨d, hd⟩ : ∃ d, l[k]? = some d := ⟨_, List.getElem?_eq_getElem hk2⟩
        have hck := HC.out k d hd
        have hds := HZ.out d (List.mem_of_getElem? hd)
        have hj := JS.out k hk
        have HT : Hid ((joinT (l.take (k + 1))).size = (joinT (l.take k)).size + d.size) := Lib.hid (by rw [join_take hd, ByteArray.size_append])
        clear hd
        generalize (joinT (l.take k)).size = N at *
        go_wp2_with fail
        go_roundw
        case rel => exact ⟨k + 1, by omega, by go_num, by rw [HT.out]; go_num, trivial⟩
        case measure => simp [intOf]; omega
      · have ek : k = l.length := by omega
        subst ek
        rw [List.take_length]
        have hj := JS.out l.length (Nat.le_refl _)
        rw [List.take_length] at hj
        have hpos := join_pos l h1 HF.out
        have cgr := fun W B b hB hbk hBw => grow_any B b (joinT l).size W hB hbk hBw (by omega) hpos
        obtain ⟨d0, hd0⟩ : ∃ d, l[0]? = some d := ⟨_, List.getElem?_eq_getElem (by omega)⟩
        have hs0 := HZ.out d0 (List.mem_of_getElem? hd0)
        have c0 := HC.out 0 d0 hd0
        have e0 : ad.add 0 = ad := by unfold Addr.add; rfl
        rw [e0] at c0
        have HD0 := Lib.hid hd0
        have b0 := Joins.below_alloc1 w (.cells #[.pointer none, .slice none 0 0] 83)
        generalize hNN : (joinT l).size = NN at *
        clear hNN e0 hd0
        go_wp2_with fail; refine (cgr _ w.heap.size w.heap.size (Nat.le_refl _) (heap_alloc_new w _) (by simp)).mono ?_; rintro e w1 ⟨rfl, hbl, b1⟩
        have HB1 := Lib.hid (b0.trans b1)
        have c01 := (HB1.out.cell hlt).trans c0
        have HBL := Lib.hid hbl
        clear hbl b1 b0 c0 cgr
        go_wp2_with fail; refine (writeString_any w.heap.size w.heap.size [] d0 w1 (.inr HBL.out) (by simp; omega) HB1.out.size).mono ?_; rintro e w2 ⟨rfl, hbl2, b2, -⟩
        have HB2 := Lib.hid (HB1.out.trans (b2.mono (Nat.le_refl _)))
        have HBL2 := Lib.hid hbl2
        clear hbl2 b2 HBL
        have hc2 : ¬ c = 1 := by omega
        have hsub : (l.length : Int) - 1 = ((l.length - 1 : Nat) : Int) := by omega
        have hB1 : Lib.BuilderAt 83 5 w.heap.size w.heap.size (.pointer (some ⟨w.heap.size, 0, none⟩)) (Lib.strCells (joinT (l.take (0 + 1)))) w2 := by
          rw [join_take HD0.out, List.take_zero]
          have e : joinT [] ++ d0 = d0 := ByteArray.empty_append
          rw [e]
          exact HBL2.out
        have HBL3 := Lib.hid hB1
        clear hB1
        go_wp2_with fail
        go_loopw [65] (fun ix wr => ∃ k : Nat, k ≤ l.length - 1 ∧ ix = .int .i64 k ∧ Lib.BuilderAt 83 5 w.heap.size w.heap.size (.pointer (some ⟨w.heap.size, 0, none⟩)) (Lib.strCells (joinT (l.take (k + 1)))) wr ∧ Below w.heap.size w wr) (fun ix _ => l.length - 1 - (intOf ix).toNat)
        case atStart => exact ⟨0, by omega, rfl, HBL3.out, HB2.out⟩
        case round =>
          obtain ⟨k, hk9, rfl, hbl9, hb9⟩ := hrel
          have HB9 := Lib.hid hb9; clear hb9
          have HBL9 := Lib.hid hbl9; clear hbl9
          by_cases hk3 : k + 1 < l.length
          · obtain ⟨d, hd⟩ : ∃ d, l[k + 1]? = some d := ⟨_, List.getElem?_eq_getElem hk3⟩
            have hck := (HB9.out.cell (p := ad.add (k + 1)) (by rw [adb_s]; exact hlt)).trans (HC.out (k + 1) d hd)
            have hds := HZ.out d (List.mem_of_getElem? hd)
            have hj9 := JS.out (k + 1) (by omega)
            have HT : Hid (joinT (l.take (k + 1 + 1)) = joinT (l.take (k + 1)) ++ d) := Lib.hid (join_take hd)
            clear hd
            have ea : ad.add (k + 1) = ⟨ad.block, ad.off + 1 + k, none⟩ := by unfold Addr.add; rw [if_neg (by omega), show ad.off + (k + 1) = ad.off + 1 + k by omega]
            rw [ea] at hck
            clear ea c01
            have hs9 : (Lib.strCells (joinT (l.take (k + 1)))).length = (joinT (l.take (k + 1))).size := Lib.strCells_length _
            have HS9 := Lib.hid hs9; clear hs9
            go_wp2_with fail; refine (writeString_any w.heap.size w.heap.size _ ⟨#[]⟩ wr (.inr HBL9.out) (by rw [HS9.out]; show _ + 0 ≤ 1000; omega) HB9.out.size).mono ?_; rintro e w3 ⟨rfl, hbl3, b3, -⟩
            have HB3 := Lib.hid (HB9.out.trans (b3.mono (Nat.le_refl _)))
            rw [strCells_none, List.append_nil] at hbl3
            have HBL4 := Lib.hid hbl3
            clear hbl3 b3
            go_wp2_with fail; refine (writeString_any w.heap.size w.heap.size _ d w3 (.inr HBL4.out) (by rw [HS9.out]; omega) HB3.out.size).mono ?_; rintro e w4 ⟨rfl, hbl5, b4, -⟩
            have HB4 := Lib.hid (HB3.out.trans (b4.mono (Nat.le_refl _)))
            rw [← strCells_app, ← HT.out] at hbl5
            have HBL5 := Lib.hid hbl5
            clear hbl5 b4 hck
            go_wp2_with fail
            go_roundw
            case rel => exact ⟨k + 1, by omega, by go_num, HBL5.out, HB4.out⟩
            case measure => simp [intOf]; omega
          · have ek : k = l.length - 1 := by omega
            subst ek
            have hbl := HBL9.out
            rw [Nat.sub_add_cancel (by omega), List.take_length] at hbl
            have HBL4 := Lib.hid hbl
            clear hbl c01
            go_wp2_with fail; refine (Builder_String_any_k w.heap.size w.heap.size (joinT l).data.toList wr (Lib.IsBuilderF.of (.inr HBL4.out)) HB9.out.size).mono ?_; rintro e w3 ⟨rfl, -, b3, -⟩
            have HB3 := Lib.hid (HB9.out.trans (b3.mono (Nat.le_refl _)))
            clear b3
            go_wp2_with fail
            go_ret
            exact ⟨rfl, HB3.out⟩

end Go.Proofs.Ytggeojjiongbbaa

/-
  The library's insertion sort, stable sort and SliceStable, at a row of messages by the program's closure.
-/
import Derived.Test.YtgolnklgbhilaaaDoorMsgSortC
namespace Go.Proofs.YtgolnklgbhilaaaDoor
open Go.RowKit Go.Lib

theorem grow_trans {A B C : World} {r : Option Nat} (h : A.grownBy B r) (k : B.grownBy C r) : A.grownBy C r :=
  ⟨k.os.trans h.os, k.tape.trans h.tape, k.output.trans h.output, Nat.le_trans h.size k.size, fun i hi hr => (k.block i (Nat.lt_of_lt_of_le hi h.size) hr).trans (h.block i hi hr)⟩
theorem grow_below {A B : World} (h : Below A.heap.size A B) (r : Option Nat) : A.grownBy B r := ⟨h.os, h.tape, h.output, h.size, fun k hk _ => h.block k hk⟩

theorem swapper_at (n : Nat) (h : 2 ≤ n) (ie : TypeInfo) (hie : Tryd.prog.info? 25 = some ie) : swapperK n ie 25 = 9 := by
  have a : (Tryd.prog.info? 25).map (fun i => (i.hasPointers, i.bytes)) = some (true, 64) := by kernel_rfl
  rw [hie] at a
  simp only [Option.map_some, Option.some.injEq, Prod.mk.injEq] at a
  have c : (n == 0) = false := by simp; omega
  have d : (n == 1) = false := by simp; omega
  simp [swapperK, a.1, a.2, c, d]

/-- What is asked of the swapper, bound to sb, over the row in block g. -/
def Swaps (sb : Array Value) (B g cap n : Nat) : Prop := ∀ (W : World) (l l' : List Msg) (i j : Nat), l.length = n → OwnM W B (.slice (some ⟨g, 0, none⟩) n cap) l → i < n → j < n → Go.Sort.swp l.toArray i j = l'.toArray →
  ∃ W', (callFunc 71 (#[.int .i64 (i : Int), .int .i64 (j : Int)] ++ sb)).run Tryd.prog W = .ok (.value (.tuple #[])) W' ∧ OwnM W' B (.slice (some ⟨g, 0, none⟩) n cap) l' ∧ W.grownBy W' (some g)

theorem swap_any (B g cap n : Nat) : Swaps #[.slice (some ⟨g, 0, none⟩) n cap, typeHandle Tryd.prog 25] B g cap n := by
  intro W l l' i j hn h hi hj hs
  subst hn
  obtain ⟨ie, hie, hz1, _⟩ : ∃ ie, Tryd.prog.info? 25 = some ie ∧ ie.size = 7 ∧ True := by
    obtain ⟨i0, hi, hz0, hz1, hz2⟩ := info_parts msg_info
    exact ⟨i0, hi, hz1, trivial⟩
  have hH := own_holds h
  have hsw := swapSwapsK_of_literal (P := Tryd.prog) false 71
    (fun args W => run_callFunc_extern Tryd.func71 (by kernel_rfl) (by kernel_rfl) (by kernel_rfl) (e := Extern.ReflectliteSwapper.swap false) (by kernel_rfl) args W)
    25 ie hie mcl 7 (fun _ => rfl) hz1 (fun _ => by kernel_rfl) (fun x v hv => by simp [mcl] at hv; rcases hv with rfl | rfl | rfl | rfl | rfl | rfl | rfl <;> rfl) g 0 l.length cap
    W l.toArray hH (by simp) i j hi hj
  have e := Go.Sort.putRowK_swp mcl 7 (fun _ => rfl) W g 0 l.toArray i j (by simpa using hi) (by simpa using hj)
  rw [Go.Sort.putRowK_self mcl 7 W g 0 l.toArray hH, hs] at e
  have hll : l'.length = l.length := by
    have := congrArg Array.size hs
    rw [Go.Sort.size_swp] at this
    simpa using this.symm
  obtain ⟨p1, p2⟩ := own_put h l' hll
  exact ⟨_, hsw, by rw [e]; exact p1, by rw [e]; exact p2⟩

theorem insAll_one (d : List Msg) : insAll (d.take 1) ++ d.drop 1 = d := by
  match d with
  | [] => rfl
  | m :: r => rfl
theorem insAll_full (d : List Msg) (i : Nat) (hi : d.length ≤ i) : insAll (d.take i) ++ d.drop i = insAll d := by
  rw [List.take_of_length_le hi, List.drop_of_length_le hi, List.append_nil]

set_option maxRecDepth 100000 in
set_option maxHeartbeats 4000000 in
theorem insert_any (sb : Array Value) (w0 : World) (L0 : Laid w0) (Bs g B cap : Nat) (d : List Msg) (W : World) (hb : Below w0.heap.size w0 W) (hBs : w0.heap.size ≤ Bs) (hBB : Bs < B) (hd : d.length ≤ 20) (hsw : Swaps sb B g cap d.length)
    (hbox : Boxed W Bs 40 (.slice (some ⟨g, 0, none⟩) d.length cap)) (hown : OwnM W B (.slice (some ⟨g, 0, none⟩) d.length cap) d) :
    Calls Tryd.prog 72 #[.agg #[(.func (.func 40) #[] #[.pointer (some ⟨Bs, 0, none⟩)]), (.func (.func 71) #[] sb)], .int .i64 0, .int .i64 (d.length : Int)] W fun e w' =>
      e = .returned (.tuple #[]) ∧ W.grownBy w' (some g) ∧ OwnM w' B (.slice (some ⟨g, 0, none⟩) d.length cap) (insAll d) := by
  obtain ⟨hgB, hgW⟩ := hown.own g rfl
  have hW1 := World.grownBy_alloc W (.cells #[(.func (.func 40) #[] #[.pointer (some ⟨Bs, 0, none⟩)]), (.func (.func 71) #[] sb)] 98) (some g)
  have hbx : (W.alloc (.cells #[(.func (.func 40) #[] #[.pointer (some ⟨Bs, 0, none⟩)]), (.func (.func 71) #[] sb)] 98)).heap[W.heap.size]? = some (.cells #[(.func (.func 40) #[] #[.pointer (some ⟨Bs, 0, none⟩)]), (.func (.func 71) #[] sb)] 98 (0, 0)) := World.alloc_heap_new W _
  have hown1 : OwnM (W.alloc (.cells #[(.func (.func 40) #[] #[.pointer (some ⟨Bs, 0, none⟩)]), (.func (.func 71) #[] sb)] 98)) B (.slice (some ⟨g, 0, none⟩) d.length cap) d := hown.on (Joins.below_alloc1 W _)
  have hs1 : (W.alloc (.cells #[(.func (.func 40) #[] #[.pointer (some ⟨Bs, 0, none⟩)]), (.func (.func 71) #[] sb)] 98)).heap.size = W.heap.size + 1 := World.size_alloc _ _
  generalize hW1d : W.alloc (.cells #[(.func (.func 40) #[] #[.pointer (some ⟨Bs, 0, none⟩)]), (.func (.func 71) #[] sb)] 98) = W1 at *
  go_enter Tryd.func72, Tryd.ntmps72
  go_wp2
  generalize hn : d.length = n at *
  have HSW := Lib.hid hsw; clear hsw
  have hLaid : Hid (∀ W', W1.grownBy W' (some g) → Laid W' ∧ Boxed W' Bs 40 (.slice (some ⟨g, 0, none⟩) n cap) ∧ W'.heap[W.heap.size]? = some (.cells #[(.func (.func 40) #[] #[.pointer (some ⟨Bs, 0, none⟩)]), (.func (.func 71) #[] sb)] 98 (0, 0))) := Lib.hid fun W' h => by
    have h2 := grow_trans hW1 h
    exact ⟨L0.below (hb.grown h2 hb.size (fun k e => by cases e; omega)), hbox.kept h2 (fun e => by cases e; omega), (h.block _ (by omega) (fun e => by cases e; omega)).trans hbx⟩
  clear hbx hbox hown hW1d
  have HW1 := Lib.hid hW1; clear hW1
  go_loopw [6] (fun vi wr => ∃ i : Nat, vi = .int .i64 (i : Int) ∧ 0 < i ∧ i ≤ n + 1 ∧ W1.grownBy wr (some g) ∧ OwnM wr B (.slice (some ⟨g, 0, none⟩) n cap) (insAll (d.take i) ++ d.drop i)) (fun vi _ => n + 1 - (intOf vi).toNat)
  case atStart => exact ⟨1, rfl, by omega, by omega, World.grownBy.refl _ _, by rw [insAll_one]; exact hown1⟩
  case round =>
    obtain ⟨i, rfl, hi0, hi1, hgr, hrow⟩ := hrel
    have HGR := Lib.hid hgr; clear hgr
    have HROW := Lib.hid hrow; clear hrow
    by_cases hlt : i < n
    · obtain ⟨m, hm⟩ : ∃ m, d[i]? = some m := ⟨_, List.getElem?_eq_getElem (by omega)⟩
      have HST := Lib.hid (rowL_start d i m hm)
      have HIN := Lib.hid (insAll_take d i m hm)
      have hol : (insAll (d.take i)).length = i := by rw [insAll_length, List.length_take]; omega
      have hrl : ∀ j, (rowL (insAll (d.take i)) m j (d.drop (i + 1))).length = n := fun j => by rw [rowL_length, hol, List.length_drop]; omega
      generalize insAll (d.take i) = out at *
      generalize hrs : d.drop (i + 1) = rest at *
      have HRS := Lib.hid hrs; clear hrs
      have HRL := Lib.hid hrl; clear hrl
      have HOL := Lib.hid hol
      clear hm
      have hltI : (i : Int) < (n : Int) := by omega
      go_wp2
      go_loopw [7] (fun vj wr2 => ∃ j : Nat, vj = .int .i64 (j : Int) ∧ j ≤ i ∧ W1.grownBy wr2 (some g) ∧ OwnM wr2 B (.slice (some ⟨g, 0, none⟩) n cap) (rowL out m j rest) ∧ placeM m out i = placeM m out j) (fun vj _ => (intOf vj).toNat)
      case atStart => exact ⟨i, rfl, Nat.le_refl _, HGR.out, by rw [HST.out]; exact HROW.out, rfl⟩
      case round =>
        obtain ⟨j, rfl, hji, hgr2, hrow2, hpl⟩ := hrel
        have HG2 := Lib.hid hgr2
        have HR2 := Lib.hid hrow2; clear hrow2
        have HPL := Lib.hid hpl; clear hpl
        obtain ⟨hL2, hB2, hX2⟩ := hLaid.out _ hgr2
        have q0 : wr.cell? ⟨W.heap.size, 0, none⟩ = some (.func (.func 40) #[] #[.pointer (some ⟨Bs, 0, none⟩)]) := by rw [cell_of_heap hX2]; rfl
        have q1 : wr.cell? ⟨W.heap.size, 1, none⟩ = some (.func (.func 71) #[] sb) := by rw [cell_of_heap hX2]; rfl
        clear hgr2
        have out1 : placeM m out j = j → ∀ wq, W1.grownBy wq (some g) → OwnM wq B (.slice (some ⟨g, 0, none⟩) n cap) (rowL out m j rest) → ∃ i' : Nat, Value.int .i64 ((i : Int) + 1) = .int .i64 (i' : Int) ∧ 0 < i' ∧ i' ≤ n + 1 ∧ W1.grownBy wq (some g) ∧ OwnM wq B (.slice (some ⟨g, 0, none⟩) n cap) (insAll (d.take i') ++ d.drop i') := fun hp wq h1 h2 => by
          refine ⟨i + 1, by go_num, by omega, by omega, h1, ?_⟩
          rw [rowL_end out m j rest (by rw [HOL.out, HPL.out, hp])] at h2
          rw [HIN.out, HRS.out]
          exact h2
        have OUT1 := Lib.hid out1; clear out1
        by_cases hj0 : 0 < j
        · obtain ⟨j', rfl⟩ : ∃ j', j = j' + 1 := ⟨j - 1, by omega⟩
          have hlen := HRL.out (j' + 1)
          have hl := lessC_any Bs g B cap (rowL out m (j' + 1) rest) wr hL2 (by rw [hlen]; exact hB2) (by rw [hlen]; exact HR2.out) (j' + 1) j' m (out.getD j' zeroM) (rowL_at out m (j' + 1) rest (by omega)) (rowL_below out m j' rest (by omega))
          rw [show ((j' + 1 : Nat) : Int) = (j' : Int) + 1 by omega] at hl
          have hjb : (j' : Int) ≤ 20 := by omega
          have hjI : (0 : Int) < ((j' + 1 : Nat) : Int) := by omega
          have hgt : ∀ w3, Below wr.heap.size wr w3 → w3.cell? ⟨W.heap.size, 0, none⟩ = some (.func (.func 40) #[] #[.pointer (some ⟨Bs, 0, none⟩)]) ∧ w3.cell? ⟨W.heap.size, 1, none⟩ = some (.func (.func 71) #[] sb) := fun w3 h3 => by
            have hX3 := (h3.block _ (Array.getElem?_eq_some_iff.1 hX2).1).trans hX2
            exact ⟨by rw [cell_of_heap hX3]; rfl, by rw [cell_of_heap hX3]; rfl⟩
          have HGT := Lib.hid hgt; clear hgt
          have HLEN := Lib.hid hlen; clear hlen
          have HJ := Lib.hid hji; clear hji
          have HL := Lib.hid hol; clear hol
          clear hL2 hB2 hX2
          have hpm : placeM m out (j' + 1) = if lessM m (out.getD j' zeroM) = true then placeM m out j' else j' + 1 := rfl
          have HPM := Lib.hid hpm; clear hpm
          cases hlv : lessM m (out.getD j' zeroM)
          · rw [hlv] at hl
            have HLV := Lib.hid hlv; clear hlv
            go_wp2_with fail
            refine hl.mono ?_
            rintro e w3 ⟨rfl, b3⟩
            go_wp2_with fail
            go_roundw
            case rel => exact OUT1.out (by rw [HPM.out, HLV.out]; rfl) _ (grow_trans HG2.out (grow_below b3 _)) (HR2.out.on b3)
            case measure => simp [intOf]; omega
          · rw [hlv] at hl
            have HLV := Lib.hid hlv; clear hlv
            go_wp2_with fail
            refine hl.mono ?_
            rintro e w3 ⟨rfl, b3⟩
            clear q0 q1
            obtain ⟨q0, q1⟩ := HGT.out _ b3
            go_wp2_with fail
            obtain ⟨W', hs, hO, hg2⟩ := HSW.out w3 (rowL out m (j' + 1) rest) (rowL out m j' rest) (j' + 1) j' HLEN.out (HR2.out.on b3) (by have := HJ.out; omega) (by have := HJ.out; omega) (rowL_swap out m j' rest (by have := HJ.out; have := HL.out; omega))
            rw [show ((j' + 1 : Nat) : Int) = (j' : Int) + 1 by omega] at hs
            rw [hs, Oper.upon_value]
            go_wp2
            go_roundw
            case rel => exact ⟨j', rfl, by have := HJ.out; omega, grow_trans (grow_trans HG2.out (grow_below b3 _)) hg2, hO, by rw [HPL.out, HPM.out, HLV.out]; rfl⟩
            case measure => simp [intOf]
        · have ej : j = 0 := by omega
          subst ej
          go_wp2
          go_roundw
          case rel => exact OUT1.out rfl _ HG2.out HR2.out
          case measure => simp [intOf]; omega
    · have hge : ¬ (i : Int) < (n : Int) := by omega
      go_wp2
      go_end0
      refine ⟨rfl, grow_trans HW1.out HGR.out, ?_⟩
      have h := HROW.out
      rwa [insAll_full d i (by omega)] at h

set_option maxRecDepth 100000 in
set_option maxHeartbeats 4000000 in
theorem stable_any (sb : Array Value) (w0 : World) (L0 : Laid w0) (Bs g B cap : Nat) (d : List Msg) (W : World) (hb : Below w0.heap.size w0 W) (hBs : w0.heap.size ≤ Bs) (hBB : Bs < B) (hd : d.length < 20) (hsw : Swaps sb B g cap d.length)
    (hbox : Boxed W Bs 40 (.slice (some ⟨g, 0, none⟩) d.length cap)) (hown : OwnM W B (.slice (some ⟨g, 0, none⟩) d.length cap) d) :
    Calls Tryd.prog 57 #[.agg #[(.func (.func 40) #[] #[.pointer (some ⟨Bs, 0, none⟩)]), (.func (.func 71) #[] sb)], .int .i64 (d.length : Int)] W fun e w' =>
      e = .returned (.tuple #[]) ∧ W.grownBy w' (some g) ∧ OwnM w' B (.slice (some ⟨g, 0, none⟩) d.length cap) (insAll d) := by
  obtain ⟨hgB, hgW⟩ := hown.own g rfl
  have hW1 := World.grownBy_alloc W (.cells #[(.func (.func 40) #[] #[.pointer (some ⟨Bs, 0, none⟩)]), (.func (.func 71) #[] sb)] 98) (some g)
  have hb1 := Joins.below_alloc1 W (.cells #[(.func (.func 40) #[] #[.pointer (some ⟨Bs, 0, none⟩)]), (.func (.func 71) #[] sb)] 98)
  have hc := insert_any sb w0 L0 Bs g B cap d _ (hb.trans (hb1.mono hb.size)) hBs hBB (by omega) hsw (hbox.alloc (.cells #[(.func (.func 40) #[] #[.pointer (some ⟨Bs, 0, none⟩)]), (.func (.func 71) #[] sb)] 98)) (hown.on hb1)
  clear hbox hown hsw hb1
  have HW1 := Lib.hid hW1; clear hW1
  generalize hn : d.length = n at *
  have hdI : (n : Int) < 20 := by omega
  go_enter Tryd.func57, Tryd.ntmps57
  go_wp2_with fail
  refine wp_loop_rounds 1 ?_
  rw [rounds_succ]
  go_wp2_with fail
  refine hc.mono ?_
  rintro e w1 ⟨rfl, h1, h2⟩
  go_wp2_with fail
  refine wp_loop_rounds 1 ?_
  rw [rounds_succ]
  go_wp2_with fail
  go_end0
  exact ⟨rfl, grow_trans HW1.out h1, h2⟩

end Go.Proofs.YtgolnklgbhilaaaDoor

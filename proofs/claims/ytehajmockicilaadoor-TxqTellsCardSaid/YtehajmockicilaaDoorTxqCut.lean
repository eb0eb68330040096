/-
  A list with a message more, and with one less: the program's with and without.
-/
import Derived.Test.YtehajmockicilaaDoorTxqOwn
import Derived.Test.YtehajmockicilaaDoorTxqRight
import Derived.Deep.DeepCutAuto
import Derived.StillTailTactics
namespace Go.Proofs.YtehajmockicilaaDoor
open Go Go.RowKit

theorem made_lcl (n : Nat) : madeCells (mv zeroM).cells (n * 7) = (lcl (List.replicate n zeroM)).toArray := by
  apply Array.ext
  · rw [size_madeCells, List.size_toArray, lcl_length, List.length_replicate]
  · intro i h1 h2
    rw [size_madeCells] at h1
    have e : i = i / 7 * 7 + i % 7 := by omega
    have hk : i % 7 < 7 := Nat.mod_lt _ (by omega)
    have h3 : (lcl (List.replicate n zeroM))[i]? = (mcl zeroM)[i % 7]? := by
      rw [e, lcl_at _ _ _ hk]
      have : i / 7 < n := by omega
      simp [this]
    have h4 : (lcl (List.replicate n zeroM)).toArray[i] = ((lcl (List.replicate n zeroM))[i]?).getD undef := by
      rw [List.getElem?_eq_getElem (by rw [List.size_toArray] at h2; exact h2)]; simp
    rw [h4, h3]
    simp only [madeCells, Array.getElem_map, Array.getElem_range]
    show (mc zeroM)[i % 7]! = _
    clear h3 h4 e
    generalize i % 7 = q at *
    rcases (show q = 0 ∨ q = 1 ∨ q = 2 ∨ q = 3 ∨ q = 4 ∨ q = 5 ∨ q = 6 by omega) with rfl | rfl | rfl | rfl | rfl | rfl | rfl <;> rfl
theorem run_makeM (n : Nat) (hn : n ≤ 1000) (W : World) :
    (Instr.makeSlice 28 (.int .i64 (n : Int)) (.int .i64 (n : Int))).run Tryd.prog W = .ok (.slice (some ⟨W.heap.size, 0, none⟩) n n) (W.alloc (.cells (lcl (List.replicate n zeroM)).toArray 26)) := by
  obtain ⟨i0, hi, hz0, hz1, hz2⟩ := info_parts msg_info
  have := run_make (P := Tryd.prog) W 28 26 i0 (mv zeroM) Tryd.underlying28 hi hz0 .i64 .i64 n n (by omega) (Int.le_refl _) (by rw [hz2]; omega) (by omega)
  rw [this, hz1]
  simp only [Int.toNat_natCast]
  rw [made_lcl]

set_option maxRecDepth 100000 in
/-- What stands behind the first k of a block of the call's own. -/
theorem run_dropB (g n k : Nat) (hk : k ≤ n) : ∃ dp, (k < n → dp = some ⟨g, k * 7, none⟩) ∧ ∀ w, (Instr.slice 28 (.slice (some ⟨g, 0, none⟩) n n) (some (.int .i64 (k : Int))) none none).run Tryd.prog w = .ok (.slice dp (n - k) (n - k)) w := by
  refine ⟨if n = k then some ⟨g, 0, none⟩ else (some (⟨g, 0, none⟩ : Addr)).map (·.add (k * 7)), fun h => ?_, fun w => ?_⟩
  · rw [if_neg (by omega)]
    simp only [Option.map_some]
    congr 1
    unfold Addr.add; split <;> simp_all
  · have hu : Tryd.prog.underlying 28 = some (.slice (Tryd.prog.elem 28)) := by kernel_rfl
    have hs : ∀ w, (sizeOf (Tryd.prog.elem 28)).run Tryd.prog w = .ok 7 w := fun w => by
      obtain ⟨i0, hi, hz0, hz1, hz2⟩ := info_parts msg_info
      have he : Tryd.prog.elem 28 = 26 := by kernel_rfl
      rw [he]
      simp [sizeOf, typeInfo, hi, hz1]
    rw [run_slice_l w 28 _ n n hu .i64 (k : Int) (by omega) (by omega), hs]
    simp only [Result.andThen, sliced, Int.toNat_natCast]

theorem mcl_length (m : Msg) : (mcl m).length = 7 := rfl
theorem lcl_cons (m : Msg) (l : List Msg) : lcl (m :: l) = mcl m ++ lcl l := rfl
theorem set_behind {A B : List Value} {n k : Nat} (hA : A.length = n) (v : Value) : (A ++ B).set (n + k) v = A ++ B.set k v := by
  rw [List.set_append_right _ _ (by omega)]
  congr 2; omega
/-- Seven cells of a block of messages set. -/
theorem BlkM.put {w : World} {g : Nat} {P R : List Msg} {z : Msg} (h : BlkM w g (P ++ z :: R)) (m : Msg) {k : Nat} (hk : P.length = k) :
    BlkM (((((((w.setCell ⟨g, k * 7, none⟩ (.bool m.ext)).setCell ⟨g, k * 7 + 1, none⟩ (.int .i64 m.n)).setCell ⟨g, k * 7 + 2, none⟩ (.int .i64 m.sender)).setCell ⟨g, k * 7 + 3, none⟩ (.int .i64 m.inc)).setCell ⟨g, k * 7 + 4, none⟩ (.int .i64 m.seq)).setCell ⟨g, k * 7 + 5, none⟩ (.int .i64 m.number)).setCell ⟨g, k * 7 + 6, none⟩ (.string m.data)) g (P ++ m :: R) := by
  have hs := set_blk (set_blk (set_blk (set_blk (set_blk (set_blk (set_blk h (k * 7) (.bool m.ext)) (k * 7 + 1) (.int .i64 m.n)) (k * 7 + 2) (.int .i64 m.sender)) (k * 7 + 3) (.int .i64 m.inc)) (k * 7 + 4) (.int .i64 m.seq)) (k * 7 + 5) (.int .i64 m.number)) (k * 7 + 6) (.string m.data)
  unfold BlkM
  rw [hs]
  simp only [List.setIfInBounds_toArray]
  rw [lcl_append, lcl_append, lcl_cons, lcl_cons]
  have hP : (lcl P).length = k * 7 := by rw [lcl_length, hk]
  have e0 : ∀ (B : List Value) v, (lcl P ++ B).set (k * 7) v = lcl P ++ B.set 0 v := fun B v => set_behind (k := 0) hP v
  rw [e0, set_behind hP, set_behind hP, set_behind hP, set_behind hP, set_behind hP, set_behind hP]
  rfl

set_option maxRecDepth 100000 in
/-- A copy of messages into a block of the call's own. -/
theorem run_copyM (w : World) (g : Nat) (P Z R : List Msg) (hg : BlkM w g (P ++ (Z ++ R))) (dp A : Option Addr) (dl dc c B : Nat) (l : List Msg) (hl : Z.length = l.length) (hm : Msgs w B A l) (hd : l.length ≤ dl) (hp : 0 < l.length → dp = some ⟨g, P.length * 7, none⟩) (ty : TypeId) :
    ∃ w', (Builtin.copy_ #[28, 28] ty #[.slice dp dl dc, .slice A l.length c]).run Tryd.prog w = .ok (.int .i64 (l.length : Int)) w' ∧ BlkM w' g (P ++ (l ++ R)) ∧ Below g w w' ∧ w'.heap.size = w.heap.size := by
  obtain ⟨i0, hi, hz0, hz1, hz2⟩ := info_parts msg_info
  have hu := Tryd.underlying28
  have hmin : Nat.min l.length dl = l.length := Nat.min_eq_left hd
  by_cases h0 : l.length = 0
  · obtain rfl : l = [] := List.eq_nil_of_length_eq_zero h0
    obtain rfl : Z = [] := List.eq_nil_of_length_eq_zero (by simpa using hl)
    refine ⟨w, ?_, hg, Below.refl _ _, rfl⟩
    have hl0 : ∀ x : Addr, (loadCells x 0).run Tryd.prog w = .ok #[] w := fun x => by simpa using run_loadCells_list (P := Tryd.prog) w x [] (by simp)
    cases dp <;> cases A <;> simp [Builtin.copy_, run_underlying hu, Builtin.lenOf, Builtin.firstCells, sizeOf, typeInfo, hi, storeCells, hl0, goInt]
  · obtain rfl := hp (by omega)
    obtain ⟨ad, rfl, _, hc⟩ := hm (by omega)
    have hsrc : ∀ j v, (lcl l)[j]? = some v → w.cell? (ad.add j) = some v := fun j x hx => by
      have hj : j < (lcl l).length := (List.getElem?_eq_some_iff.1 hx).1
      rw [lcl_length] at hj
      have e : j = j / 7 * 7 + j % 7 := by omega
      rw [e, lcl_at l _ _ (Nat.mod_lt _ (by omega))] at hx
      cases hy : l[j / 7]? with
      | none => rw [hy] at hx; cases hx
      | some y =>
        rw [hy] at hx
        have := (hc _ y hy).cell (j % 7) x hx
        rw [Go.Deep.add_add, ← e] at this
        exact this
    have h1c : ∀ x ∈ lcl l, x.oneCell' = true := fun x hx => by
      obtain ⟨y, _, hy⟩ := List.mem_flatMap.1 hx
      simp [mcl] at hy
      rcases hy with rfl | rfl | rfl | rfl | rfl | rfl | rfl <;> rfl
    have hload := run_loadCells_list (P := Tryd.prog) w ad (lcl l) hsrc
    have hst := run_storeCells_at Tryd.prog g (P.length * 7) 26 (lcl l) 0 (lcl (P ++ (Z ++ R))).toArray w hg (by simp [lcl_length]; omega) h1c
    refine ⟨w.setRow g ((lcl (P ++ (Z ++ R))).toArray.toList.take (P.length * 7 + 0) ++ lcl l ++ (lcl (P ++ (Z ++ R))).toArray.toList.drop (P.length * 7 + 0 + (lcl l).length)).toArray, ?_, ?_, ?_, ?_⟩
    rotate_left
    · exact (setRow_heap w g _ _ _ _ hg).trans (by
        congr 2
        simp only [Nat.add_zero]
        rw [lcl_append, lcl_append, lcl_append, lcl_append]
        have hP : (lcl P).length = P.length * 7 := lcl_length P
        have hZ : (lcl Z).length = (lcl l).length := by rw [lcl_length, lcl_length, hl]
        rw [List.take_append_of_le_length (by omega), List.take_of_length_le (by omega), ← List.append_assoc (lcl P) (lcl Z), List.drop_append_of_le_length (by simp; omega)]
        rw [List.drop_of_length_le (by simp; omega)]
        simp)
    · exact below_setRow (Below.refl g w) (Nat.le_refl _) _
    · simp [World.setRow]
    · rw [lcl_length] at hload
      simp [Builtin.copy_, run_underlying hu, Builtin.lenOf, Builtin.firstCells, sizeOf, typeInfo, hi, hz1, hmin, hload, hst, goInt]

/-- A list with a message more at a place. -/
def insAt (l : List Msg) (k : Nat) (m : Msg) : List Msg := l.take k ++ m :: l.drop k
theorem insAt_length (l : List Msg) (k : Nat) (m : Msg) : (insAt l k m).length = l.length + 1 := by
  unfold insAt
  simp only [List.length_append, List.length_cons, List.length_take, List.length_drop]
  omega

set_option maxRecDepth 100000 in
set_option maxHeartbeats 2000000 in
theorem with_any (A : Option Addr) (c : Nat) (l : List Msg) (k : Nat) (m : Msg) (w : World) (hq : QIn w A c l) (hk : k ≤ l.length) (hd : m.data.size ≤ 140737488351232) :
    Calls Tryd.prog 69 #[.slice A l.length c, .int .i64 (k : Int), mv m] w fun e w' => ∃ g, e = .returned (.slice (some ⟨g, 0, none⟩) (l.length + 1) (l.length + 1)) ∧ w.heap.size ≤ g ∧ BlkM w' g (insAt l k m) ∧ Below w.heap.size w w' := by
  have hfew := hq.few
  have hcap := hq.cap
  have hmk := fun W => run_makeM (l.length + 1) (by omega) W
  simp only [Int.natCast_add, Int.natCast_one] at hmk
  have hM := MsgAt.new w m
  have b1 := Joins.below_alloc1 w (.cells (mc m) 26)
  have hq1 := hq.on b1
  have hG := show BlkM ((w.alloc (.cells (mc m) 26)).alloc (.cells (lcl (List.replicate (l.length + 1) zeroM)).toArray 26)) (w.alloc (.cells (mc m) 26)).heap.size _ from heap_alloc_new _ _
  have b2 := Joins.below_alloc1 (w.alloc (.cells (mc m) 26)) (.cells (lcl (List.replicate (l.length + 1) zeroM)).toArray 26)
  have hM2 := hM.on b2
  have hq2 := hq1.on b2
  have hB := b1.trans (b2.mono b1.size)
  rw [World.size_alloc] at hG
  have hrt := run_takeM A c l hcap k hk
  have HD := Lib.hid hd
  have HQ0 := Lib.hid hq.msgs
  clear hM b1 hq1 b2 hq hd
  have hlt : (l.take k).length = k := by rw [List.length_take]; omega
  have hrep : List.replicate (l.length + 1) zeroM = [] ++ (List.replicate k zeroM ++ (zeroM :: List.replicate (l.length - k) zeroM)) := by
    rw [List.nil_append, ← List.replicate_succ, List.replicate_append_replicate]
    congr 1; omega
  have HI : Hid (insAt l k m = l.take k ++ m :: l.drop k) := Lib.hid rfl
  have HW : Hid (∀ x ∈ insAt l k m, x.data.size ≤ 140737488351232) := Lib.hid (by
    intro x hx
    unfold insAt at hx
    rcases List.mem_append.1 hx with h1 | h1
    · exact hq2.data x (List.mem_of_mem_take h1)
    · rcases List.mem_cons.1 h1 with rfl | h2
      · exact HD.out
      · exact hq2.data x (List.mem_of_mem_drop h2))
  have HIL := Lib.hid (insAt_length l k m)
  go_enter Tryd.func69, Tryd.ntmps69
  go_upto_region 2 with (fail)
  have hX : ∃ X, X = (w.alloc (.cells (mc m) 26)).alloc (.cells (lcl (List.replicate (l.length + 1) zeroM)).toArray 26) := ⟨_, rfl⟩
  obtain ⟨X, hX⟩ := hX
  rw [← hX] at hG hM2 hq2 hB
  have hX2 := hX
  rw [hrep] at hX2 hG
  simp only [List.nil_append] at hX2
  simp only [mc] at hX2
  rw [← hX2]
  have hB2 := hB
  clear hX hX2 hmk hrep
  obtain ⟨W3, hc1, hg3, hb3, hs3⟩ := run_copyM X (w.heap.size + 1) [] (List.replicate k zeroM) (zeroM :: List.replicate (l.length - k) zeroM) hG (some ⟨w.heap.size + 1, 0, none⟩) A (l.length + 1) (l.length + 1) c _ (l.take k) (by rw [List.length_replicate, hlt]) (hq2.take k).msgs (by omega) (fun _ => by rfl) 3
  have hM3 : MsgAt W3 w.heap.size m := (hb3.block _ (by omega)).trans hM2
  have hB3 := hB.trans (hb3.mono (by omega))
  have HQ2 := Lib.hid hq2
  have HB3 := Lib.hid hB3
  have HM3 := Lib.hid hM3
  have HG3 := Lib.hid hg3
  have HLT := Lib.hid hlt
  have HS3 := Lib.hid hs3
  rw [hlt] at hrt hc1
  clear hG hM2 hq2 hB hB2 hg3 hb3 hs3 hM3 hB3 hlt
  go_upto_region 3 with (fail)
  obtain ⟨x0, x1, x2, x3, x4, x5, x6⟩ := HM3.out.cells
  have hrk : ∃ z, (List.replicate k zeroM ++ zeroM :: List.replicate (l.length - k) zeroM)[k]? = some z := ⟨zeroM, by rw [List.getElem?_append_right (by simp)]; simp⟩
  have hz : ([] ++ (l.take k ++ zeroM :: List.replicate (l.length - k) zeroM))[k]? = some zeroM := by rw [List.nil_append, List.getElem?_append_right (by rw [HLT.out]; omega), HLT.out]; simp
  obtain ⟨y0, y1, y2, y3, y4, y5, y6⟩ := HG3.out.at7 hz
  have hof : ((⟨w.heap.size + 1, 0, none⟩ : Addr).add (k * 7)) = ⟨w.heap.size + 1, k * 7, none⟩ := by unfold Addr.add; split <;> simp_all
  rw [hof] at y0 y1 y2 y3 y4 y5 y6
  have yf := HG3.out.frozen
  have hput := BlkM.put (P := l.take k) HG3.out m HLT.out
  have hbp := ((((((HB3.out.setCell (p := ⟨w.heap.size + 1, k * 7, none⟩) (by show w.heap.size ≤ w.heap.size + 1; omega) (.bool m.ext)).setCell (p := ⟨w.heap.size + 1, k * 7 + 1, none⟩) (by show w.heap.size ≤ w.heap.size + 1; omega) (.int .i64 m.n)).setCell (p := ⟨w.heap.size + 1, k * 7 + 2, none⟩) (by show w.heap.size ≤ w.heap.size + 1; omega) (.int .i64 m.sender)).setCell (p := ⟨w.heap.size + 1, k * 7 + 3, none⟩) (by show w.heap.size ≤ w.heap.size + 1; omega) (.int .i64 m.inc)).setCell (p := ⟨w.heap.size + 1, k * 7 + 4, none⟩) (by show w.heap.size ≤ w.heap.size + 1; omega) (.int .i64 m.seq)).setCell (p := ⟨w.heap.size + 1, k * 7 + 5, none⟩) (by show w.heap.size ≤ w.heap.size + 1; omega) (.int .i64 m.number)).setCell (p := ⟨w.heap.size + 1, k * 7 + 6, none⟩) (by show w.heap.size ≤ w.heap.size + 1; omega) (.string m.data)
  have HPUT := Lib.hid hput
  have HBP := Lib.hid hbp
  have hkI : (k : Int) < (l.length : Int) + 1 := by omega
  clear hput hbp hz hrk hof hc1
  go_upto_region 4 with (fail)
  obtain ⟨X4, hX4⟩ : ∃ X, X = (((((((W3.setCell ⟨w.heap.size + 1, k * 7, none⟩ (.bool m.ext)).setCell ⟨w.heap.size + 1, k * 7 + 1, none⟩ (.int .i64 m.n)).setCell ⟨w.heap.size + 1, k * 7 + 2, none⟩ (.int .i64 m.sender)).setCell ⟨w.heap.size + 1, k * 7 + 3, none⟩ (.int .i64 m.inc)).setCell ⟨w.heap.size + 1, k * 7 + 4, none⟩ (.int .i64 m.seq)).setCell ⟨w.heap.size + 1, k * 7 + 5, none⟩ (.int .i64 m.number)).setCell ⟨w.heap.size + 1, k * 7 + 6, none⟩ (.string m.data)) := ⟨_, rfl⟩
  have hg4 := HPUT.out
  have hb4 := HBP.out
  rw [← hX4] at hg4 hb4 ⊢
  have HG4 := Lib.hid hg4
  have HB4 := Lib.hid hb4
  clear hX4 hg4 hb4 x0 x1 x2 x3 x4 x5 x6 y0 y1 y2 y3 y4 y5 y6 yf HPUT HBP hrt
  obtain ⟨A1, c1, hm1, hr1⟩ := run_dropM A c l hcap k hk
  obtain ⟨dp, hdp, hr2⟩ := run_dropB (w.heap.size + 1) (l.length + 1) (k + 1) (by omega)
  simp only [Int.natCast_add, Int.natCast_one] at hr2
  have HDP := Lib.hid hdp
  have HM1 := Lib.hid hm1
  have hw1 : IntKind.i64.wrap ((k : Int) + 1) = (k : Int) + 1 := IntWalk.i64_in _ (by omega)
  clear hdp hm1
  go_still_tail 7, (by kernel_rfl)
  change wpList _ _ _ _ _ X4.drew
  have hg5 : BlkM X4.drew (w.heap.size + 1) ((l.take k ++ [m]) ++ (List.replicate (l.length - k) zeroM ++ [])) := by
    have := HG4.out.on (Below.refl _ X4).drew
    rw [List.append_nil, List.append_assoc, List.singleton_append]
    exact this
  have hb5 : Below w.heap.size w X4.drew := HB4.out.trans ((Below.refl _ X4).drew.mono HB4.out.size)
  have hq5 := HQ0.out.below hb5 (Nat.le_refl _)
  obtain ⟨W6, hc6, hg6, hb6, hs6⟩ := run_copyM X4.drew (w.heap.size + 1) (l.take k ++ [m]) (List.replicate (l.length - k) zeroM) [] hg5 dp A1 (l.length - k) (l.length - k) c1 _ (l.drop k) (by rw [List.length_replicate, List.length_drop]) (HM1.out _ _ hq5) (by rw [List.length_drop]; omega) (fun h => by rw [List.length_drop] at h; rw [HDP.out (by omega)]; simp [HLT.out]) 3
  have hins : (l.take k ++ [m]) ++ (l.drop k ++ []) = insAt l k m := by rw [HI.out]; simp
  rw [hins] at hg6
  rw [List.length_drop] at hc6
  have hb7 := hb5.trans (hb6.mono (by omega))
  have HB7 := Lib.hid hb7
  have HG6 := Lib.hid hg6
  have cO := fun W (hh : BlkM W (w.heap.size + 1) (insAt l k m)) => ownTexts_any (w.heap.size + 1) (insAt l k m) (l.length + 1) W hh (by rw [insAt_length]; omega) HW.out
  rw [HIL.out] at cO
  clear hins hb5 hq5 hg5 hb7 hg6 hb6 hs6 hr1 hr2 hw1
  generalize X4.drew = X5 at *
  go_upto_region 5 with (fail)
  clear hc6
  go_wp2_with fail; refine (cO _ HG6.out).mono ?_; rintro e w7 ⟨rfl, b7⟩
  go_wp2_with fail
  go_ret
  exact ⟨_, rfl, Nat.le_add_right _ _, HG6.out.on b7, HB7.out.trans (b7.mono HB7.out.size)⟩

set_option maxRecDepth 100000 in
set_option maxHeartbeats 2000000 in
theorem without_any (A : Option Addr) (c : Nat) (l : List Msg) (k : Nat) (w : World) (hq : QIn w A c l) (hk : k < l.length) :
    Calls Tryd.prog 84 #[.slice A l.length c, .int .i64 (k : Int)] w fun e w' => ∃ g, e = .returned (.slice (some ⟨g, 0, none⟩) (l.length - 1) (l.length - 1)) ∧ w.heap.size ≤ g ∧ BlkM w' g (l.eraseIdx k) ∧ Below w.heap.size w w' := by
  have hfew := hq.few
  have hcap := hq.cap
  have hmk := fun W => run_makeM (l.length - 1) (by omega) W
  have hcast : ((l.length - 1 : Nat) : Int) = (l.length : Int) - 1 := by omega
  rw [hcast] at hmk
  have hG := show BlkM (w.alloc (.cells (lcl (List.replicate (l.length - 1) zeroM)).toArray 26)) w.heap.size _ from heap_alloc_new _ _
  have b1 := Joins.below_alloc1 w (.cells (lcl (List.replicate (l.length - 1) zeroM)).toArray 26)
  have hq1 := hq.on b1
  have hrt := run_takeM A c l hcap k (by omega)
  have HQ0 := Lib.hid hq.msgs
  have hlt : (l.take k).length = k := by rw [List.length_take]; omega
  have HI : Hid (l.eraseIdx k = l.take k ++ l.drop (k + 1)) := Lib.hid (List.eraseIdx_eq_take_drop_succ l k)
  have HIL : Hid ((l.eraseIdx k).length = l.length - 1) := Lib.hid (by rw [List.length_eraseIdx]; simp [hk])
  have HW : Hid (∀ x ∈ l.eraseIdx k, x.data.size ≤ 140737488351232) := Lib.hid (fun x hx => hq.data x (List.mem_of_mem_eraseIdx hx))
  have hrep : List.replicate (l.length - 1) zeroM = [] ++ (List.replicate k zeroM ++ List.replicate (l.length - 1 - k) zeroM) := by
    rw [List.nil_append, List.replicate_append_replicate]
    congr 1; omega
  have h1I : (0 : Int) ≤ (l.length : Int) - 1 := by omega
  have HREP := Lib.hid hrep
  clear hq hrep
  go_enter Tryd.func84, Tryd.ntmps84
  clear hcast
  go_upto_region 2 with (fail)
  obtain ⟨X, hX⟩ : ∃ X, X = w.alloc (.cells (lcl (List.replicate (l.length - 1) zeroM)).toArray 26) := ⟨_, rfl⟩
  rw [← hX] at hG b1 hq1
  rw [HREP.out] at hG
  rw [← hX]
  clear hX hmk
  obtain ⟨W3, hc1, hg3, hb3, hs3⟩ := run_copyM X w.heap.size [] (List.replicate k zeroM) (List.replicate (l.length - 1 - k) zeroM) hG (some ⟨w.heap.size, 0, none⟩) A (l.length - 1) (l.length - 1) c _ (l.take k) (by rw [List.length_replicate, hlt]) (hq1.take k).msgs (by omega) (fun _ => by rfl) 3
  have hB3 := b1.trans hb3
  have HB3 := Lib.hid hB3
  have HG3 := Lib.hid hg3
  have HLT := Lib.hid hlt
  rw [hlt] at hrt hc1
  clear hG hq1 b1 hg3 hb3 hs3 hB3 hlt
  go_upto_region 3 with (fail)
  clear hc1 hrt
  obtain ⟨A1, c1, hm1, hr1⟩ := run_dropM A c l hcap (k + 1) (by omega)
  obtain ⟨dp, hdp, hr2⟩ := run_dropB w.heap.size (l.length - 1) k (by omega)
  simp only [Int.natCast_add, Int.natCast_one] at hr1
  have HDP := Lib.hid hdp
  have HM1 := Lib.hid hm1
  have hw1 : IntKind.i64.wrap ((k : Int) + 1) = (k : Int) + 1 := IntWalk.i64_in _ (by omega)
  clear hdp hm1
  go_still_tail 7, (by kernel_rfl)
  change wpList _ _ _ _ _ W3.drew
  have hg5 : BlkM W3.drew w.heap.size (l.take k ++ (List.replicate (l.length - 1 - k) zeroM ++ [])) := by
    have := HG3.out.on (Below.refl _ W3).drew
    rw [List.append_nil]
    exact this
  have hb5 : Below w.heap.size w W3.drew := HB3.out.trans ((Below.refl _ W3).drew.mono HB3.out.size)
  have hq5 := HQ0.out.below hb5 (Nat.le_refl _)
  obtain ⟨W6, hc6, hg6, hb6, hs6⟩ := run_copyM W3.drew w.heap.size (l.take k) (List.replicate (l.length - 1 - k) zeroM) [] hg5 dp A1 (l.length - 1 - k) (l.length - 1 - k) c1 _ (l.drop (k + 1)) (by rw [List.length_replicate, List.length_drop]; omega) (HM1.out _ _ hq5) (by rw [List.length_drop]; omega) (fun h => by rw [List.length_drop] at h; rw [HDP.out (by omega)]; simp [HLT.out]) 3
  have hins : l.take k ++ (l.drop (k + 1) ++ []) = l.eraseIdx k := by rw [HI.out]; simp
  rw [hins] at hg6
  rw [List.length_drop] at hc6
  have hb7 := hb5.trans hb6
  have HB7 := Lib.hid hb7
  have HG6 := Lib.hid hg6
  have cO := fun W (hh : BlkM W w.heap.size (l.eraseIdx k)) => ownTexts_any w.heap.size (l.eraseIdx k) (l.length - 1) W hh (by rw [HIL.out]; omega) HW.out
  rw [HIL.out] at cO
  clear hins hb5 hq5 hg5 hb7 hg6 hb6 hs6 hr1 hr2 hw1
  generalize W3.drew = X5 at *
  go_upto_region 4 with (fail)
  clear hc6
  go_wp2_with fail; refine (cO _ HG6.out).mono ?_; rintro e w7 ⟨rfl, b7⟩
  go_wp2_with fail
  go_ret
  exact ⟨_, rfl, Nat.le_refl _, HG6.out.on b7, HB7.out.trans (b7.mono HB7.out.size)⟩

end Go.Proofs.YtehajmockicilaaDoor

/-
  The law ClockShifts.
-/
import Derived.Test.YtllbhbekpnmlnaaClkMids
namespace Go.Proofs.Ytllbhbekpnmlnaa
open Go.RowKit

/-! ## Two lists side by side -/
def Apart (u v : Value) : Prop := ∀ g, u.ownBlock = some g → v.ownBlock = some g → False
theorem Own.far {w w' : World} {B : Nat} {u v : Value} {l : List Int} (h : Own w B v l) (hg : w.grownBy w' u.ownBlock) (ha : Apart u v) : Own w' B v l := by
  have hlt := World.ownsRow.lt h
  refine ⟨h.1, h.2.imp id ?_⟩
  rintro ⟨g, cap, cur, rfl, e2, e3, e4⟩
  have hb : (Value.slice (some ⟨g, 0, none⟩) l.length cap).ownBlock = some g := by simp [Value.ownBlock]
  exact ⟨g, cap, cur, rfl, e2, (hg.block g (hlt g hb).2 (fun e => ha g e.symm hb)).trans e3, e4⟩
theorem apart_new {w : World} {B : Nat} {u u' v : Value} {l : List Int} (h : Own w B v l) (ha : Apart u v) (hu : u'.ownBlock = u.ownBlock ∨ u'.ownBlock = some w.heap.size) : Apart u' v := fun g h1 h2 => by
  rcases hu with e | e
  · exact ha g (e.symm.trans h1) h2
  · rw [e] at h1
    injection h1 with h1
    have := (World.ownsRow.lt h g h2).2
    omega
theorem Apart.symm {u v : Value} (h : Apart u v) : Apart v u := fun g h1 h2 => h g h2 h1
theorem apart_nil (v : Value) : Apart (.slice none 0 0) v := fun g h1 _ => by simp [Value.ownBlock] at h1

section
variable {ops : Array Oper} {rest : List Oper} {o : Oper} {a : Act} {w : World} {Q : Exit → Act → World → Prop}
set_option maxRecDepth 100000 in
theorem list_one (hw : Region.wanted o (yielded ops a.tmps) = true) (s x : Operand) (ho : o.op = .call { callee := .builtin .append, args := #[s, x], argTypes := #[22, 22] })
    (B : Nat) (u : Value) (l : List Int) (n : Int) (W : World) (hW : w = W.alloc (.cells #[.int .i64 n] 3)) (hs : a.eval s = u) (hx : a.eval x = .slice (some ⟨W.heap.size, 0, none⟩) 1 1) (h : Own w B u l) (hB : B ≤ w.heap.size) (hl : l.length + 1 ≤ 1000)
    (hK : ∀ u' w', Own w' B u' (l ++ [n]) → w.grownBy w' u.ownBlock → (u'.ownBlock = u.ownBlock ∨ u'.ownBlock = some w.heap.size) → wpList Try.prog ops Q rest (a.put o.dst u') w') : wpList Try.prog ops Q (o :: rest) a w :=
  wpList_step fun K hK' => by
    rw [if_pos hw]
    obtain ⟨i0, hi, hz0, hz1, hz2⟩ := info_parts int_info
    obtain ⟨u', w', hrun, h2, h3, -, h5⟩ := run_append_own_at (P := Try.prog) w B 22 o.type 3 i0 _ 1 8 Try.underlying22 hi hz0 hz1 hz2 rfl (by decide) u _ _ h ⟨W.heap.size, 0, none⟩ 1 1 [.int .i64 n] rfl (by rw [hW]; exact cell_one_new _ _ _) (by simp [Value.oneCell']) (by unfold maxLen; omega) (by omega) hB
    unfold Oper.wp
    simp [execOp, ho, resolve, invoke, builtin, hs, hx, hrun, Result.andThen]
    exact hK' _ _ (hK u' w' (by unfold Own; rw [List.length_append, List.map_append]; exact h2) h3 h5)
end

def moreI (m : List Int) (i : Nat) : Int := match m[i]? with
  | some x => pickI x 1000
  | none => 0
def upL (l : List Int) (b : Int) (k : Nat) : List Int := (l.take k).map (· + b)
def growL (l m : List Int) (k : Nat) : List Int := (List.range k).map fun i => l.getD i 0 + moreI m i
theorem moreI_range (m : List Int) (i : Nat) : 0 ≤ moreI m i ∧ moreI m i ≤ 999 := by
  unfold moreI
  split
  · next x _ => have := pickI_range x 1000 (by omega); omega
  · omega
theorem upL_succ (l : List Int) (b : Int) (k : Nat) (y : Int) (h : l[k]? = some y) : upL l b (k + 1) = upL l b k ++ [y + b] := by
  obtain ⟨hk, e⟩ := List.getElem?_eq_some_iff.1 h
  unfold upL
  rw [List.take_succ_eq_append_getElem hk, e, List.map_append]
  rfl
theorem growL_succ (l m : List Int) (k : Nat) (y : Int) (h : l[k]? = some y) : growL l m (k + 1) = growL l m k ++ [y + moreI m k] := by
  unfold growL
  rw [List.range_succ, List.map_append, List.map_singleton, List.getD_eq_getElem?_getD, h, Option.getD_some]
theorem growL_length (l m : List Int) (k : Nat) : (growL l m k).length = k := by unfold growL; rw [List.length_map, List.length_range]
theorem upL_length (l : List Int) (b : Int) (k : Nat) : (upL l b k).length = min k l.length := by unfold upL; rw [List.length_map, List.length_take]
theorem growL_at (l m : List Int) (i : Nat) (x : Int) (h : l[i]? = some x) : (growL l m l.length)[i]? = some (x + moreI m i) := by
  have hi := (List.getElem?_eq_some_iff.1 h).1
  unfold growL
  rw [List.getElem?_map, List.getElem?_range hi, Option.map_some, List.getD_eq_getElem?_getD, h, Option.getD_some]
theorem growL_range {l m : List Int} (h : ∀ y ∈ l, -1000000 ≤ y ∧ y ≤ 1000000) : ∀ y ∈ growL l m l.length, -1000000 ≤ y ∧ y ≤ 1001000 := by
  intro y hy
  obtain ⟨i, hi⟩ := List.mem_iff_getElem?.1 hy
  have hil : i < l.length := by have := (List.getElem?_eq_some_iff.1 hi).1; rwa [growL_length] at this
  rw [growL_at l m i _ (List.getElem?_eq_getElem hil)] at hi
  have h1 := h _ (List.getElem_mem hil)
  have h2 := moreI_range m i
  have := Option.some.inj hi
  omega
theorem growL_more {l m : List Int} (i : Nat) (x y : Int) (hx : l[i]? = some x) (hy : (growL l m l.length)[i]? = some y) : x ≤ y := by
  rw [growL_at l m i x hx] at hy
  have := Option.some.inj hy
  have := moreI_range m i
  omega
theorem upL_range {l : List Int} {b : Int} (hb : -1000000 ≤ b ∧ b ≤ 1000000) (h : ∀ y ∈ l, -1000000 ≤ y ∧ y ≤ 1000000) : ∀ y ∈ l.map (· + b), -2000000 ≤ y ∧ y ≤ 2000000 := by
  intro y hy
  obtain ⟨z, hz, rfl⟩ := List.mem_map.1 hy
  have := h z hz
  omega
theorem spread_shift {l : List Int} {b : Int} (hn : l ≠ []) : spreadI (l.map (· + b)) = spreadI l := by
  unfold spreadI
  rw [if_neg hn, if_neg (by simpa using hn), hi_shift l b hn, lo_shift l b hn]
  congr 1
  omega

set_option maxRecDepth 100000 in
set_option maxHeartbeats 2000000 in
theorem clockShifts_walk (a0 : Int) (A1 : Option Addr) (c1 : Nat) (l1 : List Int) (a2 : Int) (A3 : Option Addr) (c3 : Nat) (l3 : List Int) (w0 : (Lit.int .i64 a0).wf = true) (w2 : (Lit.int .i64 a2).wf = true) (w : World) (f1 : IntsOk w A1 c1 l1) (f3 : IntsOk w A3 c3 l3) :
    Calls Try.prog 8 #[.int .i64 a0, .slice A1 l1.length c1, .int .i64 a2, .slice A3 l3.length c3] w fun e w' => e = .returned (.bool true) ∧ Below w.heap.size w w' := by
  have P0 := Lib.hid (fun W => pick_any a0 8 w0 (by omega) W)
  have P2 := Lib.hid (fun W => pick_any a2 2000001 w2 (by omega) W)
  obtain ⟨k0, k1⟩ := pickI_range a0 8 (by omega)
  obtain ⟨b0, b1⟩ := pickI_range a2 2000001 (by omega)
  generalize pickI a0 8 = K at *
  obtain ⟨b, hb⟩ : ∃ b, pickI a2 2000001 = b + 1000000 := ⟨pickI a2 2000001 - 1000000, by omega⟩
  rw [hb] at P2 b0 b1
  have b2 : -1000000 ≤ b := by omega
  have b3 : b ≤ 1000000 := by omega
  have CD1 := Lib.hid (fun W hb => devs_any A1 c1 l1 30 1000000 (by omega) (by omega) w W f1 hb)
  have ha := devsI_length l1 30 1000000
  have har := devsI_range (l := l1) (n := 30) (b := 1000000) (by omega)
  generalize devsI l1 30 1000000 = l at *
  have hl30 : l.length ≤ 30 := by omega
  have hmr := f3.row
  have hml := f3.len
  unfold maxLen at hml
  have hmw := f3.wf
  clear ha w0 w2 f1 f3 hb b0 b1
  have hup : ∀ y ∈ l.map (· + b), -1073741824 ≤ y ∧ y ≤ 1073741824 := fun y hy => by have := upL_range ⟨b2, b3⟩ har y hy; omega
  have hgr : ∀ y ∈ growL l l3 l.length, -1073741824 ≤ y ∧ y ≤ 1073741824 := fun y hy => by have := growL_range (m := l3) har y hy; omega
  have hlr : ∀ y ∈ l, -1073741824 ≤ y ∧ y ≤ 1073741824 := fun y hy => by have := har y hy; omega
  have hupl : (l.map (· + b)).length = l.length := List.length_map _
  have hgrl := growL_length l l3 l.length
  have CM1 := Lib.hid (fun A cp W h => middle_any K A cp l W h (by unfold maxLen; omega))
  have CM2 := Lib.hid (fun A cp W h => middle_any K A cp (l.map (· + b)) W h (by unfold maxLen; omega))
  have CM3 := Lib.hid (fun A cp W h => middle_any K A cp (growL l l3 l.length) W h (by unfold maxLen; omega))
  have CS1 := Lib.hid (fun A cp B W h hB => spread_any A cp B l W h hB (by unfold maxLen; omega))
  have CS2 := Lib.hid (fun A cp B W h hB => spread_any A cp B (l.map (· + b)) W h hB (by unfold maxLen; omega))
  rw [hupl] at CM2 CS2
  rw [hgrl] at CM3
  have HE : Hid (((l.length : Int) ≤ 2 * K → midE K l = 3 ∧ midE K (l.map (· + b)) = 3 ∧ midE K (growL l l3 l.length) = 3) ∧
      (¬ (l.length : Int) ≤ 2 * K → midE K l = 0 ∧ midE K (l.map (· + b)) = 0 ∧ midE K (growL l l3 l.length) = 0 ∧ midV K (l.map (· + b)) = midV K l + b ∧ midV K l ≤ midV K (growL l l3 l.length) ∧ spreadI (l.map (· + b)) = spreadI l)) := Lib.hid ⟨fun h => ⟨midE_short (by omega) hlr (by omega) h, midE_short (by omega) hup (by omega) (by omega), midE_short (by omega) hgr (by omega) (by omega)⟩, fun h => by
    have e1 := midE_ok (d := K) (by omega) hlr (by omega) (by omega)
    have e2 := midE_ok (d := K) (by omega) hup (by omega) (by omega)
    have e3 := midE_ok (d := K) (by omega) hgr (by omega) (by omega)
    exact ⟨e1, e2, e3, mid_shift l b K e1 e2, mid_more l _ K hgrl.symm (fun i x y hx hy => growL_more i x y hx hy) e1 e3, spread_shift (by rintro rfl; simp at h; omega)⟩⟩
  have HUS := Lib.hid (fun k y h => upL_succ l b k y h)
  have HGS := Lib.hid (fun k y h => growL_succ l l3 k y h)
  have HUL := Lib.hid (fun k => upL_length l b k)
  have HGL := Lib.hid (fun k => growL_length l l3 k)
  have HU0 : Hid (upL l b 0 = []) := Lib.hid rfl
  have HG0 : Hid (growL l l3 0 = []) := Lib.hid rfl
  have HUA : Hid (upL l b l.length = l.map (· + b)) := Lib.hid (by unfold upL; rw [List.take_length])
  have HMR := Lib.hid hmr
  have HMW := Lib.hid hmw
  have HAR := Lib.hid har
  clear hup hgr hlr hupl hgrl hmr hmw har
  go_enter Try.func8, Try.ntmps8
  go_wp2_with fail; refine (awake_any _).mono ?_; rintro e w1 ⟨rfl, b1⟩
  have HB1 := Lib.hid b1; clear b1
  go_wp2_with fail; (with_reducible refine (P0.out _).mono ?_); rintro e w2 ⟨rfl, rfl⟩
  go_wp2_with fail; (refine (CD1.out _ HB1.out).mono ?_); rintro e w2 ⟨u, rfl, ho, b4⟩
  obtain ⟨A, cp, rfl, hcc, hrow⟩ := ho.row
  have HR2 := Lib.hid hrow
  have HB2 := Lib.hid (HB1.out.trans (b4.mono HB1.out.size)); clear b4 ho hrow
  go_wp2_with fail; (with_reducible refine (P2.out _).mono ?_); rintro e w3 ⟨rfl, rfl⟩
  go_wp2_with fail
  obtain ⟨B, hB⟩ : ∃ B, w2.heap.size = B := ⟨_, rfl⟩
  have HW0 := Lib.hid (Below.refl w2.heap.size w2)
  have HO0 := Lib.hid (Own.nil w2 w2.heap.size)
  have HA0 := Lib.hid (apart_nil (.slice none 0 0))
  rw [hB] at HW0 HO0 HR2
  have HBS := Lib.hid hB
  clear CD1 P0 P2 hB
  go_loopw [13, 14, 15] (fun u v i wr => ∃ k : Nat, k ≤ l.length ∧ i = .int .i64 k ∧ Own wr B u (upL l b k) ∧ Own wr B v (growL l l3 k) ∧ Apart u v ∧ Below B w2 wr) (fun _ _ i _ => l.length - (intOf i).toNat)
  case atStart => exact ⟨0, by omega, rfl, by rw [HU0.out]; exact HO0.out, by rw [HG0.out]; exact HO0.out, HA0.out, HW0.out⟩
  case round =>
    obtain ⟨k, hk, rfl, ho1, ho2, hap, hb⟩ := hrel
    have HU := Lib.hid ho1
    have HG := Lib.hid ho2
    have HAP := Lib.hid hap
    have HB := Lib.hid hb
    clear ho1 ho2 hap hb HO0 HA0 HW0
    have HZ : Hid (B ≤ wr.heap.size) := Lib.hid (by have := HB.out.size; have := HBS.out; omega)
    by_cases hkl : k < l.length
    · have hkI : (k : Int) < (l.length : Int) := by omega
      obtain ⟨y, hy⟩ : ∃ y, l[k]? = some y := ⟨_, List.getElem?_eq_getElem hkl⟩
      have hyr := HAR.out y (List.mem_of_getElem? hy)
      have T1 := Lib.hid (HUS.out k y hy)
      have T2 := Lib.hid (HGS.out k y hy)
      have L1 := HUL.out k
      have L2 := HGL.out k
      have N1 : (upL l b k).length ≤ 30 := by omega
      have N2 : (growL l l3 k).length ≤ 30 := by omega
      clear L1 L2
      generalize upL l b k = lu at *
      generalize growL l l3 k = lg at *
      obtain ⟨ad, hA, hadb, hc⟩ := HR2.out (by omega)
      subst hA
      have hcy := hc k y hy
      have HCY := Lib.hid hcy
      have g1 : wr.cell? (ad.add k) = some (.int .i64 y) := (HB.out.cell (by rw [adb]; exact hadb)).trans hcy
      clear hc hy hcy
      by_cases hkm : k < l3.length
      · have hkmI : (k : Int) < (l3.length : Int) := by omega
        obtain ⟨z, hz⟩ : ∃ z, l3[k]? = some z := ⟨_, List.getElem?_eq_getElem hkm⟩
        have HMV : Hid (moreI l3 k = pickI z 1000) := Lib.hid (by unfold moreI; rw [hz])
        have CPZ := Lib.hid (fun W => pick_any z 1000 (HMW.out z (List.mem_of_getElem? hz)) (by omega) W)
        have hzr := pickI_range z 1000 (by omega)
        obtain ⟨ad3, hA3, had3, hc3⟩ := HMR.out (by omega)
        subst hA3
        have hcz := hc3 k z hz
        have HCZ := Lib.hid hcz
        rw [HMV.out] at T2
        clear hc3 hcz hz
        generalize pickI z 1000 = g at *
        go_wp2_with (at_builtin; go_must (refine list_one (by rfl) (.tmp 37) (.tmp 44) rfl B _ lu (y + b) _ rfl rfl rfl (HU.out.on (Joins.below_alloc1 _ _)) (by simp; have := HZ.out; omega) (by omega) ?_; intro ua wa ho3 hg3 hk3; have Xwa := Lib.hid ho3; have Ywa := Lib.hid ((HG.out.on (Joins.below_alloc1 _ (.cells #[.int .i64 (y + b)] 3))).far hg3 HAP.out); have Zwa := Lib.hid (apart_new (HG.out.on (Joins.below_alloc1 _ (.cells #[.int .i64 (y + b)] 3))) HAP.out hk3); have Wwa := Lib.hid (HB.out.trans ((Joins.below_alloc1 _ _).mono HZ.out |>.trans (Own.below (HU.out.on (Joins.below_alloc1 _ _)) hg3 (by simp; have := HZ.out; omega)))); clear ho3 hg3 hk3; have g2 : wa.cell? (ad.add k) = some (.int .i64 y) := (Wwa.out.cell (by rw [adb]; exact hadb)).trans HCY.out; have HZ2 : Hid (B ≤ wa.heap.size) := Lib.hid (by have := Wwa.out.size; have := HBS.out; omega); have g3 : wa.cell? (ad3.add k) = some (.int .i64 z) := ((HB2.out.trans (Wwa.out.mono (by have := HB2.out.size; have := HBS.out; omega))).cell (by rw [adb]; exact had3)).trans HCZ.out))
        (with_reducible refine (CPZ.out _).mono ?_); rintro e wx ⟨rfl, rfl⟩
        clear g3 g1 HU HG HAP HB HZ
        go_wp2_with (at_builtin; go_must (refine list_one (by rfl) (.tmp 55) (.tmp 62) rfl B _ lg (y + g) _ rfl rfl rfl (Ywa.out.on (Joins.below_alloc1 _ _)) (by simp; have := HZ2.out; omega) (by omega) ?_; intro ub wb ho3 hg3 hk3; have Xwb := Lib.hid ho3; have Ywb := Lib.hid ((Xwa.out.on (Joins.below_alloc1 _ (.cells #[.int .i64 (y + g)] 3))).far hg3 Zwa.out.symm); have Zwb := Lib.hid (apart_new (Xwa.out.on (Joins.below_alloc1 _ (.cells #[.int .i64 (y + g)] 3))) Zwa.out.symm hk3); have Wwb := Lib.hid (Wwa.out.trans ((Joins.below_alloc1 _ _).mono HZ2.out |>.trans (Own.below (Ywa.out.on (Joins.below_alloc1 _ _)) hg3 (by simp; have := HZ2.out; omega)))); clear ho3 hg3 hk3))
        clear g2
        go_roundw
        case rel => exact ⟨k + 1, by omega, by go_num, by rw [T1.out]; exact Ywb.out, by rw [T2.out]; exact Xwb.out, Zwb.out.symm, Wwb.out⟩
        case measure => simp [intOf]; omega
      · have hkd : decide (k < l3.length) = false := by rw [decide_eq_false_iff_not]; exact hkm
        have HMV : Hid (moreI l3 k = 0) := Lib.hid (by unfold moreI; rw [List.getElem?_eq_none (by omega)])
        rw [HMV.out, Int.add_zero] at T2
        go_wp2_with (first | (at_builtin;  (refine list_one (by rfl) (.tmp 37) (.tmp 44) rfl B _ lu (y + b) _ rfl rfl rfl (HU.out.on (Joins.below_alloc1 _ _)) (by simp; have := HZ.out; omega) (by omega) ?_; intro ua wa ho3 hg3 hk3; have Xwa := Lib.hid ho3; have Ywa := Lib.hid ((HG.out.on (Joins.below_alloc1 _ (.cells #[.int .i64 (y + b)] 3))).far hg3 HAP.out); have Zwa := Lib.hid (apart_new (HG.out.on (Joins.below_alloc1 _ (.cells #[.int .i64 (y + b)] 3))) HAP.out hk3); have Wwa := Lib.hid (HB.out.trans ((Joins.below_alloc1 _ _).mono HZ.out |>.trans (Own.below (HU.out.on (Joins.below_alloc1 _ _)) hg3 (by simp; have := HZ.out; omega)))); clear ho3 hg3 hk3; have g2 : wa.cell? (ad.add k) = some (.int .i64 y) := (Wwa.out.cell (by rw [adb]; exact hadb)).trans HCY.out; have HZ2 : Hid (B ≤ wa.heap.size) := Lib.hid (by have := Wwa.out.size; have := HBS.out; omega))) | (at_builtin;  (refine list_one (by rfl) (.tmp 55) (.tmp 62) rfl B _ lg (y) _ rfl rfl rfl (Ywa.out.on (Joins.below_alloc1 _ _)) (by simp; have := HZ2.out; omega) (by omega) ?_; intro ub wb ho3 hg3 hk3; have Xwb := Lib.hid ho3; have Ywb := Lib.hid ((Xwa.out.on (Joins.below_alloc1 _ (.cells #[.int .i64 (y)] 3))).far hg3 Zwa.out.symm); have Zwb := Lib.hid (apart_new (Xwa.out.on (Joins.below_alloc1 _ (.cells #[.int .i64 (y)] 3))) Zwa.out.symm hk3); have Wwb := Lib.hid (Wwa.out.trans ((Joins.below_alloc1 _ _).mono HZ2.out |>.trans (Own.below (Ywa.out.on (Joins.below_alloc1 _ _)) hg3 (by simp; have := HZ2.out; omega)))); clear ho3 hg3 hk3)))
        clear g2 g1 HU HG HAP HB HZ
        go_roundw
        case rel => exact ⟨k + 1, by omega, by go_num, by rw [T1.out]; exact Ywb.out, by rw [T2.out]; exact Xwb.out, Zwb.out.symm, Wwb.out⟩
        case measure => simp [intOf]; omega
    · have ek : k = l.length := by omega
      subst ek
      have hU := HU.out
      have hG := HG.out
      rw [HUA.out] at hU
      obtain ⟨A5, c5, rfl, hc5, hr5⟩ := hU.row
      obtain ⟨A6, c6, rfl, hc6, hr6⟩ := hG.row
      rw [List.length_map] at *
      rw [HGL.out] at *
      have HR5 := Lib.hid hr5
      have HR6 := Lib.hid hr6
      have hkI : ¬ ((l.length : Nat) : Int) < (l.length : Int) := by omega
      have HRA := Lib.hid ((HR2.out.below HB.out (Nat.le_refl _)).more HZ.out)
      have HBX := Lib.hid (HB2.out.trans (HB.out.mono (by have := HB2.out.size; have := HBS.out; omega)))
      clear hU hG hr5 hr6 HU HG HB HZ hcc hc5 hc6
      by_cases hlt : (l.length : Int) ≤ 2 * K
      · obtain ⟨e1, e2, e3⟩ := HE.out.1 hlt
        rw [e1] at CM1
        rw [e2] at CM2
        rw [e3] at CM3
        clear e1 e2 e3 HE CS1 CS2
        go_wp2_with fail; (with_reducible refine (CM1.out _ _ _ HRA.out).mono ?_); rintro e w5 ⟨rfl, b5⟩
        have HR5' := Lib.hid (HR5.out.on b5)
        have HR6' := Lib.hid (HR6.out.on b5)
        have HB5 := Lib.hid (HBX.out.trans (b5.mono HBX.out.size)); clear b5
        go_wp2_with fail; (with_reducible refine (CM2.out _ _ _ HR5'.out).mono ?_); rintro e w6 ⟨rfl, b6⟩
        have HR6'' := Lib.hid (HR6'.out.on b6)
        have HB6 := Lib.hid (HB5.out.trans (b6.mono HB5.out.size)); clear b6
        go_wp2_with fail; (with_reducible refine (CM3.out _ _ _ HR6''.out).mono ?_); rintro e w7 ⟨rfl, b7⟩
        have HB7 := Lib.hid (HB6.out.trans (b7.mono HB6.out.size)); clear b7
        go_wp2_with fail
        go_ret
        exact ⟨rfl, HB7.out⟩
      · obtain ⟨e1, e2, e3, q1, q2, q3⟩ := HE.out.2 (by omega)
        have hm1 := mid_range e1
        have hm2 := mid_range e3
        rw [e1] at CM1
        rw [e2, q1] at CM2
        rw [e3] at CM3
        rw [q3] at CS2
        generalize midV K l = M at *
        generalize midV K (growL l l3 l.length) = N at *
        generalize spreadI l = S at *
        obtain ⟨m1, m2⟩ := hm1
        obtain ⟨m3, m4⟩ := hm2
        clear e1 e2 e3 HE q1 q3
        go_wp2_with fail; (with_reducible refine (CM1.out _ _ _ HRA.out).mono ?_); rintro e w5 ⟨rfl, b5⟩
        have HRA' := Lib.hid (HRA.out.on b5)
        have HR5' := Lib.hid (HR5.out.on b5)
        have HR6' := Lib.hid (HR6.out.on b5)
        have HB5 := Lib.hid (HBX.out.trans (b5.mono HBX.out.size)); clear b5
        go_wp2_with fail; (with_reducible refine (CM2.out _ _ _ HR5'.out).mono ?_); rintro e w6 ⟨rfl, b6⟩
        have HRA'' := Lib.hid (HRA'.out.on b6)
        have HR5'' := Lib.hid (HR5'.out.on b6)
        have HR6'' := Lib.hid (HR6'.out.on b6)
        have HB6 := Lib.hid (HB5.out.trans (b6.mono HB5.out.size)); clear b6
        go_wp2_with fail; (with_reducible refine (CM3.out _ _ _ HR6''.out).mono ?_); rintro e w7 ⟨rfl, b7⟩
        have HRA3 := Lib.hid (HRA''.out.on b7)
        have HR53 := Lib.hid (HR5''.out.on b7)
        have HB7 := Lib.hid (HB6.out.trans (b7.mono HB6.out.size)); clear b7
        go_wp2_with fail; (with_reducible refine (CS2.out _ _ _ _ HR53.out (Nat.le_refl _)).mono ?_); rintro e w8 ⟨rfl, b8⟩
        have HRA4 := Lib.hid (HRA3.out.on b8)
        have HB8 := Lib.hid (HB7.out.trans (b8.mono HB7.out.size)); clear b8
        go_wp2_with fail; (with_reducible refine (CS1.out _ _ _ _ HRA4.out (Nat.le_refl _)).mono ?_); rintro e w9 ⟨rfl, b9⟩
        have HB9 := Lib.hid (HB8.out.trans (b9.mono HB8.out.size)); clear b9
        go_wp2_with fail
        go_ret
        exact ⟨rfl, HB9.out⟩

end Go.Proofs.Ytllbhbekpnmlnaa

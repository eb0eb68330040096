/-
  What the document's sorted, Middle and Correct do: the same plain functions.
-/
import Derived.Test.YtllbhbekpnmlnaaClkMid
namespace Go.Proofs.Ytllbhbekpnmlnaa
open Go.RowKit

/-- What stands behind the first k numbers of a list. -/
theorem run_drop (A : Option Addr) (c : Nat) (l : List Int) (hl : l.length ≤ c) (k : Int) (h0 : 0 ≤ k) (h1 : k ≤ l.length) : ∃ (A1 : Option Addr) (c1 : Nat), (l.length - k.toNat ≤ c1) ∧ (∀ w B, Row w B A l → Row w B A1 (l.drop k.toNat)) ∧
    ∀ w, (Instr.slice 22 (.slice A l.length c) (some (.int .i64 k)) none none).run Try.prog w = .ok (.slice A1 (l.drop k.toNat).length c1) w := by
  refine ⟨if c = k.toNat then A else A.map (·.add k.toNat), c - k.toNat, by omega, fun w B h hn => ?_, fun w => ?_⟩
  · rw [List.length_drop] at hn
    obtain ⟨ad, rfl, hb, hc⟩ := h (by omega)
    rw [if_neg (by omega)]
    refine ⟨_, rfl, by rw [adb]; exact hb, fun j x hx => ?_⟩
    rw [List.getElem?_drop] at hx
    have := hc _ x hx
    rw [Go.Deep.add_add]
    exact this
  · have hu : Try.prog.underlying 22 = some (.slice (Try.prog.elem 22)) := by kernel_rfl
    have hs : ∀ w, (sizeOf (Try.prog.elem 22)).run Try.prog w = .ok 1 w := fun w => by
      obtain ⟨i0, hi, hz0, hz1, hz2⟩ := info_parts int_info
      have he : Try.prog.elem 22 = 3 := by kernel_rfl
      rw [he]
      simp [sizeOf, typeInfo, hi, hz1]
    rw [run_slice_l w 22 A l.length c hu .i64 k h0 h1, hs]
    simp only [Result.andThen, sliced, Nat.mul_one, List.length_drop]
theorem run_take (A : Option Addr) (c : Nat) (l : List Int) (hl : l.length ≤ c) (k : Int) (h0 : 0 ≤ k) (h1 : k ≤ l.length) :
    ∀ w, (Instr.slice 22 (.slice A l.length c) none (some (.int .i64 k)) none).run Try.prog w = .ok (.slice A (l.take k.toNat).length c) w := by
  intro w
  have hu : Try.prog.underlying 22 = some (.slice (Try.prog.elem 22)) := by kernel_rfl
  have hs : ∀ w, (sizeOf (Try.prog.elem 22)).run Try.prog w = .ok 1 w := fun w => by
    obtain ⟨i0, hi, hz0, hz1, hz2⟩ := info_parts int_info
    have he : Try.prog.elem 22 = 3 := by kernel_rfl
    rw [he]
    simp [sizeOf, typeInfo, hi, hz1]
  rw [run_slice_h w 22 A l.length c hu .i64 k h0 (by omega), hs]
  have e : (l.take k.toNat).length = k.toNat := by rw [List.length_take]; omega
  rw [e]
  simp only [Result.andThen, sliced, Nat.zero_mul, Nat.sub_zero]
  cases A <;> simp [Addr.add]
theorem Row.front {w : World} {B : Nat} {A : Option Addr} {l : List Int} (h : Row w B A l) (n : Nat) : Row w B A (l.take n) := fun hn => by
  rw [List.length_take] at hn
  obtain ⟨ad, e, hb, hc⟩ := h (by omega)
  refine ⟨ad, e, hb, fun j x hx => hc j x ?_⟩
  have hj := (List.getElem?_eq_some_iff.1 hx).1
  rw [List.length_take] at hj
  rw [List.getElem?_take_of_lt (by omega)] at hx
  exact hx

set_option maxRecDepth 100000 in
set_option maxHeartbeats 1000000 in
theorem sorted_any (A : Option Addr) (c : Nat) (l : List Int) (w : World) (h : Row w w.heap.size A l) (hl : l.length ≤ 64) :
    Calls Try.prog 29 #[.slice A l.length c] w fun e w' => ∃ u, e = .returned u ∧ Own w' w.heap.size u (sortI l) ∧ Below w.heap.size w w' := by
  have HO0 := Lib.hid (Own.nil w w.heap.size)
  go_enter Try.func29, Try.ntmps29
  go_wp2_with fail
  go_loopw [3, 4] (fun u i wr => ∃ k : Nat, k ≤ l.length ∧ i = .int .i64 k ∧ Own wr w.heap.size u (sortI (l.take k)) ∧ Below w.heap.size w wr) (fun _ i _ => l.length - (intOf i).toNat)
  case atStart => exact ⟨0, by omega, rfl, HO0.out, Below.refl _ _⟩
  case round =>
    obtain ⟨k, hk, rfl, ho, hb⟩ := hrel
    clear HO0
    obtain ⟨A1, c1, rfl, hc1, hr1⟩ := ho.row
    have HO := Lib.hid ho; clear ho
    have HB := Lib.hid hb; clear hb
    by_cases hlt : k < l.length
    · obtain ⟨x, hx⟩ : ∃ x, l[k]? = some x := ⟨_, List.getElem?_eq_getElem hlt⟩
      obtain ⟨ad, rfl, hb, hc⟩ := (h.below HB.out (Nat.le_refl _)) (by omega)
      have hck := hc k x hx
      have HT := Lib.hid (sortI_take l k x hx)
      have hkI : (k : Int) < (l.length : Int) := by omega
      have hrs := sortI_rises (l.take k)
      have hsl : (sortI (l.take k)).length ≤ 64 := by rw [sortI_length, List.length_take]; omega
      clear hc hx
      generalize sortI (l.take k) = s at *
      have HRS := Lib.hid hrs; clear hrs
      have HR := Lib.hid hr1; clear hr1
      have HCK := Lib.hid hck; clear hck
      generalize wr = wq at *
      go_wp2_with fail
      go_loopw [5] (fun i w2 => ∃ p : Nat, p ≤ s.length ∧ i = .int .i64 p ∧ (∀ y ∈ s.drop p, x < y) ∧ Below wq.heap.size wq w2) (fun i _ => (intOf i).toNat)
      case atStart => exact ⟨s.length, by omega, rfl, (by rw [List.drop_length]; intro y hy; cases hy), Below.refl _ _⟩
      case round =>
        obtain ⟨p, hp, rfl, hm, hb2⟩ := hrel
        have HM := Lib.hid hm; clear hm
        have HB2 := Lib.hid hb2; clear hb2
        have hck := HCK.out
        rw [← HB2.out.cell (by rw [adb]; have := HB.out.size; omega)] at hck
        rcases rise_case s x p hp with hlow | ⟨j, y, hj, hy, hxy⟩
        · have HI := Lib.hid (insI_done HRS.out x p HM.out (by
            rcases hlow with h0 | ⟨j, y, hj, hy, hx⟩
            · exact .inl h0
            · exact .inr ⟨y, by rw [hj]; simpa using hy, hx⟩))
          rcases hlow with h0 | ⟨j, y, hj, hy, hxy⟩
          · have hpn : decide (0 < p) = false := by rw [decide_eq_false_iff_not]; omega
            clear h0
            go_wp2_with fail
            go_quiet (fail)
            go_wp2_with fail
            have hbd := below_drewN (Below.refl wr.heap.size wr) nq
            have hb3 := HB2.out.trans (hbd.mono HB2.out.size)
            have HO3 := Lib.hid (HO.out.on hb3)
            have HR3 := Lib.hid (HR.out.on hb3)
            have HB3 := Lib.hid (HB.out.trans (hb3.mono HB.out.size))
            rw [← hbd.cell (by rw [adb]; have := HB.out.size; have := HB2.out.size; omega)] at hck
            clear hbd hb3 HO HB HR HCK HM HB2
            generalize wr.drewN nq = w3 at *
            have hpI : (p : Int) ≤ (s.length : Int) := by omega
            have hp0' : (0 : Int) ≤ (p : Int) := by omega
            obtain ⟨A9, c9, hc9, hr9, kd⟩ := run_drop A1 c1 s hc1 p hp0' hpI
            have kt := run_take A1 c1 s hc1 p hp0' hpI
            rw [Int.toNat_natCast] at hr9 hc9
            simp only [Int.toNat_natCast] at kd kt
            have HRD := Lib.hid (hr9 _ _ HR3.out)
            have HRT := Lib.hid (HR3.out.take p)
            clear hr9 hc9
            have HADB : Hid (ad.block < w3.heap.size) := Lib.hid (by have := HB3.out.size; omega)
            obtain ⟨dl, hdl⟩ : ∃ d, s.drop p = d := ⟨_, rfl⟩
            obtain ⟨tl, htl⟩ : ∃ d, s.take p = d := ⟨_, rfl⟩
            have hle : tl.length + dl.length ≤ 64 := by rw [← hdl, ← htl, List.length_take, List.length_drop]; omega
            rw [hdl, htl] at HI
            rw [hdl] at kd HRD
            rw [htl] at kt HRT
            clear hdl htl
            have HAX : Hid (Below w3.heap.size w3 (w3.alloc (.cells #[.int .i64 x] 3)).drew) := Lib.hid (Joins.below_alloc1 w3 _).drew
            go_region_law (first
              | (refine step_app rfl (.const (.slice none 0 0)) (.tmp 32) rfl w3.heap.size w3.heap.size (.slice none 0 0) [] tl A1 c1 (by simp [Act.eval]) (by first | (simp [Act.eval]; done) | simp [Act.eval, Act.put]) (Own.nil _ _) HRT.out (Nat.le_refl _) (by simp only [List.length_nil]; omega) ?_; intro u1 w4 hu1 hg1; have hb4 : Below w3.heap.size w3 w4 := (Below.refl _ w3).drew.trans (Own.below (w := w3.drew) (Own.nil _ _) hg1 (Nat.le_refl _)); have hk4 : w4.cell? (ad.add k) = some (.int .i64 x) := (hb4.cell (by rw [adb]; exact HADB.out)).trans hck)
              | (refine step_app rfl (.tmp 33) (.tmp 38) rfl w3.heap.size (w4.heap.size + 1) u1 ([] ++ tl) [x] (some ⟨w4.heap.size, 0, none⟩) 1 (by simp [Act.eval]) (by simp [Act.eval]) (hu1.on (Joins.below_alloc1 w4 _)) (Row.new w4 [x]) (by have := hb4.size; simp; omega) (by rw [List.length_append]; simp only [List.length_nil, List.length_singleton]; omega) ?_; intro u2 w5 hu2 hg2; have hb5 : Below w3.heap.size w3 w5 := (hb4.trans ((Joins.below_alloc1 w4 _).mono hb4.size)).trans (Own.below (hu1.on (Joins.below_alloc1 w4 _)) hg2 (by have := hb4.size; simp; omega)))
              | (refine step_app rfl (.const (.slice none 0 0)) (.tmp 32) rfl (w3.heap.size + 1) w3.heap.size (.slice none 0 0) [] tl A1 c1 (by simp [Act.eval]) (by first | (simp [Act.eval]; done) | simp [Act.eval, Act.put]) (Own.nil _ _) (HRT.out.below HAX.out (Nat.le_refl _)) (by simp) (by simp only [List.length_nil]; omega) ?_; intro v1 w4 hv1 hg1; have hb4' := Own.below (Own.nil _ (w3.heap.size + 1)) hg1 (by simp); have hrx : Row w4 (w3.heap.size + 1) (some ⟨w3.heap.size, 0, none⟩) [x] := (Row.new w3 [x]).below ((Below.refl _ _).drew.trans hb4') (Nat.le_refl _); have hb4 : Below w3.heap.size w3 w4 := HAX.out.trans (hb4'.mono (by omega)); have hs4 : w3.heap.size + 1 ≤ w4.heap.size := by have := hb4'.size; simp at this; omega)
              | (refine step_app rfl (.tmp 33) (.tmp 38) rfl (w3.heap.size + 1) (w3.heap.size + 1) v1 ([] ++ tl) [x] (some ⟨w3.heap.size, 0, none⟩) 1 (by simp [Act.eval]) (by simp [Act.eval]) hv1 hrx hs4 (by rw [List.length_append]; simp only [List.length_nil, List.length_singleton]; omega) ?_; intro u2 w5 hu2' hg2; have hb5 : Below w3.heap.size w3 w5 := hb4.trans ((Own.below hv1 hg2 hs4).mono (by omega)); have hu2 := hu2'.more (B' := w3.heap.size) (by omega))
              | (refine step_app rfl (.tmp 39) (.tmp 42) rfl w3.heap.size w3.heap.size u2 (([] ++ tl) ++ [x]) dl A9 c9 (by simp [Act.eval]) (by simp [Act.eval]) hu2 (HRD.out.below hb5 (Nat.le_refl _)) hb5.size (by rw [List.length_append, List.length_append]; simp only [List.length_nil, List.length_singleton]; omega) ?_; intro u3 w6 hu3 hg3; have hb6 := hb5.trans (Own.below hu2 hg3 hb5.size); rw [List.nil_append, List.append_assoc, List.singleton_append, ← HI.out] at hu3; have HU3 := Lib.hid (hu3.more HB3.out.size); have HB6 := Lib.hid (HB3.out.trans (hb6.mono HB3.out.size)); clear hu2 hu3 hg2 hg3 hb5 hb6))
            all_goals
              go_wp2_with fail
              go_roundw
              case rel => exact ⟨k + 1, by omega, by go_num, by rw [HT.out]; exact HU3.out, HB6.out⟩
              case measure => simp [intOf]; omega
          · have hpn : decide (0 < p) = true := by rw [decide_eq_true_iff]; omega
            have hpj : IntKind.i64.wrap ((p : Int) - 1) = (j : Int) := by rw [IntWalk.i64_in _ (by omega)]; omega
            have hjl : (j : Int) < (s.length : Int) := by have := (List.getElem?_eq_some_iff.1 hy).1; omega
            have hle : decide (x < y) = false := by rw [decide_eq_false_iff_not]; omega
            obtain ⟨ad1, rfl, hb1, hc1'⟩ := HR.out (by have := (List.getElem?_eq_some_iff.1 hy).1; omega)
            have hcj := hc1' j y hy
            rw [← HB2.out.cell (by rw [adb]; exact hb1)] at hcj
            clear hc1' hy hj
            go_wp2_with fail
            go_quiet (fail)
            clear hcj hpj
            go_wp2_with fail
            have hbd := below_drewN (Below.refl wr.heap.size wr) nq
            have hb3 := HB2.out.trans (hbd.mono HB2.out.size)
            have HO3 := Lib.hid (HO.out.on hb3)
            have HR3 := Lib.hid (HR.out.on hb3)
            have HB3 := Lib.hid (HB.out.trans (hb3.mono HB.out.size))
            rw [← hbd.cell (by rw [adb]; have := HB.out.size; have := HB2.out.size; omega)] at hck
            clear hbd hb3 HO HB HR HCK HM HB2
            generalize wr.drewN nq = w3 at *
            have hpI : (p : Int) ≤ (s.length : Int) := by omega
            have hp0' : (0 : Int) ≤ (p : Int) := by omega
            obtain ⟨A9, c9, hc9, hr9, kd⟩ := run_drop (some ad1) c1 s hc1 p hp0' hpI
            have kt := run_take (some ad1) c1 s hc1 p hp0' hpI
            rw [Int.toNat_natCast] at hr9 hc9
            simp only [Int.toNat_natCast] at kd kt
            have HRD := Lib.hid (hr9 _ _ HR3.out)
            have HRT := Lib.hid (HR3.out.take p)
            clear hr9 hc9
            have HADB : Hid (ad.block < w3.heap.size) := Lib.hid (by have := HB3.out.size; omega)
            obtain ⟨dl, hdl⟩ : ∃ d, s.drop p = d := ⟨_, rfl⟩
            obtain ⟨tl, htl⟩ : ∃ d, s.take p = d := ⟨_, rfl⟩
            have hle : tl.length + dl.length ≤ 64 := by rw [← hdl, ← htl, List.length_take, List.length_drop]; omega
            rw [hdl, htl] at HI
            rw [hdl] at kd HRD
            rw [htl] at kt HRT
            clear hdl htl
            have HAX : Hid (Below w3.heap.size w3 (w3.alloc (.cells #[.int .i64 x] 3)).drew) := Lib.hid (Joins.below_alloc1 w3 _).drew
            go_region_law (first
              | (refine step_app rfl (.const (.slice none 0 0)) (.tmp 32) rfl w3.heap.size w3.heap.size (.slice none 0 0) [] tl (some ad1) c1 (by simp [Act.eval]) (by first | (simp [Act.eval]; done) | simp [Act.eval, Act.put]) (Own.nil _ _) HRT.out (Nat.le_refl _) (by simp only [List.length_nil]; omega) ?_; intro u1 w4 hu1 hg1; have hb4 : Below w3.heap.size w3 w4 := (Below.refl _ w3).drew.trans (Own.below (w := w3.drew) (Own.nil _ _) hg1 (Nat.le_refl _)); have hk4 : w4.cell? (ad.add k) = some (.int .i64 x) := (hb4.cell (by rw [adb]; exact HADB.out)).trans hck)
              | (refine step_app rfl (.tmp 33) (.tmp 38) rfl w3.heap.size (w4.heap.size + 1) u1 ([] ++ tl) [x] (some ⟨w4.heap.size, 0, none⟩) 1 (by simp [Act.eval]) (by simp [Act.eval]) (hu1.on (Joins.below_alloc1 w4 _)) (Row.new w4 [x]) (by have := hb4.size; simp; omega) (by rw [List.length_append]; simp only [List.length_nil, List.length_singleton]; omega) ?_; intro u2 w5 hu2 hg2; have hb5 : Below w3.heap.size w3 w5 := (hb4.trans ((Joins.below_alloc1 w4 _).mono hb4.size)).trans (Own.below (hu1.on (Joins.below_alloc1 w4 _)) hg2 (by have := hb4.size; simp; omega)))
              | (refine step_app rfl (.const (.slice none 0 0)) (.tmp 32) rfl (w3.heap.size + 1) w3.heap.size (.slice none 0 0) [] tl (some ad1) c1 (by simp [Act.eval]) (by first | (simp [Act.eval]; done) | simp [Act.eval, Act.put]) (Own.nil _ _) (HRT.out.below HAX.out (Nat.le_refl _)) (by simp) (by simp only [List.length_nil]; omega) ?_; intro v1 w4 hv1 hg1; have hb4' := Own.below (Own.nil _ (w3.heap.size + 1)) hg1 (by simp); have hrx : Row w4 (w3.heap.size + 1) (some ⟨w3.heap.size, 0, none⟩) [x] := (Row.new w3 [x]).below ((Below.refl _ _).drew.trans hb4') (Nat.le_refl _); have hb4 : Below w3.heap.size w3 w4 := HAX.out.trans (hb4'.mono (by omega)); have hs4 : w3.heap.size + 1 ≤ w4.heap.size := by have := hb4'.size; simp at this; omega)
              | (refine step_app rfl (.tmp 33) (.tmp 38) rfl (w3.heap.size + 1) (w3.heap.size + 1) v1 ([] ++ tl) [x] (some ⟨w3.heap.size, 0, none⟩) 1 (by simp [Act.eval]) (by simp [Act.eval]) hv1 hrx hs4 (by rw [List.length_append]; simp only [List.length_nil, List.length_singleton]; omega) ?_; intro u2 w5 hu2' hg2; have hb5 : Below w3.heap.size w3 w5 := hb4.trans ((Own.below hv1 hg2 hs4).mono (by omega)); have hu2 := hu2'.more (B' := w3.heap.size) (by omega))
              | (refine step_app rfl (.tmp 39) (.tmp 42) rfl w3.heap.size w3.heap.size u2 (([] ++ tl) ++ [x]) dl A9 c9 (by simp [Act.eval]) (by simp [Act.eval]) hu2 (HRD.out.below hb5 (Nat.le_refl _)) hb5.size (by rw [List.length_append, List.length_append]; simp only [List.length_nil, List.length_singleton]; omega) ?_; intro u3 w6 hu3 hg3; have hb6 := hb5.trans (Own.below hu2 hg3 hb5.size); rw [List.nil_append, List.append_assoc, List.singleton_append, ← HI.out] at hu3; have HU3 := Lib.hid (hu3.more HB3.out.size); have HB6 := Lib.hid (HB3.out.trans (hb6.mono HB3.out.size)); clear hu2 hu3 hg2 hg3 hb5 hb6))
            all_goals
              go_wp2_with fail
              go_roundw
              case rel => exact ⟨k + 1, by omega, by go_num, by rw [HT.out]; exact HU3.out, HB6.out⟩
              case measure => simp [intOf]; omega
        · have hpn : decide (0 < p) = true := by rw [decide_eq_true_iff]; omega
          have hpj : IntKind.i64.wrap ((p : Int) - 1) = (j : Int) := by rw [IntWalk.i64_in _ (by omega)]; omega
          have hjl : (j : Int) < (s.length : Int) := by have := (List.getElem?_eq_some_iff.1 hy).1; omega
          have hle : decide (x < y) = true := by rw [decide_eq_true_iff]; omega
          obtain ⟨ad1, rfl, hb1, hc1'⟩ := HR.out (by have := (List.getElem?_eq_some_iff.1 hy).1; omega)
          have hcj := hc1' j y hy
          rw [← HB2.out.cell (by rw [adb]; exact hb1)] at hcj
          have HM2 := Lib.hid (drop_more (by have := HM.out; rw [hj] at this; exact this) hy hxy)
          have HJ := Lib.hid hj
          clear hc1' hy hj
          go_wp2_with fail
          go_quiet (fail)
          go_wp2_with fail
          have HBD := Lib.hid (HB2.out.trans ((below_drewN (Below.refl wr.heap.size wr) nq).mono HB2.out.size))
          go_roundw
          case rel => exact ⟨j, by omega, by first | rfl | go_num, HM2.out, HBD.out⟩
          case measure => have := HJ.out; simp [intOf]; omega
    · have ek : k = l.length := by omega
      have ho := HO.out
      subst ek
      rw [List.take_length] at ho ⊢
      have HO2 := Lib.hid ho
      clear ho HO
      go_wp2_with fail
      go_ret
      exact ⟨_, rfl, HO2.out, HB.out⟩

end Go.Proofs.Ytllbhbekpnmlnaa

/-
  The law VecSums: two vectors have, both together, as many nodes as each of them, less those that are in both; List is Of's other way round, in any order.
-/
import Derived.Test.YtmpaffpmmmpadaaVecApp
namespace Go.Proofs.Ytmpaffpmmmpadaa
open Go.RowKit

theorem or_nat (a b : Nat) (ha : a < 9223372036854775808) (hb : b < 9223372036854775808) : bits .or .i64 (a : Int) (b : Int) = ((a ||| b : Nat) : Int) := by
  have hx : a ||| b < 2 ^ 63 := Nat.or_lt_two_pow (by simpa using ha) (by simpa using hb)
  unfold bits
  simp only [ofInt_i64_nat]
  show IntKind.i64.wrap (((BitVec.ofNat 64 a ||| BitVec.ofNat 64 b).toNat : Nat) : Int) = _
  rw [BitVec.toNat_or, BitVec.toNat_ofNat, BitVec.toNat_ofNat, Nat.mod_eq_of_lt (by omega), Nat.mod_eq_of_lt (by omega)]
  exact wrap_i64_small _ (by omega)
theorem or_is (a b : Int) (h0 : 0 ≤ a) (h1 : a < 65536) (h2 : 0 ≤ b) (h3 : b < 65536) : bits .or .i64 a b = ((md a ||| md b : Nat) : Int) := by
  have e := or_nat (md a) (md b) (by have := md_lt a; omega) (by have := md_lt b; omega)
  rwa [md_of a h0 h1, md_of b h2 h3] at e
theorem and_is (a b : Int) (h0 : 0 ≤ a) (h1 : a < 65536) (h2 : 0 ≤ b) (h3 : b < 65536) : bits .and .i64 a b = ((md a &&& md b : Nat) : Int) := by
  have e := i64_and_nat (md a) (md b) (by have := md_lt a; omega) (by have := md_lt b; omega)
  rwa [md_of a h0 h1, md_of b h2 h3] at e
theorem xor_is (a : Int) (h0 : 0 ≤ a) (h1 : a < 65536) : bits .xor .i64 a 65535 = ((md a ^^^ 65535 : Nat) : Int) := by
  have e := i64_xor_nat (md a) 65535 (by have := md_lt a; omega) (by omega)
  rwa [md_of a h0 h1, show ((65535 : Nat) : Int) = 65535 from rfl] at e
theorem sums (a b : Int) (h0 : 0 ≤ a) (h1 : a < 65536) (h2 : 0 ≤ b) (h3 : b < 65536) : countI (bits .or .i64 a b) + countI (bits .and .i64 a b) = countI a + countI b := by
  rw [or_is a b h0 h1 h2 h3, and_is a b h0 h1 h2 h3]
  unfold countI
  rw [md_nat _ (or_lt _ _ (md_lt a) (md_lt b)), md_nat _ (and_lt _ _ (md_lt b))]
  have := cb_sum (md a) (md b) 16
  omega
theorem count_rest (a : Int) (h0 : 0 ≤ a) (h1 : a < 65536) : countI (bits .xor .i64 a 65535) = 16 - countI a := by
  rw [xor_is a h0 h1]
  unfold countI
  rw [md_nat _ (show md a ^^^ 65535 < 65536 from Nat.xor_lt_two_pow (n := 16) (md_lt a) (by omega))]
  have := cb_other (md a) (md a ^^^ 65535) 16 fun i hi => by
    rw [Nat.testBit_xor, show (65535 : Nat) = 2 ^ 16 - 1 from rfl, Nat.testBit_two_pow_sub_one]
    simp [hi]
  omega
theorem of_turned (a : Int) (k : Nat) (h0 : 0 ≤ a) (h1 : a < 65536) : ofI ((listI a).drop k ++ (listI a).take k) = a := by
  refine vecI_ext _ _ (ofI_range _).1 (ofI_range _).2 h0 h1 fun i hi => ?_
  have e := any_list a i hi
  rw [← List.take_append_drop k (listI a), List.any_append] at e
  rw [md_of_list _ i hi, List.any_append, Bool.or_comm]
  exact e
theorem of_both (a b : Int) (h0 : 0 ≤ a) (h1 : a < 65536) (h2 : 0 ≤ b) (h3 : b < 65536) : ofI (listI a ++ listI b) = bits .or .i64 a b := by
  have hl := or_lt _ _ (md_lt a) (md_lt b)
  rw [or_is a b h0 h1 h2 h3]
  refine vecI_ext _ _ (ofI_range _).1 (ofI_range _).2 (by omega) (by omega) fun i hi => ?_
  rw [md_of_list _ i hi, List.any_append, any_list a i hi, any_list b i hi, md_nat _ hl, Nat.testBit_or]
theorem countI_range (a : Int) : 0 ≤ countI a ∧ countI a ≤ 16 := by
  unfold countI
  have := cb_le (md a) 16
  omega

/-- What stands behind the first k numbers of a list. -/
theorem run_drop (A : Option Addr) (c : Nat) (l : List Int) (hl : l.length ≤ c) (k : Int) (h0 : 0 ≤ k) (h1 : k ≤ l.length) : ∃ (A1 : Option Addr) (c1 : Nat), (l.length - k.toNat ≤ c1) ∧ (∀ w B, Row w B A l → Row w B A1 (l.drop k.toNat)) ∧
    ∀ w, (Instr.slice 22 (.slice A l.length c) (some (.int .i64 k)) none none).run Try.prog w = .ok (.slice A1 (l.drop k.toNat).length c1) w := by
  refine ⟨if c = k.toNat then A else A.map (·.add k.toNat), c - k.toNat, by omega, fun w B h hn => ?_, fun w => ?_⟩
  · rw [List.length_drop] at hn
    obtain ⟨ad, rfl, hb, hc⟩ := h (by omega)
    rw [if_neg (by omega)]
    refine ⟨_, rfl, by rw [adb]; exact hb, fun j x hx => ?_⟩
    rw [List.getElem?_drop] at hx
    have := hc _ x hx
    rw [Go.Deep.add_add]
    exact this
  · have hu : Try.prog.underlying 22 = some (.slice (Try.prog.elem 22)) := by kernel_rfl
    have hs : ∀ w, (sizeOf (Try.prog.elem 22)).run Try.prog w = .ok 1 w := fun w => by
      obtain ⟨i0, hi, hz0, hz1, hz2⟩ := info_parts int_info
      have he : Try.prog.elem 22 = 3 := by kernel_rfl
      rw [he]
      simp [sizeOf, typeInfo, hi, hz1]
    rw [run_slice_l w 22 A l.length c hu .i64 k h0 h1, hs]
    simp only [Result.andThen, sliced, Nat.mul_one, List.length_drop]
theorem run_take (A : Option Addr) (c : Nat) (l : List Int) (hl : l.length ≤ c) (k : Int) (h0 : 0 ≤ k) (h1 : k ≤ l.length) :
    ∀ w, (Instr.slice 22 (.slice A l.length c) none (some (.int .i64 k)) none).run Try.prog w = .ok (.slice A (l.take k.toNat).length c) w := by
  intro w
  have hu : Try.prog.underlying 22 = some (.slice (Try.prog.elem 22)) := by kernel_rfl
  have hs : ∀ w, (sizeOf (Try.prog.elem 22)).run Try.prog w = .ok 1 w := fun w => by
    obtain ⟨i0, hi, hz0, hz1, hz2⟩ := info_parts int_info
    have he : Try.prog.elem 22 = 3 := by kernel_rfl
    rw [he]
    simp [sizeOf, typeInfo, hi, hz1]
  rw [run_slice_h w 22 A l.length c hu .i64 k h0 (by omega), hs]
  have e : (l.take k.toNat).length = k.toNat := by rw [List.length_take]; omega
  rw [e]
  simp only [Result.andThen, sliced, Nat.zero_mul, Nat.sub_zero]
  cases A <;> simp [Addr.add]
theorem Row.front {w : World} {B : Nat} {A : Option Addr} {l : List Int} (h : Row w B A l) (n : Nat) : Row w B A (l.take n) := fun hn => by
  rw [List.length_take] at hn
  obtain ⟨ad, e, hb, hc⟩ := h (by omega)
  refine ⟨ad, e, hb, fun j x hx => hc j x ?_⟩
  have hj := (List.getElem?_eq_some_iff.1 hx).1
  rw [List.length_take] at hj
  rw [List.getElem?_take_of_lt (by omega)] at hx
  exact hx

theorem own_below {w w' : World} {B : Nat} {u : Value} {l : List Int} (h : Own w B u l) (hb : Below w.heap.size w w') : Own w' B u l := by
  refine ⟨h.1, h.2.imp id ?_⟩
  rintro ⟨g, cap, cur, e1, e2, e3, e4⟩
  exact ⟨g, cap, cur, e1, e2, (hb.block g (Array.getElem?_eq_some_iff.1 e3).1).trans e3, e4⟩

set_option maxHeartbeats 2000000 in
theorem vecSums_walk (a0 a1 a2 : Int) (w0 : (Lit.int .i64 a0).wf = true) (w1 : (Lit.int .i64 a1).wf = true) (w2 : (Lit.int .i64 a2).wf = true) (w : World) :
    Calls Try.prog 6 #[.int .i64 a0, .int .i64 a1, .int .i64 a2] w fun e w' => e = .returned (.bool true) ∧ Below w.heap.size w w' := by
  have p0 := fun w => pick_any a0 65536 w0 (by omega) w
  have p1 := fun w => pick_any a1 65536 w1 (by omega) w
  obtain ⟨hr0, hr1⟩ := pickI_range a0 65536 (by omega)
  obtain ⟨hs0, hs1⟩ := pickI_range a1 65536 (by omega)
  generalize pickI a0 65536 = a at *
  generalize pickI a1 65536 = b at *
  have p2 := fun w => pick_any a2 ((listI a).length + 1) w2 (by omega) w
  obtain ⟨ht0, ht1⟩ := pickI_range a2 ((listI a).length + 1) (by omega)
  generalize pickI a2 ((listI a).length + 1) = k at *
  clear w0 w1 w2
  have hla := listI_length a
  have hlb := listI_length b
  have kd := fun A c h => run_drop A c (listI a) h k ht0 (by omega)
  have kt := fun A c h => run_take A c (listI a) h k ht0 (by omega)
  have o1 := of_turned a k.toNat hr0 hr1
  have o2 := of_both a b hr0 hr1 hs0 hs1
  have s1 := sums a b hr0 hr1 hs0 hs1
  have s2 := count_rest a hr0 hr1
  have n1 := countI_range (bits .or .i64 a b)
  have n2 := countI_range (bits .and .i64 a b)
  have n3 := countI_range a
  have n4 := countI_range b
  have ca := fun w => count_any a w
  have cb := fun w => count_any b w
  have co := fun w => count_any (bits .or .i64 a b) w
  have cn := fun w => count_any (bits .and .i64 a b) w
  have cx := fun w => count_any (bits .xor .i64 a 65535) w
  have la := fun w => list_any a w
  have lb := fun w => list_any b w
  have hdl : ((listI a).drop k.toNat).length ≤ 16 := by rw [List.length_drop]; omega
  have htl : ((listI a).take k.toNat).length ≤ 16 := by rw [List.length_take]; omega
  have f1 := fun (A : Option Addr) (c B : Nat) (w : World) (h : Row w B A ((listI a).drop k.toNat ++ (listI a).take k.toNat)) => of_any A c B _ w h (by rw [List.length_append]; unfold maxLen; omega)
  have f2 := fun (A : Option Addr) (c B : Nat) (w : World) (h : Row w B A (listI a ++ listI b)) => of_any A c B _ w h (by rw [List.length_append]; unfold maxLen; omega)
  rw [o1] at f1
  rw [o2] at f2
  rw [s2] at cx
  clear o1 o2 s2
  have hfront := fun w B A => @Row.front w B A (listI a)
  generalize countI (bits .or .i64 a b) = x1 at *
  generalize countI (bits .and .i64 a b) = x2 at *
  generalize countI a = x3 at *
  generalize countI b = x4 at *
  have S1 : (x1 + x2 == x3 + x4) = true := by rw [s1]; simp
  clear s1
  obtain ⟨n10, n11⟩ := n1
  obtain ⟨n20, n21⟩ := n2
  obtain ⟨n30, n31⟩ := n3
  obtain ⟨n40, n41⟩ := n4
  generalize hl1 : (listI a).drop k.toNat = l1 at *
  generalize hl2 : (listI a).take k.toNat = l2 at *
  generalize listI a = l at *
  generalize listI b = lb' at *
  have HF : Hid (∀ w B A, Row w B A l → Row w B A l2) := Lib.hid fun w B A h => by rw [← hl2]; exact hfront w B A h _
  clear hfront hl1 hl2
  have hll : (l.length : Int) + 1 ≤ 17 := by omega
  go_enter Try.func6, Try.ntmps6
  go_wp2_with fail; refine (awake_any _).mono ?_; rintro e w1 ⟨rfl, b1⟩
  go_wp2_with fail; refine (p0 _).mono ?_; rintro e w2 ⟨rfl, rfl⟩
  go_wp2_with fail; refine (p1 _).mono ?_; rintro e w2 ⟨rfl, rfl⟩
  go_wp2_with fail; refine (la _).mono ?_; rintro e w2 ⟨u, rfl, hrow, b2⟩
  obtain ⟨A, c, rfl, hcap, hr⟩ := Row.of_own hrow
  clear hrow
  obtain ⟨A1, c1, hc1, hr1', kd'⟩ := kd A c hcap
  have kt' := kt A c hcap
  have HR1 := Lib.hid (hr1' _ _ hr)
  have HR2 := Lib.hid (HF.out _ _ _ hr)
  have B2 := Lib.hid (b1.trans (b2.mono b1.size))
  clear kd kt hr1' HF hr b1 b2 hc1
  go_wp2_with fail; refine (p2 _).mono ?_; rintro e w3 ⟨rfl, rfl⟩
  go_wp2_with fail
  have hk1 : k ≤ (l.length : Int) := by omega
  go_region_law (first
    | (refine step_app rfl (.const (.slice none 0 0)) (.tmp 27) rfl w2.heap.size w2.heap.size (.slice none 0 0) [] l1 A1 c1 (by simp [Act.eval]) (by simp [Act.eval, Act.put]) (Own.nil _ _) HR1.out (Nat.le_refl _) (by simp; omega) ?_; intro u1 w3 hu1 hg1; have hb1 : Below w2.heap.size w2 w3 := (Below.refl _ w2).drew.trans (Own.below (w := w2.drew) (Own.nil _ _) hg1 (Nat.le_refl _)))
    | (refine step_app rfl (.tmp 28) (.tmp 31) rfl w2.heap.size w2.heap.size u1 ([] ++ l1) l2 A c (by simp [Act.eval]) (by simp [Act.eval]) hu1 (HR2.out.below hb1 (Nat.le_refl _)) hb1.size (by simp; omega) ?_; intro u2 w4 hu2 hg2))
  have hb2 := hb1.trans (Own.below hu1 hg2 hb1.size)
  rw [List.nil_append] at hu2
  generalize l1 ++ l2 = lt at *
  obtain ⟨A4, c4, rfl, _, hr4⟩ := Own.row hu2
  have B4 := Lib.hid hb2
  have HR4 := Lib.hid hr4
  clear hb1 hb2 hr4 hu1 hu2 hg1 hg2
  go_wp2_with fail; refine (co _).mono ?_; rintro e w5 ⟨rfl, b5⟩
  go_wp2_with fail; refine (cn _).mono ?_; rintro e w6 ⟨rfl, b6⟩
  go_wp2_with fail; refine (ca _).mono ?_; rintro e w7 ⟨rfl, b7⟩
  go_wp2_with fail; refine (cb _).mono ?_; rintro e w8 ⟨rfl, b8⟩
  have z5 := b5.size
  have z6 := b6.size
  have z7 := b7.size
  have hr8 := HR4.out.below (((b5.trans (b6.mono z5)).trans (b7.mono (by omega))).trans (b8.mono (by omega))) (Nat.le_refl _)
  have B8 := Lib.hid (((b5.trans (b6.mono z5)).trans (b7.mono (by omega))).trans (b8.mono (by omega)))
  have HR8 := Lib.hid hr8
  clear hr8 b5 b6 b7 b8 z5 z6 z7
  go_wp2_with fail; refine (f1 _ _ _ _ HR8.out).mono ?_; rintro e w9 ⟨rfl, rfl⟩
  obtain ⟨lu, hlu⟩ : ∃ x, x = l ++ lb' := ⟨_, rfl⟩
  rw [← hlu] at f2
  have HLU := Lib.hid hlu; clear hlu
  go_wp2_with fail; refine (la _).mono ?_; rintro e w9 ⟨u9, rfl, h9, b9⟩
  have H9 : Hid (Own w9 w8.heap.size u9 l) := Lib.hid h9
  have B9 := Lib.hid b9
  clear h9 b9
  go_wp2_with fail; refine (lb _).mono ?_; rintro e w10 ⟨u10, rfl, h10, b10⟩
  obtain ⟨A10, c10, rfl, _, hr10⟩ := Row.of_own h10
  have H10 := Lib.hid hr10
  have B10 := Lib.hid b10
  clear h10 b10 hr10
  have h9 := own_below H9.out B10.out
  go_wp2_with (at_builtin; refine list_app (by rfl) (.tmp 59) (.tmp 61) rfl w8.heap.size w10.heap.size u9 l lb' A10 c10 rfl rfl h9 H10.out (by have := B9.out.size; have := B10.out.size; omega) (by omega) ?_; intro u11 w11 h11 g11; have B11 := Lib.hid (Own.below h9 g11 (by have := B9.out.size; have := B10.out.size; omega)); rw [← HLU.out] at h11; obtain ⟨A11, c11, rfl, _, hr11⟩ := Own.row h11; have H11 := Lib.hid hr11; clear hr11 h11 g11)
  refine (f2 _ _ _ _ H11.out).mono ?_
  rintro e w12 ⟨rfl, rfl⟩
  go_wp2_with fail; refine (cx _).mono ?_; rintro e w12 ⟨rfl, b12⟩
  go_wp2_with fail; refine (ca _).mono ?_; rintro e w13 ⟨rfl, b13⟩
  go_wp2_with fail
  go_ret
  have z2 := B2.out.size
  have z4 := B4.out.size
  have z8 := B8.out.size
  have z9 := B9.out.size
  have z10 := B10.out.size
  have z11 := B11.out.size
  have z12 := b12.size
  exact ⟨rfl, (((((((B2.out.trans (B4.out.mono (by omega))).trans (B8.out.mono (by omega))).trans (B9.out.mono (by omega))).trans (B10.out.mono (by omega))).trans (B11.out.mono (by omega))).trans (b12.mono (by omega))).trans (b13.mono (by omega)))⟩

end Go.Proofs.Ytmpaffpmmmpadaa

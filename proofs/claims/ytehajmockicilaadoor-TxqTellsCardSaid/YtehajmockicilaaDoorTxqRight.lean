/-
  Which queues may be: both Rights.
-/
import Derived.Test.YtehajmockicilaaDoorTxqPlace
import Derived.Test.YtehajmockicilaaDoorOnceMore
import Derived.Deep.DeepCutAuto
namespace Go.Proofs.YtehajmockicilaaDoor
open Go Go.RowKit

theorem has_iff (l : List Msg) (n : Int) : hasN l n = true ↔ ∃ m ∈ l, m.number = n := by
  unfold hasN
  rw [decide_eq_true_iff, List.findIdx_lt_length]
  simp [isNum]
/-- Is the one at that place right, behind the one ahead, of a number of its own? -/
def okAt (l : List Msg) (k : Nat) : Bool := match l[k]? with
  | none => true
  | some m => rightM m && (decide (k = 0) || lessM (l.getD (k - 1) zeroM) m) && !hasN (l.take k) m.number
def okTo (l : List Msg) : Nat → Bool
  | 0 => true
  | k + 1 => okTo l k && okAt l k
def rightQ (L : Int) (l : List Msg) : Bool := limB L && decide ((l.length : Int) ≤ L) && okTo l l.length
theorem okTo_false {l : List Msg} {k n : Nat} (h : okAt l k = false) (hn : k < n) : okTo l n = false := by
  induction n with
  | zero => omega
  | succ n ih =>
    show (okTo l n && okAt l n) = false
    rcases Nat.lt_or_ge k n with h1 | h1
    · rw [ih h1]; rfl
    · obtain rfl : k = n := by omega
      rw [h]; simp
theorem okTo_next {l : List Msg} {k : Nat} (h : okTo l k = true) (ha : okAt l k = true) : okTo l (k + 1) = true := by
  show (okTo l k && okAt l k) = true
  rw [h, ha]; rfl
theorem okAt_is {l : List Msg} {k : Nat} {m : Msg} (hm : l[k]? = some m) {pz : Bool} (hp : decide ((0 : Int) < (k : Int)) = pz) : okAt l k = !((!rightM m || (pz && !lessM (l.getD (k - 1) zeroM) m)) || hasN (l.take k) m.number) := by
  have e2 : decide (k = 0) = !pz := by rw [← hp]; by_cases h : k = 0 <;> simp [h]; omega
  unfold okAt
  rw [hm]
  show (rightM m && (decide (k = 0) || lessM (l.getD (k - 1) zeroM) m) && !hasN (l.take k) m.number) = _
  rw [e2]
  cases rightM m <;> cases lessM (l.getD (k - 1) zeroM) m <;> cases hasN (l.take k) m.number <;> cases pz <;> rfl
theorem rightQ_lim {L : Int} {l : List Msg} (h : limB L = false) : rightQ L l = false := by unfold rightQ; rw [h]; rfl
theorem rightQ_len {L : Int} {l : List Msg} (h : ¬ (l.length : Int) ≤ L) : rightQ L l = false := by unfold rightQ; rw [decide_eq_false h]; simp
theorem rightQ_ok {L : Int} {l : List Msg} (h1 : limB L = true) (h : (l.length : Int) ≤ L) : rightQ L l = okTo l l.length := by unfold rightQ; rw [h1, decide_eq_true h]; rfl
theorem QIn.take {w : World} {A : Option Addr} {c : Nat} {l : List Msg} (h : QIn w A c l) (k : Nat) : QIn w A c (l.take k) :=
  ⟨h.msgs.front k, by have := h.cap; rw [List.length_take]; omega, by have := h.few; rw [List.length_take]; omega, fun m hm => h.data m (List.mem_of_mem_take hm), h.low⟩
theorem data_at {w : World} {A : Option Addr} {c : Nat} {l : List Msg} (h : QIn w A c l) {k : Nat} {m : Msg} (hm : l[k]? = some m) : m.data.size ≤ maxLen := by
  have := h.data m (List.mem_of_getElem? hm)
  unfold maxLen; omega

set_option maxRecDepth 100000 in
set_option maxHeartbeats 4000000 in
theorem rightQ_any (L : Int) (A : Option Addr) (c : Nat) (l : List Msg) (w : World) (LL : Laid w) (hq : QIn w A c l) :
    Calls Tryd.prog 40 #[qv L A l.length c] w fun e w' => e = .returned (.bool (rightQ L l)) ∧ Below w.heap.size w w' := by
  have hlim := fun W => isLimit_any L W
  have q1 := QAt.new w L A l.length c
  have b1 := Joins.below_alloc1 w (.cells #[.int .i64 L, .slice A l.length c] 64)
  have hq1 := hq.on b1
  have hL1 := LL.below b1
  obtain ⟨y0, y1⟩ := q1.cells
  have HB := Lib.hid b1
  have HQA := Lib.hid q1
  clear q1 b1 hq LL
  obtain ⟨R, hR⟩ : ∃ R, R = rightQ L l := ⟨_, rfl⟩
  rw [← hR]
  cases hl : limB L
  · have HR : Hid (R = false) := Lib.hid (by rw [hR]; exact rightQ_lim hl)
    rw [hl] at hlim
    clear hR hl
    go_enter Tryd.func40, Tryd.ntmps40
    go_wp2_with fail; refine (hlim _).mono ?_; rintro e w1 ⟨rfl, rfl⟩
    go_wp2_with fail
    go_ret
    exact ⟨ret_b HR.out.symm, HB.out⟩
  · rw [hl] at hlim
    by_cases hlen : (l.length : Int) ≤ L
    · have HR : Hid (R = okTo l l.length) := Lib.hid (by rw [hR]; exact rightQ_ok hl hlen)
      clear hR hl
      have hlen2 : ¬ L < (l.length : Int) := by omega
      go_enter Tryd.func40, Tryd.ntmps40
      go_wp2_with fail; refine (hlim _).mono ?_; rintro e w1 ⟨rfl, rfl⟩
      go_wp2_with fail
      generalize w.alloc (.cells #[.int .i64 L, .slice A l.length c] 64) = W at *
      have hfew := hq1.few
      have hcap := hq1.cap
      have HQ := Lib.hid hq1
      have HLL := Lib.hid hL1
      clear y0 y1 hq1 hL1 hlim
      go_loopw [3, 4, 5, 21] (fun _ _ _ i wr => ∃ k : Nat, k ≤ l.length ∧ i = .int .i64 k ∧ okTo l k = true ∧ Below W.heap.size W wr) (fun _ _ _ i _ => l.length - (intOf i).toNat)
      case atStart => exact ⟨0, by omega, rfl, rfl, Below.refl _ _⟩
      case round =>
        obtain ⟨k, hk, rfl, hok, hb⟩ := hrel
        have HOK := Lib.hid hok; clear hok
        by_cases hlt : k < l.length
        · have hltI : (k : Int) < (l.length : Int) := by omega
          obtain ⟨m, hm⟩ : ∃ m, l[k]? = some m := ⟨_, List.getElem?_eq_getElem hlt⟩
          have hqr := HQ.out.on hb
          have hlr := HLL.out.below hb
          have hY0 := HQA.out.on hb
          obtain ⟨ad, rfl, hat⟩ := hqr.at hm
          have hM := MsgAt.new wr m
          have b1 := Joins.below_alloc1 wr (.cells (mc m) 26)
          have hQ1 := hqr.on b1
          have hL1 := hlr.below b1
          have hY1 := (HQA.out.on hb).on b1
          have hrt := run_takeM (some ad) c l hcap k (by omega)
          have htl : (l.take k).length = k := by rw [List.length_take]; omega
          rw [htl] at hrt
          have HB1 := Lib.hid (hb.trans (b1.mono hb.size))
          have CR : Hid (∀ W2, Below (wr.alloc (.cells (mc m) 26)).heap.size (wr.alloc (.cells (mc m) 26)) W2 → Calls Tryd.prog 54 #[mv m] W2 fun e w' => e = .returned (.bool (rightM m)) ∧ Below W2.heap.size W2 w') := Lib.hid (fun W2 h => rightM_any m (data_at hQ1 hm) W2 (hL1.below h))
          have CH : Hid (∀ W2, Below (wr.alloc (.cells (mc m) 26)).heap.size (wr.alloc (.cells (mc m) 26)) W2 → ∀ g, NumAt W2 g m.number → Calls Tryd.prog 67 #[.slice (some ad) k c, numF g] W2 fun e w' => e = .returned (.bool (hasN (l.take k) m.number)) ∧ Below W2.heap.size W2 w') := Lib.hid (fun W2 h g hg => by
            have q := has_any g m.number (some ad) c (l.take k) W2 ((hQ1.on h).take k) hg
            rw [htl] at q; exact q)
          have HM := Lib.hid hM
          have HFA := Lib.hid (fun h => okTo_false (l := l) (k := k) (n := l.length) h hlt)
          have HNX := Lib.hid (okTo_next (l := l) (k := k) HOK.out)
          obtain ⟨y0, y1⟩ := hY1.cells
          clear htl hY0 hY1
          obtain ⟨pz, hpz⟩ : ∃ pz, decide ((0 : Int) < (k : Int)) = pz := ⟨_, rfl⟩
          have HPK : Hid (pz = true → 0 < k) := Lib.hid (fun h => by rw [h, decide_eq_true_iff] at hpz; omega)
          have HX : Hid (pz = true → ∀ W2, Below (wr.alloc (.cells (mc m) 26)).heap.size (wr.alloc (.cells (mc m) 26)) W2 → At7 W2 (ad.add ((k - 1) * 7)) (l.getD (k - 1) zeroM)) := Lib.hid (fun hp W2 h => by
            have := HPK.out hp
            have hx : l[k - 1]? = some (l.getD (k - 1) zeroM) := by rw [List.getD_eq_getElem?_getD, List.getElem?_eq_getElem (by omega)]; rfl
            obtain ⟨ad', e, h7⟩ := (hQ1.on h).at hx
            cases e; exact h7)
          have HRT := Lib.hid (okAt_is hm hpz)
          have HPZ := Lib.hid hpz
          clear hpz
          generalize l.getD (k - 1) zeroM = x at *
          have CL : Hid (∀ W2, Below (wr.alloc (.cells (mc m) 26)).heap.size (wr.alloc (.cells (mc m) 26)) W2 → Calls Tryd.prog 66 #[mv x, mv m] W2 fun e w' => e = .returned (.bool (lessM x m)) ∧ Below W2.heap.size W2 w') := Lib.hid (fun W2 h => lessM_any x m W2 (hL1.below h))
          clear hm hM b1 hQ1 hL1 hb hqr hlr
          generalize rightM m = rb at *
          generalize lessM x m = sb at *
          generalize hasN (l.take k) m.number = nb at *
          obtain ⟨e1, n1, s1, i1, q1, k1, d1⟩ := m
          obtain ⟨e2, n2, s2, i2, q2, k2, d2⟩ := x
          obtain ⟨z0, z1, z2, z3, z4, z5, z6⟩ := hat
          simp only [mv, mc] at *
          go_upto_region 7 with (fail)
          generalize wr.alloc (.cells #[.bool e1, .int .i64 n1, .int .i64 s1, .int .i64 i1, .int .i64 q1, .int .i64 k1, .string d1] 26) = W1 at *
          generalize wr.heap.size = b at *
          clear z0 z1 z2 z3 z4 z5 z6 y0 y1 hrt
          have HV : ∃ Vp : Nat → (Nat → Value) → World → Prop, Vp = (fun ix u wv => match ix with
            | 0 => u 0 = .agg #[.bool e1, .int .i64 n1, .int .i64 s1, .int .i64 i1, .int .i64 q1, .int .i64 k1, .string d1]
            | 1 => u 1 = .bool rb
            | 2 => u 2 = .bool (!rb)
            | 3 => u 3 = .bool (!rb)
            | 4 => u 4 = if (!((!rb))) = true then .int .i64 (k : Int) else undef
            | 5 => u 5 = if (!((!rb))) = true then .bool pz else undef
            | 6 => u 6 = if (!((!rb))) = true then .bool pz else undef
            | 7 => u 7 = if ((!((!rb))) && pz) = true then .slice (some ad) k c else undef
            | 8 => u 8 = if ((!((!rb))) && pz) = true then .int .i64 (k : Int) else undef
            | 9 => u 9 = if ((!((!rb))) && pz) = true then .int .i64 ((k : Int) - 1) else undef
            | 10 => u 10 = if ((!((!rb))) && pz) = true then .pointer (some (ad.add ((k - 1) * 7))) else undef
            | 11 => u 11 = if ((!((!rb))) && pz) = true then .agg #[.bool e2, .int .i64 n2, .int .i64 s2, .int .i64 i2, .int .i64 q2, .int .i64 k2, .string d2] else undef
            | 12 => u 12 = if ((!((!rb))) && pz) = true then .agg #[.bool e1, .int .i64 n1, .int .i64 s1, .int .i64 i1, .int .i64 q1, .int .i64 k1, .string d1] else undef
            | 13 => u 13 = if ((!((!rb))) && pz) = true then .bool sb else undef
            | 14 => u 14 = if ((!((!rb))) && pz) = true then .bool (!sb) else undef
            | 15 => u 15 = if (!((!rb))) = true then .bool (pz && (!sb)) else undef
            | 16 => u 16 = .bool ((!rb) || (pz && (!sb)))
            | 17 => u 17 = .bool ((!rb) || (pz && (!sb)))
            | 18 => u 18 = if (!(((!rb) || (pz && (!sb))))) = true then .slice (some ad) k c else undef
            | 19 => u 19 = if (!(((!rb) || (pz && (!sb))))) = true then .pointer (some ⟨b, 5, none⟩) else undef
            | 20 => u 20 = if (!(((!rb) || (pz && (!sb))))) = true then .int .i64 k1 else undef
            | 21 => if (!((!rb) || (pz && (!sb)))) = true then (∃ g, u 21 = numF g ∧ NumAt wv g k1) else u 21 = undef
            | 22 => u 22 = if (!(((!rb) || (pz && (!sb))))) = true then .bool nb else undef
            | 23 => u 23 = .bool (((!rb) || (pz && (!sb))) || nb)
            | _ => True) := ⟨_, rfl⟩
          obtain ⟨Vp, hVdef⟩ := HV
          have Vp0 : ∀ u wv, Vp 0 u wv = (u 0 = .agg #[.bool e1, .int .i64 n1, .int .i64 s1, .int .i64 i1, .int .i64 q1, .int .i64 k1, .string d1]) := fun u wv => by subst hVdef; rfl
          have Vp1 : ∀ u wv, Vp 1 u wv = (u 1 = .bool rb) := fun u wv => by subst hVdef; rfl
          have Vp2 : ∀ u wv, Vp 2 u wv = (u 2 = .bool (!rb)) := fun u wv => by subst hVdef; rfl
          have Vp3 : ∀ u wv, Vp 3 u wv = (u 3 = .bool (!rb)) := fun u wv => by subst hVdef; rfl
          have Vp4 : ∀ u wv, Vp 4 u wv = (u 4 = if (!((!rb))) = true then .int .i64 (k : Int) else undef) := fun u wv => by subst hVdef; rfl
          have Vp5 : ∀ u wv, Vp 5 u wv = (u 5 = if (!((!rb))) = true then .bool pz else undef) := fun u wv => by subst hVdef; rfl
          have Vp6 : ∀ u wv, Vp 6 u wv = (u 6 = if (!((!rb))) = true then .bool pz else undef) := fun u wv => by subst hVdef; rfl
          have Vp7 : ∀ u wv, Vp 7 u wv = (u 7 = if ((!((!rb))) && pz) = true then .slice (some ad) k c else undef) := fun u wv => by subst hVdef; rfl
          have Vp8 : ∀ u wv, Vp 8 u wv = (u 8 = if ((!((!rb))) && pz) = true then .int .i64 (k : Int) else undef) := fun u wv => by subst hVdef; rfl
          have Vp9 : ∀ u wv, Vp 9 u wv = (u 9 = if ((!((!rb))) && pz) = true then .int .i64 ((k : Int) - 1) else undef) := fun u wv => by subst hVdef; rfl
          have Vp10 : ∀ u wv, Vp 10 u wv = (u 10 = if ((!((!rb))) && pz) = true then .pointer (some (ad.add ((k - 1) * 7))) else undef) := fun u wv => by subst hVdef; rfl
          have Vp11 : ∀ u wv, Vp 11 u wv = (u 11 = if ((!((!rb))) && pz) = true then .agg #[.bool e2, .int .i64 n2, .int .i64 s2, .int .i64 i2, .int .i64 q2, .int .i64 k2, .string d2] else undef) := fun u wv => by subst hVdef; rfl
          have Vp12 : ∀ u wv, Vp 12 u wv = (u 12 = if ((!((!rb))) && pz) = true then .agg #[.bool e1, .int .i64 n1, .int .i64 s1, .int .i64 i1, .int .i64 q1, .int .i64 k1, .string d1] else undef) := fun u wv => by subst hVdef; rfl
          have Vp13 : ∀ u wv, Vp 13 u wv = (u 13 = if ((!((!rb))) && pz) = true then .bool sb else undef) := fun u wv => by subst hVdef; rfl
          have Vp14 : ∀ u wv, Vp 14 u wv = (u 14 = if ((!((!rb))) && pz) = true then .bool (!sb) else undef) := fun u wv => by subst hVdef; rfl
          have Vp15 : ∀ u wv, Vp 15 u wv = (u 15 = if (!((!rb))) = true then .bool (pz && (!sb)) else undef) := fun u wv => by subst hVdef; rfl
          have Vp16 : ∀ u wv, Vp 16 u wv = (u 16 = .bool ((!rb) || (pz && (!sb)))) := fun u wv => by subst hVdef; rfl
          have Vp17 : ∀ u wv, Vp 17 u wv = (u 17 = .bool ((!rb) || (pz && (!sb)))) := fun u wv => by subst hVdef; rfl
          have Vp18 : ∀ u wv, Vp 18 u wv = (u 18 = if (!(((!rb) || (pz && (!sb))))) = true then .slice (some ad) k c else undef) := fun u wv => by subst hVdef; rfl
          have Vp19 : ∀ u wv, Vp 19 u wv = (u 19 = if (!(((!rb) || (pz && (!sb))))) = true then .pointer (some ⟨b, 5, none⟩) else undef) := fun u wv => by subst hVdef; rfl
          have Vp20 : ∀ u wv, Vp 20 u wv = (u 20 = if (!(((!rb) || (pz && (!sb))))) = true then .int .i64 k1 else undef) := fun u wv => by subst hVdef; rfl
          have Vp21 : ∀ u wv, Vp 21 u wv = (if (!((!rb) || (pz && (!sb)))) = true then (∃ g, u 21 = numF g ∧ NumAt wv g k1) else u 21 = undef) := fun u wv => by subst hVdef; rfl
          have Vp22 : ∀ u wv, Vp 22 u wv = (u 22 = if (!(((!rb) || (pz && (!sb))))) = true then .bool nb else undef) := fun u wv => by subst hVdef; rfl
          have Vp23 : ∀ u wv, Vp 23 u wv = (u 23 = .bool (((!rb) || (pz && (!sb))) || nb)) := fun u wv => by subst hVdef; rfl
          have HVD := Lib.hid hVdef
          clear hVdef
          refine region_each (V := Vp) (drop := fun _ _ => false) (G := fun wv => Below W1.heap.size W1 wv) (Rel := fun jx wv wv' => Below wv.heap.size wv wv') (by kernel_rfl) (by kernel_rfl) (Below.refl _ _).drew ?hmonoc1 ?hdepc1 ⟨?s0_c1, ?s1_c1, ?s2_c1, ?s3_c1, ?s4_c1, ?s5_c1, ?s6_c1, ?s7_c1, ?s8_c1, ?s9_c1, ?s10_c1, ?s11_c1, ?s12_c1, ?s13_c1, ?s14_c1, ?s15_c1, ?s16_c1, ?s17_c1, ?s18_c1, ?s19_c1, ?s20_c1, ?s21_c1, ?s22_c1, ?s23_c1, trivial⟩ ?behindc1
          case hmonoc1 =>
            intro ix jx u wv wv' hij hw hd hr
            rw [HVD.out]
            dsimp only
            split <;> intro h <;> first | exact trivial | exact h | (by_cases hq : (!((!rb) || (pz && (!sb)))) = true; (rw [if_pos hq] at h ⊢; obtain ⟨g, e, hg⟩ := h; exact ⟨g, e, hg.on hr⟩); (rw [if_neg hq] at h ⊢; exact h))
          case hdepc1 =>
            intro ix u u' wv h1 h2
            rw [HVD.out]
            dsimp only
            split <;> intro h <;> first | exact trivial | (rw [← h1]; exact h)
          case s0_c1 =>
            refine owe rfl fun a wx val hG hV hN hO K hK => ?_
            have e4 : a.tmps[4]? = some (.pointer (some ⟨b, 0, none⟩)) := (hO 4 (by kernel_rfl)).trans (by rfl)
            clear hV hN hO
            obtain ⟨x0, x1, x2, x3, x4, x5, x6⟩ := (HM.out.on hG).cells
            go_simp
            exact hK.out _ _ (by rw [Vp0, upd_at] <;> (congr 1 <;> omega)) (Below.refl _ _) hG
          case s1_c1 =>
            refine owe rfl fun a wx val hG hV hN hO K hK => ?_
            have e30 := hN 0 30 (by kernel_rfl) (by kernel_rfl) (by simp)
            have f30 := hV 0 (by kernel_rfl) (by kernel_rfl)
            rw [Vp0] at f30; rw [f30] at e30; clear f30
            clear hV hN hO
            go_simp
            refine (CR.out _ hG).mono ?_
            rintro e w11 ⟨rfl, hb⟩
            exact hK.out _ _ (by rw [Vp1, upd_at]) hb (hG.trans (hb.mono hG.size))
          case s2_c1 =>
            refine owe rfl fun a wx val hG hV hN hO K hK => ?_
            have e31 := hN 1 31 (by kernel_rfl) (by kernel_rfl) (by simp)
            have f31 := hV 1 (by kernel_rfl) (by kernel_rfl)
            rw [Vp1] at f31; rw [f31] at e31; clear f31
            clear hV hN hO
            go_simp
            exact hK.out _ _ (by rw [Vp2, upd_at] <;> (congr 1 <;> omega)) (Below.refl _ _) hG
          case s3_c1 =>
            refine owe rfl fun a wx val hG hV hN hO K hK => ?_
            have e32 := hN 2 32 (by kernel_rfl) (by kernel_rfl) (by simp)
            have f32 := hV 2 (by kernel_rfl) (by kernel_rfl)
            rw [Vp2] at f32; rw [f32] at e32; clear f32
            clear hV hN hO
            go_simp
            exact hK.out _ _ (by rw [Vp3, upd_at] <;> (congr 1 <;> omega)) (Below.refl _ _) hG
          case s4_c1 =>
            refine owe_cond (g := 3) (t := 33) (b := false) (c := (!rb)) (d := true) ((!((!rb)))) (by first | rfl | simp) rfl (by kernel_rfl) (by kernel_rfl) (by kernel_rfl) (by simp) (fun val w h => by rw [Vp3] at h; first | exact h | simpa using h) (fun hd a wx val hG hV hN hO K hK => ?_) (fun hd val w => by first | exact absurd hd (by decide) | rw [Vp4, upd_at, if_neg (by rw [hd]; decide)])
            have e3 : a.tmps[3]? = some (.int .i64 (k : Int)) := (hO 3 (by kernel_rfl)).trans (by rfl)
            clear hV hN hO
            go_simp
            exact hK.out _ _ (by rw [Vp4, upd_at, if_pos hd] <;> (congr 1 <;> omega)) (Below.refl _ _) hG
          case s5_c1 =>
            refine owe_cond (g := 3) (t := 33) (b := false) (c := (!rb)) (d := true) ((!((!rb)))) (by first | rfl | simp) rfl (by kernel_rfl) (by kernel_rfl) (by kernel_rfl) (by simp) (fun val w h => by rw [Vp3] at h; first | exact h | simpa using h) (fun hd a wx val hG hV hN hO K hK => ?_) (fun hd val w => by first | exact absurd hd (by decide) | rw [Vp5, upd_at, if_neg (by rw [hd]; decide)])
            have e34 := hN 4 34 (by kernel_rfl) (by kernel_rfl) (by simp)
            have f34 := hV 4 (by kernel_rfl) (by kernel_rfl)
            rw [Vp4] at f34; rw [f34] at e34; clear f34
            rw [if_pos hd] at e34
            clear hV hN hO
            go_simp
            exact hK.out _ _ (by rw [Vp5, upd_at, if_pos hd, ← HPZ.out] <;> simp) (Below.refl _ _) hG
          case s6_c1 =>
            refine owe_cond (g := 3) (t := 33) (b := false) (c := (!rb)) (d := true) ((!((!rb)))) (by first | rfl | simp) rfl (by kernel_rfl) (by kernel_rfl) (by kernel_rfl) (by simp) (fun val w h => by rw [Vp3] at h; first | exact h | simpa using h) (fun hd a wx val hG hV hN hO K hK => ?_) (fun hd val w => by first | exact absurd hd (by decide) | rw [Vp6, upd_at, if_neg (by rw [hd]; decide)])
            have e35 := hN 5 35 (by kernel_rfl) (by kernel_rfl) (by simp)
            have f35 := hV 5 (by kernel_rfl) (by kernel_rfl)
            rw [Vp5] at f35; rw [f35] at e35; clear f35
            rw [if_pos hd] at e35
            clear hV hN hO
            go_simp
            exact hK.out _ _ (by rw [Vp6, upd_at, if_pos hd] <;> (congr 1 <;> omega)) (Below.refl _ _) hG
          case s7_c1 =>
            refine owe_cond (g := 6) (t := 36) (b := true) (c := pz) (d := (!((!rb)))) (((!((!rb))) && pz)) (by first | rfl | simp) rfl (by kernel_rfl) (by kernel_rfl) (by kernel_rfl) (by simp) (fun val w h => by rw [Vp6] at h; first | exact h | simpa using h) (fun hd a wx val hG hV hN hO K hK => ?_) (fun hd val w => by first | exact absurd hd (by decide) | rw [Vp7, upd_at, if_neg (by rw [hd]; decide)])
            have e5 : a.tmps[5]? = some (.slice (some ad) k c) := (hO 5 (by kernel_rfl)).trans (by rfl)
            clear hV hN hO
            go_simp
            exact hK.out _ _ (by rw [Vp7, upd_at, if_pos hd] <;> (congr 1 <;> omega)) (Below.refl _ _) hG
          case s8_c1 =>
            refine owe_cond (g := 6) (t := 36) (b := true) (c := pz) (d := (!((!rb)))) (((!((!rb))) && pz)) (by first | rfl | simp) rfl (by kernel_rfl) (by kernel_rfl) (by kernel_rfl) (by simp) (fun val w h => by rw [Vp6] at h; first | exact h | simpa using h) (fun hd a wx val hG hV hN hO K hK => ?_) (fun hd val w => by first | exact absurd hd (by decide) | rw [Vp8, upd_at, if_neg (by rw [hd]; decide)])
            have e3 : a.tmps[3]? = some (.int .i64 (k : Int)) := (hO 3 (by kernel_rfl)).trans (by rfl)
            clear hV hN hO
            go_simp
            exact hK.out _ _ (by rw [Vp8, upd_at, if_pos hd] <;> (congr 1 <;> omega)) (Below.refl _ _) hG
          case s9_c1 =>
            refine owe_cond (g := 6) (t := 36) (b := true) (c := pz) (d := (!((!rb)))) (((!((!rb))) && pz)) (by first | rfl | simp) rfl (by kernel_rfl) (by kernel_rfl) (by kernel_rfl) (by simp) (fun val w h => by rw [Vp6] at h; first | exact h | simpa using h) (fun hd a wx val hG hV hN hO K hK => ?_) (fun hd val w => by first | exact absurd hd (by decide) | rw [Vp9, upd_at, if_neg (by rw [hd]; decide)])
            have e38 := hN 8 38 (by kernel_rfl) (by kernel_rfl) (by simp)
            have f38 := hV 8 (by kernel_rfl) (by kernel_rfl)
            rw [Vp8] at f38; rw [f38] at e38; clear f38
            rw [if_pos hd] at e38
            clear hV hN hO
            have hk0 := HPK.out (by simp only [Bool.and_eq_true] at hd; exact hd.2)
            have hk1 : IntKind.i64.wrap ((k : Int) - 1) = (k : Int) - 1 := IntWalk.i64_in _ (by omega)
            go_simp
            exact hK.out _ _ (by rw [Vp9, upd_at, if_pos hd] <;> (congr 1 <;> omega)) (Below.refl _ _) hG
          case s10_c1 =>
            refine owe_cond (g := 6) (t := 36) (b := true) (c := pz) (d := (!((!rb)))) (((!((!rb))) && pz)) (by first | rfl | simp) rfl (by kernel_rfl) (by kernel_rfl) (by kernel_rfl) (by simp) (fun val w h => by rw [Vp6] at h; first | exact h | simpa using h) (fun hd a wx val hG hV hN hO K hK => ?_) (fun hd val w => by first | exact absurd hd (by decide) | rw [Vp10, upd_at, if_neg (by rw [hd]; decide)])
            have e37 := hN 7 37 (by kernel_rfl) (by kernel_rfl) (by simp)
            have f37 := hV 7 (by kernel_rfl) (by kernel_rfl)
            rw [Vp7] at f37; rw [f37] at e37; clear f37
            rw [if_pos hd] at e37
            have e39 := hN 9 39 (by kernel_rfl) (by kernel_rfl) (by simp)
            have f39 := hV 9 (by kernel_rfl) (by kernel_rfl)
            rw [Vp9] at f39; rw [f39] at e39; clear f39
            rw [if_pos hd] at e39
            clear hV hN hO
            have hk0 := HPK.out (by simp only [Bool.and_eq_true] at hd; exact hd.2)
            have hk2 : ((k : Int) - 1).toNat = k - 1 := by omega
            have hk3 : k - 1 < k := by omega
            have hk4 : (k : Int) - 1 < (k : Int) := by omega
            have hk5 : (1 : Int) ≤ (k : Int) := by omega
            go_simp
            exact hK.out _ _ (by rw [Vp10, upd_at, if_pos hd] <;> (congr 1 <;> omega)) (Below.refl _ _) hG
          case s11_c1 =>
            refine owe_cond (g := 6) (t := 36) (b := true) (c := pz) (d := (!((!rb)))) (((!((!rb))) && pz)) (by first | rfl | simp) rfl (by kernel_rfl) (by kernel_rfl) (by kernel_rfl) (by simp) (fun val w h => by rw [Vp6] at h; first | exact h | simpa using h) (fun hd a wx val hG hV hN hO K hK => ?_) (fun hd val w => by first | exact absurd hd (by decide) | rw [Vp11, upd_at, if_neg (by rw [hd]; decide)])
            have e40 := hN 10 40 (by kernel_rfl) (by kernel_rfl) (by simp)
            have f40 := hV 10 (by kernel_rfl) (by kernel_rfl)
            rw [Vp10] at f40; rw [f40] at e40; clear f40
            rw [if_pos hd] at e40
            clear hV hN hO
            obtain ⟨y0, y1, y2, y3, y4, y5, y6⟩ := HX.out (by simp only [Bool.and_eq_true] at hd; exact hd.2) _ hG
            obtain ⟨x0, x1, x2, x3, x4, x5, x6⟩ := (HM.out.on hG).cells
            go_simp
            exact hK.out _ _ (by rw [Vp11, upd_at, if_pos hd] <;> (congr 1 <;> omega)) (Below.refl _ _) hG
          case s12_c1 =>
            refine owe_cond (g := 6) (t := 36) (b := true) (c := pz) (d := (!((!rb)))) (((!((!rb))) && pz)) (by first | rfl | simp) rfl (by kernel_rfl) (by kernel_rfl) (by kernel_rfl) (by simp) (fun val w h => by rw [Vp6] at h; first | exact h | simpa using h) (fun hd a wx val hG hV hN hO K hK => ?_) (fun hd val w => by first | exact absurd hd (by decide) | rw [Vp12, upd_at, if_neg (by rw [hd]; decide)])
            have e4 : a.tmps[4]? = some (.pointer (some ⟨b, 0, none⟩)) := (hO 4 (by kernel_rfl)).trans (by rfl)
            clear hV hN hO
            obtain ⟨x0, x1, x2, x3, x4, x5, x6⟩ := (HM.out.on hG).cells
            go_simp
            exact hK.out _ _ (by rw [Vp12, upd_at, if_pos hd] <;> (congr 1 <;> omega)) (Below.refl _ _) hG
          case s13_c1 =>
            refine owe_cond (g := 6) (t := 36) (b := true) (c := pz) (d := (!((!rb)))) (((!((!rb))) && pz)) (by first | rfl | simp) rfl (by kernel_rfl) (by kernel_rfl) (by kernel_rfl) (by simp) (fun val w h => by rw [Vp6] at h; first | exact h | simpa using h) (fun hd a wx val hG hV hN hO K hK => ?_) (fun hd val w => by first | exact absurd hd (by decide) | rw [Vp13, upd_at, if_neg (by rw [hd]; decide)])
            have e41 := hN 11 41 (by kernel_rfl) (by kernel_rfl) (by simp)
            have f41 := hV 11 (by kernel_rfl) (by kernel_rfl)
            rw [Vp11] at f41; rw [f41] at e41; clear f41
            rw [if_pos hd] at e41
            have e42 := hN 12 42 (by kernel_rfl) (by kernel_rfl) (by simp)
            have f42 := hV 12 (by kernel_rfl) (by kernel_rfl)
            rw [Vp12] at f42; rw [f42] at e42; clear f42
            rw [if_pos hd] at e42
            clear hV hN hO
            go_simp
            refine (CL.out _ hG).mono ?_
            rintro e w11 ⟨rfl, hb⟩
            exact hK.out _ _ (by rw [Vp13, upd_at, if_pos hd]) hb (hG.trans (hb.mono hG.size))
          case s14_c1 =>
            refine owe_cond (g := 6) (t := 36) (b := true) (c := pz) (d := (!((!rb)))) (((!((!rb))) && pz)) (by first | rfl | simp) rfl (by kernel_rfl) (by kernel_rfl) (by kernel_rfl) (by simp) (fun val w h => by rw [Vp6] at h; first | exact h | simpa using h) (fun hd a wx val hG hV hN hO K hK => ?_) (fun hd val w => by first | exact absurd hd (by decide) | rw [Vp14, upd_at, if_neg (by rw [hd]; decide)])
            have e43 := hN 13 43 (by kernel_rfl) (by kernel_rfl) (by simp)
            have f43 := hV 13 (by kernel_rfl) (by kernel_rfl)
            rw [Vp13] at f43; rw [f43] at e43; clear f43
            rw [if_pos hd] at e43
            clear hV hN hO
            go_simp
            exact hK.out _ _ (by rw [Vp14, upd_at, if_pos hd] <;> (congr 1 <;> omega)) (Below.refl _ _) hG
          case s15_c1 =>
            refine owe_cond (g := 3) (t := 33) (b := false) (c := (!rb)) (d := true) ((!((!rb)))) (by first | rfl | simp) rfl (by kernel_rfl) (by kernel_rfl) (by kernel_rfl) (by simp) (fun val w h => by rw [Vp3] at h; first | exact h | simpa using h) (fun hd a wx val hG hV hN hO K hK => ?_) (fun hd val w => by first | exact absurd hd (by decide) | rw [Vp15, upd_at, if_neg (by rw [hd]; decide)])
            have e36 := hN 6 36 (by kernel_rfl) (by kernel_rfl) (by simp)
            have f36 := hV 6 (by kernel_rfl) (by kernel_rfl)
            rw [Vp6] at f36; rw [f36] at e36; clear f36
            have e44 := hN 14 44 (by kernel_rfl) (by kernel_rfl) (by simp)
            have f44 := hV 14 (by kernel_rfl) (by kernel_rfl)
            rw [Vp14] at f44; rw [f44] at e44; clear f44
            clear hV hN hO
            rw [if_pos hd] at e36
            cases hcc : pz
            · rw [hcc] at e36
              rw [if_neg (by first | (rw [hcc]; decide) | simp [hcc])] at e44
              go_simp
              exact hK.out _ _ (by rw [Vp15, upd_at, if_pos hd] <;> simp [hcc]) (Below.refl _ _) hG
            · rw [hcc] at e36
              rw [if_pos (by first | exact hcc | (rw [hcc]; rfl) | simp [hcc, hd])] at e44
              go_simp
              exact hK.out _ _ (by rw [Vp15, upd_at, if_pos hd] <;> simp [hcc]) (Below.refl _ _) hG
          case s16_c1 =>
            refine owe rfl fun a wx val hG hV hN hO K hK => ?_
            have e33 := hN 3 33 (by kernel_rfl) (by kernel_rfl) (by simp)
            have f33 := hV 3 (by kernel_rfl) (by kernel_rfl)
            rw [Vp3] at f33; rw [f33] at e33; clear f33
            have e45 := hN 15 45 (by kernel_rfl) (by kernel_rfl) (by simp)
            have f45 := hV 15 (by kernel_rfl) (by kernel_rfl)
            rw [Vp15] at f45; rw [f45] at e45; clear f45
            clear hV hN hO
            cases hcc : ((!rb))
            · rw [hcc] at e33
              rw [if_pos (by first | exact hcc | (rw [hcc]; rfl) | simp [hcc])] at e45
              go_simp
              exact hK.out _ _ (by rw [Vp16, upd_at] <;> simp [hcc]) (Below.refl _ _) hG
            · rw [hcc] at e33
              rw [if_neg (by first | (rw [hcc]; decide) | simp [hcc])] at e45
              go_simp
              exact hK.out _ _ (by rw [Vp16, upd_at] <;> simp [hcc]) (Below.refl _ _) hG
          case s17_c1 =>
            refine owe rfl fun a wx val hG hV hN hO K hK => ?_
            have e46 := hN 16 46 (by kernel_rfl) (by kernel_rfl) (by simp)
            have f46 := hV 16 (by kernel_rfl) (by kernel_rfl)
            rw [Vp16] at f46; rw [f46] at e46; clear f46
            clear hV hN hO
            go_simp
            exact hK.out _ _ (by rw [Vp17, upd_at] <;> (congr 1 <;> omega)) (Below.refl _ _) hG
          case s18_c1 =>
            refine owe_cond (g := 17) (t := 47) (b := false) (c := ((!rb) || (pz && (!sb)))) (d := true) ((!(((!rb) || (pz && (!sb)))))) (by first | rfl | simp) rfl (by kernel_rfl) (by kernel_rfl) (by kernel_rfl) (by simp) (fun val w h => by rw [Vp17] at h; first | exact h | simpa using h) (fun hd a wx val hG hV hN hO K hK => ?_) (fun hd val w => by first | exact absurd hd (by decide) | rw [Vp18, upd_at, if_neg (by rw [hd]; decide)])
            have e5 : a.tmps[5]? = some (.slice (some ad) k c) := (hO 5 (by kernel_rfl)).trans (by rfl)
            clear hV hN hO
            go_simp
            exact hK.out _ _ (by rw [Vp18, upd_at, if_pos hd] <;> (congr 1 <;> omega)) (Below.refl _ _) hG
          case s19_c1 =>
            refine owe_cond (g := 17) (t := 47) (b := false) (c := ((!rb) || (pz && (!sb)))) (d := true) ((!(((!rb) || (pz && (!sb)))))) (by first | rfl | simp) rfl (by kernel_rfl) (by kernel_rfl) (by kernel_rfl) (by simp) (fun val w h => by rw [Vp17] at h; first | exact h | simpa using h) (fun hd a wx val hG hV hN hO K hK => ?_) (fun hd val w => by first | exact absurd hd (by decide) | rw [Vp19, upd_at, if_neg (by rw [hd]; decide)])
            have e4 : a.tmps[4]? = some (.pointer (some ⟨b, 0, none⟩)) := (hO 4 (by kernel_rfl)).trans (by rfl)
            clear hV hN hO
            go_simp
            exact hK.out _ _ (by rw [Vp19, upd_at, if_pos hd] <;> (congr 1 <;> omega)) (Below.refl _ _) hG
          case s20_c1 =>
            refine owe_cond (g := 17) (t := 47) (b := false) (c := ((!rb) || (pz && (!sb)))) (d := true) ((!(((!rb) || (pz && (!sb)))))) (by first | rfl | simp) rfl (by kernel_rfl) (by kernel_rfl) (by kernel_rfl) (by simp) (fun val w h => by rw [Vp17] at h; first | exact h | simpa using h) (fun hd a wx val hG hV hN hO K hK => ?_) (fun hd val w => by first | exact absurd hd (by decide) | rw [Vp20, upd_at, if_neg (by rw [hd]; decide)])
            have e49 := hN 19 49 (by kernel_rfl) (by kernel_rfl) (by simp)
            have f49 := hV 19 (by kernel_rfl) (by kernel_rfl)
            rw [Vp19] at f49; rw [f49] at e49; clear f49
            rw [if_pos hd] at e49
            clear hV hN hO
            obtain ⟨x0, x1, x2, x3, x4, x5, x6⟩ := (HM.out.on hG).cells
            go_simp
            exact hK.out _ _ (by rw [Vp20, upd_at, if_pos hd] <;> (congr 1 <;> omega)) (Below.refl _ _) hG
          case s21_c1 =>
            refine owe_cond (g := 17) (t := 47) (b := false) (c := ((!rb) || (pz && (!sb)))) (d := true) ((!(((!rb) || (pz && (!sb)))))) (by first | rfl | simp) rfl (by kernel_rfl) (by kernel_rfl) (by kernel_rfl) (by simp) (fun val w h => by rw [Vp17] at h; first | exact h | simpa using h) (fun hd a wx val hG hV hN hO K hK => ?_) (fun hd val w => by first | exact absurd hd (by decide) | rw [Vp21, upd_at, if_neg (by rw [hd]; decide)])
            have e50 := hN 20 50 (by kernel_rfl) (by kernel_rfl) (by simp)
            have f50 := hV 20 (by kernel_rfl) (by kernel_rfl)
            rw [Vp20] at f50; rw [f50] at e50; clear f50
            rw [if_pos hd] at e50
            clear hV hN hO
            go_simp
            refine (ofNumber_any k1 _).mono ?_
            rintro e w11 ⟨rfl, hn, hb⟩
            exact hK.out _ _ (by rw [Vp21, upd_at, if_pos hd]; exact ⟨_, rfl, hn⟩) hb (hG.trans (hb.mono hG.size))
          case s22_c1 =>
            refine owe_cond (g := 17) (t := 47) (b := false) (c := ((!rb) || (pz && (!sb)))) (d := true) ((!(((!rb) || (pz && (!sb)))))) (by first | rfl | simp) rfl (by kernel_rfl) (by kernel_rfl) (by kernel_rfl) (by simp) (fun val w h => by rw [Vp17] at h; first | exact h | simpa using h) (fun hd a wx val hG hV hN hO K hK => ?_) (fun hd val w => by first | exact absurd hd (by decide) | rw [Vp22, upd_at, if_neg (by rw [hd]; decide)])
            have e48 := hN 18 48 (by kernel_rfl) (by kernel_rfl) (by simp)
            have f48 := hV 18 (by kernel_rfl) (by kernel_rfl)
            rw [Vp18] at f48; rw [f48] at e48; clear f48
            rw [if_pos hd] at e48
            have e51 := hN 21 51 (by kernel_rfl) (by kernel_rfl) (by simp)
            have f51 := hV 21 (by kernel_rfl) (by kernel_rfl)
            rw [Vp21] at f51; rw [if_pos hd] at f51; obtain ⟨g, hv, hgg⟩ := f51; rw [hv] at e51
            clear hV hN hO
            go_simp
            refine (CH.out _ hG g hgg).mono ?_
            rintro e w11 ⟨rfl, hb⟩
            exact hK.out _ _ (by rw [Vp22, upd_at, if_pos hd]) hb (hG.trans (hb.mono hG.size))
          case s23_c1 =>
            refine owe rfl fun a wx val hG hV hN hO K hK => ?_
            have e47 := hN 17 47 (by kernel_rfl) (by kernel_rfl) (by simp)
            have f47 := hV 17 (by kernel_rfl) (by kernel_rfl)
            rw [Vp17] at f47; rw [f47] at e47; clear f47
            have e52 := hN 22 52 (by kernel_rfl) (by kernel_rfl) (by simp)
            have f52 := hV 22 (by kernel_rfl) (by kernel_rfl)
            rw [Vp22] at f52; rw [f52] at e52; clear f52
            clear hV hN hO
            cases hcc : (((!rb) || (pz && (!sb))))
            · rw [hcc] at e47
              rw [if_pos (by first | exact hcc | (rw [hcc]; rfl) | simp [hcc])] at e52
              go_simp
              exact hK.out _ _ (by rw [Vp23, upd_at] <;> simp [hcc]) (Below.refl _ _) hG
            · rw [hcc] at e47
              rw [if_neg (by first | (rw [hcc]; decide) | simp [hcc])] at e52
              go_simp
              exact hK.out _ _ (by rw [Vp23, upd_at] <;> simp [hcc]) (Below.refl _ _) hG
          intro val wx hG hV
          have f0 := hV 0 (by simp) (fun _ _ => by rfl)
          rw [Vp0] at f0
          have f1 := hV 1 (by simp) (fun _ _ => by rfl)
          rw [Vp1] at f1
          have f2 := hV 2 (by simp) (fun _ _ => by rfl)
          rw [Vp2] at f2
          have f3 := hV 3 (by simp) (fun _ _ => by rfl)
          rw [Vp3] at f3
          have f4 := hV 4 (by simp) (fun _ _ => by rfl)
          rw [Vp4] at f4
          have f5 := hV 5 (by simp) (fun _ _ => by rfl)
          rw [Vp5] at f5
          have f6 := hV 6 (by simp) (fun _ _ => by rfl)
          rw [Vp6] at f6
          have f7 := hV 7 (by simp) (fun _ _ => by rfl)
          rw [Vp7] at f7
          have f8 := hV 8 (by simp) (fun _ _ => by rfl)
          rw [Vp8] at f8
          have f9 := hV 9 (by simp) (fun _ _ => by rfl)
          rw [Vp9] at f9
          have f10 := hV 10 (by simp) (fun _ _ => by rfl)
          rw [Vp10] at f10
          have f11 := hV 11 (by simp) (fun _ _ => by rfl)
          rw [Vp11] at f11
          have f12 := hV 12 (by simp) (fun _ _ => by rfl)
          rw [Vp12] at f12
          have f13 := hV 13 (by simp) (fun _ _ => by rfl)
          rw [Vp13] at f13
          have f14 := hV 14 (by simp) (fun _ _ => by rfl)
          rw [Vp14] at f14
          have f15 := hV 15 (by simp) (fun _ _ => by rfl)
          rw [Vp15] at f15
          have f16 := hV 16 (by simp) (fun _ _ => by rfl)
          rw [Vp16] at f16
          have f17 := hV 17 (by simp) (fun _ _ => by rfl)
          rw [Vp17] at f17
          have f18 := hV 18 (by simp) (fun _ _ => by rfl)
          rw [Vp18] at f18
          have f19 := hV 19 (by simp) (fun _ _ => by rfl)
          rw [Vp19] at f19
          have f20 := hV 20 (by simp) (fun _ _ => by rfl)
          rw [Vp20] at f20
          have f21 := hV 21 (by simp) (fun _ _ => by rfl)
          rw [Vp21] at f21
          have f22 := hV 22 (by simp) (fun _ _ => by rfl)
          rw [Vp22] at f22
          have f23 := hV 23 (by simp) (fun _ _ => by rfl)
          rw [Vp23] at f23
          clear hV Vp0 Vp1 Vp2 Vp3 Vp4 Vp5 Vp6 Vp7 Vp8 Vp9 Vp10 Vp11 Vp12 Vp13 Vp14 Vp15 Vp16 Vp17 Vp18 Vp19 Vp20 Vp21 Vp22 Vp23
          simp only [putAll, Act.put, List.setIfInBounds_toArray, List.set_cons_zero, List.set_cons_succ]
          generalize val 0 = z0 at *; (subst f0)
          generalize val 1 = z1 at *; (subst f1)
          generalize val 2 = z2 at *; (subst f2)
          generalize val 3 = z3 at *; (subst f3)
          generalize val 4 = z4 at *; clear f4
          generalize val 5 = z5 at *; clear f5
          generalize val 6 = z6 at *; clear f6
          generalize val 7 = z7 at *; clear f7
          generalize val 8 = z8 at *; clear f8
          generalize val 9 = z9 at *; clear f9
          generalize val 10 = z10 at *; clear f10
          generalize val 11 = z11 at *; clear f11
          generalize val 12 = z12 at *; clear f12
          generalize val 13 = z13 at *; clear f13
          generalize val 14 = z14 at *; clear f14
          generalize val 15 = z15 at *; clear f15
          generalize val 16 = z16 at *; (subst f16)
          generalize val 17 = z17 at *; (subst f17)
          generalize val 18 = z18 at *; clear f18
          generalize val 19 = z19 at *; clear f19
          generalize val 20 = z20 at *; clear f20
          generalize val 21 = z21 at *; clear f21
          generalize val 22 = z22 at *; clear f22
          generalize val 23 = z23 at *; (subst f23)
          clear HVD
          have hbw := HB1.out.trans (hG.mono HB1.out.size)
          have HBW := Lib.hid hbw
          clear hbw hG
          obtain ⟨bad, hbad⟩ : ∃ bad, ((!rb || (pz && !sb)) || nb) = bad := ⟨_, rfl⟩
          rw [hbad] at HRT
          simp only [hbad]
          clear hbad
          cases bad
          · go_wp2_with fail
            go_roundw
            case rel => exact ⟨k + 1, by omega, by go_num, HNX.out (by rw [HRT.out]; rfl), HBW.out⟩
            case measure => simp [intOf]; omega
          · go_wp2_with fail
            go_ret
            exact ⟨ret_b (by rw [HR.out, HFA.out (by rw [HRT.out]; rfl)]), HB.out.trans (HBW.out.mono HB.out.size)⟩
        · have hltI : ¬ (k : Int) < (l.length : Int) := by omega
          have hkl : k = l.length := by omega
          have HKL := Lib.hid hkl; clear hkl
          have HBR := Lib.hid hb
          go_wp2_with fail
          go_ret
          exact ⟨ret_b (by rw [HR.out, ← HKL.out, HOK.out]), HB.out.trans (HBR.out.mono HB.out.size)⟩
    · have HR : Hid (R = false) := Lib.hid (by rw [hR]; exact rightQ_len hlen)
      clear hR hl
      have hlen2 : L < (l.length : Int) := by omega
      go_enter Tryd.func40, Tryd.ntmps40
      go_wp2_with fail; refine (hlim _).mono ?_; rintro e w1 ⟨rfl, rfl⟩
      go_wp2_with fail
      go_ret
      exact ⟨ret_b HR.out.symm, HB.out⟩

end Go.Proofs.YtehajmockicilaaDoor


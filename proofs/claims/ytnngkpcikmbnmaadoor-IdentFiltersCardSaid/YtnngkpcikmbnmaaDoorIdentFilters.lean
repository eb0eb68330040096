/-
  The walk of the law IdentFilters: which filters fit, and what they let through, is as the document's own answers say.
-/
import Derived.Test.YtnngkpcikmbnmaaDoorIdentEq
import Derived.Deep.DeepCutAuto
namespace Go.Proofs.YtnngkpcikmbnmaaDoor
open Go.RowKit

theorem Lie.take {w : World} {a : Addr} {l : List (Bool × Int × Int)} (h : Lie w a l) (m : Nat) : Lie w a (l.take m) := by
  refine ⟨h.1, fun i f hf => h.2 i f ?_⟩
  rw [List.getElem?_take] at hf
  split at hf
  · exact hf
  · cases hf

set_option maxHeartbeats 20000000 in
set_option maxRecDepth 100000 in
theorem identFilters_some (a0 : Bool) (b0 : Int) (a : Addr) (cap : Nat) (l : List (Bool × Int × Int)) (w : World) (L : Laid w) (hl : Lie w a l) (hcap : l.length ≤ cap) (hlen : cap ≤ 9223372036854775807) :
    Calls Tryd.prog 4 #[.agg #[.bool a0, .int .i64 b0], .slice (some a) l.length cap] w fun e w' => e = .returned (.bool true) ∧ Below w.heap.size w w' := by
  go_enter Tryd.func4, Tryd.ntmps4
  go_wp2_with fail
  refine (awake_any _ (L.alloc _)).mono ?_
  rintro e w0 ⟨rfl, hb⟩
  have XA := (Two.new w a0 b0 _).below hb
  have L0 := (L.alloc _).below hb
  have HL0 := (hl.below (Joins.below_alloc1 _ _)).below hb
  have hW := below_trans (Joins.below_alloc1 w _) hb
  clear hb
  have HL1 := Lib.hid HL0; clear HL0
  go_upto_region 2 with fail
  go_cut [6] (fun s wx => ∃ m : Nat, s = .slice (some a) m cap ∧ m ≤ 10 ∧ m ≤ l.length ∧ wx = w0)
  case first =>
    have hc0 : (l.length : Int) ≤ (cap : Int) := by omega
    by_cases h10 : l.length ≤ 10
    · have h11 : (l.length : Int) ≤ 10 := by omega
      go_wp2_with fail
      go_meet
      exact ⟨l.length, rfl, h10, Nat.le_refl _, rfl⟩
    · have h11 : (10 : Int) < (l.length : Int) := by omega
      have h12 : (10 : Int) ≤ (cap : Int) := by omega
      go_wp2_with fail
      go_meet
      exact ⟨10, rfl, by omega, by omega, rfl⟩
  case rest =>
  obtain ⟨m, rfl, hm, hml, hwx⟩ := hcut
  subst hwx
  have HX := Lib.hid (HL1.out.take m)
  have hxl : (l.take m).length = m := by rw [List.length_take]; omega
  generalize l.take m = x at HX hxl
  clear HL1
  subst hxl
  go_wp2_with fail
  go_loopw [7] (fun v wr => ∃ k : Nat, k ≤ x.length ∧ v = .int .i64 k ∧ Below wc.heap.size wc wr) (fun v _ => x.length - (intOf v).toNat)
  case atStart => exact ⟨0, by omega, rfl, Below.refl _ _⟩
  case round =>
    obtain ⟨k, hk, rfl, hb⟩ := hrel
    have HB := Lib.hid hb
    have XR := XA.below hb
    have LE := L0.below hb
    have HR := Lib.hid (HX.out.below hb)
    by_cases hlt : k < x.length
    · obtain ⟨f, hf⟩ : ∃ f, x[k]? = some f := ⟨_, List.getElem?_eq_getElem hlt⟩
      obtain ⟨f0, f1, f2⟩ := f
      have d1 := fun w L => fits_any f0 f1 f2 w L
      have d2 := fun w => refFits_any f0 f1 f2 w
      have d3 := fun w L => match_any f0 f1 f2 a0 b0 w L
      have d4 := fun w => refMatch_any f0 f1 f2 a0 b0 w
      obtain ⟨g0, g1, g2⟩ := HR.out.2 k _ hf
      have hab : (a.add (k * 3)).block < wr.heap.size := by rw [add_block]; exact HR.out.1
      generalize fitsI f0 f1 f2 = r1 at d1 d2
      generalize matchI f0 f1 f2 a0 b0 = r2 at d3 d4
      clear hb hf HX
      have D1 := Lib.hid d1; clear d1
      have D2 := Lib.hid d2; clear d2
      have D3 := Lib.hid d3; clear d3
      have D4 := Lib.hid d4; clear d4
      have hk0 : (0 : Int) ≤ (k : Int) := by omega
      have hk1 : (k : Int) < (x.length : Int) := by omega
      have HST : Hid (∀ w', Below wr.heap.size wr w' → (w'.cell? ⟨w.heap.size, 0, none⟩ = some (.bool a0) ∧ w'.cell? ⟨w.heap.size, 1, none⟩ = some (.int .i64 b0) ∧ w'.cell? (a.add (k * 3)) = some (.bool f0) ∧ w'.cell? ⟨(a.add (k * 3)).block, (a.add (k * 3)).off + 1, none⟩ = some (.int .i64 f1) ∧ w'.cell? ⟨(a.add (k * 3)).block, (a.add (k * 3)).off + 2, none⟩ = some (.int .i64 f2) ∧ Below wr.heap.size wr w')) := by
        apply Lib.hid
        intro w' hb
        exact ⟨(XR.below hb).2.1, (XR.below hb).2.2, (hb.cell hab).trans g0, (hb.cell (p := ⟨(a.add (k * 3)).block, _, none⟩) hab).trans g1, (hb.cell (p := ⟨(a.add (k * 3)).block, _, none⟩) hab).trans g2, hb⟩
      have HSL : Hid (∀ w', (w'.cell? ⟨w.heap.size, 0, none⟩ = some (.bool a0) ∧ w'.cell? ⟨w.heap.size, 1, none⟩ = some (.int .i64 b0) ∧ w'.cell? (a.add (k * 3)) = some (.bool f0) ∧ w'.cell? ⟨(a.add (k * 3)).block, (a.add (k * 3)).off + 1, none⟩ = some (.int .i64 f1) ∧ w'.cell? ⟨(a.add (k * 3)).block, (a.add (k * 3)).off + 2, none⟩ = some (.int .i64 f2) ∧ Below wr.heap.size wr w') → Below wr.heap.size wr w') := Lib.hid fun w' h => h.2.2.2.2.2
      have HST2 : Hid (∀ w' w'', (w'.cell? ⟨w.heap.size, 0, none⟩ = some (.bool a0) ∧ w'.cell? ⟨w.heap.size, 1, none⟩ = some (.int .i64 b0) ∧ w'.cell? (a.add (k * 3)) = some (.bool f0) ∧ w'.cell? ⟨(a.add (k * 3)).block, (a.add (k * 3)).off + 1, none⟩ = some (.int .i64 f1) ∧ w'.cell? ⟨(a.add (k * 3)).block, (a.add (k * 3)).off + 2, none⟩ = some (.int .i64 f2) ∧ Below wr.heap.size wr w') → Below w'.heap.size w' w'' → (w''.cell? ⟨w.heap.size, 0, none⟩ = some (.bool a0) ∧ w''.cell? ⟨w.heap.size, 1, none⟩ = some (.int .i64 b0) ∧ w''.cell? (a.add (k * 3)) = some (.bool f0) ∧ w''.cell? ⟨(a.add (k * 3)).block, (a.add (k * 3)).off + 1, none⟩ = some (.int .i64 f1) ∧ w''.cell? ⟨(a.add (k * 3)).block, (a.add (k * 3)).off + 2, none⟩ = some (.int .i64 f2) ∧ Below wr.heap.size wr w'')) := Lib.hid fun w' w'' h hb => HST.out w'' (below_trans (HSL.out w' h) hb)
      have HLD : Hid (∀ w', (w'.cell? ⟨w.heap.size, 0, none⟩ = some (.bool a0) ∧ w'.cell? ⟨w.heap.size, 1, none⟩ = some (.int .i64 b0) ∧ w'.cell? (a.add (k * 3)) = some (.bool f0) ∧ w'.cell? ⟨(a.add (k * 3)).block, (a.add (k * 3)).off + 1, none⟩ = some (.int .i64 f1) ∧ w'.cell? ⟨(a.add (k * 3)).block, (a.add (k * 3)).off + 2, none⟩ = some (.int .i64 f2) ∧ Below wr.heap.size wr w') → Laid w') := Lib.hid fun w' h => LE.below (HSL.out w' h)
      go_wp2_with fail
      go_region_held3 (fun w' => w'.cell? ⟨w.heap.size, 0, none⟩ = some (.bool a0) ∧ w'.cell? ⟨w.heap.size, 1, none⟩ = some (.int .i64 b0) ∧ w'.cell? (a.add (k * 3)) = some (.bool f0) ∧ w'.cell? ⟨(a.add (k * 3)).block, (a.add (k * 3)).off + 1, none⟩ = some (.int .i64 f1) ∧ w'.cell? ⟨(a.add (k * 3)).block, (a.add (k * 3)).off + 2, none⟩ = some (.int .i64 f2) ∧ Below wr.heap.size wr w') (first | assumption | exact HST.out _ (Below.refl _ _).drew | exact HST2.out _ _ (by assumption) (by assumption)) (first | (go_at_call 22; refine (D1.out _ (HLD.out _ (by assumption))).mono ?_; rintro e v1 ⟨rfl, hb1⟩) | (go_at_call 23; refine (D2.out _).mono ?_; rintro e v2 ⟨rfl, hb2⟩) | (go_at_call 24; refine (D3.out _ (HLD.out _ (by assumption))).mono ?_; rintro e v3 ⟨rfl, hb3⟩) | (go_at_call 25; refine (D4.out _).mono ?_; rintro e v4 ⟨rfl, hb4⟩))
      all_goals
        go_wp2_with fail
        go_roundw
        case rel => exact ⟨k + 1, by omega, by go_num, below_trans HB.out (HSL.out _ (by assumption))⟩
        case measure => simp [intOf]; omega
    · have d1 := fun w L hl => any_any a0 b0 (some a) cap x w L hl (by omega)
      have d2 := fun w hl => refAny_any a0 b0 (some a) cap x w hl (by omega)
      generalize anyI a0 b0 x = r1 at d1 d2
      clear hb
      have D1 := Lib.hid d1; clear d1
      have D2 := Lib.hid d2; clear d2
      have HST : Hid (∀ w', Below wr.heap.size wr w' → (w'.cell? ⟨w.heap.size, 0, none⟩ = some (.bool a0) ∧ w'.cell? ⟨w.heap.size, 1, none⟩ = some (.int .i64 b0) ∧ Below wr.heap.size wr w')) := by
        apply Lib.hid
        intro w' hb
        exact ⟨(XR.below hb).2.1, (XR.below hb).2.2, hb⟩
      have HSL : Hid (∀ w', (w'.cell? ⟨w.heap.size, 0, none⟩ = some (.bool a0) ∧ w'.cell? ⟨w.heap.size, 1, none⟩ = some (.int .i64 b0) ∧ Below wr.heap.size wr w') → Below wr.heap.size wr w') := Lib.hid fun w' h => h.2.2
      have HST2 : Hid (∀ w' w'', (w'.cell? ⟨w.heap.size, 0, none⟩ = some (.bool a0) ∧ w'.cell? ⟨w.heap.size, 1, none⟩ = some (.int .i64 b0) ∧ Below wr.heap.size wr w') → Below w'.heap.size w' w'' → (w''.cell? ⟨w.heap.size, 0, none⟩ = some (.bool a0) ∧ w''.cell? ⟨w.heap.size, 1, none⟩ = some (.int .i64 b0) ∧ Below wr.heap.size wr w'')) := Lib.hid fun w' w'' h hb => HST.out w'' (below_trans (HSL.out w' h) hb)
      have HLD : Hid (∀ w', (w'.cell? ⟨w.heap.size, 0, none⟩ = some (.bool a0) ∧ w'.cell? ⟨w.heap.size, 1, none⟩ = some (.int .i64 b0) ∧ Below wr.heap.size wr w') → Laid w') := Lib.hid fun w' h => LE.below (HSL.out w' h)
      have HLI : Hid (∀ w', (w'.cell? ⟨w.heap.size, 0, none⟩ = some (.bool a0) ∧ w'.cell? ⟨w.heap.size, 1, none⟩ = some (.int .i64 b0) ∧ Below wr.heap.size wr w') → LieIn w' (some a) x) := Lib.hid fun w' h => .inr ⟨a, rfl, HR.out.below (HSL.out w' h)⟩
      go_wp2_with fail
      go_region_held3 (fun w' => w'.cell? ⟨w.heap.size, 0, none⟩ = some (.bool a0) ∧ w'.cell? ⟨w.heap.size, 1, none⟩ = some (.int .i64 b0) ∧ Below wr.heap.size wr w') (first | assumption | exact HST.out _ (Below.refl _ _).drew | exact HST2.out _ _ (by assumption) (by assumption)) (first | (go_at_call 26; refine (D1.out _ (HLD.out _ (by assumption)) (HLI.out _ (by assumption))).mono ?_; rintro e v1 ⟨rfl, hb1⟩) | (go_at_call 27; refine (D2.out _ (HLI.out _ (by assumption))).mono ?_; rintro e v2 ⟨rfl, hb2⟩))
      all_goals
        go_wp2_with fail
        go_ret
        exact ⟨rfl, below_trans hW (below_trans HB.out (HSL.out _ (by assumption)))⟩

set_option maxHeartbeats 20000000 in
set_option maxRecDepth 100000 in
theorem identFilters_nil (a0 : Bool) (b0 : Int) (w : World) (L : Laid w) :
    Calls Tryd.prog 4 #[.agg #[.bool a0, .int .i64 b0], .slice none 0 0] w fun e w' => e = .returned (.bool true) ∧ Below w.heap.size w w' := by
  go_enter Tryd.func4, Tryd.ntmps4
  go_wp2_with fail
  refine (awake_any _ (L.alloc _)).mono ?_
  rintro e w0 ⟨rfl, hb⟩
  have XA := (Two.new w a0 b0 _).below hb
  have hW := below_trans (Joins.below_alloc1 w _) hb
  clear hb
  go_wp2_with fail
  go_loopw [7] (fun v wr => v = .int .i64 0 ∧ wr = w0) (fun _ _ => 0)
  case atStart => exact ⟨rfl, rfl⟩
  case round =>
    obtain ⟨rfl, rfl⟩ := hrel
    have D1 := Lib.hid (fun w => any_nil a0 b0 0 w)
    have D2 := Lib.hid (fun w => refAny_nil a0 b0 0 w)
    have HST : Hid (∀ w', Below wr.heap.size wr w' → (w'.cell? ⟨w.heap.size, 0, none⟩ = some (.bool a0) ∧ w'.cell? ⟨w.heap.size, 1, none⟩ = some (.int .i64 b0) ∧ Below wr.heap.size wr w')) := by
      apply Lib.hid
      intro w' hb
      exact ⟨(XA.below hb).2.1, (XA.below hb).2.2, hb⟩
    have HSL : Hid (∀ w', (w'.cell? ⟨w.heap.size, 0, none⟩ = some (.bool a0) ∧ w'.cell? ⟨w.heap.size, 1, none⟩ = some (.int .i64 b0) ∧ Below wr.heap.size wr w') → Below wr.heap.size wr w') := Lib.hid fun w' h => h.2.2
    have HST2 : Hid (∀ w' w'', (w'.cell? ⟨w.heap.size, 0, none⟩ = some (.bool a0) ∧ w'.cell? ⟨w.heap.size, 1, none⟩ = some (.int .i64 b0) ∧ Below wr.heap.size wr w') → Below w'.heap.size w' w'' → (w''.cell? ⟨w.heap.size, 0, none⟩ = some (.bool a0) ∧ w''.cell? ⟨w.heap.size, 1, none⟩ = some (.int .i64 b0) ∧ Below wr.heap.size wr w'')) := Lib.hid fun w' w'' h hb => HST.out w'' (below_trans (HSL.out w' h) hb)
    go_wp2_with fail
    go_region_held3 (fun w' => w'.cell? ⟨w.heap.size, 0, none⟩ = some (.bool a0) ∧ w'.cell? ⟨w.heap.size, 1, none⟩ = some (.int .i64 b0) ∧ Below wr.heap.size wr w') (first | assumption | exact HST.out _ (Below.refl _ _).drew | exact HST2.out _ _ (by assumption) (by assumption)) (first | (go_at_call 26; refine (D1.out _).mono ?_; rintro e v1 ⟨rfl, hb1⟩) | (go_at_call 27; refine (D2.out _).mono ?_; rintro e v2 ⟨rfl, hb2⟩))
    all_goals
      go_wp2_with fail
      go_ret
      exact ⟨rfl, below_trans hW (HSL.out _ (by assumption))⟩

theorem any_empty (d : Bool) (n : Int) (a : Addr) (cap : Nat) (w : World) :
    Calls Tryd.prog 26 #[.agg #[.bool d, .int .i64 n], .slice (some a) 0 cap] w fun e w' => e = .returned (.bool false) ∧ Below w.heap.size w w' := by
  go_enter Tryd.func26, Tryd.ntmps26
  go_wp2_with fail
  go_loopw [9] (fun v wr => v = .int .i64 0 ∧ Below w.heap.size w wr) (fun _ _ => 0)
  case atStart => exact ⟨rfl, Joins.below_alloc1 _ _⟩
  case round =>
    obtain ⟨rfl, hb⟩ := hrel
    go_wp2_with fail
    go_ret
    exact ⟨rfl, hb⟩

theorem refAny_empty (d : Bool) (n : Int) (a : Addr) (cap : Nat) (w : World) :
    Calls Tryd.prog 27 #[.agg #[.bool d, .int .i64 n], .slice (some a) 0 cap] w fun e w' => e = .returned (.bool false) ∧ Below w.heap.size w w' := by
  go_enter Tryd.func27, Tryd.ntmps27
  go_wp2_with fail
  go_loopw [5] (fun v wr => v = .int .i64 0 ∧ Below w.heap.size w wr) (fun _ _ => 0)
  case atStart => exact ⟨rfl, Joins.below_alloc1 _ _⟩
  case round =>
    obtain ⟨rfl, hb⟩ := hrel
    go_wp2_with fail
    go_ret
    exact ⟨rfl, hb⟩

set_option maxHeartbeats 20000000 in
set_option maxRecDepth 100000 in
theorem identFilters_empty (a0 : Bool) (b0 : Int) (a : Addr) (cap : Nat) (w : World) (L : Laid w) :
    Calls Tryd.prog 4 #[.agg #[.bool a0, .int .i64 b0], .slice (some a) 0 cap] w fun e w' => e = .returned (.bool true) ∧ Below w.heap.size w w' := by
  have hc0 : (0 : Int) ≤ (cap : Int) := by omega
  go_enter Tryd.func4, Tryd.ntmps4
  go_wp2_with fail
  refine (awake_any _ (L.alloc _)).mono ?_
  rintro e w0 ⟨rfl, hb⟩
  have XA := (Two.new w a0 b0 _).below hb
  have hW := below_trans (Joins.below_alloc1 w _) hb
  clear hb
  go_wp2_with fail
  go_loopw [7] (fun v wr => v = .int .i64 0 ∧ wr = w0) (fun _ _ => 0)
  case atStart => exact ⟨rfl, rfl⟩
  case round =>
    obtain ⟨rfl, rfl⟩ := hrel
    have D1 := Lib.hid (fun w => any_empty a0 b0 a cap w)
    have D2 := Lib.hid (fun w => refAny_empty a0 b0 a cap w)
    have HST : Hid (∀ w', Below wr.heap.size wr w' → (w'.cell? ⟨w.heap.size, 0, none⟩ = some (.bool a0) ∧ w'.cell? ⟨w.heap.size, 1, none⟩ = some (.int .i64 b0) ∧ Below wr.heap.size wr w')) := by
      apply Lib.hid
      intro w' hb
      exact ⟨(XA.below hb).2.1, (XA.below hb).2.2, hb⟩
    have HSL : Hid (∀ w', (w'.cell? ⟨w.heap.size, 0, none⟩ = some (.bool a0) ∧ w'.cell? ⟨w.heap.size, 1, none⟩ = some (.int .i64 b0) ∧ Below wr.heap.size wr w') → Below wr.heap.size wr w') := Lib.hid fun w' h => h.2.2
    have HST2 : Hid (∀ w' w'', (w'.cell? ⟨w.heap.size, 0, none⟩ = some (.bool a0) ∧ w'.cell? ⟨w.heap.size, 1, none⟩ = some (.int .i64 b0) ∧ Below wr.heap.size wr w') → Below w'.heap.size w' w'' → (w''.cell? ⟨w.heap.size, 0, none⟩ = some (.bool a0) ∧ w''.cell? ⟨w.heap.size, 1, none⟩ = some (.int .i64 b0) ∧ Below wr.heap.size wr w'')) := Lib.hid fun w' w'' h hb => HST.out w'' (below_trans (HSL.out w' h) hb)
    go_wp2_with fail
    go_region_held3 (fun w' => w'.cell? ⟨w.heap.size, 0, none⟩ = some (.bool a0) ∧ w'.cell? ⟨w.heap.size, 1, none⟩ = some (.int .i64 b0) ∧ Below wr.heap.size wr w') (first | assumption | exact HST.out _ (Below.refl _ _).drew | exact HST2.out _ _ (by assumption) (by assumption)) (first | (go_at_call 26; refine (D1.out _).mono ?_; rintro e v1 ⟨rfl, hb1⟩) | (go_at_call 27; refine (D2.out _).mono ?_; rintro e v2 ⟨rfl, hb2⟩))
    all_goals
      go_wp2_with fail
      go_ret
      exact ⟨rfl, below_trans hW (HSL.out _ (by assumption))⟩

/-- A slice of filters as it comes in. -/
def FiltersIn (w : World) (A : Option Addr) (n cap : Nat) : Prop :=
  (A = none ∧ n = 0 ∧ cap = 0) ∨ (∃ a, A = some a ∧ n = 0) ∨ ∃ a l, A = some a ∧ l.length = n ∧ Lie w a l ∧ n ≤ cap ∧ cap ≤ 9223372036854775807

theorem identFilters_walk (a0 : Bool) (b0 : Int) (A : Option Addr) (n cap : Nat) (_w0 : (Lit.int .i64 b0).wf = true) (w : World) (hl : FiltersIn w A n cap) (L : Laid w) :
    Calls Tryd.prog 4 #[.agg #[.bool a0, .int .i64 b0], .slice A n cap] w fun e w' => e = .returned (.bool true) ∧ Below w.heap.size w w' := by
  rcases hl with ⟨rfl, rfl, rfl⟩ | ⟨a, rfl, rfl⟩ | ⟨a, l, rfl, rfl, hl, h1, h2⟩
  · exact identFilters_nil a0 b0 w L
  · exact identFilters_empty a0 b0 a cap w L
  · exact identFilters_some a0 b0 a cap l w L hl h1 h2

end Go.Proofs.YtnngkpcikmbnmaaDoor

/-
  Who is alive: the program's Alive.
-/
import Derived.Test.YtplnmkeopdmanaaCliEach
namespace Go.Proofs.Ytplnmkeopdmanaa
open Go.RowKit Go.Shelf
attribute [local go_sem] Oper.semAt_some

def aliveI (p : Int) (ps : List Pd) : Int := ps.foldl (fun v x => if inB 0 p x.2 then withI v x.1 else v) 0
theorem alive_snoc (p : Int) (ps : List Pd) (x : Pd) : aliveI p (ps ++ [x]) = if inB 0 p x.2 then withI (aliveI p ps) x.1 else aliveI p ps := by
  unfold aliveI; rw [List.foldl_append]; rfl
theorem within_in (m : Nat) (a b n : Int) (w : World) : CallsIn Fence.wide m Try.prog 30 #[.int .i64 a, .int .i64 b, .int .i64 n] w fun e w' => e = .returned (.bool (inB a b n)) ∧ w = w' := callsIn_wide.2 (within_any a b n w)
theorem with_in (m : Nat) (v n : Int) (w : World) : CallsIn Fence.wide m Try.prog 31 #[.int .i64 v, .int .i64 n] w fun e w' => e = .returned (.int .i64 (withI v n)) ∧ w = w' := callsIn_wide.2 (with_any v n w)

set_option maxRecDepth 100000 in
set_option maxHeartbeats 2000000 in
theorem alive_in (m : Nat) (hm : 4 ≤ m) (p : Int) (A : Option Addr) (c : Nat) (l : List Int) (hl : l.length ≤ maxLen) (w : World) (hr : Row w w.heap.size A l) :
    CallsIn Fence.wide m Try.prog 17 #[.int .i64 p, .slice A l.length c] w fun e W' => e = .returned (.int .i64 (aliveI p (placed (l.take 16)))) ∧ Below w.heap.size w W' := by
  have h1 : 1 ≤ m := by omega
  refine callsIn_of_wp_marks Try.func17 rfl trivial ?_ rfl
  simp only [Try.ntmps17, List.size_toArray, List.length_cons, List.length_nil, Nat.reduceAdd, Nat.reduceSub, Array.replicate_succ, Array.replicate_zero, List.push_toArray, List.append_toArray, List.nil_append, List.cons_append]
  gi_wp2_with fail
  refine ⟨trivial, (ages_in (m - 1) _ _ _ _).mono ?_⟩
  rintro e w' ⟨rfl, rfl⟩
  gi_wp2_with fail
  have hr2 : Row w w.heap.size A l := hr
  have bP := Boxed.new w 3 (.int .i64 p)
  have hB1 := Joins.below_alloc1 w (.cells #[.int .i64 p] 3)
  obtain ⟨X1, hX1⟩ : ∃ W, W = w.alloc (.cells #[.int .i64 p] 3) := ⟨_, rfl⟩
  have hs1 : X1.heap.size = w.heap.size + 1 := by rw [hX1, World.size_alloc]
  rw [← hX1] at bP hB1
  have bV := Boxed.new X1 3 (.int .i64 0)
  have hb2 := Joins.below_alloc1 X1 (.cells #[.int .i64 0] 3)
  have bP2 := bP.alloc (.cells #[.int .i64 0] 3)
  obtain ⟨X2, hX2⟩ : ∃ W, W = X1.alloc (.cells #[.int .i64 0] 3) := ⟨_, rfl⟩
  have hs2 : X2.heap.size = w.heap.size + 2 := by rw [hX2, World.size_alloc, hs1]
  rw [← hX2] at bV hb2 bP2
  rw [hs1] at bV
  have hB2 := hB1.trans (hb2.mono (by omega))
  have bP3 := bP2.alloc (.cells #[.slice A l.length c] 30)
  have bV3 := bV.alloc (.cells #[.slice A l.length c] 30)
  have bA := BxS.new X2 A l.length c
  have hb3 := Joins.below_alloc1 X2 (.cells #[.slice A l.length c] 30)
  have hB3 := hB2.trans (hb3.mono (by omega))
  rw [← hX1, ← hX2]
  obtain ⟨X3, hX3⟩ : ∃ W, W = X2.alloc (.cells #[.slice A l.length c] 30) := ⟨_, rfl⟩
  have hs3 : X3.heap.size = w.heap.size + 3 := by rw [hX3, World.size_alloc, hs2]
  rw [← hX3] at bP3 bV3 bA hB3 ⊢
  rw [hs2] at bA
  have hrow := hr.below hB3 (Nat.le_refl _)
  clear bP bV bP2 hB1 hb2 hb3 hB2 hX1 hX2 hX3 hs1 hs2 hr hr2 X1 X2
  refine wpIn_rangeFunc_ownG rfl h1 (gf := 34) (lb := #[.pointer (some ⟨w.heap.size + 2, 0, none⟩)]) rfl trivial (enters_of Try.func34 (by kernel_rfl) rfl)
    (each_stop (m - 1) (by omega) (w.heap.size + 2) w.heap.size A c l hl _ bA hrow (by omega)) KeepsP.trans (KeepsP.past (by omega) (by omega)) (Below.refl _ _) (fun _ => rfl)
    (fun pre W => Boxed W (w.heap.size + 1) 3 (.int .i64 (aliveI p pre)) ∧ Boxed W w.heap.size 3 (.int .i64 p) ∧ Below w.heap.size w W)
    (fun _ _ _ => False)
    (OwnFrom.and (Own.from (boxed_own _ _ _) _) (OwnFrom.and (Own.from (boxed_own _ _ _) _) (ownFrom_below (Nat.le_refl _) (by omega))))
    (fun _ _ _ _ _ hs _ _ => hs)
    ⟨bV3, bP3, hB3⟩
    (fun x => { tmps := #[.int .i64 p, .slice A l.length c, .pointer (some ⟨w.heap.size, 0, none⟩), undef, .int .i64 0, .pointer (some ⟨w.heap.size + 1, 0, none⟩), .int .i64 (x.1 : Int), .int .i64 x.2, .slice A l.length c, .func (.func 34) #[] #[.pointer (some ⟨w.heap.size + 2, 0, none⟩)], .int .i64 (x.1 : Int), .int .i64 x.2, undef, undef, undef, undef, undef, undef, undef], defers := [] }) ?assign ?body ?done ?stop
  case assign =>
    intro l x W K hK
    gi_wp2
    simpa using hK
  case body =>
    rintro r pre ⟨k, x⟩ W ⟨hv, hp, hB⟩ hlt
    have hc := hv.cell
    have hf := hv.frozen
    have hpc := hp.cell
    have HS := Lib.hid (alive_snoc p pre (k, x))
    have cw := fun W => CallsIn.inRound r (callsIn_wide (n := m - 1 - 1 - 1) |>.2 (within_any 0 p x W))
    have ct := fun W => CallsIn.inRound r (callsIn_wide (n := m - 1 - 1 - 1) |>.2 (with_any (aliveI p pre) k W))
    have HV := Lib.hid hv
    have HP := Lib.hid hp
    have HB := Lib.hid hB
    clear hlt hv hp hB
    cases hi : inB 0 p x
    · rw [hi] at cw HS
      clear hi
      gi_wp2_with fail
      refine ⟨trivial, fun _ => by omega, (cw _).mono ?_⟩
      rintro e w1 ⟨rfl, rfl⟩
      clear cw
      gi_wp2
      exact ⟨KeepsFrom.refl _ _, ⟨rfl, fun _ _ => rfl⟩, by rw [HS.out]; exact HV.out, HP.out, HB.out⟩
    · rw [hi] at cw HS
      clear hi
      gi_wp2_with fail
      refine ⟨trivial, fun _ => by omega, (cw _).mono ?_⟩
      rintro e w1 ⟨rfl, rfl⟩
      clear cw
      gi_wp2_with fail
      refine ⟨trivial, fun _ => by omega, (ct _).mono ?_⟩
      rintro e w1 ⟨rfl, rfl⟩
      clear ct
      gi_wp2
      have hk := KeepsP.setCell (b := w.heap.size + 2) (B := w.heap.size) (W := W) (p := ⟨w.heap.size + 1, 0, none⟩) (.int .i64 (withI (aliveI p pre) k)) (by show w.heap.size + 2 ≠ w.heap.size + 1; omega) (by show w.heap.size ≤ w.heap.size + 1; omega)
      refine ⟨(KeepsOthers.setCell _ _ _).from _, hk, ?_, HP.out.other (by omega) _, HB.out.setCell (p := ⟨w.heap.size + 1, 0, none⟩) (by show w.heap.size ≤ w.heap.size + 1; omega) _⟩
      rw [HS.out]
      exact HV.out.set _
  case done =>
    rintro D ys W hD rfl ⟨hv, -, hB⟩ hK
    have hc := hv.cell
    gi_wp2
    refine ⟨by simp, .inl ⟨_, _, rfl, run_takeDeferred hK, ?_⟩⟩
    refine ⟨_, results_tmp rfl _ _ _, ?_, hB.trans (belowK_b (w := w) (Nat.le_refl _) W D _ _ (by omega) hK rfl rfl)⟩
    rfl
  case stop =>
    rintro D c pre W _ _ h _
    exact h.elim

theorem alive_any (p : Int) (A : Option Addr) (c : Nat) (l : List Int) (hl : l.length ≤ maxLen) (w : World) (hr : Row w w.heap.size A l) :
    Calls Try.prog 17 #[.int .i64 p, .slice A l.length c] w fun e w' => e = .returned (.int .i64 (aliveI p (placed (l.take 16)))) ∧ Below w.heap.size w w' := callsIn_wide.1 (alive_in 4 (Nat.le_refl _) p A c l hl w hr)

end Go.Proofs.Ytplnmkeopdmanaa

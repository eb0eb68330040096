/-
  What vec.Count and vec.List do: loops over what vec.nodes hands back.
-/
import Derived.RangeFuncNested
import Derived.Test.YtlhopgadhkjflaaGreatDoorVecIterR
set_option maxHeartbeats 2000000
set_option maxRecDepth 100000
namespace Go.Proofs.YtlhopgadhkjflaaGreatDoor.V
open Go.RowKit Go.Shelf
attribute [local go_sem] Oper.semAt_some
theorem listI_length (v : Int) : (listI v).length ≤ 16 := by unfold listI; rw [below_length]; exact cb_le _ _
theorem countI_length (v : Int) : ((listI v).length : Int) = countI v := by unfold listI countI; rw [below_length]
theorem count_in (m : Nat) (hm : 4 ≤ m) (v : Int) (w : World) : CallsIn Fence.wide m Tryz.prog 93 #[.int .i64 v] w fun e W' => e = .returned (.int .i64 (countI v)) ∧ Below w.heap.size w W' := by
 have h1 : 1 ≤ m := by omega
 have hl16 := listI_length v
 refine callsIn_of_wp_marks Tryz.func93 rfl trivial ?_ rfl
 simp only [Tryz.ntmps93, List.size_toArray, List.length_cons, List.length_nil, Nat.reduceAdd, Nat.reduceSub, Array.replicate_succ, Array.replicate_zero, List.push_toArray, List.append_toArray, List.nil_append, List.cons_append]
 gi_wp2_with fail
 refine ⟨trivial, (nodes_in (m - 1) _ _).mono ?_⟩
 rintro e w' ⟨rfl, rfl⟩
 gi_wp2_with fail
 have bO := Boxed.new w 3 (.int .i64 0)
 have bN := Boxed.new (w.alloc (.cells #[.int .i64 0] 3)) 3 (.int .i64 v)
 rw [World.size_alloc] at bN
 have hB0 : Below w.heap.size w ((w.alloc (.cells #[.int .i64 0] 3)).alloc (.cells #[.int .i64 v] 3)) := ((Below.refl _ w).alloc (Nat.le_refl _) _).alloc (by simp) _
 refine wpIn_rangeFunc_ownG rfl h1 (gf := 158) (lb := #[.pointer (some ⟨w.heap.size + 1, 0, none⟩)]) rfl trivial (enters_of Tryz.func158 (by kernel_rfl) rfl)
  (nodes_stop (m - 1) (by omega) (w.heap.size + 1) v _ (by simp) bN.cell) Keeps.trans (Keeps.past (by simp)) (Below.refl _ _) (fun _ => rfl)
  (fun pre W => Boxed W w.heap.size 3 (.int .i64 (pre.length : Int)) ∧ Below w.heap.size w W)
  (fun _ _ _ => False)
  (OwnFrom.and (Own.from (boxed_own _ _ _) _) (ownFrom_below (Nat.le_refl _) (by simp; omega)))
  (fun _ _ _ _ _ hs _ _ => hs)
  ⟨bO.alloc _, hB0⟩
  (fun x => { tmps := #[.int .i64 v, undef, .int .i64 0, .pointer (some ⟨w.heap.size, 0, none⟩), .int .i64 v, .func (.func 158) #[] #[.pointer (some ⟨w.heap.size + 1, 0, none⟩)], .int .i64 x, undef, undef, undef], defers := [] }) ?assign ?body ?done ?stop
 case assign =>
  intro l x W K hK
  gi_wp2
  simpa using hK
 case body =>
  rintro l pre x W ⟨hv, hB⟩ hlt
  have hc := hv.cell
  have hf := hv.frozen
  have hb16 : pre.length < 16 := by omega
  clear hlt hl16
  gi_wp2
  refine ⟨(KeepsOthers.setCell _ _ _).from _, Keeps.setCell _ (by show w.heap.size + 1 ≠ w.heap.size; omega), ⟨?_, hB.setCell (p := ⟨w.heap.size, 0, none⟩) (Nat.le_refl _) _⟩⟩
  have hb := hv.set (.int .i64 ((pre.length : Int) + 1))
  rw [List.length_append, List.length_singleton]
  exact hb
 case done =>
  rintro D ys W hD rfl ⟨hv, hB⟩ hK
  have hc := hv.cell
  gi_wp2
  refine ⟨by simp, .inl ⟨_, _, rfl, run_takeDeferred hK, ?_⟩⟩
  refine ⟨_, results_tmp rfl _ _ _, ?_, hB.trans (belowK_b (w := w) (Nat.le_refl _) W D _ _ (by simp at hD; omega) hK rfl rfl)⟩
  exact ret_i (countI_length v)
 case stop =>
  rintro D c pre W _ _ h _
  exact h.elim
theorem count_any (v : Int) (w : World) : Calls Tryz.prog 93 #[.int .i64 v] w fun e w' => e = .returned (.int .i64 (countI v)) ∧ Below w.heap.size w w' := callsIn_wide.1 (count_in 4 (Nat.le_refl _) v w)
theorem int_info : (Tryz.prog.info? 3).map (fun i => (i.zero, i.size, i.bytes)) = some (some (.int .i64 0), 1, 8) := by kernel_rfl
end Go.Proofs.YtlhopgadhkjflaaGreatDoor.V

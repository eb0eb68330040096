/-
  What vec.Count and vec.List do: loops over what vec.nodes hands back.
-/
import Derived.Test.YtmklabdfalkldaaVecIter
import Derived.RangeFuncNested
namespace Go.Proofs.Ytmklabdfalkldaa
open Go.RowKit Go.Shelf
attribute [local go_sem] Oper.semAt_some

theorem listI_length (v : Int) : (listI v).length ≤ 16 := by unfold listI; rw [below_length]; exact cb_le _ _
theorem countI_length (v : Int) : ((listI v).length : Int) = countI v := by unfold listI countI; rw [below_length]

set_option maxRecDepth 100000 in
set_option maxHeartbeats 2000000 in
theorem count_in (m : Nat) (hm : 4 ≤ m) (v : Int) (w : World) : CallsIn Fence.wide m Try.prog 31 #[.int .i64 v] w fun e W' => e = .returned (.int .i64 (countI v)) ∧ Below w.heap.size w W' := by
  have h1 : 1 ≤ m := by omega
  have hl16 := listI_length v
  refine callsIn_of_wp_marks Try.func31 rfl trivial ?_ rfl
  simp only [Try.ntmps31, List.size_toArray, List.length_cons, List.length_nil, Nat.reduceAdd, Nat.reduceSub, Array.replicate_succ, Array.replicate_zero, List.push_toArray, List.append_toArray, List.nil_append, List.cons_append]
  gi_wp2_with fail
  refine ⟨trivial, (nodes_in (m - 1) _ _).mono ?_⟩
  rintro e w' ⟨rfl, rfl⟩
  gi_wp2_with fail
  have bO := Boxed.new w 3 (.int .i64 0)
  have bN := Boxed.new (w.alloc (.cells #[.int .i64 0] 3)) 3 (.int .i64 v)
  rw [World.size_alloc] at bN
  have hB0 : Below w.heap.size w ((w.alloc (.cells #[.int .i64 0] 3)).alloc (.cells #[.int .i64 v] 3)) := ((Below.refl _ w).alloc (Nat.le_refl _) _).alloc (by simp) _
  refine wpIn_rangeFunc_ownG rfl h1 (gf := 47) (lb := #[.pointer (some ⟨w.heap.size + 1, 0, none⟩)]) rfl trivial (enters_of Try.func47 (by kernel_rfl) rfl)
    (nodes_stop (m - 1) (by omega) (w.heap.size + 1) v _ (by simp) bN.cell) Keeps.trans (Keeps.past (by simp)) (Below.refl _ _) (fun _ => rfl)
    (fun pre W => Boxed W w.heap.size 3 (.int .i64 (pre.length : Int)) ∧ Below w.heap.size w W)
    (fun _ _ _ => False)
    (OwnFrom.and (Own.from (boxed_own _ _ _) _) (ownFrom_below (Nat.le_refl _) (by simp; omega)))
    (fun _ _ _ _ _ hs _ _ => hs)
    ⟨bO.alloc _, hB0⟩
    (fun x => { tmps := #[.int .i64 v, undef, .int .i64 0, .pointer (some ⟨w.heap.size, 0, none⟩), .int .i64 v, .func (.func 47) #[] #[.pointer (some ⟨w.heap.size + 1, 0, none⟩)], .int .i64 x, undef, undef, undef], defers := [] }) ?assign ?body ?done ?stop
  case assign =>
    intro l x W K hK
    gi_wp2
    simpa using hK
  case body =>
    rintro l pre x W ⟨hv, hB⟩ hlt
    have hc := hv.cell
    have hf := hv.frozen
    have hb16 : pre.length < 16 := by omega
    clear hlt hl16
    gi_wp2
    refine ⟨(KeepsOthers.setCell _ _ _).from _, Keeps.setCell _ (by show w.heap.size + 1 ≠ w.heap.size; omega), ⟨?_, hB.setCell (p := ⟨w.heap.size, 0, none⟩) (Nat.le_refl _) _⟩⟩
    have hb := hv.set (.int .i64 ((pre.length : Int) + 1))
    rw [List.length_append, List.length_singleton]
    exact hb
  case done =>
    rintro D ys W hD rfl ⟨hv, hB⟩ hK
    have hc := hv.cell
    gi_wp2
    refine ⟨by simp, .inl ⟨_, _, rfl, run_takeDeferred hK, ?_⟩⟩
    refine ⟨_, results_tmp rfl _ _ _, ?_, hB.trans (belowK_b (w := w) (Nat.le_refl _) W D _ _ (by simp at hD; omega) hK rfl rfl)⟩
    exact ret_i (countI_length v)
  case stop =>
    rintro D c pre W _ _ h _
    exact h.elim

theorem count_any (v : Int) (w : World) : Calls Try.prog 31 #[.int .i64 v] w fun e w' => e = .returned (.int .i64 (countI v)) ∧ Below w.heap.size w w' := callsIn_wide.1 (count_in 4 (Nat.le_refl _) v w)

/-- 'l = append(l, n)' where the list's own row lies past the boxes. -/
theorem appended_past {W w1 : World} {n₀ n₁ B : Nat} {t e : TypeId} {size : Nat} {v v' : Value} {k m : Nat} {xs ys : List Value} {tmp : Obj}
    (hv : Boxed W B t v) (hB : B < n₁) (hrow : W.ownsRow n₁ e size v k xs) (hn₁ : n₁ ≤ W.heap.size) (hn₀ : n₀ ≤ B)
    (hown' : w1.ownsRow n₁ e size v' m ys) (hgrow : (W.alloc tmp).grownBy w1 v.ownBlock) :
    Boxed w1 B t v ∧ Boxed (w1.setCell ⟨B, 0, none⟩ v') B t v' ∧ (w1.setCell ⟨B, 0, none⟩ v').ownsRow n₁ e size v' m ys ∧ KeepsOthers W (w1.setCell ⟨B, 0, none⟩ v') ∧ Below n₀ W (w1.setCell ⟨B, 0, none⟩ v') ∧
      ∀ g, g < n₁ → g ≠ B → Keeps g W (w1.setCell ⟨B, 0, none⟩ v') := by
  have hb := (hrow.alloc tmp).lt
  have far : ∀ g, g < n₁ → some g ≠ v.ownBlock := fun g hg e' => by
    have := (hb g e'.symm).1
    omega
  have hb' := hown'.lt
  have far' : ∀ g, g < n₁ → some g ≠ v'.ownBlock := fun g hg e' => by
    have := (hb' g e'.symm).1
    omega
  have hv1 : Boxed w1 B t v := (hv.alloc tmp).kept hgrow (far B hB)
  refine ⟨hv1, hv1.set v', hown'.kept (grownBy_setCell' w1 B v') (.inr (far' B hB).symm), ?_, ?_, ?_⟩
  · refine ((KeepsOthers.alloc W tmp).trans (KeepsOthers.of_grownBy hgrow fun j o ej hj => ?_)).trans (KeepsOthers.setCell _ _ _)
    rcases (hrow.alloc tmp).2 with ⟨rfl, _⟩ | ⟨g, cap, cur, rfl, _, hgb, _⟩
    · simp [Value.ownBlock] at ej
    · obtain rfl : g = j := by simpa [Value.ownBlock] using ej
      rw [hgb] at hj; cases hj; rfl
  · refine (((Below.refl n₀ W).alloc (by omega) tmp).grown hgrow (by simp; omega) fun j ej => ?_).setCell (p := ⟨B, 0, none⟩) hn₀ v'
    have := (hb j ej).1
    omega
  · intro g hg hne
    have h1 : Keeps g W (W.alloc tmp) := Below.heap_alloc W tmp g (by omega)
    have h2 : Keeps g (W.alloc tmp) w1 := hgrow.block g (by simp; omega) (far g hg)
    exact (h1.trans h2).trans (Keeps.setCell v' hne)

theorem int_info : (Try.prog.info? 3).map (fun i => (i.zero, i.size, i.bytes)) = some (some (.int .i64 0), 1, 8) := by kernel_rfl

end Go.Proofs.Ytmklabdfalkldaa

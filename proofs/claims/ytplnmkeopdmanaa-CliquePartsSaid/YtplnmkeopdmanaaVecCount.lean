/-
  What vec.Count and vec.List do: loops over what vec.nodes hands back.
-/
import Derived.Test.YtplnmkeopdmanaaVecIter
import Derived.RangeFuncNested
namespace Go.Proofs.Ytplnmkeopdmanaa
open Go.RowKit Go.Shelf
attribute [local go_sem] Oper.semAt_some

theorem listI_length (v : Int) : (listI v).length ≤ 16 := by unfold listI; rw [below_length]; exact cb_le _ _
theorem countI_length (v : Int) : ((listI v).length : Int) = countI v := by unfold listI countI; rw [below_length]

/-- 'l = append(l, n)' where the list's own row lies past the boxes. -/
theorem appended_past {W w1 : World} {n₀ n₁ B : Nat} {t e : TypeId} {size : Nat} {v v' : Value} {k m : Nat} {xs ys : List Value} {tmp : Obj}
    (hv : Boxed W B t v) (hB : B < n₁) (hrow : W.ownsRow n₁ e size v k xs) (hn₁ : n₁ ≤ W.heap.size) (hn₀ : n₀ ≤ B)
    (hown' : w1.ownsRow n₁ e size v' m ys) (hgrow : (W.alloc tmp).grownBy w1 v.ownBlock) :
    Boxed w1 B t v ∧ Boxed (w1.setCell ⟨B, 0, none⟩ v') B t v' ∧ (w1.setCell ⟨B, 0, none⟩ v').ownsRow n₁ e size v' m ys ∧ KeepsOthers W (w1.setCell ⟨B, 0, none⟩ v') ∧ Below n₀ W (w1.setCell ⟨B, 0, none⟩ v') ∧
      ∀ g, g < n₁ → g ≠ B → Keeps g W (w1.setCell ⟨B, 0, none⟩ v') := by
  have hb := (hrow.alloc tmp).lt
  have far : ∀ g, g < n₁ → some g ≠ v.ownBlock := fun g hg e' => by
    have := (hb g e'.symm).1
    omega
  have hb' := hown'.lt
  have far' : ∀ g, g < n₁ → some g ≠ v'.ownBlock := fun g hg e' => by
    have := (hb' g e'.symm).1
    omega
  have hv1 : Boxed w1 B t v := (hv.alloc tmp).kept hgrow (far B hB)
  refine ⟨hv1, hv1.set v', hown'.kept (grownBy_setCell' w1 B v') (.inr (far' B hB).symm), ?_, ?_, ?_⟩
  · refine ((KeepsOthers.alloc W tmp).trans (KeepsOthers.of_grownBy hgrow fun j o ej hj => ?_)).trans (KeepsOthers.setCell _ _ _)
    rcases (hrow.alloc tmp).2 with ⟨rfl, _⟩ | ⟨g, cap, cur, rfl, _, hgb, _⟩
    · simp [Value.ownBlock] at ej
    · obtain rfl : g = j := by simpa [Value.ownBlock] using ej
      rw [hgb] at hj; cases hj; rfl
  · refine (((Below.refl n₀ W).alloc (by omega) tmp).grown hgrow (by simp; omega) fun j ej => ?_).setCell (p := ⟨B, 0, none⟩) hn₀ v'
    have := (hb j ej).1
    omega
  · intro g hg hne
    have h1 : Keeps g W (W.alloc tmp) := Below.heap_alloc W tmp g (by omega)
    have h2 : Keeps g (W.alloc tmp) w1 := hgrow.block g (by simp; omega) (far g hg)
    exact (h1.trans h2).trans (Keeps.setCell v' hne)

theorem int_info : (Try.prog.info? 3).map (fun i => (i.zero, i.size, i.bytes)) = some (some (.int .i64 0), 1, 8) := by kernel_rfl

end Go.Proofs.Ytplnmkeopdmanaa

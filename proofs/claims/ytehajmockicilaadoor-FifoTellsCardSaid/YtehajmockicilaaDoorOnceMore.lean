/-
  A region that draws its order, each operation once: an operation behind a guard that is itself left out.
-/
import Derived.Test.YtehajmockicilaaDoorOnce
namespace Go.Proofs.YtehajmockicilaaDoor
open Go.RowKit

section
variable {a0 : Act} {V : Nat → (Nat → Value) → World → Prop} {G : World → Prop} {Rel : Nat → World → World → Prop} {drop : Nat → Nat → Bool} {P : Program} {ops : Array Oper} {Q : Exit → Act → World → Prop}
theorem owe_gone {i g t : Nat} {b : Bool} {o : Oper} (hg : o.guard = some (g, b)) (hw : waits ops i g = true) (hsp : spare ops drop i g = true) (ht : dstOf ops g = some t) (hs : t < a0.tmps.size) (hv : ∀ val w, V g val w → val g = undef)
    (h : ∀ val w, V i (upd val i undef) w) : Owed a0 V G Rel drop P ops Q i o := by
  intro a w val hG hV hN hO
  have e : a.tmps[t]? = some undef := (hN g t hw ht hs).trans (congrArg some (hv val w (hV g hw hsp)))
  have hy : yielded ops a.tmps g = none := by
    unfold yielded
    unfold dstOf at ht
    rw [ht]
    show (match a.tmps[t]? with | some (.bool b) => some b | _ => none) = _
    rw [e]
    rfl
  rw [if_neg (by unfold Region.wanted; rw [hg]; simp [hy])]
  exact h val w
/-- An operation behind a guard of which nothing is decided: carried out where the guard was told so, and left out elsewhere. -/
theorem owe_cond {i g t : Nat} {b c d : Bool} {o : Oper} (D : Bool) (hD : D = (d && (c == b))) (hg : o.guard = some (g, b)) (hw : waits ops i g = true) (hsp : spare ops drop i g = true) (ht : dstOf ops g = some t) (hs : t < a0.tmps.size)
    (hv : ∀ val w, V g val w → val g = if d = true then .bool c else undef)
    (h1 : D = true → ∀ (a : Act) (w : World) (val : Nat → Value), G w → (∀ j, waits ops i j = true → spare ops drop i j = true → V j val w) →
      (∀ j t, waits ops i j = true → dstOf ops j = some t → t < a0.tmps.size → a.tmps[t]? = some (val j)) → (∀ t, early ops i t = true → a.tmps[t]? = a0.tmps[t]?) →
      ∀ K : Act → World → Prop, Kept (∀ v w', V i (upd val i v) w' → Rel i w w' → G w' → K (a.put o.dst v) w') → o.wp P a w K Q)
    (h2 : D = false → ∀ val w, V i (upd val i undef) w) : Owed a0 V G Rel drop P ops Q i o := by
  intro a w val hG hV hN hO
  have e : a.tmps[t]? = some (if d = true then .bool c else undef) := (hN g t hw ht hs).trans (congrArg some (hv val w (hV g hw hsp)))
  have hy : yielded ops a.tmps g = if d = true then some c else none := by
    unfold yielded
    unfold dstOf at ht
    rw [ht]
    show (match a.tmps[t]? with | some (.bool b) => some b | _ => none) = _
    rw [e]
    cases d <;> rfl
  cases hDD : D
  · rw [if_neg (by
      unfold Region.wanted; rw [hg]; simp only [hy]
      rw [hDD] at hD
      cases d
      · simp
      · simp only [Bool.true_and] at hD
        simpa using hD)]
    exact h2 hDD val w
  · rw [if_pos (by
      unfold Region.wanted; rw [hg]; simp only [hy]
      rw [hDD] at hD
      cases d
      · simp at hD
      · simp only [Bool.true_and] at hD
        simpa using hD.symm)]
    exact h1 hDD a w val hG hV hN hO _ fun v w' h1 h2 h3 => ⟨v, rfl, h1, h2, h3⟩
end

end Go.Proofs.YtehajmockicilaaDoor

/-
  What vec.Of and vec.Most do; and lists of numbers as they lie in memory.
-/
import Derived.Test.YtmklabdfalkldaaVecCount
import Derived.Lib.Hide
import Derived.IntWalk
namespace Go.Proofs.Ytmklabdfalkldaa
open Go.RowKit

/-- A list of numbers as it lies in memory, below block B. -/
def Row (w : World) (B : Nat) (A : Option Addr) (l : List Int) : Prop :=
  0 < l.length → ∃ ad, A = some ad ∧ ad.block < B ∧ ∀ j x, l[j]? = some x → w.cell? (ad.add j) = some (.int .i64 x)
theorem adb (a : Addr) (n : Nat) : (a.add n).block = a.block := by unfold Addr.add; split <;> rfl
theorem Row.keep {w w' : World} {B : Nat} {A : Option Addr} {l : List Int} (h : Row w B A l) (hk : ∀ p : Addr, p.block < B → w'.cell? p = w.cell? p) : Row w' B A l := fun hn => by
  obtain ⟨ad, e, hb, hc⟩ := h hn
  exact ⟨ad, e, hb, fun j x hx => (hk _ (by rw [adb]; exact hb)).trans (hc j x hx)⟩
theorem Row.below {w w' : World} {B B' : Nat} {A : Option Addr} {l : List Int} (h : Row w B A l) (hb : Below B' w w') (hB : B ≤ B') : Row w' B A l :=
  h.keep fun _ hp => hb.cell (Nat.lt_of_lt_of_le hp hB)
theorem Row.more {w : World} {B B' : Nat} {A : Option Addr} {l : List Int} (h : Row w B A l) (hB : B ≤ B') : Row w B' A l := fun hn => by
  obtain ⟨ad, e, hb, hc⟩ := h hn
  exact ⟨ad, e, by omega, hc⟩
theorem Row.nil (w : World) (B : Nat) (A : Option Addr) : Row w B A [] := fun h => absurd h (by simp)
theorem Row.of_own {w : World} {base : Nat} {e : TypeId} {u : Value} {l : List Int} (h : w.ownsRow base e 1 u l.length (l.map (Value.int .i64))) : ∃ A c, u = .slice A l.length c ∧ l.length ≤ c ∧ Row w w.heap.size A l := by
  rcases h.2 with ⟨rfl, h0⟩ | ⟨g, cap, cur, rfl, hb, hh, hn, hm, hs, ht⟩
  · exact ⟨none, 0, by rw [h0], by omega, fun hn => absurd hn (by omega)⟩
  · refine ⟨_, cap, rfl, hn, fun _ => ⟨_, rfl, (Array.getElem?_eq_some_iff.1 hh).1, fun j x hx => ?_⟩⟩
    have hj : (l.map (Value.int .i64))[j]? = some (.int .i64 x) := by rw [List.getElem?_map, hx]; rfl
    exact h.cells (g := g) rfl j _ hj

theorem ofI_take (l : List Int) (k : Nat) (x : Int) (hx : l[k]? = some x) : ofI (l.take (k + 1)) = withI (ofI (l.take k)) x := by
  obtain ⟨hk, he⟩ := List.getElem?_eq_some_iff.1 hx
  rw [List.take_succ_eq_append_getElem hk, he, ofI_snoc]

/-- Most, by Count. -/
theorem and_all (v n : Int) (h : 1 ≤ n ∧ n ≤ 16) : countI (bits .and .i64 v (allI n)) = (cb (md v) n.toNat : Int) := by
  unfold allI countI
  rw [and_low v _ (allN_lt n), md_nat _ (and_lt _ _ (allN_lt n))]
  congr 1
  refine cb_cut _ _ 16 (by omega) _ fun i hi => ?_
  rw [Nat.testBit_and]
  have h1 := md_all n i hi
  unfold allI at h1
  rw [md_nat _ (allN_lt n)] at h1
  rw [h1]
  congr 1
  rw [decide_eq_decide]
  omega

end Go.Proofs.Ytmklabdfalkldaa

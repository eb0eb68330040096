/-
  What vec.Of and vec.Most do; and lists of numbers as they lie in memory.
-/
import Derived.Lib.Hide
import Derived.IntWalk
import Derived.Test.YtmmbnjkdknnidaaGreatDoorVecCountV
set_option maxHeartbeats 400000
namespace Go.Proofs.YtmmbnjkdknnidaaGreatDoor.V
open Go.RowKit
def Row (w : World) (B : Nat) (A : Option Addr) (l : List Int) : Prop :=
 0 < l.length → ∃ ad, A = some ad ∧ ad.block < B ∧ ∀ j x, l[j]? = some x → w.cell? (ad.add j) = some (.int .i64 x)
theorem adb (a : Addr) (n : Nat) : (a.add n).block = a.block := by unfold Addr.add; split <;> rfl
theorem Row.keep {w w' : World} {B : Nat} {A : Option Addr} {l : List Int} (h : Row w B A l) (hk : ∀ p : Addr, p.block < B → w'.cell? p = w.cell? p) : Row w' B A l := fun hn => by
 obtain ⟨ad, e, hb, hc⟩ := h hn
 exact ⟨ad, e, hb, fun j x hx => (hk _ (by rw [adb]; exact hb)).trans (hc j x hx)⟩
theorem Row.below {w w' : World} {B B' : Nat} {A : Option Addr} {l : List Int} (h : Row w B A l) (hb : Below B' w w') (hB : B ≤ B') : Row w' B A l :=
 h.keep fun _ hp => hb.cell (Nat.lt_of_lt_of_le hp hB)
theorem Row.more {w : World} {B B' : Nat} {A : Option Addr} {l : List Int} (h : Row w B A l) (hB : B ≤ B') : Row w B' A l := fun hn => by
 obtain ⟨ad, e, hb, hc⟩ := h hn
 exact ⟨ad, e, by omega, hc⟩
theorem Row.nil (w : World) (B : Nat) (A : Option Addr) : Row w B A [] := fun h => absurd h (by simp)
theorem Row.of_own {w : World} {base : Nat} {e : TypeId} {u : Value} {l : List Int} (h : w.ownsRow base e 1 u l.length (l.map (Value.int .i64))) : ∃ A c, u = .slice A l.length c ∧ l.length ≤ c ∧ Row w w.heap.size A l := by
 rcases h.2 with ⟨rfl, h0⟩ | ⟨g, cap, cur, rfl, hb, hh, hn, hm, hs, ht⟩
 ·exact ⟨none, 0, by rw [h0], by omega, fun hn => absurd hn (by omega)⟩
 ·refine ⟨_, cap, rfl, hn, fun _ => ⟨_, rfl, (Array.getElem?_eq_some_iff.1 hh).1, fun j x hx => ?_⟩⟩
  have hj : (l.map (Value.int .i64))[j]? = some (.int .i64 x) := by rw [List.getElem?_map, hx]; rfl
  exact h.cells (g := g) rfl j _ hj
theorem ofI_take (l : List Int) (k : Nat) (x : Int) (hx : l[k]? = some x) : ofI (l.take (k + 1)) = withI (ofI (l.take k)) x := by
 obtain ⟨hk, he⟩ := List.getElem?_eq_some_iff.1 hx
 rw [List.take_succ_eq_append_getElem hk, he, ofI_snoc]
theorem of_any (A : Option Addr) (c B : Nat) (l : List Int) (w : World) (h : Row w B A l) (hl : l.length ≤ maxLen) :
  Calls Tryz.prog 132 #[.slice A l.length c] w fun e w' => e = .returned (.int .i64 (ofI l)) ∧ w = w' := by
 unfold maxLen at hl
 go_enter Tryz.func132, Tryz.ntmps132
 go_wp2
 go_loop [3, 8] (fun v i => ∃ k : Nat, k ≤ l.length ∧ i = .int .i64 k ∧ v = .int .i64 (ofI (l.take k))) (fun _ i => l.length - (intOf i).toNat)
 case atStart => exact ⟨0, by omega, rfl, rfl⟩
 case round =>
  obtain ⟨k, hk, rfl, rfl⟩ := hrel
  by_cases hlt : k < l.length
  ·obtain ⟨x, hx⟩ : ∃ x, l[k]? = some x := ⟨_, List.getElem?_eq_getElem hlt⟩
   obtain ⟨ad, rfl, hb, hc⟩ := h (by omega)
   have hck := hc k x hx
   have HT := Lib.hid (ofI_take l k x hx)
   clear hc hx
   go_wp2_with fail; refine (with_any _ _ _).mono ?_; rintro e w1 ⟨rfl, rfl⟩
   go_wp2
   go_round
   case rel => exact ⟨k + 1, by omega, by go_num, by rw [HT.out]⟩
   case measure => simp [intOf]; omega
  ·have ek : k = l.length := by omega
   subst ek
   go_wp2
   go_ret
   exact ⟨ret_i (by simp), rfl⟩
end Go.Proofs.YtmmbnjkdknnidaaGreatDoor.V

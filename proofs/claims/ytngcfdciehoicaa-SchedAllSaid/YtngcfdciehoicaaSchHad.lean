/-
  How many ticks of a round each slot has had: plain mathematics.
-/
import Derived.Test.YtngcfdciehoicaaSchInts
import Derived.Test.YtngcfdciehoicaaSchCount
import Derived.Laws.MakeOwn
namespace Go.Proofs.Ytngcfdciehoicaa
open Go.RowKit

def tw (s : Int × Int) : Int × Int := (s.1, 1 + s.2 % 20)
def chg (l : Pl) (k : Nat) : Pl := (l.take k).map tw ++ l.drop k
theorem chg_zero (l : Pl) : chg l 0 = l := by unfold chg; simp
theorem chg_all (l : Pl) : chg l l.length = l.map tw := by unfold chg; simp
theorem chg_length (l : Pl) (k : Nat) (hk : k ≤ l.length) : (chg l k).length = l.length := by unfold chg; simp; omega
theorem chg_set {l : Pl} {k : Nat} {s : Int × Int} (h : l[k]? = some s) : (chg l k)[k]? = some s ∧ (chg l k).set k (tw s) = chg l (k + 1) := by
  have hk := (List.getElem?_eq_some_iff.1 h).1
  have hA : ((l.take k).map tw).length = k := by simp; omega
  have hd : l.drop k = s :: l.drop (k + 1) := by
    rw [List.drop_eq_getElem_cons hk]
    have := (List.getElem?_eq_some_iff.1 h).2
    rw [this]
  have ht : l.take (k + 1) = l.take k ++ [s] := by rw [List.take_add_one, h]; rfl
  unfold chg
  rw [hd, ht, List.map_append]
  refine ⟨?_, ?_⟩
  · rw [List.getElem?_append_right (by omega), hA, Nat.sub_self]; rfl
  · rw [List.set_append_right _ _ (by omega), hA, Nat.sub_self]
    simp
theorem tw_right {l : Pl} {C : Int} (h : rightS l C = true) : rightS (l.map tw) C = true ∧ sumS (l.map tw) ≤ 320 := by
  obtain ⟨h1, h2, h3, h4, h5⟩ := (rightS_each l C).1 h
  have ht : ∀ s ∈ l.map tw, 1 ≤ s.2 ∧ s.2 ≤ 20 := by
    intro s hs
    obtain ⟨x, hx, rfl⟩ := List.mem_map.1 hs
    have a := Int.emod_nonneg x.2 (show (20 : Int) ≠ 0 by omega)
    have b := Int.emod_lt_of_pos x.2 (show (0 : Int) < 20 by omega)
    show 1 ≤ 1 + x.2 % 20 ∧ 1 + x.2 % 20 ≤ 20
    omega
  refine ⟨(rightS_each _ C).2 ⟨by simpa using h1, h2, fun s hs => by have := ht s hs; omega, fun s hs => ?_, ?_⟩, ?_⟩
  · obtain ⟨x, hx, rfl⟩ := List.mem_map.1 hs
    exact h4 x hx
  · rw [List.map_map]
    exact h5
  · have : ∀ m : Pl, (∀ s ∈ m, 1 ≤ s.2 ∧ s.2 ≤ 20) → sumS m ≤ 20 * m.length := by
      intro m
      induction m with
      | nil => intro _; simp [sumS]
      | cons s m ih =>
        intro hm
        have a := ih fun x hx => hm x (by simp [hx])
        have b := hm s (by simp)
        show s.2 + sumS m ≤ 20 * ((m.length + 1 : Nat) : Int)
        omega
    have := this _ ht
    rw [List.length_map] at this
    omega

def hadC (l : Pl) (i : Int) (j : Nat) : Int := max 0 (min (i - aheadS l j) (l.getD j (0, 0)).2)
def hadL (l : Pl) (i : Int) : List Int := (List.range l.length).map (hadC l i)
theorem hadL_length (l : Pl) (i : Int) : (hadL l i).length = l.length := by unfold hadL; simp
theorem hadL_at (l : Pl) (i : Int) (j : Nat) (h : j < l.length) : (hadL l i)[j]? = some (hadC l i j) := by
  unfold hadL; rw [List.getElem?_map, List.getElem?_range h]; rfl
theorem getD_some {l : Pl} {j : Nat} {p : Int × Int} (h : l[j]? = some p) : l.getD j (0, 0) = p := by simp [List.getD, h]
theorem had_zero {l : Pl} (ht : Ticked l) : hadL l 0 = List.replicate l.length 0 := by
  refine List.ext_getElem? fun j => ?_
  rcases Nat.lt_or_ge j l.length with h | h
  · rw [hadL_at l 0 j h, List.getElem?_replicate, if_pos h]
    have := (aheadS_bounds ht j (by omega)).1
    unfold hadC
    congr 1
    omega
  · rw [List.getElem?_eq_none (by rw [hadL_length]; exact h), List.getElem?_eq_none (by simpa using h)]
theorem had_step {l : Pl} (ht : Ticked l) {k : Nat} {p : Int × Int} {x i : Int} (hp : l[k]? = some p) (hi : i = aheadS l k + x) (h0 : 0 ≤ x) (h1 : x < p.2) : (hadL l i)[k]? = some x ∧ (hadL l i).set k (x + 1) = hadL l (i + 1) := by
  have hk := (List.getElem?_eq_some_iff.1 hp).1
  have es := aheadS_succ l k p hp
  refine ⟨?_, List.ext_getElem? fun j => ?_⟩
  · rw [hadL_at l i k hk]
    unfold hadC
    rw [getD_some hp]
    congr 1
    omega
  · rw [List.getElem?_set]
    rcases Nat.lt_or_ge j l.length with h | h
    · rw [hadL_at l (i + 1) j h, hadL_at l i j h]
      obtain ⟨q, hq⟩ : ∃ q, l[j]? = some q := ⟨_, List.getElem?_eq_getElem h⟩
      have eq := aheadS_succ l j q hq
      by_cases hkj : k = j
      · subst hkj
        rw [if_pos rfl, if_pos (by rw [hadL_length]; exact hk)]
        unfold hadC
        rw [getD_some hp]
        congr 1
        omega
      · rw [if_neg hkj]
        unfold hadC
        rw [getD_some hq]
        have q1 := ht q (List.mem_of_getElem? hq)
        rcases Nat.lt_or_ge j k with h2 | h2
        · have := aheadS_mono ht (j := j + 1) (k := k) (by omega) (by omega)
          congr 1
          omega
        · have := aheadS_mono ht (j := k + 1) (k := j) (by omega) (by omega)
          congr 1
          omega
    · rw [if_neg (by omega), List.getElem?_eq_none (by rw [hadL_length]; exact h), List.getElem?_eq_none (by rw [hadL_length]; exact h)]
theorem had_all {l : Pl} (ht : Ticked l) {j : Nat} {p : Int × Int} (hp : l[j]? = some p) : (hadL l (sumS l))[j]? = some p.2 := by
  have hj := (List.getElem?_eq_some_iff.1 hp).1
  have es := aheadS_succ l j p hp
  have := aheadS_mono ht (j := j + 1) (k := l.length) (by omega) (Nat.le_refl _)
  rw [aheadS_all] at this
  have q := ht p (List.mem_of_getElem? hp)
  rw [hadL_at l _ j hj]
  unfold hadC
  rw [getD_some hp]
  congr 1
  omega
/-- The spot of a tick of a round. -/
theorem round_tick {l : Pl} {C : Int} (hR : rightS l C = true) (r i : Int) (h0 : 0 ≤ i) (h1 : i < sumS l) : ∃ (k : Nat) (p : Int × Int) (x c n : Int), spotS l C (r * sumS l + i) = ⟨c, n, (k : Int), x⟩ ∧ l[k]? = some p ∧ 0 ≤ x ∧ x < p.2 ∧ i = aheadS l k + x := by
  obtain ⟨k, p, x, a, b, c, d, e⟩ := seekS_is l i (rightS_ticked hR) h0 h1
  refine ⟨k, p, x, (r * sumS l + i) / sumS l / C, (r * sumS l + i) / sumS l % C, ?_, a, b, c, d⟩
  unfold spotS
  rw [(div_two h0 h1).2, e]

/-- Numbers in a block of their own. -/
def NumAt (W : World) (g : Nat) (L : List Int) : Prop := W.heap[g]? = some (.cells (L.map (Value.int .i64)).toArray 3 (0, 0))
theorem NumAt.on {W W' : World} {g : Nat} {L : List Int} (h : NumAt W g L) (hb : Below W.heap.size W W') : NumAt W' g L := (hb.block g (Array.getElem?_eq_some_iff.1 h).1).trans h
theorem NumAt.cell {W : World} {g : Nat} {L : List Int} (h : NumAt W g L) {k : Nat} {x : Int} (hx : L[k]? = some x) : W.cell? ⟨g, k, none⟩ = some (.int .i64 x) := by
  rw [cell_of h k]
  simp [hx]
theorem NumAt.frozen {W : World} {g : Nat} {L : List Int} (h : NumAt W g L) (i : Nat) : W.frozen? ⟨g, i, none⟩ = false := by simp [World.frozen?, show W.heap[g]? = _ from h]
theorem NumAt.set {W : World} {g : Nat} {L : List Int} (h : NumAt W g L) (k : Nat) (x : Int) : NumAt (W.setCell ⟨g, k, none⟩ (.int .i64 x)) g (L.set k x) := by
  have := set_blk h k (.int .i64 x)
  unfold NumAt
  rw [this]
  congr 2
  rw [List.map_set]
  simp
theorem make_ints (n : Nat) (h : n ≤ 1000) (w : World) : (Instr.makeSlice 22 (.int .i64 (n : Int)) (.int .i64 (n : Int))).run Try.prog w = .ok (.slice (some ⟨w.heap.size, 0, none⟩) n n) (w.alloc (.cells ((List.replicate n (0 : Int)).map (Value.int .i64)).toArray 3)) := by
  obtain ⟨i0, hi, hz0, hz1, hz2⟩ := info_parts int_info
  have := run_make (P := Try.prog) w 22 3 i0 (.int .i64 0) Try.underlying22 hi hz0 .i64 .i64 (n : Int) (n : Int) (by omega) (Int.le_refl _) (by rw [hz2]; omega) (by omega)
  have e : madeCells #[Value.int .i64 0] n = ((List.replicate n (0 : Int)).map (Value.int .i64)).toArray := by
    apply Array.toList_inj.1
    rw [toList_madeCells_one, List.map_replicate]
  rw [this, Int.toNat_natCast, hz1, Nat.mul_one, ← e]
  rfl

end Go.Proofs.Ytngcfdciehoicaa

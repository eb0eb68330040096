/-
  What the law FragNewer asks: a newer start, an older start, a newer message: plain mathematics.
-/
import Derived.Test.YtggeojjiongbbaaFragRaw
namespace Go.Proofs.Ytggeojjiongbbaa
open Go.RowKit

/-- The start of what the rows gathered. -/
theorem put_inc {g : Gt} {inc : Int} {p : Pc} {m : Int} (hg : g.i ≤ m) (hi : inc ≤ m) : (putG g inc p).i ≤ m := by
  unfold putG
  split
  · split
    · exact hg
    · exact hi
  · exact hg
theorem gat_inc (l : List Raw) : (gatL l).i ≤ 2 := by
  suffices h : ∀ (l : List Raw) (g : Gt), g.i ≤ 2 → (l.foldl (fun g r => putG g (rawI r) (rawP r)) g).i ≤ 2 from h l emptyG (by unfold emptyG; simp)
  intro l
  induction l with
  | nil => intro g h; exact h
  | cons r l ih => intro g h; exact ih _ (put_inc h (raw_inc r).2)
/-- One piece alone. -/
def oneL (p : Pc) : List ByteArray := (blank p.of'.toNat).set p.at'.toNat p.bytes
theorem one_length (p : Pc) : (oneL p).length = p.of'.toNat := by unfold oneL; rw [List.length_set, blank_length]
theorem one_at (p : Pc) (h : p.at'.toNat < p.of'.toNat) (k : Nat) (hk : k < p.of'.toNat) : (oneL p)[k]? = some (if k = p.at'.toNat then p.bytes else ⟨#[]⟩) := by
  unfold oneL
  rw [List.getElem?_set]
  by_cases e : p.at'.toNat = k
  · rw [if_pos e, if_pos e.symm, if_pos (by rw [blank_length]; exact h)]
  · rw [if_neg e, if_neg (fun x => e x.symm), blank_at _ _ hk]
theorem put_fresh {g : Gt} {inc : Int} {p : Pc} (hg : mayG g = true) (hp : rightP p = true) (hi : smallB inc = true) (hn : newerB g.i g.q inc p.seq = false) (hk : keptB g inc p = false) :
    putG g inc p = ⟨inc, p.seq, oneL p⟩ := by
  have ok : okG g inc p = true := by unfold okG; rw [hg, hp, hi]; rfl
  obtain ⟨h1, ⟨h2, h3⟩, ⟨h4, h5⟩, h6, h7⟩ := (rightP_iff p).1 hp
  unfold putG basisL
  rw [ok, hn, hk]
  have e : (blank p.of'.toNat).getD p.at'.toNat ⟨#[]⟩ = ⟨#[]⟩ := by
    rw [List.getD_eq_getElem?_getD, blank_at _ _ (by omega)]; rfl
  unfold putAt
  rw [if_pos rfl, if_neg Bool.false_ne_true, if_neg Bool.false_ne_true, e, full_empty, if_neg Bool.false_ne_true]
  rfl
theorem put_older {g : Gt} {inc : Int} {p : Pc} (hg : mayG g = true) (hp : rightP p = true) (hi : smallB inc = true) (hn : newerB g.i g.q inc p.seq = true) : putG g inc p = g := by
  have ok : okG g inc p = true := by unfold okG; rw [hg, hp, hi]; rfl
  unfold putG
  rw [if_pos ok, if_pos hn]
/-- The three answers of the law. -/
theorem newer_three (l : List Raw) (one two : Raw) (P P9 : Pc) (hP : rawP one = P) (h9 : P9 = ⟨P.seq + 9, P.at', P.of', P.bytes⟩) :
    putG (gatL l) (rawI one + 5) P = ⟨rawI one + 5, P.seq, oneL P⟩ ∧ putE (gatL l) (rawI one + 5) P = 0
    ∧ putG ⟨rawI one + 5, P.seq, oneL P⟩ (rawI two) (rawP two) = ⟨rawI one + 5, P.seq, oneL P⟩ ∧ putE ⟨rawI one + 5, P.seq, oneL P⟩ (rawI two) (rawP two) = 0
    ∧ putG ⟨rawI one + 5, P.seq, oneL P⟩ (rawI one + 5) P9 = ⟨rawI one + 5, P.seq + 9, oneL P⟩ ∧ putE ⟨rawI one + 5, P.seq, oneL P⟩ (rawI one + 5) P9 = 0
    ∧ mayG ⟨rawI one + 5, P.seq, oneL P⟩ = true := by
  have i1 := raw_inc one
  have i2 := raw_inc two
  have s1 := raw_seq one
  have hp : rightP P = true := by rw [← hP]; exact raw_right one
  rw [hP] at s1
  have hp9 : rightP P9 = true := by
    rw [rightP_iff] at hp ⊢
    rw [h9]
    exact ⟨by show 1 ≤ P.seq + 9 ∧ P.seq + 9 ≤ 65535; omega, hp.2⟩
  have hm := gat_may l
  have hg := gat_inc l
  have sI : smallB (rawI one + 5) = true := (smallB_iff _).2 (by omega)
  have sJ : smallB (rawI two) = true := (smallB_iff _).2 (by omega)
  have a1 : putG (gatL l) (rawI one + 5) P = ⟨rawI one + 5, P.seq, oneL P⟩ := put_fresh hm hp sI (by unfold newerB; simp; omega) (by unfold keptB; simp; omega)
  have m1 : mayG ⟨rawI one + 5, P.seq, oneL P⟩ = true := by rw [← a1]; exact may_put hm hp sI
  refine ⟨a1, put_ok hm hp sI, put_older m1 (raw_right two) sJ (by unfold newerB; simp; omega), put_ok m1 (raw_right two) sJ, ?_, put_ok m1 hp9 sI, m1⟩
  have h : oneL P9 = oneL P := by rw [h9]; rfl
  have := put_fresh (g := ⟨rawI one + 5, P.seq, oneL P⟩) (inc := rawI one + 5) (p := P9) m1 hp9 sI (by rw [h9]; unfold newerB; simp; omega) (by rw [h9]; unfold keptB; simp; omega)
  rw [this, h, h9]

/-- How many of the first k are full. -/
def manyK (at' k : Nat) : Nat := if at' < k then 1 else 0
end Go.Proofs.Ytggeojjiongbbaa

/-
  Messages of unlike numbers put one by one.
-/
import Derived.Test.YtehajmockicilaaDoorTxqAwake
namespace Go.Proofs.YtehajmockicilaaDoor
open Go Go.RowKit

/-- The queue that messages, put one by one, come to. -/
def seqL (L : Int) (f : Nat → Msg) : Nat → List Msg
  | 0 => []
  | k + 1 => putL L (seqL L f k) (f k)
structure SeqOk (L : Int) (N : Nat) (f : Nat → Msg) : Prop where
  lo : 1 ≤ L
  hi : L ≤ 32
  fit : (N : Int) ≤ L
  right : ∀ i, i < N → rightM (f i) = true
  unlike : ∀ i j, i < N → j < N → i ≠ j → (f i).number ≠ (f j).number
theorem put_fits {L : Int} {l : List Msg} {m : Msg} (h1 : rightQ L l = true) (h2 : rightM m = true) (h3 : ∀ x ∈ l, x.number ≠ m.number) (h4 : (l.length : Int) ≠ L) : putE L l m = 0 ∧ putL L l m = insAt l (l.findIdx (lessM m)) m := by
  have hn : hasN l m.number = false := by
    rw [← Bool.not_eq_true, has_iff]
    rintro ⟨x, hx, e⟩
    exact h3 x hx e
  have h0 : putE L l m = 0 := by unfold putE; rw [if_pos h1, if_pos h2, hn, if_neg (by decide), if_neg h4]
  refine ⟨h0, ?_⟩
  unfold putL
  rw [if_pos h0]
theorem put_mem {L : Int} {l : List Msg} {m : Msg} (h : putE L l m = 0) (x : Msg) : x ∈ putL L l m ↔ x = m ∨ x ∈ l := by
  unfold putL
  rw [if_pos h, (insAt_perm _ _ _).mem_iff, List.mem_cons]
theorem put_len {L : Int} {l : List Msg} {m : Msg} (h : putE L l m = 0) : (putL L l m).length = l.length + 1 := by
  unfold putL
  rw [if_pos h, insAt_length]
theorem seq_spec {L : Int} {N : Nat} {f : Nat → Msg} (h : SeqOk L N f) : ∀ k, k ≤ N → rightQ L (seqL L f k) = true ∧ (seqL L f k).length = k ∧ (∀ x, x ∈ seqL L f k ↔ ∃ i, i < k ∧ f i = x)
  | 0, _ => ⟨right_nil h.lo h.hi, rfl, fun x => by simp [seqL]⟩
  | k + 1, hk => by
    obtain ⟨h1, h2, h3⟩ := seq_spec h k (by omega)
    have hf := h.fit
    obtain ⟨e1, _⟩ := put_fits h1 (h.right k (by omega)) (fun x hx => by
      obtain ⟨i, hi, e⟩ := (h3 x).1 hx
      rw [← e]
      exact h.unlike i k (by omega) (by omega) (by omega)) (by rw [h2]; omega)
    refine ⟨putL_right h1, ?_, fun x => ?_⟩
    · show (putL L (seqL L f k) (f k)).length = _
      rw [put_len e1, h2]
    · show x ∈ putL L (seqL L f k) (f k) ↔ _
      rw [put_mem e1, h3]
      constructor
      · rintro (e | ⟨i, hi, e⟩)
        · exact ⟨k, by omega, e.symm⟩
        · exact ⟨i, by omega, e⟩
      · rintro ⟨i, hi, e⟩
        rcases Nat.lt_or_ge i k with h4 | h4
        · exact .inr ⟨i, h4, e⟩
        · obtain rfl : i = k := by omega
          exact .inl e.symm
theorem seq_put {L : Int} {N : Nat} {f : Nat → Msg} (h : SeqOk L N f) {k : Nat} (hk : k < N) : putE L (seqL L f k) (f k) = 0 := by
  obtain ⟨h1, h2, h3⟩ := seq_spec h k (by omega)
  have hf := h.fit
  exact (put_fits h1 (h.right k hk) (fun x hx => by
    obtain ⟨i, hi, e⟩ := (h3 x).1 hx
    rw [← e]
    exact h.unlike i k (by omega) hk (by omega)) (by rw [h2]; omega)).1
theorem seq_data {L : Int} {f : Nat → Msg} (h : ∀ i, (f i).data.size ≤ 140737488351232) : ∀ k, ∀ x ∈ seqL L f k, x.data.size ≤ 140737488351232
  | 0, x, hx => by cases hx
  | k + 1, x, hx => data_put (seq_data h k) (h k) x hx
theorem nodup_of {l : List Msg} (h : l.Pairwise fun a b => a.number ≠ b.number) : l.Nodup := h.imp fun hab e => hab (by rw [e])
/-- Right queues of the same messages are one. -/
theorem right_one {L L' : Int} {a b : List Msg} (ha : rightQ L a = true) (hb : rightQ L' b = true) (h : ∀ x, x ∈ a ↔ x ∈ b) : a = b := by
  have sa := (rightQ_parts ha).2.2
  have sb := (rightQ_parts hb).2.2
  exact sorted_one sa sb ((List.perm_ext_iff_of_nodup (nodup_of sa.unlike) (nodup_of sb.unlike)).2 h)
theorem cut_right {L : Int} {l : List Msg} {i : Nat} (h : rightQ L l = true) : rightQ L (cutL L l i) = true := by
  unfold cutL
  rw [if_pos h]
  obtain ⟨⟨p1, p2⟩, p3, p4⟩ := rightQ_parts h
  refine rightQ_of p1 p2 (by have := List.length_eraseIdx_le l i; omega) ⟨fun m hm => p4.right m (List.mem_of_mem_eraseIdx hm), p4.lt.sublist (List.eraseIdx_sublist l i), p4.unlike.sublist (List.eraseIdx_sublist l i)⟩
/-- Of a right queue, the one of a number. -/
theorem abort_one {L : Int} {l : List Msg} {m : Msg} (h : rightQ L l = true) (hm : m ∈ l) : cutE L l (l.findIdx (isNum m.number)) = 0 ∧ cutM L l (l.findIdx (isNum m.number)) = m ∧ (∀ x, x ∈ cutL L l (l.findIdx (isNum m.number)) ↔ x ∈ l ∧ x ≠ m) ∧ (cutL L l (l.findIdx (isNum m.number))).length + 1 = l.length := by
  obtain ⟨_, _, p4⟩ := rightQ_parts h
  have hlt : l.findIdx (isNum m.number) < l.length := List.findIdx_lt_length.2 ⟨m, hm, by simp [isNum]⟩
  have hat := List.getElem?_eq_getElem hlt
  obtain ⟨h1, h2, h3, _⟩ := cut_one h hat
  obtain ⟨k, hk, e⟩ := List.getElem_of_mem hm
  have hkk : k = l.findIdx (isNum m.number) := by
    have hk2 : l[k]? = some m := by rw [List.getElem?_eq_getElem hk, e]
    refine (find_stop (fun j x hj hx => ?_) hk2 (by simp [isNum])).symm
    obtain ⟨hj2, e2⟩ := List.getElem?_eq_some_iff.1 hx
    have := List.pairwise_iff_getElem.1 p4.unlike j k hj2 hk hj
    rw [e, e2] at this
    simpa [isNum] using this
  have hmm : l[l.findIdx (isNum m.number)] = m := by
    have h9 : l[l.findIdx (isNum m.number)]? = l[k]? := by rw [← hkk]
    rw [List.getElem?_eq_getElem hlt, List.getElem?_eq_getElem hk, e] at h9
    exact Option.some.inj h9
  refine ⟨h1, h3.trans hmm, fun x => ?_, ?_⟩
  · rw [h2, List.mem_eraseIdx_iff_getElem?]
    constructor
    · rintro ⟨j, hj, hx⟩
      obtain ⟨hj2, ex⟩ := List.getElem?_eq_some_iff.1 hx
      refine ⟨List.mem_of_getElem? hx, fun e3 => ?_⟩
      subst e3
      have hun := List.pairwise_iff_getElem.1 p4.unlike
      rcases Nat.lt_or_ge j (l.findIdx (isNum x.number)) with h5 | h5
      · have := hun j _ hj2 hlt h5; rw [ex, hmm] at this; exact this rfl
      · have := hun _ j hlt hj2 (by omega); rw [ex, hmm] at this; exact this rfl
    · rintro ⟨hx, hne⟩
      obtain ⟨j, hj, ex⟩ := List.getElem_of_mem hx
      exact ⟨j, fun e4 => hne (by subst e4; rw [← ex]; exact hmm), by rw [List.getElem?_eq_getElem hj, ex]⟩
  · rw [h2, List.length_eraseIdx]; simp only [hlt, if_true]; omega
theorem abort_none {L : Int} {l : List Msg} {n : Int} (h : rightQ L l = true) (hn : ∀ x ∈ l, x.number ≠ n) : cutE L l (l.findIdx (isNum n)) = 41 ∧ cutL L l (l.findIdx (isNum n)) = l ∧ cutM L l (l.findIdx (isNum n)) = zeroM := by
  have hi : l.findIdx (isNum n) = l.length := List.findIdx_eq_length.2 fun x hx => by simpa [isNum] using hn x hx
  obtain ⟨h1, h2, h3, _⟩ := cut_none h hi
  exact ⟨h1, h2, h3⟩

/-! ## Boxes of one type are none of another -/
theorem QAt.not_at {w : World} {g : Nat} {L : Int} {A : Option Addr} {n c : Nat} (h : QAt w g L A n c) {b k : Nat} {v : Value} (hc : w.cell? ⟨b, k + 2, none⟩ = some v) : b ≠ g := by
  intro e
  subst e
  rw [cell_of h (k + 2)] at hc
  simp [qc] at hc
theorem QIn.farQ {w : World} {A A0 : Option Addr} {c b n0 c0 : Nat} {L0 : Int} {l : List Msg} (h : QIn w A c l) (hb : QAt w b L0 A0 n0 c0) (x y : Value) : QIn ((w.setCell ⟨b, 0, none⟩ x).setCell ⟨b, 1, none⟩ y) A c l := by
  refine ⟨fun hn => ?_, h.cap, h.few, h.data, fun ad e => by rw [World.size_setCell, World.size_setCell]; exact h.low ad e⟩
  obtain ⟨ad, e, hbl, hc⟩ := h.msgs hn
  have h0 := hc 0 l[0] (List.getElem?_eq_getElem hn)
  have hne : ad.block ≠ b := by
    have h00 := h0.2.2.1
    rw [Nat.zero_mul, adb] at h00
    exact hb.not_at h00
  refine ⟨ad, e, by rw [World.size_setCell, World.size_setCell]; exact hbl, fun j m hm => (hc j m hm).keep fun q hq => World.cell?_of_block ?_⟩
  rw [hq, adb]
  exact Go.Proofs.YtehajmockicilaaDoor.far2 w x y hne
end Go.Proofs.YtehajmockicilaaDoor

/-
  The entries of raw numbers: plain mathematics. Each is right.
-/
import Derived.Test.YtmmbnjkdknnidaaGreatDoorVecPickV
import Derived.Test.YtmmbnjkdknnidaaGreatDoorEntOrdV
import Derived.Test.YtmmbnjkdknnidaaGreatDoorMsgRowsV
import Derived.Test.YtmmbnjkdknnidaaGreatDoorMsgOwnV
import Derived.Test.YtmmbnjkdknnidaaGreatDoorVecRefListV
set_option maxHeartbeats 2000000
set_option maxRecDepth 100000
namespace Go.Proofs.YtmmbnjkdknnidaaGreatDoor
open Lib (hid)
open Go.RowKit
structure Ent where
 t : Int
 ep : Int
 mem : Int
 incs : List Int
 msgs : List Msg
def zeroE : Ent := ⟨0, 0, 0, [], []⟩
def isE (mem : Int) (incs : List Int) (node : Int) : Bool := V.hasB mem node && decide ((incs.length : Int) = V.countI mem)
def incE (mem : Int) (incs : List Int) (node : Int) : Int := if isE mem incs node = true then incs.getD (V.cb (V.md mem) node.toNat) 0 else 0
def ordU (l : List Msg) : Nat → Bool
 | 0 => true
 | k + 1 => ordU l k && (rightM (l.getD k zeroM) && (decide (k = 0) || lessM (l.getD (k - 1) zeroM) (l.getD k zeroM)))
def memU (mem : Int) (incs : List Int) (l : List Msg) : Nat → Bool
 | 0 => true
 | k + 1 => memU mem incs l k && (isE mem incs (l.getD k zeroM).sender && (decide ((l.getD k zeroM).inc = incE mem incs (l.getD k zeroM).sender) && !((l.take k).any fun x => decide (x.sender = (l.getD k zeroM).sender))))
def rightE (e : Ent) : Bool := smallB e.t && (smallB e.ep && (decide (0 ≤ e.mem) && (decide (e.mem ≤ 65535) && (decide ((e.incs.length : Int) = V.countI e.mem) && (e.incs.all smallB && (ordU e.msgs e.msgs.length && memU e.mem e.incs e.msgs e.msgs.length))))))
theorem rightE_iff (e : Ent) : rightE e = true ↔ (1 ≤ e.t ∧ e.t ≤ 65535) ∧ (1 ≤ e.ep ∧ e.ep ≤ 65535) ∧ 0 ≤ e.mem ∧ e.mem ≤ 65535 ∧ (e.incs.length : Int) = V.countI e.mem ∧ e.incs.all smallB = true ∧ ordU e.msgs e.msgs.length = true ∧ memU e.mem e.incs e.msgs e.msgs.length = true := by
 unfold rightE
 simp only [Bool.and_eq_true, smallB_iff, decide_eq_true_iff]
theorem ordU_iff (l : List Msg) : ∀ n, ordU l n = true ↔ ∀ k, k < n → rightM (l.getD k zeroM) = true ∧ (k = 0 ∨ lessM (l.getD (k - 1) zeroM) (l.getD k zeroM) = true)
 | 0 => by simp [ordU]
 | n + 1 => by
  unfold ordU
  rw [Bool.and_eq_true, Bool.and_eq_true, Bool.or_eq_true, decide_eq_true_iff, ordU_iff l n]
  constructor
  ·rintro ⟨h1, h2⟩ k hk
   rcases Nat.lt_or_ge k n with h | h
   ·exact h1 k h
   ·rw [show k = n by omega]; exact h2
  ·exact fun h => ⟨fun k hk => h k (by omega), h n (by omega)⟩
theorem memU_iff (mem : Int) (incs : List Int) (l : List Msg) : ∀ n, memU mem incs l n = true ↔ ∀ k, k < n → isE mem incs (l.getD k zeroM).sender = true ∧ (l.getD k zeroM).inc = incE mem incs (l.getD k zeroM).sender ∧ ∀ x ∈ l.take k, x.sender ≠ (l.getD k zeroM).sender
 | 0 => by simp [memU]
 | n + 1 => by
  unfold memU
  rw [Bool.and_eq_true, Bool.and_eq_true, Bool.and_eq_true, decide_eq_true_iff, memU_iff mem incs l n]
  have e : (!((l.take n).any fun x => decide (x.sender = (l.getD n zeroM).sender))) = true ↔ ∀ x ∈ l.take n, x.sender ≠ (l.getD n zeroM).sender := by
   rw [Bool.not_eq_true', List.any_eq_false]
   simp
  rw [e]
  constructor
  ·rintro ⟨h1, h2⟩ k hk
   rcases Nat.lt_or_ge k n with h | h
   ·exact h1 k h
   ·rw [show k = n by omega]; exact h2
  ·exact fun h => ⟨fun k hk => h k (by omega), h n (by omega)⟩
theorem pigeon : ∀ (n : Nat) (l : List Int), l.Pairwise (· ≠ ·) → (∀ x ∈ l, 0 ≤ x ∧ x < n) → l.length ≤ n
 | 0, l, _, h => by
  cases l with
  | nil => exact Nat.le_refl _
  | cons x l => have := h x (by simp); omega
 | n + 1, l, hp, h => by
  have hf := pigeon n (l.filter fun x => decide (x ≠ (n : Int))) (hp.filter _) (fun x hx => by
   have h1 := List.mem_filter.1 hx
   have h2 := h x h1.1
   have h3 : x ≠ (n : Int) := by simpa using h1.2
   omega)
  have hl : ∀ (l : List Int), l.Pairwise (· ≠ ·) → l.length ≤ (l.filter fun x => decide (x ≠ (n : Int))).length + 1 := by
   intro l
   induction l with
   | nil => intro _; simp
   | cons x l ih =>
    intro hp
    rw [List.pairwise_cons] at hp
    by_cases hx : x = (n : Int)
    ·have e : (l.filter fun y => decide (y ≠ (n : Int))) = l := List.filter_eq_self.2 fun y hy => by
      have := hp.1 y hy
      simp; omega
     rw [List.filter_cons, if_neg (by simp [hx]), e]
     simp
    ·rw [List.filter_cons, if_pos (by simp [hx]), List.length_cons, List.length_cons]
     have := ih hp.2
     omega
  have := hl l hp
  omega
theorem hasB_range {v n : Int} (h : V.hasB v n = true) : 0 ≤ n ∧ n ≤ 15 := by
 unfold V.hasB at h
 rw [Bool.and_eq_true] at h
 exact (V.nodeB_iff n).1 h.1
theorem isE_has {mem : Int} {incs : List Int} {node : Int} (h : isE mem incs node = true) : V.hasB mem node = true ∧ (incs.length : Int) = V.countI mem := by
 unfold isE at h
 rw [Bool.and_eq_true, decide_eq_true_iff] at h
 exact h
theorem getD_at {α : Type} {l : List α} {k : Nat} {x d : α} (h : l[k]? = some x) : l.getD k d = x := by
 rw [List.getD_eq_getElem?_getD, h]; rfl
theorem memU_senders {mem : Int} {incs : List Int} {l : List Msg} (h : memU mem incs l l.length = true) : (l.map (·.sender)).Pairwise (· ≠ ·) ∧ ∀ m ∈ l, isE mem incs m.sender = true ∧ m.inc = incE mem incs m.sender := by
 have hh := (memU_iff mem incs l l.length).1 h
 refine ⟨?_, fun m hm => ?_⟩
 ·rw [List.pairwise_map, List.pairwise_iff_getElem]
  intro i j hi hj hij
  have h1 := (hh j hj).2.2
  rw [getD_at (List.getElem?_eq_getElem hj)] at h1
  exact h1 _ (by rw [List.mem_take_iff_getElem]; exact ⟨i, by omega, rfl⟩)
 ·obtain ⟨i, hi, rfl⟩ := List.getElem_of_mem hm
  have h1 := hh i hi
  rw [getD_at (List.getElem?_eq_getElem hi)] at h1
  exact ⟨h1.1, h1.2.1⟩
theorem memU_length {mem : Int} {incs : List Int} {l : List Msg} (h : memU mem incs l l.length = true) : l.length ≤ 16 := by
 obtain ⟨h1, h2⟩ := memU_senders h
 have := pigeon 16 (l.map (·.sender)) h1 (fun x hx => by
  obtain ⟨m, hm, rfl⟩ := List.mem_map.1 hx
  have := hasB_range (isE_has (h2 m hm).1).1
  omega)
 rwa [List.length_map] at this
theorem rightE_msgs {e : Ent} (h : rightE e = true) : e.msgs.length ≤ 16 := memU_length ((rightE_iff e).1 h).2.2.2.2.2.2.2
theorem rightE_each {e : Ent} (h : rightE e = true) : ∀ m ∈ e.msgs, rightM m = true := fun m hm => by
 obtain ⟨i, hi, rfl⟩ := List.getElem_of_mem hm
 have h1 := ((ordU_iff _ _).1 ((rightE_iff e).1 h).2.2.2.2.2.2.1 i hi).1
 rwa [getD_at (List.getElem?_eq_getElem hi)] at h1
theorem countI_le (v : Int) : V.countI v ≤ 16 := by unfold V.countI; have := V.cb_le (V.md v) 16; omega
theorem rightE_incs {e : Ent} (h : rightE e = true) : e.incs.length ≤ 16 := by
 have := ((rightE_iff e).1 h).2.2.2.2.1
 have := countI_le e.mem
 omega
def twosL (l : List Int) : List UInt8 := l.flatMap twoL
theorem twosL_snoc (l : List Int) (n : Int) : twosL (l ++ [n]) = twosL l ++ twoL n := by unfold twosL; rw [List.flatMap_append]; simp
theorem twosL_length (l : List Int) : (twosL l).length = 2 * l.length := by
 induction l with
 | nil => rfl
 | cons n l ih => show (twoL n ++ twosL l).length = _; rw [List.length_append, ih]; show 2 + _ = 2 * (l.length + 1); omega
def encEnt (e : Ent) : List UInt8 := twosL [e.t, e.ep, e.mem] ++ twosL e.incs ++ [octet e.msgs.length] ++ catL e.msgs
def encTE (e : Ent) : List UInt8 := if rightE e = true then encEnt e else []
def encEE (e : Ent) : Int := if rightE e = true then 0 else 1
def sizeL (l : List Msg) : Nat := (l.map fun m => 12 + m.data.size).sum
theorem catL_size (ms : List Msg) (h : ∀ m ∈ ms, rightM m = true) : (catL ms).length = sizeL ms := by
 induction ms with
 | nil => rfl
 | cons m ms ih =>
  have h1 := encL_length (h m (by simp))
  have h3 := ih fun x hx => h x (by simp [hx])
  show (encL m ++ catL ms).length = (12 + m.data.size) + sizeL ms
  rw [List.length_append, h1, h3]
theorem encEnt_length {e : Ent} (h : rightE e = true) : (encEnt e).length = 7 + 2 * e.incs.length + sizeL e.msgs := by
 unfold encEnt
 rw [List.length_append, List.length_append, List.length_append, twosL_length, twosL_length, catL_size _ (rightE_each h)]
 simp only [List.length_cons, List.length_nil]
 omega
theorem sizeL_le {ms : List Msg} (h : ∀ m ∈ ms, rightM m = true) : sizeL ms ≤ 20 * ms.length := by rw [← catL_size ms h]; exact catL_length ms h
theorem encEnt_small {e : Ent} (h : rightE e = true) : (encEnt e).length ≤ 359 := by
 rw [encEnt_length h]
 have h1 := rightE_msgs h
 have h2 := rightE_incs h
 have h3 := sizeL_le (rightE_each h)
 omega
def restK (l : List UInt8) : Nat → List UInt8
 | 0 => l
 | k + 1 => decRest (restK l k)
def msgK (l : List UInt8) : Nat → List Msg
 | 0 => []
 | k + 1 => msgK l k ++ [decR (restK l k)]
def errK (l : List UInt8) : Nat → Int
 | 0 => 0
 | k + 1 => if errK l k = 0 then decE (restK l k) else errK l k
theorem msgK_length (l : List UInt8) : ∀ k, (msgK l k).length = k
 | 0 => rfl
 | k + 1 => by show (msgK l k ++ [_]).length = _; rw [List.length_append, msgK_length l k]; rfl
theorem errK_stays (l : List UInt8) {k : Nat} (h : errK l k ≠ 0) : ∀ j, errK l (k + j) = errK l k
 | 0 => rfl
 | j + 1 => by
  show (if errK l (k + j) = 0 then _ else errK l (k + j)) = _
  rw [errK_stays l h j, if_neg h]
theorem errK_at (l : List UInt8) {k n : Nat} (hk : k < n) (h : errK l k = 0) (hd : decE (restK l k) ≠ 0) : errK l n = decE (restK l k) := by
 have h1 : errK l (k + 1) = decE (restK l k) := by show (if _ then _ else _) = _; rw [if_pos h]
 have := errK_stays l (k := k + 1) (by rw [h1]; exact hd) (n - (k + 1))
 rw [show k + 1 + (n - (k + 1)) = n by omega] at this
 rw [this, h1]
theorem errK_next (l : List UInt8) {k : Nat} (h : errK l k = 0) (hd : decE (restK l k) = 0) : errK l (k + 1) = 0 := by
 show (if _ then _ else _) = _
 rw [if_pos h, hd]
def hMany (l : List UInt8) : Nat := V.cb (V.md (pairL l 4)) 16
def incsN (l : List UInt8) : Nat → List Int
 | 0 => []
 | k + 1 => incsN l k ++ [pairL l (6 + 2 * k)]
theorem incsN_length (l : List UInt8) : ∀ k, (incsN l k).length = k
 | 0 => rfl
 | k + 1 => by show (incsN l k ++ [_]).length = _; rw [List.length_append, incsN_length l k]; rfl
def eN (l : List UInt8) : Nat := (l.getD (6 + 2 * hMany l) 0).toNat
def bodyL (l : List UInt8) : List UInt8 := l.drop (7 + 2 * hMany l)
def entD (l : List UInt8) : Ent := ⟨pairL l 0, pairL l 2, pairL l 4, incsN l (hMany l), msgK (bodyL l) (eN l)⟩
def decEE (l : List UInt8) : Int := if l.length < 6 then 3 else if l.length < 7 + 2 * hMany l then 3 else if 16 < eN l then 2 else if errK (bodyL l) (eN l) = 0 then (if rightE (entD l) = true then 0 else 2) else errK (bodyL l) (eN l)
def decRE (l : List UInt8) : Ent := if decEE l = 0 then entD l else zeroE
def decRestE (l : List UInt8) : List UInt8 := if decEE l = 0 then restK (bodyL l) (eN l) else []
theorem hMany_le (l : List UInt8) : hMany l ≤ 16 := V.cb_le _ _
theorem pair_two0 (n : Int) (h : 0 ≤ n ∧ n ≤ 65535) : 256 * ((octet (n / 256)).toNat : Int) + ((octet n).toNat : Int) = n := by
 rw [octet_nat, octet_nat]; omega
theorem pair_twos : ∀ (l : List Int) (r : List UInt8) (i : Nat), (∀ x ∈ l, 0 ≤ x ∧ x ≤ 65535) → i < l.length → pairL (twosL l ++ r) (2 * i) = l.getD i 0
 | [], _, _, _, h => absurd h (Nat.not_lt_zero _)
 | n :: l, r, 0, hr, _ => pair_two0 n (hr n (by simp))
 | n :: l, r, i + 1, hr, h => by
  have := pair_twos l r i (fun x hx => hr x (by simp [hx])) (by simpa using h)
  rw [List.getD_cons_succ, ← this]
  rfl
def numsE (e : Ent) : List Int := e.t :: e.ep :: e.mem :: e.incs
theorem encEnt_nums (e : Ent) : encEnt e = twosL (numsE e) ++ (octet e.msgs.length :: catL e.msgs) := by
 unfold encEnt numsE
 rw [show e.t :: e.ep :: e.mem :: e.incs = [e.t, e.ep, e.mem] ++ e.incs from rfl]
 unfold twosL
 rw [List.flatMap_append]
 simp
theorem nums_range {e : Ent} (h : rightE e = true) : ∀ x ∈ numsE e, 0 ≤ x ∧ x ≤ 65535 := by
 obtain ⟨h1, h2, h3, h4, _, h6, _⟩ := (rightE_iff e).1 h
 intro x hx
 unfold numsE at hx
 simp only [List.mem_cons] at hx
 rcases hx with rfl | rfl | rfl | hx
 ·omega
 ·omega
 ·omega
 ·have := (smallB_iff _).1 ((List.all_eq_true.1 h6) x hx)
  omega
theorem numsE_length (e : Ent) : (numsE e).length = 3 + e.incs.length := by unfold numsE; simp only [List.length_cons]; omega
theorem row_dec (ms : List Msg) (h : ∀ m ∈ ms, rightM m = true) (r : List UInt8) : ∀ k, k ≤ ms.length → restK (catL ms ++ r) k = catL (ms.drop k) ++ r ∧ msgK (catL ms ++ r) k = ms.take k ∧ errK (catL ms ++ r) k = 0
 | 0, _ => ⟨rfl, rfl, rfl⟩
 | k + 1, hk => by
  obtain ⟨h1, h2, h3⟩ := row_dec ms h r k (by omega)
  have hm : ms[k]? = some ms[k] := List.getElem?_eq_getElem (by omega)
  obtain ⟨d1, d2, d3⟩ := dec_enc (h _ (List.getElem_mem (by omega : k < ms.length))) (catL (ms.drop (k + 1)) ++ r)
  have e : restK (catL ms ++ r) k = encL ms[k] ++ (catL (ms.drop (k + 1)) ++ r) := by rw [h1, catL_drop ms k _ hm, List.append_assoc]
  refine ⟨?_, ?_, ?_⟩
  ·show decRest (restK (catL ms ++ r) k) = _
   rw [e, d3]
  ·show msgK (catL ms ++ r) k ++ [decR (restK (catL ms ++ r) k)] = _
   rw [e, d2, h2, List.take_succ_eq_append_getElem (by omega)]
  ·show (if errK (catL ms ++ r) k = 0 then decE (restK (catL ms ++ r) k) else errK (catL ms ++ r) k) = 0
   rw [if_pos h3, e, d1]
theorem nums_dec {e : Ent} (h : rightE e = true) (r : List UInt8) : pairL (twosL (numsE e) ++ r) 0 = e.t ∧ pairL (twosL (numsE e) ++ r) 2 = e.ep ∧ pairL (twosL (numsE e) ++ r) 4 = e.mem ∧ hMany (twosL (numsE e) ++ r) = e.incs.length ∧ incsN (twosL (numsE e) ++ r) e.incs.length = e.incs := by
 have hn := nums_range h
 have hl := numsE_length e
 have p0 : pairL (twosL (numsE e) ++ r) 0 = e.t := pair_twos (numsE e) r 0 hn (by omega)
 have p2 : pairL (twosL (numsE e) ++ r) 2 = e.ep := pair_twos (numsE e) r 1 hn (by omega)
 have p4 : pairL (twosL (numsE e) ++ r) 4 = e.mem := pair_twos (numsE e) r 2 hn (by omega)
 refine ⟨p0, p2, p4, ?_, ?_⟩
 ·unfold hMany
  rw [p4]
  have := ((rightE_iff e).1 h).2.2.2.2.1
  unfold V.countI at this
  omega
 ·have : ∀ k, k ≤ e.incs.length → incsN (twosL (numsE e) ++ r) k = e.incs.take k := by
   intro k
   induction k with
   | zero => intro _; rfl
   | succ k ih =>
    intro hk
    show incsN _ k ++ [pairL _ (6 + 2 * k)] = _
    rw [ih (by omega), List.take_succ_eq_append_getElem (by omega)]
    congr 2
    have h3 := pair_twos (numsE e) r (3 + k) hn (by omega)
    rw [show 2 * (3 + k) = 6 + 2 * k by omega] at h3
    rw [h3]
    have h4 : (numsE e).getD (3 + k) 0 = e.incs.getD k 0 := by
     unfold numsE
     rw [show 3 + k = k + 1 + 1 + 1 by omega, List.getD_cons_succ, List.getD_cons_succ, List.getD_cons_succ]
    rw [h4]
    exact getD_at (List.getElem?_eq_getElem (by omega))
  rw [this _ (Nat.le_refl _), List.take_length]
theorem twos_nums_length (e : Ent) : (twosL (numsE e)).length = 6 + 2 * e.incs.length := by rw [twosL_length, numsE_length]; omega
theorem many_dec {e : Ent} (h : rightE e = true) (r : List UInt8) : eN (twosL (numsE e) ++ (octet e.msgs.length :: r)) = e.msgs.length ∧ bodyL (twosL (numsE e) ++ (octet e.msgs.length :: r)) = r := by
 obtain ⟨_, _, _, h4, _⟩ := nums_dec h (octet e.msgs.length :: r)
 have hz := twos_nums_length e
 have hm := rightE_msgs h
 constructor
 ·unfold eN
  rw [h4, List.getD_eq_getElem?_getD, List.getElem?_append_right (by omega), show 6 + 2 * e.incs.length - (twosL (numsE e)).length = 0 by omega]
  show (octet (e.msgs.length : Int)).toNat = _
  have := octet_nat (e.msgs.length : Int)
  omega
 ·unfold bodyL
  rw [h4, show 7 + 2 * e.incs.length = (twosL (numsE e)).length + 1 by omega, ← List.drop_drop, List.drop_left]
  rfl
theorem dec_encE {e : Ent} (h : rightE e = true) (r : List UInt8) : decEE (encEnt e ++ r) = 0 ∧ decRE (encEnt e ++ r) = e ∧ decRestE (encEnt e ++ r) = r := by
 have hX : encEnt e ++ r = twosL (numsE e) ++ (octet e.msgs.length :: (catL e.msgs ++ r)) := by rw [encEnt_nums, List.append_assoc]; rfl
 rw [hX]
 obtain ⟨p0, p2, p4, hM, hI⟩ := nums_dec h (octet e.msgs.length :: (catL e.msgs ++ r))
 obtain ⟨hN, hB⟩ := many_dec h (catL e.msgs ++ r)
 obtain ⟨b1, b2, b3⟩ := row_dec e.msgs (rightE_each h) r e.msgs.length (Nat.le_refl _)
 have hz := twos_nums_length e
 have hms := rightE_msgs h
 have hlen : 7 + 2 * e.incs.length ≤ (twosL (numsE e) ++ (octet e.msgs.length :: (catL e.msgs ++ r))).length := by
  rw [List.length_append, List.length_cons]; omega
 generalize twosL (numsE e) ++ (octet e.msgs.length :: (catL e.msgs ++ r)) = X at *
 have hD : entD X = e := by
  unfold entD
  rw [p0, p2, p4, hM, hI, hN, hB, b2, List.take_length]
 have hE : decEE X = 0 := by
  unfold decEE
  rw [hM, hN, hB, b3, hD, if_neg (by omega), if_neg (by omega), if_neg (by omega), if_pos rfl, if_pos h]
 refine ⟨hE, ?_, ?_⟩
 ·unfold decRE; rw [if_pos hE, hD]
 ·unfold decRestE; rw [if_pos hE, hN, hB, b1, List.drop_of_length_le (Nat.le_refl _)]; rfl
theorem decEE_facts {l : List UInt8} (h : decEE l = 0) : 7 + 2 * hMany l ≤ l.length ∧ eN l ≤ 16 ∧ errK (bodyL l) (eN l) = 0 ∧ rightE (entD l) = true := by
 unfold decEE at h
 by_cases h1 : l.length < 6
 ·rw [if_pos h1] at h; omega
 rw [if_neg h1] at h
 by_cases h2 : l.length < 7 + 2 * hMany l
 ·rw [if_pos h2] at h; omega
 rw [if_neg h2] at h
 by_cases h3 : 16 < eN l
 ·rw [if_pos h3] at h; omega
 rw [if_neg h3] at h
 by_cases h4 : errK (bodyL l) (eN l) = 0
 ·rw [if_pos h4] at h
  by_cases h5 : rightE (entD l) = true
  ·exact ⟨by omega, by omega, h4, h5⟩
  ·rw [if_neg h5] at h; omega
 ·rw [if_neg h4] at h; omega
theorem two_pair (l : List UInt8) (j : Nat) (h : j + 2 ≤ l.length) : twoL (pairL l j) = (l.drop j).take 2 := by
 rw [List.drop_eq_getElem_cons (by omega), List.drop_eq_getElem_cons (by omega)]
 unfold pairL
 rw [getD_at (List.getElem?_eq_getElem (by omega : j < l.length)), getD_at (List.getElem?_eq_getElem (by omega : j + 1 < l.length))]
 have hx := (l[j]'(by omega)).toNat_lt
 have hy := (l[j + 1]'(by omega)).toNat_lt
 unfold twoL
 rw [octet_of_byte l[j] _ (by omega), octet_of_byte l[j + 1] _ (by omega)]
 rfl
theorem twos_incs (l : List UInt8) : ∀ k, 6 + 2 * k ≤ l.length → twosL [pairL l 0, pairL l 2, pairL l 4] ++ twosL (incsN l k) = l.take (6 + 2 * k)
 | 0, h => by
  show twosL [pairL l 0, pairL l 2, pairL l 4] ++ [] = _
  rw [List.append_nil]
  show twoL (pairL l 0) ++ (twoL (pairL l 2) ++ (twoL (pairL l 4) ++ [])) = _
  rw [two_pair l 0 (by omega), two_pair l 2 (by omega), two_pair l 4 (by omega), List.append_nil]
  rw [show 6 + 2 * 0 = 2 + (2 + 2) from rfl, List.take_add, List.take_add, List.drop_drop]
  rfl
 | k + 1, h => by
  show _ ++ twosL (incsN l k ++ [pairL l (6 + 2 * k)]) = _
  rw [twosL_snoc, ← List.append_assoc, twos_incs l k (by omega), two_pair l _ (by omega), show 6 + 2 * (k + 1) = 6 + 2 * k + 2 by omega]
  exact List.take_add.symm
theorem row_enc (b : List UInt8) : ∀ n, errK b n = 0 → catL (msgK b n) ++ restK b n = b
 | 0, _ => rfl
 | n + 1, h => by
  have h0 : errK b n = 0 := by
   by_cases h0 : errK b n = 0
   ·exact h0
   ·have h' : (if errK b n = 0 then decE (restK b n) else errK b n) = 0 := h
    rw [if_neg h0] at h'; exact absurd h' h0
  have h1 : decE (restK b n) = 0 := by
   have h' : (if errK b n = 0 then decE (restK b n) else errK b n) = 0 := h
   rwa [if_pos h0] at h'
  show catL (msgK b n ++ [decR (restK b n)]) ++ decRest (restK b n) = b
  rw [catL_snoc, List.append_assoc, (enc_dec h1).2]
  exact row_enc b n h0
theorem enc_decE {l : List UInt8} (h : decEE l = 0) : rightE (decRE l) = true ∧ encEnt (decRE l) ++ decRestE l = l := by
 obtain ⟨h1, h2, h3, h4⟩ := decEE_facts h
 have hR : decRE l = entD l := by unfold decRE; rw [if_pos h]
 have hT : decRestE l = restK (bodyL l) (eN l) := by unfold decRestE; rw [if_pos h]
 rw [hR, hT]
 refine ⟨h4, ?_⟩
 have hr := row_enc (bodyL l) (eN l) h3
 have ht := twos_incs l (hMany l) (by omega)
 have hk := msgK_length (bodyL l) (eN l)
 have ho : octet ((eN l : Nat) : Int) = l[6 + 2 * hMany l]'(by omega) := by
  have e1 : eN l = (l[6 + 2 * hMany l]'(by omega)).toNat := by
   unfold eN
   rw [getD_at (List.getElem?_eq_getElem (by omega : 6 + 2 * hMany l < l.length))]
  rw [e1]
  exact octet_of_byte _ _ (by have := (l[6 + 2 * hMany l]'(by omega)).toNat_lt; omega)
 have e : encEnt (entD l) ++ restK (bodyL l) (eN l) = (twosL [pairL l 0, pairL l 2, pairL l 4] ++ twosL (incsN l (hMany l))) ++ (octet ((msgK (bodyL l) (eN l)).length : Int) :: (catL (msgK (bodyL l) (eN l)) ++ restK (bodyL l) (eN l))) := by
  unfold encEnt entD
  simp
 rw [e, ht, hk, ho, hr]
 unfold bodyL
 rw [show 7 + 2 * hMany l = 6 + 2 * hMany l + 1 by omega, ← List.drop_eq_getElem_cons (by omega), List.take_append_drop]
theorem encTE_right {e : Ent} (h : rightE e = true) : encTE e = encEnt e := by unfold encTE; rw [if_pos h]
theorem encEE_right {e : Ent} (h : rightE e = true) : encEE e = 0 := by unfold encEE; rw [if_pos h]
abbrev ev (t ep mem : Int) (u v : Value) : Value := .agg #[.int .i64 t, .int .i64 ep, .int .i64 mem, u, v]
def EntAt (w : World) (b : Nat) (t ep mem : Int) (u v : Value) : Prop := w.heap[b]? = some (.cells #[.int .i64 t, .int .i64 ep, .int .i64 mem, u, v] 37 (0, 0))
theorem EntAt.new (w : World) (t ep mem : Int) (u v : Value) : EntAt (w.alloc (.cells #[.int .i64 t, .int .i64 ep, .int .i64 mem, u, v] 37)) w.heap.size t ep mem u v := heap_alloc_new w _
theorem EntAt.on {w w' : World} {b : Nat} {t ep mem : Int} {u v : Value} (h : EntAt w b t ep mem u v) (hb : Below w.heap.size w w') : EntAt w' b t ep mem u v :=
 (hb.block b (Array.getElem?_eq_some_iff.1 h).1).trans h
theorem cell_of {w : World} {g : Nat} {C : Array Value} {T : TypeId} (h : w.heap[g]? = some (.cells C T (0, 0))) (i : Nat) : w.cell? ⟨g, i, none⟩ = C[i]? := by simp [World.cell?, h]
theorem EntAt.cells {w : World} {b : Nat} {t ep mem : Int} {u v : Value} (h : EntAt w b t ep mem u v) : w.cell? ⟨b, 0, none⟩ = some (.int .i64 t) ∧ w.cell? ⟨b, 1, none⟩ = some (.int .i64 ep) ∧ w.cell? ⟨b, 2, none⟩ = some (.int .i64 mem) ∧ w.cell? ⟨b, 3, none⟩ = some u ∧ w.cell? ⟨b, 4, none⟩ = some v :=
 ⟨(cell_of h 0).trans rfl, (cell_of h 1).trans rfl, (cell_of h 2).trans rfl, (cell_of h 3).trans rfl, (cell_of h 4).trans rfl⟩
theorem and_all0 (v n : Int) (h : 0 ≤ n ∧ n ≤ 16) : V.countI (bits .and .i64 v (V.allI n)) = (V.cb (V.md v) n.toNat : Int) := by
 unfold V.allI V.countI
 rw [V.and_low v _ (V.allN_lt n), V.md_nat _ (V.and_lt _ _ (V.allN_lt n))]
 congr 1
 refine V.cb_cut _ _ 16 (by omega) _ fun i hi => ?_
 rw [Nat.testBit_and]
 have h1 := V.md_all n i hi
 unfold V.allI at h1
 rw [V.md_nat _ (V.allN_lt n)] at h1
 rw [h1]
 congr 1
 rw [decide_eq_decide]
 omega
theorem cb_room (m k : Nat) (hk : k < 16) (hit : m.testBit k = true) : V.cb m k < V.cb m 16 := by
 have := V.below_room m k hk hit
 rwa [V.below_length, V.below_length] at this
theorem hasB_bit16 {v n : Int} (h : V.hasB v n = true) : (V.md v).testBit n.toNat = true := by
 unfold V.hasB at h
 rw [Bool.and_eq_true] at h
 exact h.2
theorem isE_no_node {mem : Int} {incs : List Int} {node : Int} (h : V.hasB mem node = false) : isE mem incs node = false := by unfold isE; rw [h]; rfl
theorem isE_no_count {mem : Int} {incs : List Int} {node : Int} (h : ¬ (incs.length : Int) = V.countI mem) : isE mem incs node = false := by unfold isE; simp [h]
theorem isE_yes {mem : Int} {incs : List Int} {node : Int} (h : V.hasB mem node = true) (hc : (incs.length : Int) = V.countI mem) : isE mem incs node = true := by unfold isE; simp [h, hc]
theorem incE_no {mem : Int} {incs : List Int} {node : Int} (h : isE mem incs node = false) : incE mem incs node = 0 := by unfold incE; rw [h]; rfl
theorem incE_yes {mem : Int} {incs : List Int} {node : Int} (h : V.hasB mem node = true) (hc : (incs.length : Int) = V.countI mem) : V.cb (V.md mem) node.toNat < incs.length ∧ incs[V.cb (V.md mem) node.toNat]? = some (incE mem incs node) := by
 obtain ⟨h0, h1⟩ := hasB_range h
 have hr := cb_room (V.md mem) node.toNat (by omega) (hasB_bit16 h)
 have hl : V.cb (V.md mem) node.toNat < incs.length := by unfold V.countI at hc; omega
 refine ⟨hl, ?_⟩
 unfold incE
 rw [isE_yes h hc, if_pos rfl, List.getElem?_eq_getElem hl, List.getD_eq_getElem?_getD, List.getElem?_eq_getElem hl]
 rfl
theorem incP_any (t ep mem node : Int) (A : Option Addr) (c : Nat) (incs : List Int) (v : Value) (w : World) (h : V.Row w w.heap.size A incs) (hl : incs.length ≤ maxLen) :
  Calls Tryz.prog 133 #[ev t ep mem (.slice A incs.length c) v, .int .i64 node] w fun e w' => e = .returned (.tuple #[.int .i64 (incE mem incs node), .bool (isE mem incs node)]) ∧ Below w.heap.size w w' := by
 unfold maxLen at hl
 have b1 := Joins.below_alloc1 w (.cells #[.int .i64 t, .int .i64 ep, .int .i64 mem, .slice A incs.length c, v] 37)
 have e1 := EntAt.new w t ep mem (.slice A incs.length c) v
 have r1 := h.below b1 (Nat.le_refl _)
 generalize hW : w.alloc (.cells #[.int .i64 t, .int .i64 ep, .int .i64 mem, .slice A incs.length c, v] 37) = W at *
 obtain ⟨y0, y1, y2, y3, y4⟩ := e1.cells
 have HE := hid e1; clear e1
 have HB := hid b1; clear b1
 have HR := hid r1; clear r1
 have ch := fun w => V.has_any mem node w
 cases hh : V.hasB mem node
 ·have hI := isE_no_node (incs := incs) hh
  rw [incE_no hI, hI]
  rw [hh] at ch
  clear hh hI
  go_enter Tryz.func133, Tryz.ntmps133
  go_wp2_with fail
  clear hW
  go_quiet ((go_at_call 134; exact Calls.quiet_of_same (turned (ch _))))
  go_wp2_with fail
  go_ret2
  exact ⟨rfl, below_drewN HB.out _⟩
 ·rw [hh] at ch
  have cc := fun w => V.count_any mem w
  obtain ⟨h0, h1⟩ := hasB_range hh
  by_cases hc : (incs.length : Int) = V.countI mem
  ·have hI := isE_yes hh hc
   obtain ⟨hk, hx⟩ := incE_yes hh hc
   rw [hI]
   have ca := fun w => V.all_any node w
   have ck := fun w => V.count_any (bits .and .i64 mem (V.allI node)) w
   rw [and_all0 mem node ⟨h0, by omega⟩] at ck
   generalize V.cb (V.md mem) node.toNat = K at *
   generalize incE mem incs node = X at *
   have hq : ((incs.length : Int) != V.countI mem) = false := by simpa using hc
   generalize V.countI mem = CM at *
   generalize V.allI node = AN at *
   have hk' : (K : Int) < incs.length := by omega
   have hk0 : (0 : Int) ≤ K := by omega
   have HX := hid hx; clear hx
   have HK := hid hk; clear hk
   clear hh hI hc h0 h1
   go_enter Tryz.func133, Tryz.ntmps133
   go_wp2_with fail
   clear hW
   have HST : Hid (∀ w', Below W.heap.size W w' → ((w'.cell? ⟨w.heap.size, 2, none⟩ = some (.int .i64 mem) ∧ w'.cell? ⟨w.heap.size, 3, none⟩ = some (.slice A incs.length c)) ∧ Below W.heap.size W w')) := hid fun w' hb => ⟨⟨(HE.out.on hb).cells.2.2.1, (HE.out.on hb).cells.2.2.2.1⟩, hb⟩
   have HST2 : Hid (∀ w' w'', ((w'.cell? ⟨w.heap.size, 2, none⟩ = some (.int .i64 mem) ∧ w'.cell? ⟨w.heap.size, 3, none⟩ = some (.slice A incs.length c)) ∧ Below W.heap.size W w') → Below w'.heap.size w' w'' → ((w''.cell? ⟨w.heap.size, 2, none⟩ = some (.int .i64 mem) ∧ w''.cell? ⟨w.heap.size, 3, none⟩ = some (.slice A incs.length c)) ∧ Below W.heap.size W w'')) := hid fun w' w'' h hb => HST.out w'' (below_trans h.2 hb)
   go_region_held3 (fun w' => (w'.cell? ⟨w.heap.size, 2, none⟩ = some (.int .i64 mem) ∧ w'.cell? ⟨w.heap.size, 3, none⟩ = some (.slice A incs.length c)) ∧ Below W.heap.size W w') (first | assumption | exact HST.out _ (Below.refl _ _).drew | exact HST2.out _ _ (by assumption) (by assumption)) (first | (go_at_call 134; refine (ch _).mono ?_; rintro e v1 ⟨rfl, rfl⟩) | (go_at_call 93; refine (cc _).mono ?_; rintro e v1 ⟨rfl, hbc⟩))
   have hv := (Below.refl W.heap.size W).drew.trans hbc
   have HB2 := hid (HB.out.trans (hv.mono HB.out.size))
   have HR2 := hid (HR.out.below hv (by have := HB.out.size; omega))
   have HE2 := hid (HE.out.on hv)
   clear hv hbc y0 y1 y2 y3 y4 HST HST2
   obtain ⟨y0, y1, y2, y3, y4⟩ := HE2.out.cells
   go_wp2_with fail
   go_quiet ((go_at_call 92; exact Calls.quiet_of_same (turned (ca _))))
   go_wp2_with fail
   have hd := below_drewN (Below.refl v1.heap.size v1) nq
   have HB3 := hid (HB2.out.trans (hd.mono HB2.out.size))
   have HE3 := hid (HE2.out.on hd)
   obtain ⟨ad, rfl, had, hcc⟩ := HR2.out.below hd HB2.out.size (by have := HK.out; omega)
   have hck := hcc K X HX.out
   have had3 : (ad.add K).block < (v1.drewN nq).heap.size := by rw [V.adb]; have := HB3.out.size; omega
   generalize v1.drewN nq = W3 at *
   clear hd hcc y0 y1 y2 y3 y4 HE2 HR2
   have HST : Hid (∀ w', Below W3.heap.size W3 w' → ((w'.cell? ⟨w.heap.size, 3, none⟩ = some (.slice (some ad) incs.length c) ∧ w'.cell? (ad.add K) = some (.int .i64 X)) ∧ Below W3.heap.size W3 w')) := hid fun w' hb => ⟨⟨(HE3.out.on hb).cells.2.2.2.1, (hb.cell had3).trans hck⟩, hb⟩
   have HST2 : Hid (∀ w' w'', ((w'.cell? ⟨w.heap.size, 3, none⟩ = some (.slice (some ad) incs.length c) ∧ w'.cell? (ad.add K) = some (.int .i64 X)) ∧ Below W3.heap.size W3 w') → Below w'.heap.size w' w'' → ((w''.cell? ⟨w.heap.size, 3, none⟩ = some (.slice (some ad) incs.length c) ∧ w''.cell? (ad.add K) = some (.int .i64 X)) ∧ Below W3.heap.size W3 w'')) := hid fun w' w'' h hb => HST.out w'' (below_trans h.2 hb)
   go_region_held3 (fun w' => (w'.cell? ⟨w.heap.size, 3, none⟩ = some (.slice (some ad) incs.length c) ∧ w'.cell? (ad.add K) = some (.int .i64 X)) ∧ Below W3.heap.size W3 w') (first | assumption | exact HST.out _ (Below.refl _ _).drew | exact HST2.out _ _ (by assumption) (by assumption)) (first | (go_at_call 93; refine (ck _).mono ?_; rintro e v4 ⟨rfl, hbc⟩))
   go_wp2_with fail
   go_ret2
   exact ⟨rfl, HB3.out.trans (((Below.refl W3.heap.size W3).drew.trans hbc).mono HB3.out.size)⟩
  ·have hI := isE_no_count (node := node) hc
   rw [incE_no hI, hI]
   have hq : ((incs.length : Int) != V.countI mem) = true := by simpa using hc
   generalize V.countI mem = CM at *
   clear hh hI hc h0 h1
   go_enter Tryz.func133, Tryz.ntmps133
   go_wp2_with fail
   clear hW
   have HST : Hid (∀ w', Below W.heap.size W w' → ((w'.cell? ⟨w.heap.size, 2, none⟩ = some (.int .i64 mem) ∧ w'.cell? ⟨w.heap.size, 3, none⟩ = some (.slice A incs.length c)) ∧ Below W.heap.size W w')) := hid fun w' hb => ⟨⟨(HE.out.on hb).cells.2.2.1, (HE.out.on hb).cells.2.2.2.1⟩, hb⟩
   have HST2 : Hid (∀ w' w'', ((w'.cell? ⟨w.heap.size, 2, none⟩ = some (.int .i64 mem) ∧ w'.cell? ⟨w.heap.size, 3, none⟩ = some (.slice A incs.length c)) ∧ Below W.heap.size W w') → Below w'.heap.size w' w'' → ((w''.cell? ⟨w.heap.size, 2, none⟩ = some (.int .i64 mem) ∧ w''.cell? ⟨w.heap.size, 3, none⟩ = some (.slice A incs.length c)) ∧ Below W.heap.size W w'')) := hid fun w' w'' h hb => HST.out w'' (below_trans h.2 hb)
   go_region_held3 (fun w' => (w'.cell? ⟨w.heap.size, 2, none⟩ = some (.int .i64 mem) ∧ w'.cell? ⟨w.heap.size, 3, none⟩ = some (.slice A incs.length c)) ∧ Below W.heap.size W w') (first | assumption | exact HST.out _ (Below.refl _ _).drew | exact HST2.out _ _ (by assumption) (by assumption)) (first | (go_at_call 134; refine (ch _).mono ?_; rintro e v1 ⟨rfl, rfl⟩) | (go_at_call 93; refine (cc _).mono ?_; rintro e v1 ⟨rfl, hbc⟩))
   go_wp2_with fail
   go_ret2
   exact ⟨rfl, HB.out.trans (((Below.refl W.heap.size W).drew.trans hbc).mono HB.out.size)⟩
def zeroRaw : Raw := ⟨0, 0, 0, 0, 0, 0⟩
def incV (incs : List Int) (i : Nat) : Int := if 0 < incs.length then 1 + pickI (incs.getD (i % incs.length) 0) 65535 else 1
def incsV (incs : List Int) (k : Nat) : List Int := (List.range k).map (incV incs)
def dataV (r : Raw) : ByteArray := (⟨#[100, 97, 116, 97]⟩ : ByteArray).extract 0 (pickI r.r4 5).toNat
def senV (m : Msg) (s i : Int) : Msg := ⟨m.ext, m.n, s, i, m.seq, m.number, m.data⟩
def msgV (mem : Int) (incs : List Int) (r : Raw) (i : Nat) : Msg := senV (rmsg (dataV r) r) ((V.listI mem).getD i 0) (incV incs i)
def msgsV (mem : Int) (incs : List Int) (raw : List Raw) (k : Nat) : List Msg := (List.range k).map fun i => msgV mem incs (raw.getD i zeroRaw) i
def manyV (mem : Int) (raw : List Raw) : Nat := min raw.length (V.listI mem).length
def entV (n0 n1 n2 : Int) (incs : List Int) (raw : List Raw) : Ent :=
 ⟨1 + pickI n0 65535, 1 + pickI n1 65535, pickI n2 65536, incsV incs (V.listI (pickI n2 65536)).length, sortL (msgsV (pickI n2 65536) incs raw (manyV (pickI n2 65536) raw))⟩
theorem incV_range (incs : List Int) (i : Nat) : 1 ≤ incV incs i ∧ incV incs i ≤ 65535 := by
 unfold incV
 split
 ·have := pickI_range (incs.getD (i % incs.length) 0) 65535 (by omega); omega
 ·omega
theorem below_nodup (m k : Nat) : (V.below m k).Nodup := by
 unfold V.below
 refine List.Pairwise.map _ (fun a b h => ?_) ((List.nodup_range).filter _)
 show (a : Int) ≠ (b : Int)
 omega
theorem below_atR (m : Nat) {n : Nat} (hn : n < 16) (h : m.testBit n = true) : (V.below m 16)[V.cb m n]? = some (n : Int) := by
 obtain ⟨t, ht⟩ := V.below_pre m (n + 1) 16 (by omega)
 rw [← ht, V.below_hit m n h, List.append_assoc, List.getElem?_append_right (by rw [V.below_length]; exact Nat.le_refl _), V.below_length, Nat.sub_self]
 rfl
theorem list_index {v x : Int} {i : Nat} (h : (V.listI v)[i]? = some x) : V.hasB v x = true ∧ V.cb (V.md v) x.toNat = i := by
 have hx : x ∈ V.listI v := List.mem_of_getElem? h
 obtain ⟨n, hn, ht, rfl⟩ := (V.mem_below _ _ _).1 hx
 refine ⟨by rw [V.hasB_nat v n hn]; exact ht, ?_⟩
 rw [Int.toNat_natCast]
 have h2 := below_atR (V.md v) hn ht
 have hd := below_nodup (V.md v) 16
 have h3 : (V.listI v)[V.cb (V.md v) n]? = some (n : Int) := h2
 obtain ⟨h4, h5⟩ := List.getElem?_eq_some_iff.1 h
 obtain ⟨h6, h7⟩ := List.getElem?_eq_some_iff.1 h3
 exact ((List.getElem_inj (hd : (V.listI v).Nodup)).1 (h7.trans h5.symm))
theorem msgV_right (mem : Int) (incs : List Int) (r : Raw) {i : Nat} (hi : i < (V.listI mem).length) : rightM (msgV mem incs r i) = true := by
 have h := (rightM_iff _).1 (rmsg_right (dataV r) r)
 have hs := list_index (List.getElem?_eq_getElem hi)
 have hr := hasB_range hs.1
 have hv := incV_range incs i
 rw [rightM_iff]
 refine ⟨h.1, ?_, hv, h.2.2.2.1, h.2.2.2.2.1, h.2.2.2.2.2⟩
 show 0 ≤ (V.listI mem).getD i 0 ∧ (V.listI mem).getD i 0 ≤ 15
 rw [getD_at (List.getElem?_eq_getElem hi)]
 exact hr
theorem msgsV_mem {mem : Int} {incs : List Int} {raw : List Raw} {k : Nat} {m : Msg} (h : m ∈ msgsV mem incs raw k) : ∃ i, i < k ∧ m = msgV mem incs (raw.getD i zeroRaw) i := by
 unfold msgsV at h
 obtain ⟨i, hi, rfl⟩ := List.mem_map.1 h
 exact ⟨i, List.mem_range.1 hi, rfl⟩
theorem msgsV_good (mem : Int) (incs : List Int) (raw : List Raw) {k : Nat} (hk : k ≤ (V.listI mem).length) : GoodS (msgsV mem incs raw k) := by
 refine ⟨fun m hm => ?_, ?_⟩
 ·obtain ⟨i, hi, rfl⟩ := msgsV_mem hm
  exact ((rightM_iff _).1 (msgV_right mem incs _ (by omega))).1
 ·unfold msgsV
  refine List.Pairwise.map _ (R := fun a b => a < k ∧ b < k ∧ a ≠ b) (fun a b h => ?_) ?_
  ·obtain ⟨h1, h2, h3⟩ := h
   show (V.listI mem).getD a 0 ≠ (V.listI mem).getD b 0
   rw [getD_at (List.getElem?_eq_getElem (by omega)), getD_at (List.getElem?_eq_getElem (by omega))]
   intro e
   exact h3 ((List.getElem_inj (below_nodup (V.md mem) 16 : (V.listI mem).Nodup)).1 e)
  ·rw [List.pairwise_iff_getElem]
   intro i j hi hj hij
   rw [List.length_range] at hi hj
   rw [List.getElem_range, List.getElem_range]
   omega
theorem manyV_le (mem : Int) (raw : List Raw) : manyV mem raw ≤ (V.listI mem).length := Nat.min_le_right _ _
theorem entV_right (n0 n1 n2 : Int) (incs : List Int) (raw : List Raw) : rightE (entV n0 n1 n2 incs raw) = true := by
 have h0 := pickI_range n0 65535 (by omega)
 have h1 := pickI_range n1 65535 (by omega)
 have h2 := pickI_range n2 65536 (by omega)
 rw [rightE_iff]
 unfold entV
 generalize pickI n2 65536 = mem at *
 have hk := manyV_le mem raw
 have hg := msgsV_good mem incs raw hk
 obtain ⟨hs, hp⟩ := sortL_goodS _ hg
 have hgs := hg.perm hp
 have hlen : ((incsV incs (V.listI mem).length).length : Int) = V.countI mem := by
  unfold incsV
  rw [List.length_map, List.length_range]
  exact V.countI_length mem
 have hmem : ∀ m ∈ sortL (msgsV mem incs raw (manyV mem raw)), ∃ i, i < (V.listI mem).length ∧ m = msgV mem incs (raw.getD i zeroRaw) i := fun m hm => by
  obtain ⟨i, hi, e⟩ := msgsV_mem (hp.subset hm)
  exact ⟨i, by omega, e⟩
 generalize sortL (msgsV mem incs raw (manyV mem raw)) = S at *
 simp only
 refine ⟨by omega, by omega, by omega, by omega, hlen, ?_, ?_, ?_⟩
 ·rw [List.all_eq_true]
  intro x hx
  unfold incsV at hx
  obtain ⟨i, hi, rfl⟩ := List.mem_map.1 hx
  exact (smallB_iff _).2 (incV_range incs i)
 ·rw [ordU_iff]
  intro k hk2
  have hm : S[k] ∈ S := List.getElem_mem hk2
  rw [getD_at (List.getElem?_eq_getElem hk2)]
  refine ⟨?_, ?_⟩
  ·obtain ⟨i, hi, e⟩ := hmem _ hm
   rw [e]; exact msgV_right mem incs _ hi
  ·rcases Nat.eq_zero_or_pos k with h | h
   ·exact .inl h
   ·right
    rw [getD_at (List.getElem?_eq_getElem (show k - 1 < S.length by omega))]
    exact List.pairwise_iff_getElem.1 hs (k - 1) k (by omega) hk2 (by omega)
 ·rw [memU_iff]
  intro k hk2
  have hm : S[k] ∈ S := List.getElem_mem hk2
  rw [getD_at (List.getElem?_eq_getElem hk2)]
  obtain ⟨i, hi, e⟩ := hmem _ hm
  have hx := list_index (List.getElem?_eq_getElem hi)
  have hsn : (S[k]).sender = (V.listI mem)[i] := by
   rw [e]; show (V.listI mem).getD i 0 = _; exact getD_at (List.getElem?_eq_getElem hi)
  have his : isE mem (incsV incs (V.listI mem).length) (S[k]).sender = true := by
   unfold isE; rw [hsn, hx.1]; simpa using hlen
  refine ⟨his, ?_, fun x hx2 => ?_⟩
  ·unfold incE
   rw [if_pos his, hsn, hx.2, e]
   show incV incs i = _
   unfold incsV
   rw [getD_at (l := (List.range (V.listI mem).length).map (incV incs)) (x := incV incs i) (by rw [List.getElem?_map, List.getElem?_range hi]; rfl)]
  ·rw [List.mem_take_iff_getElem] at hx2
   obtain ⟨j, hj, rfl⟩ := hx2
   exact List.pairwise_iff_getElem.1 hgs.2 j k (by omega) hk2 (by omega)
end Go.Proofs.YtmmbnjkdknnidaaGreatDoor

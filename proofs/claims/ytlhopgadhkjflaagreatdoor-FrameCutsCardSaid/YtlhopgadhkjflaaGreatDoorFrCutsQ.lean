/-
  Frames cut, or with bytes behind: plain mathematics.
-/
import Derived.Test.YtlhopgadhkjflaaGreatDoorEntRawQ
import Derived.Test.YtlhopgadhkjflaaGreatDoorFragTripQ
namespace Go.Proofs.YtlhopgadhkjflaaGreatDoor
open Go.RowKit
structure Fr where
 snd : Int
 rnd : Int
 inc : Int
 term : Int
 role : Int
 vote : Int
 hrd : Int
 last : Int
 lterm : Int
 ack : Int
 com : Int
 prv : Int
 pterm : Int
 ps : List F.Pc
 es : List Ent
def zeroFr : Fr := ⟨0, 0, 0, 0, 0, 0, 0, 0, 0, 0, 0, 0, 0, [], []⟩
def numsF (f : Fr) : List Int := [f.rnd, f.inc, f.term, f.hrd, f.last, f.lterm, f.ack, f.com, f.prv, f.pterm]
def wordB (n : Int) : Bool := decide (0 ≤ n) && decide (n ≤ 65535)
def oneB {α : Type} (r : α → Bool) : List α → Bool
 | [] => true
 | [x] => r x
 | _ => false
def rightF (f : Fr) : Bool := (decide (0 ≤ f.snd) && decide (f.snd ≤ 15)) && ((decide (0 ≤ f.role) && decide (f.role ≤ 2)) && ((decide (-1 ≤ f.vote) && decide (f.vote ≤ 15)) && (decide (1 ≤ f.inc) && ((numsF f).all wordB && (oneB F.rightP f.ps && oneB rightE f.es)))))
theorem rightF_iff (f : Fr) : rightF f = true ↔ (0 ≤ f.snd ∧ f.snd ≤ 15) ∧ (0 ≤ f.role ∧ f.role ≤ 2) ∧ (-1 ≤ f.vote ∧ f.vote ≤ 15) ∧ 1 ≤ f.inc ∧ (numsF f).all wordB = true ∧ oneB F.rightP f.ps = true ∧ oneB rightE f.es = true := by
 unfold rightF
 simp only [Bool.and_eq_true, decide_eq_true_iff]
theorem wordB_iff (n : Int) : wordB n = true ↔ 0 ≤ n ∧ n ≤ 65535 := by unfold wordB; simp
theorem nums_all {f : Fr} (h : (numsF f).all wordB = true) : ∀ x ∈ numsF f, 0 ≤ x ∧ x ≤ 65535 := fun x hx => (wordB_iff x).1 ((List.all_eq_true.1 h) x hx)
theorem oneB_cases {α : Type} {r : α → Bool} {l : List α} (h : oneB r l = true) : l = [] ∨ ∃ x, l = [x] ∧ r x = true := by
 match l, h with
 | [], _ => exact .inl rfl
 | [x], h => exact .inr ⟨x, rfl, h⟩
def withN (f : Fr) : Nat := f.ps.length + 2 * f.es.length
def aheadF (f : Fr) : List UInt8 := [197, octet f.snd, octet f.role, octet (f.vote + 1)]
def partsF (f : Fr) : List UInt8 := f.ps.flatMap F.encL ++ f.es.flatMap encEnt
def bodyF (f : Fr) : List UInt8 := aheadF f ++ (twosL (numsF f) ++ (octet (withN f) :: partsF f))
def withF (t : List UInt8) : Nat := (t.getD 24 0).toNat
def hasP (t : List UInt8) : Bool := decide (withF t % 2 = 1)
def hasE (t : List UInt8) : Bool := decide (2 ≤ withF t)
def pE (t : List UInt8) : Int := if hasP t = true then F.decE (t.drop 25) else 0
def pL (t : List UInt8) : List F.Pc := if hasP t = true then [F.decR (t.drop 25)] else []
def pRest (t : List UInt8) : List UInt8 := if hasP t = true then (F.decRest (t.drop 25)).data.toList else t.drop 25
def eE (t : List UInt8) : Int := if hasE t = true then decEE (pRest t) else 0
def eL (t : List UInt8) : List Ent := if hasE t = true then [decRE (pRest t)] else []
def eRest (t : List UInt8) : List UInt8 := if hasE t = true then decRestE (pRest t) else pRest t
def frameD (t : List UInt8) : Fr := ⟨((t.getD 1 0).toNat : Int), pairL t 4, pairL t 6, pairL t 8, ((t.getD 2 0).toNat : Int), ((t.getD 3 0).toNat : Int) - 1, pairL t 10, pairL t 12, pairL t 14, pairL t 16, pairL t 18, pairL t 20, pairL t 22, pL t, eL t⟩
def bodyE (t : List UInt8) : Int := if t.length < 25 then 3 else if t.getD 0 0 ≠ 197 ∨ 3 < withF t then 2 else if pE t ≠ 0 then pE t else if eE t ≠ 0 then eE t else if eRest t = [] ∧ rightF (frameD t) = true then 0 else 2
theorem ahead_length (f : Fr) : (aheadF f ++ twosL (numsF f)).length = 24 := by
 rw [List.length_append, twosL_length]; rfl
theorem bodyF_length (f : Fr) : (bodyF f).length = 25 + (partsF f).length := by
 have h := ahead_length f
 rw [List.length_append] at h
 unfold bodyF
 rw [List.length_append, List.length_append, List.length_cons]; omega
theorem octet_self (n : Int) (h : 0 ≤ n ∧ n ≤ 255) : ((octet n).toNat : Int) = n := by rw [octet_nat]; omega
theorem head_dec {f : Fr} (h : rightF f = true) (n : Nat) (hn : n ≤ 3) (r : List UInt8) : ∃ t, t = aheadF f ++ (twosL (numsF f) ++ (octet (n : Int) :: r)) ∧ t.length = 25 + r.length ∧ t.getD 0 0 = 197 ∧ ((t.getD 1 0).toNat : Int) = f.snd ∧ ((t.getD 2 0).toNat : Int) = f.role ∧ ((t.getD 3 0).toNat : Int) - 1 = f.vote ∧
  pairL t 4 = f.rnd ∧ pairL t 6 = f.inc ∧ pairL t 8 = f.term ∧ pairL t 10 = f.hrd ∧ pairL t 12 = f.last ∧ pairL t 14 = f.lterm ∧ pairL t 16 = f.ack ∧ pairL t 18 = f.com ∧ pairL t 20 = f.prv ∧ pairL t 22 = f.pterm ∧ withF t = n ∧ t.drop 25 = r := by
 obtain ⟨h1, h2, h3, h4, h5, -, -⟩ := (rightF_iff f).1 h
 have hr := nums_all h5
 have hl : (numsF f).length = 10 := rfl
 have hz := ahead_length f
 rw [List.length_append] at hz
 have hp : ∀ i, i < 10 → pairL (aheadF f ++ (twosL (numsF f) ++ (octet (n : Int) :: r))) (4 + 2 * i) = (numsF f).getD i 0 := fun i hi => by
  have := pair_twos (numsF f) (octet (n : Int) :: r) i hr (by omega)
  rw [← this]
  have e4 : (aheadF f).length = 4 := rfl
  unfold pairL
  rw [List.getD_eq_getElem?_getD, List.getElem?_append_right (by omega), ← List.getD_eq_getElem?_getD, List.getD_eq_getElem?_getD (i := 4 + 2 * i + 1), List.getElem?_append_right (by omega), ← List.getD_eq_getElem?_getD, e4, show 4 + 2 * i - 4 = 2 * i by omega, show 4 + 2 * i + 1 - 4 = 2 * i + 1 by omega]
 refine ⟨_, rfl, ?_, rfl, octet_self _ (by omega), octet_self _ (by omega), ?_, hp 0 (by omega), hp 1 (by omega), hp 2 (by omega), hp 3 (by omega), hp 4 (by omega), hp 5 (by omega), hp 6 (by omega), hp 7 (by omega), hp 8 (by omega), hp 9 (by omega), ?_, ?_⟩
 ·rw [List.length_append, List.length_append, List.length_cons]; omega
 ·have := octet_self (f.vote + 1) (by omega)
  show ((octet (f.vote + 1)).toNat : Int) - 1 = _
  omega
 ·unfold withF
  rw [← List.append_assoc, List.getD_eq_getElem?_getD, List.getElem?_append_right (by rw [List.length_append]; omega), List.length_append, hz]
  show (octet (n : Int)).toNat = n
  have := octet_self (n : Int) (by omega)
  omega
 ·rw [← List.append_assoc, show 25 = (aheadF f ++ twosL (numsF f)).length + 1 by rw [List.length_append, hz], ← List.drop_drop, List.drop_left]; rfl
theorem body_dec {f : Fr} (h : rightF f = true) : bodyE (bodyF f) = 0 ∧ frameD (bodyF f) = f := by
 obtain ⟨-, -, -, -, -, hp, he⟩ := (rightF_iff f).1 h
 have hw : withN f ≤ 3 := by
  unfold withN
  rcases oneB_cases hp with e | ⟨p, e, -⟩ <;> rcases oneB_cases he with e' | ⟨x, e', -⟩ <;> rw [e, e'] <;> simp
 obtain ⟨t, ht, hlen, g0, g1, g2, g3, n0, n1, n2, n3, n4, n5, n6, n7, n8, n9, hwt, hd⟩ := head_dec h (withN f) hw (partsF f)
 have e : bodyF f = t := ht.symm
 rw [e]
 have hall : pE t = 0 ∧ pL t = f.ps ∧ eE t = 0 ∧ eL t = f.es ∧ eRest t = [] := by
  unfold pE pL eE eL eRest pRest hasP hasE
  rw [hwt, hd]
  unfold withN partsF
  rcases oneB_cases hp with e | ⟨p, e, hpr⟩
  ·rcases oneB_cases he with e' | ⟨x, e', hxr⟩
   ·rw [e, e']; simp
   ·obtain ⟨d1, d2, d3⟩ := dec_encE hxr []
    rw [List.append_nil] at d1 d2 d3
    rw [e, e']; simp [d1, d2, d3]
  ·rcases oneB_cases he with e' | ⟨x, e', hxr⟩
   ·obtain ⟨d1, d2, d3⟩ := F.dec_enc hpr []
    rw [List.append_nil] at d1 d2 d3
    rw [e, e']; simp [d1, d2, d3, F.txt]
   ·obtain ⟨d1, d2, d3⟩ := F.dec_enc hpr (encEnt x)
    obtain ⟨c1, c2, c3⟩ := dec_encE hxr []
    rw [List.append_nil] at c1 c2 c3
    rw [e, e']; simp [d1, d2, d3, F.txt, c1, c2, c3]
 obtain ⟨a1, a2, a3, a4, a5⟩ := hall
 have hf : frameD t = f := by
  unfold frameD
  rw [g1, g2, g3, n0, n1, n2, n3, n4, n5, n6, n7, n8, n9, a2, a4]
 refine ⟨?_, hf⟩
 unfold bodyE
 rw [if_neg (by omega), if_neg (by rw [g0, hwt]; intro hh; rcases hh with hh | hh; exact hh rfl; omega), if_neg (by rw [a1]; exact fun h => h rfl), if_neg (by rw [a3]; exact fun h => h rfl), hf, if_pos ⟨a5, h⟩]
theorem bodyE_facts {t : List UInt8} (h : bodyE t = 0) : 25 ≤ t.length ∧ t.getD 0 0 = 197 ∧ withF t ≤ 3 ∧ pE t = 0 ∧ eE t = 0 ∧ eRest t = [] ∧ rightF (frameD t) = true := by
 unfold bodyE at h
 by_cases h1 : t.length < 25
 ·rw [if_pos h1] at h; omega
 rw [if_neg h1] at h
 by_cases h2 : t.getD 0 0 ≠ 197 ∨ 3 < withF t
 ·rw [if_pos h2] at h; omega
 rw [if_neg h2] at h
 by_cases h3 : pE t ≠ 0
 ·rw [if_pos h3] at h; exact absurd h h3
 rw [if_neg h3] at h
 by_cases h4 : eE t ≠ 0
 ·rw [if_pos h4] at h; exact absurd h h4
 rw [if_neg h4] at h
 by_cases h5 : eRest t = [] ∧ rightF (frameD t) = true
 ·refine ⟨by omega, ?_, by omega, ?_, ?_, h5.1, h5.2⟩
  ·by_cases hh : t.getD 0 0 = 197
   ·exact hh
   ·exact absurd (.inl hh) h2
  ·by_cases hh : pE t = 0
   ·exact hh
   ·exact absurd hh h3
  ·by_cases hh : eE t = 0
   ·exact hh
   ·exact absurd hh h4
 ·rw [if_neg h5] at h; omega
theorem twos_row (t : List UInt8) (a : Nat) : ∀ k, a + 2 * k ≤ t.length → twosL ((List.range k).map fun i => pairL t (a + 2 * i)) = (t.drop a).take (2 * k)
 | 0, _ => by simp [twosL]
 | k + 1, h => by
  rw [List.range_succ, List.map_append, List.map_singleton, twosL_snoc, twos_row t a k (by omega), two_pair t _ (by omega), show 2 * (k + 1) = 2 * k + 2 by omega]
  rw [show t.drop (a + 2 * k) = (t.drop a).drop (2 * k) by rw [List.drop_drop]]
  exact List.take_add.symm
theorem piece_enc {l : List UInt8} (h : F.decE l = 0) : F.rightP (F.decR l) = true ∧ F.encL (F.decR l) ++ (F.decRest l).data.toList = l := by
 obtain ⟨h1, h2⟩ := F.enc_dec h
 have hr : F.rightP (F.decR l) = true := by
  unfold F.encPE at h1
  by_cases hh : F.rightP (F.decR l) = true
  ·exact hh
  ·rw [if_neg hh] at h1; omega
 refine ⟨hr, ?_⟩
 have := congrArg (fun x : ByteArray => x.data.toList) h2
 rwa [F.app_data, F.encP_list hr] at this
theorem body_enc {t : List UInt8} (h : bodyE t = 0) : rightF (frameD t) = true ∧ bodyF (frameD t) = t := by
 obtain ⟨h1, h2, h3, h4, h5, h6, h7⟩ := bodyE_facts h
 refine ⟨h7, ?_⟩
 have hp : partsF (frameD t) = t.drop 25 := by
  show (pL t).flatMap F.encL ++ (eL t).flatMap encEnt = _
  have e1 : (pL t).flatMap F.encL ++ pRest t = t.drop 25 := by
   unfold pL pRest
   unfold pE at h4
   by_cases hh : hasP t = true
   ·rw [if_pos hh] at h4
    rw [if_pos hh, if_pos hh]
    have := (piece_enc h4).2
    simpa using this
   ·rw [if_neg hh, if_neg hh]; rfl
  have e2 : (eL t).flatMap encEnt = pRest t := by
   unfold eL
   unfold eE at h5
   unfold eRest at h6
   by_cases hh : hasE t = true
   ·rw [if_pos hh] at h5 h6
    rw [if_pos hh]
    have := (enc_decE h5).2
    rw [h6, List.append_nil] at this
    simpa using this
   ·rw [if_neg hh] at h6
    rw [if_neg hh, h6]; rfl
  rw [e2, e1]
 have hn : twosL (numsF (frameD t)) = (t.drop 4).take 20 := by
  have := twos_row t 4 10 (by omega)
  exact this
 have hw : withN (frameD t) = withF t := by
  show (pL t).length + 2 * (eL t).length = withF t
  unfold pL eL hasP hasE
  by_cases a : withF t % 2 = 1
  ·by_cases b : 2 ≤ withF t
   ·simp [a, b]; omega
   ·simp [a, b]; omega
  ·by_cases b : 2 ≤ withF t
   ·simp [a, b]; omega
   ·simp [a, b]; omega
 have ha : aheadF (frameD t) = t.take 4 := by
  match t, h1, h2 with
  | a :: b :: c :: d :: r, _, h2 =>
   have h2 : a = 197 := h2
   subst h2
   have ob : octet ((b.toNat : Nat) : Int) = b := octet_of_byte b _ (by have := b.toNat_lt; omega)
   have oc : octet ((c.toNat : Nat) : Int) = c := octet_of_byte c _ (by have := c.toNat_lt; omega)
   have od : octet (((d.toNat : Nat) : Int) - 1 + 1) = d := octet_of_byte d _ (by have := d.toNat_lt; omega)
   show [197, octet ((b.toNat : Nat) : Int), octet ((c.toNat : Nat) : Int), octet (((d.toNat : Nat) : Int) - 1 + 1)] = [197, b, c, d]
   rw [ob, oc, od]
 have ho : octet ((withF t : Nat) : Int) = t[24]'(by omega) := by
  have e1 : withF t = (t[24]'(by omega)).toNat := by
   unfold withF
   rw [getD_at (List.getElem?_eq_getElem (by omega : 24 < t.length))]
  rw [e1]
  exact octet_of_byte _ _ (by have := (t[24]'(by omega)).toNat_lt; omega)
 unfold bodyF
 rw [ha, hn, hw, ho, hp, ← List.drop_eq_getElem_cons (by omega)]
 have e3 : (t.drop 4).take 20 ++ t.drop 24 = t.drop 4 := by
  have := List.take_append_drop 20 (t.drop 4)
  rwa [List.drop_drop] at this
 rw [e3, List.take_append_drop]
end Go.Proofs.YtlhopgadhkjflaaGreatDoor
namespace Go.Proofs.YtlhopgadhkjflaaGreatDoor
open Go.RowKit
theorem piece_length (p : F.Pc) : (F.encL p).length = 5 + p.bytes.size := by
 unfold F.encL
 rw [List.length_append, ← Lib.size_eq]; rfl
theorem piece_cut {p : F.Pc} (h : F.rightP p = true) (q : Nat) (hq : q < (F.encL p).length) : F.decE ((F.encL p).take q) = 3 := by
 have hl := piece_length p
 have hb : p.bytes.size ≤ 16 := ((F.rightP_iff p).1 h).2.2.2.2
 unfold F.decE
 by_cases h5 : q < 5
 ·rw [if_pos (by rw [List.length_take]; omega)]
 ·have hN : F.decN ((F.encL p).take q) = p.bytes.size := by
   unfold F.decN
   rw [List.getD_eq_getElem?_getD, List.getElem?_take_of_lt (by omega), ← List.getD_eq_getElem?_getD]
   show (F.octet5 (p.bytes.size : Int)).toNat = _
   have := F.octet_nat (p.bytes.size : Int) (by omega) (by omega)
   omega
  rw [if_neg (by rw [List.length_take]; omega), hN, if_neg (by omega), if_pos (by rw [List.length_take]; omega)]
theorem with_le {f : Fr} (h : rightF f = true) : withN f ≤ 3 := by
 obtain ⟨-, -, -, -, -, hp, he⟩ := (rightF_iff f).1 h
 unfold withN
 rcases oneB_cases hp with e | ⟨p, e, -⟩ <;> rcases oneB_cases he with e' | ⟨x, e', -⟩ <;> rw [e, e'] <;> simp
theorem body_cut {f : Fr} (h : rightF f = true) (p : Nat) (hp : p < (bodyF f).length) : bodyE ((bodyF f).take p) = 3 := by
 have hl := bodyF_length f
 by_cases h25 : p < 25
 ·unfold bodyE
  rw [if_pos (by rw [List.length_take]; omega)]
 obtain ⟨-, -, -, -, -, hps, hes⟩ := (rightF_iff f).1 h
 obtain ⟨t, ht, hlen, g0, -, -, -, -, -, -, -, -, -, -, -, -, -, hwt, hd⟩ := head_dec h (withN f) (with_le h) ((partsF f).take (p - 25))
 have e : (bodyF f).take p = t := by
  rw [ht]
  unfold bodyF
  have ha := ahead_length f
  rw [← List.append_assoc, ← List.append_assoc, List.take_append, List.take_of_length_le (by omega), ha, show p - 24 = (p - 25) + 1 by omega, List.take_succ_cons]
 rw [e]
 have hq : p - 25 < (partsF f).length := by omega
 generalize p - 25 = q at *
 have hw3 := with_le h
 have key : pE t = 3 ∨ (pE t = 0 ∧ eE t = 3) := by
  unfold pE eE pRest hasP hasE
  rw [hwt, hd]
  unfold withN
  unfold partsF at hq ⊢
  rcases oneB_cases hps with e1 | ⟨pc, e1, hpr⟩
  ·rcases oneB_cases hes with e2 | ⟨x, e2, hxr⟩
   ·rw [e1, e2] at hq; simp at hq
   ·rw [e1, e2] at hq ⊢
    have hq' : q < (encEnt x).length := by simpa using hq
    have := dec_cutE hxr q hq'
    right
    simp [this]
  ·by_cases hqp : q < (F.encL pc).length
   ·left
    have h3 := piece_cut hpr q hqp
    have hm : (f.ps.length + 2 * f.es.length) % 2 = 1 := by rw [e1]; simp
    rw [e1, List.flatMap_singleton, List.take_append_of_le_length (by omega), h3]
    rw [e1] at hm
    simp only [hm]
    simp
   ·right
    rcases oneB_cases hes with e2 | ⟨x, e2, hxr⟩
    ·rw [e1, e2] at hq; simp at hq; omega
    ·rw [e1, e2] at hq ⊢
     have hq' : q - (F.encL pc).length < (encEnt x).length := by simp at hq; omega
     have h3 := dec_cutE hxr _ hq'
     obtain ⟨d1, d2, d3⟩ := F.dec_enc hpr ((encEnt x).take (q - (F.encL pc).length))
     have et : (List.flatMap F.encL [pc] ++ List.flatMap encEnt [x]).take q = F.encL pc ++ (encEnt x).take (q - (F.encL pc).length) := by
      rw [List.flatMap_singleton, List.flatMap_singleton, List.take_append, List.take_of_length_le (by omega)]
     rw [et]
     simp [d1, d3, F.txt, h3]
 unfold bodyE
 rw [if_neg (by omega), if_neg (by rw [g0, hwt]; intro hh; rcases hh with hh | hh; exact hh rfl; omega)]
 rcases key with k | ⟨k1, k2⟩
 ·rw [if_pos (by rw [k]; decide), k]
 ·rw [if_neg (by rw [k1]; exact fun h => h rfl), if_pos (by rw [k2]; decide), k2]
theorem body_more {f : Fr} (h : rightF f = true) (x : List UInt8) (hx : x ≠ []) : bodyE (bodyF f ++ x) = 2 := by
 obtain ⟨-, -, -, -, -, hps, hes⟩ := (rightF_iff f).1 h
 obtain ⟨t, ht, hlen, g0, -, -, -, -, -, -, -, -, -, -, -, -, -, hwt, hd⟩ := head_dec h (withN f) (with_le h) (partsF f ++ x)
 have e : bodyF f ++ x = t := by
  rw [ht]
  unfold bodyF
  simp
 rw [e]
 have hw3 := with_le h
 have key : pE t = 0 ∧ eE t = 0 ∧ eRest t = x := by
  unfold eRest pE eE pRest hasP hasE
  rw [hwt, hd]
  unfold withN partsF
  rcases oneB_cases hps with e1 | ⟨pc, e1, hpr⟩
  ·rcases oneB_cases hes with e2 | ⟨y, e2, hyr⟩
   ·rw [e1, e2]; simp
   ·obtain ⟨d1, d2, d3⟩ := dec_encE hyr x
    rw [e1, e2]; simp [d1, d3]
  ·rcases oneB_cases hes with e2 | ⟨y, e2, hyr⟩
   ·obtain ⟨d1, d2, d3⟩ := F.dec_enc hpr x
    rw [e1, e2]; simp [d1, d3, F.txt]
   ·obtain ⟨d1, d2, d3⟩ := F.dec_enc hpr (encEnt y ++ x)
    obtain ⟨c1, c2, c3⟩ := dec_encE hyr x
    rw [e1, e2]; simp [d1, d3, F.txt, c1, c3]
 obtain ⟨k1, k2, k3⟩ := key
 unfold bodyE
 rw [if_neg (by omega), if_neg (by rw [g0, hwt]; intro hh; rcases hh with hh | hh; exact hh rfl; omega), if_neg (by rw [k1]; exact fun h => h rfl), if_neg (by rw [k2]; exact fun h => h rfl), if_neg (by rw [k3]; exact fun h => hx h.1)]
end Go.Proofs.YtlhopgadhkjflaaGreatDoor

/-
  Plain facts on a sum of sixteen bits (polynomial 4129): linear, in parts, and told by each burst of at most sixteen bits. No program in sight.
-/

namespace Go.Proofs.YtmmbnjkdknnidaaGreatDoor.V
def md (v : Int) : Nat := (v % 65536).toNat
theorem md_lt (v : Int) : md v < 65536 := by unfold md; omega
theorem md_nat (m : Nat) (h : m < 65536) : md (m : Int) = m := by unfold md; omega
theorem md_cast (v : Int) : ((md v : Nat) : Int) = v % 65536 := by unfold md; omega
def nodeB (n : Int) : Bool := decide (0 ≤ n) && decide (n ≤ 15)
theorem nodeB_iff (n : Int) : nodeB n = true ↔ 0 ≤ n ∧ n ≤ 15 := by unfold nodeB; simp
theorem nodeB_no (n : Int) : nodeB n = false ↔ n < 0 ∨ 15 < n := by
 rw [← Bool.not_eq_true, nodeB_iff]; omega
theorem nodeB_nat (k : Nat) (h : k < 16) : nodeB (k : Int) = true := (nodeB_iff _).2 ⟨by omega, by omega⟩
def bitI (n : Int) : Int := if nodeB n then ((2 ^ n.toNat : Nat) : Int) else 0
def hasB (v n : Int) : Bool := nodeB n && (md v).testBit n.toNat
def withI (v n : Int) : Int := ((if nodeB n then md v ||| 2 ^ n.toNat else md v : Nat) : Int)
def allN (n : Int) : Nat := 2 ^ (min (max n 0) 16).toNat - 1
def allI (n : Int) : Int := (allN n : Int)
def cb (m : Nat) : Nat → Nat
 | 0 => 0
 | n + 1 => cb m n + (m.testBit n).toNat
def countI (v : Int) : Int := (cb (md v) 16 : Int)
def below (m k : Nat) : List Int := ((List.range k).filter m.testBit).map fun n : Nat => (n : Int)
def listI (v : Int) : List Int := below (md v) 16
def ofI (l : List Int) : Int := l.foldl withI 0
theorem two_pow_lt (k : Nat) (h : k < 16) : 2 ^ k < 65536 := Nat.pow_lt_pow_right (a := 2) (n := 16) (by omega) h
theorem below_hit (m k : Nat) (h : m.testBit k = true) : below m (k + 1) = below m k ++ [(k : Int)] := by
 unfold below
 rw [List.range_succ, List.filter_append, List.map_append]
 simp [h]
theorem below_miss (m k : Nat) (h : m.testBit k = false) : below m (k + 1) = below m k := by
 unfold below
 rw [List.range_succ, List.filter_append, List.map_append]
 simp [h]
theorem below_length (m k : Nat) : (below m k).length = cb m k := by
 induction k with
 | zero => rfl
 | succ k ih =>
  show _ = cb m k + (m.testBit k).toNat
  cases h : m.testBit k
  ·rw [below_miss m k h, ih]; rfl
  ·rw [below_hit m k h, List.length_append, ih]; rfl
theorem cb_le (m k : Nat) : cb m k ≤ k := by
 induction k with
 | zero => exact Nat.le_refl _
 | succ k ih =>
  show cb m k + (m.testBit k).toNat ≤ k + 1
  have := Bool.toNat_le (m.testBit k)
  omega
theorem below_pre (m k j : Nat) (h : k ≤ j) : below m k <+: below m j := by
 induction j with
 | zero =>
  have e : k = 0 := by omega
  rw [e]; exact List.prefix_refl _
 | succ j ih =>
  rcases Nat.eq_or_lt_of_le h with e | e
  ·subst e; exact List.prefix_refl _
  ·refine (ih (by omega)).trans ?_
   cases hb : m.testBit j
   ·rw [below_miss m j hb]; exact List.prefix_refl _
   ·rw [below_hit m j hb]; exact List.prefix_append _ _
theorem mem_below (m k : Nat) (x : Int) : x ∈ below m k ↔ ∃ n : Nat, n < k ∧ m.testBit n = true ∧ x = (n : Int) := by
 unfold below
 rw [List.mem_map]
 constructor
 ·rintro ⟨n, hn, rfl⟩
  rw [List.mem_filter, List.mem_range] at hn
  exact ⟨n, hn.1, hn.2, rfl⟩
 ·rintro ⟨n, h1, h2, rfl⟩
  exact ⟨n, by rw [List.mem_filter, List.mem_range]; exact ⟨h1, h2⟩, rfl⟩
theorem below_room (m k : Nat) (hk : k < 16) (hit : m.testBit k = true) : (below m k).length < (below m 16).length := by
 have h := (below_pre m (k + 1) 16 (by omega)).length_le
 rw [below_hit m k hit, List.length_append, List.length_singleton] at h
 omega
theorem high_bit (m i : Nat) (h : m < 65536) (hi : 16 ≤ i) : m.testBit i = false :=
 Nat.testBit_lt_two_pow (Nat.lt_of_lt_of_le h (Nat.pow_le_pow_right (n := 2) (by omega) hi))
theorem vec_ext (a b : Nat) (ha : a < 65536) (hb : b < 65536) (h : ∀ i, i < 16 → a.testBit i = b.testBit i) : a = b := by
 apply Nat.eq_of_testBit_eq
 intro i
 rcases Nat.lt_or_ge i 16 with hi | hi
 ·exact h i hi
 ·rw [high_bit a i ha hi, high_bit b i hb hi]
theorem or_lt (a b : Nat) (ha : a < 65536) (hb : b < 65536) : a ||| b < 65536 := Nat.or_lt_two_pow (n := 16) ha hb
theorem and_lt (a b : Nat) (hb : b < 65536) : a &&& b < 65536 := Nat.lt_of_le_of_lt Nat.and_le_right hb
theorem withI_nat (v n : Int) : ∃ m : Nat, m < 65536 ∧ withI v n = (m : Int) ∧ ∀ i, i < 16 → m.testBit i = ((md v).testBit i || (nodeB n && decide (i = n.toNat))) := by
 unfold withI
 cases h : nodeB n
 ·refine ⟨md v, md_lt v, by simp, fun i _ => by simp⟩
 ·obtain ⟨h0, h1⟩ := (nodeB_iff n).1 h
  refine ⟨md v ||| 2 ^ n.toNat, or_lt _ _ (md_lt v) (two_pow_lt _ (by omega)), by simp, fun i _ => ?_⟩
  rw [Nat.testBit_or, Nat.testBit_two_pow]
  simp [eq_comm]
theorem md_with (v n : Int) (i : Nat) (hi : i < 16) : (md (withI v n)).testBit i = ((md v).testBit i || (nodeB n && decide (i = n.toNat))) := by
 obtain ⟨m, h1, h2, h3⟩ := withI_nat v n
 rw [h2, md_nat m h1, h3 i hi]
theorem allN_lt (n : Int) : allN n < 65536 := by
 unfold allN
 have h : 2 ^ (min (max n 0) 16).toNat ≤ 2 ^ 16 := Nat.pow_le_pow_right (by omega) (by omega)
 have h2 : 0 < 2 ^ (min (max n 0) 16).toNat := Nat.pow_pos (by omega)
 omega
theorem md_all (n : Int) (i : Nat) (hi : i < 16) : (md (allI n)).testBit i = decide ((i : Int) < n) := by
 unfold allI
 rw [md_nat _ (allN_lt n)]
 unfold allN
 rw [Nat.testBit_two_pow_sub_one, decide_eq_decide]
 omega
theorem cb_congr (a b n : Nat) (h : ∀ i, i < n → a.testBit i = b.testBit i) : cb a n = cb b n := by
 induction n with
 | zero => rfl
 | succ n ih =>
  show cb a n + _ = cb b n + _
  rw [ih fun i hi => h i (by omega), h n (by omega)]
theorem cb_cut (m k n : Nat) (hk : k ≤ n) (x : Nat) (h : ∀ i, i < n → x.testBit i = (m.testBit i && decide (i < k))) : cb x n = cb m k := by
 induction n with
 | zero =>
  have e : k = 0 := by omega
  rw [e]; rfl
 | succ n ih =>
  show cb x n + _ = _
  rcases Nat.eq_or_lt_of_le hk with e | e
  ·rw [e]
   show _ = cb m n + _
   rw [h n (by omega), cb_congr x m n fun i hi => by rw [h i (by omega)]; simp; omega]
   simp [e]
  ·rw [ih (by omega) fun i hi => h i (by omega), h n (by omega)]
   have : decide (n < k) = false := by simp; omega
   rw [this]; simp
theorem ofI_bits (l : List Int) (v : Int) (i : Nat) (hi : i < 16) : (md (l.foldl withI v)).testBit i = ((md v).testBit i || l.any fun n => nodeB n && decide (i = n.toNat)) := by
 induction l generalizing v with
 | nil => simp
 | cons n l ih =>
  rw [List.foldl_cons, ih, md_with v n i hi, List.any_cons, Bool.or_assoc]
theorem ofI_snoc (l : List Int) (n : Int) : ofI (l ++ [n]) = withI (ofI l) n := by unfold ofI; rw [List.foldl_append]; rfl
theorem md_of_list (l : List Int) (i : Nat) (hi : i < 16) : (md (ofI l)).testBit i = l.any fun n => nodeB n && decide (i = n.toNat) := by
 unfold ofI
 rw [ofI_bits l 0 i hi]
 have : (md 0) = 0 := rfl
 rw [this, Nat.zero_testBit, Bool.false_or]
end Go.Proofs.YtmmbnjkdknnidaaGreatDoor.V
namespace Go.Proofs.YtmmbnjkdknnidaaGreatDoor.Crc16
def step (x : BitVec 16) (b : Bool) : BitVec 16 := (x <<< 1) ^^^ (if x.msb != b then 4129#16 else 0#16)
def feed (x : BitVec 16) (l : List Bool) : BitVec 16 := l.foldl step x
theorem step_xor (x y : BitVec 16) (b c : Bool) : step (x ^^^ y) (b ^^ c) = step x b ^^^ step y c := by
 unfold step
 rw [BitVec.shiftLeft_xor_distrib, BitVec.msb_xor]
 have q1 : ∀ a p q : BitVec 16, a ^^^ (p ^^^ (q ^^^ p)) = a ^^^ q := fun a p q => by rw [BitVec.xor_comm q p, ← BitVec.xor_assoc p p q, BitVec.xor_self, BitVec.zero_xor]
 have q2 : ∀ p q : BitVec 16, p ^^^ q ^^^ 4129#16 = p ^^^ 4129#16 ^^^ q := fun p q => by rw [BitVec.xor_assoc, BitVec.xor_comm q, BitVec.xor_assoc]
 have q3 : ∀ p q : BitVec 16, p ^^^ q = p ^^^ 4129#16 ^^^ (q ^^^ 4129#16) := fun p q => by rw [BitVec.xor_assoc, q1]
 have q4 : ∀ p q : BitVec 16, p ^^^ q ^^^ 4129#16 = p ^^^ (q ^^^ 4129#16) := fun p q => by rw [BitVec.xor_assoc]
 cases x.msb <;> cases y.msb <;> cases b <;> cases c <;> simp <;> first | exact q2 _ _ | exact q3 _ _ | exact q4 _ _
theorem feed_xor (l m : List Bool) (h : l.length = m.length) : ∀ x y, feed (x ^^^ y) (List.zipWith (· ^^ ·) l m) = feed x l ^^^ feed y m := by
 induction l generalizing m with
 | nil => cases m with
  | nil => intro x y; rfl
  | cons _ _ => simp at h
 | cons b l ih => cases m with
  | nil => simp at h
  | cons c m =>
   intro x y
   simp only [List.zipWith_cons_cons, feed, List.foldl_cons]
   rw [step_xor]
   exact ih m (by simpa using h) _ _
theorem feed_append (x : BitVec 16) (l m : List Bool) : feed x (l ++ m) = feed (feed x l) m := by
 simp [feed]
theorem step_zero : step 0#16 false = 0#16 := by decide
theorem feed_zeros (n : Nat) : feed 0#16 (List.replicate n false) = 0#16 := by
 induction n with
 | zero => rfl
 | succ n ih => rw [List.replicate_succ]; simp only [feed, List.foldl_cons]; rw [step_zero]; exact ih
theorem step_inj0 (x : BitVec 16) (h : step x false = 0#16) : x = 0#16 := by
 unfold step at h
 by_cases hm : x.msb = true
 ·exfalso
  have h0 : ((x <<< 1) ^^^ (if (x.msb != false) = true then 4129#16 else 0#16)).getLsbD 0 = (0#16).getLsbD 0 := by rw [h]
  rw [hm] at h0
  simp at h0
 ·have hm' : x.msb = false := by simpa using hm
  rw [hm'] at h
  simp at h
  apply BitVec.eq_of_toNat_eq
  have h2 : (x <<< 1).toNat = 0 := by rw [h]; rfl
  have h3 : x.toNat < 32768 := by
   rw [BitVec.msb_eq_decide] at hm'
   simpa using hm'
  rw [BitVec.toNat_shiftLeft] at h2
  simp [Nat.shiftLeft_eq] at h2
  simp
  omega
theorem feed_zeros_inj (n : Nat) : ∀ x : BitVec 16, feed x (List.replicate n false) = 0#16 → x = 0#16 := by
 induction n with
 | zero => intro x h; simpa [feed] using h
 | succ n ih =>
  intro x h
  rw [List.replicate_succ] at h
  simp only [feed, List.foldl_cons] at h
  exact step_inj0 _ (ih _ h)
def place : List Bool → BitVec 16
 | [] => 0#16
 | b :: l => (if b then 32768#16 else 0#16) ^^^ (place l >>> 1)
theorem place_low (l : List Bool) : ∀ i, i + l.length < 16 → (place l).getLsbD i = false := by
 induction l with
 | nil => intro i _; simp [place]
 | cons b l ih =>
  intro i hi
  simp only [List.length_cons] at hi
  have h1 : (place l >>> 1).getLsbD i = false := by
   rw [BitVec.getLsbD_ushiftRight]
   exact ih _ (by omega)
  have h2 : (if b then 32768#16 else 0#16).getLsbD i = false := by
   cases b
   ·simp
   ·simp only [if_true]
    have h3 : (32768#16) = BitVec.twoPow 16 15 := by decide
    rw [h3, BitVec.getLsbD_twoPow]
    simp
    omega
  rw [place, BitVec.getLsbD_xor, h1, h2]; rfl
theorem shr_shl (x : BitVec 16) (h : x.getLsbD 0 = false) : (x >>> 1) <<< 1 = x := by
 apply BitVec.eq_of_getLsbD_eq
 intro i hi
 rw [BitVec.getLsbD_shiftLeft, BitVec.getLsbD_ushiftRight]
 by_cases h0 : i = 0
 ·subst h0; rw [h]; simp
 ·have : 1 + (i - 1) = i := by omega
  rw [this]
  simp [hi]
  omega
theorem msb_shr (x : BitVec 16) : (x >>> 1).msb = false := by
 rw [BitVec.msb_eq_getLsbD_last, BitVec.getLsbD_ushiftRight]
 simp
theorem step_place (b : Bool) (l : List Bool) (h : l.length ≤ 15) : step (place (b :: l)) b = place l := by
 have hl := place_low l 0 (by omega)
 have hs := shr_shl _ hl
 unfold step
 rw [place, BitVec.msb_xor, msb_shr, BitVec.shiftLeft_xor_distrib, hs]
 cases b
 ·simp
 ·have e1 : (32768#16) <<< 1 = 0#16 := by decide
  have e2 : (32768#16).msb = true := by decide
  simp [e1, e2]
theorem feed_place (l : List Bool) : ∀ x, l.length ≤ 16 → feed x l = feed (x ^^^ place l) (List.replicate l.length false) := by
 induction l with
 | nil => intro x _; simp [feed, place]
 | cons b l ih =>
  intro x h
  simp only [List.length_cons] at h
  rw [List.length_cons, List.replicate_succ]
  have e : step (x ^^^ place (b :: l)) false = step x b ^^^ place l := by
   have : false = (b ^^ b) := by simp
   rw [this, step_xor, step_place b l (by omega)]
  show feed (step x b) l = feed (step (x ^^^ place (b :: l)) false) (List.replicate l.length false)
  rw [e]
  exact ih _ (by omega)
theorem place_zero (l : List Bool) (h : l.length ≤ 16) (hz : place l = 0#16) : ∀ b ∈ l, b = false := by
 induction l with
 | nil => intro b hb; cases hb
 | cons c l ih =>
  simp only [List.length_cons] at h
  have hc : c = false := by
   have hm : (place (c :: l)).msb = c := by
    rw [place, BitVec.msb_xor, msb_shr]
    cases c
    ·simp
    ·have e2 : (32768#16).msb = true := by decide
     simp [e2]
   rw [hz] at hm
   simpa using hm.symm
  have hp : place l = 0#16 := by
   have := step_place c l (by omega)
   rw [hz, hc, step_zero] at this
   exact this.symm
  intro b hb
  rcases List.mem_cons.1 hb with rfl | hb
  ·exact hc
  ·exact ih (by omega) hp b hb
theorem feed_burst (a b : Nat) (l : List Bool) (hl : l.length ≤ 16) (ht : true ∈ l) :
  feed 0#16 (List.replicate a false ++ (l ++ List.replicate b false)) ≠ 0#16 := by
 intro h
 rw [feed_append, feed_zeros, feed_append] at h
 have h1 := feed_zeros_inj _ _ h
 rw [feed_place l _ hl] at h1
 have h2 := feed_zeros_inj _ _ h1
 rw [BitVec.zero_xor] at h2
 have h3 := place_zero l hl h2 true ht
 cases h3
def bits (c : UInt8) : List Bool := (List.range 8).map fun i => c.toNat.testBit (7 - i)
def bitsOf (s : List UInt8) : List Bool := s.flatMap bits
def addB (x : BitVec 16) (c : UInt8) : BitVec 16 := feed x (bits c)
def add (x : BitVec 16) (s : List UInt8) : BitVec 16 := s.foldl addB x
def sum (s : List UInt8) : BitVec 16 := add 65535#16 s
theorem bits_length (c : UInt8) : (bits c).length = 8 := by simp [bits]
theorem bitsOf_length (s : List UInt8) : (bitsOf s).length = 8 * s.length := by
 induction s with
 | nil => rfl
 | cons c s ih => simp only [bitsOf, List.flatMap_cons, List.length_append, bits_length, List.length_cons] at *; rw [ih]; omega
theorem add_feed (s : List UInt8) : ∀ x, add x s = feed x (bitsOf s) := by
 induction s with
 | nil => intro x; rfl
 | cons c s ih =>
  intro x
  simp only [add, List.foldl_cons, bitsOf, List.flatMap_cons]
  rw [feed_append]
  exact ih _
theorem add_append (x : BitVec 16) (s t : List UInt8) : add x (s ++ t) = add (add x s) t := by simp [add]
theorem bits_xor (a b : UInt8) : bits (a ^^^ b) = List.zipWith (· ^^ ·) (bits a) (bits b) := by
 simp [bits, List.range_succ, Nat.testBit_xor]
def hi (r : BitVec 16) : UInt8 := UInt8.ofNat (r.toNat / 256)
def lo (r : BitVec 16) : UInt8 := UInt8.ofNat r.toNat
def tail (s : List UInt8) : List UInt8 := [hi (sum s), lo (sum s)]
def close (s : List UInt8) : List UInt8 := s ++ tail s
theorem place_get (l : List Bool) : ∀ i, i < 16 → (place l).getLsbD i = l.getD (15 - i) false := by
 induction l with
 | nil => intro i _; simp [place]
 | cons b l ih =>
  intro i h
  rw [place, BitVec.getLsbD_xor, BitVec.getLsbD_ushiftRight]
  have h3 : (32768#16) = BitVec.twoPow 16 15 := by decide
  by_cases hi : i = 15
  ·subst hi
   rw [BitVec.getLsbD_of_ge (place l) (1 + 15) (by omega)]
   cases b <;> rfl
  ·rw [show 1 + i = i + 1 from by omega, ih (i + 1) (by omega), show 15 - i = (15 - (i + 1)) + 1 from by omega, List.getD_cons_succ]
   have : (if b then 32768#16 else 0#16).getLsbD i = false := by
    cases b
    ·simp
    ·simp [h3, BitVec.getLsbD_twoPow]; omega
   rw [this]; simp
theorem hi_toNat (r : BitVec 16) : (hi r).toNat = r.toNat / 256 := by
 have := r.isLt
 simp [hi]
 omega
theorem lo_toNat (r : BitVec 16) : (lo r).toNat = r.toNat % 256 := by
 simp [lo]
theorem bits_eq (c : UInt8) : bits c = [c.toNat.testBit 7, c.toNat.testBit 6, c.toNat.testBit 5, c.toNat.testBit 4, c.toNat.testBit 3, c.toNat.testBit 2, c.toNat.testBit 1, c.toNat.testBit 0] := by
 simp [bits, List.range_succ]
theorem place_two (r : BitVec 16) : place (bits (hi r) ++ bits (lo r)) = r := by
 apply BitVec.eq_of_getLsbD_eq
 intro i hi'
 rw [place_get _ _ hi', bits_eq, bits_eq, hi_toNat, lo_toNat]
 have h1 : ∀ j, (r.toNat / 256).testBit j = r.getLsbD (8 + j) := fun j => by
  show (r.toNat / 2 ^ 8).testBit j = _
  rw [Nat.testBit_div_two_pow, BitVec.getLsbD, Nat.add_comm]
 have h2 : ∀ j, j < 8 → (r.toNat % 256).testBit j = r.getLsbD j := fun j hj => by
  show (r.toNat % 2 ^ 8).testBit j = _
  rw [Nat.testBit_mod_two_pow]
  simp [hj, BitVec.getLsbD]
 rw [h1, h1, h1, h1, h1, h1, h1, h1, h2 7 (by omega), h2 6 (by omega), h2 5 (by omega), h2 4 (by omega), h2 3 (by omega), h2 2 (by omega), h2 1 (by omega), h2 0 (by omega)]
 have hc : i = 0 ∨ i = 1 ∨ i = 2 ∨ i = 3 ∨ i = 4 ∨ i = 5 ∨ i = 6 ∨ i = 7 ∨ i = 8 ∨ i = 9 ∨ i = 10 ∨ i = 11 ∨ i = 12 ∨ i = 13 ∨ i = 14 ∨ i = 15 := by omega
 rcases hc with rfl | rfl | rfl | rfl | rfl | rfl | rfl | rfl | rfl | rfl | rfl | rfl | rfl | rfl | rfl | rfl <;> rfl
theorem feed_two (r : BitVec 16) : add r [hi r, lo r] = 0#16 := by
 rw [add_feed]
 have e : bitsOf [hi r, lo r] = bits (hi r) ++ bits (lo r) := by simp [bitsOf]
 have hl : (bits (hi r) ++ bits (lo r)).length = 16 := by rw [List.length_append, bits_length, bits_length]
 rw [e, feed_place _ _ (by omega), place_two, BitVec.xor_self, feed_zeros]
theorem sum_close (s : List UInt8) : sum (close s) = 0#16 := by
 unfold close sum
 rw [add_append]
 exact feed_two _
def turnB (c : UInt8) (j : Nat) : UInt8 := c ^^^ UInt8.ofNat (128 / 2 ^ j)
def turn (s : List UInt8) (k : Nat) : List UInt8 := s.modify (k / 8) (turnB · (k % 8))
def burstTo (s : List UInt8) (at' m : Nat) : Nat → List UInt8
 | 0 => s
 | n + 1 => if m.testBit (15 - n) then turn (burstTo s at' m n) (at' + n) else burstTo s at' m n
def burst (s : List UInt8) (at' m : Nat) : List UInt8 := burstTo s at' m 16
theorem turn_length (s : List UInt8) (k : Nat) : (turn s k).length = s.length := by simp [turn]
theorem burstTo_length (s : List UInt8) (at' m n : Nat) : (burstTo s at' m n).length = s.length := by
 induction n with
 | zero => rfl
 | succ n ih =>
  unfold burstTo
  split
  ·rw [turn_length, ih]
  ·exact ih
theorem bits_unit (j : Nat) (h : j < 8) : bits (UInt8.ofNat (128 / 2 ^ j)) = (List.range 8).map fun i => decide (i = j) := by
 have hc : j = 0 ∨ j = 1 ∨ j = 2 ∨ j = 3 ∨ j = 4 ∨ j = 5 ∨ j = 6 ∨ j = 7 := by omega
 rcases hc with rfl | rfl | rfl | rfl | rfl | rfl | rfl | rfl <;> decide
theorem bits_get (c : UInt8) (i : Nat) (h : i < 8) : (bits c)[i]? = some (c.toNat.testBit (7 - i)) := by
 simp [bits, h]
theorem bits_turnB (c : UInt8) (j i : Nat) (h : j < 8) (hi : i < 8) : (bits (turnB c j))[i]? = some (c.toNat.testBit (7 - i) ^^ decide (i = j)) := by
 unfold turnB
 rw [bits_xor, bits_unit j h, List.getElem?_zipWith, bits_get c i hi]
 simp [hi]
theorem bitsOf_get (s : List UInt8) : ∀ j, (bitsOf s)[j]? = (s[j / 8]?).map fun c => c.toNat.testBit (7 - j % 8) := by
 induction s with
 | nil => intro j; simp [bitsOf]
 | cons c s ih =>
  intro j
  have e : bitsOf (c :: s) = bits c ++ bitsOf s := by simp [bitsOf]
  rw [e]
  by_cases hj : j < 8
  ·rw [List.getElem?_append_left (by rw [bits_length]; exact hj), bits_get c j hj, show j / 8 = 0 from by omega, show j % 8 = j from by omega]
   rfl
  ·rw [List.getElem?_append_right (by rw [bits_length]; omega), bits_length, ih, show j / 8 = (j - 8) / 8 + 1 from by omega, show j % 8 = (j - 8) % 8 from by omega, List.getElem?_cons_succ]
theorem testBit_turnB (c : UInt8) (k j : Nat) : (turnB c (k % 8)).toNat.testBit (7 - j % 8) = (c.toNat.testBit (7 - j % 8) ^^ decide (j % 8 = k % 8)) := by
 have h := bits_turnB c (k % 8) (j % 8) (by omega) (by omega)
 rw [bits_get _ _ (by omega)] at h
 simpa using h
theorem bitsOf_turn (s : List UInt8) (k j : Nat) : (bitsOf (turn s k))[j]? = ((bitsOf s)[j]?).map (· ^^ decide (j = k)) := by
 rw [bitsOf_get, bitsOf_get, turn, List.getElem?_modify]
 cases s[j / 8]? with
 | none => rfl
 | some c =>
  by_cases h : k / 8 = j / 8
  ·simp only [if_pos h, Option.map_eq_map, Option.map_some, testBit_turnB]
   by_cases h2 : j % 8 = k % 8
   ·rw [decide_eq_true h2, decide_eq_true (by omega : j = k)]
   ·rw [decide_eq_false h2, decide_eq_false (by omega : ¬ j = k)]
  ·simp only [if_neg h, Option.map_eq_map, Option.map_some]
   rw [decide_eq_false (by intro e; subst e; exact h rfl : ¬ j = k)]
   simp
def pat (at' m n j : Nat) : Bool := decide (at' ≤ j ∧ j < at' + n) && m.testBit (15 - (j - at'))
theorem bitsOf_burstTo (s : List UInt8) (at' m n j : Nat) : (bitsOf (burstTo s at' m n))[j]? = ((bitsOf s)[j]?).map (· ^^ pat at' m n j) := by
 induction n with
 | zero =>
  have : pat at' m 0 j = false := by simp [pat]; omega
  rw [this]
  simp [burstTo]
 | succ n ih =>
  unfold burstTo
  by_cases hm : m.testBit (15 - n) = true
  ·rw [if_pos hm, bitsOf_turn, ih, Option.map_map]
   congr 1
   funext b
   simp only [Function.comp]
   by_cases hj : j = at' + n
   ·subst hj
    have e1 : pat at' m n (at' + n) = false := by simp [pat]
    have e2 : pat at' m (n + 1) (at' + n) = true := by
     unfold pat
     rw [show at' + n - at' = n from by omega, hm]
     simp
    rw [e1, e2]; simp
   ·have e1 : pat at' m (n + 1) j = pat at' m n j := by
     unfold pat
     congr 2
     apply propext
     omega
    rw [e1, decide_eq_false hj]; simp
  ·rw [if_neg hm, ih]
   congr 1
   funext b
   by_cases hj : j = at' + n
   ·subst hj
    have e1 : pat at' m n (at' + n) = false := by simp [pat]
    have e2 : pat at' m (n + 1) (at' + n) = false := by
     unfold pat
     rw [show at' + n - at' = n from by omega]
     simp [hm]
    rw [e1, e2]
   ·have e1 : pat at' m (n + 1) j = pat at' m n j := by
     unfold pat
     congr 2
     apply propext
     omega
    rw [e1]
theorem byte_ext (a b : UInt8) (h : ∀ i, i < 8 → a.toNat.testBit (7 - i) = b.toNat.testBit (7 - i)) : a = b := by
 apply UInt8.toNat_inj.1
 apply Nat.eq_of_testBit_eq
 intro i
 by_cases hi : i < 8
 ·have := h (7 - i) (by omega)
  rwa [show 7 - (7 - i) = i from by omega] at this
 ·have h8 : (2 : Nat) ^ 8 ≤ 2 ^ i := Nat.pow_le_pow_right (by omega) (by omega)
  rw [Nat.testBit_lt_two_pow (by have := a.toNat_lt; omega), Nat.testBit_lt_two_pow (by have := b.toNat_lt; omega)]
theorem bitsOf_inj (s t : List UInt8) (h : ∀ j : Nat, (bitsOf s)[j]? = (bitsOf t)[j]?) : s = t := by
 have hl : s.length = t.length := by
  have e : (bitsOf s).length = (bitsOf t).length := by
   have := List.ext_getElem? h
   rw [this]
  rw [bitsOf_length, bitsOf_length] at e
  omega
 apply List.ext_getElem?
 intro i
 by_cases hi : i < s.length
 ·have hi' : i < t.length := by omega
  rw [List.getElem?_eq_getElem hi, List.getElem?_eq_getElem hi']
  congr 1
  apply byte_ext
  intro b hb
  have := h (8 * i + b)
  rw [bitsOf_get, bitsOf_get, show (8 * i + b) / 8 = i from by omega, show (8 * i + b) % 8 = b from by omega, List.getElem?_eq_getElem hi, List.getElem?_eq_getElem hi'] at this
  simpa using this
 ·rw [List.getElem?_eq_none (by omega), List.getElem?_eq_none (by omega)]
theorem parts (e : List Bool) (a : Nat) (h : ∀ j : Nat, j < a ∨ a + 16 ≤ j → e[j]? ≠ some true) :
  e = List.replicate (min a e.length) false ++ ((e.drop a).take 16 ++ List.replicate (e.length - a - 16) false) := by
 have h1 : e.take a = List.replicate (min a e.length) false := by
  apply List.eq_replicate_iff.2
  refine ⟨List.length_take, fun b hb => ?_⟩
  obtain ⟨i, hi, he⟩ := List.mem_iff_getElem.1 hb
  rw [List.length_take] at hi
  have := h i (by omega)
  rw [List.getElem?_eq_getElem (by omega)] at this
  rw [List.getElem_take] at he
  rw [he] at this
  cases b
  ·rfl
  ·exact absurd rfl this
 have h2 : e.drop (a + 16) = List.replicate (e.length - a - 16) false := by
  apply List.eq_replicate_iff.2
  refine ⟨by rw [List.length_drop]; omega, fun b hb => ?_⟩
  obtain ⟨i, hi, he⟩ := List.mem_iff_getElem.1 hb
  rw [List.length_drop] at hi
  have := h (a + 16 + i) (by omega)
  rw [List.getElem?_eq_getElem (by omega)] at this
  rw [List.getElem_drop] at he
  rw [he] at this
  cases b
  ·rfl
  ·exact absurd rfl this
 have h3 : (e.drop a).drop 16 = e.drop (a + 16) := by rw [List.drop_drop]
 rw [← h1, ← h2, ← h3, List.take_append_drop, List.take_append_drop]
theorem told (s t : List UInt8) (hl : s.length = t.length) (a : Nat) (h : ∀ j : Nat, j < a ∨ a + 16 ≤ j → (bitsOf s)[j]? = (bitsOf t)[j]?) (x : BitVec 16) (hs : add x s = add x t) : s = t := by
 have h0 : feed 0#16 (List.zipWith (· ^^ ·) (bitsOf s) (bitsOf t)) = 0#16 := by
  have := feed_xor (bitsOf s) (bitsOf t) (by rw [bitsOf_length, bitsOf_length, hl]) x x
  rw [← add_feed, ← add_feed, hs, BitVec.xor_self, BitVec.xor_self] at this
  exact this
 have hg : ∀ j : Nat, (List.zipWith (· ^^ ·) (bitsOf s) (bitsOf t))[j]? = some true → (bitsOf s)[j]? ≠ (bitsOf t)[j]? := by
  intro j hj he
  rw [List.getElem?_zipWith, he] at hj
  cases h : (bitsOf t)[j]? with
  | none => rw [h] at hj; cases hj
  | some b => rw [h] at hj; cases b <;> simp at hj
 have hp := parts (List.zipWith (· ^^ ·) (bitsOf s) (bitsOf t)) a (fun j hj he => hg j he (h j hj))
 have hnt : true ∉ (List.zipWith (· ^^ ·) (bitsOf s) (bitsOf t)) := by
  intro ht
  rw [hp] at h0
  refine feed_burst _ _ _ (by rw [List.length_take]; omega) ?_ h0
  rw [hp] at ht
  simp only [List.mem_append, List.mem_replicate] at ht
  rcases ht with ht | ht | ht
  ·simp at ht
  ·exact ht
  ·simp at ht
 apply bitsOf_inj
 intro j
 have hz : (List.zipWith (· ^^ ·) (bitsOf s) (bitsOf t))[j]? ≠ some true := fun he => hnt (List.mem_of_getElem? he)
 rw [List.getElem?_zipWith] at hz
 have hlen : (bitsOf s).length = (bitsOf t).length := by rw [bitsOf_length, bitsOf_length, hl]
 by_cases hj : j < (bitsOf s).length
 ·rw [List.getElem?_eq_getElem hj, List.getElem?_eq_getElem (by omega)] at *
  generalize (bitsOf s)[j] = p at *
  generalize (bitsOf t)[j]'(by omega) = q at *
  cases p <;> cases q <;> simp at *
 ·rw [List.getElem?_eq_none (by omega), List.getElem?_eq_none (by omega)]
theorem burst_told (s : List UInt8) (at' m : Nat) (x : BitVec 16) (h : add x (burst s at' m) = add x s) : burst s at' m = s := by
 refine told _ _ (burstTo_length ..) at' (fun j hj => ?_) x h
 unfold burst
 rw [bitsOf_burstTo]
 have : pat at' m 16 j = false := by
  unfold pat
  rw [decide_eq_false (by omega)]; rfl
 rw [this]
 simp
theorem close_of_sum (s : List UInt8) (hl : 2 ≤ s.length) : close (s.take (s.length - 2)) = s ↔ sum s = 0#16 := by
 constructor
 ·intro h
  rw [← h]
  exact sum_close _
 ·intro h
  refine told _ _ ?_ (8 * (s.length - 2)) (fun j hj => ?_) 65535#16 ((sum_close _).trans h.symm)
  ·simp [close, tail]; omega
  ·rw [bitsOf_get, bitsOf_get]
   rcases hj with hj | hj
   ·unfold close
    rw [List.getElem?_append_left (by simp; omega), List.getElem?_take, if_pos (by omega)]
   ·rw [List.getElem?_eq_none (by simp [close, tail]; omega), List.getElem?_eq_none (by omega)]
end Go.Proofs.YtmmbnjkdknnidaaGreatDoor.Crc16

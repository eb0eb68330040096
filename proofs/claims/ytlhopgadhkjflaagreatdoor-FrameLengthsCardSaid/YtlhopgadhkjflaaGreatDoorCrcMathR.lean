/-
  Plain facts on a sum of sixteen bits (polynomial 4129): linear, in parts, and told by each burst of at most sixteen bits. No program in sight.
-/

namespace Go.Proofs.YtlhopgadhkjflaaGreatDoor.V
def md (v : Int) : Nat := (v % 65536).toNat
theorem md_lt (v : Int) : md v < 65536 := by unfold md; omega
theorem md_nat (m : Nat) (h : m < 65536) : md (m : Int) = m := by unfold md; omega
theorem md_cast (v : Int) : ((md v : Nat) : Int) = v % 65536 := by unfold md; omega
def nodeB (n : Int) : Bool := decide (0 ≤ n) && decide (n ≤ 15)
theorem nodeB_iff (n : Int) : nodeB n = true ↔ 0 ≤ n ∧ n ≤ 15 := by unfold nodeB; simp
theorem nodeB_no (n : Int) : nodeB n = false ↔ n < 0 ∨ 15 < n := by
 rw [← Bool.not_eq_true, nodeB_iff]; omega
theorem nodeB_nat (k : Nat) (h : k < 16) : nodeB (k : Int) = true := (nodeB_iff _).2 ⟨by omega, by omega⟩
def bitI (n : Int) : Int := if nodeB n then ((2 ^ n.toNat : Nat) : Int) else 0
def hasB (v n : Int) : Bool := nodeB n && (md v).testBit n.toNat
def withI (v n : Int) : Int := ((if nodeB n then md v ||| 2 ^ n.toNat else md v : Nat) : Int)
def allN (n : Int) : Nat := 2 ^ (min (max n 0) 16).toNat - 1
def allI (n : Int) : Int := (allN n : Int)
def cb (m : Nat) : Nat → Nat
 | 0 => 0
 | n + 1 => cb m n + (m.testBit n).toNat
def countI (v : Int) : Int := (cb (md v) 16 : Int)
def below (m k : Nat) : List Int := ((List.range k).filter m.testBit).map fun n : Nat => (n : Int)
def listI (v : Int) : List Int := below (md v) 16
def ofI (l : List Int) : Int := l.foldl withI 0
theorem two_pow_lt (k : Nat) (h : k < 16) : 2 ^ k < 65536 := Nat.pow_lt_pow_right (a := 2) (n := 16) (by omega) h
theorem below_hit (m k : Nat) (h : m.testBit k = true) : below m (k + 1) = below m k ++ [(k : Int)] := by
 unfold below
 rw [List.range_succ, List.filter_append, List.map_append]
 simp [h]
theorem below_miss (m k : Nat) (h : m.testBit k = false) : below m (k + 1) = below m k := by
 unfold below
 rw [List.range_succ, List.filter_append, List.map_append]
 simp [h]
theorem below_length (m k : Nat) : (below m k).length = cb m k := by
 induction k with
 | zero => rfl
 | succ k ih =>
  show _ = cb m k + (m.testBit k).toNat
  cases h : m.testBit k
  ·rw [below_miss m k h, ih]; rfl
  ·rw [below_hit m k h, List.length_append, ih]; rfl
theorem cb_le (m k : Nat) : cb m k ≤ k := by
 induction k with
 | zero => exact Nat.le_refl _
 | succ k ih =>
  show cb m k + (m.testBit k).toNat ≤ k + 1
  have := Bool.toNat_le (m.testBit k)
  omega
theorem below_pre (m k j : Nat) (h : k ≤ j) : below m k <+: below m j := by
 induction j with
 | zero =>
  have e : k = 0 := by omega
  rw [e]; exact List.prefix_refl _
 | succ j ih =>
  rcases Nat.eq_or_lt_of_le h with e | e
  ·subst e; exact List.prefix_refl _
  ·refine (ih (by omega)).trans ?_
   cases hb : m.testBit j
   ·rw [below_miss m j hb]; exact List.prefix_refl _
   ·rw [below_hit m j hb]; exact List.prefix_append _ _
theorem mem_below (m k : Nat) (x : Int) : x ∈ below m k ↔ ∃ n : Nat, n < k ∧ m.testBit n = true ∧ x = (n : Int) := by
 unfold below
 rw [List.mem_map]
 constructor
 ·rintro ⟨n, hn, rfl⟩
  rw [List.mem_filter, List.mem_range] at hn
  exact ⟨n, hn.1, hn.2, rfl⟩
 ·rintro ⟨n, h1, h2, rfl⟩
  exact ⟨n, by rw [List.mem_filter, List.mem_range]; exact ⟨h1, h2⟩, rfl⟩
theorem below_room (m k : Nat) (hk : k < 16) (hit : m.testBit k = true) : (below m k).length < (below m 16).length := by
 have h := (below_pre m (k + 1) 16 (by omega)).length_le
 rw [below_hit m k hit, List.length_append, List.length_singleton] at h
 omega
theorem high_bit (m i : Nat) (h : m < 65536) (hi : 16 ≤ i) : m.testBit i = false :=
 Nat.testBit_lt_two_pow (Nat.lt_of_lt_of_le h (Nat.pow_le_pow_right (n := 2) (by omega) hi))
theorem vec_ext (a b : Nat) (ha : a < 65536) (hb : b < 65536) (h : ∀ i, i < 16 → a.testBit i = b.testBit i) : a = b := by
 apply Nat.eq_of_testBit_eq
 intro i
 rcases Nat.lt_or_ge i 16 with hi | hi
 ·exact h i hi
 ·rw [high_bit a i ha hi, high_bit b i hb hi]
theorem or_lt (a b : Nat) (ha : a < 65536) (hb : b < 65536) : a ||| b < 65536 := Nat.or_lt_two_pow (n := 16) ha hb
theorem and_lt (a b : Nat) (hb : b < 65536) : a &&& b < 65536 := Nat.lt_of_le_of_lt Nat.and_le_right hb
theorem withI_nat (v n : Int) : ∃ m : Nat, m < 65536 ∧ withI v n = (m : Int) ∧ ∀ i, i < 16 → m.testBit i = ((md v).testBit i || (nodeB n && decide (i = n.toNat))) := by
 unfold withI
 cases h : nodeB n
 ·refine ⟨md v, md_lt v, by simp, fun i _ => by simp⟩
 ·obtain ⟨h0, h1⟩ := (nodeB_iff n).1 h
  refine ⟨md v ||| 2 ^ n.toNat, or_lt _ _ (md_lt v) (two_pow_lt _ (by omega)), by simp, fun i _ => ?_⟩
  rw [Nat.testBit_or, Nat.testBit_two_pow]
  simp [eq_comm]
theorem md_with (v n : Int) (i : Nat) (hi : i < 16) : (md (withI v n)).testBit i = ((md v).testBit i || (nodeB n && decide (i = n.toNat))) := by
 obtain ⟨m, h1, h2, h3⟩ := withI_nat v n
 rw [h2, md_nat m h1, h3 i hi]
theorem allN_lt (n : Int) : allN n < 65536 := by
 unfold allN
 have h : 2 ^ (min (max n 0) 16).toNat ≤ 2 ^ 16 := Nat.pow_le_pow_right (by omega) (by omega)
 have h2 : 0 < 2 ^ (min (max n 0) 16).toNat := Nat.pow_pos (by omega)
 omega
theorem md_all (n : Int) (i : Nat) (hi : i < 16) : (md (allI n)).testBit i = decide ((i : Int) < n) := by
 unfold allI
 rw [md_nat _ (allN_lt n)]
 unfold allN
 rw [Nat.testBit_two_pow_sub_one, decide_eq_decide]
 omega
theorem cb_congr (a b n : Nat) (h : ∀ i, i < n → a.testBit i = b.testBit i) : cb a n = cb b n := by
 induction n with
 | zero => rfl
 | succ n ih =>
  show cb a n + _ = cb b n + _
  rw [ih fun i hi => h i (by omega), h n (by omega)]
theorem cb_cut (m k n : Nat) (hk : k ≤ n) (x : Nat) (h : ∀ i, i < n → x.testBit i = (m.testBit i && decide (i < k))) : cb x n = cb m k := by
 induction n with
 | zero =>
  have e : k = 0 := by omega
  rw [e]; rfl
 | succ n ih =>
  show cb x n + _ = _
  rcases Nat.eq_or_lt_of_le hk with e | e
  ·rw [e]
   show _ = cb m n + _
   rw [h n (by omega), cb_congr x m n fun i hi => by rw [h i (by omega)]; simp; omega]
   simp [e]
  ·rw [ih (by omega) fun i hi => h i (by omega), h n (by omega)]
   have : decide (n < k) = false := by simp; omega
   rw [this]; simp
theorem ofI_bits (l : List Int) (v : Int) (i : Nat) (hi : i < 16) : (md (l.foldl withI v)).testBit i = ((md v).testBit i || l.any fun n => nodeB n && decide (i = n.toNat)) := by
 induction l generalizing v with
 | nil => simp
 | cons n l ih =>
  rw [List.foldl_cons, ih, md_with v n i hi, List.any_cons, Bool.or_assoc]
theorem ofI_snoc (l : List Int) (n : Int) : ofI (l ++ [n]) = withI (ofI l) n := by unfold ofI; rw [List.foldl_append]; rfl
theorem md_of_list (l : List Int) (i : Nat) (hi : i < 16) : (md (ofI l)).testBit i = l.any fun n => nodeB n && decide (i = n.toNat) := by
 unfold ofI
 rw [ofI_bits l 0 i hi]
 have : (md 0) = 0 := rfl
 rw [this, Nat.zero_testBit, Bool.false_or]
end Go.Proofs.YtlhopgadhkjflaaGreatDoor.V
namespace Go.Proofs.YtlhopgadhkjflaaGreatDoor.Crc16
def step (x : BitVec 16) (b : Bool) : BitVec 16 := (x <<< 1) ^^^ (if x.msb != b then 4129#16 else 0#16)
def feed (x : BitVec 16) (l : List Bool) : BitVec 16 := l.foldl step x
def bits (c : UInt8) : List Bool := (List.range 8).map fun i => c.toNat.testBit (7 - i)
def addB (x : BitVec 16) (c : UInt8) : BitVec 16 := feed x (bits c)
def add (x : BitVec 16) (s : List UInt8) : BitVec 16 := s.foldl addB x
def sum (s : List UInt8) : BitVec 16 := add 65535#16 s
theorem bits_length (c : UInt8) : (bits c).length = 8 := by simp [bits]
theorem add_append (x : BitVec 16) (s t : List UInt8) : add x (s ++ t) = add (add x s) t := by simp [add]
def hi (r : BitVec 16) : UInt8 := UInt8.ofNat (r.toNat / 256)
def lo (r : BitVec 16) : UInt8 := UInt8.ofNat r.toNat
def tail (s : List UInt8) : List UInt8 := [hi (sum s), lo (sum s)]
def close (s : List UInt8) : List UInt8 := s ++ tail s
theorem bits_get (c : UInt8) (i : Nat) (h : i < 8) : (bits c)[i]? = some (c.toNat.testBit (7 - i)) := by
 simp [bits, h]
end Go.Proofs.YtlhopgadhkjflaaGreatDoor.Crc16

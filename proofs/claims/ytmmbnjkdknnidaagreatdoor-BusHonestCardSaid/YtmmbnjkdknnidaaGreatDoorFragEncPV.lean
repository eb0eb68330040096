/-
  The bytes of pieces: the program's Encode.
-/
import Derived.Test.YtmmbnjkdknnidaaGreatDoorRows
import Derived.Lib.SmallJoins
import Derived.WalkKit
import Derived.WalkSpells
import Derived.WalkLawsBesides
import Derived.Below
import Derived.Lib.Hide
import Derived.Lib.Strings
import Derived.Lib.Bytes
import Derived.Deep.QuietTactic
import Derived.Deep.RegionHeld3
import Derived.Deep.DrawnRows
import Derived.IntWalk
import Derived.Test.YtmmbnjkdknnidaaGreatDoorIdentBitsV
set_option maxHeartbeats 4000000
set_option maxRecDepth 100000
namespace Go.Proofs.YtmmbnjkdknnidaaGreatDoor.F
open Lib (hid)
open Go.RowKit
structure Pc where
 seq : Int
 at' : Int
 of' : Int
 bytes : ByteArray
abbrev pv (p : Pc) : Value := .agg #[.int .i64 p.seq, .int .i64 p.at', .int .i64 p.of', .string p.bytes]
abbrev pcl (p : Pc) : Array Value := #[.int .i64 p.seq, .int .i64 p.at', .int .i64 p.of', .string p.bytes]
def zeroP : Pc := ⟨0, 0, 0, ⟨#[]⟩⟩
def PcAt (w : World) (g : Nat) (p : Pc) : Prop := w.heap[g]? = some (.cells (pcl p) 53 (0, 0))
theorem PcAt.new (w : World) (p : Pc) : PcAt (w.alloc (.cells (pcl p) 53)) w.heap.size p := heap_alloc_new w _
theorem PcAt.on {w w' : World} {g : Nat} {p : Pc} (h : PcAt w g p) (hb : Below w.heap.size w w') : PcAt w' g p := (hb.block g (Array.getElem?_eq_some_iff.1 h).1).trans h
theorem PcAt.cells {w : World} {g : Nat} {p : Pc} (h : PcAt w g p) : w.cell? ⟨g, 0, none⟩ = some (.int .i64 p.seq) ∧ w.cell? ⟨g, 1, none⟩ = some (.int .i64 p.at') ∧ w.cell? ⟨g, 2, none⟩ = some (.int .i64 p.of') ∧ w.cell? ⟨g, 3, none⟩ = some (.string p.bytes) := by
 refine ⟨?_, ?_, ?_, ?_⟩ <;> simp [World.cell?, show w.heap[g]? = _ from h]
theorem ret_i {a b : Int} (h : a = b) : Ending.returned (.int .i64 a) = .returned (.int .i64 b) := by rw [h]
theorem ret_b {a b : Bool} (h : a = b) : Ending.returned (.bool a) = .returned (.bool b) := by rw [h]
def smallB (n : Int) : Bool := decide (1 ≤ n) && decide (n ≤ 65535)
theorem smallB_iff (n : Int) : smallB n = true ↔ 1 ≤ n ∧ n ≤ 65535 := by unfold smallB; simp
def restB (p : Pc) : Bool := decide (1 ≤ p.of') && (decide (p.of' ≤ 20) && (decide (0 ≤ p.at') && (decide (p.at' < p.of') && (decide (1 ≤ p.bytes.size) && decide (p.bytes.size ≤ 16)))))
def rightP (p : Pc) : Bool := smallB p.seq && restB p
theorem rightP_iff (p : Pc) : rightP p = true ↔ (1 ≤ p.seq ∧ p.seq ≤ 65535) ∧ (1 ≤ p.of' ∧ p.of' ≤ 20) ∧ (0 ≤ p.at' ∧ p.at' < p.of') ∧ 1 ≤ p.bytes.size ∧ p.bytes.size ≤ 16 := by
 unfold rightP restB
 simp only [Bool.and_eq_true, smallB_iff, decide_eq_true_eq]
 constructor
 ·rintro ⟨a, b, c, d, e, f, g⟩; exact ⟨a, ⟨b, c⟩, ⟨d, e⟩, f, g⟩
 ·rintro ⟨a, ⟨b, c⟩, ⟨d, e⟩, f, g⟩; exact ⟨a, b, c, d, e, f, g⟩
theorem refSmall5_any (n : Int) (w : World) : Calls Tryz.prog 96 #[.int .i64 n] w fun e w' => e = .returned (.bool (smallB n)) ∧ w = w' := by
 by_cases h1 : 1 ≤ n
 ·by_cases h2 : n ≤ 65535
  ·have hv := hid ((smallB_iff n).2 ⟨h1, h2⟩)
   go_enter Tryz.func96, Tryz.ntmps96
   go_wp2
   go_ret
   exact ⟨ret_b hv.out.symm, rfl⟩
  ·have hv : smallB n = false := by rw [← Bool.not_eq_true, smallB_iff]; omega
   have HV := hid hv; clear hv
   go_enter Tryz.func96, Tryz.ntmps96
   go_wp2
   go_ret
   exact ⟨ret_b HV.out.symm, rfl⟩
 ·have hv : smallB n = false := by rw [← Bool.not_eq_true, smallB_iff]; omega
  have HV := hid hv; clear hv
  go_enter Tryz.func96, Tryz.ntmps96
  go_wp2
  go_ret
  exact ⟨ret_b HV.out.symm, rfl⟩
def octet5 (n : Int) : UInt8 := UInt8.ofNat n.toNat
def bytes5 (l : List UInt8) : ByteArray := ⟨l.toArray⟩
def headP (p : Pc) : ByteArray := bytes5 [octet5 (p.seq / 256), octet5 (p.seq % 256), octet5 p.at', octet5 p.of', octet5 p.bytes.size]
def encP (p : Pc) : ByteArray := if rightP p = true then headP p ++ p.bytes else ⟨#[]⟩
def encPE (p : Pc) : Int := if rightP p = true then 0 else 1
theorem five_bytes (w : World) (g : Nat) (a b c d e : Int) (h : w.heap[g]? = some (.cells #[.int .u8 a, .int .u8 b, .int .u8 c, .int .u8 d, .int .u8 e] 5 (0, 0))) : (convert 42 9 (.slice (some ⟨g, 0, none⟩) 5 5)).run Tryz.prog w = .ok (.string (bytes5 ([a, b, c, d, e].map fun x => UInt8.ofNat x.toNat))) w := by
 refine run_convert_bytes_arg (P := Tryz.prog) _ 42 5 Tryz.underlying42 Tryz.underlying5 g 0 5 5 [a, b, c, d, e] rfl ?_ 9 Tryz.underlying9
 intro i hi
 have : i = 0 ∨ i = 1 ∨ i = 2 ∨ i = 3 ∨ i = 4 := by omega
 rcases this with rfl | rfl | rfl | rfl | rfl <;> simp [World.cell?, h]
theorem eq_int (d : Nat) (n m : Int) (w : World) : (Op.equalIn (d + 1) 3 (.int .i64 n) (.int .i64 m)).run Tryz.prog w = .ok (n == m) w := by
 simp [Op.equalIn, run_underlying Tryz.underlying3]
theorem bytes_beq (x y : ByteArray) : (x == y) = decide (x = y) := by
 rw [Bool.eq_iff_iff, decide_eq_true_eq]
 constructor
 ·intro h
  have h2 : (x.data == y.data) = true := h
  have h3 : x.data = y.data := by simpa using h2
  exact ByteArray.ext h3
 ·rintro rfl
  show (x.data == x.data) = true
  simp
def sameP (a b : Pc) : Bool := a.seq == b.seq && (a.at' == b.at' && (a.of' == b.of' && decide (a.bytes = b.bytes)))
theorem sameP_iff (a b : Pc) : sameP a b = true ↔ a = b := by
 unfold sameP
 obtain ⟨s1, i1, q1, d1⟩ := a
 obtain ⟨s2, i2, q2, d2⟩ := b
 simp
theorem eq_string (d : Nat) (x y : ByteArray) (w : World) : (Op.equalIn (d + 1) 9 (.string x) (.string y)).run Tryz.prog w = .ok (x == y) w := by
 simp [Op.equalIn, run_underlying Tryz.underlying9]
theorem eqP_struct (d : Nat) (a b : Pc) (w : World) : (Op.equalIn (d + 3) 53 (pv a) (pv b)).run Tryz.prog w = .ok (sameP a b) w := by
 have hs : Tryz.prog.stoodInHeld 53 = false := by kernel_rfl
 obtain ⟨s1, i1, q1, d1⟩ := a
 obtain ⟨s2, i2, q2, d2⟩ := b
 rw [Op.equalIn]
 simp only [Sem.run_bind, run_underlying Tryz.underlying53, Result.andThen_ok]
 have e2 := fun w => eq_int (d + 1) s1 s2 w
 have e3 := fun w => eq_int (d + 1) i1 i2 w
 have e4 := fun w => eq_int (d + 1) q1 q2 w
 have e6 := fun w => eq_string (d + 1) d1 d2 w
 simp [hs, go_sem, e2, e3, e4, e6]
 rw [bytes_beq]
 unfold sameP
 by_cases h3 : s1 = s2 <;> by_cases h4 : i1 = i2 <;> by_cases h5 : q1 = q2 <;> by_cases h7 : d1 = d2 <;> simp [h3, h4, h5, h7]
theorem eqP_guard (op : BinOp) (x y : Operand) (a b : Pc) (w : World) : (eqGuard op 53 x y (pv a) (pv b)).run Tryz.prog w = .ok () w := by
 have h : Tryz.prog.eqGuardType Tryz.prog.depth 53 = false := by kernel_rfl
 cases op <;> simp [eqGuard, h, go_sem]
theorem neqP (a b : Pc) (w : World) : (binOp .neq 53 (pv a) (pv b)).run Tryz.prog w = .ok (.bool (!sameP a b)) w := by
 show (do pure (Value.bool (!(← Op.equal 53 (pv a) (pv b)))) : Sem Value).run Tryz.prog w = _
 rw [Sem.run_bind]
 show ((Op.equalIn (9997 + 3) 53 (pv a) (pv b)).run Tryz.prog w).andThen _ = _
 rw [eqP_struct, Result.andThen_ok, Sem.run_pure]
def At4 (w : World) (p : Addr) (m : Pc) : Prop :=
 w.cell? p = some (.int .i64 m.seq) ∧ w.cell? ⟨p.block, p.off + 1, none⟩ = some (.int .i64 m.at') ∧ w.cell? ⟨p.block, p.off + 2, none⟩ = some (.int .i64 m.of') ∧ w.cell? ⟨p.block, p.off + 3, none⟩ = some (.string m.bytes)
theorem At4.keep {w w' : World} {p : Addr} {m : Pc} (h : At4 w p m) (hk : ∀ q : Addr, q.block = p.block → w'.cell? q = w.cell? q) : At4 w' p m :=
 ⟨(hk p rfl).trans h.1, (hk ⟨p.block, p.off + 1, none⟩ rfl).trans h.2.1, (hk ⟨p.block, p.off + 2, none⟩ rfl).trans h.2.2.1, (hk ⟨p.block, p.off + 3, none⟩ rfl).trans h.2.2.2⟩
def Pcs (w : World) (B : Nat) (A : Option Addr) (l : List Pc) : Prop :=
 0 < l.length → ∃ ad, A = some ad ∧ ad.block < B ∧ ∀ j m, l[j]? = some m → At4 w (ad.add (j * 4)) m
theorem adb (a : Addr) (n : Nat) : (a.add n).block = a.block := by unfold Addr.add; split <;> rfl
theorem Pcs.keep {w w' : World} {B : Nat} {A : Option Addr} {l : List Pc} (h : Pcs w B A l) (hk : ∀ p : Addr, p.block < B → w'.cell? p = w.cell? p) : Pcs w' B A l := fun hn => by
 obtain ⟨ad, e, hb, hc⟩ := h hn
 exact ⟨ad, e, hb, fun j m hm => (hc j m hm).keep fun q hq => hk q (by rw [hq, adb]; exact hb)⟩
theorem Pcs.below {w w' : World} {B B' : Nat} {A : Option Addr} {l : List Pc} (h : Pcs w B A l) (hb : Below B' w w') (hB : B ≤ B') : Pcs w' B A l :=
 h.keep fun _ hp => hb.cell (Nat.lt_of_lt_of_le hp hB)
theorem Pcs.more {w : World} {B B' : Nat} {A : Option Addr} {l : List Pc} (h : Pcs w B A l) (hB : B ≤ B') : Pcs w B' A l := fun hn => by
 obtain ⟨ad, e, hb, hc⟩ := h hn
 exact ⟨ad, e, by omega, hc⟩
theorem Pcs.nil (w : World) (B : Nat) (A : Option Addr) : Pcs w B A [] := fun h => absurd h (by simp)
theorem ne_of_at {a b : List Pc} {k : Nat} {x y : Pc} (hx : a[k]? = some x) (hy : b[k]? = some y) (h : sameP x y = false) (d : Bool) (hd : d = true ↔ a = b) : false = d := by
 symm
 rw [← Bool.not_eq_true, hd]
 rintro rfl
 rw [hx] at hy
 injection hy with hy
 rw [(sameP_iff x y).2 hy] at h
 cases h
theorem same_take {a b : List Pc} {k : Nat} {x y : Pc} (hx : a[k]? = some x) (hy : b[k]? = some y) (h : a.take k = b.take k) (e : sameP x y = true) : a.take (k + 1) = b.take (k + 1) := by
 rw [List.take_add_one, List.take_add_one, hx, hy, h, (sameP_iff x y).1 e]
def samePL : List Pc → List Pc → Bool
 | [], [] => true
 | x :: a, y :: b => sameP x y && samePL a b
 | _, _ => false
theorem samePL_iff : ∀ (a b : List Pc), samePL a b = true ↔ a = b
 | [], [] => by simp [samePL]
 | [], y :: b => by simp [samePL]
 | x :: a, [] => by simp [samePL]
 | x :: a, y :: b => by
  unfold samePL
  rw [Bool.and_eq_true, sameP_iff, samePL_iff a b, List.cons.injEq]
theorem refPieces_any (A A' : Option Addr) (c c' B B' : Nat) (a b : List Pc) (w : World) (ha : Pcs w B A a) (hb : Pcs w B' A' b) (hl : a.length ≤ maxLen) :
  Calls Tryz.prog 68 #[.slice A a.length c, .slice A' b.length c'] w fun e w' => e = .returned (.bool (samePL a b)) ∧ ∃ n, w' = w.drewN n := by
 unfold maxLen at hl
 obtain ⟨D, hD⟩ : ∃ D, D = samePL a b := ⟨_, rfl⟩
 have HDI : Hid (D = true ↔ a = b) := hid (by rw [hD]; exact samePL_iff a b)
 rw [← hD]
 clear hD
 by_cases hab : a.length = b.length
 ·have hbne : ((a.length : Int) != b.length) = false := by rw [hab]; simp
  have HL := hid hab; clear hab
  go_enter Tryz.func68, Tryz.ntmps68
  go_wp2
  go_loopw [5] (fun i wr => ∃ k : Nat, k ≤ a.length ∧ i = .int .i64 k ∧ a.take k = b.take k ∧ ∃ n, wr = w.drewN n) (fun i _ => a.length - (intOf i).toNat)
  case atStart => exact ⟨0, by omega, rfl, by simp, 0, rfl⟩
  case round =>
   obtain ⟨k, hk, rfl, ht, n, rfl⟩ := hrel
   have HT := hid ht; clear ht
   by_cases hlt : k < a.length
   ·have hlt2 : k < b.length := by have := HL.out; omega
    obtain ⟨x, hx⟩ : ∃ x, a[k]? = some x := ⟨_, List.getElem?_eq_getElem hlt⟩
    obtain ⟨y, hy⟩ : ∃ y, b[k]? = some y := ⟨_, List.getElem?_eq_getElem hlt2⟩
    obtain ⟨ad, rfl, _, hc⟩ := ha (by omega)
    obtain ⟨ad', rfl, _, hc'⟩ := hb (by omega)
    have hck := hc k x hx
    have hck' := hc' k y hy
    have hEG := fun p q w => eqP_guard .neq p q x y w
    have hNE := neqP x y
    have HX := hid hx
    have HY := hid hy
    clear hc hc' hx hy
    cases hs : sameP x y
    ·rw [hs] at hNE
     have HN := hid hs; clear hs
     obtain ⟨s1, i1, q1, d1⟩ := x
     obtain ⟨s2, i2, q2, d2⟩ := y
     simp only [pv] at hEG hNE
     obtain ⟨x0, x1, x2, x3⟩ := hck
     obtain ⟨y0, y1, y2, y3⟩ := hck'
     go_wp2_with fail
     go_quiet (fail)
     go_wp2_with fail
     go_ret
     exact ⟨ret_b (ne_of_at HX.out HY.out HN.out D HDI.out), n + nq, by rw [World.drewN_drewN]⟩
    ·rw [hs] at hNE
     have HN := hid hs; clear hs
     obtain ⟨s1, i1, q1, d1⟩ := x
     obtain ⟨s2, i2, q2, d2⟩ := y
     simp only [pv] at hEG hNE
     obtain ⟨x0, x1, x2, x3⟩ := hck
     obtain ⟨y0, y1, y2, y3⟩ := hck'
     go_wp2_with fail
     go_quiet (fail)
     go_wp2_with fail
     go_roundw
     case rel => exact ⟨k + 1, by omega, by go_num, same_take HX.out HY.out HT.out HN.out, _, rfl⟩
     case measure => simp [intOf]; omega
   ·have ek : k = a.length := by omega
    subst ek
    go_wp2
    go_ret
    refine ⟨ret_b ?_, _, rfl⟩
    have h1 := HT.out
    rw [List.take_length, HL.out, List.take_length] at h1
    exact (HDI.out.2 h1).symm
 ·have hbne : ((a.length : Int) != b.length) = true := by simp; omega
  have hne : D = false := by rw [← Bool.not_eq_true, HDI.out]; exact fun e => hab (by rw [e])
  have HN := hid hne; clear hne hab
  go_enter Tryz.func68, Tryz.ntmps68
  go_wp2
  go_ret
  exact ⟨ret_b HN.out.symm, 0, rfl⟩
theorem cell_of {w : World} {g : Nat} {C : Array Value} {T : TypeId} (h : w.heap[g]? = some (.cells C T (0, 0))) (i : Nat) : w.cell? ⟨g, i, none⟩ = C[i]? := by simp [World.cell?, h]
def countP (z n : Nat) : Nat := (z + n - 1) / n
def cutT (s : ByteArray) (i n : Nat) : ByteArray := ⟨((s.data.toList.drop (i * n)).take n).toArray⟩
def pieceP (q : Int) (s : ByteArray) (n i : Nat) : Pc := ⟨q, i, countP s.size n, cutT s i n⟩
def splitL (q : Int) (s : ByteArray) (n : Nat) : List Pc := (List.range (countP s.size n)).map (pieceP q s n)
theorem splitL_length (q : Int) (s : ByteArray) (n : Nat) : (splitL q s n).length = countP s.size n := by unfold splitL; simp
theorem splitL_at (q : Int) (s : ByteArray) (n k : Nat) (h : k < countP s.size n) : (splitL q s n)[k]? = some (pieceP q s n k) := by
 unfold splitL
 rw [List.getElem?_map, List.getElem?_range h]; rfl
theorem splitL_take (q : Int) (s : ByteArray) (n k : Nat) (h : k < countP s.size n) : (splitL q s n).take (k + 1) = (splitL q s n).take k ++ [pieceP q s n k] := by
 rw [List.take_add_one, splitL_at q s n k h]; rfl
theorem countP_le (z n : Nat) (hz : 1 ≤ z) (hn : 1 ≤ n) : countP z n ≤ z := by
 unfold countP
 apply Nat.le_of_lt_succ
 rw [Nat.div_lt_iff_lt_mul (by omega)]
 have h1 : z * 1 ≤ z * n := Nat.mul_le_mul_left z hn
 have h2 : (z + 1) * n = z * n + n := Nat.succ_mul z n
 have h3 : z.succ * n = (z + 1) * n := rfl
 omega
theorem countP_pos (z n : Nat) (hz : 1 ≤ z) (hn : 1 ≤ n) : 1 ≤ countP z n := by
 unfold countP
 rw [Nat.le_div_iff_mul_le (by omega)]
 omega
theorem countP_at {z n k : Nat} (hn : 1 ≤ n) (h : k < countP z n) : k * n < z := by
 unfold countP at h
 have h1 := (Nat.le_div_iff_mul_le (by omega : 0 < n)).1 h
 have h2 : (k + 1) * n = k * n + n := Nat.succ_mul k n
 have h3 : k.succ * n = (k + 1) * n := rfl
 omega
theorem cutT_size (s : ByteArray) (i n : Nat) : (cutT s i n).size = min n (s.size - i * n) := by
 have hl := Lib.size_eq s
 show ((s.data.toList.drop (i * n)).take n).toArray.size = _
 rw [List.size_toArray, List.length_take, List.length_drop]
 omega
def splitB (q : Int) (z : Nat) (n : Int) : Bool := smallB q && (decide (1 ≤ z) && (decide (z ≤ 20) && (decide (1 ≤ n) && decide (n ≤ 16))))
theorem splitB_iff (q : Int) (z : Nat) (n : Int) : splitB q z n = true ↔ (1 ≤ q ∧ q ≤ 65535) ∧ (1 ≤ z ∧ z ≤ 20) ∧ 1 ≤ n ∧ n ≤ 16 := by
 unfold splitB
 simp only [Bool.and_eq_true, smallB_iff, decide_eq_true_eq]
 constructor
 ·rintro ⟨a, b, c, d, e⟩; exact ⟨a, ⟨b, c⟩, d, e⟩
 ·rintro ⟨a, ⟨b, c⟩, d, e⟩; exact ⟨a, b, c, d, e⟩
def splitR (q : Int) (s : ByteArray) (n : Int) : List Pc := if splitB q s.size n = true then splitL q s n.toNat else []
def splitE (q : Int) (s : ByteArray) (n : Int) : Int := if splitB q s.size n = true then 0 else 1
theorem piece_right {q : Int} {s : ByteArray} {n : Int} (h : splitB q s.size n = true) {k : Nat} (hk : k < countP s.size n.toNat) : rightP (pieceP q s n.toNat k) = true := by
 obtain ⟨⟨a, b⟩, ⟨c, d⟩, e, f⟩ := (splitB_iff _ _ _).1 h
 have h1 := countP_le s.size n.toNat c (by omega)
 have h2 := countP_at (by omega) hk
 have h3 := cutT_size s k n.toNat
 rw [rightP_iff]
 refine ⟨⟨a, b⟩, ⟨?_, ?_⟩, ⟨?_, ?_⟩, ?_, ?_⟩
 ·show (1 : Int) ≤ (countP s.size n.toNat : Int); omega
 ·show (countP s.size n.toNat : Int) ≤ 20; omega
 ·show (0 : Int) ≤ (k : Int); omega
 ·show (k : Int) < (countP s.size n.toNat : Int); omega
 ·show 1 ≤ (cutT s k n.toNat).size; omega
 ·show (cutT s k n.toNat).size ≤ 16; omega
theorem cut_run (s : ByteArray) (k n : Nat) (hn : 1 ≤ n) (e f : Int) (he : e = ((k * n : Nat) : Int)) (hf : f = (min (k * n + n) s.size : Nat)) (hk : k * n < s.size) (w : World) :
  (Instr.slice 9 (.string s) (some (.int .i64 e)) (some (.int .i64 f)) none).run Tryz.prog w = .ok (.string (cutT s k n)) w := by
 have hl := Lib.size_eq s
 subst he hf
 rw [run_slice_string w 9 s .i64 .i64 ((k * n : Nat) : Int) ((min (k * n + n) s.size : Nat) : Int) Tryz.underlying9 (by omega) (by omega) (by omega), Lib.extract_eq]
 rw [Int.toNat_natCast, Int.toNat_natCast]
 unfold cutT
 congr 4
 rcases Nat.lt_or_ge s.size (k * n + n) with h | h
 ·rw [Nat.min_eq_right (by omega), List.take_of_length_le (by rw [List.length_drop]; omega), List.take_of_length_le (by rw [List.length_drop]; omega)]
 ·rw [Nat.min_eq_left h, Nat.add_sub_cancel_left]
def uptoB (m n : Int) : Bool := decide (1 ≤ n) && decide (n ≤ m)
theorem upto_small (n : Int) : uptoB 65535 n = smallB n := rfl
theorem upTo_any (m n : Int) (w : World) : Calls Tryz.prog 90 #[.int .i64 m, .int .i64 n] w fun e w' => e = .returned (.bool (uptoB m n)) ∧ w = w' := by
 by_cases h1 : 1 ≤ n
 ·by_cases h2 : n ≤ m
  ·have hv : Hid (uptoB m n = true) := hid (by unfold uptoB; simp [h1, h2])
   go_enter Tryz.func90, Tryz.ntmps90
   go_wp2
   go_ret
   exact ⟨ret_b hv.out.symm, rfl⟩
  ·have hv : Hid (uptoB m n = false) := hid (by unfold uptoB; simp [h2])
   go_enter Tryz.func90, Tryz.ntmps90
   go_wp2
   go_ret
   exact ⟨ret_b hv.out.symm, rfl⟩
 ·have hv : Hid (uptoB m n = false) := hid (by unfold uptoB; simp [h1])
  go_enter Tryz.func90, Tryz.ntmps90
  go_wp2
  go_ret
  exact ⟨ret_b hv.out.symm, rfl⟩
theorem rightP_any (p : Pc) (hm : p.bytes.size ≤ maxLen) (w : World) :
  Calls Tryz.prog 54 #[pv p] w fun e w' => e = .returned (.bool (rightP p)) ∧ Below w.heap.size w w' := by
 have HW := hid (Joins.below_alloc1 w (.cells (pcl p) 53))
 have hR : rightP p = (smallB p.seq && (uptoB 20 p.of' && (decide (0 ≤ p.at') && (decide (p.at' < p.of') && uptoB 16 p.bytes.size)))) := by
  unfold rightP restB uptoB
  have e1 : decide (1 ≤ p.bytes.size) = decide ((1 : Int) ≤ p.bytes.size) := by rw [decide_eq_decide]; omega
  have e2 : decide (p.bytes.size ≤ 16) = decide ((p.bytes.size : Int) ≤ 16) := by rw [decide_eq_decide]; omega
  rw [e1, e2]
  simp [Bool.and_assoc]
 have HR := hid hR; clear hR
 have c1 := fun w => upTo_any 65535 p.seq w
 have c2 := fun w => upTo_any 20 p.of' w
 have c3 := fun w => upTo_any 16 p.bytes.size w
 rw [upto_small] at c1
 generalize rightP p = R at *
 obtain ⟨s, a, o, d⟩ := p
 unfold maxLen at hm
 simp only [pv, pcl] at *
 generalize smallB s = S at *
 generalize uptoB 20 o = O at *
 generalize uptoB 16 d.size = D at *
 cases S
 ·go_enter Tryz.func54, Tryz.ntmps54
  go_wp2_with fail; refine (c1 _).mono ?_; rintro e w1 ⟨rfl, rfl⟩
  go_wp2_with fail
  go_ret
  exact ⟨ret_b (HR.out.trans (by simp)).symm, HW.out⟩
 ·cases O
  ·go_enter Tryz.func54, Tryz.ntmps54
   go_wp2_with fail; refine (c1 _).mono ?_; rintro e w1 ⟨rfl, rfl⟩
   go_wp2_with fail; refine (c2 _).mono ?_; rintro e w1 ⟨rfl, rfl⟩
   go_wp2_with fail
   go_ret
   exact ⟨ret_b (HR.out.trans (by simp)).symm, HW.out⟩
  ·by_cases h3 : 0 ≤ a
   ·by_cases h4 : a < o
    ·have HQ : Hid (R = D) := hid (by rw [HR.out]; simp [h3, h4])
     clear HR
     go_enter Tryz.func54, Tryz.ntmps54
     go_wp2_with fail; refine (c1 _).mono ?_; rintro e w1 ⟨rfl, rfl⟩
     go_wp2_with fail; refine (c2 _).mono ?_; rintro e w1 ⟨rfl, rfl⟩
     go_wp2_with fail; refine (c3 _).mono ?_; rintro e w1 ⟨rfl, rfl⟩
     go_wp2_with fail
     go_ret
     exact ⟨ret_b HQ.out.symm, HW.out⟩
    ·have HQ : Hid (R = false) := hid (by rw [HR.out]; simp [h4])
     clear HR
     go_enter Tryz.func54, Tryz.ntmps54
     go_wp2_with fail; refine (c1 _).mono ?_; rintro e w1 ⟨rfl, rfl⟩
     go_wp2_with fail; refine (c2 _).mono ?_; rintro e w1 ⟨rfl, rfl⟩
     go_wp2_with fail
     go_ret
     exact ⟨ret_b HQ.out.symm, HW.out⟩
   ·have HQ : Hid (R = false) := hid (by rw [HR.out]; simp [h3])
    clear HR
    go_enter Tryz.func54, Tryz.ntmps54
    go_wp2_with fail; refine (c1 _).mono ?_; rintro e w1 ⟨rfl, rfl⟩
    go_wp2_with fail; refine (c2 _).mono ?_; rintro e w1 ⟨rfl, rfl⟩
    go_wp2_with fail
    go_ret
    exact ⟨ret_b HQ.out.symm, HW.out⟩
theorem encP_any (p : Pc) (hm : p.bytes.size ≤ maxLen) (w : World) :
  Calls Tryz.prog 47 #[pv p] w fun e w' => e = .returned (.tuple #[.string (encP p), .int .i64 (encPE p)]) ∧ Below w.heap.size w w' := by
 have hnew := PcAt.new w p
 have cr := fun w => rightP_any p hm w
 have hW := Joins.below_alloc1 w (.cells (pcl p) 53)
 cases hr : rightP p
 ·rw [hr] at cr
  rw [show encP p = ⟨#[]⟩ by unfold encP; rw [hr]; rfl, show encPE p = 1 by unfold encPE; rw [hr]; rfl]
  clear hr
  obtain ⟨s, a, o, d⟩ := p
  have HW := hid hW; clear hW hnew
  simp only [pv, pcl] at *
  go_enter Tryz.func47, Tryz.ntmps47
  go_wp2_with fail; refine (cr _).mono ?_; rintro e w1 ⟨rfl, b1⟩
  go_wp2_with fail
  go_ret2
  exact ⟨rfl, HW.out.trans (b1.mono (by simp))⟩
 ·rw [hr] at cr
  obtain ⟨⟨r1, r2⟩, ⟨r3, r4⟩, ⟨r5, r6⟩, r7, r8⟩ := (rightP_iff p).1 hr
  rw [show encP p = headP p ++ p.bytes by unfold encP; rw [hr]; rfl, show encPE p = 0 by unfold encPE; rw [hr]; rfl]
  clear hr
  obtain ⟨s, a, o, d⟩ := p
  simp only [pv, pcl] at *
  have H5 := five_bytes
  go_enter Tryz.func47, Tryz.ntmps47
  go_wp2_with fail; refine (cr _).mono ?_; rintro e w1 ⟨rfl, b1⟩
  obtain ⟨c1, c2, c3, c4⟩ := (hnew.on b1).cells
  go_wp2_with fail
  rw [H5 _ _ _ _ _ _ _ (heap_alloc_new _ _)]
  have HS : (bytes5 (List.map (fun x => UInt8.ofNat x.toNat) [s / 256, s % 256, a, o, (d.size : Int)])).size = 5 := rfl
  have HE : bytes5 (List.map (fun x => UInt8.ofNat x.toNat) [s / 256, s % 256, a, o, (d.size : Int)]) = headP ⟨s, a, o, d⟩ := rfl
  have HV := Joins.below_alloc1 w1 (.cells #[.int .u8 (s / 256), .int .u8 (s % 256), .int .u8 a, .int .u8 o, .int .u8 (d.size : Int)] 5)
  have HB := hid ((hW.trans (b1.mono (by simp))).trans (HV.mono (by have := b1.size; simp at this; omega)))
  have d1 := (hnew.on b1)
  have d2 := (d1.on HV).cells.2.2.2
  obtain ⟨hd, hhd⟩ : ∃ x, x = headP ⟨s, a, o, d⟩ := ⟨_, rfl⟩
  rw [HE, ← hhd] at HS
  rw [HE, ← hhd]
  have HHD := hid hhd; clear hhd
  have HM : ¬ 9223372036854775807 < hd.size + d.size := by omega
  clear H5 HE
  go_wp2_with fail
  go_ret2
  exact ⟨by rw [HHD.out]; rfl, HB.out⟩
end Go.Proofs.YtmmbnjkdknnidaaGreatDoor.F

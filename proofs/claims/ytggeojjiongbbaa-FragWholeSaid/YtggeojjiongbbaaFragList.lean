/-
  Pieces compared; lists of pieces as they lie in memory; two of them compared.
-/
import Derived.Test.YtggeojjiongbbaaFragBase
namespace Go.Proofs.Ytggeojjiongbbaa
open Go.RowKit

theorem eq_int (d : Nat) (n m : Int) (w : World) : (Op.equalIn (d + 1) 3 (.int .i64 n) (.int .i64 m)).run Try.prog w = .ok (n == m) w := by
  simp [Op.equalIn, run_underlying Try.underlying3]
set_option maxRecDepth 100000 in
theorem bytes_beq (x y : ByteArray) : (x == y) = decide (x = y) := by
  rw [Bool.eq_iff_iff, decide_eq_true_eq]
  constructor
  · intro h
    have h2 : (x.data == y.data) = true := h
    have h3 : x.data = y.data := by simpa using h2
    exact ByteArray.ext h3
  · rintro rfl
    show (x.data == x.data) = true
    simp

/-- Are they the same? -/
def sameP (a b : Pc) : Bool := a.seq == b.seq && (a.at' == b.at' && (a.of' == b.of' && decide (a.bytes = b.bytes)))
set_option maxRecDepth 100000 in
theorem sameP_iff (a b : Pc) : sameP a b = true ↔ a = b := by
  unfold sameP
  obtain ⟨s1, i1, q1, d1⟩ := a
  obtain ⟨s2, i2, q2, d2⟩ := b
  simp

theorem eq_string (d : Nat) (x y : ByteArray) (w : World) : (Op.equalIn (d + 1) 9 (.string x) (.string y)).run Try.prog w = .ok (x == y) w := by
  simp [Op.equalIn, run_underlying Try.underlying9]
set_option maxRecDepth 100000 in
theorem eqP_struct (d : Nat) (a b : Pc) (w : World) : (Op.equalIn (d + 3) 23 (pv a) (pv b)).run Try.prog w = .ok (sameP a b) w := by
  have hs : Try.prog.stoodInHeld 23 = false := by kernel_rfl
  obtain ⟨s1, i1, q1, d1⟩ := a
  obtain ⟨s2, i2, q2, d2⟩ := b
  rw [Op.equalIn]
  simp only [Sem.run_bind, run_underlying Try.underlying23, Result.andThen_ok]
  have e2 := fun w => eq_int (d + 1) s1 s2 w
  have e3 := fun w => eq_int (d + 1) i1 i2 w
  have e4 := fun w => eq_int (d + 1) q1 q2 w
  have e6 := fun w => eq_string (d + 1) d1 d2 w
  simp [hs, go_sem, e2, e3, e4, e6]
  rw [bytes_beq]
  unfold sameP
  by_cases h3 : s1 = s2 <;> by_cases h4 : i1 = i2 <;> by_cases h5 : q1 = q2 <;> by_cases h7 : d1 = d2 <;> simp [h3, h4, h5, h7]

theorem eqP_guard (op : BinOp) (x y : Operand) (a b : Pc) (w : World) : (eqGuard op 23 x y (pv a) (pv b)).run Try.prog w = .ok () w := by
  have h : Try.prog.eqGuardType Try.prog.depth 23 = false := by kernel_rfl
  cases op <;> simp [eqGuard, h, go_sem]
set_option maxRecDepth 100000 in
theorem eqlP (a b : Pc) (w : World) : (binOp .eql 23 (pv a) (pv b)).run Try.prog w = .ok (.bool (sameP a b)) w := by
  show (do pure (Value.bool (← Op.equal 23 (pv a) (pv b))) : Sem Value).run Try.prog w = _
  rw [Sem.run_bind]
  show ((Op.equalIn (9997 + 3) 23 (pv a) (pv b)).run Try.prog w).andThen _ = _
  rw [eqP_struct, Result.andThen_ok, Sem.run_pure]
set_option maxRecDepth 100000 in
theorem neqP (a b : Pc) (w : World) : (binOp .neq 23 (pv a) (pv b)).run Try.prog w = .ok (.bool (!sameP a b)) w := by
  show (do pure (Value.bool (!(← Op.equal 23 (pv a) (pv b)))) : Sem Value).run Try.prog w = _
  rw [Sem.run_bind]
  show ((Op.equalIn (9997 + 3) 23 (pv a) (pv b)).run Try.prog w).andThen _ = _
  rw [eqP_struct, Result.andThen_ok, Sem.run_pure]

/-- A piece from address p on. -/
def At4 (w : World) (p : Addr) (m : Pc) : Prop :=
  w.cell? p = some (.int .i64 m.seq) ∧ w.cell? ⟨p.block, p.off + 1, none⟩ = some (.int .i64 m.at') ∧ w.cell? ⟨p.block, p.off + 2, none⟩ = some (.int .i64 m.of') ∧ w.cell? ⟨p.block, p.off + 3, none⟩ = some (.string m.bytes)
theorem At4.keep {w w' : World} {p : Addr} {m : Pc} (h : At4 w p m) (hk : ∀ q : Addr, q.block = p.block → w'.cell? q = w.cell? q) : At4 w' p m :=
  ⟨(hk p rfl).trans h.1, (hk ⟨p.block, p.off + 1, none⟩ rfl).trans h.2.1, (hk ⟨p.block, p.off + 2, none⟩ rfl).trans h.2.2.1, (hk ⟨p.block, p.off + 3, none⟩ rfl).trans h.2.2.2⟩
/-- A list of pieces as it lies in memory, below block B. -/
def Pcs (w : World) (B : Nat) (A : Option Addr) (l : List Pc) : Prop :=
  0 < l.length → ∃ ad, A = some ad ∧ ad.block < B ∧ ∀ j m, l[j]? = some m → At4 w (ad.add (j * 4)) m
theorem adb (a : Addr) (n : Nat) : (a.add n).block = a.block := by unfold Addr.add; split <;> rfl
theorem Pcs.keep {w w' : World} {B : Nat} {A : Option Addr} {l : List Pc} (h : Pcs w B A l) (hk : ∀ p : Addr, p.block < B → w'.cell? p = w.cell? p) : Pcs w' B A l := fun hn => by
  obtain ⟨ad, e, hb, hc⟩ := h hn
  exact ⟨ad, e, hb, fun j m hm => (hc j m hm).keep fun q hq => hk q (by rw [hq, adb]; exact hb)⟩
theorem Pcs.below {w w' : World} {B B' : Nat} {A : Option Addr} {l : List Pc} (h : Pcs w B A l) (hb : Below B' w w') (hB : B ≤ B') : Pcs w' B A l :=
  h.keep fun _ hp => hb.cell (Nat.lt_of_lt_of_le hp hB)
theorem Pcs.more {w : World} {B B' : Nat} {A : Option Addr} {l : List Pc} (h : Pcs w B A l) (hB : B ≤ B') : Pcs w B' A l := fun hn => by
  obtain ⟨ad, e, hb, hc⟩ := h hn
  exact ⟨ad, e, by omega, hc⟩
theorem Pcs.nil (w : World) (B : Nat) (A : Option Addr) : Pcs w B A [] := fun h => absurd h (by simp)

set_option maxRecDepth 100000 in
theorem ne_of_at {a b : List Pc} {k : Nat} {x y : Pc} (hx : a[k]? = some x) (hy : b[k]? = some y) (h : sameP x y = false) (d : Bool) (hd : d = true ↔ a = b) : false = d := by
  symm
  rw [← Bool.not_eq_true, hd]
  rintro rfl
  rw [hx] at hy
  injection hy with hy
  rw [(sameP_iff x y).2 hy] at h
  cases h
theorem same_take {a b : List Pc} {k : Nat} {x y : Pc} (hx : a[k]? = some x) (hy : b[k]? = some y) (h : a.take k = b.take k) (e : sameP x y = true) : a.take (k + 1) = b.take (k + 1) := by
  rw [List.take_add_one, List.take_add_one, hx, hy, h, (sameP_iff x y).1 e]
/-- Are two lists the same? -/
def samePL : List Pc → List Pc → Bool
  | [], [] => true
  | x :: a, y :: b => sameP x y && samePL a b
  | _, _ => false
set_option maxRecDepth 100000 in
theorem samePL_iff : ∀ (a b : List Pc), samePL a b = true ↔ a = b
  | [], [] => by simp [samePL]
  | [], y :: b => by simp [samePL]
  | x :: a, [] => by simp [samePL]
  | x :: a, y :: b => by
    unfold samePL
    rw [Bool.and_eq_true, sameP_iff, samePL_iff a b, List.cons.injEq]

set_option maxRecDepth 100000 in
set_option maxHeartbeats 1000000 in
theorem refPieces_any (A A' : Option Addr) (c c' B B' : Nat) (a b : List Pc) (w : World) (ha : Pcs w B A a) (hb : Pcs w B' A' b) (hl : a.length ≤ maxLen) :
    Calls Try.prog 14 #[.slice A a.length c, .slice A' b.length c'] w fun e w' => e = .returned (.bool (samePL a b)) ∧ ∃ n, w' = w.drewN n := by
  unfold maxLen at hl
  obtain ⟨D, hD⟩ : ∃ D, D = samePL a b := ⟨_, rfl⟩
  have HDI : Hid (D = true ↔ a = b) := Lib.hid (by rw [hD]; exact samePL_iff a b)
  rw [← hD]
  clear hD
  by_cases hab : a.length = b.length
  · have hbne : ((a.length : Int) != b.length) = false := by rw [hab]; simp
    have HL := Lib.hid hab; clear hab
    go_enter Try.func14, Try.ntmps14
    go_wp2
    go_loopw [5] (fun i wr => ∃ k : Nat, k ≤ a.length ∧ i = .int .i64 k ∧ a.take k = b.take k ∧ ∃ n, wr = w.drewN n) (fun i _ => a.length - (intOf i).toNat)
    case atStart => exact ⟨0, by omega, rfl, by simp, 0, rfl⟩
    case round =>
      obtain ⟨k, hk, rfl, ht, n, rfl⟩ := hrel
      have HT := Lib.hid ht; clear ht
      by_cases hlt : k < a.length
      · have hlt2 : k < b.length := by have := HL.out; omega
        obtain ⟨x, hx⟩ : ∃ x, a[k]? = some x := ⟨_, List.getElem?_eq_getElem hlt⟩
        obtain ⟨y, hy⟩ : ∃ y, b[k]? = some y := ⟨_, List.getElem?_eq_getElem hlt2⟩
        obtain ⟨ad, rfl, _, hc⟩ := ha (by omega)
        obtain ⟨ad', rfl, _, hc'⟩ := hb (by omega)
        have hck := hc k x hx
        have hck' := hc' k y hy
        have hEG := fun p q w => eqP_guard .neq p q x y w
        have hNE := neqP x y
        have HX := Lib.hid hx
        have HY := Lib.hid hy
        clear hc hc' hx hy
        cases hs : sameP x y
        · rw [hs] at hNE
          have HN := Lib.hid hs; clear hs
          obtain ⟨s1, i1, q1, d1⟩ := x
          obtain ⟨s2, i2, q2, d2⟩ := y
          simp only [pv] at hEG hNE
          obtain ⟨x0, x1, x2, x3⟩ := hck
          obtain ⟨y0, y1, y2, y3⟩ := hck'
          go_wp2_with fail
          go_quiet (fail)
          go_wp2_with fail
          go_ret
          exact ⟨ret_b (ne_of_at HX.out HY.out HN.out D HDI.out), n + nq, by rw [World.drewN_drewN]⟩
        · rw [hs] at hNE
          have HN := Lib.hid hs; clear hs
          obtain ⟨s1, i1, q1, d1⟩ := x
          obtain ⟨s2, i2, q2, d2⟩ := y
          simp only [pv] at hEG hNE
          obtain ⟨x0, x1, x2, x3⟩ := hck
          obtain ⟨y0, y1, y2, y3⟩ := hck'
          go_wp2_with fail
          go_quiet (fail)
          go_wp2_with fail
          go_roundw
          case rel => exact ⟨k + 1, by omega, by go_num, same_take HX.out HY.out HT.out HN.out, _, rfl⟩
          case measure => simp [intOf]; omega
      · have ek : k = a.length := by omega
        subst ek
        go_wp2
        go_ret
        refine ⟨ret_b ?_, _, rfl⟩
        have h1 := HT.out
        rw [List.take_length, HL.out, List.take_length] at h1
        exact (HDI.out.2 h1).symm
  · have hbne : ((a.length : Int) != b.length) = true := by simp; omega
    have hne : D = false := by rw [← Bool.not_eq_true, HDI.out]; exact fun e => hab (by rw [e])
    have HN := Lib.hid hne; clear hne hab
    go_enter Try.func14, Try.ntmps14
    go_wp2
    go_ret
    exact ⟨ret_b HN.out.symm, 0, rfl⟩

end Go.Proofs.Ytggeojjiongbbaa

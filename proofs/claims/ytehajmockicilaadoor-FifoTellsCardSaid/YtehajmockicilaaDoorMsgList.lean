/-
  Lists of messages as they lie in memory; two of them compared.
-/
import Derived.Test.YtehajmockicilaaDoorMsgEq
namespace Go.Proofs.YtehajmockicilaaDoor
open Go.RowKit

/-- A message from address p on. -/
def At7 (w : World) (p : Addr) (m : Msg) : Prop :=
  w.cell? p = some (.bool m.ext) ∧ w.cell? ⟨p.block, p.off + 1, none⟩ = some (.int .i64 m.n) ∧ w.cell? ⟨p.block, p.off + 2, none⟩ = some (.int .i64 m.sender) ∧ w.cell? ⟨p.block, p.off + 3, none⟩ = some (.int .i64 m.inc) ∧
  w.cell? ⟨p.block, p.off + 4, none⟩ = some (.int .i64 m.seq) ∧ w.cell? ⟨p.block, p.off + 5, none⟩ = some (.int .i64 m.number) ∧ w.cell? ⟨p.block, p.off + 6, none⟩ = some (.string m.data)
theorem At7.keep {w w' : World} {p : Addr} {m : Msg} (h : At7 w p m) (hk : ∀ q : Addr, q.block = p.block → w'.cell? q = w.cell? q) : At7 w' p m :=
  ⟨(hk p rfl).trans h.1, (hk ⟨p.block, p.off + 1, none⟩ rfl).trans h.2.1, (hk ⟨p.block, p.off + 2, none⟩ rfl).trans h.2.2.1, (hk ⟨p.block, p.off + 3, none⟩ rfl).trans h.2.2.2.1, (hk ⟨p.block, p.off + 4, none⟩ rfl).trans h.2.2.2.2.1, (hk ⟨p.block, p.off + 5, none⟩ rfl).trans h.2.2.2.2.2.1, (hk ⟨p.block, p.off + 6, none⟩ rfl).trans h.2.2.2.2.2.2⟩
/-- A list of messages as it lies in memory, below block B. -/
def Msgs (w : World) (B : Nat) (A : Option Addr) (l : List Msg) : Prop :=
  0 < l.length → ∃ ad, A = some ad ∧ ad.block < B ∧ ∀ j m, l[j]? = some m → At7 w (ad.add (j * 7)) m
theorem adb (a : Addr) (n : Nat) : (a.add n).block = a.block := by unfold Addr.add; split <;> rfl
theorem Msgs.keep {w w' : World} {B : Nat} {A : Option Addr} {l : List Msg} (h : Msgs w B A l) (hk : ∀ p : Addr, p.block < B → w'.cell? p = w.cell? p) : Msgs w' B A l := fun hn => by
  obtain ⟨ad, e, hb, hc⟩ := h hn
  exact ⟨ad, e, hb, fun j m hm => (hc j m hm).keep fun q hq => hk q (by rw [hq, adb]; exact hb)⟩
theorem Msgs.below {w w' : World} {B B' : Nat} {A : Option Addr} {l : List Msg} (h : Msgs w B A l) (hb : Below B' w w') (hB : B ≤ B') : Msgs w' B A l :=
  h.keep fun _ hp => hb.cell (Nat.lt_of_lt_of_le hp hB)
theorem Msgs.more {w : World} {B B' : Nat} {A : Option Addr} {l : List Msg} (h : Msgs w B A l) (hB : B ≤ B') : Msgs w B' A l := fun hn => by
  obtain ⟨ad, e, hb, hc⟩ := h hn
  exact ⟨ad, e, by omega, hc⟩
theorem Msgs.nil (w : World) (B : Nat) (A : Option Addr) : Msgs w B A [] := fun h => absurd h (by simp)

set_option maxRecDepth 100000 in
theorem ne_of_at {a b : List Msg} {k : Nat} {x y : Msg} (hx : a[k]? = some x) (hy : b[k]? = some y) (h : sameM x y = false) (d : Bool) (hd : d = true ↔ a = b) : false = d := by
  symm
  rw [← Bool.not_eq_true, hd]
  rintro rfl
  rw [hx] at hy
  injection hy with hy
  rw [(sameM_iff x y).2 hy] at h
  cases h
theorem same_take {a b : List Msg} {k : Nat} {x y : Msg} (hx : a[k]? = some x) (hy : b[k]? = some y) (h : a.take k = b.take k) (e : sameM x y = true) : a.take (k + 1) = b.take (k + 1) := by
  rw [List.take_add_one, List.take_add_one, hx, hy, h, (sameM_iff x y).1 e]
/-- Are two lists the same? -/
def sameL : List Msg → List Msg → Bool
  | [], [] => true
  | x :: a, y :: b => sameM x y && sameL a b
  | _, _ => false
set_option maxRecDepth 100000 in
theorem sameL_iff : ∀ (a b : List Msg), sameL a b = true ↔ a = b
  | [], [] => by simp [sameL]
  | [], y :: b => by simp [sameL]
  | x :: a, [] => by simp [sameL]
  | x :: a, y :: b => by
    unfold sameL
    rw [Bool.and_eq_true, sameM_iff, sameL_iff a b, List.cons.injEq]

set_option maxRecDepth 100000 in
set_option maxHeartbeats 1000000 in
theorem same_any (A A' : Option Addr) (c c' B B' : Nat) (a b : List Msg) (w : World) (ha : Msgs w B A a) (hb : Msgs w B' A' b) (hl : a.length ≤ maxLen) :
    Calls Tryd.prog 28 #[.slice A a.length c, .slice A' b.length c'] w fun e w' => e = .returned (.bool (sameL a b)) ∧ ∃ n, w' = w.drewN n := by
  unfold maxLen at hl
  obtain ⟨D, hD⟩ : ∃ D, D = sameL a b := ⟨_, rfl⟩
  have HDI : Hid (D = true ↔ a = b) := Lib.hid (by rw [hD]; exact sameL_iff a b)
  rw [← hD]
  clear hD
  by_cases hab : a.length = b.length
  · have hbne : ((a.length : Int) != b.length) = false := by rw [hab]; simp
    have HL := Lib.hid hab; clear hab
    go_enter Tryd.func28, Tryd.ntmps28
    go_wp2
    go_loopw [5] (fun i wr => ∃ k : Nat, k ≤ a.length ∧ i = .int .i64 k ∧ a.take k = b.take k ∧ ∃ n, wr = w.drewN n) (fun i _ => a.length - (intOf i).toNat)
    case atStart => exact ⟨0, by omega, rfl, by simp, 0, rfl⟩
    case round =>
      obtain ⟨k, hk, rfl, ht, n, rfl⟩ := hrel
      have HT := Lib.hid ht; clear ht
      by_cases hlt : k < a.length
      · have hlt2 : k < b.length := by have := HL.out; omega
        obtain ⟨x, hx⟩ : ∃ x, a[k]? = some x := ⟨_, List.getElem?_eq_getElem hlt⟩
        obtain ⟨y, hy⟩ : ∃ y, b[k]? = some y := ⟨_, List.getElem?_eq_getElem hlt2⟩
        obtain ⟨ad, rfl, _, hc⟩ := ha (by omega)
        obtain ⟨ad', rfl, _, hc'⟩ := hb (by omega)
        have hck := hc k x hx
        have hck' := hc' k y hy
        have hEG := fun p q w => eqM_guard .neq p q x y w
        have hNE := neqM x y
        have HX := Lib.hid hx
        have HY := Lib.hid hy
        clear hc hc' hx hy
        cases hs : sameM x y
        · rw [hs] at hNE
          have HN := Lib.hid hs; clear hs
          obtain ⟨b1, n1, s1, i1, q1, k1, d1⟩ := x
          obtain ⟨b2, n2, s2, i2, q2, k2, d2⟩ := y
          simp only [mv] at hEG hNE
          obtain ⟨x0, x1, x2, x3, x4, x5, x6⟩ := hck
          obtain ⟨y0, y1, y2, y3, y4, y5, y6⟩ := hck'
          go_wp2_with fail
          go_quiet (fail)
          go_wp2_with fail
          go_ret
          exact ⟨ret_b (ne_of_at HX.out HY.out HN.out D HDI.out), n + nq, by rw [World.drewN_drewN]⟩
        · rw [hs] at hNE
          have HN := Lib.hid hs; clear hs
          obtain ⟨b1, n1, s1, i1, q1, k1, d1⟩ := x
          obtain ⟨b2, n2, s2, i2, q2, k2, d2⟩ := y
          simp only [mv] at hEG hNE
          obtain ⟨x0, x1, x2, x3, x4, x5, x6⟩ := hck
          obtain ⟨y0, y1, y2, y3, y4, y5, y6⟩ := hck'
          go_wp2_with fail
          go_quiet (fail)
          go_wp2_with fail
          go_roundw
          case rel => exact ⟨k + 1, by omega, by go_num, same_take HX.out HY.out HT.out HN.out, _, rfl⟩
          case measure => simp [intOf]; omega
      · have ek : k = a.length := by omega
        subst ek
        go_wp2
        go_ret
        refine ⟨ret_b ?_, _, rfl⟩
        have h1 := HT.out
        rw [List.take_length, HL.out, List.take_length] at h1
        exact (HDI.out.2 h1).symm
  · have hbne : ((a.length : Int) != b.length) = true := by simp; omega
    have hne : D = false := by rw [← Bool.not_eq_true, HDI.out]; exact fun e => hab (by rw [e])
    have HN := Lib.hid hne; clear hne hab
    go_enter Tryd.func28, Tryd.ntmps28
    go_wp2
    go_ret
    exact ⟨ret_b HN.out.symm, 0, rfl⟩

end Go.Proofs.YtehajmockicilaaDoor

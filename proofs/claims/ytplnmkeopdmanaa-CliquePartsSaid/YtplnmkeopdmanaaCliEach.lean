/-
  The first sixteen ages with their places, told one by one: what clique.each hands back; Acked and Clear.
-/
import Derived.Test.YtplnmkeopdmanaaCliHear
import Derived.RangeFuncNested
namespace Go.Proofs.Ytplnmkeopdmanaa
open Go.RowKit Go.Shelf
attribute [local go_sem] Oper.semAt_some

theorem abides_below {β : Type} {B : Nat} {J : β → World → Prop} (h : AbidesFrom B J) {s : β} {W W' : World} (hs : J s W) (hb : Below W.heap.size W W') : J s W' :=
  h s W W' none hs ⟨hb.os, hb.tape, hb.output, hb.size, fun k hk _ => hb.block k hk⟩ (fun _ e => by cases e)

/-- Numbers with their places. -/
abbrev Pd := Nat × Int
def placed (l : List Int) : List Pd := (List.range l.length).map fun k => (k, l.getD k 0)
theorem placed_length (l : List Int) : (placed l).length = l.length := by simp [placed]
theorem placed_at (l : List Int) (k : Nat) (s : Int) (h : l[k]? = some s) : (placed l)[k]? = some (k, s) := by
  have hk := (List.getElem?_eq_some_iff.1 h).1
  unfold placed
  rw [List.getElem?_map, List.getElem?_range hk]
  simp [h]
theorem placed_is (l : List Int) (k : Nat) (x : Pd) (h : (placed l)[k]? = some x) : x.1 = k ∧ l[k]? = some x.2 := by
  have hk : k < l.length := by have := (List.getElem?_eq_some_iff.1 h).1; rwa [placed_length] at this
  rw [placed_at l k _ (List.getElem?_eq_getElem hk)] at h
  obtain rfl := Option.some.inj h
  exact ⟨rfl, List.getElem?_eq_getElem hk⟩
theorem placed_take (l : List Int) (k : Nat) (s : Int) (h : l[k]? = some s) : (placed l).take (k + 1) = (placed l).take k ++ [(k, s)] := by
  rw [List.take_add_one, placed_at l k s h]; rfl
abbrev se (x : Pd) : Array Value := #[.int .i64 (x.1 : Int), .int .i64 x.2]

/-- The box of the ages. -/
def BxS (w : World) (b : Nat) (A : Option Addr) (n c : Nat) : Prop := w.heap[b]? = some (.cells #[.slice A n c] 30 (0, 0))
theorem BxS.new (w : World) (A : Option Addr) (n c : Nat) : BxS (w.alloc (.cells #[.slice A n c] 30)) w.heap.size A n c := heap_new w _
theorem BxS.on {w w' : World} {b : Nat} {A : Option Addr} {n c : Nat} (h : BxS w b A n c) (hb : Below w.heap.size w w') : BxS w' b A n c := (hb.block b (Array.getElem?_eq_some_iff.1 h).1).trans h
theorem BxS.cell {w : World} {b : Nat} {A : Option Addr} {n c : Nat} (h : BxS w b A n c) : w.cell? ⟨b, 0, none⟩ = some (.slice A n c) := cell_of h 0

/-- The box, and all blocks below B, lie as they lay. -/
def KeepsP (b B : Nat) (X Y : World) : Prop := Y.heap[b]? = X.heap[b]? ∧ ∀ k, k < B → Y.heap[k]? = X.heap[k]?
theorem KeepsP.trans {b B : Nat} {X Y Z : World} (h : KeepsP b B X Y) (k : KeepsP b B Y Z) : KeepsP b B X Z := ⟨k.1.trans h.1, fun j e => (k.2 j e).trans (h.2 j e)⟩
theorem KeepsP.row {b B : Nat} {A : Option Addr} {X Y : World} {l : List Int} (h : KeepsP b B X Y) (p : Row X B A l) : Row Y B A l :=
  p.keep fun q hq => World.cell?_of_block (h.2 q.block hq)
theorem KeepsP.past {b n B : Nat} (hb : b < n) (hB : B ≤ n) (W : World) (l : Nat) (o o' : Obj) (hl : n ≤ l) (h : W.heap[l]? = some o) (_ : o.isCells = false) (_ : o.isWalk = false) : KeepsP b B W (W.putObj l o') := by
  have hl2 := (Array.getElem?_eq_some_iff.1 h).1
  have g := grownBy_putObj' W l o'
  exact ⟨g.block b (by omega) (fun e => by injection e with e; omega), fun k e => g.block _ (by omega) (fun e' => by injection e' with e'; omega)⟩
theorem KeepsP.of_below {b B n : Nat} {X Y : World} (hb : b < n) (hB : B ≤ n) (h : Below n X Y) : KeepsP b B X Y := ⟨h.block b (by omega), fun k e => h.block _ (by omega)⟩
theorem KeepsP.setCell {b B : Nat} {W : World} {p : Addr} (v : Value) (h : b ≠ p.block) (hB : B ≤ p.block) : KeepsP b B W (W.setCell p v) := ⟨Below.heap_setCell W p v b h, fun k e => Below.heap_setCell W p v k (by omega)⟩

theorem ages_in (m : Nat) (A : Option Addr) (n k : Nat) (w : World) : CallsIn Fence.wide m Try.prog 27 #[.slice A n k] w fun e w' =>
    e = .returned (.func (.func 34) #[] #[.pointer (some ⟨w.heap.size, 0, none⟩)]) ∧ w' = w.alloc (.cells #[.slice A n k] 30) := by
  have hmf : ∀ (fn : Fn) (first cap : Array Value) (w : World), (Instr.makeFunc fn first cap).run Try.prog w = .ok (.func fn first cap) w := fun _ _ _ _ => rfl
  refine callsIn_wide.2 ?_
  go_enter Try.func27, Try.ntmps27
  go_wp2
  go_ret
  exact ⟨rfl, rfl⟩

theorem isNode_in (m : Nat) (n : Int) (w : World) : CallsIn Fence.wide m Try.prog 26 #[.int .i64 n] w fun e w' => e = .returned (.bool (nodeB n)) ∧ w = w' := callsIn_wide.2 (isNode_any n w)

set_option maxRecDepth 100000 in
set_option maxHeartbeats 2000000 in
theorem each_walk (m : Nat) (hm : 1 ≤ m) (r b B : Nat) (A : Option Addr) (cp : Nat) (l : List Int) (hlm : l.length ≤ maxLen) (J Jx : List Pd → World → Prop) (W : World) (_hJ : AbidesFrom W.heap.size J)
    (hY : ∀ pre x W, J pre W → pre.length < (l.take 16).length → YieldAt Fence.wide (m - 1) Try.prog r (se x) W fun e W' =>
      (e = .returned (.bool true) ∧ J (pre ++ [x]) W' ∧ KeepsP b B W W') ∨ (e = .returned (.bool false) ∧ Jx (pre ++ [x]) W'))
    (hP : BxS W b A l.length cp) (hS : Row W B A l) (h0 : J [] W) :
    CallsIn Fence.wide m Try.prog 34 #[.func (.yield r) #[] #[], .pointer (some ⟨b, 0, none⟩)] W fun e W' => (∃ u, e = .returned u) ∧
      ((∃ ys, ys = placed (l.take 16) ∧ J ys W') ∨ (∃ pre, pre <+: placed (l.take 16) ∧ Jx pre W')) := by
  unfold maxLen at hlm
  have HY := Lib.hid hY; clear hY
  refine callsIn_of_wp Try.func34 rfl trivial ?_ rfl
  simp only [Try.ntmps34, List.size_toArray, List.length_cons, List.length_nil, Nat.reduceAdd, Nat.reduceSub, Array.replicate_succ, Array.replicate_zero, List.push_toArray, List.append_toArray, List.nil_append, List.cons_append]
  have y0 := hP.cell
  have hl16 : (l.take 16).length = min 16 l.length := List.length_take
  gi_wp2
  clear y0
  gi_loopw [7] (fun ix wr => ∃ k : Nat, k ≤ l.length ∧ k ≤ 16 ∧ ix = .int .i64 k ∧ J ((placed (l.take 16)).take k) wr ∧ Row wr B A l) (fun ix _ => l.length - (intOf ix).toNat)
  case atStart => exact ⟨0, by omega, by omega, rfl, h0, hS⟩
  case round =>
    obtain ⟨k, hk, hk16, rfl, hj, hsl⟩ := hrel
    have HJR := Lib.hid hj; clear hj
    have HSL := Lib.hid hsl
    by_cases hlt : k < l.length
    · have hkI : (k : Int) < (l.length : Int) := by omega
      obtain ⟨s, hs⟩ : ∃ s, l[k]? = some s := ⟨_, List.getElem?_eq_getElem hlt⟩
      obtain ⟨ad, rfl, hadb, hcc⟩ := hsl (by omega)
      have x0 := hcc k s hs
      clear hcc hsl
      have cn := fun w => isNode_in (m - 1) k w
      by_cases hlt2 : k < 16
      · rw [nodeB_nat k hlt2] at cn
        have HS : Hid ((l.take 16)[k]? = some s) := Lib.hid (by rw [List.getElem?_take_of_lt hlt2]; exact hs)
        clear hs
        obtain ⟨fn, tmps, assign, body, hy, hR⟩ := HY.out _ (k, s) _ HJR.out (by rw [List.length_take, placed_length]; omega)
        dsimp only [se] at hy
        gi_wp2_with fail
        refine ⟨trivial, (cn _).mono ?_⟩
        rintro e w1 ⟨rfl, rfl⟩
        clear cn
        gi_wp2_with fail
        refine hR.mono ?_
        clear hy hR x0
        rintro e W3 (⟨rfl, hJ3, hk3⟩ | ⟨rfl, hJx3⟩)
        · have HS3 := Lib.hid (hk3.row HSL.out)
          have HJ3 := Lib.hid hJ3
          clear hJ3 hk3
          gi_wp2
          go_roundw
          case rel => exact ⟨k + 1, by omega, by omega, by go_num, by rw [placed_take _ k _ HS.out]; exact HJ3.out, HS3.out⟩
          case measure => simp [intOf]; omega
        · have HJX := Lib.hid hJx3
          clear hJx3
          gi_wp2
          refine bodyPost_ret (results_none rfl _ _ _) rfl ?_
          exact ⟨⟨_, rfl⟩, .inr ⟨_, by rw [← placed_take _ k _ HS.out]; exact List.take_prefix _ _, HJX.out⟩⟩
      · rw [(nodeB_no k).2 (by omega)] at cn
        have hJ' := HJR.out
        rw [List.take_of_length_le (by rw [placed_length]; omega)] at hJ'
        have HJ' := Lib.hid hJ'
        clear hJ' hs
        gi_wp2_with fail
        refine ⟨trivial, (cn _).mono ?_⟩
        rintro e w1 ⟨rfl, rfl⟩
        clear cn
        gi_wp2
        refine ⟨fun _ h => (by cases h), ?_⟩
        gi_wp2
        refine bodyPost_ret (results_none rfl _ _ _) rfl ?_
        exact ⟨⟨_, rfl⟩, .inl (by first | exact HJ'.out | exact ⟨_, rfl, HJ'.out⟩)⟩
    · have ek : k = l.length := by omega
      have hkI : ¬ (k : Int) < (l.length : Int) := by omega
      have hJ' := HJR.out
      rw [List.take_of_length_le (by rw [placed_length]; omega)] at hJ'
      have HJ' := Lib.hid hJ'
      clear hJ'
      gi_wp2
      go_end0
      exact ⟨⟨_, rfl⟩, .inl (by first | exact HJ'.out | exact ⟨_, rfl, HJ'.out⟩)⟩

theorem each_stop (m : Nat) (hm : 1 ≤ m) (b B : Nat) (A : Option Addr) (cp : Nat) (l : List Int) (hlm : l.length ≤ maxLen) (w : World) (hP : BxS w b A l.length cp) (hS : Row w B A l) (hB : B ≤ w.heap.size) :
    SeqStopsK Fence.wide m Try.prog 34 #[.pointer (some ⟨b, 0, none⟩)] se (KeepsP b B) (fun ys => ys = placed (l.take 16)) (fun pre => pre <+: placed (l.take 16)) (l.take 16).length w := fun r J Jx W hW hJ _ hY h0 =>
  each_walk m hm r b B A cp l hlm J Jx W hJ hY (hP.on hW) (hS.below hW hB) h0

end Go.Proofs.Ytplnmkeopdmanaa

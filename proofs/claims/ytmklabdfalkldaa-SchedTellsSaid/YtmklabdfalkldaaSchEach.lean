/-
  A plan's slots, told one by one: what sched.each hands back.
-/
import Derived.Test.YtmklabdfalkldaaSchBase
import Derived.RangeFuncNested
namespace Go.Proofs.Ytmklabdfalkldaa
open Go.RowKit Go.Shelf
attribute [local go_sem] Oper.semAt_some

theorem abides_below {β : Type} {B : Nat} {J : β → World → Prop} (h : AbidesFrom B J) {s : β} {W W' : World} (hs : J s W) (hb : Below W.heap.size W W') : J s W' :=
  h s W W' none hs ⟨hb.os, hb.tape, hb.output, hb.size, fun k hk _ => hb.block k hk⟩ (fun _ e => by cases e)

/-- The slots with their places. -/
abbrev Pd := Nat × (Int × Int)
def placed (l : Pl) : List Pd := (List.range l.length).map fun k => (k, l.getD k (0, 0))
theorem placed_length (l : Pl) : (placed l).length = l.length := by simp [placed]
theorem placed_at (l : Pl) (k : Nat) (s : Int × Int) (h : l[k]? = some s) : (placed l)[k]? = some (k, s) := by
  have hk := (List.getElem?_eq_some_iff.1 h).1
  unfold placed
  rw [List.getElem?_map, List.getElem?_range hk]
  simp [h]
theorem placed_is (l : Pl) (k : Nat) (x : Pd) (h : (placed l)[k]? = some x) : x.1 = k ∧ l[k]? = some x.2 := by
  have hk : k < l.length := by have := (List.getElem?_eq_some_iff.1 h).1; rwa [placed_length] at this
  rw [placed_at l k _ (List.getElem?_eq_getElem hk)] at h
  obtain rfl := Option.some.inj h
  exact ⟨rfl, List.getElem?_eq_getElem hk⟩
theorem placed_take (l : Pl) (k : Nat) (s : Int × Int) (h : l[k]? = some s) : (placed l).take (k + 1) = (placed l).take k ++ [(k, s)] := by
  rw [List.take_add_one, placed_at l k s h]; rfl
theorem placed_snd (l : Pl) : (placed l).map Prod.snd = l := by
  refine List.ext_getElem? fun k => ?_
  rw [List.getElem?_map]
  rcases Nat.lt_or_ge k l.length with h | h
  · rw [placed_at l k _ (List.getElem?_eq_getElem h), List.getElem?_eq_getElem h]; rfl
  · rw [List.getElem?_eq_none (by rw [placed_length]; omega), List.getElem?_eq_none h]; rfl
abbrev se (x : Pd) : Array Value := #[.int .i64 (x.1 : Int), .agg #[.int .i64 x.2.1, .int .i64 x.2.2]]

/-- The plan's box, and all blocks below B, lie as they lay. -/
def KeepsP (b B : Nat) (X Y : World) : Prop := Y.heap[b]? = X.heap[b]? ∧ ∀ k, k < B → Y.heap[k]? = X.heap[k]?
theorem KeepsP.trans {b B : Nat} {X Y Z : World} (h : KeepsP b B X Y) (k : KeepsP b B Y Z) : KeepsP b B X Z := ⟨k.1.trans h.1, fun j e => (k.2 j e).trans (h.2 j e)⟩
theorem KeepsP.pl {b B : Nat} {A' : Option Addr} {X Y : World} {n k : Nat} {c : Int} (h : KeepsP b B X Y) (p : PlAt X b A' n k c) : PlAt Y b A' n k c := h.1.trans p
theorem KeepsP.sls {b B : Nat} {A : Option Addr} {X Y : World} {l : Pl} (h : KeepsP b B X Y) (p : Sls X B A l) : Sls Y B A l :=
  p.keep fun q hq => World.cell?_of_block (h.2 q.block hq)
theorem KeepsP.past {b n B : Nat} (hb : b < n) (hB : B ≤ n) (W : World) (l : Nat) (o o' : Obj) (hl : n ≤ l) (h : W.heap[l]? = some o) (_ : o.isCells = false) (_ : o.isWalk = false) : KeepsP b B W (W.putObj l o') := by
  have hl2 := (Array.getElem?_eq_some_iff.1 h).1
  have g := grownBy_putObj' W l o'
  exact ⟨g.block b (by omega) (fun e => by injection e with e; omega), fun k e => g.block _ (by omega) (fun e' => by injection e' with e'; omega)⟩
theorem KeepsP.of_below {b B : Nat} {X Y : World} (hb : b < X.heap.size) (hB : B ≤ X.heap.size) (h : Below X.heap.size X Y) : KeepsP b B X Y := ⟨h.block b hb, fun k e => h.block _ (by omega)⟩
theorem KeepsP.setCell {b B : Nat} {W : World} {p : Addr} (v : Value) (h : b ≠ p.block) (hB : B ≤ p.block) : KeepsP b B W (W.setCell p v) := ⟨Below.heap_setCell W p v b h, fun k e => Below.heap_setCell W p v k (by omega)⟩

theorem slots_in (m : Nat) (A : Option Addr) (n k : Nat) (c : Int) (w : World) : CallsIn Fence.wide m Try.prog 32 #[pv A n k c] w fun e w' =>
    e = .returned (.func (.func 43) #[] #[.pointer (some ⟨w.heap.size, 0, none⟩)]) ∧ w' = w.alloc (.cells #[.slice A n k, .int .i64 c] 25) := by
  refine callsIn_wide.2 ?_
  go_enter Try.func32, Try.ntmps32
  go_wp2
  go_ret
  exact ⟨rfl, rfl⟩

set_option maxRecDepth 100000 in
set_option maxHeartbeats 2000000 in
theorem each_walk (m : Nat) (hm : 1 ≤ m) (r b B : Nat) (A : Option Addr) (cp : Nat) (c : Int) (l : Pl) (hlm : l.length ≤ maxLen) (J Jx : List Pd → World → Prop) (W : World) (hJ : AbidesFrom W.heap.size J)
    (hY : ∀ pre x W, J pre W → pre.length < l.length → YieldAt Fence.wide (m - 1) Try.prog r (se x) W fun e W' =>
      (e = .returned (.bool true) ∧ J (pre ++ [x]) W' ∧ KeepsP b B W W') ∨ (e = .returned (.bool false) ∧ Jx (pre ++ [x]) W'))
    (hP : PlAt W b A l.length cp c) (hS : Sls W B A l) (h0 : J [] W) :
    CallsIn Fence.wide m Try.prog 43 #[.func (.yield r) #[] #[], .pointer (some ⟨b, 0, none⟩)] W fun e W' => (∃ u, e = .returned u) ∧
      ((∃ ys, ys = placed l ∧ J ys W') ∨ (∃ pre, pre <+: placed l ∧ Jx pre W')) := by
  unfold maxLen at hlm
  have HY := Lib.hid hY; clear hY
  refine callsIn_of_wp Try.func43 rfl trivial ?_ rfl
  simp only [Try.ntmps43, List.size_toArray, List.length_cons, List.length_nil, Nat.reduceAdd, Nat.reduceSub, Array.replicate_succ, Array.replicate_zero, List.push_toArray, List.append_toArray, List.nil_append, List.cons_append]
  obtain ⟨y0, y1⟩ := hP.cells
  gi_wp2
  clear y0 y1
  gi_loopw [8] (fun ix wr => ∃ k : Nat, k ≤ l.length ∧ ix = .int .i64 k ∧ J ((placed l).take k) wr ∧ Sls wr B A l) (fun ix _ => l.length - (intOf ix).toNat)
  case atStart => exact ⟨0, by omega, rfl, h0, hS⟩
  case round =>
    obtain ⟨k, hk, rfl, hj, hsl⟩ := hrel
    have HJR := Lib.hid hj; clear hj
    have HSL := Lib.hid hsl
    by_cases hlt : k < l.length
    · have hkI : (k : Int) < (l.length : Int) := by omega
      obtain ⟨s, hs⟩ : ∃ s, l[k]? = some s := ⟨_, List.getElem?_eq_getElem hlt⟩
      obtain ⟨ad, rfl, hadb, hcc⟩ := hsl (by omega)
      obtain ⟨x0, x1⟩ := hcc k s hs
      have HS := Lib.hid hs; clear hs hcc
      clear hsl
      obtain ⟨s1, s2⟩ := s
      have hbl := Joins.below_alloc1 wr (.cells #[.int .i64 s1, .int .i64 s2] 45)
      have HJ1 := Lib.hid (abides_below hJ HJR.out hbl)
      have HS1 := Lib.hid (HSL.out.on hbl)
      clear hbl
      obtain ⟨fn, tmps, assign, body, hy, hR⟩ := HY.out _ (k, (s1, s2)) _ HJ1.out (by rw [List.length_take, placed_length]; omega)
      dsimp only [se] at hy
      gi_wp2_with fail
      refine hR.mono ?_
      clear hy hR x0 x1
      rintro e W3 (⟨rfl, hJ3, hk3⟩ | ⟨rfl, hJx3⟩)
      · have HS3 := Lib.hid (hk3.sls HS1.out)
        have HJ3 := Lib.hid hJ3
        clear hJ3 hk3
        gi_wp2
        go_roundw
        case rel => exact ⟨k + 1, by omega, by go_num, by rw [placed_take l k _ HS.out]; exact HJ3.out, HS3.out⟩
        case measure => simp [intOf]; omega
      · have HJX := Lib.hid hJx3
        clear hJx3
        gi_wp2
        refine bodyPost_ret (results_none rfl _ _ _) rfl ?_
        exact ⟨⟨_, rfl⟩, .inr ⟨_, by rw [← placed_take l k _ HS.out]; exact List.take_prefix _ _, HJX.out⟩⟩
    · have ek : k = l.length := by omega
      have hkI : ¬ (k : Int) < (l.length : Int) := by omega
      have hJ' := HJR.out
      rw [List.take_of_length_le (by rw [placed_length]; omega)] at hJ'
      gi_wp2
      go_end0
      exact ⟨⟨_, rfl⟩, .inl (by first | exact hJ' | exact ⟨_, rfl, hJ'⟩)⟩

theorem each_stop (m : Nat) (hm : 1 ≤ m) (b B : Nat) (A : Option Addr) (cp : Nat) (c : Int) (l : Pl) (hlm : l.length ≤ maxLen) (w : World) (hP : PlAt w b A l.length cp c) (hS : Sls w B A l) :
    SeqStopsK Fence.wide m Try.prog 43 #[.pointer (some ⟨b, 0, none⟩)] se (KeepsP b B) (fun ys => ys = placed l) (fun pre => pre <+: placed l) l.length w := fun r J Jx W hW hJ _ hY h0 =>
  each_walk m hm r b B A cp c l hlm J Jx W hJ hY (hP.on hW) (hS.on hW) h0

end Go.Proofs.Ytmklabdfalkldaa

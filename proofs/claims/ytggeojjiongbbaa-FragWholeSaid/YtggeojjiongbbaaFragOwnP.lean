/-
  A list of texts in memory of its own: the program's.
-/
import Derived.Test.YtggeojjiongbbaaFragGat
import Derived.Test.YtggeojjiongbbaaFragTake
import Derived.Test.YtggeojjiongbbaaFragFunc
namespace Go.Proofs.Ytggeojjiongbbaa
open Go.RowKit

section
variable {ops : Array Oper} {rest : List Oper} {o : Oper} {a : Act} {w : World} {Q : Exit → Act → World → Prop}
set_option maxRecDepth 100000 in
/-- 'append(u, ..)' of texts at an operation. -/
theorem list_appS (hw : Region.wanted o (yielded ops a.tmps) = true) (s x : Operand) (ho : o.op = .call { callee := .builtin .append, args := #[s, x], argTypes := #[27, 27] })
    (B B' : Nat) (u : Value) (l m : List ByteArray) (A : Option Addr) (n c : Nat) (hs : a.eval s = u) (hx : a.eval x = .slice A n c) (hn : n = m.length) (h : OwnS w B u l) (hr : Strs w B' A m) (hB : B ≤ w.heap.size) (hl : l.length + m.length ≤ 8796093022207)
    (hK : ∀ u' w', OwnS w' B u' (l ++ m) → w.grownBy w' u.ownBlock → wpList Try.prog ops Q rest (a.put o.dst u') w') : wpList Try.prog ops Q (o :: rest) a w :=
  wpList_step fun K hK' => by
    rw [if_pos hw]
    subst hn
    obtain ⟨u', w', hrun, h2, h3⟩ := run_appS w B B' o.type u l m A c h hr hB hl
    unfold Oper.wp
    simp [execOp, ho, resolve, invoke, builtin, hs, hx, hrun, Result.andThen]
    exact hK' _ _ (hK u' w' h2 h3)
end
theorem Strs.one {w : World} {g : Nat} {d : ByteArray} (h : w.heap[g]? = some (.cells #[.string d] 9 (0, 0))) : Strs w (g + 1) (some ⟨g, 0, none⟩) [d] := fun _ => by
  refine ⟨_, rfl, by show g < g + 1; omega, fun j x hx => ?_⟩
  have hj : j = 0 := by have := (List.getElem?_eq_some_iff.1 hx).1; simp at this; exact this
  subst hj
  have : d = x := by simpa using hx
  rw [← this, add_zero]
  exact (cell_of h 0).trans rfl

set_option maxRecDepth 100000 in
set_option maxHeartbeats 2000000 in
theorem owned_any (A : Option Addr) (c B : Nat) (l : List ByteArray) (w : World) (h : Strs w B A l) (hB : B ≤ w.heap.size) (hl : l.length ≤ 1000000) (hz : ∀ d ∈ l, d.size ≤ 1000000) :
    Calls Try.prog 43 #[.slice A l.length c] w fun e w' => ∃ u, e = .returned u ∧ OwnS w' w.heap.size u l ∧ Below w.heap.size w w' := by
  have HZ := Lib.hid hz; clear hz
  go_enter Try.func43, Try.ntmps43
  go_wp2
  go_loopw [3, 8] (fun u ix wr => ∃ k : Nat, k ≤ l.length ∧ ix = .int .i64 k ∧ OwnS wr w.heap.size u (l.take k) ∧ Below w.heap.size w wr) (fun _ ix _ => l.length - (intOf ix).toNat)
  case atStart => exact ⟨0, by omega, rfl, OwnS.nil _ _, Below.refl _ _⟩
  case round =>
    obtain ⟨k, hk, rfl, ho, hb⟩ := hrel
    have HO := Lib.hid ho; clear ho
    have HB := Lib.hid hb; clear hb
    by_cases hlt : k < l.length
    · obtain ⟨d, hd⟩ : ∃ d, l[k]? = some d := ⟨_, List.getElem?_eq_getElem hlt⟩
      obtain ⟨ad, rfl, _, hc⟩ := h.below HB.out hB (by omega)
      have hck := hc k d hd
      have cc := fun W => clone_any d (by have := HZ.out d (List.mem_of_getElem? hd); omega) W
      have HT : Hid (l.take (k + 1) = l.take k ++ [d]) := Lib.hid (by rw [List.take_add_one, hd]; rfl)
      clear hc hd
      go_wp2_with fail; refine (cc _).mono ?_; rintro e w1 ⟨rfl, b1⟩
      have HB1 := Lib.hid (HB.out.trans (b1.mono HB.out.size))
      have HO1 := Lib.hid (HO.out.on b1)
      clear b1 cc
      have hsz := HB1.out.size
      have HO2 := Lib.hid (HO1.out.on (Joins.below_alloc1 w1 (.cells #[.string d] 9)))
      go_wp2_with (at_builtin; refine list_appS (by rfl) _ _ rfl w.heap.size _ _ _ [d] _ _ _ rfl rfl rfl HO2.out (Strs.one (heap_alloc_new w1 _)) (by simp; omega) (by rw [List.length_take, List.length_singleton]; omega) ?_; intro u' w5 hown5 hg5)
      have HO5 := Lib.hid hown5; clear hown5
      have HB5 := Lib.hid ((HB1.out.alloc hsz (.cells #[.string d] 9)).grown hg5 (by simp; omega) (fun g e => (World.ownsRow.lt HO2.out g e).1))
      clear hg5
      go_roundw
      case rel => exact ⟨k + 1, by omega, by go_num, by rw [HT.out]; exact HO5.out, HB5.out⟩
      case measure => simp [intOf]; omega
    · have ek : k = l.length := by omega
      subst ek
      have hO := HO.out
      rw [List.take_length] at hO
      have HO' := Lib.hid hO; clear hO
      go_wp2_with fail
      go_ret
      exact ⟨_, rfl, HO'.out, HB.out⟩

end Go.Proofs.Ytggeojjiongbbaa

/-
  Whether each slot has as many ticks as it may, by the program: a loop over what sched.each hands back, left by a return.
-/
import Derived.Test.YtmklabdfalkldaaSchAhead
namespace Go.Proofs.Ytmklabdfalkldaa
open Go.RowKit Go.Shelf
attribute [local go_sem] Oper.semAt_some

theorem tickB_within (x : Int) : withinB 1 1000 x = tickB x := rfl
def tickedB (l : Pl) : Bool := l.all fun s => tickB s.2
theorem ticked_all {l : Pl} (h : ∀ x ∈ placed l, tickB x.2.2 = true) : true = tickedB l := by
  symm
  unfold tickedB
  rw [List.all_eq_true]
  intro s hs
  obtain ⟨k, hk⟩ := List.getElem?_of_mem hs
  exact h _ (List.mem_of_getElem? (placed_at l k s hk))
theorem ticked_not {l : Pl} {pre : List Pd} {x : Pd} (hp : pre ++ [x] <+: placed l) (h : tickB x.2.2 = false) : false = tickedB l := by
  symm
  unfold tickedB
  rw [List.all_eq_false]
  have hx : x ∈ placed l := hp.subset (by simp)
  refine ⟨x.2, ?_, by rw [h]; decide⟩
  rw [← placed_snd l]
  exact List.mem_map.2 ⟨x, hx, rfl⟩

set_option maxRecDepth 100000 in
set_option maxHeartbeats 2000000 in
theorem ticked_in (m : Nat) (hm : 4 ≤ m) (A : Option Addr) (cp : Nat) (c : Int) (l : Pl) (hlm : l.length ≤ maxLen) (w : World) (hS : Sls w w.heap.size A l) : CallsIn Fence.wide m Try.prog 30 #[pv A l.length cp c] w fun e W' => e = .returned (.bool (tickedB l)) ∧ Below w.heap.size w W' := by
  have h1 : 1 ≤ m := by omega
  refine callsIn_of_wp_marks Try.func30 rfl trivial ?_ rfl
  simp only [Try.ntmps30, List.size_toArray, List.length_cons, List.length_nil, Nat.reduceAdd, Nat.reduceSub, Array.replicate_succ, Array.replicate_zero, List.push_toArray, List.append_toArray, List.nil_append, List.cons_append]
  gi_wp2_with fail
  refine ⟨trivial, (slots_in (m - 1) _ _ _ _ _).mono ?_⟩
  rintro e w' ⟨rfl, rfl⟩
  gi_wp2_with fail
  have bV := (Boxed.new (w.alloc (.cells #[.slice A l.length cp, .int .i64 c] 25)) 4 (.bool false)).alloc (.cells #[.slice A l.length cp, .int .i64 c] 25)
  have bP := PlAt.new ((w.alloc (.cells #[.slice A l.length cp, .int .i64 c] 25)).alloc (.cells #[.bool false] 4)) A l.length cp c
  have bB : Below w.heap.size w (((w.alloc (.cells #[.slice A l.length cp, .int .i64 c] 25)).alloc (.cells #[.bool false] 4)).alloc (.cells #[.slice A l.length cp, .int .i64 c] 25)) := (((Below.refl _ w).alloc (Nat.le_refl _) _).alloc (by simp) _).alloc (by simp; omega) _
  have hs3 : (((w.alloc (.cells #[.slice A l.length cp, .int .i64 c] 25)).alloc (.cells #[.bool false] 4)).alloc (.cells #[.slice A l.length cp, .int .i64 c] 25)).heap.size = w.heap.size + 3 := by simp
  simp only [World.size_alloc] at bV bP
  generalize ((w.alloc (.cells #[.slice A l.length cp, .int .i64 c] 25)).alloc (.cells #[.bool false] 4)).alloc (.cells #[.slice A l.length cp, .int .i64 c] 25) = X3 at *
  have bS := hS.below bB (Nat.le_refl _)
  clear hS
  refine wpIn_rangeFunc_ownH rfl h1 (gf := 43) (lb := #[.pointer (some ⟨w.heap.size + 2, 0, none⟩)]) rfl trivial (enters_of Try.func43 (by kernel_rfl) rfl)
    (each_stop (m - 1) (by omega) (w.heap.size + 2) w.heap.size A cp c l hlm _ bP bS) KeepsP.trans (KeepsP.past (by omega) (by omega)) (Below.refl _ _) (fun _ => rfl)
    (fun pre W => ((∃ u, Boxed W (w.heap.size + 1) 4 u) ∧ Below w.heap.size w W) ∧ w.heap.size + 3 ≤ W.heap.size ∧ ∀ x ∈ pre, tickB x.2.2 = true)
    (fun c pre W => c = .ret ∧ (∃ p x, pre = p ++ [x] ∧ tickB x.2.2 = false) ∧ Boxed W (w.heap.size + 1) 4 (.bool false) ∧ Below w.heap.size w W)
    (OwnFrom.and (OwnFrom.and (fun _ X Y row ⟨u, hs⟩ hg hr => ⟨u, (Own.from (boxed_own _ _ (fun _ : Unit => u)) _) () X Y row hs hg hr⟩) (ownFrom_below (Nat.le_refl _) (by omega))) (OwnFrom.and (fun s A B row hs hg hr => Nat.le_trans hs hg.size) (fun s A B row hs hg hr => hs)))
    (fun c => OwnFrom.and (fun _ _ _ _ h _ _ => h) (OwnFrom.and (fun _ _ _ _ h _ _ => h) (OwnFrom.and (Own.from (boxed_own _ _ (fun _ => .bool false)) _) (ownFrom_below (Nat.le_refl _) (by omega)))))
    ⟨⟨⟨_, bV⟩, bB⟩, by omega, fun x hx => absurd hx (by simp)⟩
    (fun x a' W => ∃ g, w.heap.size + 3 ≤ g ∧ SlAt W g x.2 ∧ a' = { tmps := #[pv A l.length cp c, .pointer (some ⟨w.heap.size, 0, none⟩), .pointer (some ⟨w.heap.size + 1, 0, none⟩), undef, .pointer (some ⟨g, 0, none⟩), pv A l.length cp c, .func (.func 43) #[] #[.pointer (some ⟨w.heap.size + 2, 0, none⟩)], .int .i64 (x.1 : Int), .agg #[.int .i64 x.2.1, .int .i64 x.2.2], undef, undef, undef, undef], defers := [] })
    (fun x a' => ?own) ?assign ?body ?done ?stop
  case own =>
    rintro _ X Y row ⟨g, hg0, hp, ha⟩ hg hrow
    exact ⟨g, hg0, slAt_kept hp hg (fun r e => (hrow r e).2), ha⟩
  case assign =>
    intro r pre x W K hi hK
    have hsz := hi.2.1
    have hi2 : ((∃ u, Boxed (W.alloc (.cells #[.int .i64 x.2.1, .int .i64 x.2.2] 45)) (w.heap.size + 1) 4 u) ∧ Below w.heap.size w (W.alloc (.cells #[.int .i64 x.2.1, .int .i64 x.2.2] 45))) ∧ w.heap.size + 3 ≤ (W.alloc (.cells #[.int .i64 x.2.1, .int .i64 x.2.2] 45)).heap.size ∧ ∀ x ∈ pre, tickB x.2.2 = true :=
      ⟨⟨⟨_, hi.1.1.choose_spec.alloc _⟩, hi.1.2.alloc (by omega) _⟩, by simp; omega, hi.2.2⟩
    have hko := (KeepsOthers.alloc W (.cells #[.int .i64 x.2.1, .int .i64 x.2.2] 45)).from X3.heap.size
    have hkp : KeepsP (w.heap.size + 2) w.heap.size W (W.alloc (.cells #[.int .i64 x.2.1, .int .i64 x.2.2] 45)) := KeepsP.of_below (by omega) (by omega) (Joins.below_alloc1 W _)
    have hpn := SlAt.new W x.2
    have HK := Lib.hid (fun a' h => hK a' _ hko hkp hi2 h)
    clear hK hko hkp hi2 hi
    obtain ⟨x1, x2, x3⟩ := x
    simp only at *
    gi_wp2
    refine HK.out _ ⟨W.heap.size, by omega, hpn, ?_⟩
    rfl
  case body =>
    rintro r pre x a' W - - ⟨⟨⟨u, hv⟩, hB⟩, hW, hne⟩ ⟨g, hg0, hp, rfl⟩ hlt
    have hc := hv.cell
    have hf := hv.frozen
    obtain ⟨x0, x1⟩ := hp.cells
    clear hlt
    have HNE := Lib.hid hne; clear hne
    have cw := fun W => CallsIn.inRound r (callsIn_wide (n := m - 1 - 1 - 1) |>.2 (within_any 1 1000 x.2.2 W))
    rw [tickB_within] at cw
    obtain ⟨p1, p2, p3⟩ := x
    simp only at *
    cases ht : tickB p3
    · rw [ht] at cw
      have HT := Lib.hid ht; clear ht
      gi_wp2_with fail
      refine ⟨trivial, fun _ => by omega, (cw _).mono ?_⟩
      rintro e W1 ⟨rfl, rfl⟩
      gi_wp2_with fail
      refine ⟨(KeepsOthers.setCell _ _ _).from _, rfl, ⟨pre, (p1, p2, p3), rfl, HT.out⟩, hv.set _, hB.setCell (p := ⟨w.heap.size + 1, 0, none⟩) (by show w.heap.size ≤ w.heap.size + 1; omega) _⟩
    · rw [ht] at cw
      have HT := Lib.hid ht; clear ht
      gi_wp2_with fail
      refine ⟨trivial, fun _ => by omega, (cw _).mono ?_⟩
      rintro e W1 ⟨rfl, rfl⟩
      gi_wp2_with fail
      refine ⟨KeepsFrom.refl _ _, ⟨rfl, fun _ _ => rfl⟩, ⟨⟨_, hv⟩, hB⟩, hW, ?_⟩
      intro x hx
      rcases List.mem_append.1 hx with h | h
      · exact HNE.out x h
      · rw [List.mem_singleton.1 h]; exact HT.out
  case done =>
    rintro D ys W hD rfl ⟨⟨⟨u, hv⟩, hB⟩, hW, hne⟩ hK
    have hc := hv.cell
    have hf := hv.frozen
    have HE := Lib.hid (ticked_all hne)
    clear hne
    gi_wp2
    have hv2 := hv.set (.bool true)
    have hB2 := hB.setCell (p := ⟨w.heap.size + 1, 0, none⟩) (by show w.heap.size ≤ w.heap.size + 1; omega) (.bool true)
    have hK2 := (Below.heap_setCell W ⟨w.heap.size + 1, 0, none⟩ (.bool true) D (by show D ≠ w.heap.size + 1; omega)).trans hK
    generalize W.setCell ⟨w.heap.size + 1, 0, none⟩ (.bool true) = V at *
    refine ⟨by simp, .inl ⟨_, _, rfl, run_takeDeferred hK2, ?_⟩⟩
    have hc5 := (hv2.kept (grownBy_putObj' V D (.deferred none)) (fun e => by have := Option.some.inj e; omega)).cell
    refine ⟨.bool true, by simp [results, Try.f30, go_sem, hc5], ret_b HE.out, hB2.trans (belowK_b (w := w) (Nat.le_refl _) V D _ _ (by omega) hK2 rfl rfl)⟩
  case stop =>
    rintro D c pre W hD hpre ⟨rfl, ⟨p, x, rfl, hx⟩, hv, hB⟩ hK
    have hc := hv.cell
    have HE := Lib.hid (ticked_not hpre hx)
    clear hpre
    gi_wp2
    refine ⟨by simp, .inl ⟨_, _, rfl, run_takeDeferred hK, ?_⟩⟩
    have hc5 := (hv.kept (grownBy_putObj' W D (.deferred none)) (fun e => by have := Option.some.inj e; omega)).cell
    refine ⟨.bool false, by simp [results, Try.f30, go_sem, hc5], ret_b HE.out, hB.trans (belowK_b (w := w) (Nat.le_refl _) W D _ _ (by omega) hK rfl rfl)⟩

end Go.Proofs.Ytmklabdfalkldaa

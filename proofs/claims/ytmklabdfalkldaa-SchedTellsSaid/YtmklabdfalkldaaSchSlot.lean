/-
  The place of a node's slot, by the program.
-/
import Derived.Test.YtmklabdfalkldaaSchRight
namespace Go.Proofs.Ytmklabdfalkldaa
open Go.RowKit Go.Shelf
attribute [local go_sem] Oper.semAt_some

theorem slot_none {l : Pl} {n : Int} (h : ∀ x ∈ placed l, x.2.1 ≠ n) : slotK l n = none := slotK_none fun j s hs => h _ (List.mem_of_getElem? (placed_at l j s hs))
theorem slot_found {l : Pl} {n : Int} {pre : List Pd} {x : Pd} (hp : pre ++ [x] <+: placed l) (hb : ∀ y ∈ pre, y.2.1 ≠ n) (hx : x.2.1 = n) : slotK l n = some x.1 := by
  obtain ⟨t, ht⟩ := hp
  have hx2 : (placed l)[pre.length]? = some x := by rw [← ht]; simp
  obtain ⟨e1, e2⟩ := placed_is l _ x hx2
  rw [e1]
  refine slotK_some e2 hx fun j y hj hy => ?_
  have hy2 := placed_at l j y hy
  rw [← ht, List.append_assoc, List.getElem?_append_left hj] at hy2
  exact hb _ (List.mem_of_getElem? hy2)
theorem slot_tuple {l : Pl} {c n : Int} {k : Nat} (hr : rightS l c = true) (h : slotK l n = some k) : Ending.returned (.tuple #[.int .i64 (k : Int), .bool true]) = .returned (.tuple #[.int .i64 (slotV l c n), .bool (slotB l c n)]) := by
  unfold slotV slotB; rw [hr, h]; rfl
theorem slot_tuple0 {l : Pl} {c n : Int} (h : rightS l c = false ∨ slotK l n = none) : Ending.returned (.tuple #[.int .i64 0, .bool false]) = .returned (.tuple #[.int .i64 (slotV l c n), .bool (slotB l c n)]) := by
  unfold slotV slotB
  rcases h with h | h
  · rw [h]; rfl
  · rw [h]; cases rightS l c <;> rfl

theorem right_in (m : Nat) (A : Option Addr) (cp : Nat) (c : Int) (l : Pl) (hlm : l.length ≤ maxLen) (w : World) (hS : Sls w w.heap.size A l) :
    CallsIn Fence.wide m Try.prog 11 #[pv A l.length cp c] w fun e W' => e = .returned (.bool (rightS l c)) ∧ Below w.heap.size w W' := callsIn_wide.2 (right_any A cp c l hlm w hS)

theorem Boxed.on {W W' : World} {B : Nat} {t : TypeId} {v : Value} (h : Boxed W B t v) (hb : Below W.heap.size W W') : Boxed W' B t v := (hb.block B h.lt).trans h

set_option maxRecDepth 100000 in
set_option maxHeartbeats 2000000 in
theorem slotP_in (m : Nat) (hm : 4 ≤ m) (A : Option Addr) (cp : Nat) (c : Int) (l : Pl) (hlm : l.length ≤ maxLen) (n : Int) (w : World) (hS : Sls w w.heap.size A l) : CallsIn Fence.wide m Try.prog 18 #[pv A l.length cp c, .int .i64 n] w fun e W' => e = .returned (.tuple #[.int .i64 (slotV l c n), .bool (slotB l c n)]) ∧ Below w.heap.size w W' := by
  have h1 : 1 ≤ m := by omega
  have bC := PlAt.new w A l.length cp c
  have bC := ((PlAt.on bC (Joins.below_alloc1 _ (.cells #[.int .i64 n] 3))).on (Joins.below_alloc1 _ (.cells #[.int .i64 0] 3))).on (Joins.below_alloc1 _ (.cells #[.bool false] 4))
  have bN := ((Boxed.new (w.alloc (.cells #[.slice A l.length cp, .int .i64 c] 25)) 3 (.int .i64 n)).alloc (.cells #[.int .i64 0] 3)).alloc (.cells #[.bool false] 4)
  have bI := (Boxed.new ((w.alloc (.cells #[.slice A l.length cp, .int .i64 c] 25)).alloc (.cells #[.int .i64 n] 3)) 3 (.int .i64 0)).alloc (.cells #[.bool false] 4)
  have bV := Boxed.new (((w.alloc (.cells #[.slice A l.length cp, .int .i64 c] 25)).alloc (.cells #[.int .i64 n] 3)).alloc (.cells #[.int .i64 0] 3)) 4 (.bool false)
  have bB : Below w.heap.size w ((((w.alloc (.cells #[.slice A l.length cp, .int .i64 c] 25)).alloc (.cells #[.int .i64 n] 3)).alloc (.cells #[.int .i64 0] 3)).alloc (.cells #[.bool false] 4)) := ((((Below.refl _ w).alloc (Nat.le_refl _) _).alloc (by simp) _).alloc (by simp; omega) _).alloc (by simp; omega) _
  have hs3 : ((((w.alloc (.cells #[.slice A l.length cp, .int .i64 c] 25)).alloc (.cells #[.int .i64 n] 3)).alloc (.cells #[.int .i64 0] 3)).alloc (.cells #[.bool false] 4)).heap.size = w.heap.size + 4 := by simp
  simp only [World.size_alloc] at bV bN bI
  have hS4 := (hS.below bB (Nat.le_refl _)).more bB.size
  have hS5 := hS.below bB (Nat.le_refl _)
  have hcr := right_in (m - 1) A cp c l hlm _ hS4
  clear hS4
  refine callsIn_of_wp_marks Try.func18 rfl trivial ?_ rfl
  simp only [Try.ntmps18, List.size_toArray, List.length_cons, List.length_nil, Nat.reduceAdd, Nat.reduceSub, Array.replicate_succ, Array.replicate_zero, List.push_toArray, List.append_toArray, List.nil_append, List.cons_append]
  obtain ⟨y0, y1⟩ := bC.cells
  cases hR : rightS l c
  · rw [hR] at hcr
    have HE := Lib.hid (slot_tuple0 (l := l) (c := c) (n := n) (.inl hR)); clear hR
    gi_wp2_with fail
    refine ⟨trivial, hcr.mono ?_⟩
    rintro e w1 ⟨rfl, b1⟩
    generalize (((w.alloc (.cells #[.slice A l.length cp, .int .i64 c] 25)).alloc (.cells #[.int .i64 n] 3)).alloc (.cells #[.int .i64 0] 3)).alloc (.cells #[.bool false] 4) = X4 at *
    clear y0 y1
    have hIc := Boxed.on bI b1
    have hVc := Boxed.on bV b1
    have hB1 := bB.trans (b1.mono bB.size)
    clear b1 hcr bI bV bN bC
    have c1 := hIc.cell
    have c2 := hVc.cell
    have f1 := hIc.frozen
    have f2 := hVc.frozen
    gi_wp2_with fail
    have hI2 := (hIc.set (.int .i64 0)).other (B' := w.heap.size + 3) (by omega) (.bool false)
    have hV2 := (hVc.other (B' := w.heap.size + 2) (by omega) (.int .i64 0)).set (.bool false)
    have hB2 := (hB1.setCell (p := ⟨w.heap.size + 2, 0, none⟩) (by show w.heap.size ≤ w.heap.size + 2; omega) (.int .i64 0)).setCell (p := ⟨w.heap.size + 3, 0, none⟩) (by show w.heap.size ≤ w.heap.size + 3; omega) (.bool false)
    generalize (w1.setCell ⟨w.heap.size + 2, 0, none⟩ (.int .i64 0)).setCell ⟨w.heap.size + 3, 0, none⟩ (.bool false) = V at *
    have hc5 := hI2.cell
    have hc6 := hV2.cell
    exact ⟨_, by simp [results, Try.f18, go_sem, hc5, hc6], HE.out, hB2⟩
  · rw [hR] at hcr
    have HR := Lib.hid hR; clear hR
    gi_wp2_with fail
    refine ⟨trivial, hcr.mono ?_⟩
    rintro e w1 ⟨rfl, b1⟩
    generalize (((w.alloc (.cells #[.slice A l.length cp, .int .i64 c] 25)).alloc (.cells #[.int .i64 n] 3)).alloc (.cells #[.int .i64 0] 3)).alloc (.cells #[.bool false] 4) = X4 at *
    clear y0 y1 hcr
    have hC1 := PlAt.on bC b1
    have hI1 := (Boxed.on bI b1).alloc (.cells #[.slice A l.length cp, .int .i64 c] 25)
    have hV1 := (Boxed.on bV b1).alloc (.cells #[.slice A l.length cp, .int .i64 c] 25)
    have hN1 := (Boxed.on bN b1).alloc (.cells #[.slice A l.length cp, .int .i64 c] 25)
    have hB1 := (bB.trans (b1.mono bB.size)).alloc (by have := bB.size; have := b1.size; omega) (.cells #[.slice A l.length cp, .int .i64 c] 25)
    have hS1 := hS5.below b1 (by omega)
    have hS1 := hS1.on (Joins.below_alloc1 w1 (.cells #[.slice A l.length cp, .int .i64 c] 25))
    have hq0 := b1.size
    obtain ⟨y0, y1⟩ := hC1.cells
    clear bI bV bN bC bB hS5 b1 hC1
    gi_wp2_with fail
    refine ⟨trivial, (slots_in (m - 1) _ _ _ _ _).mono ?_⟩
    rintro e w' ⟨rfl, rfl⟩
    clear y0 y1
    gi_wp2_with fail
    have bP := PlAt.new w1 A l.length cp c
    generalize hq : w1.heap.size = q at *
    have hsz : (w1.alloc (.cells #[.slice A l.length cp, .int .i64 c] 25)).heap.size = q + 1 := by simp [hq]
    generalize w1.alloc (.cells #[.slice A l.length cp, .int .i64 c] 25) = X3 at *
    refine wpIn_rangeFunc_ownH rfl h1 (gf := 43) (lb := #[.pointer (some ⟨q, 0, none⟩)]) rfl trivial (enters_of Try.func43 (by kernel_rfl) rfl)
      (each_stop (m - 1) (by omega) q w.heap.size A cp c l hlm _ bP hS1) KeepsP.trans (KeepsP.past (by omega) (by omega)) (Below.refl _ _) (fun _ => rfl)
      (fun pre W => ((Boxed W (w.heap.size + 1) 3 (.int .i64 n) ∧ (∃ u, Boxed W (w.heap.size + 2) 3 u) ∧ ∃ u, Boxed W (w.heap.size + 3) 4 u) ∧ Below w.heap.size w W) ∧ q + 1 ≤ W.heap.size ∧ ∀ x ∈ pre, x.2.1 ≠ n)
      (fun c pre W => c = .ret ∧ (∃ p x, pre = p ++ [x] ∧ (∀ y ∈ p, y.2.1 ≠ n) ∧ x.2.1 = n ∧ Boxed W (w.heap.size + 2) 3 (.int .i64 (x.1 : Int))) ∧ Boxed W (w.heap.size + 3) 4 (.bool true) ∧ Below w.heap.size w W)
      (OwnFrom.and (OwnFrom.and (OwnFrom.and (Own.from (boxed_own _ _ (fun _ => .int .i64 n)) _) (OwnFrom.and (fun _ X Y row ⟨u, hs⟩ hg hr => ⟨u, (Own.from (boxed_own _ _ (fun _ : Unit => u)) _) () X Y row hs hg hr⟩) (fun _ X Y row ⟨u, hs⟩ hg hr => ⟨u, (Own.from (boxed_own _ _ (fun _ : Unit => u)) _) () X Y row hs hg hr⟩))) (ownFrom_below (Nat.le_refl _) (by omega))) (OwnFrom.and (fun s A B row hs hg hr => Nat.le_trans hs hg.size) (fun s A B row hs hg hr => hs)))
      (fun c => OwnFrom.and (fun _ _ _ _ h _ _ => h) (OwnFrom.and (fun _ X Y row ⟨p, x, e1, e2, e3, hs⟩ hg hr => ⟨p, x, e1, e2, e3, (Own.from (boxed_own _ _ (fun _ : Unit => .int .i64 (x.1 : Int))) _) () X Y row hs hg hr⟩) (OwnFrom.and (Own.from (boxed_own _ _ (fun _ => .bool true)) _) (ownFrom_below (Nat.le_refl _) (by omega)))))
      ⟨⟨⟨hN1, ⟨_, hI1⟩, ⟨_, hV1⟩⟩, hB1⟩, by omega, fun x hx => absurd hx (by simp)⟩
      (fun x a' W => ∃ g, q + 1 ≤ g ∧ SlAt W g x.2 ∧ a' = { tmps := #[pv A l.length cp c, .int .i64 n, .pointer (some ⟨w.heap.size, 0, none⟩), .pointer (some ⟨w.heap.size + 1, 0, none⟩), .pointer (some ⟨w.heap.size + 2, 0, none⟩), .pointer (some ⟨w.heap.size + 3, 0, none⟩), .int .i64 (x.1 : Int), .pointer (some ⟨g, 0, none⟩), pv A l.length cp c, .bool true, .bool false, pv A l.length cp c, .func (.func 43) #[] #[.pointer (some ⟨q, 0, none⟩)], .int .i64 (x.1 : Int), .agg #[.int .i64 x.2.1, .int .i64 x.2.2], undef, undef, undef, undef, undef], defers := [] })
      (fun x a' => ?own) ?assign ?body ?done ?stop
    case own =>
      rintro _ X Y row ⟨g, hg0, hp, ha⟩ hg hrow
      exact ⟨g, hg0, slAt_kept hp hg (fun r e => (hrow r e).2), ha⟩
    case assign =>
      intro r pre x W K hi hK
      have hsz' := hi.2.1
      have hi2 : ((Boxed (W.alloc (.cells #[.int .i64 x.2.1, .int .i64 x.2.2] 45)) (w.heap.size + 1) 3 (.int .i64 n) ∧ (∃ u, Boxed (W.alloc (.cells #[.int .i64 x.2.1, .int .i64 x.2.2] 45)) (w.heap.size + 2) 3 u) ∧ ∃ u, Boxed (W.alloc (.cells #[.int .i64 x.2.1, .int .i64 x.2.2] 45)) (w.heap.size + 3) 4 u) ∧ Below w.heap.size w (W.alloc (.cells #[.int .i64 x.2.1, .int .i64 x.2.2] 45))) ∧ q + 1 ≤ (W.alloc (.cells #[.int .i64 x.2.1, .int .i64 x.2.2] 45)).heap.size ∧ ∀ x ∈ pre, x.2.1 ≠ n :=
        ⟨⟨⟨hi.1.1.1.alloc _, ⟨_, hi.1.1.2.1.choose_spec.alloc _⟩, ⟨_, hi.1.1.2.2.choose_spec.alloc _⟩⟩, hi.1.2.alloc (by omega) _⟩, by simp; omega, hi.2.2⟩
      have hko := (KeepsOthers.alloc W (.cells #[.int .i64 x.2.1, .int .i64 x.2.2] 45)).from X3.heap.size
      have hkp : KeepsP q w.heap.size W (W.alloc (.cells #[.int .i64 x.2.1, .int .i64 x.2.2] 45)) := KeepsP.of_below (by omega) (by omega) (Joins.below_alloc1 W _)
      have hpn := SlAt.new W x.2
      have HK := Lib.hid (fun a' h => hK a' _ hko hkp hi2 h)
      clear hK hko hkp hi2 hi
      obtain ⟨x1, x2, x3⟩ := x
      simp only at *
      gi_wp2
      refine HK.out _ ⟨W.heap.size, by omega, hpn, ?_⟩
      rfl
    case body =>
      rintro r pre x a' W - - ⟨⟨⟨hn, ⟨u, hi⟩, ⟨v, hv⟩⟩, hB⟩, hW, hne⟩ ⟨g, hg0, hp, rfl⟩ hlt
      have hc := hv.cell
      have hf := hv.frozen
      have hc2 := hi.cell
      have hf2 := hi.frozen
      have hc3 := hn.cell
      obtain ⟨x0, x1⟩ := hp.cells
      clear hlt
      have HNE := Lib.hid hne; clear hne
      obtain ⟨p1, p2, p3⟩ := x
      simp only at *
      by_cases ht : p2 = n
      · gi_wp2_with fail
        refine ⟨((KeepsOthers.setCell _ _ _).from _).trans ((KeepsOthers.setCell _ _ _).from _), rfl, ⟨pre, (p1, p2, p3), rfl, HNE.out, ht, (hi.set _).other (by omega) _⟩, (hv.other (by omega) _).set _, (hB.setCell (p := ⟨w.heap.size + 2, 0, none⟩) (by show w.heap.size ≤ w.heap.size + 2; omega) _).setCell (p := ⟨w.heap.size + 3, 0, none⟩) (by show w.heap.size ≤ w.heap.size + 3; omega) _⟩
      · gi_wp2_with fail
        refine ⟨KeepsFrom.refl _ _, ⟨rfl, fun _ _ => rfl⟩, ⟨⟨hn, ⟨_, hi⟩, ⟨_, hv⟩⟩, hB⟩, hW, ?_⟩
        intro x hx
        rcases List.mem_append.1 hx with h | h
        · exact HNE.out x h
        · rw [List.mem_singleton.1 h]; exact ht
    case done =>
      rintro D ys W hD rfl ⟨⟨⟨hn, ⟨u, hi⟩, ⟨v, hv⟩⟩, hB⟩, hW, hne⟩ hK
      have hc := hv.cell
      have hf := hv.frozen
      have hc2 := hi.cell
      have hf2 := hi.frozen
      have HE := Lib.hid (slot_tuple0 (l := l) (c := c) (n := n) (.inr (slot_none hne)))
      clear hne
      gi_wp2
      have hI2 := (hi.set (.int .i64 0)).other (B' := w.heap.size + 3) (by omega) (.bool false)
      have hV2 := (hv.other (B' := w.heap.size + 2) (by omega) (.int .i64 0)).set (.bool false)
      have hB2 := (hB.setCell (p := ⟨w.heap.size + 2, 0, none⟩) (by show w.heap.size ≤ w.heap.size + 2; omega) (.int .i64 0)).setCell (p := ⟨w.heap.size + 3, 0, none⟩) (by show w.heap.size ≤ w.heap.size + 3; omega) (.bool false)
      have hK2 := (Below.heap_setCell (W.setCell ⟨w.heap.size + 2, 0, none⟩ (.int .i64 0)) ⟨w.heap.size + 3, 0, none⟩ (.bool false) D (by show D ≠ w.heap.size + 3; omega)).trans ((Below.heap_setCell W ⟨w.heap.size + 2, 0, none⟩ (.int .i64 0) D (by show D ≠ w.heap.size + 2; omega)).trans hK)
      generalize (W.setCell ⟨w.heap.size + 2, 0, none⟩ (.int .i64 0)).setCell ⟨w.heap.size + 3, 0, none⟩ (.bool false) = V at *
      refine ⟨by simp, .inl ⟨_, _, rfl, run_takeDeferred hK2, ?_⟩⟩
      have hc5 := (hI2.kept (grownBy_putObj' V D (.deferred none)) (fun e => by have := Option.some.inj e; omega)).cell
      have hc6 := (hV2.kept (grownBy_putObj' V D (.deferred none)) (fun e => by have := Option.some.inj e; omega)).cell
      refine ⟨_, by simp [results, Try.f18, go_sem, hc5, hc6], HE.out, hB2.trans (belowK_b (w := w) (Nat.le_refl _) V D _ _ (by omega) hK2 rfl rfl)⟩
    case stop =>
      rintro D c pre W hD hpre ⟨rfl, ⟨p, x, rfl, hb, hx, hi⟩, hv, hB⟩ hK
      have HE := Lib.hid (slot_tuple HR.out (slot_found hpre hb hx))
      clear hpre
      gi_wp2
      refine ⟨by simp, .inl ⟨_, _, rfl, run_takeDeferred hK, ?_⟩⟩
      have hc5 := (hi.kept (grownBy_putObj' W D (.deferred none)) (fun e => by have := Option.some.inj e; omega)).cell
      have hc6 := (hv.kept (grownBy_putObj' W D (.deferred none)) (fun e => by have := Option.some.inj e; omega)).cell
      refine ⟨_, by simp [results, Try.f18, go_sem, hc5, hc6], HE.out, hB.trans (belowK_b (w := w) (Nat.le_refl _) W D _ _ (by omega) hK rfl rfl)⟩

theorem slot_any (A : Option Addr) (cp : Nat) (c : Int) (l : Pl) (hlm : l.length ≤ maxLen) (n : Int) (w : World) (hS : Sls w w.heap.size A l) : Calls Try.prog 18 #[pv A l.length cp c, .int .i64 n] w fun e W' => e = .returned (.tuple #[.int .i64 (slotV l c n), .bool (slotB l c n)]) ∧ Below w.heap.size w W' := callsIn_wide.1 (slotP_in 4 (Nat.le_refl _) A cp c l hlm n w hS)

end Go.Proofs.Ytmklabdfalkldaa

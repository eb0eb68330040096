/-
  How many ticks are ahead of a slot, by the program: a loop over what sched.each hands back, left by a break.
-/
import Derived.Test.YtmklabdfalkldaaSchNodes
namespace Go.Proofs.Ytmklabdfalkldaa
open Go.RowKit Go.Shelf
attribute [local go_sem] Oper.semAt_some

def sumP (pre : List Pd) : Int := pre.foldl (fun a x => wrap64 (a + x.2.2)) 0
theorem sumP_snoc (pre : List Pd) (x : Pd) : sumP (pre ++ [x]) = wrap64 (sumP pre + x.2.2) := by
  unfold sumP; rw [List.foldl_append]; rfl
theorem sumP_take {l : Pl} (h : Ticked l) (hl : l.length ≤ 16) (k : Nat) (hk : k ≤ l.length) : sumP ((placed l).take k) = aheadS l k := by
  induction k with
  | zero => rfl
  | succ k ih =>
    obtain ⟨s, hs⟩ : ∃ s, l[k]? = some s := ⟨_, List.getElem?_eq_getElem (by omega)⟩
    rw [placed_take l k s hs, sumP_snoc, ih (by omega), aheadS_succ l k s hs]
    have h1 := aheadS_bounds h k (by omega)
    have h2 : 1 ≤ s.2 ∧ s.2 ≤ 1000 := h s (List.mem_of_getElem? hs)
    show wrap64 (aheadS l k + s.2) = _
    exact w64 _ (by omega) (by omega)
def aheadI (l : Pl) (n : Int) : Int := if 0 ≤ n ∧ n < l.length then aheadS l n.toNat else sumS l
/-- None of the places gone over is the one that is sought. -/
theorem ahead_none {l : Pl} (h : Ticked l) (hl : l.length ≤ 16) (n : Int) (hn : ∀ x ∈ placed l, (x.1 : Int) ≠ n) : sumP (placed l) = aheadI l n := by
  have e := sumP_take h hl l.length (Nat.le_refl _)
  rw [List.take_of_length_le (by rw [placed_length]; exact Nat.le_refl _), aheadS_all] at e
  rw [e]
  unfold aheadI
  rw [if_neg]
  rintro ⟨h0, h1⟩
  have hk : n.toNat < l.length := by omega
  have := placed_at l n.toNat _ (List.getElem?_eq_getElem hk)
  exact hn _ (List.mem_of_getElem? this) (by simp <;> omega)
theorem ahead_found {l : Pl} (h : Ticked l) (hl : l.length ≤ 16) (n : Int) (pre : List Pd) (x : Pd) (hp : pre ++ [x] <+: placed l) (hx : (x.1 : Int) = n) : sumP pre = aheadI l n := by
  obtain ⟨t, ht⟩ := hp
  have hlen : pre.length < (placed l).length := by rw [← ht]; simp
  have hx2 : (placed l)[pre.length]? = some x := by rw [← ht]; simp
  obtain ⟨e1, e2⟩ := placed_is l _ x hx2
  have ek : pre = (placed l).take pre.length := by rw [← ht]; simp
  rw [placed_length] at hlen
  rw [ek, sumP_take h hl _ (by omega)]
  unfold aheadI
  rw [if_pos (by omega)]
  congr 1
  omega

set_option maxRecDepth 100000 in
set_option maxHeartbeats 2000000 in
theorem ahead_in (m : Nat) (hm : 4 ≤ m) (A : Option Addr) (cp : Nat) (c : Int) (l : Pl) (hlt : Ticked l) (hlm : l.length ≤ 16) (n : Int) (w : World) (hS : Sls w w.heap.size A l) : CallsIn Fence.wide m Try.prog 34 #[pv A l.length cp c, .int .i64 n] w fun e W' => e = .returned (.int .i64 (aheadI l n)) ∧ Below w.heap.size w W' := by
  have h1 : 1 ≤ m := by omega
  refine callsIn_of_wp_marks Try.func34 rfl trivial ?_ rfl
  simp only [Try.ntmps34, List.size_toArray, List.length_cons, List.length_nil, Nat.reduceAdd, Nat.reduceSub, Array.replicate_succ, Array.replicate_zero, List.push_toArray, List.append_toArray, List.nil_append, List.cons_append]
  gi_wp2_with fail
  refine ⟨trivial, (slots_in (m - 1) _ _ _ _ _).mono ?_⟩
  rintro e w' ⟨rfl, rfl⟩
  gi_wp2_with fail
  have bN := ((Boxed.new (w.alloc (.cells #[.slice A l.length cp, .int .i64 c] 25)) 3 (.int .i64 n)).alloc (.cells #[.int .i64 0] 3)).alloc (.cells #[.slice A l.length cp, .int .i64 c] 25)
  have bV := (Boxed.new ((w.alloc (.cells #[.slice A l.length cp, .int .i64 c] 25)).alloc (.cells #[.int .i64 n] 3)) 3 (.int .i64 0)).alloc (.cells #[.slice A l.length cp, .int .i64 c] 25)
  have bP := PlAt.new (((w.alloc (.cells #[.slice A l.length cp, .int .i64 c] 25)).alloc (.cells #[.int .i64 n] 3)).alloc (.cells #[.int .i64 0] 3)) A l.length cp c
  have bB : Below w.heap.size w ((((w.alloc (.cells #[.slice A l.length cp, .int .i64 c] 25)).alloc (.cells #[.int .i64 n] 3)).alloc (.cells #[.int .i64 0] 3)).alloc (.cells #[.slice A l.length cp, .int .i64 c] 25)) := ((((Below.refl _ w).alloc (Nat.le_refl _) _).alloc (by simp) _).alloc (by simp; omega) _).alloc (by simp; omega) _
  have hs3 : ((((w.alloc (.cells #[.slice A l.length cp, .int .i64 c] 25)).alloc (.cells #[.int .i64 n] 3)).alloc (.cells #[.int .i64 0] 3)).alloc (.cells #[.slice A l.length cp, .int .i64 c] 25)).heap.size = w.heap.size + 4 := by simp
  simp only [World.size_alloc] at bV bP bN
  generalize (((w.alloc (.cells #[.slice A l.length cp, .int .i64 c] 25)).alloc (.cells #[.int .i64 n] 3)).alloc (.cells #[.int .i64 0] 3)).alloc (.cells #[.slice A l.length cp, .int .i64 c] 25) = X3 at *
  have bS := hS.below bB (Nat.le_refl _)
  clear hS
  refine wpIn_rangeFunc_ownH rfl h1 (gf := 43) (lb := #[.pointer (some ⟨w.heap.size + 3, 0, none⟩)]) rfl trivial (enters_of Try.func43 (by kernel_rfl) rfl)
    (each_stop (m - 1) (by omega) (w.heap.size + 3) w.heap.size A cp c l (by unfold maxLen; omega) _ bP bS) KeepsP.trans (KeepsP.past (by omega) (by omega)) (Below.refl _ _) (fun _ => rfl)
    (fun pre W => ((Boxed W (w.heap.size + 2) 3 (.int .i64 (sumP pre)) ∧ Boxed W (w.heap.size + 1) 3 (.int .i64 n)) ∧ Below w.heap.size w W) ∧ w.heap.size + 4 ≤ W.heap.size ∧ ∀ x ∈ pre, (x.1 : Int) ≠ n)
    (fun c pre W => c = .exit 0 ∧ (∃ p x, pre = p ++ [x] ∧ (x.1 : Int) = n ∧ Boxed W (w.heap.size + 2) 3 (.int .i64 (sumP p))) ∧ Below w.heap.size w W)
    (OwnFrom.and (OwnFrom.and (OwnFrom.and (Own.from (boxed_own _ _ _) _) (Own.from (boxed_own _ _ (fun _ => .int .i64 n)) _)) (ownFrom_below (Nat.le_refl _) (by omega))) (OwnFrom.and (fun s A B row hs hg hr => Nat.le_trans hs hg.size) (fun s A B row hs hg hr => hs)))
    (fun c => OwnFrom.and (fun _ _ _ _ h _ _ => h) (OwnFrom.and (fun s X Y row hs hg hr => by
      obtain ⟨p, x, e1, e2, e3⟩ := hs
      exact ⟨p, x, e1, e2, (Own.from (boxed_own _ _ (fun _ : Unit => .int .i64 (sumP p))) _) () X Y row e3 hg hr⟩) (ownFrom_below (Nat.le_refl _) (by omega))))
    ⟨⟨⟨bV, bN⟩, bB⟩, by omega, fun x hx => absurd hx (by simp)⟩
    (fun x a' W => ∃ g, w.heap.size + 4 ≤ g ∧ SlAt W g x.2 ∧ a' = { tmps := #[pv A l.length cp c, .int .i64 n, .pointer (some ⟨w.heap.size, 0, none⟩), .pointer (some ⟨w.heap.size + 1, 0, none⟩), .int .i64 0, .pointer (some ⟨w.heap.size + 2, 0, none⟩), .int .i64 (x.1 : Int), .pointer (some ⟨g, 0, none⟩), pv A l.length cp c, .func (.func 43) #[] #[.pointer (some ⟨w.heap.size + 3, 0, none⟩)], .int .i64 (x.1 : Int), .agg #[.int .i64 x.2.1, .int .i64 x.2.2], undef, undef, undef, undef, undef, undef, undef, undef], defers := [] })
    (fun x a' => ?own) ?assign ?body ?done ?stop
  case own =>
    rintro _ X Y row ⟨g, hg0, hp, ha⟩ hg hrow
    exact ⟨g, hg0, slAt_kept hp hg (fun r e => (hrow r e).2), ha⟩
  case assign =>
    intro r pre x W K hi hK
    have hsz := hi.2.1
    have hi2 : ((Boxed (W.alloc (.cells #[.int .i64 x.2.1, .int .i64 x.2.2] 45)) (w.heap.size + 2) 3 (.int .i64 (sumP pre)) ∧ Boxed (W.alloc (.cells #[.int .i64 x.2.1, .int .i64 x.2.2] 45)) (w.heap.size + 1) 3 (.int .i64 n)) ∧ Below w.heap.size w (W.alloc (.cells #[.int .i64 x.2.1, .int .i64 x.2.2] 45))) ∧ w.heap.size + 4 ≤ (W.alloc (.cells #[.int .i64 x.2.1, .int .i64 x.2.2] 45)).heap.size ∧ ∀ x ∈ pre, (x.1 : Int) ≠ n :=
      ⟨⟨⟨hi.1.1.1.alloc _, hi.1.1.2.alloc _⟩, hi.1.2.alloc (by omega) _⟩, by simp; omega, hi.2.2⟩
    have hko := (KeepsOthers.alloc W (.cells #[.int .i64 x.2.1, .int .i64 x.2.2] 45)).from X3.heap.size
    have hkp : KeepsP (w.heap.size + 3) w.heap.size W (W.alloc (.cells #[.int .i64 x.2.1, .int .i64 x.2.2] 45)) := KeepsP.of_below (by omega) (by omega) (Joins.below_alloc1 W _)
    have hpn := SlAt.new W x.2
    have HK := Lib.hid (fun a' h => hK a' _ hko hkp hi2 h)
    clear hK hko hkp hi2 hi
    obtain ⟨x1, x2, x3⟩ := x
    simp only at *
    gi_wp2
    refine HK.out _ ⟨W.heap.size, by omega, hpn, ?_⟩
    rfl
  case body =>
    rintro r pre x a' W - - ⟨⟨⟨hv, hn⟩, hB⟩, hW, hne⟩ ⟨g, hg0, hp, rfl⟩ hlt
    have hc := hv.cell
    have hf := hv.frozen
    have hcn := hn.cell
    obtain ⟨x0, x1⟩ := hp.cells
    clear hlt
    have HNE := Lib.hid hne; clear hne
    obtain ⟨p1, p2, p3⟩ := x
    simp only at *
    by_cases he : (p1 : Int) = n
    · gi_wp2_with fail
      refine ⟨KeepsFrom.refl _ _, rfl, ⟨pre, (p1, p2, p3), rfl, he, hv⟩, hB⟩
    · have hsn := sumP_snoc pre (p1, p2, p3)
      simp only at hsn
      gi_wp2_with fail
      refine ⟨(KeepsOthers.setCell _ _ _).from _, KeepsP.setCell _ (by show w.heap.size + 3 ≠ w.heap.size + 2; omega) (by show w.heap.size ≤ w.heap.size + 2; omega), ⟨⟨⟨?_, ?_⟩, ?_⟩, ?_, ?_⟩⟩
      · rw [hsn]; exact hv.set _
      · exact hn.other (by omega) _
      · exact hB.setCell (p := ⟨w.heap.size + 2, 0, none⟩) (by show w.heap.size ≤ w.heap.size + 2; omega) _
      · simpa using hW
      · intro x hx
        rcases List.mem_append.1 hx with h | h
        · exact HNE.out x h
        · rw [List.mem_singleton.1 h]; exact he
  case done =>
    rintro D ys W hD rfl ⟨⟨⟨hv, hn⟩, hB⟩, hW, hne⟩ hK
    have hc := hv.cell
    have HE := Lib.hid (ahead_none hlt hlm n hne)
    clear hne
    gi_wp2
    refine ⟨by simp, .inl ⟨_, _, rfl, run_takeDeferred hK, ?_⟩⟩
    refine ⟨_, results_tmp rfl _ _ _, ?_, hB.trans (belowK_b (w := w) (Nat.le_refl _) W D _ _ (by omega) hK rfl rfl)⟩
    exact ret_i HE.out
  case stop =>
    rintro D c pre W hD hpre ⟨rfl, ⟨p, x, rfl, hx, hv⟩, hB⟩ hK
    have hc := hv.cell
    have HE := Lib.hid (ahead_found hlt hlm n p x hpre hx)
    clear hpre
    gi_wp2
    refine ⟨by simp, .inl ⟨_, _, rfl, run_takeDeferred hK, ?_⟩⟩
    refine ⟨_, results_tmp rfl _ _ _, ?_, hB.trans (belowK_b (w := w) (Nat.le_refl _) W D _ _ (by omega) hK rfl rfl)⟩
    exact ret_i HE.out
end Go.Proofs.Ytmklabdfalkldaa

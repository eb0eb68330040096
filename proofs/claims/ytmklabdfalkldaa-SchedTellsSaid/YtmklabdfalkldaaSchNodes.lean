/-
  The nodes of a plan, by the program: a loop over what sched.each hands back.
-/
import Derived.Test.YtmklabdfalkldaaSchEach
namespace Go.Proofs.Ytmklabdfalkldaa
open Go.RowKit Go.Shelf
attribute [local go_sem] Oper.semAt_some

/-- A slot in a box of its own. -/
def SlAt (w : World) (b : Nat) (s : Int × Int) : Prop := w.heap[b]? = some (.cells #[.int .i64 s.1, .int .i64 s.2] 45 (0, 0))
theorem SlAt.new (w : World) (s : Int × Int) : SlAt (w.alloc (.cells #[.int .i64 s.1, .int .i64 s.2] 45)) w.heap.size s := heap_alloc_new w _
theorem SlAt.cells {w : World} {b : Nat} {s : Int × Int} (h : SlAt w b s) : w.cell? ⟨b, 0, none⟩ = some (.int .i64 s.1) ∧ w.cell? ⟨b, 1, none⟩ = some (.int .i64 s.2) := ⟨cell_of h 0, cell_of h 1⟩
theorem slAt_kept {X Y : World} {g : Nat} {s : Int × Int} {row : Option Nat} (hp : SlAt X g s) (hg : X.grownBy Y row) (hrow : ∀ r, row = some r → ∃ o : Obj, X.heap[r]? = some o ∧ o.isCells = false) : SlAt Y g s := by
  refine (hg.block g (Array.getElem?_eq_some_iff.1 hp).1 fun e' => ?_).trans hp
  obtain ⟨o, ho, hc⟩ := hrow g e'.symm
  rw [show X.heap[g]? = _ from hp] at ho; cases ho; cases hc

def nodesP (pre : List Pd) : Int := ofI (pre.map fun x => x.2.1)
theorem nodesP_snoc (pre : List Pd) (x : Pd) : nodesP (pre ++ [x]) = withI (nodesP pre) x.2.1 := by
  unfold nodesP; rw [List.map_append]; exact ofI_snoc _ _
theorem nodesP_all (l : Pl) : nodesP (placed l) = nodesS l := by
  unfold nodesP nodesS
  conv => rhs; rw [← placed_snd l]
  rw [List.map_map]; rfl

set_option maxRecDepth 100000 in
set_option maxHeartbeats 2000000 in
theorem nodes_in' (m : Nat) (hm : 4 ≤ m) (A : Option Addr) (cp : Nat) (c : Int) (l : Pl) (hlm : l.length ≤ maxLen) (w : World) (hS : Sls w w.heap.size A l) : CallsIn Fence.wide m Try.prog 13 #[pv A l.length cp c] w fun e W' => e = .returned (.int .i64 (nodesS l)) ∧ Below w.heap.size w W' := by
  have h1 : 1 ≤ m := by omega
  refine callsIn_of_wp_marks Try.func13 rfl trivial ?_ rfl
  simp only [Try.ntmps13, List.size_toArray, List.length_cons, List.length_nil, Nat.reduceAdd, Nat.reduceSub, Array.replicate_succ, Array.replicate_zero, List.push_toArray, List.append_toArray, List.nil_append, List.cons_append]
  gi_wp2_with fail
  refine ⟨trivial, (slots_in (m - 1) _ _ _ _ _).mono ?_⟩
  rintro e w' ⟨rfl, rfl⟩
  gi_wp2_with fail
  have bV := (Boxed.new (w.alloc (.cells #[.slice A l.length cp, .int .i64 c] 25)) 3 (.int .i64 0)).alloc (.cells #[.slice A l.length cp, .int .i64 c] 25)
  have bP := PlAt.new ((w.alloc (.cells #[.slice A l.length cp, .int .i64 c] 25)).alloc (.cells #[.int .i64 0] 3)) A l.length cp c
  have bB : Below w.heap.size w (((w.alloc (.cells #[.slice A l.length cp, .int .i64 c] 25)).alloc (.cells #[.int .i64 0] 3)).alloc (.cells #[.slice A l.length cp, .int .i64 c] 25)) := (((Below.refl _ w).alloc (Nat.le_refl _) _).alloc (by simp) _).alloc (by simp; omega) _
  have hs3 : (((w.alloc (.cells #[.slice A l.length cp, .int .i64 c] 25)).alloc (.cells #[.int .i64 0] 3)).alloc (.cells #[.slice A l.length cp, .int .i64 c] 25)).heap.size = w.heap.size + 3 := by simp
  simp only [World.size_alloc] at bV bP
  generalize (((w.alloc (.cells #[.slice A l.length cp, .int .i64 c] 25)).alloc (.cells #[.int .i64 0] 3)).alloc (.cells #[.slice A l.length cp, .int .i64 c] 25)) = X3 at *
  have bS := hS.below bB (Nat.le_refl _)
  clear hS
  refine wpIn_rangeFunc_ownH rfl h1 (gf := 43) (lb := #[.pointer (some ⟨w.heap.size + 2, 0, none⟩)]) rfl trivial (enters_of Try.func43 (by kernel_rfl) rfl)
    (each_stop (m - 1) (by omega) (w.heap.size + 2) w.heap.size A cp c l hlm _ bP bS) KeepsP.trans (KeepsP.past (by omega) (by omega)) (Below.refl _ _) (fun _ => rfl)
    (fun pre W => (Boxed W (w.heap.size + 1) 3 (.int .i64 (nodesP pre)) ∧ Below w.heap.size w W) ∧ w.heap.size + 3 ≤ W.heap.size)
    (fun _ _ _ => False)
    (OwnFrom.and (OwnFrom.and (Own.from (boxed_own _ _ _) _) (ownFrom_below (Nat.le_refl _) (by omega))) (fun s A B row hs hg hr => Nat.le_trans hs hg.size))
    (fun _ _ _ _ _ hs _ _ => hs)
    ⟨⟨bV, bB⟩, by omega⟩
    (fun x a' W => ∃ g, w.heap.size + 3 ≤ g ∧ SlAt W g x.2 ∧ a' = { tmps := #[pv A l.length cp c, .pointer (some ⟨w.heap.size, 0, none⟩), .int .i64 0, .pointer (some ⟨w.heap.size + 1, 0, none⟩), undef, .pointer (some ⟨g, 0, none⟩), pv A l.length cp c, .func (.func 43) #[] #[.pointer (some ⟨w.heap.size + 2, 0, none⟩)], .int .i64 (x.1 : Int), .agg #[.int .i64 x.2.1, .int .i64 x.2.2], undef, undef, undef, undef, undef], defers := [] })
    (fun x a' => ?own) ?assign ?body ?done ?stop
  case own =>
    rintro _ X Y row ⟨g, hg0, hp, ha⟩ hg hrow
    exact ⟨g, hg0, slAt_kept hp hg (fun r e => (hrow r e).2), ha⟩
  case assign =>
    intro r pre x W K hi hK
    have hsz := hi.2
    have hi2 : (Boxed (W.alloc (.cells #[.int .i64 x.2.1, .int .i64 x.2.2] 45)) (w.heap.size + 1) 3 (.int .i64 (nodesP pre)) ∧ Below w.heap.size w (W.alloc (.cells #[.int .i64 x.2.1, .int .i64 x.2.2] 45))) ∧ w.heap.size + 3 ≤ (W.alloc (.cells #[.int .i64 x.2.1, .int .i64 x.2.2] 45)).heap.size :=
      ⟨⟨hi.1.1.alloc _, hi.1.2.alloc (by omega) _⟩, by simp; omega⟩
    have hko := (KeepsOthers.alloc W (.cells #[.int .i64 x.2.1, .int .i64 x.2.2] 45)).from X3.heap.size
    have hkp : KeepsP (w.heap.size + 2) w.heap.size W (W.alloc (.cells #[.int .i64 x.2.1, .int .i64 x.2.2] 45)) := KeepsP.of_below (by omega) (by omega) (Joins.below_alloc1 W _)
    have hpn := SlAt.new W x.2
    have HK := Lib.hid (fun a' h => hK a' _ hko hkp hi2 h)
    clear hK hko hkp hi2 hi
    obtain ⟨x1, x2, x3⟩ := x
    simp only at *
    gi_wp2
    refine HK.out _ ⟨W.heap.size, by omega, hpn, ?_⟩
    rfl
  case body =>
    rintro r pre x a' W - - ⟨⟨hv, hB⟩, hW⟩ ⟨g, hg0, hp, rfl⟩ hlt
    have hc := hv.cell
    have hf := hv.frozen
    obtain ⟨x0, x1⟩ := hp.cells
    clear hlt
    have cw := fun W => CallsIn.inRound r (callsIn_wide (n := m - 1 - 1 - 1) |>.2 (with_any (nodesP pre) x.2.1 W))
    obtain ⟨p1, p2, p3⟩ := x
    simp only at *
    gi_wp2_with fail
    refine ⟨trivial, fun _ => by omega, (cw _).mono ?_⟩
    rintro e W1 ⟨rfl, rfl⟩
    gi_wp2
    have hsn := nodesP_snoc pre (p1, p2, p3)
    simp only at hsn
    refine ⟨(KeepsOthers.setCell _ _ _).from _, KeepsP.setCell _ (by show w.heap.size + 2 ≠ w.heap.size + 1; omega) (by show w.heap.size ≤ w.heap.size + 1; omega), ⟨?_, ?_⟩, ?_⟩
    · rw [hsn]; exact hv.set _
    · exact hB.setCell (p := ⟨w.heap.size + 1, 0, none⟩) (by show w.heap.size ≤ w.heap.size + 1; omega) _
    · simpa using hW
  case done =>
    rintro D ys W hD rfl ⟨⟨hv, hB⟩, hW⟩ hK
    have hc := hv.cell
    gi_wp2
    refine ⟨by simp, .inl ⟨_, _, rfl, run_takeDeferred hK, ?_⟩⟩
    refine ⟨_, results_tmp rfl _ _ _, ?_, hB.trans (belowK_b (w := w) (Nat.le_refl _) W D _ _ (by omega) hK rfl rfl)⟩
    exact ret_i (nodesP_all l)
  case stop =>
    rintro D c pre W _ _ h _
    exact h.elim
end Go.Proofs.Ytmklabdfalkldaa

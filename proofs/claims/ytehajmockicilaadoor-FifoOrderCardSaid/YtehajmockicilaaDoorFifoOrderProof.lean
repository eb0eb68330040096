/-
  The card of the statement 'FifoOrder': whatever the input, the law's function returns true, and the input reads behind it as it did ahead of it; the one package-level variable that it reads is tied to the program's text. No condition but the row's own.
-/
import Derived.Test.YtehajmockicilaaDoorRows
import Derived.Test.YtehajmockicilaaDoorTie
import Derived.Test.YtehajmockicilaaDoorCards
import Derived.Test.YtehajmockicilaaDoorFifOrder
import Derived.Test.YtehajmockicilaaDoorMsgFrameL
import Derived.SevenTiedAt
import Derived.Test.YtehajmockicilaaDoorFifFilt
import Derived.ProofKit
import Derived.ChangeSlices
import Derived.Carry
import Derived.SizedLaws
namespace Go.Proofs.YtehajmockicilaaDoor
open Go Go.ChangeShapes Go.WideShapes Go.ChangeAt Go.RowKit Go.Joins Go.Deep

def Rowf (w : World) (B : Nat) (A : Option Addr) (l : List Int) : Prop :=
  0 < l.length → ∃ ad, A = some ad ∧ ad.block < B ∧ ∀ j x, l[j]? = some x → w.cell? (ad.add j) = some (.int .i64 x)
structure Intsf (w : World) (A : Option Addr) (c : Nat) (l : List Int) : Prop where
  row : Rowf w w.heap.size A l
  len : l.length ≤ c ∧ c ≤ maxLen
  wf : ∀ n ∈ l, (Lit.int .i64 n).wf = true

section
variable {H : Type} {enc : TypeId × Value → H} {w : World} {base : Nat} {held : Bool}
theorem open_intsf {v : Value} {d : DataW H} {p : List MemPlace} (hv : ∃ a n c, v = .slice a n c) (h : DataW.Trod enc Tryd.prog w base (fun _ => true) held 53 v d p) :
    ∃ (A : Option Addr) (c : Nat) (l : List Int), v = .slice A l.length c ∧ Intsf w A c l := by
  obtain ⟨A, n, cap, rfl⟩ := hv
  obtain ⟨fuel, hf⟩ := h
  rcases open_ints Tryd.underlying53 Tryd.underlying3 (by kernel_rfl) hf with ⟨h0, _⟩ | ⟨a, len, cap', zs, hcs, hb, hl, hm, hz, hx, hcell, hwf⟩
  · have : Value.slice A n cap = .slice none 0 0 := by simpa [Value.cells] using h0
    injection this with e1 e2 e3
    subst e1 e2 e3
    exact ⟨none, 0, [], rfl, fun hn => absurd hn (by simp), ⟨Nat.le_refl _, by unfold maxLen; omega⟩, fun n hn => by cases hn⟩
  · have : Value.slice A n cap = .slice (some a) len cap' := by simpa [Value.cells] using hcs
    injection this with e1 e2 e3
    subst e1 e2 e3
    rw [if_pos rfl] at hz
    have hlen : (zs.take n).length = n := by rw [List.length_take]; omega
    have at_ : ∀ j x, (zs.take n)[j]? = some x → w.cell? (a.add j) = some (.int .i64 x) := fun j x hx => by
      have hj : j < n := by have := (List.getElem?_eq_some_iff.1 hx).1; omega
      rw [List.getElem?_take_of_lt hj] at hx
      rw [hcell j (by omega)]
      simp [List.getD, hx]
    refine ⟨some a, cap, zs.take n, by rw [hlen], fun hn => ⟨a, rfl, ?_, at_⟩, ⟨by omega, hm⟩, fun x hx => hwf x (List.mem_of_mem_take hx)⟩
    have h0 := World.block_lt_of_cell? w _ (at_ 0 _ (List.getElem?_eq_getElem hn))
    rwa [adb] at h0
end



theorem list2f {α : Type} (l : List α) (h : l.length = 2) : ∃ a b, l = [a, b] := by
  match l, h with
  | [a, b], _ => exact ⟨a, b, rfl⟩

section
variable {H : Type} {enc : TypeId × Value → H} {w : World} {base : Nat} {held : Bool}
set_option maxRecDepth 100000 in
theorem open_pair_cellsf {spare : Nat → Bool} {fuel : Nat} {cs : List Value} {x : DataW H × List MemPlace} (hf : DataW.trod enc Tryd.prog w base spare held fuel 96 cs = some x) :
    ∃ s : Int × Int, cs = [.int .i64 s.1, .int .i64 s.2] ∧ (Lit.int .i64 s.1).wf = true ∧ (Lit.int .i64 s.2).wf = true := by
  have hc : Tryd.prog.cellsOf 96 = 2 := by kernel_rfl
  have hi : Tryd.prog.cellsOf 3 = 1 := by kernel_rfl
  obtain ⟨xs, n, _, hx, hl, hlen, hff⟩ := DataW.trod_array Tryd.underlying96 hf
  rw [hc] at hl
  obtain ⟨c0, c1, hcs⟩ := list2f _ hl
  obtain ⟨y0, y1, rfl⟩ := list2f xs hlen
  rw [hcs] at hff
  have f0 := hff 0 (by decide)
  have f1 := hff 1 (by decide)
  rw [hi] at f0 f1
  obtain ⟨a0, e0, r0, w0⟩ := DataW.trod_int Tryd.underlying3 f0
  obtain ⟨a1, e1, r1, w1⟩ := DataW.trod_int Tryd.underlying3 f1
  simp at e0 e1
  subst e0 e1
  exact ⟨(a0, a1), hcs, w0, w1⟩
set_option maxRecDepth 100000 in
theorem open_pairsf {v : Value} {d : DataW H} {p : List MemPlace} (hv : ∃ a n c, v = .slice a n c) (h : DataW.Trod enc Tryd.prog w base (fun _ => true) held 32 v d p) :
    ∃ (A : Option Addr) (cap : Nat) (l : List (Int × Int)), v = .slice A l.length cap ∧ PrsOkf w A cap l := by
  obtain ⟨A, n, cap, rfl⟩ := hv
  obtain ⟨fuel, hf⟩ := h
  have hc : Tryd.prog.cellsOf 96 = 2 := by kernel_rfl
  rcases open_slice Tryd.underlying32 hf with ⟨h0, _⟩ | ⟨a, len, cap', m, n', D, Pl, hcs, hba, hl, hm, hmm, hx, hel⟩
  · have : Value.slice A n cap = .slice none 0 0 := by simpa [Value.cells] using h0
    injection this with e1 e2 e3
    subst e1 e2 e3
    exact ⟨none, 0, [], rfl, fun h => absurd h (by simp), ⟨Nat.le_refl _, by unfold maxLen; omega⟩, fun r h => by cases h⟩
  · have : Value.slice A n cap = .slice (some a) len cap' := by simpa [Value.cells] using hcs
    injection this with e1 e2 e3
    subst e1 e2 e3
    rw [if_pos rfl] at hmm
    subst hmm
    have each : ∀ i, i < n → ∃ r : Int × Int, At2f w (a.add (i * 2)) r ∧ (Lit.int .i64 r.1).wf = true ∧ (Lit.int .i64 r.2).wf = true := by
      intro i hin
      obtain ⟨cs, h1, h2⟩ := hel i (by omega)
      rw [hc] at h1
      obtain ⟨_, h3, h4⟩ := World.cells?_some h1
      obtain ⟨r, hcs4, hw⟩ := open_pair_cellsf h2
      subst hcs4
      have q0 := h4 0 (by omega)
      have q1 := h4 1 (by omega)
      exact ⟨r, ⟨q0, q1⟩, hw⟩
    obtain ⟨l, hll, hlp⟩ := list_of_each _ n each
    subst hll
    refine ⟨some a, _, l, rfl, fun hn => ⟨a, rfl, ?_, fun j r hr => (hlp j r hr).1⟩, ⟨hl, hm⟩, fun r hr => ?_⟩
    · obtain ⟨r, hr, _⟩ := each 0 hn
      have := World.block_lt_of_cell? w _ hr.1
      rwa [adb] at this
    · obtain ⟨j, hj⟩ := List.getElem?_of_mem hr
      exact (hlp j r hj).2
end

end Go.Proofs.YtehajmockicilaaDoor

namespace Go.Proofs.YtehajmockicilaaDoor.fifoOrder
open Go Go.ChangeShapes Go.WideShapes Go.ChangeAt Go.RowKit Go.Joins
open Go.ChangeMaps (open_string shut_string)
set_option linter.unusedVariables false

set_option maxRecDepth 100000 in
theorem lifted (os : Os) (started : os.Started) (H : Type) (enc : TypeId × Value → H) :
    ReturnsInHanded {} Tryd.checked os 4 .any (fun w args => (Rows.fifoOrderSpec.pre enc Tryd.prog Tryd.f4 [] false w args ∧ laidMetH Tryd.prog Rows.fifoOrderRow.laid w) ∧ sizedMet enc Tryd.prog Tryd.f4 (OpenSpec.ofChange Rows.fifoOrderSpec) false w args) (Rows.fifoOrderSpec.post enc Tryd.prog Tryd.f4 false true false false) := by
  refine returnsInHanded_of_change_and (C := Tryd.checked) (X := fun w _ => laidMetH Tryd.prog Rows.fifoOrderRow.laid w) (fun _ _ _ hh h => h.of_heap hh) own started (by kernel_rfl) Tryd.func4
    (ChangeSpec.witness_shaped (enc := enc) (C := Tryd.checked) (os := os) (X := fun w _ => laidMetH Tryd.prog Rows.fifoOrderRow.laid w) false (World.doorLaid Tryd.prog 400 os) #[.int .i64 0, .slice none 0 0, .slice none 0 0, .slice none 0 0] 8 rfl (World.shaped_of_RefB (by kernel_rfl) (by kernel_rfl)) (by kernel_rfl) (by kernel_rfl) (by kernel_rfl) (door_met os _)) ?_
  intro W base args ds gs before hval0 hW hcnd hsz0 hL _
  have hsz : (DataW.weightsEach Tryd.prog (Tryd.f4.params.toList ++ Rows.fifoOrderSpec.plain.varTypes Tryd.prog) (ds ++ gs)).all (· ≤ reachBytes) = true := hsz0
  have hval : ∀ (j : Nat) t v, Tryd.f4.params[j]? = some t → args[j]? = some v → Value.okWide Tryd.prog W .any base t v := hval0
  have L := laid_of hL
  have hW' := hW
  obtain ⟨p, q, hA0, hV, rfl, hfz, hnd⟩ := hW
  have hA : DataW.TrodAll enc Tryd.prog W 0 (fun _ => true) true Tryd.f4.params.toList args.toList ds p := hA0
  rw [Tryd.params4] at hA hval hsz
  obtain ⟨v0, vs0, d0, ds0, p0, q0, hargs, rfl, rfl, h0, r0⟩ := trodAll_cons hA
  obtain ⟨v1, vs1, d1, ds1, p1, q1, rfl, rfl, rfl, h1, r1⟩ := trodAll_cons r0
  obtain ⟨v2, vs2, d2, ds2, p2, q2, rfl, rfl, rfl, h2, r2⟩ := trodAll_cons r1
  obtain ⟨v3, vs3, d3, ds3, p3, q3, rfl, rfl, rfl, h3, r3⟩ := trodAll_cons r2
  obtain ⟨rfl, rfl, rfl⟩ := trodAll_nil r3
  obtain rfl : args = #[v0, v1, v2, v3] := by cases args; simp_all
  obtain ⟨rfl, rfl⟩ := trodVars_none hV
  obtain ⟨a0, rfl, rfl, rfl, w0⟩ := open_int Tryd.underlying3 (hval 0 3 v0 rfl rfl) h0
  have hlt1 : ∀ x ∈ p1, x.block < W.heap.size := fun x hx => hW'.lt x (by simp [hx])
  have h1k := h1
  obtain ⟨A1, c1, l1, rfl, f1⟩ := open_pairsf (okWide_slice Tryd.underlying32 (hval 1 32 v1 rfl rfl)) h1
  have hlt2 : ∀ x ∈ p2, x.block < W.heap.size := fun x hx => hW'.lt x (by simp [hx])
  have h2k := h2
  obtain ⟨A2, c2, l2, rfl, f2⟩ := open_rows (okWide_slice Tryd.underlying22 (hval 2 22 v2 rfl rfl)) h2
  have hlt3 : ∀ x ∈ p3, x.block < W.heap.size := fun x hx => hW'.lt x (by simp [hx])
  have h3k := h3
  obtain ⟨A3, c3, l3, rfl, f3⟩ := open_intsf (okWide_slice Tryd.underlying53 (hval 3 53 v3 rfl rfl)) h3
  clear hA0 hval0
  refine (fifoOrder_walk a0 A1 c1 l1 A2 c2 l2 A3 c3 l3 w0 W L f1 f2 f3.row f3.len f3.wf).mono fun e W' ⟨he, bel⟩ => ?_
  subst he
  exact ⟨_, rfl, _, _, _, [], _, [], hW', trodAll_mk1 (shut_bool Tryd.underlying4 _), (trodAll_cons_mk (shut_int Tryd.underlying3 w0) (trodAll_cons_mk (Below.trod laidOut (by kernel_rfl) (of_decide_eq_true (by kernel_rfl)) h1k bel hlt1) (trodAll_cons_mk (Below.trod laidOut (by kernel_rfl) (of_decide_eq_true (by kernel_rfl)) h2k bel hlt2) (trodAll_cons_mk (Below.trod laidOut (by kernel_rfl) (of_decide_eq_true (by kernel_rfl)) h3k bel hlt3) trodAll_mk0)))), rfl, bel.frame _, fun h => by cases h⟩

theorem over : Rows.FifoOrderSaid :=
  OpenClaim.holds_of_wide 4 Tryd.f4 rfl rfl rfl rfl rfl rfl rfl ⟨rfl, rfl, rfl, rfl, rfl⟩ rfl rfl rfl rfl rfl (by kernel_rfl) Tryd.func4 (by kernel_rfl)
    (of_decide_eq_true (by kernel_rfl)) (by unfold Func.isWrapper; first | (rw [if_pos (by decide +kernel)]; kernel_rfl) | (rw [if_neg (by decide +kernel)]; exact ⟨rfl, rfl⟩))
    (fun os started H enc _ => lifted os started H enc)

theorem proved : Rows.FifoOrderCardSaid :=
  Claim7.holds_tied_plain_at .later [] [.data] true Rows.fifoOrderCard.stood.harness false
    over (fun _ h => by cases h) (by kernel_rfl) (fun _ h => by cases h) fifoOrder_row_tie rfl ⟨rfl, rfl⟩ (by kernel_rfl) rfl
    (fun f fn hf hfn => by
      obtain rfl : f = 4 := Option.some.inj ((show Tryd.prog.funcNamed "omnibus/omnibuslaw14.FifoOrder" = some 4 by kernel_rfl).symm.trans hf) |>.symm
      obtain rfl : fn = Tryd.f4 := (Option.some.inj (Tryd.func4.symm.trans hfn)).symm
      exact ⟨by kernel_rfl, fun j t ht => by
        rw [Tryd.params4] at ht
        have hm : t ∈ [3, 32, 22, 53] := by simpa using Array.mem_of_getElem? ht
        have hall : ([3, 32, 22, 53].all fun u => !Tryd.prog.wantsStandIn u) = true := by kernel_rfl
        exact (show Tryd.prog.wantsStandIn t = false by simpa using List.all_eq_true.1 hall t hm)⟩)
    (by kernel_rfl)
#print axioms proved
end Go.Proofs.YtehajmockicilaaDoor.fifoOrder

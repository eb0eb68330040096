/-
  The card of the statement 'FifoTells': whatever the input, the law's function returns true, and the input reads behind it as it did ahead of it; the one package-level variable that it reads is tied to the program's text. No condition but the row's own.
-/
import Derived.Test.YtehajmockicilaaDoorRows
import Derived.Test.YtehajmockicilaaDoorTie
import Derived.Test.YtehajmockicilaaDoorCards
import Derived.Test.YtehajmockicilaaDoorFifoTells
import Derived.Test.YtehajmockicilaaDoorMsgFrameL
import Derived.SevenTiedAt
import Derived.Test.YtehajmockicilaaDoorFifFilt
import Derived.ProofKit
import Derived.ChangeSlices
import Derived.Carry
import Derived.SizedLaws
namespace Go.Proofs.YtehajmockicilaaDoor
open Go Go.ChangeShapes Go.WideShapes Go.ChangeAt Go.RowKit Go.Joins Go.Deep

def Rowf (w : World) (B : Nat) (A : Option Addr) (l : List Int) : Prop :=
  0 < l.length → ∃ ad, A = some ad ∧ ad.block < B ∧ ∀ j x, l[j]? = some x → w.cell? (ad.add j) = some (.int .i64 x)
structure Intsf (w : World) (A : Option Addr) (c : Nat) (l : List Int) : Prop where
  row : Rowf w w.heap.size A l
  len : l.length ≤ c ∧ c ≤ maxLen
  wf : ∀ n ∈ l, (Lit.int .i64 n).wf = true

section
variable {H : Type} {enc : TypeId × Value → H} {w : World} {base : Nat} {held : Bool}
theorem open_intsf {v : Value} {d : DataW H} {p : List MemPlace} (hv : ∃ a n c, v = .slice a n c) (h : DataW.Trod enc Tryd.prog w base (fun _ => true) held 53 v d p) :
    ∃ (A : Option Addr) (c : Nat) (l : List Int), v = .slice A l.length c ∧ Intsf w A c l := by
  obtain ⟨A, n, cap, rfl⟩ := hv
  obtain ⟨fuel, hf⟩ := h
  rcases open_ints Tryd.underlying53 Tryd.underlying3 (by kernel_rfl) hf with ⟨h0, _⟩ | ⟨a, len, cap', zs, hcs, hb, hl, hm, hz, hx, hcell, hwf⟩
  · have : Value.slice A n cap = .slice none 0 0 := by simpa [Value.cells] using h0
    injection this with e1 e2 e3
    subst e1 e2 e3
    exact ⟨none, 0, [], rfl, fun hn => absurd hn (by simp), ⟨Nat.le_refl _, by unfold maxLen; omega⟩, fun n hn => by cases hn⟩
  · have : Value.slice A n cap = .slice (some a) len cap' := by simpa [Value.cells] using hcs
    injection this with e1 e2 e3
    subst e1 e2 e3
    rw [if_pos rfl] at hz
    have hlen : (zs.take n).length = n := by rw [List.length_take]; omega
    have at_ : ∀ j x, (zs.take n)[j]? = some x → w.cell? (a.add j) = some (.int .i64 x) := fun j x hx => by
      have hj : j < n := by have := (List.getElem?_eq_some_iff.1 hx).1; omega
      rw [List.getElem?_take_of_lt hj] at hx
      rw [hcell j (by omega)]
      simp [List.getD, hx]
    refine ⟨some a, cap, zs.take n, by rw [hlen], fun hn => ⟨a, rfl, ?_, at_⟩, ⟨by omega, hm⟩, fun x hx => hwf x (List.mem_of_mem_take hx)⟩
    have h0 := World.block_lt_of_cell? w _ (at_ 0 _ (List.getElem?_eq_getElem hn))
    rwa [adb] at h0
end



theorem list2f {α : Type} (l : List α) (h : l.length = 2) : ∃ a b, l = [a, b] := by
  match l, h with
  | [a, b], _ => exact ⟨a, b, rfl⟩

section
variable {H : Type} {enc : TypeId × Value → H} {w : World} {base : Nat} {held : Bool}
set_option maxRecDepth 100000 in
theorem open_pair_cellsf {spare : Nat → Bool} {fuel : Nat} {cs : List Value} {x : DataW H × List MemPlace} (hf : DataW.trod enc Tryd.prog w base spare held fuel 96 cs = some x) :
    ∃ s : Int × Int, cs = [.int .i64 s.1, .int .i64 s.2] ∧ (Lit.int .i64 s.1).wf = true ∧ (Lit.int .i64 s.2).wf = true := by
  have hc : Tryd.prog.cellsOf 96 = 2 := by kernel_rfl
  have hi : Tryd.prog.cellsOf 3 = 1 := by kernel_rfl
  obtain ⟨xs, n, _, hx, hl, hlen, hff⟩ := DataW.trod_array Tryd.underlying96 hf
  rw [hc] at hl
  obtain ⟨c0, c1, hcs⟩ := list2f _ hl
  obtain ⟨y0, y1, rfl⟩ := list2f xs hlen
  rw [hcs] at hff
  have f0 := hff 0 (by decide)
  have f1 := hff 1 (by decide)
  rw [hi] at f0 f1
  obtain ⟨a0, e0, r0, w0⟩ := DataW.trod_int Tryd.underlying3 f0
  obtain ⟨a1, e1, r1, w1⟩ := DataW.trod_int Tryd.underlying3 f1
  simp at e0 e1
  subst e0 e1
  exact ⟨(a0, a1), hcs, w0, w1⟩
set_option maxRecDepth 100000 in
theorem open_pairsf {v : Value} {d : DataW H} {p : List MemPlace} (hv : ∃ a n c, v = .slice a n c) (h : DataW.Trod enc Tryd.prog w base (fun _ => true) held 32 v d p) :
    ∃ (A : Option Addr) (cap : Nat) (l : List (Int × Int)), v = .slice A l.length cap ∧ PrsOkf w A cap l := by
  obtain ⟨A, n, cap, rfl⟩ := hv
  obtain ⟨fuel, hf⟩ := h
  have hc : Tryd.prog.cellsOf 96 = 2 := by kernel_rfl
  rcases open_slice Tryd.underlying32 hf with ⟨h0, _⟩ | ⟨a, len, cap', m, n', D, Pl, hcs, hba, hl, hm, hmm, hx, hel⟩
  · have : Value.slice A n cap = .slice none 0 0 := by simpa [Value.cells] using h0
    injection this with e1 e2 e3
    subst e1 e2 e3
    exact ⟨none, 0, [], rfl, fun h => absurd h (by simp), ⟨Nat.le_refl _, by unfold maxLen; omega⟩, fun r h => by cases h⟩
  · have : Value.slice A n cap = .slice (some a) len cap' := by simpa [Value.cells] using hcs
    injection this with e1 e2 e3
    subst e1 e2 e3
    rw [if_pos rfl] at hmm
    subst hmm
    have each : ∀ i, i < n → ∃ r : Int × Int, At2f w (a.add (i * 2)) r ∧ (Lit.int .i64 r.1).wf = true ∧ (Lit.int .i64 r.2).wf = true := by
      intro i hin
      obtain ⟨cs, h1, h2⟩ := hel i (by omega)
      rw [hc] at h1
      obtain ⟨_, h3, h4⟩ := World.cells?_some h1
      obtain ⟨r, hcs4, hw⟩ := open_pair_cellsf h2
      subst hcs4
      have q0 := h4 0 (by omega)
      have q1 := h4 1 (by omega)
      exact ⟨r, ⟨q0, q1⟩, hw⟩
    obtain ⟨l, hll, hlp⟩ := list_of_each _ n each
    subst hll
    refine ⟨some a, _, l, rfl, fun hn => ⟨a, rfl, ?_, fun j r hr => (hlp j r hr).1⟩, ⟨hl, hm⟩, fun r hr => ?_⟩
    · obtain ⟨r, hr, _⟩ := each 0 hn
      have := World.block_lt_of_cell? w _ hr.1
      rwa [adb] at this
    · obtain ⟨j, hj⟩ := List.getElem?_of_mem hr
      exact (hlp j r hj).2
end

end Go.Proofs.YtehajmockicilaaDoor

namespace Go.Proofs.YtehajmockicilaaDoor
open Go Go.ChangeShapes Go.WideShapes Go.ChangeAt Go.RowKit Go.Joins Go.Deep

theorem list3t {α : Type} (l : List α) (h : l.length = 3) : ∃ a b c, l = [a, b, c] := by
  match l, h with
  | [a, b, c], _ => exact ⟨a, b, c, rfl⟩
theorem shape_lt {w : World} {b : Nat} {s : TypeId × Nat} (h : w.shape? b = some s) : b < w.heap.size := by
  unfold World.shape? at h
  by_cases hb : b < w.heap.size
  · exact hb
  · rw [Array.getElem?_eq_none (by omega)] at h
    simp at h
theorem okWide_block {P : Program} {w : World} {r : Reach} {b0 : Nat} {t e : TypeId} (ht : P.underlying t = some (.slice e)) {a : Addr} {n c : Nat} (hv : Value.okWide P w r b0 t (.slice (some a) n c)) : a.block < w.heap.size := by
  simp only [Value.okWide, ht, Cell.okWide, Cell.ok] at hv
  obtain ⟨_, _, _, _, row, cells, hs, _⟩ := hv
  exact shape_lt hs

section
variable {H : Type} {enc : TypeId × Value → H} {w : World} {base : Nat} {held : Bool}
set_option maxRecDepth 100000 in
theorem open_flt {r : Reach} {b0 : Nat} {v : Value} {d : DataW H} {p : List MemPlace} (hok : Value.okWide Tryd.prog w r b0 31 v) (h : DataW.Trod enc Tryd.prog w base (fun _ => true) held 31 v d p) :
    ∃ (A : Option Addr) (cap : Nat) (l : List (Bool × Int × Int)), v = .slice A l.length cap ∧ FltOk w A cap l := by
  obtain ⟨A, n, cap, rfl⟩ := okWide_slice Tryd.underlying31 hok
  obtain ⟨fuel, hf⟩ := h
  have hc : Tryd.prog.cellsOf 58 = 3 := by kernel_rfl
  have hb : Tryd.prog.cellsOf 4 = 1 := by kernel_rfl
  have hi : Tryd.prog.cellsOf 3 = 1 := by kernel_rfl
  rcases open_slice Tryd.underlying31 hf with ⟨h0, _⟩ | ⟨a, len, cap', m, n', D, Pl, hcs, hba, hl, hm, hmm, hx, hel⟩
  · have : Value.slice A n cap = .slice none 0 0 := by simpa [Value.cells] using h0
    injection this with e1 e2 e3
    subst e1 e2 e3
    exact ⟨none, 0, [], rfl, .inl ⟨rfl, rfl⟩, fun _ => rfl, Nat.le_refl _, by unfold maxLen; omega⟩
  · have : Value.slice A n cap = .slice (some a) len cap' := by simpa [Value.cells] using hcs
    injection this with e1 e2 e3
    subst e1 e2 e3
    rw [if_pos rfl] at hmm
    subst hmm
    have each : ∀ i, i < n → ∃ f : Bool × Int × Int, w.cell? (a.add (i * 3)) = some (.bool f.1) ∧ w.cell? ⟨(a.add (i * 3)).block, (a.add (i * 3)).off + 1, none⟩ = some (.int .i64 f.2.1) ∧ w.cell? ⟨(a.add (i * 3)).block, (a.add (i * 3)).off + 2, none⟩ = some (.int .i64 f.2.2) := by
      intro i hin
      obtain ⟨cs, h1, h2⟩ := hel i (by omega)
      rw [hc] at h1
      obtain ⟨_, h3, h4⟩ := World.cells?_some h1
      obtain ⟨y0, y1, y2, k, _, _, t0, t1, t2⟩ := trod_struct3 Tryd.underlying58 h2
      obtain ⟨c0, c1, c2, rfl⟩ := list3t cs h3
      simp only [hb, hi] at t0 t1 t2
      obtain ⟨b, g0, _⟩ := DataW.trod_bool Tryd.underlying4 t0
      obtain ⟨x, g1, _, _⟩ := DataW.trod_int Tryd.underlying3 t1
      obtain ⟨y, g2, _, _⟩ := DataW.trod_int Tryd.underlying3 t2
      simp at g0 g1 g2
      subst g0 g1 g2
      have q0 := h4 0 (by omega)
      have q1 := h4 1 (by omega)
      have q2 := h4 2 (by omega)
      exact ⟨(b, x, y), q0, q1, q2⟩
    obtain ⟨l, hll, hlp⟩ := list_of_each _ n each
    subst hll
    exact ⟨some a, _, l, rfl, .inr ⟨a, rfl, okWide_block Tryd.underlying31 hok, hlp⟩, (fun e => by cases e), hl, hm⟩

set_option maxRecDepth 100000 in
theorem open_fifo {r : Reach} {b0 : Nat} {v : Value} {d : DataW H} {p : List MemPlace} (hv : Value.okWide Tryd.prog w r b0 30 v) (h : DataW.Trod enc Tryd.prog w base (fun _ => true) held 30 v d p) :
    ∃ (L T : Int) (A : Option Addr) (c : Nat) (l : List Msg), v = fiv L T A l.length c ∧ (Lit.int .i64 L).wf = true ∧ (Lit.int .i64 T).wf = true ∧ ((∀ m ∈ l, m.data.size ≤ 140737488351232) → MsgsOk w A c l) ∧ ∀ m ∈ l, m.data.size ∈ d.weights Tryd.prog 30 := by
  have hc : Tryd.prog.cellsOf 30 = 3 := by kernel_rfl
  have hi : Tryd.prog.cellsOf 3 = 1 := by kernel_rfl
  have hs : Tryd.prog.cellsOf 28 = 1 := by kernel_rfl
  obtain ⟨cs, rfl, hsz, hok⟩ : ∃ cs, v = .agg cs ∧ cs.size = Tryd.prog.cellsOf 30 ∧ Row.okWide Tryd.prog w r b0 30 cs := by
    simpa [Value.okWide, Tryd.underlying30] using hv
  obtain ⟨fuel, hf⟩ := h
  have hf' : DataW.trod enc Tryd.prog w base (fun _ => true) held fuel 30 cs.toList = some (d, p) := hf
  obtain ⟨xs, n, _, hx, hl, hlen, hff⟩ := DataW.trod_struct Tryd.underlying30 hf'
  rw [hc] at hl
  obtain ⟨c0, c1, c2, hcs⟩ := list3t _ hl
  obtain ⟨y0, y1, y2, rfl⟩ := list3t xs hlen
  rw [hcs] at hff
  have f0 : DataW.trod enc Tryd.prog w base (fun _ => true) held n 3 (([c0, c1, c2].drop 0).take (Tryd.prog.cellsOf 3)) = some y0 := hff 0 _ rfl
  have f1 : DataW.trod enc Tryd.prog w base (fun _ => true) held n 3 (([c0, c1, c2].drop 1).take (Tryd.prog.cellsOf 3)) = some y1 := hff 1 _ rfl
  have f2 : DataW.trod enc Tryd.prog w base (fun _ => true) held n 28 (([c0, c1, c2].drop 2).take (Tryd.prog.cellsOf 28)) = some y2 := hff 2 _ rfl
  rw [hi] at f0 f1
  rw [hs] at f2
  obtain ⟨a0, e0, r0, w0⟩ := DataW.trod_int Tryd.underlying3 f0
  obtain ⟨a1, e1, r1, w1⟩ := DataW.trod_int Tryd.underlying3 f1
  simp at e0 e1
  have f2' : DataW.trod enc Tryd.prog w base (fun _ => true) held n 28 [c2] = some y2 := by simpa using f2
  obtain ⟨A, k, c, rfl⟩ : ∃ A k c, c2 = .slice A k c := by
    rcases open_slice Tryd.underlying28 f2' with ⟨h0, _⟩ | ⟨a, len, cap', m, n', D, Pl, h0, _⟩
    · exact ⟨none, 0, 0, by simpa using h0⟩
    · exact ⟨some a, len, cap', by simpa using h0⟩
  obtain ⟨d2, p2⟩ := y2
  obtain ⟨A2, c2', l2, e4, hM, hL, hW⟩ := open_msgs (v := .slice A k c) ⟨_, _, _, rfl⟩ ⟨n, by simpa [Value.cells] using f2'⟩
  injection e4 with g1 g2 g3
  subst g1 g2 g3
  refine ⟨a0, a1, A, c, l2, ?_, w0, w1, fun hd => ⟨hM, hL, fun j m hj => hd m (List.mem_of_getElem? hj)⟩, fun m hm => ?_⟩
  · rw [e0, e1] at hcs
    have : cs = #[.int .i64 a0, .int .i64 a1, .slice A l2.length c] := Array.ext' hcs
    rw [this]
  · obtain ⟨j, hj⟩ := List.getElem?_of_mem hm
    have hw := hW j m hj
    have hd : d = .agg [y0.1, y1.1, d2] := by
      have := (Prod.ext_iff.1 hx).1
      simpa using this
    have hu := Tryd.underlying30
    rw [hd, DataW.weights, hu]
    exact DataW.weights_mem_each (j := 2) (t := 28) (d := d2) rfl rfl _ hw
end

end Go.Proofs.YtehajmockicilaaDoor

namespace Go.Proofs.YtehajmockicilaaDoor.fifoTells
open Go Go.ChangeShapes Go.WideShapes Go.ChangeAt Go.RowKit Go.Joins
open Go.ChangeMaps (open_string shut_string)
set_option linter.unusedVariables false

set_option maxRecDepth 100000 in
theorem lifted (os : Os) (started : os.Started) (H : Type) (enc : TypeId × Value → H) :
    ReturnsInHanded {} Tryd.checked os 3 .any (fun w args => (Rows.fifoTellsSpec.pre enc Tryd.prog Tryd.f3 [] false w args ∧ laidMetH Tryd.prog Rows.fifoTellsRow.laid w) ∧ sizedMet enc Tryd.prog Tryd.f3 (OpenSpec.ofChange Rows.fifoTellsSpec) false w args) (Rows.fifoTellsSpec.post enc Tryd.prog Tryd.f3 false true false false) := by
  refine returnsInHanded_of_change_and (C := Tryd.checked) (X := fun w _ => laidMetH Tryd.prog Rows.fifoTellsRow.laid w) (fun _ _ _ hh h => h.of_heap hh) own started (by kernel_rfl) Tryd.func3
    (ChangeSpec.witness_shaped (enc := enc) (C := Tryd.checked) (os := os) (X := fun w _ => laidMetH Tryd.prog Rows.fifoTellsRow.laid w) false (World.doorLaid Tryd.prog 400 os) #[.int .i64 0, .int .i64 0, .slice none 0 0, mv zeroM, .agg #[.int .i64 0, .int .i64 0, .int .i64 0, .int .i64 0, .int .i64 0, .int .i64 0], .agg #[.int .i64 0, .int .i64 0, .slice none 0 0], .int .i64 0, .slice none 0 0, .slice none 0 0] 8 rfl (World.shaped_of_RefB (by kernel_rfl) (by kernel_rfl)) (by kernel_rfl) (by kernel_rfl) (by kernel_rfl) (door_met os _)) ?_
  intro W base args ds gs before hval0 hW hcnd hsz0 hL _
  have hsz : (DataW.weightsEach Tryd.prog (Tryd.f3.params.toList ++ Rows.fifoTellsSpec.plain.varTypes Tryd.prog) (ds ++ gs)).all (· ≤ reachBytes) = true := hsz0
  have hval : ∀ (j : Nat) t v, Tryd.f3.params[j]? = some t → args[j]? = some v → Value.okWide Tryd.prog W .any base t v := hval0
  have L := laid_of hL
  have hW' := hW
  obtain ⟨p, q, hA0, hV, rfl, hfz, hnd⟩ := hW
  have hA : DataW.TrodAll enc Tryd.prog W 0 (fun _ => true) true Tryd.f3.params.toList args.toList ds p := hA0
  rw [Tryd.params3] at hA hval hsz
  obtain ⟨v0, vs0, d0, ds0, p0, q0, hargs, rfl, rfl, h0, r0⟩ := trodAll_cons hA
  obtain ⟨v1, vs1, d1, ds1, p1, q1, rfl, rfl, rfl, h1, r1⟩ := trodAll_cons r0
  obtain ⟨v2, vs2, d2, ds2, p2, q2, rfl, rfl, rfl, h2, r2⟩ := trodAll_cons r1
  obtain ⟨v3, vs3, d3, ds3, p3, q3, rfl, rfl, rfl, h3, r3⟩ := trodAll_cons r2
  obtain ⟨v4, vs4, d4, ds4, p4, q4, rfl, rfl, rfl, h4, r4⟩ := trodAll_cons r3
  obtain ⟨v5, vs5, d5, ds5, p5, q5, rfl, rfl, rfl, h5, r5⟩ := trodAll_cons r4
  obtain ⟨v6, vs6, d6, ds6, p6, q6, rfl, rfl, rfl, h6, r6⟩ := trodAll_cons r5
  obtain ⟨v7, vs7, d7, ds7, p7, q7, rfl, rfl, rfl, h7, r7⟩ := trodAll_cons r6
  obtain ⟨v8, vs8, d8, ds8, p8, q8, rfl, rfl, rfl, h8, r8⟩ := trodAll_cons r7
  obtain ⟨rfl, rfl, rfl⟩ := trodAll_nil r8
  obtain rfl : args = #[v0, v1, v2, v3, v4, v5, v6, v7, v8] := by cases args; simp_all
  obtain ⟨rfl, rfl⟩ := trodVars_none hV
  obtain ⟨a0, rfl, rfl, rfl, w0⟩ := open_int Tryd.underlying3 (hval 0 3 v0 rfl rfl) h0
  obtain ⟨a1, rfl, rfl, rfl, w1⟩ := open_int Tryd.underlying3 (hval 1 3 v1 rfl rfl) h1
  have hlt2 : ∀ x ∈ p2, x.block < W.heap.size := fun x hx => hW'.lt x (by simp [hx])
  have h2k := h2
  obtain ⟨A2, c2, l2, rfl, f2⟩ := open_rows (okWide_slice Tryd.underlying22 (hval 2 22 v2 rfl rfl)) h2
  obtain ⟨a3, rfl, rfl, rfl, w3⟩ := open_msg (hval 3 26 v3 rfl rfl) h3
  obtain ⟨a4, b4, c4, e4, f4, g4, rfl, rfl, rfl, w4, x4, y4, z4, u4, t4⟩ := open_six (hval 4 27 v4 rfl rfl) h4
  have hlt5 : ∀ x ∈ p5, x.block < W.heap.size := fun x hx => hW'.lt x (by simp [hx])
  have h5k := h5
  obtain ⟨L5, T5, A5, c5, l5, rfl, w5, x5, m5, y5⟩ := open_fifo (hval 5 30 v5 rfl rfl) h5
  have f5 : MsgsOk W A5 c5 l5 := m5 (fun x hx => of_decide_eq_true (List.all_eq_true.1 hsz _ (DataW.weights_mem_each (j := 5) (t := 30) rfl rfl _ (y5 x hx))))
  obtain ⟨a6, rfl, rfl, rfl, w6⟩ := open_int Tryd.underlying3 (hval 6 3 v6 rfl rfl) h6
  have hlt7 : ∀ x ∈ p7, x.block < W.heap.size := fun x hx => hW'.lt x (by simp [hx])
  have h7k := h7
  obtain ⟨A7, c7, l7, rfl, f7⟩ := open_flt (hval 7 31 v7 rfl rfl) h7
  have hlt8 : ∀ x ∈ p8, x.block < W.heap.size := fun x hx => hW'.lt x (by simp [hx])
  have h8k := h8
  obtain ⟨A8, c8, l8, rfl, f8⟩ := open_pairsf (okWide_slice Tryd.underlying32 (hval 8 32 v8 rfl rfl)) h8
  clear hA0 hval0
  refine (fifoTells_walk a0 a1 A2 c2 l2 a3 a4 b4 c4 e4 f4 g4 L5 T5 A5 c5 l5 a6 A7 c7 l7 A8 c8 l8 w0 w1 w4 x4 y4 z4 u4 t4 w6 W L f2 f5 f7 f8).mono fun e W' ⟨he, bel⟩ => ?_
  subst he
  exact ⟨_, rfl, _, _, _, [], _, [], hW', trodAll_mk1 (shut_bool Tryd.underlying4 _), (trodAll_cons_mk (shut_int Tryd.underlying3 w0) (trodAll_cons_mk (shut_int Tryd.underlying3 w1) (trodAll_cons_mk (Below.trod laidOut (by kernel_rfl) (of_decide_eq_true (by kernel_rfl)) h2k bel hlt2) (trodAll_cons_mk (shut_msg w3) (trodAll_cons_mk (shut_six w4 x4 y4 z4 u4 t4) (trodAll_cons_mk (Below.trod laidOut (by kernel_rfl) (of_decide_eq_true (by kernel_rfl)) h5k bel hlt5) (trodAll_cons_mk (shut_int Tryd.underlying3 w6) (trodAll_cons_mk (Below.trod laidOut (by kernel_rfl) (of_decide_eq_true (by kernel_rfl)) h7k bel hlt7) (trodAll_cons_mk (Below.trod laidOut (by kernel_rfl) (of_decide_eq_true (by kernel_rfl)) h8k bel hlt8) trodAll_mk0))))))))), rfl, bel.frame _, fun h => by cases h⟩

theorem over : Rows.FifoTellsSaid :=
  OpenClaim.holds_of_wide 3 Tryd.f3 rfl rfl rfl rfl rfl rfl rfl ⟨rfl, rfl, rfl, rfl, rfl⟩ rfl rfl rfl rfl rfl (by kernel_rfl) Tryd.func3 (by kernel_rfl)
    (of_decide_eq_true (by kernel_rfl)) (by unfold Func.isWrapper; first | (rw [if_pos (by decide +kernel)]; kernel_rfl) | (rw [if_neg (by decide +kernel)]; exact ⟨rfl, rfl⟩))
    (fun os started H enc _ => lifted os started H enc)

theorem proved : Rows.FifoTellsCardSaid :=
  Claim7.holds_tied_plain_at .later [] [.data] true Rows.fifoTellsCard.stood.harness false
    over (fun _ h => by cases h) (by kernel_rfl) (fun _ h => by cases h) fifoTells_row_tie rfl ⟨rfl, rfl⟩ (by kernel_rfl) rfl
    (fun f fn hf hfn => by
      obtain rfl : f = 3 := Option.some.inj ((show Tryd.prog.funcNamed "omnibus/omnibuslaw14.FifoTells" = some 3 by kernel_rfl).symm.trans hf) |>.symm
      obtain rfl : fn = Tryd.f3 := (Option.some.inj (Tryd.func3.symm.trans hfn)).symm
      exact ⟨by kernel_rfl, fun j t ht => by
        rw [Tryd.params3] at ht
        have hm : t ∈ [3, 3, 22, 26, 27, 30, 3, 31, 32] := by simpa using Array.mem_of_getElem? ht
        have hall : ([3, 3, 22, 26, 27, 30, 3, 31, 32].all fun u => !Tryd.prog.wantsStandIn u) = true := by kernel_rfl
        exact (show Tryd.prog.wantsStandIn t = false by simpa using List.all_eq_true.1 hall t hm)⟩)
    (by kernel_rfl)
#print axioms proved
end Go.Proofs.YtehajmockicilaaDoor.fifoTells

/-
  The walk of the law FragWhole.
-/
import Derived.Test.YtggeojjiongbbaaFragWhMath
import Derived.Test.YtggeojjiongbbaaFragSizes
import Derived.Test.YtggeojjiongbbaaFragInts
import Derived.Test.YtggeojjiongbbaaFragFrame
import Derived.Test.YtggeojjiongbbaaOnce
namespace Go.Proofs.Ytggeojjiongbbaa
open Go.RowKit

theorem bool_info : (Try.prog.info? 4).map (fun i => (i.zero, i.size, i.bytes)) = some (some (.bool false), 1, 1) := by kernel_rfl
/-- A new list of false. -/
theorem make_bools (n : Nat) (h : n ≤ 20) (w : World) : (Instr.makeSlice 57 (.int .i64 (n : Int)) (.int .i64 (n : Int))).run Try.prog w = .ok (.slice (some ⟨w.heap.size, 0, none⟩) n n) (w.alloc (.cells ((List.replicate n false).map Value.bool).toArray 4)) := by
  obtain ⟨i0, hi, hz0, hz1, hz2⟩ := info_parts bool_info
  have := run_make (P := Try.prog) w 57 4 i0 (.bool false) Try.underlying57 hi hz0 .i64 .i64 (n : Int) (n : Int) (by omega) (Int.le_refl _) (by rw [hz2]; omega) (by omega)
  have e : madeCells #[Value.bool false] n = ((List.replicate n false).map Value.bool).toArray := by
    apply Array.toList_inj.1
    rw [toList_madeCells_one, List.map_replicate]
  rw [this, Int.toNat_natCast, hz1, Nat.mul_one, ← e]
  rfl
def HadAt (w : World) (H : Nat) (hs : List Bool) : Prop := w.heap[H]? = some (.cells (hs.map Value.bool).toArray 4 (0, 0))
theorem HadAt.on {w w' : World} {H : Nat} {hs : List Bool} (h : HadAt w H hs) (hb : Below w.heap.size w w') : HadAt w' H hs := (hb.block H (Array.getElem?_eq_some_iff.1 h).1).trans h
theorem HadAt.cell {w : World} {H : Nat} {hs : List Bool} (h : HadAt w H hs) {k : Nat} {b : Bool} (hk : hs[k]? = some b) : w.cell? ⟨H, k, none⟩ = some (.bool b) := by
  rw [cell_of h k]
  simp [hk]
theorem HadAt.frozen {w : World} {H : Nat} {hs : List Bool} (h : HadAt w H hs) (j : Nat) : w.frozen? ⟨H, j, none⟩ = false := by
  simp [World.frozen?, show w.heap[H]? = _ from h]
theorem HadAt.mark {w : World} {H : Nat} {hs : List Bool} (h : HadAt w H hs) (k : Nat) : HadAt (w.setCell ⟨H, k, none⟩ (.bool true)) H (hs.set k true) := by
  have := set_blk h k (.bool true)
  unfold HadAt
  rw [this, List.map_set]
  simp
theorem had_gat {w : World} {g H : Nat} {i q : Int} {S : Value} {hs : List Bool} (h : GatAt w g i q S) (hp : HadAt w H hs) : H ≠ g := by
  rintro rfl
  have h2 := Option.some.inj ((show w.heap[H]? = _ from h).symm.trans hp)
  injection h2 with h3 h4
  exact absurd h4 (by decide)
theorem Strs.bool {w : World} {B b k : Nat} {A : Option Addr} {l : List ByteArray} {n : Bool} (h : Strs w B A l) (hc : w.cell? ⟨b, k, none⟩ = some (.bool n)) (v : Value) : Strs (w.setCell ⟨b, k, none⟩ v) B A l := fun hl => by
  obtain ⟨ad, e, hb, hs⟩ := h hl
  refine ⟨ad, e, hb, fun j d hd => ?_⟩
  have h0 := hs j d hd
  rw [World.cell?_setCell_other]
  · exact h0
  · intro e2
    rw [← e2, hc] at h0
    cases h0
theorem grown_cellW (w : World) (b j : Nat) (v : Value) : w.grownBy (w.setCell ⟨b, j, none⟩ v) (some b) :=
  ⟨rfl, rfl, rfl, by simp, fun k _ hne => Below.heap_setCell _ _ _ _ (fun e => hne (by rw [e]))⟩

/-- Between two statements: the box of what was gathered, and what was had. -/
structure WSt (w0 w : World) (b13 H : Nat) (gi gq : Int) (gl : List ByteArray) (A : Option Addr) (c : Nat) (hs : List Bool) : Prop where
  bel : Below w0.heap.size w0 w
  h13 : w0.heap.size ≤ b13
  hH : w0.heap.size ≤ H
  gat : GatAt w b13 gi gq (.slice A gl.length c)
  cap : gl.length ≤ c
  str : Strs w w.heap.size A gl
  had : HadAt w H hs
theorem WSt.on {w0 w w' : World} {b13 H c : Nat} {gi gq : Int} {gl : List ByteArray} {A : Option Addr} {hs : List Bool} (h : WSt w0 w b13 H gi gq gl A c hs) (hb : Below w.heap.size w w') : WSt w0 w' b13 H gi gq gl A c hs :=
  ⟨h.bel.trans (hb.mono h.bel.size), h.h13, h.hH, h.gat.on hb, h.cap, (h.str.below hb (Nat.le_refl _)).more hb.size, h.had.on hb⟩
theorem WSt.put {w0 w : World} {b13 H c c' : Nat} {gi gq gi' gq' : Int} {gl gl' : List ByteArray} {A A' : Option Addr} {hs : List Bool} (h : WSt w0 w b13 H gi gq gl A c hs) (hc : gl'.length ≤ c') (hs' : Strs w w.heap.size A' gl') :
    WSt w0 (put3 w b13 gi' gq' (.slice A' gl'.length c')) b13 H gi' gq' gl' A' c' hs := by
  have hg := put3_grown w b13 gi' gq' (.slice A' gl'.length c')
  refine ⟨put3_below h.bel h.h13 _ _ _, h.h13, h.hH, put3_blk h.gat _ _ _, hc, (hs'.past h.gat hg).more hg.size, ?_⟩
  exact (hg.block H (Array.getElem?_eq_some_iff.1 h.had).1 (fun e => had_gat h.gat h.had (Option.some.inj e))).trans h.had
theorem WSt.mark {w0 w : World} {b13 H c : Nat} {gi gq : Int} {gl : List ByteArray} {A : Option Addr} {hs : List Bool} (h : WSt w0 w b13 H gi gq gl A c hs) {k : Nat} {b : Bool} (hk : hs[k]? = some b) :
    WSt w0 (w.setCell ⟨H, k, none⟩ (.bool true)) b13 H gi gq gl A c (hs.set k true) := by
  have hg := grown_cellW w H k (.bool true)
  refine ⟨h.bel.setCell (p := ⟨H, k, none⟩) h.hH _, h.h13, h.hH, h.gat.grown hg (fun e => had_gat h.gat h.had (Option.some.inj e)), h.cap, (h.str.bool (h.had.cell hk) _).more hg.size, h.had.mark k⟩
theorem set_same {hs : List Bool} {k : Nat} (h : hs[k]? = some true) : hs.set k true = hs := by
  apply List.ext_getElem?
  intro j
  rw [List.getElem?_set]
  by_cases e : k = j
  · subst e; rw [if_pos rfl, h, if_pos (List.getElem?_eq_some_iff.1 h).1]
  · rw [if_neg e]
theorem set_count {hs : List Bool} {k : Nat} (h : hs[k]? = some false) : (hs.set k true).count true = hs.count true + 1 := by
  obtain ⟨hk, e⟩ := List.getElem?_eq_some_iff.1 h
  rw [List.count_set hk, e]
  simp

theorem all_set {hs : List Bool} {k : Nat} (h : ∀ q, q < k → hs[q]? = some true) (hk : k < hs.length) : ∀ q, q < k + 1 → (hs.set k true)[q]? = some true := fun q hq => by
  rw [List.getElem?_set]
  by_cases e : k = q
  · rw [if_pos e, if_pos hk]
  · rw [if_neg e]; exact h q (by omega)
theorem all_true {hs : List Bool} {M : Nat} (hl : hs.length = M) (h : ∀ q, q < M → hs[q]? = some true) : hs = List.replicate M true := by
  apply List.ext_getElem?
  intro q
  rw [List.getElem?_replicate]
  by_cases e : q < M
  · rw [if_pos e]; exact h q e
  · rw [if_neg e]; exact List.getElem?_eq_none (by omega)
theorem all_count {hs : List Bool} {M : Nat} (hl : hs.length = M) (h : ∀ q, q < M → hs[q]? = some true) : hs.count true = M := by
  rw [all_true hl h, List.count_replicate]; simp
theorem all_any {hs : List Bool} {M : Nat} (hM : 1 ≤ M) (hl : hs.length = M) (h : ∀ q, q < M → hs[q]? = some true) : hs.any id = true :=
  List.any_eq_true.2 ⟨true, List.mem_of_getElem? (h 0 (by omega)), rfl⟩

/-- The contracts, by what was put. -/
theorem wh_calls (x : ByteArray) (hx : 1 ≤ x.size ∧ x.size ≤ 20) (N : Nat) (hN : 1 ≤ N ∧ N ≤ 16) (A0 : Option Addr) (c0 : Nat) (l : List Raw) (hl : l.length ≤ maxLen) (hwf : ∀ r ∈ l, WfR r) :
    ∃ (M : Nat) (GI GQ : List Bool → Int) (GL : List Bool → List ByteArray) (WT : List Bool → ByteArray) (PB : Nat → ByteArray), 1 ≤ M ∧ M ≤ 20
    ∧ (∀ hs, hs.count true = M → hs.length = M → WT hs = x)
    ∧ (∀ W, Calls Try.prog 12 #[.int .i64 9, .string x, .int .i64 N] W fun e w' => ∃ A c, e = .returned (.tuple #[.slice A M c, .int .i64 0]) ∧ (∃ ad, A = some ad ∧ ad.block < w'.heap.size ∧ ∀ k, k < M → At4 w' (ad.add (k * 4)) ⟨9, k, M, PB k⟩) ∧ Below W.heap.size W w')
    ∧ (∀ B W, Raws W B A0 l → B ≤ W.heap.size → Calls Try.prog 22 #[.slice A0 l.length c0] W fun e w' => ∃ A c, e = .returned (.agg #[.int .i64 (GI (List.replicate M false)), .int .i64 (GQ (List.replicate M false)), .slice A (GL (List.replicate M false)).length c]) ∧ (GL (List.replicate M false)).length ≤ c ∧ Strs w' w'.heap.size A (GL (List.replicate M false)) ∧ Below W.heap.size W w')
    ∧ (∀ hs k A c W, hs.length = M → k < M → Strs W W.heap.size A (GL hs) → (GL hs).length ≤ c → Calls Try.prog 28 #[.agg #[.int .i64 (GI hs), .int .i64 (GQ hs), .slice A (GL hs).length c], .int .i64 2, .agg #[.int .i64 9, .int .i64 k, .int .i64 M, .string (PB k)]] W fun e w' =>
        ∃ A' c', e = .returned (.tuple #[.agg #[.int .i64 (GI (hs.set k true)), .int .i64 (GQ (hs.set k true)), .slice A' (GL (hs.set k true)).length c'], .int .i64 0]) ∧ (GL (hs.set k true)).length ≤ c' ∧ Strs w' w'.heap.size A' (GL (hs.set k true)) ∧ Below W.heap.size W w')
    ∧ (∀ hs A c W, hs.length = M → hs.any id = true → Strs W W.heap.size A (GL hs) → (GL hs).length ≤ c → Calls Try.prog 24 #[.agg #[.int .i64 (GI hs), .int .i64 (GQ hs), .slice A (GL hs).length c]] W fun e w' =>
        e = .returned (.tuple #[.string (WT hs), .bool (decide (hs.count true = M))]) ∧ Below W.heap.size W w')
    ∧ (∀ hs (r : Raw) A c W, hs.length = M → hs.any id = true → Strs W W.heap.size A (GL hs) → (GL hs).length ≤ c → Calls Try.prog 28 #[.agg #[.int .i64 (GI hs), .int .i64 (GQ hs), .slice A (GL hs).length c], .int .i64 (rawI r), pv (rawP r)] W fun e w' =>
        ∃ A' c', e = .returned (.tuple #[.agg #[.int .i64 (GI hs), .int .i64 (GQ hs), .slice A' (GL hs).length c'], .int .i64 0]) ∧ (GL hs).length ≤ c' ∧ Strs w' w'.heap.size A' (GL hs) ∧ Below W.heap.size W w')
    ∧ (∀ hs A A' c c' W, hs.length = M → Strs W W.heap.size A (GL hs) → Strs W W.heap.size A' (GL hs) → Calls Try.prog 30 #[.agg #[.int .i64 (GI hs), .int .i64 (GQ hs), .slice A (GL hs).length c], .agg #[.int .i64 (GI hs), .int .i64 (GQ hs), .slice A' (GL hs).length c']] W fun e w' => e = .returned (.bool true) ∧ Below W.heap.size W w') := by
  have hsp : splitB 9 x.size (N : Int) = true := (splitB_iff _ _ _).2 ⟨by omega, hx, by omega, by omega⟩
  have g0 := gat_may (l.take 10)
  have gi0 := gat_inc (l.take 10)
  have gq0 := gat_seq (l.take 10)
  have hmay : ∀ hs : List Bool, hs.length = countP x.size N → mayG (gW (gatL (l.take 10)) x N hs) = true := fun hs h => by
    unfold gW; split
    · rename_i ha; exact gW_may hsp h ha
    · exact g0
  have hrep : gW (gatL (l.take 10)) x N (List.replicate (countP x.size N) false) = gatL (l.take 10) := by
    unfold gW
    rw [if_neg]
    intro h
    obtain ⟨b, hb, e⟩ := List.any_eq_true.1 h
    rw [(List.mem_replicate.1 hb).2] at e
    cases e
  have hput : ∀ hs k, hs.length = countP x.size N → k < countP x.size N → putG (gW (gatL (l.take 10)) x N hs) 2 (pieceP 9 x N k) = gW (gatL (l.take 10)) x N (hs.set k true) ∧ putE (gW (gatL (l.take 10)) x N hs) 2 (pieceP 9 x N k) = 0 := fun hs k h hk => wh_put hsp g0 gi0 (fun _ => gq0) h hk
  refine ⟨countP x.size N, fun hs => (gW (gatL (l.take 10)) x N hs).i, fun hs => (gW (gatL (l.take 10)) x N hs).q, fun hs => (gW (gatL (l.take 10)) x N hs).l, fun hs => wholeT (gW (gatL (l.take 10)) x N hs).i (gW (gatL (l.take 10)) x N hs).q (gW (gatL (l.take 10)) x N hs).l, fun k => cutT x k N, count_1 hsp, count_20 hsp, fun hs hc hlen => ?_, fun W => ?_, fun B W hR hB => ?_, fun hs k A c W hlen hk hs1 hc => ?_, fun hs A c W hlen ha hs1 hc => ?_, fun hs r A c W hlen ha hs1 hc => ?_, fun hs A A' c c' W hlen hs1 hs2 => ?_⟩
  · have ha : hs.any id = true := by
      have h1 := count_1 hsp
      have : 0 < hs.count true := by omega
      exact List.any_eq_true.2 ⟨true, List.count_pos_iff.1 this, rfl⟩
    exact (wh_whole hsp hlen ha).2 hc
  · refine (splitOk_any 9 (by omega) x hx N hN W).mono ?_
    rintro e w' ⟨A, c, he, hp, hb⟩
    obtain ⟨ad, e1, e2, e3⟩ := hp (by rw [splitL_length]; exact count_1 hsp)
    exact ⟨A, c, he, ⟨ad, e1, e2, fun k hk => e3 k _ (splitL_at 9 x N k hk)⟩, hb⟩
  · have h := gather_any A0 c0 B l W hR hB hl hwf
    unfold GatherPost at h
    simp only [hrep]
    exact h
  · have hm := may_len (hmay hs hlen)
    have h := putP_any A c (gW (gatL (l.take 10)) x N hs) 2 (pieceP 9 x N k) W hs1 (by omega) hc (fun d hd => by have := hm.2 d hd; unfold maxLen; omega) (by have := (cut_some hsp hk).2; show (cutT x k N).size ≤ maxLen; unfold maxLen; omega)
    rw [(hput hs k hlen hk).1, (hput hs k hlen hk).2] at h
    exact h
  · have hm := may_len (hmay hs hlen)
    have h := wholeP_any A c (gW (gatL (l.take 10)) x N hs).i (gW (gatL (l.take 10)) x N hs).q (gW (gatL (l.take 10)) x N hs).l W hs1 (by unfold maxLen; omega) hc (fun d hd => by have := hm.2 d hd; unfold maxLen; omega)
    rw [(wh_whole hsp hlen ha).1] at h
    exact h
  · have hm := may_len (hmay hs hlen)
    have h := putP_any A c (gW (gatL (l.take 10)) x N hs) (rawI r) (rawP r) W hs1 (by omega) hc (fun d hd => by have := hm.2 d hd; unfold maxLen; omega) (by have := ((rightP_iff _).1 (raw_right r)).2.2.2.2; unfold maxLen; omega)
    rw [(wh_old hsp hlen ha r).1, (wh_old hsp hlen ha r).2] at h
    exact h
  · have hm := may_len (hmay hs hlen)
    have h := refSame_any A A' c c' (gW (gatL (l.take 10)) x N hs).i (gW (gatL (l.take 10)) x N hs).q (gW (gatL (l.take 10)) x N hs).i (gW (gatL (l.take 10)) x N hs).q (gW (gatL (l.take 10)) x N hs).l (gW (gatL (l.take 10)) x N hs).l W hs1 hs2 (by have := hm.1; unfold maxLen; omega) (by have := hm.1; unfold maxLen; omega)
    rw [(sameG_iff _ _ _ _ _ _).2 ⟨rfl, rfl, rfl⟩] at h
    exact h

set_option maxRecDepth 100000 in
set_option maxHeartbeats 16000000 in
theorem fragWhole_walk (s : ByteArray) (size : Int) (Ao : Option Addr) (co : Nat) (ord : List Int) (A0 : Option Addr) (c0 : Nat) (l : List Raw) (hs : s.size ≤ 140737488351232) (h1 : (Lit.int .i64 size).wf = true) (w : World) (hO : IntsOk w Ao co ord) (hR : RawsOk w A0 c0 l) :
    Calls Try.prog 5 #[.string s, .int .i64 size, .slice Ao ord.length co, .slice A0 l.length c0] w fun e w' => e = .returned (.bool true) ∧ Below w.heap.size w w' := by
  have ct := fun W => text_any s (by unfold maxLen; omega) W
  have hx := textT_size s
  generalize textT s = x at *
  have cp1 := fun W => pick_any size 16 h1 (by omega) W
  have r1 := pickI_range size 16 (by omega)
  generalize pickI size 16 = m1 at *
  obtain ⟨N, hN⟩ : ∃ N : Nat, 1 + m1 = N := ⟨(1 + m1).toNat, by omega⟩
  obtain ⟨M, GI, GQ, GL, WT, PB, hM1, hM2, hWT, cS, cG, cP, cW, cO, cE⟩ := wh_calls x hx N (by omega) A0 c0 l (by have := hR.len; omega) hR.wf
  have CT := Lib.hid ct; clear ct
  have CP1 := Lib.hid cp1; clear cp1
  have CG := Lib.hid cG; clear cG
  have CP := Lib.hid cP; clear cP
  have CW := Lib.hid cW; clear cW
  have CO := Lib.hid cO; clear cO
  have CE := Lib.hid cE; clear cE
  have CS := Lib.hid cS; clear cS
  have HWT := Lib.hid hWT; clear hWT
  have HNN := Lib.hid hN; clear hN
  have hW1 : IntKind.i64.wrap (N : Int) = N := IntWalk.i64_in _ (by have := HNN.out; omega)
  have HRR := Lib.hid hR; clear hR
  have HOO := Lib.hid hO; clear hO
  clear hs h1 hx r1
  go_enter Try.func5, Try.ntmps5
  go_wp2_with fail; refine (awake_any _).mono ?_; rintro e w1 ⟨rfl, b1⟩
  have HB1 := Lib.hid b1; clear b1
  go_wp2_with fail; refine (CT.out _).mono ?_; rintro e w2 ⟨rfl, rfl⟩
  go_wp2_with fail; refine (CP1.out _).mono ?_; rintro e w2 ⟨rfl, rfl⟩
  clear CT CP1
  have hN := HNN.out
  go_wp2_with fail
  refine (CS.out _).mono ?_; rintro e w2 ⟨Al, cl, rfl, ⟨ad, rfl, had, hat⟩, b2⟩
  have HB2 := Lib.hid (HB1.out.trans (b2.mono HB1.out.size))
  have HAD := Lib.hid had
  have HAT := Lib.hid hat
  clear b2 HB1 CS had hat hN HNN hW1
  have hM0 : ¬ (M : Int) = 0 := by omega
  have HRW := Lib.hid (HRR.out.row.below HB2.out (Nat.le_refl _))
  go_wp2_with fail; refine (CG.out _ _ HRW.out HB2.out.size).mono ?_; rintro e w3 ⟨Ag, kg, rfl, hcg, hsg, b3⟩
  have HB3 := Lib.hid (HB2.out.trans (b3.mono HB2.out.size))
  have HAT := Lib.hid (fun k (hk : k < M) => (HAT.out k hk).keep (w' := w3) fun q hq => b3.cell (by rw [hq, adb]; exact HAD.out))
  have HAD : Hid (ad.block < w3.heap.size) := Lib.hid (Nat.lt_of_lt_of_le HAD.out b3.size)
  have HRW := Lib.hid (HRR.out.row.below HB3.out (Nat.le_refl _))
  have HOW := Lib.hid (HOO.out.row.below HB3.out (Nat.le_refl _))
  have HLE : Hid (w.heap.size ≤ w3.heap.size) := Lib.hid HB3.out.size
  clear b3 HB2 CG hM0
  go_upto_region 7 with (fail)
  have n4 := Joins.below_alloc1 w3 (.cells #[.int .i64 (GI (List.replicate M false)), .int .i64 (GQ (List.replicate M false)), .slice Ag (GL (List.replicate M false)).length kg] 46)
  have g13 := GatAt.new w3 (GI (List.replicate M false)) (GQ (List.replicate M false)) (.slice Ag (GL (List.replicate M false)).length kg)
  have s4 := (hsg.below n4 (Nat.le_refl _)).more n4.size
  have hb13 : w3.heap.size ≤ w3.heap.size := Nat.le_refl _
  clear hsg
  simp only [gcl] at g13
  generalize w3.alloc (.cells #[.int .i64 (GI (List.replicate M false)), .int .i64 (GQ (List.replicate M false)), .slice Ag (GL (List.replicate M false)).length kg] 46) = W4 at *
  obtain ⟨b13, hb⟩ : ∃ b, b = w3.heap.size := ⟨_, rfl⟩
  rw [← hb] at g13
  try rw [← hb]
  have h13 : w3.heap.size ≤ b13 := by omega
  clear hb hb13
  have HMK := Lib.hid (fun W => make_bools M hM2 W)
  have N4 := Lib.hid n4; clear n4
  have hmk := HMK.out
  go_upto_region 10 with (fail)
  have n5 := Joins.below_alloc1 W4 (.cells ((List.replicate M false).map Value.bool).toArray 4)
  have a5 : HadAt (W4.alloc (.cells ((List.replicate M false).map Value.bool).toArray 4)) W4.heap.size (List.replicate M false) := heap_alloc_new W4 _
  have h0 : WSt w3 (W4.alloc (.cells ((List.replicate M false).map Value.bool).toArray 4)) b13 W4.heap.size (GI (List.replicate M false)) (GQ (List.replicate M false)) (GL (List.replicate M false)) Ag kg (List.replicate M false) :=
    ⟨N4.out.trans (n5.mono N4.out.size), h13, N4.out.size, g13.on n5, hcg, (s4.below n5 (Nat.le_refl _)).more n5.size, a5⟩
  have erep : ((List.replicate M false).map Value.bool).toArray = Array.replicate M (Value.bool false) := by simp
  rw [erep] at h0
  clear n5 a5 g13 s4 N4 HMK hmk hcg h13 erep
  generalize W4.alloc (.cells (Array.replicate M (Value.bool false)) 4) = W5 at *
  generalize W4.heap.size = H at *
  have H0 := Lib.hid h0; clear h0
  have hl0 : (List.replicate M false).length = M := List.length_replicate
  have hc0 : ((List.replicate M false).count true : Int) = 0 := by rw [List.count_replicate]; simp
  go_wp2_with fail
  go_loopw [16, 15] (fun ix mn wr => ∃ (k : Nat) (hs : List Bool) (A : Option Addr) (c : Nat), k ≤ ord.length ∧ k ≤ 40 ∧ ix = .int .i64 k ∧ hs.length = M ∧ mn = .int .i64 (hs.count true : Nat) ∧ WSt w3 wr b13 H (GI hs) (GQ hs) (GL hs) A c hs) (fun ix _ _ => 40 - (intOf ix).toNat)
  case atStart => exact ⟨0, _, _, _, by omega, by omega, rfl, hl0, by rw [hc0], H0.out⟩
  case round =>
  obtain ⟨k, hs, A, c, hk1, hk2, rfl, hlen, rfl, hst⟩ := hrel
  have HST := Lib.hid hst; clear hst
  clear H0 hl0 hc0
  rcases (show ((k : Int) < ord.length ∧ (k : Int) < 40) ∨ (¬ (k : Int) < ord.length) ∨ ((k : Int) < ord.length ∧ ¬ (k : Int) < 40) by omega) with ⟨hI, hI8⟩ | hI | ⟨hI, hI8⟩
  · -- a round
    have hkn : k < ord.length := by omega
    obtain ⟨o, ho⟩ : ∃ o, ord[k]? = some o := ⟨_, List.getElem?_eq_getElem hkn⟩
    obtain ⟨ado, rfl, hado, hoc⟩ := HOW.out (by omega)
    have hoc := (HST.out.bel.cell (p := ado.add k) (by rw [adb]; exact Nat.lt_of_lt_of_le hado HLE.out)).trans (hoc k o ho)
    have wo := HOO.out.wf o (List.mem_of_getElem? ho)
    have cpk := fun W => pick_any o M wo (by omega) W
    have hpr := pickI_range o M (by omega)
    generalize pickI o M = KI at *
    obtain ⟨kx, rfl⟩ : ∃ kx : Nat, KI = kx := ⟨KI.toNat, by omega⟩
    have hKlt : kx < M := by omega
    have CPK := Lib.hid cpk; clear cpk
    have hk0 : (0 : Int) ≤ k := by omega
    clear wo hado
    go_wp2_with fail; refine (CPK.out _).mono ?_; rintro e w4 ⟨rfl, rfl⟩
    clear hoc CPK hpr
    go_wp2_with fail
    have HSTZ := HST
    have hlenZ := Lib.hid hlen
    have HATZ := Lib.hid ((HAT.out kx hKlt).keep (w' := wr) fun q hq => HST.out.bel.cell (by rw [hq, adb]; exact HAD.out))
    have HADZ : Hid (ad.block < wr.heap.size) := Lib.hid (Nat.lt_of_lt_of_le HAD.out HST.out.bel.size)
    have QK : Hid ((0 : Int) ≤ kx) := Lib.hid (by omega)
    have QM : Hid ((kx : Int) < M ∧ (0 : Int) ≤ kx) := Lib.hid (by omega)
    have QM2 : Hid (kx < M) := Lib.hid hKlt
    generalize hWZ : wr = WZ at *
    clear hWZ
    have HV : ∃ V : Nat → (Nat → Value) → World → Prop, V = (fun ix u wv => match ix with
      | 0 => u 0 = .agg #[.int .i64 (GI hs), .int .i64 (GQ hs), .slice A (GL hs).length c]
      | 1 => u 1 = .slice (some ad) M cl
      | 2 => u 2 = .int .i64 (kx : Int)
      | 3 => u 3 = .pointer (some (ad.add (kx * 4)))
      | 4 => u 4 = .agg #[.int .i64 9, .int .i64 kx, .int .i64 M, .string (PB kx)]
      | 5 => ∃ A9 c9, u 5 = .tuple #[.agg #[.int .i64 (GI (hs.set kx true)), .int .i64 (GQ (hs.set kx true)), .slice A9 (GL (hs.set kx true)).length c9], .int .i64 0] ∧ (GL (hs.set kx true)).length ≤ c9 ∧ Strs wv wv.heap.size A9 (GL (hs.set kx true))
      | 6 => ∃ A9 c9, u 6 = .tuple #[.agg #[.int .i64 (GI (hs.set kx true)), .int .i64 (GQ (hs.set kx true)), .slice A9 (GL (hs.set kx true)).length c9], .int .i64 0] ∧ (GL (hs.set kx true)).length ≤ c9 ∧ Strs wv wv.heap.size A9 (GL (hs.set kx true))
      | 7 => ∃ A9 c9, u 7 = .agg #[.int .i64 (GI (hs.set kx true)), .int .i64 (GQ (hs.set kx true)), .slice A9 (GL (hs.set kx true)).length c9] ∧ (GL (hs.set kx true)).length ≤ c9 ∧ Strs wv wv.heap.size A9 (GL (hs.set kx true))
      | 8 => u 8 = .int .i64 0
      | 9 => ∃ g, u 9 = .pointer (some ⟨g, 0, none⟩) ∧ WZ.heap.size ≤ g ∧ GatAt wv g 0 0 (.slice none 0 0)
      | 10 => ∃ g A9 c9, u 9 = .pointer (some ⟨g, 0, none⟩) ∧ GatAt wv g (GI (hs.set kx true)) (GQ (hs.set kx true)) (.slice A9 (GL (hs.set kx true)).length c9) ∧ (GL (hs.set kx true)).length ≤ c9 ∧ Strs wv wv.heap.size A9 (GL (hs.set kx true))
      | 11 => u 11 = .int .i64 0
      | _ => True) := ⟨_, rfl⟩
    obtain ⟨V, hVdef⟩ := HV
    have V0 : ∀ u wv, V 0 u wv = (u 0 = .agg #[.int .i64 (GI hs), .int .i64 (GQ hs), .slice A (GL hs).length c]) := fun u wv => by subst hVdef; rfl
    have V1 : ∀ u wv, V 1 u wv = (u 1 = .slice (some ad) M cl) := fun u wv => by subst hVdef; rfl
    have V2 : ∀ u wv, V 2 u wv = (u 2 = .int .i64 (kx : Int)) := fun u wv => by subst hVdef; rfl
    have V3 : ∀ u wv, V 3 u wv = (u 3 = .pointer (some (ad.add (kx * 4)))) := fun u wv => by subst hVdef; rfl
    have V4 : ∀ u wv, V 4 u wv = (u 4 = .agg #[.int .i64 9, .int .i64 kx, .int .i64 M, .string (PB kx)]) := fun u wv => by subst hVdef; rfl
    have V5 : ∀ u wv, V 5 u wv = (∃ A9 c9, u 5 = .tuple #[.agg #[.int .i64 (GI (hs.set kx true)), .int .i64 (GQ (hs.set kx true)), .slice A9 (GL (hs.set kx true)).length c9], .int .i64 0] ∧ (GL (hs.set kx true)).length ≤ c9 ∧ Strs wv wv.heap.size A9 (GL (hs.set kx true))) := fun u wv => by subst hVdef; rfl
    have V6 : ∀ u wv, V 6 u wv = (∃ A9 c9, u 6 = .tuple #[.agg #[.int .i64 (GI (hs.set kx true)), .int .i64 (GQ (hs.set kx true)), .slice A9 (GL (hs.set kx true)).length c9], .int .i64 0] ∧ (GL (hs.set kx true)).length ≤ c9 ∧ Strs wv wv.heap.size A9 (GL (hs.set kx true))) := fun u wv => by subst hVdef; rfl
    have V7 : ∀ u wv, V 7 u wv = (∃ A9 c9, u 7 = .agg #[.int .i64 (GI (hs.set kx true)), .int .i64 (GQ (hs.set kx true)), .slice A9 (GL (hs.set kx true)).length c9] ∧ (GL (hs.set kx true)).length ≤ c9 ∧ Strs wv wv.heap.size A9 (GL (hs.set kx true))) := fun u wv => by subst hVdef; rfl
    have V8 : ∀ u wv, V 8 u wv = (u 8 = .int .i64 0) := fun u wv => by subst hVdef; rfl
    have V9 : ∀ u wv, V 9 u wv = (∃ g, u 9 = .pointer (some ⟨g, 0, none⟩) ∧ WZ.heap.size ≤ g ∧ GatAt wv g 0 0 (.slice none 0 0)) := fun u wv => by subst hVdef; rfl
    have V10 : ∀ u wv, V 10 u wv = (∃ g A9 c9, u 9 = .pointer (some ⟨g, 0, none⟩) ∧ GatAt wv g (GI (hs.set kx true)) (GQ (hs.set kx true)) (.slice A9 (GL (hs.set kx true)).length c9) ∧ (GL (hs.set kx true)).length ≤ c9 ∧ Strs wv wv.heap.size A9 (GL (hs.set kx true))) := fun u wv => by subst hVdef; rfl
    have V11 : ∀ u wv, V 11 u wv = (u 11 = .int .i64 0) := fun u wv => by subst hVdef; rfl
    have HVD := Lib.hid hVdef
    clear hVdef
    refine region_each (V := V) (drop := fun jx ix => jx == 10 && ix == 9) (G := fun wv => Below WZ.heap.size WZ wv) (Rel := fun jx wv wv' => (jx = 10 ∧ ∃ (g : Nat) (i q : Int) (X : Option Addr) (n c : Nat), GatAt wv g i q (.slice X n c) ∧ wv.grownBy wv' (some g)) ∨ Below wv.heap.size wv wv') (by kernel_rfl) (by kernel_rfl) (Below.refl _ _).drew ?hmono1 ?hdep1 ⟨?s0_1, ?s1_1, ?s2_1, ?s3_1, ?s4_1, ?s5_1, ?s6_1, ?s7_1, ?s8_1, ?s9_1, ?s10_1, ?s11_1, trivial⟩ ?behind1
    case hmono1 =>
      intro ix jx u wv wv' hij hw hd hr
      rw [HVD.out]
      dsimp only
      split <;> intro h <;> first | exact trivial | exact h | (rcases hr with ⟨rfl, g', i', q', X', n', c', hg', hgr⟩ | hb <;> first | (obtain ⟨A9, c9, e, hc9, hs9⟩ := h; exact ⟨A9, c9, e, hc9, (hs9.past hg' hgr).more hgr.size⟩) | exact absurd rfl hij | (simp at hd; done) | (obtain ⟨A9, c9, e, hc9, hs9⟩ := h; exact ⟨A9, c9, e, hc9, (hs9.below hb (Nat.le_refl _)).more hb.size⟩) | (obtain ⟨g, e, hg, ha⟩ := h; exact ⟨g, e, hg, ha.on hb⟩) | (obtain ⟨g, A9, c9, e, ha, hc9, hs9⟩ := h; exact ⟨g, A9, c9, e, ha.on hb, hc9, (hs9.below hb (Nat.le_refl _)).more hb.size⟩))
    case hdep1 =>
      intro ix u u' wv h1 h2
      rw [HVD.out]
      dsimp only
      split <;> intro h <;> first | exact trivial | (rw [← h1]; exact h) | (obtain ⟨g, A9, c9, e, h⟩ := h; exact ⟨g, A9, c9, (h2 9 (by kernel_rfl)).symm.trans e, h⟩)
    case s0_1 =>
      refine owe rfl fun a wx val hG hV hN hO K hK => ?_
      have e13 : a.tmps[13]? = some (.pointer (some ⟨b13, 0, none⟩)) := (hO 13 (by kernel_rfl)).trans (by rfl)
      clear hV hN hO
      obtain ⟨⟨y0, y1, y2⟩, -⟩ := (HSTZ.out.on hG).gat.cells
      obtain ⟨p0, p1, p2, p3⟩ := (HATZ.out.keep (w' := wx) fun q hq => hG.cell (by rw [hq, adb]; exact HADZ.out))
      simp only at p0 p1 p2 p3
      go_simp
      exact hK.out _ _ (by rw [V0, upd_at]) (.inr (Below.refl _ _)) hG
    case s1_1 =>
      refine owe rfl fun a wx val hG hV hN hO K hK => ?_
      have e11 : a.tmps[11]? = some (.slice (some ad) M cl) := (hO 11 (by kernel_rfl)).trans (by rfl)
      clear hV hN hO
      go_simp
      exact hK.out _ _ (by rw [V1, upd_at]) (.inr (Below.refl _ _)) hG
    case s2_1 =>
      refine owe rfl fun a wx val hG hV hN hO K hK => ?_
      have e17 : a.tmps[17]? = some (.int .i64 (kx : Int)) := (hO 17 (by kernel_rfl)).trans (by rfl)
      clear hV hN hO
      go_simp
      exact hK.out _ _ (by rw [V2, upd_at]) (.inr (Below.refl _ _)) hG
    case s3_1 =>
      refine owe rfl fun a wx val hG hV hN hO K hK => ?_
      have e74 := hN 1 74 (by kernel_rfl) (by kernel_rfl) (by simp)
      have f74 := hV 1 (by kernel_rfl) (by kernel_rfl)
      rw [V1] at f74
      rw [f74] at e74; clear f74
      have e75 := hN 2 75 (by kernel_rfl) (by kernel_rfl) (by simp)
      have f75 := hV 2 (by kernel_rfl) (by kernel_rfl)
      rw [V2] at f75
      rw [f75] at e75; clear f75
      clear hV hN hO
      have q1 := QK.out
      obtain ⟨q2, q3⟩ := QM.out
      go_simp
      exact hK.out _ _ (by rw [V3, upd_at]) (.inr (Below.refl _ _)) hG
    case s4_1 =>
      refine owe rfl fun a wx val hG hV hN hO K hK => ?_
      have e76 := hN 3 76 (by kernel_rfl) (by kernel_rfl) (by simp)
      have f76 := hV 3 (by kernel_rfl) (by kernel_rfl)
      rw [V3] at f76
      rw [f76] at e76; clear f76
      clear hV hN hO
      obtain ⟨⟨y0, y1, y2⟩, -⟩ := (HSTZ.out.on hG).gat.cells
      obtain ⟨p0, p1, p2, p3⟩ := (HATZ.out.keep (w' := wx) fun q hq => hG.cell (by rw [hq, adb]; exact HADZ.out))
      simp only at p0 p1 p2 p3
      go_simp
      exact hK.out _ _ (by rw [V4, upd_at]) (.inr (Below.refl _ _)) hG
    case s5_1 =>
      refine owe rfl fun a wx val hG hV hN hO K hK => ?_
      have e73 := hN 0 73 (by kernel_rfl) (by kernel_rfl) (by simp)
      have f73 := hV 0 (by kernel_rfl) (by kernel_rfl)
      rw [V0] at f73
      rw [f73] at e73; clear f73
      have e77 := hN 4 77 (by kernel_rfl) (by kernel_rfl) (by simp)
      have f77 := hV 4 (by kernel_rfl) (by kernel_rfl)
      rw [V4] at f77
      rw [f77] at e77; clear f77
      clear hV hN hO
      have hsz := (HSTZ.out.on hG)
      go_simp
      refine (CP.out hs kx _ _ _ hlenZ.out QM2.out hsz.str hsz.cap).mono ?_
      rintro e w9 ⟨A9, c9, rfl, hc9, hs9, hb⟩
      exact hK.out _ _ (by rw [V5, upd_at]; exact ⟨A9, c9, rfl, hc9, hs9⟩) (.inr hb) (hG.trans (hb.mono hG.size))
    case s6_1 =>
      refine owe rfl fun a wx val hG hV hN hO K hK => ?_
      have e78 := hN 5 78 (by kernel_rfl) (by kernel_rfl) (by simp)
      have f78 := hV 5 (by kernel_rfl) (by kernel_rfl)
      rw [V5] at f78
      obtain ⟨A9, c9, hv, hc9, hs9⟩ := f78; rw [hv] at e78; clear hv
      clear hV hN hO
      go_simp
      exact hK.out _ _ (by rw [V6, upd_at]; exact ⟨A9, c9, rfl, hc9, hs9⟩) (.inr (Below.refl _ _)) hG
    case s7_1 =>
      refine owe rfl fun a wx val hG hV hN hO K hK => ?_
      have e72 := hN 6 72 (by kernel_rfl) (by kernel_rfl) (by simp)
      have f72 := hV 6 (by kernel_rfl) (by kernel_rfl)
      rw [V6] at f72
      obtain ⟨A9, c9, hv, hc9, hs9⟩ := f72; rw [hv] at e72; clear hv
      clear hV hN hO
      go_simp
      exact hK.out _ _ (by rw [V7, upd_at]; exact ⟨A9, c9, rfl, hc9, hs9⟩) (.inr (Below.refl _ _)) hG
    case s8_1 =>
      refine owe rfl fun a wx val hG hV hN hO K hK => ?_
      have e72 := hN 6 72 (by kernel_rfl) (by kernel_rfl) (by simp)
      have f72 := hV 6 (by kernel_rfl) (by kernel_rfl)
      rw [V6] at f72
      obtain ⟨A9, c9, hv, hc9, hs9⟩ := f72; rw [hv] at e72; clear hv
      clear hV hN hO
      go_simp
      exact hK.out _ _ (by rw [V8, upd_at]) (.inr (Below.refl _ _)) hG
    case s9_1 =>
      refine owe rfl fun a wx val hG hV hN hO K hK => ?_
      clear hV hN hO
      go_simp
      have hb := Joins.below_alloc1 wx (.cells #[.int .i64 0, .int .i64 0, .slice none 0 0] 46)
      exact hK.out _ _ (by rw [V9, upd_at]; exact ⟨_, rfl, hG.size, GatAt.new wx 0 0 (.slice none 0 0)⟩) (.inr hb) (hG.trans (hb.mono hG.size))
    case s10_1 =>
      refine owe rfl fun a wx val hG hV hN hO K hK => ?_
      have e18 := hN 9 18 (by kernel_rfl) (by kernel_rfl) (by simp)
      have f18 := hV 9 (by kernel_rfl) (by kernel_rfl)
      rw [V9] at f18
      obtain ⟨g, hv9, hg9, ha9⟩ := f18; rw [hv9] at e18
      have e79 := hN 7 79 (by kernel_rfl) (by kernel_rfl) (by simp)
      have f79 := hV 7 (by kernel_rfl) (by kernel_rfl)
      rw [V7] at f79
      obtain ⟨A9, c9, hv, hc9, hs9⟩ := f79; rw [hv] at e79; clear hv
      clear hV hN hO
      obtain ⟨⟨z0, z1, z2⟩, hfz⟩ := ha9.cells
      go_simp
      exact hK.out undef (put3 wx g (GI (hs.set kx true)) (GQ (hs.set kx true)) (.slice A9 (GL (hs.set kx true)).length c9)) (by rw [V10, upd_ne _ _ (by decide)]; exact ⟨g, A9, c9, hv9, put3_blk ha9 _ _ _, hc9, (hs9.past ha9 (put3_grown _ _ _ _ _)).more (put3_grown _ _ _ _ _).size⟩) (.inl ⟨rfl, g, _, _, _, _, _, ha9, put3_grown _ _ _ _ _⟩) (put3_below hG hg9 _ _ _)
    case s11_1 =>
      refine owe rfl fun a wx val hG hV hN hO K hK => ?_
      have e80 := hN 8 80 (by kernel_rfl) (by kernel_rfl) (by simp)
      have f80 := hV 8 (by kernel_rfl) (by kernel_rfl)
      rw [V8] at f80
      rw [f80] at e80; clear f80
      clear hV hN hO
      go_simp
      exact hK.out _ _ (by rw [V11, upd_at]) (.inr (Below.refl _ _)) hG
    intro val wx hG hV
    have f0 := hV 0 (by simp) (fun _ _ => by simp)
    rw [V0] at f0
    have f1 := hV 1 (by simp) (fun _ _ => by simp)
    rw [V1] at f1
    have f2 := hV 2 (by simp) (fun _ _ => by simp)
    rw [V2] at f2
    have f3 := hV 3 (by simp) (fun _ _ => by simp)
    rw [V3] at f3
    have f4 := hV 4 (by simp) (fun _ _ => by simp)
    rw [V4] at f4
    have f8 := hV 8 (by simp) (fun _ _ => by simp)
    rw [V8] at f8
    have f10 := hV 10 (by simp) (fun _ _ => by simp)
    rw [V10] at f10
    have f11 := hV 11 (by simp) (fun _ _ => by simp)
    rw [V11] at f11
    clear hV V0 V1 V2 V3 V4 V5 V6 V7 V8 V9 V10 V11
    simp only [putAll, Act.put, List.setIfInBounds_toArray, List.set_cons_zero, List.set_cons_succ]
    generalize val 0 = z0 at *; (subst f0)
    generalize val 1 = z1 at *; (subst f1)
    generalize val 2 = z2 at *; (subst f2)
    generalize val 3 = z3 at *; (subst f3)
    generalize val 4 = z4 at *; (subst f4)
    generalize val 8 = z8 at *; (subst f8)
    generalize val 11 = z11 at *; (subst f11)
    obtain ⟨g, A9, c9, e9, ha9, hc9, hs9⟩ := f10
    rw [e9]; clear e9
    have hst := HSTZ.out.on hG
    obtain ⟨⟨z0, z1, z2⟩, -⟩ := ha9.cells
    obtain ⟨⟨y0, y1, y2⟩, hfy⟩ := hst.gat.cells
    have HST9 := Lib.hid (hst.put hc9 hs9 (gi' := GI (hs.set kx true)) (gq' := GQ (hs.set kx true)))
    have hcap := hc9
    clear hst hG HSTZ ha9 hc9 hs9 HATZ HADZ QK QM QM2 HST
    obtain ⟨b, hb⟩ : ∃ b, hs[kx]? = some b := ⟨_, List.getElem?_eq_getElem (by omega)⟩
    have hst9 := HST9.out
    unfold put3 at hst9
    have HST9 := Lib.hid hst9; clear hst9
    go_upto_region 17 with (fail)
    generalize ((wx.setCell ⟨b13, 0, none⟩ (.int .i64 (GI (hs.set kx true)))).setCell ⟨b13, 1, none⟩ (.int .i64 (GQ (hs.set kx true)))).setCell ⟨b13, 2, none⟩ (.slice A9 (GL (hs.set kx true)).length c9) = W9 at *
    clear z0 z1 z2 y0 y1 y2 hfy
    have hbc := HST9.out.had.cell hb
    have hfr := HST9.out.had.frozen
    have hK0 : (0 : Int) ≤ kx := by omega
    have hKI : (kx : Int) < M := by omega
    have hany := any_set hs kx (by omega)
    have hlen' : (hs.set kx true).length = M := by rw [List.length_set]; exact hlen
    cases b
    · -- not had yet
      have hcnt := set_count hb
      have HST10 := Lib.hid (HST9.out.mark hb)
      have q1 : IntKind.i64.wrap ((hs.count true : Int) + 1) = (hs.count true : Int) + 1 := IntWalk.i64_in _ (by have := List.count_le_length (a := true) (l := hs); omega)
      clear HST9
      go_upto_region 20 with (fail)
      generalize W9.setCell ⟨H, kx, none⟩ (.bool true) = W10 at *
      have ecnt : ((hs.set kx true).count true : Int) = (hs.count true : Int) + 1 := by rw [hcnt]; simp
      clear hbc hfr q1 hcnt
      generalize hs.set kx true = hn at *
      rw [← ecnt]
      obtain ⟨⟨y0, y1, y2⟩, -⟩ := HST10.out.gat.cells
      have CWH := Lib.hid (CW.out hn A9 c9 W10 hlen' hany HST10.out.str HST10.out.cap)
      clear ecnt hb
      have HWH := Lib.hid (HWT.out hn)
      have qk : IntKind.i64.wrap ((k : Int) + 1) = (k : Int) + 1 := IntWalk.i64_in _ (by omega)
      by_cases hcm : hn.count true = M
      · have hT := HWH.out hcm hlen'
        have cw := CWH.out
        rw [decide_eq_true hcm, hT] at cw
        have hci : (hn.count true : Int) = M := by omega
        go_wp2_with fail; refine cw.mono ?_; rintro e w11 ⟨rfl, b11⟩
        clear cw
        have HST11 := Lib.hid (HST10.out.on b11)
        clear b11
        go_wp2_with fail
        go_roundw
        case rel => exact ⟨k + 1, hn, A9, c9, by omega, by omega, by go_num, hlen', by first | rfl | rw [hcm], HST11.out⟩
        case measure => simp [intOf]; omega
      · have cw := CWH.out
        rw [decide_eq_false hcm] at cw
        have hci : ¬ (hn.count true : Int) = M := by omega
        go_wp2_with fail; refine cw.mono ?_; rintro e w11 ⟨rfl, b11⟩
        clear cw
        have HST11 := Lib.hid (HST10.out.on b11)
        clear b11
        go_wp2_with fail
        go_roundw
        case rel => exact ⟨k + 1, hn, A9, c9, by omega, by omega, by go_num, hlen', by first | rfl | rw [hcm], HST11.out⟩
        case measure => simp [intOf]; omega
    · have hset := set_same hb
      have HST10 : Hid (WSt w3 W9 b13 H (GI (hs.set kx true)) (GQ (hs.set kx true)) (GL (hs.set kx true)) A9 c9 (hs.set kx true)) := Lib.hid (by have h := HST9.out; rwa [show WSt w3 W9 b13 H (GI (hs.set kx true)) (GQ (hs.set kx true)) (GL (hs.set kx true)) A9 c9 hs = WSt w3 W9 b13 H (GI (hs.set kx true)) (GQ (hs.set kx true)) (GL (hs.set kx true)) A9 c9 (hs.set kx true) by rw [hset]] at h)
      have ecnt : ((hs.set kx true).count true : Int) = (hs.count true : Int) := by rw [hset]
      clear HST9
      go_upto_region 20 with (fail)
      generalize W9 = W10 at *
      clear hbc hfr hset
      generalize hs.set kx true = hn at *
      rw [← ecnt]
      obtain ⟨⟨y0, y1, y2⟩, -⟩ := HST10.out.gat.cells
      have CWH := Lib.hid (CW.out hn A9 c9 W10 hlen' hany HST10.out.str HST10.out.cap)
      clear ecnt hb
      have HWH := Lib.hid (HWT.out hn)
      have qk : IntKind.i64.wrap ((k : Int) + 1) = (k : Int) + 1 := IntWalk.i64_in _ (by omega)
      by_cases hcm : hn.count true = M
      · have hT := HWH.out hcm hlen'
        have cw := CWH.out
        rw [decide_eq_true hcm, hT] at cw
        have hci : (hn.count true : Int) = M := by omega
        go_wp2_with fail; refine cw.mono ?_; rintro e w11 ⟨rfl, b11⟩
        clear cw
        have HST11 := Lib.hid (HST10.out.on b11)
        clear b11
        go_wp2_with fail
        go_roundw
        case rel => exact ⟨k + 1, hn, A9, c9, by omega, by omega, by go_num, hlen', by first | rfl | rw [hcm], HST11.out⟩
        case measure => simp [intOf]; omega
      · have cw := CWH.out
        rw [decide_eq_false hcm] at cw
        have hci : ¬ (hn.count true : Int) = M := by omega
        go_wp2_with fail; refine cw.mono ?_; rintro e w11 ⟨rfl, b11⟩
        clear cw
        have HST11 := Lib.hid (HST10.out.on b11)
        clear b11
        go_wp2_with fail
        go_roundw
        case rel => exact ⟨k + 1, hn, A9, c9, by omega, by omega, by go_num, hlen', by first | rfl | rw [hcm], HST11.out⟩
        case measure => simp [intOf]; omega
  · -- the end of the first loop: order is over
    have hlA := Lib.hid hlen
    have hstA := HST.out
    have hMh : (hs.count true) ≤ M := by have := List.count_le_length (a := true) (l := hs); omega
    go_wp2_with fail
    go_loopw [22] (fun ix wr => ∃ (kx : Nat) (hs hd : List Bool) (A : Option Addr) (c : Nat), kx ≤ M ∧ ix = .int .i64 kx ∧ hs.length = M ∧ (∀ q, q < kx → hs[q]? = some true) ∧ WSt w3 wr b13 H (GI hs) (GQ hs) (GL hs) A c hd) (fun ix _ => M - (intOf ix).toNat)
    case atStart => exact ⟨0, hs, hs, A, c, by omega, rfl, hlA.out, fun q hq => absurd hq (by omega), HST.out⟩
    case round =>
    clear hstA HST hlA hlen hI hMh hk1 hk2
    try clear hI8
    obtain ⟨kx, hs, hd, A, c, hk1, rfl, hlen, hall, hst⟩ := hrel
    have HST := Lib.hid hst; clear hst
    have HALL := Lib.hid hall; clear hall
    by_cases hKI : (kx : Int) < M
    · -- a round
      have hKlt : kx < M := by omega
      have hk0 : (0 : Int) ≤ kx := by omega
      go_wp2_with fail
      have HSTZ := HST
      have hlenZ := Lib.hid hlen
      have HATZ := Lib.hid ((HAT.out kx hKlt).keep (w' := wr) fun q hq => HST.out.bel.cell (by rw [hq, adb]; exact HAD.out))
      have HADZ : Hid (ad.block < wr.heap.size) := Lib.hid (Nat.lt_of_lt_of_le HAD.out HST.out.bel.size)
      have QK : Hid ((0 : Int) ≤ kx) := Lib.hid (by omega)
      have QM : Hid ((kx : Int) < M ∧ (0 : Int) ≤ kx) := Lib.hid (by omega)
      have QM2 : Hid (kx < M) := Lib.hid hKlt
      generalize hWZ : wr = WZ at *
      clear hWZ
      have HV : ∃ V : Nat → (Nat → Value) → World → Prop, V = (fun ix u wv => match ix with
        | 0 => u 0 = .agg #[.int .i64 (GI hs), .int .i64 (GQ hs), .slice A (GL hs).length c]
        | 1 => u 1 = .slice (some ad) M cl
        | 2 => u 2 = .int .i64 (kx : Int)
        | 3 => u 3 = .pointer (some (ad.add (kx * 4)))
        | 4 => u 4 = .agg #[.int .i64 9, .int .i64 kx, .int .i64 M, .string (PB kx)]
        | 5 => ∃ A9 c9, u 5 = .tuple #[.agg #[.int .i64 (GI (hs.set kx true)), .int .i64 (GQ (hs.set kx true)), .slice A9 (GL (hs.set kx true)).length c9], .int .i64 0] ∧ (GL (hs.set kx true)).length ≤ c9 ∧ Strs wv wv.heap.size A9 (GL (hs.set kx true))
        | 6 => ∃ A9 c9, u 6 = .tuple #[.agg #[.int .i64 (GI (hs.set kx true)), .int .i64 (GQ (hs.set kx true)), .slice A9 (GL (hs.set kx true)).length c9], .int .i64 0] ∧ (GL (hs.set kx true)).length ≤ c9 ∧ Strs wv wv.heap.size A9 (GL (hs.set kx true))
        | 7 => ∃ A9 c9, u 7 = .agg #[.int .i64 (GI (hs.set kx true)), .int .i64 (GQ (hs.set kx true)), .slice A9 (GL (hs.set kx true)).length c9] ∧ (GL (hs.set kx true)).length ≤ c9 ∧ Strs wv wv.heap.size A9 (GL (hs.set kx true))
        | 8 => u 8 = .int .i64 0
        | 9 => ∃ g, u 9 = .pointer (some ⟨g, 0, none⟩) ∧ WZ.heap.size ≤ g ∧ GatAt wv g 0 0 (.slice none 0 0)
        | 10 => ∃ g A9 c9, u 9 = .pointer (some ⟨g, 0, none⟩) ∧ GatAt wv g (GI (hs.set kx true)) (GQ (hs.set kx true)) (.slice A9 (GL (hs.set kx true)).length c9) ∧ (GL (hs.set kx true)).length ≤ c9 ∧ Strs wv wv.heap.size A9 (GL (hs.set kx true))
        | 11 => u 11 = .int .i64 0
        | _ => True) := ⟨_, rfl⟩
      obtain ⟨V, hVdef⟩ := HV
      have V0 : ∀ u wv, V 0 u wv = (u 0 = .agg #[.int .i64 (GI hs), .int .i64 (GQ hs), .slice A (GL hs).length c]) := fun u wv => by subst hVdef; rfl
      have V1 : ∀ u wv, V 1 u wv = (u 1 = .slice (some ad) M cl) := fun u wv => by subst hVdef; rfl
      have V2 : ∀ u wv, V 2 u wv = (u 2 = .int .i64 (kx : Int)) := fun u wv => by subst hVdef; rfl
      have V3 : ∀ u wv, V 3 u wv = (u 3 = .pointer (some (ad.add (kx * 4)))) := fun u wv => by subst hVdef; rfl
      have V4 : ∀ u wv, V 4 u wv = (u 4 = .agg #[.int .i64 9, .int .i64 kx, .int .i64 M, .string (PB kx)]) := fun u wv => by subst hVdef; rfl
      have V5 : ∀ u wv, V 5 u wv = (∃ A9 c9, u 5 = .tuple #[.agg #[.int .i64 (GI (hs.set kx true)), .int .i64 (GQ (hs.set kx true)), .slice A9 (GL (hs.set kx true)).length c9], .int .i64 0] ∧ (GL (hs.set kx true)).length ≤ c9 ∧ Strs wv wv.heap.size A9 (GL (hs.set kx true))) := fun u wv => by subst hVdef; rfl
      have V6 : ∀ u wv, V 6 u wv = (∃ A9 c9, u 6 = .tuple #[.agg #[.int .i64 (GI (hs.set kx true)), .int .i64 (GQ (hs.set kx true)), .slice A9 (GL (hs.set kx true)).length c9], .int .i64 0] ∧ (GL (hs.set kx true)).length ≤ c9 ∧ Strs wv wv.heap.size A9 (GL (hs.set kx true))) := fun u wv => by subst hVdef; rfl
      have V7 : ∀ u wv, V 7 u wv = (∃ A9 c9, u 7 = .agg #[.int .i64 (GI (hs.set kx true)), .int .i64 (GQ (hs.set kx true)), .slice A9 (GL (hs.set kx true)).length c9] ∧ (GL (hs.set kx true)).length ≤ c9 ∧ Strs wv wv.heap.size A9 (GL (hs.set kx true))) := fun u wv => by subst hVdef; rfl
      have V8 : ∀ u wv, V 8 u wv = (u 8 = .int .i64 0) := fun u wv => by subst hVdef; rfl
      have V9 : ∀ u wv, V 9 u wv = (∃ g, u 9 = .pointer (some ⟨g, 0, none⟩) ∧ WZ.heap.size ≤ g ∧ GatAt wv g 0 0 (.slice none 0 0)) := fun u wv => by subst hVdef; rfl
      have V10 : ∀ u wv, V 10 u wv = (∃ g A9 c9, u 9 = .pointer (some ⟨g, 0, none⟩) ∧ GatAt wv g (GI (hs.set kx true)) (GQ (hs.set kx true)) (.slice A9 (GL (hs.set kx true)).length c9) ∧ (GL (hs.set kx true)).length ≤ c9 ∧ Strs wv wv.heap.size A9 (GL (hs.set kx true))) := fun u wv => by subst hVdef; rfl
      have V11 : ∀ u wv, V 11 u wv = (u 11 = .int .i64 0) := fun u wv => by subst hVdef; rfl
      have HVD := Lib.hid hVdef
      clear hVdef
      refine region_each (V := V) (drop := fun jx ix => jx == 10 && ix == 9) (G := fun wv => Below WZ.heap.size WZ wv) (Rel := fun jx wv wv' => (jx = 10 ∧ ∃ (g : Nat) (i q : Int) (X : Option Addr) (n c : Nat), GatAt wv g i q (.slice X n c) ∧ wv.grownBy wv' (some g)) ∨ Below wv.heap.size wv wv') (by kernel_rfl) (by kernel_rfl) (Below.refl _ _).drew ?hmono2 ?hdep2 ⟨?s0_2, ?s1_2, ?s2_2, ?s3_2, ?s4_2, ?s5_2, ?s6_2, ?s7_2, ?s8_2, ?s9_2, ?s10_2, ?s11_2, trivial⟩ ?behind2
      case hmono2 =>
        intro ix jx u wv wv' hij hw hd hr
        rw [HVD.out]
        dsimp only
        split <;> intro h <;> first | exact trivial | exact h | (rcases hr with ⟨rfl, g', i', q', X', n', c', hg', hgr⟩ | hb <;> first | (obtain ⟨A9, c9, e, hc9, hs9⟩ := h; exact ⟨A9, c9, e, hc9, (hs9.past hg' hgr).more hgr.size⟩) | exact absurd rfl hij | (simp at hd; done) | (obtain ⟨A9, c9, e, hc9, hs9⟩ := h; exact ⟨A9, c9, e, hc9, (hs9.below hb (Nat.le_refl _)).more hb.size⟩) | (obtain ⟨g, e, hg, ha⟩ := h; exact ⟨g, e, hg, ha.on hb⟩) | (obtain ⟨g, A9, c9, e, ha, hc9, hs9⟩ := h; exact ⟨g, A9, c9, e, ha.on hb, hc9, (hs9.below hb (Nat.le_refl _)).more hb.size⟩))
      case hdep2 =>
        intro ix u u' wv h1 h2
        rw [HVD.out]
        dsimp only
        split <;> intro h <;> first | exact trivial | (rw [← h1]; exact h) | (obtain ⟨g, A9, c9, e, h⟩ := h; exact ⟨g, A9, c9, (h2 9 (by kernel_rfl)).symm.trans e, h⟩)
      case s0_2 =>
        refine owe rfl fun a wx val hG hV hN hO K hK => ?_
        have e13 : a.tmps[13]? = some (.pointer (some ⟨b13, 0, none⟩)) := (hO 13 (by kernel_rfl)).trans (by rfl)
        clear hV hN hO
        obtain ⟨⟨y0, y1, y2⟩, -⟩ := (HSTZ.out.on hG).gat.cells
        obtain ⟨p0, p1, p2, p3⟩ := (HATZ.out.keep (w' := wx) fun q hq => hG.cell (by rw [hq, adb]; exact HADZ.out))
        simp only at p0 p1 p2 p3
        go_simp
        exact hK.out _ _ (by rw [V0, upd_at]) (.inr (Below.refl _ _)) hG
      case s1_2 =>
        refine owe rfl fun a wx val hG hV hN hO K hK => ?_
        have e11 : a.tmps[11]? = some (.slice (some ad) M cl) := (hO 11 (by kernel_rfl)).trans (by rfl)
        clear hV hN hO
        go_simp
        exact hK.out _ _ (by rw [V1, upd_at]) (.inr (Below.refl _ _)) hG
      case s2_2 =>
        refine owe rfl fun a wx val hG hV hN hO K hK => ?_
        have e22 : a.tmps[22]? = some (.int .i64 (kx : Int)) := (hO 22 (by kernel_rfl)).trans (by rfl)
        clear hV hN hO
        go_simp
        exact hK.out _ _ (by rw [V2, upd_at]) (.inr (Below.refl _ _)) hG
      case s3_2 =>
        refine owe rfl fun a wx val hG hV hN hO K hK => ?_
        have e121 := hN 1 121 (by kernel_rfl) (by kernel_rfl) (by simp)
        have f121 := hV 1 (by kernel_rfl) (by kernel_rfl)
        rw [V1] at f121
        rw [f121] at e121; clear f121
        have e122 := hN 2 122 (by kernel_rfl) (by kernel_rfl) (by simp)
        have f122 := hV 2 (by kernel_rfl) (by kernel_rfl)
        rw [V2] at f122
        rw [f122] at e122; clear f122
        clear hV hN hO
        have q1 := QK.out
        obtain ⟨q2, q3⟩ := QM.out
        go_simp
        exact hK.out _ _ (by rw [V3, upd_at]) (.inr (Below.refl _ _)) hG
      case s4_2 =>
        refine owe rfl fun a wx val hG hV hN hO K hK => ?_
        have e123 := hN 3 123 (by kernel_rfl) (by kernel_rfl) (by simp)
        have f123 := hV 3 (by kernel_rfl) (by kernel_rfl)
        rw [V3] at f123
        rw [f123] at e123; clear f123
        clear hV hN hO
        obtain ⟨⟨y0, y1, y2⟩, -⟩ := (HSTZ.out.on hG).gat.cells
        obtain ⟨p0, p1, p2, p3⟩ := (HATZ.out.keep (w' := wx) fun q hq => hG.cell (by rw [hq, adb]; exact HADZ.out))
        simp only at p0 p1 p2 p3
        go_simp
        exact hK.out _ _ (by rw [V4, upd_at]) (.inr (Below.refl _ _)) hG
      case s5_2 =>
        refine owe rfl fun a wx val hG hV hN hO K hK => ?_
        have e120 := hN 0 120 (by kernel_rfl) (by kernel_rfl) (by simp)
        have f120 := hV 0 (by kernel_rfl) (by kernel_rfl)
        rw [V0] at f120
        rw [f120] at e120; clear f120
        have e124 := hN 4 124 (by kernel_rfl) (by kernel_rfl) (by simp)
        have f124 := hV 4 (by kernel_rfl) (by kernel_rfl)
        rw [V4] at f124
        rw [f124] at e124; clear f124
        clear hV hN hO
        have hsz := (HSTZ.out.on hG)
        go_simp
        refine (CP.out hs kx _ _ _ hlenZ.out QM2.out hsz.str hsz.cap).mono ?_
        rintro e w9 ⟨A9, c9, rfl, hc9, hs9, hb⟩
        exact hK.out _ _ (by rw [V5, upd_at]; exact ⟨A9, c9, rfl, hc9, hs9⟩) (.inr hb) (hG.trans (hb.mono hG.size))
      case s6_2 =>
        refine owe rfl fun a wx val hG hV hN hO K hK => ?_
        have e125 := hN 5 125 (by kernel_rfl) (by kernel_rfl) (by simp)
        have f125 := hV 5 (by kernel_rfl) (by kernel_rfl)
        rw [V5] at f125
        obtain ⟨A9, c9, hv, hc9, hs9⟩ := f125; rw [hv] at e125; clear hv
        clear hV hN hO
        go_simp
        exact hK.out _ _ (by rw [V6, upd_at]; exact ⟨A9, c9, rfl, hc9, hs9⟩) (.inr (Below.refl _ _)) hG
      case s7_2 =>
        refine owe rfl fun a wx val hG hV hN hO K hK => ?_
        have e119 := hN 6 119 (by kernel_rfl) (by kernel_rfl) (by simp)
        have f119 := hV 6 (by kernel_rfl) (by kernel_rfl)
        rw [V6] at f119
        obtain ⟨A9, c9, hv, hc9, hs9⟩ := f119; rw [hv] at e119; clear hv
        clear hV hN hO
        go_simp
        exact hK.out _ _ (by rw [V7, upd_at]; exact ⟨A9, c9, rfl, hc9, hs9⟩) (.inr (Below.refl _ _)) hG
      case s8_2 =>
        refine owe rfl fun a wx val hG hV hN hO K hK => ?_
        have e119 := hN 6 119 (by kernel_rfl) (by kernel_rfl) (by simp)
        have f119 := hV 6 (by kernel_rfl) (by kernel_rfl)
        rw [V6] at f119
        obtain ⟨A9, c9, hv, hc9, hs9⟩ := f119; rw [hv] at e119; clear hv
        clear hV hN hO
        go_simp
        exact hK.out _ _ (by rw [V8, upd_at]) (.inr (Below.refl _ _)) hG
      case s9_2 =>
        refine owe rfl fun a wx val hG hV hN hO K hK => ?_
        clear hV hN hO
        go_simp
        have hb := Joins.below_alloc1 wx (.cells #[.int .i64 0, .int .i64 0, .slice none 0 0] 46)
        exact hK.out _ _ (by rw [V9, upd_at]; exact ⟨_, rfl, hG.size, GatAt.new wx 0 0 (.slice none 0 0)⟩) (.inr hb) (hG.trans (hb.mono hG.size))
      case s10_2 =>
        refine owe rfl fun a wx val hG hV hN hO K hK => ?_
        have e23 := hN 9 23 (by kernel_rfl) (by kernel_rfl) (by simp)
        have f23 := hV 9 (by kernel_rfl) (by kernel_rfl)
        rw [V9] at f23
        obtain ⟨g, hv9, hg9, ha9⟩ := f23; rw [hv9] at e23
        have e126 := hN 7 126 (by kernel_rfl) (by kernel_rfl) (by simp)
        have f126 := hV 7 (by kernel_rfl) (by kernel_rfl)
        rw [V7] at f126
        obtain ⟨A9, c9, hv, hc9, hs9⟩ := f126; rw [hv] at e126; clear hv
        clear hV hN hO
        obtain ⟨⟨z0, z1, z2⟩, hfz⟩ := ha9.cells
        go_simp
        exact hK.out undef (put3 wx g (GI (hs.set kx true)) (GQ (hs.set kx true)) (.slice A9 (GL (hs.set kx true)).length c9)) (by rw [V10, upd_ne _ _ (by decide)]; exact ⟨g, A9, c9, hv9, put3_blk ha9 _ _ _, hc9, (hs9.past ha9 (put3_grown _ _ _ _ _)).more (put3_grown _ _ _ _ _).size⟩) (.inl ⟨rfl, g, _, _, _, _, _, ha9, put3_grown _ _ _ _ _⟩) (put3_below hG hg9 _ _ _)
      case s11_2 =>
        refine owe rfl fun a wx val hG hV hN hO K hK => ?_
        have e127 := hN 8 127 (by kernel_rfl) (by kernel_rfl) (by simp)
        have f127 := hV 8 (by kernel_rfl) (by kernel_rfl)
        rw [V8] at f127
        rw [f127] at e127; clear f127
        clear hV hN hO
        go_simp
        exact hK.out _ _ (by rw [V11, upd_at]) (.inr (Below.refl _ _)) hG
      intro val wx hG hV
      have f0 := hV 0 (by simp) (fun _ _ => by simp)
      rw [V0] at f0
      have f1 := hV 1 (by simp) (fun _ _ => by simp)
      rw [V1] at f1
      have f2 := hV 2 (by simp) (fun _ _ => by simp)
      rw [V2] at f2
      have f3 := hV 3 (by simp) (fun _ _ => by simp)
      rw [V3] at f3
      have f4 := hV 4 (by simp) (fun _ _ => by simp)
      rw [V4] at f4
      have f8 := hV 8 (by simp) (fun _ _ => by simp)
      rw [V8] at f8
      have f10 := hV 10 (by simp) (fun _ _ => by simp)
      rw [V10] at f10
      have f11 := hV 11 (by simp) (fun _ _ => by simp)
      rw [V11] at f11
      clear hV V0 V1 V2 V3 V4 V5 V6 V7 V8 V9 V10 V11
      simp only [putAll, Act.put, List.setIfInBounds_toArray, List.set_cons_zero, List.set_cons_succ]
      generalize val 0 = z0 at *; (subst f0)
      generalize val 1 = z1 at *; (subst f1)
      generalize val 2 = z2 at *; (subst f2)
      generalize val 3 = z3 at *; (subst f3)
      generalize val 4 = z4 at *; (subst f4)
      generalize val 8 = z8 at *; (subst f8)
      generalize val 11 = z11 at *; (subst f11)
      obtain ⟨g, A9, c9, e9, ha9, hc9, hs9⟩ := f10
      rw [e9]; clear e9
      have hst := HSTZ.out.on hG
      obtain ⟨⟨z0, z1, z2⟩, -⟩ := ha9.cells
      obtain ⟨⟨y0, y1, y2⟩, hfy⟩ := hst.gat.cells
      have HST9 := Lib.hid (hst.put hc9 hs9 (gi' := GI (hs.set kx true)) (gq' := GQ (hs.set kx true)))
      have hcap := hc9
      clear hst hG HSTZ ha9 hc9 hs9 HATZ HADZ QK QM QM2 HST
      have HALL2 := Lib.hid (all_set HALL.out (show kx < hs.length by omega))
      have hlen' : (hs.set kx true).length = M := by rw [List.length_set]; exact hlen
      have hst9 := HST9.out
      unfold put3 at hst9
      have HST9 := Lib.hid hst9; clear hst9
      have qk : IntKind.i64.wrap ((kx : Int) + 1) = (kx : Int) + 1 := IntWalk.i64_in _ (by omega)
      go_wp2_with fail
      go_roundw
      case rel => exact ⟨kx + 1, hs.set kx true, hd, A9, c9, by omega, by go_num, hlen', HALL2.out, HST9.out⟩
      case measure => simp [intOf]; omega
    · -- behind the second loop
      have hkM : kx = M := by omega
      have hcnt := all_count hlen (fun q hq => HALL.out q (by omega))
      have hany := all_any hM1 hlen (fun q hq => HALL.out q (by omega))
      have hT := HWT.out hs hcnt hlen
      have cw := CW.out hs A c wr hlen hany HST.out.str HST.out.cap
      rw [decide_eq_true hcnt, hT] at cw
      obtain ⟨⟨y0, y1, y2⟩, -⟩ := HST.out.gat.cells
      have HANY := Lib.hid hany
      clear hcnt hany hT
      go_wp2_with fail; refine cw.mono ?_; rintro e w11 ⟨rfl, b11⟩
      clear cw y0 y1 y2
      have HST11 := Lib.hid (HST.out.on b11)
      clear b11 HST
      go_wp2_with fail
      have hany := Lib.hid HANY.out
      clear HANY HWT hk1
      go_loopw [27] (fun ix wr => ∃ j : Nat, j ≤ l.length ∧ j ≤ 10 ∧ ix = .int .i64 j ∧ WSt w3 wr b13 H (GI hs) (GQ hs) (GL hs) A c hd) (fun ix _ => 10 - (intOf ix).toNat)
      case atStart => exact ⟨0, by omega, by omega, rfl, HST11.out⟩
      case round =>
      clear HST11
      obtain ⟨j, hj1, hj2, rfl, hst⟩ := hrel
      have HST := Lib.hid hst; clear hst
      rcases (show ((j : Int) < l.length ∧ (j : Int) < 10) ∨ (¬ (j : Int) < l.length) ∨ ((j : Int) < l.length ∧ ¬ (j : Int) < 10) by omega) with ⟨hJ, hJ8⟩ | hJ | ⟨hJ, hJ8⟩
      · -- a round: an older piece
        have hjn : j < l.length := by omega
        obtain ⟨r, hr⟩ : ∃ r, l[j]? = some r := ⟨_, List.getElem?_eq_getElem hjn⟩
        obtain ⟨ad0, rfl, -, hc0⟩ := (HRW.out.below HST.out.bel HLE.out) (by omega)
        obtain ⟨f0, f1, f2, f3⟩ := hc0 j r hr
        have cp := fun W => piece_any r (HRR.out.wf r (List.mem_of_getElem? hr)) W
        have cO := fun W h1 h2 => CO.out hs r A c W hlen hany.out h1 h2
        have hj0 : (0 : Int) ≤ j := by omega
        have qj : IntKind.i64.wrap ((j : Int) + 1) = (j : Int) + 1 := IntWalk.i64_in _ (by omega)
        clear hr hc0
        obtain ⟨ra, rb, rc, rd⟩ := r
        simp only [rv] at cp f0 f1 f2 f3
        go_wp2_with fail; refine (cp _).mono ?_; rintro e w12 ⟨rfl, b12⟩
        have HST12 := Lib.hid (HST.out.on b12)
        clear b12 f0 f1 f2 f3 cp HST
        generalize rawI ⟨ra, rb, rc, rd⟩ = I at *
        generalize rawP ⟨ra, rb, rc, rd⟩ = P at *
        obtain ⟨ps, pa, po, pb⟩ := P
        simp only [pv] at *
        obtain ⟨W4, h4⟩ : ∃ W4, w12.alloc (.cells #[.int .i64 ps, .int .i64 pa, .int .i64 po, .string pb] 23) = W4 := ⟨_, rfl⟩
        have b4 : Below w12.heap.size w12 W4 := by rw [← h4]; exact Joins.below_alloc1 w12 _
        have p4 : PcAt W4 w12.heap.size ⟨ps, pa, po, pb⟩ := by rw [← h4]; exact PcAt.new w12 ⟨ps, pa, po, pb⟩
        have HST4 := Lib.hid (HST12.out.on b4)
        obtain ⟨m0, m1, m2, m3⟩ := p4.cells
        simp only at m0 m1 m2 m3
        obtain ⟨⟨y0, y1, y2⟩, -⟩ := HST4.out.gat.cells
        clear b4 p4 HST12
        go_wp2_with fail; refine (cO _ HST4.out.str HST4.out.cap).mono ?_; rintro e w5 ⟨A5, c5, rfl, hc5, hs5, b5⟩
        have HST5 := Lib.hid (HST4.out.on b5)
        clear b5 m0 m1 m2 m3 y0 y1 y2 h4 HST4 cO
        obtain ⟨W6, h6⟩ : ∃ W6, w5.alloc (.cells #[.int .i64 (GI hs), .int .i64 (GQ hs), .slice A5 (GL hs).length c5] 46) = W6 := ⟨_, rfl⟩
        have b6 : Below w5.heap.size w5 W6 := by rw [← h6]; exact Joins.below_alloc1 w5 _
        have g6 : GatAt W6 w5.heap.size (GI hs) (GQ hs) (.slice A5 (GL hs).length c5) := by rw [← h6]; exact GatAt.new w5 _ _ _
        have HST6 := Lib.hid (HST5.out.on b6)
        have cE := CE.out hs A5 A c5 c W6 hlen ((hs5.below b6 (Nat.le_refl _)).more b6.size) HST6.out.str
        obtain ⟨⟨x0, x1, x2⟩, -⟩ := g6.cells
        obtain ⟨⟨y0, y1, y2⟩, -⟩ := HST6.out.gat.cells
        clear b6 g6 hs5 HST5
        go_wp2_with fail; refine cE.mono ?_; rintro e w7 ⟨rfl, b7⟩
        have HST7 := Lib.hid (HST6.out.on b7)
        clear b7 x0 x1 x2 y0 y1 y2 h6 cE HST6
        go_wp2_with fail
        go_roundw
        case rel => exact ⟨j + 1, by omega, by omega, by go_num, HST7.out⟩
        case measure => simp [intOf]; omega
      · go_wp2_with fail
        go_ret
        exact ⟨rfl, HB3.out.trans (HST.out.bel.mono HLE.out)⟩
      · go_wp2_with fail
        go_ret
        exact ⟨rfl, HB3.out.trans (HST.out.bel.mono HLE.out)⟩
  · -- the end of the first loop: forty
    have hlA := Lib.hid hlen
    have hstA := HST.out
    have hMh : (hs.count true) ≤ M := by have := List.count_le_length (a := true) (l := hs); omega
    go_wp2_with fail
    go_loopw [22] (fun ix wr => ∃ (kx : Nat) (hs hd : List Bool) (A : Option Addr) (c : Nat), kx ≤ M ∧ ix = .int .i64 kx ∧ hs.length = M ∧ (∀ q, q < kx → hs[q]? = some true) ∧ WSt w3 wr b13 H (GI hs) (GQ hs) (GL hs) A c hd) (fun ix _ => M - (intOf ix).toNat)
    case atStart => exact ⟨0, hs, hs, A, c, by omega, rfl, hlA.out, fun q hq => absurd hq (by omega), HST.out⟩
    case round =>
    clear hstA HST hlA hlen hI hMh hk1 hk2
    try clear hI8
    obtain ⟨kx, hs, hd, A, c, hk1, rfl, hlen, hall, hst⟩ := hrel
    have HST := Lib.hid hst; clear hst
    have HALL := Lib.hid hall; clear hall
    by_cases hKI : (kx : Int) < M
    · -- a round
      have hKlt : kx < M := by omega
      have hk0 : (0 : Int) ≤ kx := by omega
      go_wp2_with fail
      have HSTZ := HST
      have hlenZ := Lib.hid hlen
      have HATZ := Lib.hid ((HAT.out kx hKlt).keep (w' := wr) fun q hq => HST.out.bel.cell (by rw [hq, adb]; exact HAD.out))
      have HADZ : Hid (ad.block < wr.heap.size) := Lib.hid (Nat.lt_of_lt_of_le HAD.out HST.out.bel.size)
      have QK : Hid ((0 : Int) ≤ kx) := Lib.hid (by omega)
      have QM : Hid ((kx : Int) < M ∧ (0 : Int) ≤ kx) := Lib.hid (by omega)
      have QM2 : Hid (kx < M) := Lib.hid hKlt
      generalize hWZ : wr = WZ at *
      clear hWZ
      have HV : ∃ V : Nat → (Nat → Value) → World → Prop, V = (fun ix u wv => match ix with
        | 0 => u 0 = .agg #[.int .i64 (GI hs), .int .i64 (GQ hs), .slice A (GL hs).length c]
        | 1 => u 1 = .slice (some ad) M cl
        | 2 => u 2 = .int .i64 (kx : Int)
        | 3 => u 3 = .pointer (some (ad.add (kx * 4)))
        | 4 => u 4 = .agg #[.int .i64 9, .int .i64 kx, .int .i64 M, .string (PB kx)]
        | 5 => ∃ A9 c9, u 5 = .tuple #[.agg #[.int .i64 (GI (hs.set kx true)), .int .i64 (GQ (hs.set kx true)), .slice A9 (GL (hs.set kx true)).length c9], .int .i64 0] ∧ (GL (hs.set kx true)).length ≤ c9 ∧ Strs wv wv.heap.size A9 (GL (hs.set kx true))
        | 6 => ∃ A9 c9, u 6 = .tuple #[.agg #[.int .i64 (GI (hs.set kx true)), .int .i64 (GQ (hs.set kx true)), .slice A9 (GL (hs.set kx true)).length c9], .int .i64 0] ∧ (GL (hs.set kx true)).length ≤ c9 ∧ Strs wv wv.heap.size A9 (GL (hs.set kx true))
        | 7 => ∃ A9 c9, u 7 = .agg #[.int .i64 (GI (hs.set kx true)), .int .i64 (GQ (hs.set kx true)), .slice A9 (GL (hs.set kx true)).length c9] ∧ (GL (hs.set kx true)).length ≤ c9 ∧ Strs wv wv.heap.size A9 (GL (hs.set kx true))
        | 8 => u 8 = .int .i64 0
        | 9 => ∃ g, u 9 = .pointer (some ⟨g, 0, none⟩) ∧ WZ.heap.size ≤ g ∧ GatAt wv g 0 0 (.slice none 0 0)
        | 10 => ∃ g A9 c9, u 9 = .pointer (some ⟨g, 0, none⟩) ∧ GatAt wv g (GI (hs.set kx true)) (GQ (hs.set kx true)) (.slice A9 (GL (hs.set kx true)).length c9) ∧ (GL (hs.set kx true)).length ≤ c9 ∧ Strs wv wv.heap.size A9 (GL (hs.set kx true))
        | 11 => u 11 = .int .i64 0
        | _ => True) := ⟨_, rfl⟩
      obtain ⟨V, hVdef⟩ := HV
      have V0 : ∀ u wv, V 0 u wv = (u 0 = .agg #[.int .i64 (GI hs), .int .i64 (GQ hs), .slice A (GL hs).length c]) := fun u wv => by subst hVdef; rfl
      have V1 : ∀ u wv, V 1 u wv = (u 1 = .slice (some ad) M cl) := fun u wv => by subst hVdef; rfl
      have V2 : ∀ u wv, V 2 u wv = (u 2 = .int .i64 (kx : Int)) := fun u wv => by subst hVdef; rfl
      have V3 : ∀ u wv, V 3 u wv = (u 3 = .pointer (some (ad.add (kx * 4)))) := fun u wv => by subst hVdef; rfl
      have V4 : ∀ u wv, V 4 u wv = (u 4 = .agg #[.int .i64 9, .int .i64 kx, .int .i64 M, .string (PB kx)]) := fun u wv => by subst hVdef; rfl
      have V5 : ∀ u wv, V 5 u wv = (∃ A9 c9, u 5 = .tuple #[.agg #[.int .i64 (GI (hs.set kx true)), .int .i64 (GQ (hs.set kx true)), .slice A9 (GL (hs.set kx true)).length c9], .int .i64 0] ∧ (GL (hs.set kx true)).length ≤ c9 ∧ Strs wv wv.heap.size A9 (GL (hs.set kx true))) := fun u wv => by subst hVdef; rfl
      have V6 : ∀ u wv, V 6 u wv = (∃ A9 c9, u 6 = .tuple #[.agg #[.int .i64 (GI (hs.set kx true)), .int .i64 (GQ (hs.set kx true)), .slice A9 (GL (hs.set kx true)).length c9], .int .i64 0] ∧ (GL (hs.set kx true)).length ≤ c9 ∧ Strs wv wv.heap.size A9 (GL (hs.set kx true))) := fun u wv => by subst hVdef; rfl
      have V7 : ∀ u wv, V 7 u wv = (∃ A9 c9, u 7 = .agg #[.int .i64 (GI (hs.set kx true)), .int .i64 (GQ (hs.set kx true)), .slice A9 (GL (hs.set kx true)).length c9] ∧ (GL (hs.set kx true)).length ≤ c9 ∧ Strs wv wv.heap.size A9 (GL (hs.set kx true))) := fun u wv => by subst hVdef; rfl
      have V8 : ∀ u wv, V 8 u wv = (u 8 = .int .i64 0) := fun u wv => by subst hVdef; rfl
      have V9 : ∀ u wv, V 9 u wv = (∃ g, u 9 = .pointer (some ⟨g, 0, none⟩) ∧ WZ.heap.size ≤ g ∧ GatAt wv g 0 0 (.slice none 0 0)) := fun u wv => by subst hVdef; rfl
      have V10 : ∀ u wv, V 10 u wv = (∃ g A9 c9, u 9 = .pointer (some ⟨g, 0, none⟩) ∧ GatAt wv g (GI (hs.set kx true)) (GQ (hs.set kx true)) (.slice A9 (GL (hs.set kx true)).length c9) ∧ (GL (hs.set kx true)).length ≤ c9 ∧ Strs wv wv.heap.size A9 (GL (hs.set kx true))) := fun u wv => by subst hVdef; rfl
      have V11 : ∀ u wv, V 11 u wv = (u 11 = .int .i64 0) := fun u wv => by subst hVdef; rfl
      have HVD := Lib.hid hVdef
      clear hVdef
      refine region_each (V := V) (drop := fun jx ix => jx == 10 && ix == 9) (G := fun wv => Below WZ.heap.size WZ wv) (Rel := fun jx wv wv' => (jx = 10 ∧ ∃ (g : Nat) (i q : Int) (X : Option Addr) (n c : Nat), GatAt wv g i q (.slice X n c) ∧ wv.grownBy wv' (some g)) ∨ Below wv.heap.size wv wv') (by kernel_rfl) (by kernel_rfl) (Below.refl _ _).drew ?hmono3 ?hdep3 ⟨?s0_3, ?s1_3, ?s2_3, ?s3_3, ?s4_3, ?s5_3, ?s6_3, ?s7_3, ?s8_3, ?s9_3, ?s10_3, ?s11_3, trivial⟩ ?behind3
      case hmono3 =>
        intro ix jx u wv wv' hij hw hd hr
        rw [HVD.out]
        dsimp only
        split <;> intro h <;> first | exact trivial | exact h | (rcases hr with ⟨rfl, g', i', q', X', n', c', hg', hgr⟩ | hb <;> first | (obtain ⟨A9, c9, e, hc9, hs9⟩ := h; exact ⟨A9, c9, e, hc9, (hs9.past hg' hgr).more hgr.size⟩) | exact absurd rfl hij | (simp at hd; done) | (obtain ⟨A9, c9, e, hc9, hs9⟩ := h; exact ⟨A9, c9, e, hc9, (hs9.below hb (Nat.le_refl _)).more hb.size⟩) | (obtain ⟨g, e, hg, ha⟩ := h; exact ⟨g, e, hg, ha.on hb⟩) | (obtain ⟨g, A9, c9, e, ha, hc9, hs9⟩ := h; exact ⟨g, A9, c9, e, ha.on hb, hc9, (hs9.below hb (Nat.le_refl _)).more hb.size⟩))
      case hdep3 =>
        intro ix u u' wv h1 h2
        rw [HVD.out]
        dsimp only
        split <;> intro h <;> first | exact trivial | (rw [← h1]; exact h) | (obtain ⟨g, A9, c9, e, h⟩ := h; exact ⟨g, A9, c9, (h2 9 (by kernel_rfl)).symm.trans e, h⟩)
      case s0_3 =>
        refine owe rfl fun a wx val hG hV hN hO K hK => ?_
        have e13 : a.tmps[13]? = some (.pointer (some ⟨b13, 0, none⟩)) := (hO 13 (by kernel_rfl)).trans (by rfl)
        clear hV hN hO
        obtain ⟨⟨y0, y1, y2⟩, -⟩ := (HSTZ.out.on hG).gat.cells
        obtain ⟨p0, p1, p2, p3⟩ := (HATZ.out.keep (w' := wx) fun q hq => hG.cell (by rw [hq, adb]; exact HADZ.out))
        simp only at p0 p1 p2 p3
        go_simp
        exact hK.out _ _ (by rw [V0, upd_at]) (.inr (Below.refl _ _)) hG
      case s1_3 =>
        refine owe rfl fun a wx val hG hV hN hO K hK => ?_
        have e11 : a.tmps[11]? = some (.slice (some ad) M cl) := (hO 11 (by kernel_rfl)).trans (by rfl)
        clear hV hN hO
        go_simp
        exact hK.out _ _ (by rw [V1, upd_at]) (.inr (Below.refl _ _)) hG
      case s2_3 =>
        refine owe rfl fun a wx val hG hV hN hO K hK => ?_
        have e22 : a.tmps[22]? = some (.int .i64 (kx : Int)) := (hO 22 (by kernel_rfl)).trans (by rfl)
        clear hV hN hO
        go_simp
        exact hK.out _ _ (by rw [V2, upd_at]) (.inr (Below.refl _ _)) hG
      case s3_3 =>
        refine owe rfl fun a wx val hG hV hN hO K hK => ?_
        have e121 := hN 1 121 (by kernel_rfl) (by kernel_rfl) (by simp)
        have f121 := hV 1 (by kernel_rfl) (by kernel_rfl)
        rw [V1] at f121
        rw [f121] at e121; clear f121
        have e122 := hN 2 122 (by kernel_rfl) (by kernel_rfl) (by simp)
        have f122 := hV 2 (by kernel_rfl) (by kernel_rfl)
        rw [V2] at f122
        rw [f122] at e122; clear f122
        clear hV hN hO
        have q1 := QK.out
        obtain ⟨q2, q3⟩ := QM.out
        go_simp
        exact hK.out _ _ (by rw [V3, upd_at]) (.inr (Below.refl _ _)) hG
      case s4_3 =>
        refine owe rfl fun a wx val hG hV hN hO K hK => ?_
        have e123 := hN 3 123 (by kernel_rfl) (by kernel_rfl) (by simp)
        have f123 := hV 3 (by kernel_rfl) (by kernel_rfl)
        rw [V3] at f123
        rw [f123] at e123; clear f123
        clear hV hN hO
        obtain ⟨⟨y0, y1, y2⟩, -⟩ := (HSTZ.out.on hG).gat.cells
        obtain ⟨p0, p1, p2, p3⟩ := (HATZ.out.keep (w' := wx) fun q hq => hG.cell (by rw [hq, adb]; exact HADZ.out))
        simp only at p0 p1 p2 p3
        go_simp
        exact hK.out _ _ (by rw [V4, upd_at]) (.inr (Below.refl _ _)) hG
      case s5_3 =>
        refine owe rfl fun a wx val hG hV hN hO K hK => ?_
        have e120 := hN 0 120 (by kernel_rfl) (by kernel_rfl) (by simp)
        have f120 := hV 0 (by kernel_rfl) (by kernel_rfl)
        rw [V0] at f120
        rw [f120] at e120; clear f120
        have e124 := hN 4 124 (by kernel_rfl) (by kernel_rfl) (by simp)
        have f124 := hV 4 (by kernel_rfl) (by kernel_rfl)
        rw [V4] at f124
        rw [f124] at e124; clear f124
        clear hV hN hO
        have hsz := (HSTZ.out.on hG)
        go_simp
        refine (CP.out hs kx _ _ _ hlenZ.out QM2.out hsz.str hsz.cap).mono ?_
        rintro e w9 ⟨A9, c9, rfl, hc9, hs9, hb⟩
        exact hK.out _ _ (by rw [V5, upd_at]; exact ⟨A9, c9, rfl, hc9, hs9⟩) (.inr hb) (hG.trans (hb.mono hG.size))
      case s6_3 =>
        refine owe rfl fun a wx val hG hV hN hO K hK => ?_
        have e125 := hN 5 125 (by kernel_rfl) (by kernel_rfl) (by simp)
        have f125 := hV 5 (by kernel_rfl) (by kernel_rfl)
        rw [V5] at f125
        obtain ⟨A9, c9, hv, hc9, hs9⟩ := f125; rw [hv] at e125; clear hv
        clear hV hN hO
        go_simp
        exact hK.out _ _ (by rw [V6, upd_at]; exact ⟨A9, c9, rfl, hc9, hs9⟩) (.inr (Below.refl _ _)) hG
      case s7_3 =>
        refine owe rfl fun a wx val hG hV hN hO K hK => ?_
        have e119 := hN 6 119 (by kernel_rfl) (by kernel_rfl) (by simp)
        have f119 := hV 6 (by kernel_rfl) (by kernel_rfl)
        rw [V6] at f119
        obtain ⟨A9, c9, hv, hc9, hs9⟩ := f119; rw [hv] at e119; clear hv
        clear hV hN hO
        go_simp
        exact hK.out _ _ (by rw [V7, upd_at]; exact ⟨A9, c9, rfl, hc9, hs9⟩) (.inr (Below.refl _ _)) hG
      case s8_3 =>
        refine owe rfl fun a wx val hG hV hN hO K hK => ?_
        have e119 := hN 6 119 (by kernel_rfl) (by kernel_rfl) (by simp)
        have f119 := hV 6 (by kernel_rfl) (by kernel_rfl)
        rw [V6] at f119
        obtain ⟨A9, c9, hv, hc9, hs9⟩ := f119; rw [hv] at e119; clear hv
        clear hV hN hO
        go_simp
        exact hK.out _ _ (by rw [V8, upd_at]) (.inr (Below.refl _ _)) hG
      case s9_3 =>
        refine owe rfl fun a wx val hG hV hN hO K hK => ?_
        clear hV hN hO
        go_simp
        have hb := Joins.below_alloc1 wx (.cells #[.int .i64 0, .int .i64 0, .slice none 0 0] 46)
        exact hK.out _ _ (by rw [V9, upd_at]; exact ⟨_, rfl, hG.size, GatAt.new wx 0 0 (.slice none 0 0)⟩) (.inr hb) (hG.trans (hb.mono hG.size))
      case s10_3 =>
        refine owe rfl fun a wx val hG hV hN hO K hK => ?_
        have e23 := hN 9 23 (by kernel_rfl) (by kernel_rfl) (by simp)
        have f23 := hV 9 (by kernel_rfl) (by kernel_rfl)
        rw [V9] at f23
        obtain ⟨g, hv9, hg9, ha9⟩ := f23; rw [hv9] at e23
        have e126 := hN 7 126 (by kernel_rfl) (by kernel_rfl) (by simp)
        have f126 := hV 7 (by kernel_rfl) (by kernel_rfl)
        rw [V7] at f126
        obtain ⟨A9, c9, hv, hc9, hs9⟩ := f126; rw [hv] at e126; clear hv
        clear hV hN hO
        obtain ⟨⟨z0, z1, z2⟩, hfz⟩ := ha9.cells
        go_simp
        exact hK.out undef (put3 wx g (GI (hs.set kx true)) (GQ (hs.set kx true)) (.slice A9 (GL (hs.set kx true)).length c9)) (by rw [V10, upd_ne _ _ (by decide)]; exact ⟨g, A9, c9, hv9, put3_blk ha9 _ _ _, hc9, (hs9.past ha9 (put3_grown _ _ _ _ _)).more (put3_grown _ _ _ _ _).size⟩) (.inl ⟨rfl, g, _, _, _, _, _, ha9, put3_grown _ _ _ _ _⟩) (put3_below hG hg9 _ _ _)
      case s11_3 =>
        refine owe rfl fun a wx val hG hV hN hO K hK => ?_
        have e127 := hN 8 127 (by kernel_rfl) (by kernel_rfl) (by simp)
        have f127 := hV 8 (by kernel_rfl) (by kernel_rfl)
        rw [V8] at f127
        rw [f127] at e127; clear f127
        clear hV hN hO
        go_simp
        exact hK.out _ _ (by rw [V11, upd_at]) (.inr (Below.refl _ _)) hG
      intro val wx hG hV
      have f0 := hV 0 (by simp) (fun _ _ => by simp)
      rw [V0] at f0
      have f1 := hV 1 (by simp) (fun _ _ => by simp)
      rw [V1] at f1
      have f2 := hV 2 (by simp) (fun _ _ => by simp)
      rw [V2] at f2
      have f3 := hV 3 (by simp) (fun _ _ => by simp)
      rw [V3] at f3
      have f4 := hV 4 (by simp) (fun _ _ => by simp)
      rw [V4] at f4
      have f8 := hV 8 (by simp) (fun _ _ => by simp)
      rw [V8] at f8
      have f10 := hV 10 (by simp) (fun _ _ => by simp)
      rw [V10] at f10
      have f11 := hV 11 (by simp) (fun _ _ => by simp)
      rw [V11] at f11
      clear hV V0 V1 V2 V3 V4 V5 V6 V7 V8 V9 V10 V11
      simp only [putAll, Act.put, List.setIfInBounds_toArray, List.set_cons_zero, List.set_cons_succ]
      generalize val 0 = z0 at *; (subst f0)
      generalize val 1 = z1 at *; (subst f1)
      generalize val 2 = z2 at *; (subst f2)
      generalize val 3 = z3 at *; (subst f3)
      generalize val 4 = z4 at *; (subst f4)
      generalize val 8 = z8 at *; (subst f8)
      generalize val 11 = z11 at *; (subst f11)
      obtain ⟨g, A9, c9, e9, ha9, hc9, hs9⟩ := f10
      rw [e9]; clear e9
      have hst := HSTZ.out.on hG
      obtain ⟨⟨z0, z1, z2⟩, -⟩ := ha9.cells
      obtain ⟨⟨y0, y1, y2⟩, hfy⟩ := hst.gat.cells
      have HST9 := Lib.hid (hst.put hc9 hs9 (gi' := GI (hs.set kx true)) (gq' := GQ (hs.set kx true)))
      have hcap := hc9
      clear hst hG HSTZ ha9 hc9 hs9 HATZ HADZ QK QM QM2 HST
      have HALL2 := Lib.hid (all_set HALL.out (show kx < hs.length by omega))
      have hlen' : (hs.set kx true).length = M := by rw [List.length_set]; exact hlen
      have hst9 := HST9.out
      unfold put3 at hst9
      have HST9 := Lib.hid hst9; clear hst9
      have qk : IntKind.i64.wrap ((kx : Int) + 1) = (kx : Int) + 1 := IntWalk.i64_in _ (by omega)
      go_wp2_with fail
      go_roundw
      case rel => exact ⟨kx + 1, hs.set kx true, hd, A9, c9, by omega, by go_num, hlen', HALL2.out, HST9.out⟩
      case measure => simp [intOf]; omega
    · -- behind the second loop
      have hkM : kx = M := by omega
      have hcnt := all_count hlen (fun q hq => HALL.out q (by omega))
      have hany := all_any hM1 hlen (fun q hq => HALL.out q (by omega))
      have hT := HWT.out hs hcnt hlen
      have cw := CW.out hs A c wr hlen hany HST.out.str HST.out.cap
      rw [decide_eq_true hcnt, hT] at cw
      obtain ⟨⟨y0, y1, y2⟩, -⟩ := HST.out.gat.cells
      have HANY := Lib.hid hany
      clear hcnt hany hT
      go_wp2_with fail; refine cw.mono ?_; rintro e w11 ⟨rfl, b11⟩
      clear cw y0 y1 y2
      have HST11 := Lib.hid (HST.out.on b11)
      clear b11 HST
      go_wp2_with fail
      have hany := Lib.hid HANY.out
      clear HANY HWT hk1
      go_loopw [27] (fun ix wr => ∃ j : Nat, j ≤ l.length ∧ j ≤ 10 ∧ ix = .int .i64 j ∧ WSt w3 wr b13 H (GI hs) (GQ hs) (GL hs) A c hd) (fun ix _ => 10 - (intOf ix).toNat)
      case atStart => exact ⟨0, by omega, by omega, rfl, HST11.out⟩
      case round =>
      clear HST11
      obtain ⟨j, hj1, hj2, rfl, hst⟩ := hrel
      have HST := Lib.hid hst; clear hst
      rcases (show ((j : Int) < l.length ∧ (j : Int) < 10) ∨ (¬ (j : Int) < l.length) ∨ ((j : Int) < l.length ∧ ¬ (j : Int) < 10) by omega) with ⟨hJ, hJ8⟩ | hJ | ⟨hJ, hJ8⟩
      · -- a round: an older piece
        have hjn : j < l.length := by omega
        obtain ⟨r, hr⟩ : ∃ r, l[j]? = some r := ⟨_, List.getElem?_eq_getElem hjn⟩
        obtain ⟨ad0, rfl, -, hc0⟩ := (HRW.out.below HST.out.bel HLE.out) (by omega)
        obtain ⟨f0, f1, f2, f3⟩ := hc0 j r hr
        have cp := fun W => piece_any r (HRR.out.wf r (List.mem_of_getElem? hr)) W
        have cO := fun W h1 h2 => CO.out hs r A c W hlen hany.out h1 h2
        have hj0 : (0 : Int) ≤ j := by omega
        have qj : IntKind.i64.wrap ((j : Int) + 1) = (j : Int) + 1 := IntWalk.i64_in _ (by omega)
        clear hr hc0
        obtain ⟨ra, rb, rc, rd⟩ := r
        simp only [rv] at cp f0 f1 f2 f3
        go_wp2_with fail; refine (cp _).mono ?_; rintro e w12 ⟨rfl, b12⟩
        have HST12 := Lib.hid (HST.out.on b12)
        clear b12 f0 f1 f2 f3 cp HST
        generalize rawI ⟨ra, rb, rc, rd⟩ = I at *
        generalize rawP ⟨ra, rb, rc, rd⟩ = P at *
        obtain ⟨ps, pa, po, pb⟩ := P
        simp only [pv] at *
        obtain ⟨W4, h4⟩ : ∃ W4, w12.alloc (.cells #[.int .i64 ps, .int .i64 pa, .int .i64 po, .string pb] 23) = W4 := ⟨_, rfl⟩
        have b4 : Below w12.heap.size w12 W4 := by rw [← h4]; exact Joins.below_alloc1 w12 _
        have p4 : PcAt W4 w12.heap.size ⟨ps, pa, po, pb⟩ := by rw [← h4]; exact PcAt.new w12 ⟨ps, pa, po, pb⟩
        have HST4 := Lib.hid (HST12.out.on b4)
        obtain ⟨m0, m1, m2, m3⟩ := p4.cells
        simp only at m0 m1 m2 m3
        obtain ⟨⟨y0, y1, y2⟩, -⟩ := HST4.out.gat.cells
        clear b4 p4 HST12
        go_wp2_with fail; refine (cO _ HST4.out.str HST4.out.cap).mono ?_; rintro e w5 ⟨A5, c5, rfl, hc5, hs5, b5⟩
        have HST5 := Lib.hid (HST4.out.on b5)
        clear b5 m0 m1 m2 m3 y0 y1 y2 h4 HST4 cO
        obtain ⟨W6, h6⟩ : ∃ W6, w5.alloc (.cells #[.int .i64 (GI hs), .int .i64 (GQ hs), .slice A5 (GL hs).length c5] 46) = W6 := ⟨_, rfl⟩
        have b6 : Below w5.heap.size w5 W6 := by rw [← h6]; exact Joins.below_alloc1 w5 _
        have g6 : GatAt W6 w5.heap.size (GI hs) (GQ hs) (.slice A5 (GL hs).length c5) := by rw [← h6]; exact GatAt.new w5 _ _ _
        have HST6 := Lib.hid (HST5.out.on b6)
        have cE := CE.out hs A5 A c5 c W6 hlen ((hs5.below b6 (Nat.le_refl _)).more b6.size) HST6.out.str
        obtain ⟨⟨x0, x1, x2⟩, -⟩ := g6.cells
        obtain ⟨⟨y0, y1, y2⟩, -⟩ := HST6.out.gat.cells
        clear b6 g6 hs5 HST5
        go_wp2_with fail; refine cE.mono ?_; rintro e w7 ⟨rfl, b7⟩
        have HST7 := Lib.hid (HST6.out.on b7)
        clear b7 x0 x1 x2 y0 y1 y2 h6 cE HST6
        go_wp2_with fail
        go_roundw
        case rel => exact ⟨j + 1, by omega, by omega, by go_num, HST7.out⟩
        case measure => simp [intOf]; omega
      · go_wp2_with fail
        go_ret
        exact ⟨rfl, HB3.out.trans (HST.out.bel.mono HLE.out)⟩
      · go_wp2_with fail
        go_ret
        exact ⟨rfl, HB3.out.trans (HST.out.bel.mono HLE.out)⟩

end Go.Proofs.Ytggeojjiongbbaa

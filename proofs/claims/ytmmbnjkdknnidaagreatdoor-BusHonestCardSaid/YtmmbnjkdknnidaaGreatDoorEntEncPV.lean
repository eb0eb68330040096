/-
  Entries' bytes, by the program.
-/
import Derived.Deep.DeepCutAuto
import Derived.Test.YtmmbnjkdknnidaaGreatDoorEntEncV
import Derived.Test.YtmmbnjkdknnidaaGreatDoorMsgEncPV
set_option maxHeartbeats 8000000
set_option maxRecDepth 100000
namespace Go.Proofs.YtmmbnjkdknnidaaGreatDoor
open Lib (hid)
open Go.RowKit
theorem cell_zero_addE (w : World) (g k : Nat) : w.cell? ((⟨g, 0, none⟩ : Addr).add k) = w.cell? ⟨g, k, none⟩ := by
 unfold Addr.add
 split
 ·rename_i h; rw [h]
 ·simp
theorem lib_byteCells_length (l : List UInt8) : (Lib.byteCells l).length = l.length := by simp [Lib.byteCells]
theorem lib_byteCells_get (l : List UInt8) (i : Nat) (h : i < l.length) : (Lib.byteCells l)[i]? = some (.int .u8 ((l.getD i 0).toNat : Int)) := by
 simp [Lib.byteCells, List.getD, List.getElem?_eq_getElem h]
theorem own_bytes_text (W : World) (base n : Nat) (v : Value) (l : List UInt8) (h : W.ownsRow base 5 1 v n (Lib.byteCells l)) :
  (convert 42 9 v).run Tryz.prog W = .ok (.string (txt l)) W := by
 have hl := h.1
 rw [lib_byteCells_length] at hl
 rcases h.2 with ⟨rfl, h0⟩ | ⟨g, cap, cur, rfl, _⟩
 ·have : l = [] := List.eq_nil_of_length_eq_zero (by omega)
  subst this
  exact run_convert_bytes_nil W 42 5 Tryz.underlying42 Tryz.underlying5 0 0 9 Tryz.underlying9
 ·have h1 := run_convert_bytes_arg (P := Tryz.prog) W 42 5 Tryz.underlying42 Tryz.underlying5 g 0 n cap (l.map fun b => (b.toNat : Int)) (by rw [List.length_map]; omega) (by
   intro i hi
   have hc := h.cells (g := g) rfl i _ (lib_byteCells_get l i (by omega))
   rw [cell_zero_addE] at hc
   rw [Nat.zero_add, hc]
   simp [List.getD]
   cases l[i]? <;> rfl) 9 Tryz.underlying9
  rw [h1]
  have e : strOfNums (l.map fun b => (b.toNat : Int)) = txt l := by
   unfold strOfNums txt
   rw [List.map_map]
   have : ((fun n : Int => UInt8.ofNat n.toNat) ∘ fun b : UInt8 => (b.toNat : Int)) = id := by
    funext b
    simp
   rw [this, List.map_id]
  rw [e]
theorem cell_two_new (w : World) (x y : Value) (t : TypeId) : ∀ j u, [x, y][j]? = some u → (w.alloc (.cells #[x, y] t)).cell? ((⟨w.heap.size, 0, none⟩ : Addr).add j) = some u := by
 intro j u hu
 have hj : j < 2 := (List.getElem?_eq_some_iff.1 hu).1
 rw [cell_zero_addE]
 rcases (show j = 0 ∨ j = 1 by omega) with rfl | rfl
 ·have e : x = u := by simpa using hu
  subst e; simp [go_sem]
 ·have e : y = u := by simpa using hu
  subst e; simp [go_sem]
theorem byteCells_two (n : Int) : Lib.byteCells (twoL n) = [.int .u8 ((octet (n / 256)).toNat : Int), .int .u8 ((octet n).toNat : Int)] := rfl
theorem pairs_any (A : Option Addr) (c B : Nat) (l : List Int) (w : World) (h : V.Row w B A l) (hB : B ≤ w.heap.size) (hl : l.length ≤ 100) (hs : ∀ n ∈ l, 0 ≤ n ∧ n ≤ 65535) :
  Calls Tryz.prog 87 #[.slice A l.length c] w fun e w' => e = .returned (.string (txt (twosL l))) ∧ Below w.heap.size w w' := by
 obtain ⟨i0, hi, hz0, hz1, hz2⟩ := info_parts (show (Tryz.prog.info? 5).map (fun i => (i.zero, i.size, i.bytes)) = some (some (.int .u8 0), 1, 1) by kernel_rfl)
 have HS := hid hs; clear hs
 go_enter Tryz.func87, Tryz.ntmps87
 go_wp2_with fail
 go_loopw [3, 5, 8] (fun u _ ix wr => ∃ k : Nat, k ≤ l.length ∧ ix = .int .i64 k ∧ wr.ownsRow w.heap.size 5 1 u (2 * k) (Lib.byteCells (twosL (l.take k))) ∧ Below w.heap.size w wr) (fun _ _ ix _ => l.length - (intOf ix).toNat)
 case atStart => exact ⟨0, by omega, rfl, World.ownsRow_nil _ _ _ _, Below.refl _ _⟩
 case round =>
  obtain ⟨k, hk, rfl, hown, hb⟩ := hrel
  have HB := hid hb; clear hb
  have HOWN := hid hown; clear hown
  by_cases hlt : k < l.length
  ·obtain ⟨n, hx⟩ : ∃ n, l[k]? = some n := ⟨_, List.getElem?_eq_getElem hlt⟩
   obtain ⟨ad, rfl, _, hcc⟩ := h.below HB.out hB (by omega)
   have hck := hcc k n hx
   obtain ⟨n0, n1⟩ := HS.out n (List.mem_of_getElem? hx)
   have HT := hid (twosL_take hx)
   have e1 : ((octet (n / 256)).toNat : Int) = n / 256 := by rw [octet_nat]; omega
   have e2 : ((octet n).toNat : Int) = n % 256 := octet_nat n
   have HE1 := hid e1
   have HE2 := hid e2
   clear hcc hx e1 e2
   go_wp2_with (at_builtin; refine wpList_append_own _ rfl _ _ 42 rfl w.heap.size 5 i0 (.int .u8 0) 1 1 Tryz.underlying42 hi hz0 hz1 hz2 rfl (by decide) _ _ _ rfl (HOWN.out.alloc _) ⟨wr.heap.size, 0, none⟩ 2 2 [_, _] rfl rfl (cell_two_new _ _ _ _) (by simp [Value.oneCell']) (by simp only [maxLen]; omega) (by omega) (by have := HB.out.size; simp; omega) ?_; intro v' w3 hown' hgrow3 hnil3)
   have hb3 := (HB.out.alloc (by have := HB.out.size; omega) (.cells #[_, _] 5)).grown hgrow3 (by have := HB.out.size; simp; omega) (fun g e' => (HOWN.out.lt g e').1)
   go_roundw
   case rel =>
    refine ⟨k + 1, by omega, by go_num, ?_, hb3⟩
    rw [HT.out, byteCells_append, byteCells_two, HE1.out, HE2.out]
    exact hown'
   case measure => simp [intOf]; omega
  ·have ek : k = l.length := by omega
   subst ek
   have hO := HOWN.out
   rw [List.take_length] at hO
   have hcv := own_bytes_text _ _ _ _ _ hO
   clear hO h
   go_wp2_with fail
   go_ret
   exact ⟨rfl, HB.out⟩
theorem ownsRow_on {w w' : World} {B : Nat} {e : TypeId} {k n : Nat} {u : Value} {xs : List Value} (h : w.ownsRow B e k u n xs) (hb : Below w.heap.size w w') : w'.ownsRow B e k u n xs := by
 refine ⟨h.1, h.2.imp id ?_⟩
 rintro ⟨g, cap, cur, e1, e2, e3, e4⟩
 exact ⟨g, cap, cur, e1, e2, (hb.block g (Array.getElem?_eq_some_iff.1 e3).1).trans e3, e4⟩
theorem builderAt_on {T e : TypeId} {B b : Nat} {p : Value} {bs : List Value} {X Y : World} (h : Lib.BuilderAt T e B b p bs X) (hb : Below X.heap.size X Y) : Lib.BuilderAt T e B b p bs Y := by
 obtain ⟨hB, v, hv, hown, hne⟩ := h
 exact ⟨hB, v, (hb.block b (Array.getElem?_eq_some_iff.1 hv).1).trans hv, ownsRow_on hown hb, hne⟩
theorem writeByte_any (B b : Nat) (bs : List Value) (x : Int) (w : World) (h : Lib.IsBuilder 130 5 B b bs w) (hlen : bs.length + 1 ≤ 1000) (hBw : B ≤ w.heap.size) :
  Calls Tryz.prog 88 #[.pointer (some ⟨b, 0, none⟩), .int .u8 x] w fun e w' => e = .returned .nilIface ∧ (Lib.BuilderAt 130 5 B b (.pointer (some ⟨b, 0, none⟩)) (bs ++ [.int .u8 x]) w' ∧ Below B w w') := by
 obtain ⟨i0, hi, hz0, hz1, hz2⟩ := info_parts (show (Tryz.prog.info? 5).map (fun i => (i.zero, i.size, i.bytes)) = some (some (.int .u8 0), 1, 1) by kernel_rfl)
 go_enter Tryz.func88, Tryz.ntmps88
 go_wp2_with (go_at_call 127; refine (copyCheck_any B b bs _ h).mono ?_)
 rintro e w1 ⟨rfl, h1, hb1, hk1⟩
 obtain ⟨hB, v, hbk, hown, hne⟩ := h1
 have c0 : w1.cell? ⟨b, 0, none⟩ = some (.pointer (some ⟨b, 0, none⟩)) := by rw [Lib.cell_of_heap hbk]; rfl
 have c1 : w1.cell? ⟨b, 1, none⟩ = some v := by rw [Lib.cell_of_heap hbk]; rfl
 have hs1 := hb1.size
 have hlt : b < w1.heap.size := by
  rcases Nat.lt_or_ge b w1.heap.size with h' | h'
  ·exact h'
  ·simp [Array.getElem?_eq_none h'] at hbk
 have HOWN := hid hown
 go_wp2_with (at_builtin; refine wpList_append_own _ rfl _ _ 42 rfl B 5 i0 (.int .u8 0) 1 1 Tryz.underlying42 hi hz0 hz1 hz2 rfl (by decide) _ _ _ rfl (HOWN.out.alloc _) ⟨w1.heap.size, 0, none⟩ 1 1 [.int .u8 x] rfl rfl (cell_one_new _ _ _) (by simp [Value.oneCell']) (by simp only [maxLen]; omega) (by omega) (by simp; omega) ?_)
 intro v' w2 hown' hgrow _
 have hb2 : w2.heap[b]? = some (.cells #[.pointer (some ⟨b, 0, none⟩), v] 130 (0, 0)) := by
  rw [hgrow.block b (by simp; omega) (fun e => hne e.symm), Below.heap_alloc _ _ _ hlt]
  exact hbk
 have d0 : w2.cell? ⟨b, 0, none⟩ = some (.pointer (some ⟨b, 0, none⟩)) := by rw [Lib.cell_of_heap hb2]; rfl
 have d1 : w2.cell? ⟨b, 1, none⟩ = some v := by rw [Lib.cell_of_heap hb2]; rfl
 have f1 : w2.frozen? ⟨b, 1, none⟩ = false := Lib.frozen_of_heap hb2 1
 obtain ⟨ao, n', cap, rfl⟩ : ∃ ao n' cap, v' = .slice ao n' cap := by
  rcases hown'.2 with ⟨hv, _⟩ | ⟨g, cap, cur, hv, _⟩
  ·exact ⟨_, _, _, hv⟩
  ·exact ⟨_, _, _, hv⟩
 go_wp2
 go_ret
 refine ⟨rfl, ?_, ?_⟩
 ·exact Lib.BuilderAt.put (T := 130) (e := 5) hB hb2 (bs' := bs ++ [.int .u8 x]) (by simpa using hown') (by decide)
 ·exact ((hb1.alloc (by omega) (.cells #[.int .u8 x] 5)).grown hgrow (by simp; omega) (fun k hk => (hown.lt k hk).1)).setCell (p := ⟨b, 1, none⟩) hB _
theorem row_three {w : World} {g : Nat} {a b d : Int} (h : w.heap[g]? = some (.cells #[.int .i64 a, .int .i64 b, .int .i64 d] 3 (0, 0))) : V.Row w (g + 1) (some ⟨g, 0, none⟩) [a, b, d] := fun _ => by
 refine ⟨_, rfl, by show g < g + 1; omega, fun j x hx => ?_⟩
 have hj : j < 3 := (List.getElem?_eq_some_iff.1 hx).1
 rcases (show j = 0 ∨ j = 1 ∨ j = 2 by omega) with rfl | rfl | rfl
 ·have e : a = x := by simpa using hx
  subst e; exact (cell_of h 0).trans rfl
 ·have e : b = x := by simpa using hx
  subst e; exact (cell_of h 1).trans rfl
 ·have e : d = x := by simpa using hx
  subst e; exact (cell_of h 2).trans rfl
theorem encEP_any (x : Ent) (A : Option Addr) (c : Nat) (A' : Option Addr) (c' : Nat) (w : World) (L : Laid w) (h : V.Row w w.heap.size A x.incs) (hM : Msgs w w.heap.size A' x.msgs) (hil : x.incs.length ≤ maxLen) (hl : x.msgs.length ≤ maxLen) (hd : ∀ m ∈ x.msgs, m.data.size ≤ maxLen) :
  Calls Tryz.prog 49 #[ev x.t x.ep x.mem (.slice A x.incs.length c) (.slice A' x.msgs.length c')] w fun e w' => e = .returned (.tuple #[.string (txt (encTE x)), .int .i64 (encEE x)]) ∧ Below w.heap.size w w' := by
 have b1 := Joins.below_alloc1 w (.cells #[.int .i64 x.t, .int .i64 x.ep, .int .i64 x.mem, .slice A x.incs.length c, .slice A' x.msgs.length c'] 37)
 have e1 := EntAt.new w x.t x.ep x.mem (.slice A x.incs.length c) (.slice A' x.msgs.length c')
 have L1 := L.below b1
 have r1 := (h.below b1 (Nat.le_refl _)).more b1.size
 have m1 := (hM.below b1 (Nat.le_refl _)).more b1.size
 have cr := rightEP_any x A c A' c' _ L1 r1 m1 hil hl hd
 have ni := hil
 have nl := hl
 unfold maxLen at ni nl
 generalize hg : w.heap.size = b at *
 cases hr : rightE x
 ·rw [hr] at cr
  rw [show encTE x = [] by unfold encTE; rw [hr]; rfl, show encEE x = 1 by unfold encEE; rw [hr]; rfl]
  obtain ⟨t, ep, mem, incs, l⟩ := x
  simp only at *
  generalize hW : w.alloc (.cells #[.int .i64 t, .int .i64 ep, .int .i64 mem, .slice A incs.length c, .slice A' l.length c'] 37) = W at *
  obtain ⟨y0, y1, y2, y3, y4⟩ := e1.cells
  have HB := hid b1; clear b1 r1 m1 h hM hil hl hd hr L L1
  go_enter Tryz.func49, Tryz.ntmps49
  go_wp2_with fail; refine cr.mono ?_; rintro e w1 ⟨rfl, b2⟩
  clear hW y0 y1 y2 y3 y4
  go_wp2_with fail
  go_ret2
  exact ⟨rfl, HB.out.trans (b2.mono (by have := HB.out.size; rw [hg] at this; exact this))⟩
 ·rw [hr] at cr
  rw [show encTE x = encEnt x by unfold encTE; rw [hr]; rfl, show encEE x = 0 by unfold encEE; rw [hr]; rfl]
  have h16 := rightE_msgs hr
  have hi16 := rightE_incs hr
  have heach := rightE_each hr
  obtain ⟨ht, hep, hm0, hm1, -, hal, -, -⟩ := (rightE_iff x).1 hr
  have hsm := smalls_mem hal
  obtain ⟨T, hT⟩ : ∃ T, T = encEnt x := ⟨_, rfl⟩
  rw [← hT]
  unfold encEnt at hT
  obtain ⟨t, ep, mem, incs, l⟩ := x
  simp only at *
  generalize hW : w.alloc (.cells #[.int .i64 t, .int .i64 ep, .int .i64 mem, .slice A incs.length c, .slice A' l.length c'] 37) = W at *
  obtain ⟨y0, y1, y2, y3, y4⟩ := e1.cells
  have HE := hid e1; clear e1
  have HB := hid b1; clear b1
  have HRW := hid r1; clear r1
  have HMW := hid m1; clear m1 h hM hil hl
  have HLW := hid L1; clear L1 L
  have HT := hid hT; clear hT
  have P1 := hid (fun W' g hgg => pairs_any (some ⟨g, 0, none⟩) 3 (g + 1) [t, ep, mem] W' (row_three hgg) (by have := (Array.getElem?_eq_some_iff.1 hgg).1; omega) (by simp) (by
   intro n hn
   simp only [List.mem_cons, List.not_mem_nil, or_false] at hn
   rcases hn with rfl | rfl | rfl <;> omega))
  have P2 := hid (fun W' (hG : Below W.heap.size W W') => pairs_any A c W.heap.size incs W' (HRW.out.below hG (Nat.le_refl _)) hG.size (by omega) (fun n hn => by have := hsm n hn; omega))
  have HEA := hid heach; clear heach hsm hal
  have HD := hid hd; clear hd
  have hH6 : (twosL [t, ep, mem]).length = 6 := rfl
  generalize hH : twosL [t, ep, mem] = H at *
  have HH6 := hid hH6; clear hH6 hH
  go_enter Tryz.func49, Tryz.ntmps49
  go_wp2_with fail; refine cr.mono ?_; rintro e w1 ⟨rfl, b2⟩
  clear hW y0 y1 y2 y3 y4
  have HLE : Hid (b ≤ W.heap.size) := hid (by have := HB.out.size; rw [hg] at this; exact this)
  have hB3 := b2.trans ((Joins.below_alloc1 w1 (.cells #[.pointer none, .slice none 0 0] 130)).mono b2.size)
  have hbk : (w1.alloc (.cells #[.pointer none, .slice none 0 0] 130)).heap[w1.heap.size]? = some (.cells #[.pointer none, .slice none 0 0] 130 (0, 0)) := World.alloc_heap_new w1 _
  have hbld : Lib.IsBuilder 130 5 w1.heap.size w1.heap.size (Lib.byteCells []) (w1.alloc (.cells #[.pointer none, .slice none 0 0] 130)) := .inl ⟨Nat.le_refl _, _, hbk, World.ownsRow_nil _ _ _ _, by simp [Value.ownBlock]⟩
  go_upto_region 4 with (fail)
  have HWB : Hid (W.heap.size ≤ w1.heap.size) := hid b2.size
  have HG3 := hid hB3; clear hB3 b2 hbk
  have HBL := hid hbld; clear hbld
  have hq : w1.heap.size ≤ (w1.alloc (.cells #[.pointer none, .slice none 0 0] 130)).heap.size := by simp
  have HQ := hid hq; clear hq
  generalize w1.alloc (.cells #[.pointer none, .slice none 0 0] 130) = W3 at *
  generalize w1.heap.size = g at *
  obtain ⟨y0, y1, y2, y3, y4⟩ := (HE.out.on HG3.out).cells
  have hgg := heap_alloc_new W3 (.cells #[.int .i64 t, .int .i64 ep, .int .i64 mem] 3)
  have hb4 := Joins.below_alloc1 W3 (.cells #[.int .i64 t, .int .i64 ep, .int .i64 mem] 3)
  have HGG := hid hgg; clear hgg
  have HB4 := hid hb4; clear hb4
  go_wp2_with fail
  refine (P1.out _ _ HGG.out).mono ?_; rintro e w5 ⟨rfl, b5⟩
  have hb5 := HB4.out.trans (b5.mono HB4.out.size)
  have HBL5 : Hid (Lib.IsBuilder 130 5 g g (Lib.byteCells []) w5) := hid (HBL.out.imp (fun h => builderAt_on h hb5) (fun h => builderAt_on h hb5))
  have HG5 := hid (HG3.out.trans (hb5.mono HG3.out.size))
  have HQ5 : Hid (g ≤ w5.heap.size) := hid (Nat.le_trans HQ.out hb5.size)
  clear b5 hb5 HB4 HGG HBL HQ y0 y1 y2 y3 y4 HG3
  go_wp2_with fail
  refine (writeString_any g g (Lib.byteCells []) (txt H) _ HBL5.out (by rw [lib_byteCells_length, txt_size, HH6.out]; decide) HQ5.out).mono ?_; rintro e w6 ⟨rfl, h6, b6, -⟩
  have e6 : Lib.byteCells [] ++ Lib.strCells (txt H) = Lib.byteCells H := rfl
  rw [e6] at h6
  have HBL6 := hid h6; clear h6 e6 HBL5
  have HG6 := hid (HG5.out.trans (b6.mono HWB.out))
  have HQ6 : Hid (g ≤ w6.heap.size) := hid (Nat.le_trans HQ5.out b6.size)
  clear b6 HQ5 HG5
  obtain ⟨y0, y1, y2, y3, y4⟩ := (HE.out.on HG6.out).cells
  go_wp2_with fail
  refine (P2.out _ HG6.out).mono ?_; rintro e w7 ⟨rfl, b7⟩
  have HBL7 : Hid (Lib.IsBuilder 130 5 g g (Lib.byteCells H) w7) := hid (.inr (builderAt_on HBL6.out b7))
  have HG7 := hid (HG6.out.trans (b7.mono HG6.out.size))
  have HQ7 : Hid (g ≤ w7.heap.size) := hid (Nat.le_trans HQ6.out b7.size)
  clear b7 HBL6 HQ6 HG6 y0 y1 y2 y3 y4 P1 P2
  go_wp2_with fail
  refine (writeString_any g g (Lib.byteCells H) (txt (twosL incs)) _ HBL7.out (by rw [lib_byteCells_length, txt_size, HH6.out, twosL_length]; omega) HQ7.out).mono ?_; rintro e w8 ⟨rfl, h8, b8, -⟩
  have e8 : Lib.byteCells H ++ Lib.strCells (txt (twosL incs)) = Lib.byteCells (H ++ twosL incs) := (byteCells_append _ _).symm
  rw [e8] at h8
  have HBL8 := hid h8; clear h8 e8 HBL7
  have HG8 := hid (HG7.out.trans (b8.mono HWB.out))
  have HQ8 : Hid (g ≤ w8.heap.size) := hid (Nat.le_trans HQ7.out b8.size)
  clear b8 HQ7 HG7
  obtain ⟨y0, y1, y2, y3, y4⟩ := (HE.out.on HG8.out).cells
  have hoc : ((octet (l.length : Int)).toNat : Int) = l.length := by rw [octet_nat]; omega
  have HOC := hid hoc; clear hoc
  have hPl : (H ++ twosL incs ++ [octet (l.length : Int)]).length ≤ 39 := by
   rw [List.length_append, List.length_append, HH6.out, twosL_length]; simp; omega
  have HPL := hid hPl; clear hPl
  go_wp2_with fail
  refine (writeByte_any g g (Lib.byteCells (H ++ twosL incs)) _ _ (.inr HBL8.out) (by rw [lib_byteCells_length, List.length_append, HH6.out, twosL_length]; omega) HQ8.out).mono ?_; rintro e w9 ⟨rfl, h9, b9⟩
  have e9 : Lib.byteCells (H ++ twosL incs) ++ [.int .u8 (l.length : Int)] = Lib.byteCells (H ++ twosL incs ++ [octet (l.length : Int)]) := by
   rw [byteCells_append (H ++ twosL incs)]
   show _ = _ ++ [Value.int .u8 ((octet (l.length : Int)).toNat : Int)]
   rw [HOC.out]
  rw [e9] at h9
  have HBL9 := hid h9; clear h9 e9 HBL8
  have HG9 := hid (HG8.out.trans (b9.mono HWB.out))
  have HQ9 : Hid (g ≤ w9.heap.size) := hid (Nat.le_trans HQ8.out b9.size)
  clear b9 HQ8 HG8 y0 y1 y2 y3 y4
  obtain ⟨y0, y1, y2, y3, y4⟩ := (HE.out.on HG9.out).cells
  have hfin : H ++ twosL incs ++ [octet (l.length : Int)] ++ catL l = T := HT.out.symm
  have hcat : H ++ twosL incs ++ [octet (l.length : Int)] = H ++ twosL incs ++ [octet (l.length : Int)] ++ catL (l.take 0) := by simp [catL]
  generalize H ++ twosL incs ++ [octet (l.length : Int)] = P at *
  have HFIN := hid hfin; clear hfin
  rw [hcat] at HBL9
  clear hcat HOC
  go_wp2_with fail
  go_loopw [6, 7, 8, 33] (fun _ _ _ ix wr => ∃ k : Nat, k ≤ l.length ∧ ix = .int .i64 k ∧ Lib.BuilderAt 130 5 g g (.pointer (some ⟨g, 0, none⟩)) (Lib.byteCells (P ++ catL (l.take k))) wr ∧ g ≤ wr.heap.size ∧ Below W.heap.size W wr) (fun _ _ _ ix _ => l.length - (intOf ix).toNat)
  case atStart => exact ⟨0, by omega, rfl, HBL9.out, HQ9.out, HG9.out⟩
  case round =>
   obtain ⟨k, hk, rfl, hbl, hqr, hb⟩ := hrel
   have HBLR := hid hbl; clear hbl
   have HQR := hid hqr; clear hqr
   have HBR := hid hb; clear hb y0 y1 y2 y3 y4
   obtain ⟨y0, y1, y2, y3, y4⟩ := (HE.out.on HBR.out).cells
   by_cases hlt : k < l.length
   ·obtain ⟨m, hm⟩ : ∃ m, l[k]? = some m := ⟨_, List.getElem?_eq_getElem hlt⟩
    obtain ⟨ad, rfl, _, hcc⟩ := HMW.out.below HBR.out (Nat.le_refl _) (by omega)
    have hmr := HEA.out m (List.mem_of_getElem? hm)
    have ce := fun W' L' => encP_any m W' L' (HD.out m (List.mem_of_getElem? hm))
    rw [encT_right hmr, encE_right hmr] at ce
    have hlen : (Lib.byteCells (P ++ catL (l.take k))).length + (txt (encL m)).size ≤ 1000 := by
     have h1 := catL_take_le HEA.out h16 k
     have h2 := HPL.out
     have h3 := encL_length hmr
     have h4 := rightM_data hmr
     rw [lib_byteCells_length, txt_size, List.length_append]; omega
    have hnx : Lib.byteCells (P ++ catL (l.take k)) ++ Lib.strCells (txt (encL m)) = Lib.byteCells (P ++ catL (l.take (k + 1))) := by
     rw [strCells_txt, ← byteCells_append, catL_take hm, List.append_assoc]
    have HLEN := hid hlen; clear hlen
    have HNX := hid hnx; clear hnx
    have hbn := Joins.below_alloc1 wr (.cells (mc m) 109)
    have hM1 : MsgAt (wr.alloc (.cells (mc m) 109)) wr.heap.size m := heap_alloc_new wr _
    have HBL1 := hid (builderAt_on HBLR.out hbn)
    have HB1 := hid (HBR.out.trans (hbn.mono HBR.out.size))
    have HQ1 : Hid (g ≤ (wr.alloc (.cells (mc m) 109)).heap.size) := hid (Nat.le_trans HQR.out hbn.size)
    have HM1 := hid hM1; clear hM1 hbn HBLR
    obtain ⟨x0, x1, x2, x3, x4, x5, x6⟩ := hcc k m hm
    obtain ⟨me, mn, ms, mi, mq, mu, md⟩ := m
    simp only [mv, mc] at *
    clear hcc hm hmr
    go_upto_region 10 with (fail)
    generalize wr.alloc (.cells #[.bool me, .int .i64 mn, .int .i64 ms, .int .i64 mi, .int .i64 mq, .int .i64 mu, .string md] 109) = W1 at *
    generalize wr.heap.size = gm at *
    clear x0 x1 x2 x3 x4 x5 x6 y0 y1 y2 y3 y4
    obtain ⟨_, x0, x1, x2, x3, x4, x5, x6⟩ := Holds.of_blk HM1.out
    simp only at x0 x1 x2 x3 x4 x5 x6
    generalize encL ⟨me, mn, ms, mi, mq, mu, md⟩ = EM at *
    go_wp2_with fail; refine (ce _ (HLW.out.below HB1.out)).mono ?_; rintro e w2 ⟨rfl, b2⟩
    have HBL2 := hid (builderAt_on HBL1.out b2)
    have HB2 := hid (HB1.out.trans (b2.mono HB1.out.size))
    have HQ2 : Hid (g ≤ w2.heap.size) := hid (Nat.le_trans HQ1.out b2.size)
    clear b2 HBL1 HB1 HQ1 x0 x1 x2 x3 x4 x5 x6 HM1
    go_wp2_with fail; refine (writeString_any g g _ (txt EM) _ (.inr HBL2.out) HLEN.out HQ2.out).mono ?_; rintro e w3 ⟨rfl, h3, b3, -⟩
    rw [HNX.out] at h3
    have HBL3 := hid h3; clear h3
    have HB3 := hid (HB2.out.trans (b3.mono HWB.out))
    have HQ3 : Hid (g ≤ w3.heap.size) := hid (Nat.le_trans HQ2.out b3.size)
    clear b3
    go_wp2_with fail
    go_roundw
    case rel => exact ⟨k + 1, by omega, by go_num, HBL3.out, HQ3.out, HB3.out⟩
    case measure => simp [intOf]; omega
   ·have ek : k = l.length := by omega
    subst ek
    have hbl := HBLR.out
    rw [List.take_length, HFIN.out] at hbl
    have HBLF := hid hbl; clear hbl HBLR
    go_wp2_with fail
    refine (Builder_String_any_k g g T _ (Lib.IsBuilderF.of (.inr HBLF.out)) HQR.out).mono ?_; rintro e w3 ⟨rfl, -, b3, -⟩
    have HB3 := hid (HBR.out.trans (b3.mono HWB.out)); clear b3
    go_wp2_with fail
    go_ret2
    exact ⟨rfl, HB.out.trans (HB3.out.mono HLE.out)⟩
end Go.Proofs.YtmmbnjkdknnidaaGreatDoor

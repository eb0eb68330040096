/-
  Layer 9: the law BusHonest, a round of its loop.
-/
import Derived.Test.YtmmbnjkdknnidaaGreatDoorBusHonJV
set_option maxHeartbeats 8000000
namespace Go.Proofs.YtmmbnjkdknnidaaGreatDoor
open Lib (hid)
open Go.RowKit Go.Shelf
set_option maxRecDepth 1000000 in
def HonI (S : ByteArray) (dev win : Int) (g gL : Nat) (c0 c1 c2 c3 c4 c8 c9 c11 c18 c27 c28 c29 c30 c31 c32 c33 c34 c35 c36 c37 c38 c39 c40 c41 c42 c43 c44 c45 c46 c47 c48 c49 c50 : Value) (X0 : World) (a : Act) (w' : World) : Prop := ∃ u14 u20 u21 u22 u23 u24 u26 u53 u54 u55 u56 u57 u58 u59 u60 u61 u62 u63 u64 u65 u66 u67 u68 u69 u70 u71 u72 u73 u74 u75 u76 u77 u78 u79 u80 u81 u82 u83 u84 u85 u86 u87 u88 u89 u90 u91 u92 u93 u94 u95 u96 u97 u98 u99 u100 u101 u102 u103 u104 u105 u106 u107 u108 u109 u110 u111 u112 u113 u114 u115 u116 u117 u118 u119 u120 u121 u122 u123 u124 u125 u126 u127 u128 u129 u130 u131 u132 u133 u134 u135 : Value, (∃ k : Nat, k ≤ 2 ∧ u53 = .int .i64 k ∧ Below X0.heap.size X0 w') ∧ a = ⟨#[c0, c1, c2, c3, c4, .int .i64 dev, .int .i64 win, undef, c8, c9, undef, c11, undef, undef, u14, .bool true, .pointer (some ⟨g, 0, none⟩), .string S, c18, undef, u20, u21, u22, u23, u24, undef, u26, c27, c28, c29, c30, c31, c32, c33, c34, c35, c36, c37, c38, c39, c40, c41, c42, c43, c44, c45, c46, c47, c48, c49, c50, .slice (some ⟨gL, 0, none⟩) 2 2, .int .i64 2, u53, u54, u55, u56, u57, u58, u59, u60, u61, u62, u63, u64, u65, u66, u67, u68, u69, u70, u71, u72, u73, u74, u75, u76, u77, u78, u79, u80, u81, u82, u83, u84, u85, u86, u87, u88, u89, u90, u91, u92, u93, u94, u95, u96, u97, u98, u99, u100, u101, u102, u103, u104, u105, u106, u107, u108, u109, u110, u111, u112, u113, u114, u115, u116, u117, u118, u119, u120, u121, u122, u123, u124, u125, u126, u127, u128, u129, u130, u131, u132, u133, u134, u135, undef], []⟩
def honMu (a : Act) (_ : World) : Nat := 2 - (intOf (a.tmps.getD 53 undef)).toNat
set_option maxRecDepth 1000000 in
def RG (Q0 : Exit → Act → World → Prop) (k : Nat) (wr : World) (S : ByteArray) (dev win : Int) (g gL : Nat) (c0 c1 c2 c3 c4 c8 c9 c11 c18 c27 c28 c29 c30 c31 c32 c33 c34 c35 c36 c37 c38 c39 c40 c41 c42 c43 c44 c45 c46 c47 c48 c49 c50 : Value) (X0 : World) (u14 u20 u21 u22 u23 u24 u26 u54 u55 u56 u57 u58 u59 u60 u61 u62 u63 u64 u65 u66 u67 u68 u69 u70 u71 u72 u73 u74 u75 u76 u77 u78 u79 u80 u81 u82 u83 u84 u85 u86 u87 u88 u89 u90 u91 u92 u93 u94 u95 u96 u97 u98 u99 u100 u101 u102 u103 u104 u105 u106 u107 u108 u109 u110 u111 u112 u113 u114 u115 u116 u117 u118 u119 u120 u121 u122 u123 u124 u125 u126 u127 u128 u129 u130 u131 u132 u133 u134 u135 : Value) : Prop :=
 Code.wp Tryz.prog honBody (Exit.then (fun a' w'' => HonI S dev win g gL c0 c1 c2 c3 c4 c8 c9 c11 c18 c27 c28 c29 c30 c31 c32 c33 c34 c35 c36 c37 c38 c39 c40 c41 c42 c43 c44 c45 c46 c47 c48 c49 c50 X0 a' w'' ∧ honMu a' w'' < honMu ⟨#[c0, c1, c2, c3, c4, .int .i64 dev, .int .i64 win, undef, c8, c9, undef, c11, undef, undef, u14, .bool true, .pointer (some ⟨g, 0, none⟩), .string S, c18, undef, u20, u21, u22, u23, u24, undef, u26, c27, c28, c29, c30, c31, c32, c33, c34, c35, c36, c37, c38, c39, c40, c41, c42, c43, c44, c45, c46, c47, c48, c49, c50, .slice (some ⟨gL, 0, none⟩) 2 2, .int .i64 2, .int .i64 k, u54, u55, u56, u57, u58, u59, u60, u61, u62, u63, u64, u65, u66, u67, u68, u69, u70, u71, u72, u73, u74, u75, u76, u77, u78, u79, u80, u81, u82, u83, u84, u85, u86, u87, u88, u89, u90, u91, u92, u93, u94, u95, u96, u97, u98, u99, u100, u101, u102, u103, u104, u105, u106, u107, u108, u109, u110, u111, u112, u113, u114, u115, u116, u117, u118, u119, u120, u121, u122, u123, u124, u125, u126, u127, u128, u129, u130, u131, u132, u133, u134, u135, undef], []⟩ wr) Q0) ⟨#[c0, c1, c2, c3, c4, .int .i64 dev, .int .i64 win, undef, c8, c9, undef, c11, undef, undef, u14, .bool true, .pointer (some ⟨g, 0, none⟩), .string S, c18, undef, u20, u21, u22, u23, u24, undef, u26, c27, c28, c29, c30, c31, c32, c33, c34, c35, c36, c37, c38, c39, c40, c41, c42, c43, c44, c45, c46, c47, c48, c49, c50, .slice (some ⟨gL, 0, none⟩) 2 2, .int .i64 2, .int .i64 k, u54, u55, u56, u57, u58, u59, u60, u61, u62, u63, u64, u65, u66, u67, u68, u69, u70, u71, u72, u73, u74, u75, u76, u77, u78, u79, u80, u81, u82, u83, u84, u85, u86, u87, u88, u89, u90, u91, u92, u93, u94, u95, u96, u97, u98, u99, u100, u101, u102, u103, u104, u105, u106, u107, u108, u109, u110, u111, u112, u113, u114, u115, u116, u117, u118, u119, u120, u121, u122, u123, u124, u125, u126, u127, u128, u129, u130, u131, u132, u133, u134, u135, undef], []⟩ wr
section
variable {X : Fr} {A1 A2 : Option Addr} {k1 k2 z0 k : Nat} {w wr X0 : World} {L2 : List (Int × Int × Int)} {Q0 : Exit → Act → World → Prop} {S : ByteArray} {dev win : Int} {g gL : Nat} {c0 c1 c2 c3 c4 c8 c9 c11 c18 c27 c28 c29 c30 c31 c32 c33 c34 c35 c36 c37 c38 c39 c40 c41 c42 c43 c44 c45 c46 c47 c48 c49 c50 u14 u20 u21 u22 u23 u24 u26 u53 u54 u55 u56 u57 u58 u59 u60 u61 u62 u63 u64 u65 u66 u67 u68 u69 u70 u71 u72 u73 u74 u75 u76 u77 u78 u79 u80 u81 u82 u83 u84 u85 u86 u87 u88 u89 u90 u91 u92 u93 u94 u95 u96 u97 u98 u99 u100 u101 u102 u103 u104 u105 u106 u107 u108 u109 u110 u111 u112 u113 u114 u115 u116 u117 u118 u119 u120 u121 u122 u123 u124 u125 u126 u127 u128 u129 u130 u131 u132 u133 u134 u135 : Value}
set_option maxRecDepth 1000000 in
theorem hon_round (HTX : Hid (SamesX X)) (HZX : Hid SamesZ)
  (HLL : Hid (∀ W, Below z0 w W → Laid W))
  (CH : Hid (∀ (k a m dev win : Int) (W : World), Laid W → Calls Tryz.prog 34 #[.string S, flt k a m, .int .i64 dev, .int .i64 win] W (HearPost (hearV (passS S k a m) (passB k a m) dev win) (hearF (passS S k a m) (passB k a m) dev win) W)))
  (HON : Hid (∀ (k a m : Int), ((hearV (passS S k a m) (passB k a m) dev win = 1 ∧ hearF (passS S k a m) (passB k a m) dev win = X) ∨ ((hearV (passS S k a m) (passB k a m) dev win = 0 ∨ hearV (passS S k a m) (passB k a m) dev win = 2) ∧ hearF (passS S k a m) (passB k a m) dev win = zeroFr)) ∧
   (hearV (passS S k a m) (passB k a m) dev win = 1 → hearV (passS S k a m) (passB k a m) 0 0 = 1) ∧ (k = 0 → mayB k a m = true → hearV (passS S k a m) (passB k a m) 0 0 = 1)))
  (HON0 : Hid (∀ (k a m : Int), (hearV (passS S k a m) (passB k a m) 0 0 = 1 ∧ hearF (passS S k a m) (passB k a m) 0 0 = X) ∨ ((hearV (passS S k a m) (passB k a m) 0 0 = 0 ∨ hearV (passS S k a m) (passB k a m) 0 0 = 2) ∧ hearF (passS S k a m) (passB k a m) 0 0 = zeroFr)))
  (HT : Hid (Trips X0 gL L2)) (HX4 : Hid (Box7 X0 g X A1 k1 A2 k2)) (HQ4 : Hid (Below z0 w X0)) (HL4 : Hid (z0 ≤ X0.heap.size)) (HLN : Hid (L2.length = 2))
  (HE : Hid (∀ u14 u20 u21 u22 u23 u24 u26 u53 u54 u55 u56 u57 u58 u59 u60 u61 u62 u63 u64 u65 u66 u67 u68 u69 u70 u71 u72 u73 u74 u75 u76 u77 u78 u79 u80 u81 u82 u83 u84 u85 u86 u87 u88 u89 u90 u91 u92 u93 u94 u95 u96 u97 u98 u99 u100 u101 u102 u103 u104 u105 u106 u107 u108 u109 u110 u111 u112 u113 u114 u115 u116 u117 u118 u119 u120 u121 u122 u123 u124 u125 u126 u127 u128 u129 u130 u131 u132 u133 u134 u135 w'', Below z0 w w'' → Q0 (.exit 0) ⟨#[c0, c1, c2, c3, c4, .int .i64 dev, .int .i64 win, undef, c8, c9, undef, c11, undef, undef, u14, .bool true, .pointer (some ⟨g, 0, none⟩), .string S, c18, undef, u20, u21, u22, u23, u24, undef, u26, c27, c28, c29, c30, c31, c32, c33, c34, c35, c36, c37, c38, c39, c40, c41, c42, c43, c44, c45, c46, c47, c48, c49, c50, .slice (some ⟨gL, 0, none⟩) 2 2, .int .i64 2, u53, u54, u55, u56, u57, u58, u59, u60, u61, u62, u63, u64, u65, u66, u67, u68, u69, u70, u71, u72, u73, u74, u75, u76, u77, u78, u79, u80, u81, u82, u83, u84, u85, u86, u87, u88, u89, u90, u91, u92, u93, u94, u95, u96, u97, u98, u99, u100, u101, u102, u103, u104, u105, u106, u107, u108, u109, u110, u111, u112, u113, u114, u115, u116, u117, u118, u119, u120, u121, u122, u123, u124, u125, u126, u127, u128, u129, u130, u131, u132, u133, u134, u135, undef], []⟩ w''))
  (hk : k ≤ 2) (hb : Below X0.heap.size X0 wr) :
  @RG Q0 k wr S dev win g gL c0 c1 c2 c3 c4 c8 c9 c11 c18 c27 c28 c29 c30 c31 c32 c33 c34 c35 c36 c37 c38 c39 c40 c41 c42 c43 c44 c45 c46 c47 c48 c49 c50 X0 u14 u20 u21 u22 u23 u24 u26 u54 u55 u56 u57 u58 u59 u60 u61 u62 u63 u64 u65 u66 u67 u68 u69 u70 u71 u72 u73 u74 u75 u76 u77 u78 u79 u80 u81 u82 u83 u84 u85 u86 u87 u88 u89 u90 u91 u92 u93 u94 u95 u96 u97 u98 u99 u100 u101 u102 u103 u104 u105 u106 u107 u108 u109 u110 u111 u112 u113 u114 u115 u116 u117 u118 u119 u120 u121 u122 u123 u124 u125 u126 u127 u128 u129 u130 u131 u132 u133 u134 u135 := by
 have HB := hid hb; clear hb
 have HBz := hid (HQ4.out.trans (HB.out.mono HL4.out))
 have HLz := hid (Nat.le_trans HL4.out HB.out.size)
 unfold RG
 conv => arg 2; whnf
 by_cases hlt : k < 2
 ·have hkI : (k : Int) < 2 := by omega
  obtain ⟨⟨ek, ea, em⟩, hf⟩ : ∃ f, L2[k]? = some f := ⟨_, List.getElem?_eq_getElem (by rw [HLN.out]; exact hlt)⟩
  obtain ⟨x0, x1, x2⟩ := (HT.out.on HB.out) k _ hf
  simp only at x0 x1 x2
  obtain ⟨hh1, hh2, hh3⟩ := HON.out ek ea em
  have hh4 := HON0.out ek ea em
  have CH0 := hid (fun W L => CH.out ek ea em dev win W L)
  have CH1 := hid (fun W L => CH.out ek ea em 0 0 W L)
  generalize hearF (passS S ek ea em) (passB ek ea em) dev win = F0 at *
  generalize hearF (passS S ek ea em) (passB ek ea em) 0 0 = F1 at *
  generalize hearV (passS S ek ea em) (passB ek ea em) dev win = V0 at *
  generalize hearV (passS S ek ea em) (passB ek ea em) 0 0 = V1 at *
  have HH1 := hid hh1
  have HH2 := hid hh2
  have HH3 := hid hh3
  have HH4 := hid hh4
  have hfa := FltAt.new wr ek ea em
  have hb1 := Joins.below_alloc1 wr (.cells #[.int .i64 ek, .int .i64 ea, .int .i64 em] 61)
  have HFA := hid hfa
  have HB1 := hid (HB.out.trans (hb1.mono HB.out.size))
  have HBz1 := hid (HBz.out.trans (hb1.mono HLz.out))
  have HLz1 := hid (Nat.le_trans HLz.out hb1.size)
  have HX5 := hid ((HX4.out.on HB.out).on hb1)
  have CM := hid (fun W => may9_any ek ea em W)
  clear hf hh1 hh2 hh3 hh4 hfa hb1 CH HB HBz HLz
  go_upto_region 9 with fail
  generalize wr.alloc (.cells #[.int .i64 ek, .int .i64 ea, .int .i64 em] 61) = X1 at *
  generalize wr.heap.size = gf at *
  clear x0 x1 x2
  obtain ⟨y0, y1, y2⟩ := HFA.out.cells
  go_wp2_with fail; (refine (CH0.out _ (HLL.out _ HBz1.out)).mono ?_); rintro e v1 ⟨q6, P0, m0, P0', m0', rfl, hp0, he0⟩
  have a6 := Joins.below_alloc1 v1 (.cells #[.int .i64 F0.snd, .int .i64 F0.rnd, .int .i64 F0.inc, .int .i64 F0.term, .int .i64 F0.role, .int .i64 F0.vote, .int .i64 F0.hrd, .int .i64 F0.last, .int .i64 F0.lterm, .int .i64 F0.ack, .int .i64 F0.com, .int .i64 F0.prv, .int .i64 F0.pterm, .slice P0 F0.ps.length m0, .slice P0' F0.es.length m0'] 29)
  have q7 := q6.trans (a6.mono q6.size)
  have HZ := hid (Box7.new (f := F0) (c := m0) (c' := m0') hp0 he0)
  have HB2 := hid (HB1.out.trans (q7.mono HB1.out.size))
  have HBz2 := hid (HBz1.out.trans (q7.mono HLz1.out))
  have HLz2 := hid (Nat.le_trans HLz1.out q7.size)
  have HX6 := hid (HX5.out.on q7)
  have HF6 := hid (HFA.out.on q7)
  simp only [fc] at HZ
  clear y0 y1 y2 a6 q6 q7 CH0 hp0 he0 HB1 HBz1 HLz1 HX5 HFA
  go_upto_region 10 with fail
  generalize (Value.tuple #[fv F0 (.slice P0 F0.ps.length m0) (.slice P0' F0.es.length m0'), .int .i64 V0]) = dd3
  generalize fv F0 (.slice P0 F0.ps.length m0) (.slice P0' F0.es.length m0') = dd4
  generalize v1.alloc (.cells #[.int .i64 F0.snd, .int .i64 F0.rnd, .int .i64 F0.inc, .int .i64 F0.term, .int .i64 F0.role, .int .i64 F0.vote, .int .i64 F0.hrd, .int .i64 F0.last, .int .i64 F0.lterm, .int .i64 F0.ack, .int .i64 F0.com, .int .i64 F0.prv, .int .i64 F0.pterm, .slice P0 F0.ps.length m0, .slice P0' F0.es.length m0'] 29) = X2 at *
  generalize v1.heap.size = gz at *
  obtain ⟨y0, y1, y2⟩ := HF6.out.cells
  go_wp2_with fail; (refine (CH1.out _ (HLL.out _ HBz2.out)).mono ?_); rintro e v2 ⟨q6, P1, m1, P1', m1', rfl, hp0, he0⟩
  have a6 := Joins.below_alloc1 v2 (.cells #[.int .i64 F1.snd, .int .i64 F1.rnd, .int .i64 F1.inc, .int .i64 F1.term, .int .i64 F1.role, .int .i64 F1.vote, .int .i64 F1.hrd, .int .i64 F1.last, .int .i64 F1.lterm, .int .i64 F1.ack, .int .i64 F1.com, .int .i64 F1.prv, .int .i64 F1.pterm, .slice P1 F1.ps.length m1, .slice P1' F1.es.length m1'] 29)
  have q7 := q6.trans (a6.mono q6.size)
  have HY := hid (Box7.new (f := F1) (c := m1) (c' := m1') hp0 he0)
  have HB3 := hid (HB2.out.trans (q7.mono HB2.out.size))
  have HBz3 := hid (HBz2.out.trans (q7.mono HLz2.out))
  have HLz3 := hid (Nat.le_trans HLz2.out q7.size)
  have HX7 := hid (HX6.out.on q7)
  have HZ7 := hid (HZ.out.on q7)
  have HF7 := hid (HF6.out.on q7)
  simp only [fc] at HY
  clear y0 y1 y2 a6 q6 q7 CH1 hp0 he0 HB2 HBz2 HLz2 HX6 HZ HF6
  go_upto_region 11 with fail
  generalize (Value.tuple #[fv F1 (.slice P1 F1.ps.length m1) (.slice P1' F1.es.length m1'), .int .i64 V1]) = dd5
  generalize fv F1 (.slice P1 F1.ps.length m1) (.slice P1' F1.es.length m1') = dd6
  generalize v2.alloc (.cells #[.int .i64 F1.snd, .int .i64 F1.rnd, .int .i64 F1.inc, .int .i64 F1.term, .int .i64 F1.role, .int .i64 F1.vote, .int .i64 F1.hrd, .int .i64 F1.last, .int .i64 F1.lterm, .int .i64 F1.ack, .int .i64 F1.com, .int .i64 F1.prv, .int .i64 F1.pterm, .slice P1 F1.ps.length m1, .slice P1' F1.es.length m1'] 29) = X3 at *
  generalize v2.heap.size = gy at *
  have HTw := hid (two_new (m0 := m0) (m0' := m0') (m1 := m1) (m1' := m1') HH1.out HH4.out HZ7.out.ps HZ7.out.es HY.out.ps HY.out.es)
  have hb1 := Joins.below_alloc1 X3 (.cells #[.int .i64 F0.snd, .int .i64 F0.rnd, .int .i64 F0.inc, .int .i64 F0.term, .int .i64 F0.role, .int .i64 F0.vote, .int .i64 F0.hrd, .int .i64 F0.last, .int .i64 F0.lterm, .int .i64 F0.ack, .int .i64 F0.com, .int .i64 F0.prv, .int .i64 F0.pterm, .slice P0 F0.ps.length m0, .slice P0' F0.es.length m0', .int .i64 V0, .int .i64 F1.snd, .int .i64 F1.rnd, .int .i64 F1.inc, .int .i64 F1.term, .int .i64 F1.role, .int .i64 F1.vote, .int .i64 F1.hrd, .int .i64 F1.last, .int .i64 F1.lterm, .int .i64 F1.ack, .int .i64 F1.com, .int .i64 F1.prv, .int .i64 F1.pterm, .slice P1 F1.ps.length m1, .slice P1' F1.es.length m1', .int .i64 V1] 70)
  have HB4 := hid (HB3.out.trans (hb1.mono HB3.out.size))
  have HBz4 := hid (HBz3.out.trans (hb1.mono HLz3.out))
  have HLz4 := hid (Nat.le_trans HLz3.out hb1.size)
  have HX8 := hid (HX7.out.on hb1)
  have HF8 := hid (HF7.out.on hb1)
  obtain ⟨t0, t1, t2, t3, t4, t5, t6, t7, t8, t9, t10, t11, t12, t13, t14⟩ := HZ7.out.fr.cells
  obtain ⟨s0, s1, s2, s3, s4, s5, s6, s7, s8, s9, s10, s11, s12, s13, s14⟩ := HY.out.fr.cells
  clear hb1
  go_wp2_with fail
  generalize X3.alloc (.cells #[.int .i64 F0.snd, .int .i64 F0.rnd, .int .i64 F0.inc, .int .i64 F0.term, .int .i64 F0.role, .int .i64 F0.vote, .int .i64 F0.hrd, .int .i64 F0.last, .int .i64 F0.lterm, .int .i64 F0.ack, .int .i64 F0.com, .int .i64 F0.prv, .int .i64 F0.pterm, .slice P0 F0.ps.length m0, .slice P0' F0.es.length m0', .int .i64 V0, .int .i64 F1.snd, .int .i64 F1.rnd, .int .i64 F1.inc, .int .i64 F1.term, .int .i64 F1.role, .int .i64 F1.vote, .int .i64 F1.hrd, .int .i64 F1.last, .int .i64 F1.lterm, .int .i64 F1.ack, .int .i64 F1.com, .int .i64 F1.prv, .int .i64 F1.pterm, .slice P1 F1.ps.length m1, .slice P1' F1.es.length m1', .int .i64 V1] 70) = X4 at *
  generalize X3.heap.size = gs at *
  clear t0 t1 t2 t3 t4 t5 t6 t7 t8 t9 t10 t11 t12 t13 t14 s0 s1 s2 s3 s4 s5 s6 s7 s8 s9 s10 s11 s12 s13 s14 HZ7 HY HX7 HF7 HB3 HBz3 HLz3
  refine honIn_loop HTX HZX HTw HX8 (hid ?_)
  intro v14 v26 v79 v80 v81 v82 v83 v84 v85 v86 v87 v88 v89 v90 v91 v92 v93 v94 v95 v96 v97 v98 v99 v100 v101 v102 v103 v104 v105 v106 v107 v108 v109 v110 v111 v112 v113 v114 v115 X5 hb5
  have HB5 := hid (HB4.out.trans (hb5.mono HB4.out.size))
  have HBz5 := hid (HBz4.out.trans (hb5.mono HLz4.out))
  have HF9 := hid (HF8.out.on hb5)
  clear hb5 HB4 HBz4 HLz4 HX8 HF8 HTw HTX HZX
  obtain ⟨y0, y1, y2⟩ := HF9.out.cells
  have key : (V0 = 1 ∧ V1 = 1) ∨ (V0 == 1) = false := by
   rcases HH1.out with ⟨h, -⟩ | ⟨h | h, -⟩
   ·exact .inl ⟨h, HH2.out h⟩
   ·exact .inr (by rw [h]; rfl)
   ·exact .inr (by rw [h]; rfl)
  have CMx := CM.out
  have HH3x := HH3.out
  clear CM HH1 HH2 HH3 HH4
  rcases key with ⟨rfl, rfl⟩ | hv0
  ·clear HH3x
   by_cases h0 : ek = 0
   ·subst h0
    generalize mayB 0 ea em = mb at CMx
    cases mb
    ·skip
     go_wp2_with fail
     refine (CMx _).mono ?_; rintro e v ⟨rfl, q⟩
     have HB6 := hid (HB5.out.trans (q.mono HB5.out.size))
     clear q y0 y1 y2
     go_wp2_with fail
     refine ⟨?_, by simp [honMu, intOf]; omega⟩
     unfold HonI
     refine ⟨_, _, _, _, _, _, _, _, _, _, _, _, _, _, _, _, _, _, _, _, _, _, _, _, _, _, _, _, _, _, _, _, _, _, _, _, _, _, _, _, _, _, _, _, _, _, _, _, _, _, _, _, _, _, _, _, _, _, _, _, _, _, _, _, _, _, _, _, _, _, _, _, _, _, _, _, _, _, _, _, _, _, _, _, _, _, _, _, _, _, ?_, rfl⟩
     exact ⟨k + 1, by omega, by go_num, HB6.out⟩
    ·skip
     go_wp2_with fail
     refine (CMx _).mono ?_; rintro e v ⟨rfl, q⟩
     have HB6 := hid (HB5.out.trans (q.mono HB5.out.size))
     clear q y0 y1 y2
     go_wp2_with fail
     refine ⟨?_, by simp [honMu, intOf]; omega⟩
     unfold HonI
     refine ⟨_, _, _, _, _, _, _, _, _, _, _, _, _, _, _, _, _, _, _, _, _, _, _, _, _, _, _, _, _, _, _, _, _, _, _, _, _, _, _, _, _, _, _, _, _, _, _, _, _, _, _, _, _, _, _, _, _, _, _, _, _, _, _, _, _, _, _, _, _, _, _, _, _, _, _, _, _, _, _, _, _, _, _, _, _, _, _, _, _, _, ?_, rfl⟩
     exact ⟨k + 1, by omega, by go_num, HB6.out⟩
   ·have hk0 : (ek == 0) = false := by simp [h0]
    go_wp2_with fail
    refine ⟨?_, by simp [honMu, intOf]; omega⟩
    unfold HonI
    refine ⟨_, _, _, _, _, _, _, _, _, _, _, _, _, _, _, _, _, _, _, _, _, _, _, _, _, _, _, _, _, _, _, _, _, _, _, _, _, _, _, _, _, _, _, _, _, _, _, _, _, _, _, _, _, _, _, _, _, _, _, _, _, _, _, _, _, _, _, _, _, _, _, _, _, _, _, _, _, _, _, _, _, _, _, _, _, _, _, _, _, _, ?_, rfl⟩
    exact ⟨k + 1, by omega, by go_num, HB5.out⟩
  ·by_cases h0 : ek = 0
   ·subst h0
    cases hm : mayB 0 ea em
    ·rw [hm] at CMx
     clear HH3x hm
     go_wp2_with fail
     refine (CMx _).mono ?_; rintro e v ⟨rfl, q⟩
     have HB6 := hid (HB5.out.trans (q.mono HB5.out.size))
     clear q y0 y1 y2
     go_wp2_with fail
     refine ⟨?_, by simp [honMu, intOf]; omega⟩
     unfold HonI
     refine ⟨_, _, _, _, _, _, _, _, _, _, _, _, _, _, _, _, _, _, _, _, _, _, _, _, _, _, _, _, _, _, _, _, _, _, _, _, _, _, _, _, _, _, _, _, _, _, _, _, _, _, _, _, _, _, _, _, _, _, _, _, _, _, _, _, _, _, _, _, _, _, _, _, _, _, _, _, _, _, _, _, _, _, _, _, _, _, _, _, _, _, ?_, rfl⟩
     exact ⟨k + 1, by omega, by go_num, HB6.out⟩
    ·rw [hm] at CMx
     have h1 := HH3x rfl hm
     subst h1
     clear HH3x hm
     go_wp2_with fail
     refine (CMx _).mono ?_; rintro e v ⟨rfl, q⟩
     have HB6 := hid (HB5.out.trans (q.mono HB5.out.size))
     clear q y0 y1 y2
     go_wp2_with fail
     refine ⟨?_, by simp [honMu, intOf]; omega⟩
     unfold HonI
     refine ⟨_, _, _, _, _, _, _, _, _, _, _, _, _, _, _, _, _, _, _, _, _, _, _, _, _, _, _, _, _, _, _, _, _, _, _, _, _, _, _, _, _, _, _, _, _, _, _, _, _, _, _, _, _, _, _, _, _, _, _, _, _, _, _, _, _, _, _, _, _, _, _, _, _, _, _, _, _, _, _, _, _, _, _, _, _, _, _, _, _, _, ?_, rfl⟩
     exact ⟨k + 1, by omega, by go_num, HB6.out⟩
   ·have hk0 : (ek == 0) = false := by simp [h0]
    clear HH3x
    go_wp2_with fail
    refine ⟨?_, by simp [honMu, intOf]; omega⟩
    unfold HonI
    refine ⟨_, _, _, _, _, _, _, _, _, _, _, _, _, _, _, _, _, _, _, _, _, _, _, _, _, _, _, _, _, _, _, _, _, _, _, _, _, _, _, _, _, _, _, _, _, _, _, _, _, _, _, _, _, _, _, _, _, _, _, _, _, _, _, _, _, _, _, _, _, _, _, _, _, _, _, _, _, _, _, _, _, _, _, _, _, _, _, _, _, _, ?_, rfl⟩
    exact ⟨k + 1, by omega, by go_num, HB5.out⟩
 ·have hkI : ¬ (k : Int) < 2 := by omega
  go_wp2_with fail
  exact HE.out _ _ _ _ _ _ _ _ _ _ _ _ _ _ _ _ _ _ _ _ _ _ _ _ _ _ _ _ _ _ _ _ _ _ _ _ _ _ _ _ _ _ _ _ _ _ _ _ _ _ _ _ _ _ _ _ _ _ _ _ _ _ _ _ _ _ _ _ _ _ _ _ _ _ _ _ _ _ _ _ _ _ _ _ _ _ _ _ _ _ _ HBz.out
set_option maxRecDepth 1000000 in
theorem hon_loop (HTX : Hid (SamesX X)) (HZX : Hid SamesZ)
  (HLL : Hid (∀ W, Below z0 w W → Laid W))
  (CH : Hid (∀ (k a m dev win : Int) (W : World), Laid W → Calls Tryz.prog 34 #[.string S, flt k a m, .int .i64 dev, .int .i64 win] W (HearPost (hearV (passS S k a m) (passB k a m) dev win) (hearF (passS S k a m) (passB k a m) dev win) W)))
  (HON : Hid (∀ (k a m : Int), ((hearV (passS S k a m) (passB k a m) dev win = 1 ∧ hearF (passS S k a m) (passB k a m) dev win = X) ∨ ((hearV (passS S k a m) (passB k a m) dev win = 0 ∨ hearV (passS S k a m) (passB k a m) dev win = 2) ∧ hearF (passS S k a m) (passB k a m) dev win = zeroFr)) ∧
   (hearV (passS S k a m) (passB k a m) dev win = 1 → hearV (passS S k a m) (passB k a m) 0 0 = 1) ∧ (k = 0 → mayB k a m = true → hearV (passS S k a m) (passB k a m) 0 0 = 1)))
  (HON0 : Hid (∀ (k a m : Int), (hearV (passS S k a m) (passB k a m) 0 0 = 1 ∧ hearF (passS S k a m) (passB k a m) 0 0 = X) ∨ ((hearV (passS S k a m) (passB k a m) 0 0 = 0 ∨ hearV (passS S k a m) (passB k a m) 0 0 = 2) ∧ hearF (passS S k a m) (passB k a m) 0 0 = zeroFr)))
  (HT : Hid (Trips X0 gL L2)) (HX4 : Hid (Box7 X0 g X A1 k1 A2 k2)) (HQ4 : Hid (Below z0 w X0)) (HL4 : Hid (z0 ≤ X0.heap.size)) (HLN : Hid (L2.length = 2))
  (HE : Hid (∀ u14 u20 u21 u22 u23 u24 u26 u53 u54 u55 u56 u57 u58 u59 u60 u61 u62 u63 u64 u65 u66 u67 u68 u69 u70 u71 u72 u73 u74 u75 u76 u77 u78 u79 u80 u81 u82 u83 u84 u85 u86 u87 u88 u89 u90 u91 u92 u93 u94 u95 u96 u97 u98 u99 u100 u101 u102 u103 u104 u105 u106 u107 u108 u109 u110 u111 u112 u113 u114 u115 u116 u117 u118 u119 u120 u121 u122 u123 u124 u125 u126 u127 u128 u129 u130 u131 u132 u133 u134 u135 w'', Below z0 w w'' → Q0 (.exit 0) ⟨#[c0, c1, c2, c3, c4, .int .i64 dev, .int .i64 win, undef, c8, c9, undef, c11, undef, undef, u14, .bool true, .pointer (some ⟨g, 0, none⟩), .string S, c18, undef, u20, u21, u22, u23, u24, undef, u26, c27, c28, c29, c30, c31, c32, c33, c34, c35, c36, c37, c38, c39, c40, c41, c42, c43, c44, c45, c46, c47, c48, c49, c50, .slice (some ⟨gL, 0, none⟩) 2 2, .int .i64 2, u53, u54, u55, u56, u57, u58, u59, u60, u61, u62, u63, u64, u65, u66, u67, u68, u69, u70, u71, u72, u73, u74, u75, u76, u77, u78, u79, u80, u81, u82, u83, u84, u85, u86, u87, u88, u89, u90, u91, u92, u93, u94, u95, u96, u97, u98, u99, u100, u101, u102, u103, u104, u105, u106, u107, u108, u109, u110, u111, u112, u113, u114, u115, u116, u117, u118, u119, u120, u121, u122, u123, u124, u125, u126, u127, u128, u129, u130, u131, u132, u133, u134, u135, undef], []⟩ w'')) :
  Code.wp Tryz.prog (Code.loop honBody) Q0 ⟨#[c0, c1, c2, c3, c4, .int .i64 dev, .int .i64 win, undef, c8, c9, undef, c11, undef, undef, u14, .bool true, .pointer (some ⟨g, 0, none⟩), .string S, c18, undef, u20, u21, u22, u23, u24, undef, u26, c27, c28, c29, c30, c31, c32, c33, c34, c35, c36, c37, c38, c39, c40, c41, c42, c43, c44, c45, c46, c47, c48, c49, c50, .slice (some ⟨gL, 0, none⟩) 2 2, .int .i64 2, .int .i64 0, u54, u55, u56, u57, u58, u59, u60, u61, u62, u63, u64, u65, u66, u67, u68, u69, u70, u71, u72, u73, u74, u75, u76, u77, u78, u79, u80, u81, u82, u83, u84, u85, u86, u87, u88, u89, u90, u91, u92, u93, u94, u95, u96, u97, u98, u99, u100, u101, u102, u103, u104, u105, u106, u107, u108, u109, u110, u111, u112, u113, u114, u115, u116, u117, u118, u119, u120, u121, u122, u123, u124, u125, u126, u127, u128, u129, u130, u131, u132, u133, u134, u135, undef], []⟩ X0 := by
 refine wp_loop (HonI S dev win g gL c0 c1 c2 c3 c4 c8 c9 c11 c18 c27 c28 c29 c30 c31 c32 c33 c34 c35 c36 c37 c38 c39 c40 c41 c42 c43 c44 c45 c46 c47 c48 c49 c50 X0) honMu ?_ (fun a wr hI => ?_)
 ·unfold HonI
  exact ⟨u14, u20, u21, u22, u23, u24, u26, .int .i64 0, u54, u55, u56, u57, u58, u59, u60, u61, u62, u63, u64, u65, u66, u67, u68, u69, u70, u71, u72, u73, u74, u75, u76, u77, u78, u79, u80, u81, u82, u83, u84, u85, u86, u87, u88, u89, u90, u91, u92, u93, u94, u95, u96, u97, u98, u99, u100, u101, u102, u103, u104, u105, u106, u107, u108, u109, u110, u111, u112, u113, u114, u115, u116, u117, u118, u119, u120, u121, u122, u123, u124, u125, u126, u127, u128, u129, u130, u131, u132, u133, u134, u135, ⟨0, by omega, rfl, Below.refl _ _⟩, rfl⟩
 ·unfold HonI at hI
  obtain ⟨u14, hI⟩ := hI
  obtain ⟨u20, hI⟩ := hI
  obtain ⟨u21, hI⟩ := hI
  obtain ⟨u22, hI⟩ := hI
  obtain ⟨u23, hI⟩ := hI
  obtain ⟨u24, hI⟩ := hI
  obtain ⟨u26, hI⟩ := hI
  obtain ⟨u53, hI⟩ := hI
  obtain ⟨u54, hI⟩ := hI
  obtain ⟨u55, hI⟩ := hI
  obtain ⟨u56, hI⟩ := hI
  obtain ⟨u57, hI⟩ := hI
  obtain ⟨u58, hI⟩ := hI
  obtain ⟨u59, hI⟩ := hI
  obtain ⟨u60, hI⟩ := hI
  obtain ⟨u61, hI⟩ := hI
  obtain ⟨u62, hI⟩ := hI
  obtain ⟨u63, hI⟩ := hI
  obtain ⟨u64, hI⟩ := hI
  obtain ⟨u65, hI⟩ := hI
  obtain ⟨u66, hI⟩ := hI
  obtain ⟨u67, hI⟩ := hI
  obtain ⟨u68, hI⟩ := hI
  obtain ⟨u69, hI⟩ := hI
  obtain ⟨u70, hI⟩ := hI
  obtain ⟨u71, hI⟩ := hI
  obtain ⟨u72, hI⟩ := hI
  obtain ⟨u73, hI⟩ := hI
  obtain ⟨u74, hI⟩ := hI
  obtain ⟨u75, hI⟩ := hI
  obtain ⟨u76, hI⟩ := hI
  obtain ⟨u77, hI⟩ := hI
  obtain ⟨u78, hI⟩ := hI
  obtain ⟨u79, hI⟩ := hI
  obtain ⟨u80, hI⟩ := hI
  obtain ⟨u81, hI⟩ := hI
  obtain ⟨u82, hI⟩ := hI
  obtain ⟨u83, hI⟩ := hI
  obtain ⟨u84, hI⟩ := hI
  obtain ⟨u85, hI⟩ := hI
  obtain ⟨u86, hI⟩ := hI
  obtain ⟨u87, hI⟩ := hI
  obtain ⟨u88, hI⟩ := hI
  obtain ⟨u89, hI⟩ := hI
  obtain ⟨u90, hI⟩ := hI
  obtain ⟨u91, hI⟩ := hI
  obtain ⟨u92, hI⟩ := hI
  obtain ⟨u93, hI⟩ := hI
  obtain ⟨u94, hI⟩ := hI
  obtain ⟨u95, hI⟩ := hI
  obtain ⟨u96, hI⟩ := hI
  obtain ⟨u97, hI⟩ := hI
  obtain ⟨u98, hI⟩ := hI
  obtain ⟨u99, hI⟩ := hI
  obtain ⟨u100, hI⟩ := hI
  obtain ⟨u101, hI⟩ := hI
  obtain ⟨u102, hI⟩ := hI
  obtain ⟨u103, hI⟩ := hI
  obtain ⟨u104, hI⟩ := hI
  obtain ⟨u105, hI⟩ := hI
  obtain ⟨u106, hI⟩ := hI
  obtain ⟨u107, hI⟩ := hI
  obtain ⟨u108, hI⟩ := hI
  obtain ⟨u109, hI⟩ := hI
  obtain ⟨u110, hI⟩ := hI
  obtain ⟨u111, hI⟩ := hI
  obtain ⟨u112, hI⟩ := hI
  obtain ⟨u113, hI⟩ := hI
  obtain ⟨u114, hI⟩ := hI
  obtain ⟨u115, hI⟩ := hI
  obtain ⟨u116, hI⟩ := hI
  obtain ⟨u117, hI⟩ := hI
  obtain ⟨u118, hI⟩ := hI
  obtain ⟨u119, hI⟩ := hI
  obtain ⟨u120, hI⟩ := hI
  obtain ⟨u121, hI⟩ := hI
  obtain ⟨u122, hI⟩ := hI
  obtain ⟨u123, hI⟩ := hI
  obtain ⟨u124, hI⟩ := hI
  obtain ⟨u125, hI⟩ := hI
  obtain ⟨u126, hI⟩ := hI
  obtain ⟨u127, hI⟩ := hI
  obtain ⟨u128, hI⟩ := hI
  obtain ⟨u129, hI⟩ := hI
  obtain ⟨u130, hI⟩ := hI
  obtain ⟨u131, hI⟩ := hI
  obtain ⟨u132, hI⟩ := hI
  obtain ⟨u133, hI⟩ := hI
  obtain ⟨u134, hI⟩ := hI
  obtain ⟨u135, hI⟩ := hI
  obtain ⟨⟨k, hk, rfl, hb⟩, rfl⟩ := hI
  exact hon_round HTX HZX HLL CH HON HON0 HT HX4 HQ4 HL4 HLN HE hk hb
end
end Go.Proofs.YtmmbnjkdknnidaaGreatDoor

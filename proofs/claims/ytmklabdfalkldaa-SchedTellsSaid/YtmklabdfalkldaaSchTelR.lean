/-
  The law SchedTells, its loop over three plans.
-/
import Derived.Test.YtmklabdfalkldaaSchTelD
import Derived.Test.YtmklabdfalkldaaSchTelA
import Derived.Test.YtmklabdfalkldaaSchTelB
import Derived.Deep.DeepCutAuto
namespace Go.Proofs.Ytmklabdfalkldaa
open Go.RowKit

set_option maxRecDepth 1000000 in
def T1I (bs qb : Nat) (a5 a7 : Int) (s1 s2 s3 s4 : Int) (c0 c1 c2 c3 c4 c6 c8 c9 c10 c11 c12 c13 c15 c16 c17 c18 c19 c20 c48 c49 c50 c51 c52 c53 c54 c55 c56 c57 c58 c59 c60 c61 c62 c63 c64 c65 c66 c67 c68 c69 c70 c244 : Value) (X0 : World) (a : Act) (w' : World) : Prop := ∃ u21 u22 u23 u24 u25 u26 u27 u28 u29 u30 u31 u32 u33 u34 u35 u36 u37 u38 u39 u40 u41 u42 u43 u44 u45 u46 u47 u73 u74 u75 u76 u77 u78 u79 u80 u81 u82 u83 u84 u85 u86 u87 u88 u89 u90 u91 u92 u93 u94 u95 u96 u97 u98 u99 u100 u101 u102 u103 u104 u105 u106 u107 u108 u109 u110 u111 u112 u113 u114 u115 u116 u117 u118 u119 u120 u121 u122 u123 u124 u125 u126 u127 u128 u129 u130 u131 u132 u133 u134 u135 u136 u137 u138 u139 u140 u141 u142 u143 u144 u145 u146 u147 u148 u149 u150 u151 u152 u153 u154 u155 u156 u157 u158 u159 u160 u161 u162 u163 u164 u165 u166 u167 u168 u169 u170 u171 u172 u173 u174 u175 u176 u177 u178 u179 u180 u181 u182 u183 u184 u185 u186 u187 u188 u189 u190 u191 u192 u193 u194 u195 u196 u197 u198 u199 u200 u201 u202 u203 u204 u205 u206 u207 u208 u209 u210 u211 u212 u213 u214 u215 u216 u217 u218 u219 u220 u221 u222 u223 u224 u225 u226 u227 u228 u229 u230 u231 u232 u233 u234 u235 u236 u237 u238 u239 u240 u241 u242 u243 : Value, (∃ k : Nat, k ≤ 3 ∧ u73 = .int .i64 k ∧ Plans w' qb ∧ SpAt w' bs ⟨s1, s2, s3, s4⟩ ∧ Below X0.heap.size X0 w') ∧ a = ⟨#[c0, c1, c2, c3, c4, .int .i64 a5, c6, .int .i64 a7, c8, c9, c10, c11, c12, c13, .pointer (some ⟨bs, 0, none⟩), c15, c16, c17, c18, c19, c20, u21, u22, u23, u24, u25, u26, u27, u28, u29, u30, u31, u32, u33, u34, u35, u36, u37, u38, u39, u40, u41, u42, u43, u44, u45, u46, u47, c48, c49, c50, c51, c52, c53, c54, c55, c56, c57, c58, c59, c60, c61, c62, c63, c64, c65, c66, c67, c68, c69, c70, .slice (some ⟨qb, 0, none⟩) 3 3, .int .i64 3, u73, u74, u75, u76, u77, u78, u79, u80, u81, u82, u83, u84, u85, u86, u87, u88, u89, u90, u91, u92, u93, u94, u95, u96, u97, u98, u99, u100, u101, u102, u103, u104, u105, u106, u107, u108, u109, u110, u111, u112, u113, u114, u115, u116, u117, u118, u119, u120, u121, u122, u123, u124, u125, u126, u127, u128, u129, u130, u131, u132, u133, u134, u135, u136, u137, u138, u139, u140, u141, u142, u143, u144, u145, u146, u147, u148, u149, u150, u151, u152, u153, u154, u155, u156, u157, u158, u159, u160, u161, u162, u163, u164, u165, u166, u167, u168, u169, u170, u171, u172, u173, u174, u175, u176, u177, u178, u179, u180, u181, u182, u183, u184, u185, u186, u187, u188, u189, u190, u191, u192, u193, u194, u195, u196, u197, u198, u199, u200, u201, u202, u203, u204, u205, u206, u207, u208, u209, u210, u211, u212, u213, u214, u215, u216, u217, u218, u219, u220, u221, u222, u223, u224, u225, u226, u227, u228, u229, u230, u231, u232, u233, u234, u235, u236, u237, u238, u239, u240, u241, u242, u243, c244], []⟩
def T1Mu (a : Act) (_ : World) : Nat := 3 - (intOf (a.tmps.getD 73 undef)).toNat
set_option maxRecDepth 1000000 in
def T1G (Q0 : Exit → Act → World → Prop) (k : Nat) (wr : World) (bs qb : Nat) (a5 a7 : Int) (s1 s2 s3 s4 : Int) (c0 c1 c2 c3 c4 c6 c8 c9 c10 c11 c12 c13 c15 c16 c17 c18 c19 c20 c48 c49 c50 c51 c52 c53 c54 c55 c56 c57 c58 c59 c60 c61 c62 c63 c64 c65 c66 c67 c68 c69 c70 c244 : Value) (X0 : World) (u21 u22 u23 u24 u25 u26 u27 u28 u29 u30 u31 u32 u33 u34 u35 u36 u37 u38 u39 u40 u41 u42 u43 u44 u45 u46 u47 u74 u75 u76 u77 u78 u79 u80 u81 u82 u83 u84 u85 u86 u87 u88 u89 u90 u91 u92 u93 u94 u95 u96 u97 u98 u99 u100 u101 u102 u103 u104 u105 u106 u107 u108 u109 u110 u111 u112 u113 u114 u115 u116 u117 u118 u119 u120 u121 u122 u123 u124 u125 u126 u127 u128 u129 u130 u131 u132 u133 u134 u135 u136 u137 u138 u139 u140 u141 u142 u143 u144 u145 u146 u147 u148 u149 u150 u151 u152 u153 u154 u155 u156 u157 u158 u159 u160 u161 u162 u163 u164 u165 u166 u167 u168 u169 u170 u171 u172 u173 u174 u175 u176 u177 u178 u179 u180 u181 u182 u183 u184 u185 u186 u187 u188 u189 u190 u191 u192 u193 u194 u195 u196 u197 u198 u199 u200 u201 u202 u203 u204 u205 u206 u207 u208 u209 u210 u211 u212 u213 u214 u215 u216 u217 u218 u219 u220 u221 u222 u223 u224 u225 u226 u227 u228 u229 u230 u231 u232 u233 u234 u235 u236 u237 u238 u239 u240 u241 u242 u243 : Value) : Prop :=
  Code.wp Try.prog tel1 (Exit.then (fun a' w'' => T1I bs qb a5 a7 s1 s2 s3 s4 c0 c1 c2 c3 c4 c6 c8 c9 c10 c11 c12 c13 c15 c16 c17 c18 c19 c20 c48 c49 c50 c51 c52 c53 c54 c55 c56 c57 c58 c59 c60 c61 c62 c63 c64 c65 c66 c67 c68 c69 c70 c244 X0 a' w'' ∧ T1Mu a' w'' < T1Mu ⟨#[c0, c1, c2, c3, c4, .int .i64 a5, c6, .int .i64 a7, c8, c9, c10, c11, c12, c13, .pointer (some ⟨bs, 0, none⟩), c15, c16, c17, c18, c19, c20, u21, u22, u23, u24, u25, u26, u27, u28, u29, u30, u31, u32, u33, u34, u35, u36, u37, u38, u39, u40, u41, u42, u43, u44, u45, u46, u47, c48, c49, c50, c51, c52, c53, c54, c55, c56, c57, c58, c59, c60, c61, c62, c63, c64, c65, c66, c67, c68, c69, c70, .slice (some ⟨qb, 0, none⟩) 3 3, .int .i64 3, .int .i64 k, u74, u75, u76, u77, u78, u79, u80, u81, u82, u83, u84, u85, u86, u87, u88, u89, u90, u91, u92, u93, u94, u95, u96, u97, u98, u99, u100, u101, u102, u103, u104, u105, u106, u107, u108, u109, u110, u111, u112, u113, u114, u115, u116, u117, u118, u119, u120, u121, u122, u123, u124, u125, u126, u127, u128, u129, u130, u131, u132, u133, u134, u135, u136, u137, u138, u139, u140, u141, u142, u143, u144, u145, u146, u147, u148, u149, u150, u151, u152, u153, u154, u155, u156, u157, u158, u159, u160, u161, u162, u163, u164, u165, u166, u167, u168, u169, u170, u171, u172, u173, u174, u175, u176, u177, u178, u179, u180, u181, u182, u183, u184, u185, u186, u187, u188, u189, u190, u191, u192, u193, u194, u195, u196, u197, u198, u199, u200, u201, u202, u203, u204, u205, u206, u207, u208, u209, u210, u211, u212, u213, u214, u215, u216, u217, u218, u219, u220, u221, u222, u223, u224, u225, u226, u227, u228, u229, u230, u231, u232, u233, u234, u235, u236, u237, u238, u239, u240, u241, u242, u243, c244], []⟩ wr) Q0) ⟨#[c0, c1, c2, c3, c4, .int .i64 a5, c6, .int .i64 a7, c8, c9, c10, c11, c12, c13, .pointer (some ⟨bs, 0, none⟩), c15, c16, c17, c18, c19, c20, u21, u22, u23, u24, u25, u26, u27, u28, u29, u30, u31, u32, u33, u34, u35, u36, u37, u38, u39, u40, u41, u42, u43, u44, u45, u46, u47, c48, c49, c50, c51, c52, c53, c54, c55, c56, c57, c58, c59, c60, c61, c62, c63, c64, c65, c66, c67, c68, c69, c70, .slice (some ⟨qb, 0, none⟩) 3 3, .int .i64 3, .int .i64 k, u74, u75, u76, u77, u78, u79, u80, u81, u82, u83, u84, u85, u86, u87, u88, u89, u90, u91, u92, u93, u94, u95, u96, u97, u98, u99, u100, u101, u102, u103, u104, u105, u106, u107, u108, u109, u110, u111, u112, u113, u114, u115, u116, u117, u118, u119, u120, u121, u122, u123, u124, u125, u126, u127, u128, u129, u130, u131, u132, u133, u134, u135, u136, u137, u138, u139, u140, u141, u142, u143, u144, u145, u146, u147, u148, u149, u150, u151, u152, u153, u154, u155, u156, u157, u158, u159, u160, u161, u162, u163, u164, u165, u166, u167, u168, u169, u170, u171, u172, u173, u174, u175, u176, u177, u178, u179, u180, u181, u182, u183, u184, u185, u186, u187, u188, u189, u190, u191, u192, u193, u194, u195, u196, u197, u198, u199, u200, u201, u202, u203, u204, u205, u206, u207, u208, u209, u210, u211, u212, u213, u214, u215, u216, u217, u218, u219, u220, u221, u222, u223, u224, u225, u226, u227, u228, u229, u230, u231, u232, u233, u234, u235, u236, u237, u238, u239, u240, u241, u242, u243, c244], []⟩ wr
section
variable {p17 p40 p100 : Int} {k : Nat} {wr X0 : World} {Q0 : Exit → Act → World → Prop} {bs qb : Nat} {a5 a7 : Int} {s1 s2 s3 s4 : Int} {c0 c1 c2 c3 c4 c6 c8 c9 c10 c11 c12 c13 c15 c16 c17 c18 c19 c20 c48 c49 c50 c51 c52 c53 c54 c55 c56 c57 c58 c59 c60 c61 c62 c63 c64 c65 c66 c67 c68 c69 c70 c244 u21 u22 u23 u24 u25 u26 u27 u28 u29 u30 u31 u32 u33 u34 u35 u36 u37 u38 u39 u40 u41 u42 u43 u44 u45 u46 u47 u73 u74 u75 u76 u77 u78 u79 u80 u81 u82 u83 u84 u85 u86 u87 u88 u89 u90 u91 u92 u93 u94 u95 u96 u97 u98 u99 u100 u101 u102 u103 u104 u105 u106 u107 u108 u109 u110 u111 u112 u113 u114 u115 u116 u117 u118 u119 u120 u121 u122 u123 u124 u125 u126 u127 u128 u129 u130 u131 u132 u133 u134 u135 u136 u137 u138 u139 u140 u141 u142 u143 u144 u145 u146 u147 u148 u149 u150 u151 u152 u153 u154 u155 u156 u157 u158 u159 u160 u161 u162 u163 u164 u165 u166 u167 u168 u169 u170 u171 u172 u173 u174 u175 u176 u177 u178 u179 u180 u181 u182 u183 u184 u185 u186 u187 u188 u189 u190 u191 u192 u193 u194 u195 u196 u197 u198 u199 u200 u201 u202 u203 u204 u205 u206 u207 u208 u209 u210 u211 u212 u213 u214 u215 u216 u217 u218 u219 u220 u221 u222 u223 u224 u225 u226 u227 u228 u229 u230 u231 u232 u233 u234 u235 u236 u237 u238 u239 u240 u241 u242 u243 : Value}

set_option maxRecDepth 1000000 in
set_option maxHeartbeats 8000000 in
theorem t1_round (P17 : Hid (∀ W, Calls Try.prog 17 #[.int .i64 a5, .int .i64 17] W fun e w' => e = .returned (.int .i64 p17) ∧ W = w')) (P40 : Hid (∀ W, Calls Try.prog 17 #[.int .i64 a5, .int .i64 1099511627776] W fun e w' => e = .returned (.int .i64 p40) ∧ W = w')) (P100 : Hid (∀ W, Calls Try.prog 17 #[.int .i64 a7, .int .i64 100] W fun e w' => e = .returned (.int .i64 p100) ∧ W = w')) (g17 : IntKind.i64.wrap (p17 - 1) = p17 - 1)
    (HE : Hid (∀ u21 u22 u23 u24 u25 u26 u27 u28 u29 u30 u31 u32 u33 u34 u35 u36 u37 u38 u39 u40 u41 u42 u43 u44 u45 u46 u47 u73 u74 u75 u76 u77 u78 u79 u80 u81 u82 u83 u84 u85 u86 u87 u88 u89 u90 u91 u92 u93 u94 u95 u96 u97 u98 u99 u100 u101 u102 u103 u104 u105 u106 u107 u108 u109 u110 u111 u112 u113 u114 u115 u116 u117 u118 u119 u120 u121 u122 u123 u124 u125 u126 u127 u128 u129 u130 u131 u132 u133 u134 u135 u136 u137 u138 u139 u140 u141 u142 u143 u144 u145 u146 u147 u148 u149 u150 u151 u152 u153 u154 u155 u156 u157 u158 u159 u160 u161 u162 u163 u164 u165 u166 u167 u168 u169 u170 u171 u172 u173 u174 u175 u176 u177 u178 u179 u180 u181 u182 u183 u184 u185 u186 u187 u188 u189 u190 u191 u192 u193 u194 u195 u196 u197 u198 u199 u200 u201 u202 u203 u204 u205 u206 u207 u208 u209 u210 u211 u212 u213 u214 u215 u216 u217 u218 u219 u220 u221 u222 u223 u224 u225 u226 u227 u228 u229 u230 u231 u232 u233 u234 u235 u236 u237 u238 u239 u240 u241 u242 u243 w'', Below X0.heap.size X0 w'' → Q0 (.exit 0) ⟨#[c0, c1, c2, c3, c4, .int .i64 a5, c6, .int .i64 a7, c8, c9, c10, c11, c12, c13, .pointer (some ⟨bs, 0, none⟩), c15, c16, c17, c18, c19, c20, u21, u22, u23, u24, u25, u26, u27, u28, u29, u30, u31, u32, u33, u34, u35, u36, u37, u38, u39, u40, u41, u42, u43, u44, u45, u46, u47, c48, c49, c50, c51, c52, c53, c54, c55, c56, c57, c58, c59, c60, c61, c62, c63, c64, c65, c66, c67, c68, c69, c70, .slice (some ⟨qb, 0, none⟩) 3 3, .int .i64 3, u73, u74, u75, u76, u77, u78, u79, u80, u81, u82, u83, u84, u85, u86, u87, u88, u89, u90, u91, u92, u93, u94, u95, u96, u97, u98, u99, u100, u101, u102, u103, u104, u105, u106, u107, u108, u109, u110, u111, u112, u113, u114, u115, u116, u117, u118, u119, u120, u121, u122, u123, u124, u125, u126, u127, u128, u129, u130, u131, u132, u133, u134, u135, u136, u137, u138, u139, u140, u141, u142, u143, u144, u145, u146, u147, u148, u149, u150, u151, u152, u153, u154, u155, u156, u157, u158, u159, u160, u161, u162, u163, u164, u165, u166, u167, u168, u169, u170, u171, u172, u173, u174, u175, u176, u177, u178, u179, u180, u181, u182, u183, u184, u185, u186, u187, u188, u189, u190, u191, u192, u193, u194, u195, u196, u197, u198, u199, u200, u201, u202, u203, u204, u205, u206, u207, u208, u209, u210, u211, u212, u213, u214, u215, u216, u217, u218, u219, u220, u221, u222, u223, u224, u225, u226, u227, u228, u229, u230, u231, u232, u233, u234, u235, u236, u237, u238, u239, u240, u241, u242, u243, c244], []⟩ w''))
    (hk : k ≤ 3) (HQ : Hid (Plans wr qb)) (HS : Hid (SpAt wr bs ⟨s1, s2, s3, s4⟩)) (HB : Hid (Below X0.heap.size X0 wr)) :
    @T1G Q0 k wr bs qb a5 a7 s1 s2 s3 s4 c0 c1 c2 c3 c4 c6 c8 c9 c10 c11 c12 c13 c15 c16 c17 c18 c19 c20 c48 c49 c50 c51 c52 c53 c54 c55 c56 c57 c58 c59 c60 c61 c62 c63 c64 c65 c66 c67 c68 c69 c70 c244 X0 u21 u22 u23 u24 u25 u26 u27 u28 u29 u30 u31 u32 u33 u34 u35 u36 u37 u38 u39 u40 u41 u42 u43 u44 u45 u46 u47 u74 u75 u76 u77 u78 u79 u80 u81 u82 u83 u84 u85 u86 u87 u88 u89 u90 u91 u92 u93 u94 u95 u96 u97 u98 u99 u100 u101 u102 u103 u104 u105 u106 u107 u108 u109 u110 u111 u112 u113 u114 u115 u116 u117 u118 u119 u120 u121 u122 u123 u124 u125 u126 u127 u128 u129 u130 u131 u132 u133 u134 u135 u136 u137 u138 u139 u140 u141 u142 u143 u144 u145 u146 u147 u148 u149 u150 u151 u152 u153 u154 u155 u156 u157 u158 u159 u160 u161 u162 u163 u164 u165 u166 u167 u168 u169 u170 u171 u172 u173 u174 u175 u176 u177 u178 u179 u180 u181 u182 u183 u184 u185 u186 u187 u188 u189 u190 u191 u192 u193 u194 u195 u196 u197 u198 u199 u200 u201 u202 u203 u204 u205 u206 u207 u208 u209 u210 u211 u212 u213 u214 u215 u216 u217 u218 u219 u220 u221 u222 u223 u224 u225 u226 u227 u228 u229 u230 u231 u232 u233 u234 u235 u236 u237 u238 u239 u240 u241 u242 u243 := by
  unfold T1G
  conv => arg 2; whnf
  by_cases hk2 : (k : Int) < 3
  · obtain ⟨A, c, C, l, z0, z1, sx, lmx⟩ := HQ.out k (by omega)
    have hj0 : (0 : Int) ≤ k := by omega
    go_upto_region 9 with fail
    have hb1 := Joins.below_alloc1 wr (.cells #[.slice A l.length c, .int .i64 C] 25)
    have HX := Lib.hid (Has.new (c := c) (C := C) sx)
    have HS1 := Lib.hid (HS.out.on hb1)
    have HB1 := Lib.hid (HB.out.trans (hb1.mono HB.out.size))
    have HQ1 := Lib.hid (HQ.out.on hb1)
    obtain ⟨bx, hbx⟩ : ∃ q, wr.heap.size = q := ⟨_, rfl⟩
    rw [hbx] at HX ⊢
    clear hb1 z0 z1 sx HQ HS HB
    generalize wr.alloc (.cells #[.slice A l.length c, .int .i64 C] 25) = we at *
    clear hbx
    have R1 := Lib.hid (fun W h => right_any A c C l lmx W h)
    have R2 := Lib.hid (fun W h => refRight_any A c C l lmx W h)
    have N1 := Lib.hid (fun W h => nodes_any A c C l lmx W h)
    have N2 := Lib.hid (fun W h => refNodes_any A c C l lmx W h)
    have D1 := Lib.hid (fun W h => round_any A c C l lmx W h)
    have D2 := Lib.hid (fun W h => refRound_any A c C l lmx W h)
    go_cut [95] from 77 to 95 (fun s wx => s = .bool false ∧ Below we.heap.size we wx)
    case first =>
      generalize rightS l C = rb at *
      generalize nodesS l = nv at *
      generalize roundS l C = rv at *
      have HV : ∃ Vp : Nat → (Nat → Value) → World → Prop, Vp = (fun ix u wv => match ix with
        | 0 => u 0 = .agg #[.slice A l.length c, .int .i64 C]
        | 1 => u 1 = .bool rb
        | 2 => u 2 = .agg #[.slice A l.length c, .int .i64 C]
        | 3 => u 3 = .bool rb
        | 4 => u 4 = .bool false
        | 5 => u 5 = .bool false
        | 6 => u 6 = .agg #[.slice A l.length c, .int .i64 C]
        | 7 => u 7 = .int .i64 nv
        | 8 => u 8 = .agg #[.slice A l.length c, .int .i64 C]
        | 9 => u 9 = .int .i64 nv
        | 10 => u 10 = .bool false
        | 11 => u 11 = .bool false
        | 12 => u 12 = .bool false
        | 13 => u 13 = .agg #[.slice A l.length c, .int .i64 C]
        | 14 => u 14 = .int .i64 rv
        | 15 => u 15 = .agg #[.slice A l.length c, .int .i64 C]
        | 16 => u 16 = .int .i64 rv
        | 17 => u 17 = .bool false
        | 18 => u 18 = .bool false
        | _ => True) := ⟨_, rfl⟩
      obtain ⟨Vp, hVdef⟩ := HV
      have Vp0 : ∀ u wv, Vp 0 u wv = (u 0 = .agg #[.slice A l.length c, .int .i64 C]) := fun u wv => by subst hVdef; rfl
      have Vp1 : ∀ u wv, Vp 1 u wv = (u 1 = .bool rb) := fun u wv => by subst hVdef; rfl
      have Vp2 : ∀ u wv, Vp 2 u wv = (u 2 = .agg #[.slice A l.length c, .int .i64 C]) := fun u wv => by subst hVdef; rfl
      have Vp3 : ∀ u wv, Vp 3 u wv = (u 3 = .bool rb) := fun u wv => by subst hVdef; rfl
      have Vp4 : ∀ u wv, Vp 4 u wv = (u 4 = .bool false) := fun u wv => by subst hVdef; rfl
      have Vp5 : ∀ u wv, Vp 5 u wv = (u 5 = .bool false) := fun u wv => by subst hVdef; rfl
      have Vp6 : ∀ u wv, Vp 6 u wv = (u 6 = .agg #[.slice A l.length c, .int .i64 C]) := fun u wv => by subst hVdef; rfl
      have Vp7 : ∀ u wv, Vp 7 u wv = (u 7 = .int .i64 nv) := fun u wv => by subst hVdef; rfl
      have Vp8 : ∀ u wv, Vp 8 u wv = (u 8 = .agg #[.slice A l.length c, .int .i64 C]) := fun u wv => by subst hVdef; rfl
      have Vp9 : ∀ u wv, Vp 9 u wv = (u 9 = .int .i64 nv) := fun u wv => by subst hVdef; rfl
      have Vp10 : ∀ u wv, Vp 10 u wv = (u 10 = .bool false) := fun u wv => by subst hVdef; rfl
      have Vp11 : ∀ u wv, Vp 11 u wv = (u 11 = .bool false) := fun u wv => by subst hVdef; rfl
      have Vp12 : ∀ u wv, Vp 12 u wv = (u 12 = .bool false) := fun u wv => by subst hVdef; rfl
      have Vp13 : ∀ u wv, Vp 13 u wv = (u 13 = .agg #[.slice A l.length c, .int .i64 C]) := fun u wv => by subst hVdef; rfl
      have Vp14 : ∀ u wv, Vp 14 u wv = (u 14 = .int .i64 rv) := fun u wv => by subst hVdef; rfl
      have Vp15 : ∀ u wv, Vp 15 u wv = (u 15 = .agg #[.slice A l.length c, .int .i64 C]) := fun u wv => by subst hVdef; rfl
      have Vp16 : ∀ u wv, Vp 16 u wv = (u 16 = .int .i64 rv) := fun u wv => by subst hVdef; rfl
      have Vp17 : ∀ u wv, Vp 17 u wv = (u 17 = .bool false) := fun u wv => by subst hVdef; rfl
      have Vp18 : ∀ u wv, Vp 18 u wv = (u 18 = .bool false) := fun u wv => by subst hVdef; rfl
      have HVD := Lib.hid hVdef
      clear hVdef
      refine region_each (V := Vp) (drop := fun _ _ => false) (G := fun wv => Below we.heap.size we wv) (Rel := fun jx wv wv' => Below wv.heap.size wv wv') (by kernel_rfl) (by kernel_rfl) (Below.refl _ _).drew ?hmonoq1 ?hdepq1 ⟨?s0_q1, ?s1_q1, ?s2_q1, ?s3_q1, ?s4_q1, ?s5_q1, ?s6_q1, ?s7_q1, ?s8_q1, ?s9_q1, ?s10_q1, ?s11_q1, ?s12_q1, ?s13_q1, ?s14_q1, ?s15_q1, ?s16_q1, ?s17_q1, ?s18_q1, trivial⟩ ?behindq1
      case hmonoq1 =>
        intro ix jx u wv wv' hij hw hd hr
        rw [HVD.out]
        dsimp only
        split <;> intro h <;> first | exact trivial | exact h
      case hdepq1 =>
        intro ix u u' wv h1 h2
        rw [HVD.out]
        dsimp only
        split <;> intro h <;> first | exact trivial | (rw [← h1]; exact h)
      case s0_q1 =>
        refine owe rfl fun a wx val hG hV hN hO K hK => ?_
        have e21 : a.tmps[21]? = some (.pointer (some ⟨bx, 0, none⟩)) := (hO 21 (by kernel_rfl)).trans (by rfl)
        clear hV hN hO
        obtain ⟨y0, y1⟩ := (HX.out.on hG).pl.cells
        go_simp
        exact hK.out _ _ (by rw [Vp0, upd_at] <;> (congr 1 <;> omega)) (Below.refl _ _) hG
      case s1_q1 =>
        refine owe rfl fun a wx val hG hV hN hO K hK => ?_
        have e77 := hN 0 77 (by kernel_rfl) (by kernel_rfl) (by simp)
        have f77 := hV 0 (by kernel_rfl) (by kernel_rfl)
        rw [Vp0] at f77; rw [f77] at e77; clear f77
        clear hV hN hO
        go_simp
        refine (R1.out _ (HX.out.on hG).sl).mono ?_
        rintro e w11 ⟨rfl, hb⟩
        exact hK.out _ _ (by rw [Vp1, upd_at]) hb (hG.trans (hb.mono hG.size))
      case s2_q1 =>
        refine owe rfl fun a wx val hG hV hN hO K hK => ?_
        have e21 : a.tmps[21]? = some (.pointer (some ⟨bx, 0, none⟩)) := (hO 21 (by kernel_rfl)).trans (by rfl)
        clear hV hN hO
        obtain ⟨y0, y1⟩ := (HX.out.on hG).pl.cells
        go_simp
        exact hK.out _ _ (by rw [Vp2, upd_at] <;> (congr 1 <;> omega)) (Below.refl _ _) hG
      case s3_q1 =>
        refine owe rfl fun a wx val hG hV hN hO K hK => ?_
        have e79 := hN 2 79 (by kernel_rfl) (by kernel_rfl) (by simp)
        have f79 := hV 2 (by kernel_rfl) (by kernel_rfl)
        rw [Vp2] at f79; rw [f79] at e79; clear f79
        clear hV hN hO
        go_simp
        refine (R2.out _ (HX.out.on hG).sl).mono ?_
        rintro e w11 ⟨rfl, hb⟩
        exact hK.out _ _ (by rw [Vp3, upd_at]) hb (hG.trans (hb.mono hG.size))
      case s4_q1 =>
        refine owe rfl fun a wx val hG hV hN hO K hK => ?_
        have e78 := hN 1 78 (by kernel_rfl) (by kernel_rfl) (by simp)
        have f78 := hV 1 (by kernel_rfl) (by kernel_rfl)
        rw [Vp1] at f78; rw [f78] at e78; clear f78
        have e80 := hN 3 80 (by kernel_rfl) (by kernel_rfl) (by simp)
        have f80 := hV 3 (by kernel_rfl) (by kernel_rfl)
        rw [Vp3] at f80; rw [f80] at e80; clear f80
        clear hV hN hO
        go_simp
        exact hK.out _ _ (by rw [Vp4, upd_at] <;> (congr 1 <;> omega)) (Below.refl _ _) hG
      case s5_q1 =>
        refine owe rfl fun a wx val hG hV hN hO K hK => ?_
        have e81 := hN 4 81 (by kernel_rfl) (by kernel_rfl) (by simp)
        have f81 := hV 4 (by kernel_rfl) (by kernel_rfl)
        rw [Vp4] at f81; rw [f81] at e81; clear f81
        clear hV hN hO
        go_simp
        exact hK.out _ _ (by rw [Vp5, upd_at] <;> (congr 1 <;> omega)) (Below.refl _ _) hG
      case s6_q1 =>
        refine owe_if (g := 5) (t := 82) (b := false) rfl (by kernel_rfl) (by kernel_rfl) (by kernel_rfl) (by simp) (fun val w h => by rw [Vp5] at h; exact h) fun a wx val hG hV hN hO K hK => ?_
        have e21 : a.tmps[21]? = some (.pointer (some ⟨bx, 0, none⟩)) := (hO 21 (by kernel_rfl)).trans (by rfl)
        clear hV hN hO
        obtain ⟨y0, y1⟩ := (HX.out.on hG).pl.cells
        go_simp
        exact hK.out _ _ (by rw [Vp6, upd_at] <;> (congr 1 <;> omega)) (Below.refl _ _) hG
      case s7_q1 =>
        refine owe_if (g := 5) (t := 82) (b := false) rfl (by kernel_rfl) (by kernel_rfl) (by kernel_rfl) (by simp) (fun val w h => by rw [Vp5] at h; exact h) fun a wx val hG hV hN hO K hK => ?_
        have e83 := hN 6 83 (by kernel_rfl) (by kernel_rfl) (by simp)
        have f83 := hV 6 (by kernel_rfl) (by kernel_rfl)
        rw [Vp6] at f83; rw [f83] at e83; clear f83
        clear hV hN hO
        go_simp
        refine (N1.out _ (HX.out.on hG).sl).mono ?_
        rintro e w11 ⟨rfl, hb⟩
        exact hK.out _ _ (by rw [Vp7, upd_at]) hb (hG.trans (hb.mono hG.size))
      case s8_q1 =>
        refine owe_if (g := 5) (t := 82) (b := false) rfl (by kernel_rfl) (by kernel_rfl) (by kernel_rfl) (by simp) (fun val w h => by rw [Vp5] at h; exact h) fun a wx val hG hV hN hO K hK => ?_
        have e21 : a.tmps[21]? = some (.pointer (some ⟨bx, 0, none⟩)) := (hO 21 (by kernel_rfl)).trans (by rfl)
        clear hV hN hO
        obtain ⟨y0, y1⟩ := (HX.out.on hG).pl.cells
        go_simp
        exact hK.out _ _ (by rw [Vp8, upd_at] <;> (congr 1 <;> omega)) (Below.refl _ _) hG
      case s9_q1 =>
        refine owe_if (g := 5) (t := 82) (b := false) rfl (by kernel_rfl) (by kernel_rfl) (by kernel_rfl) (by simp) (fun val w h => by rw [Vp5] at h; exact h) fun a wx val hG hV hN hO K hK => ?_
        have e85 := hN 8 85 (by kernel_rfl) (by kernel_rfl) (by simp)
        have f85 := hV 8 (by kernel_rfl) (by kernel_rfl)
        rw [Vp8] at f85; rw [f85] at e85; clear f85
        clear hV hN hO
        go_simp
        refine (N2.out _ (HX.out.on hG).sl).mono ?_
        rintro e w11 ⟨rfl, hb⟩
        exact hK.out _ _ (by rw [Vp9, upd_at]) hb (hG.trans (hb.mono hG.size))
      case s10_q1 =>
        refine owe_if (g := 5) (t := 82) (b := false) rfl (by kernel_rfl) (by kernel_rfl) (by kernel_rfl) (by simp) (fun val w h => by rw [Vp5] at h; exact h) fun a wx val hG hV hN hO K hK => ?_
        have e84 := hN 7 84 (by kernel_rfl) (by kernel_rfl) (by simp)
        have f84 := hV 7 (by kernel_rfl) (by kernel_rfl)
        rw [Vp7] at f84; rw [f84] at e84; clear f84
        have e86 := hN 9 86 (by kernel_rfl) (by kernel_rfl) (by simp)
        have f86 := hV 9 (by kernel_rfl) (by kernel_rfl)
        rw [Vp9] at f86; rw [f86] at e86; clear f86
        clear hV hN hO
        go_simp
        exact hK.out _ _ (by rw [Vp10, upd_at] <;> (congr 1 <;> omega)) (Below.refl _ _) hG
      case s11_q1 =>
        refine owe rfl fun a wx val hG hV hN hO K hK => ?_
        have e82 := hN 5 82 (by kernel_rfl) (by kernel_rfl) (by simp)
        have f82 := hV 5 (by kernel_rfl) (by kernel_rfl)
        rw [Vp5] at f82; rw [f82] at e82; clear f82
        have e87 := hN 10 87 (by kernel_rfl) (by kernel_rfl) (by simp)
        have f87 := hV 10 (by kernel_rfl) (by kernel_rfl)
        rw [Vp10] at f87; rw [f87] at e87; clear f87
        clear hV hN hO
        go_simp
        exact hK.out _ _ (by rw [Vp11, upd_at] <;> (congr 1 <;> omega)) (Below.refl _ _) hG
      case s12_q1 =>
        refine owe rfl fun a wx val hG hV hN hO K hK => ?_
        have e88 := hN 11 88 (by kernel_rfl) (by kernel_rfl) (by simp)
        have f88 := hV 11 (by kernel_rfl) (by kernel_rfl)
        rw [Vp11] at f88; rw [f88] at e88; clear f88
        clear hV hN hO
        go_simp
        exact hK.out _ _ (by rw [Vp12, upd_at] <;> (congr 1 <;> omega)) (Below.refl _ _) hG
      case s13_q1 =>
        refine owe_if (g := 12) (t := 89) (b := false) rfl (by kernel_rfl) (by kernel_rfl) (by kernel_rfl) (by simp) (fun val w h => by rw [Vp12] at h; exact h) fun a wx val hG hV hN hO K hK => ?_
        have e21 : a.tmps[21]? = some (.pointer (some ⟨bx, 0, none⟩)) := (hO 21 (by kernel_rfl)).trans (by rfl)
        clear hV hN hO
        obtain ⟨y0, y1⟩ := (HX.out.on hG).pl.cells
        go_simp
        exact hK.out _ _ (by rw [Vp13, upd_at] <;> (congr 1 <;> omega)) (Below.refl _ _) hG
      case s14_q1 =>
        refine owe_if (g := 12) (t := 89) (b := false) rfl (by kernel_rfl) (by kernel_rfl) (by kernel_rfl) (by simp) (fun val w h => by rw [Vp12] at h; exact h) fun a wx val hG hV hN hO K hK => ?_
        have e90 := hN 13 90 (by kernel_rfl) (by kernel_rfl) (by simp)
        have f90 := hV 13 (by kernel_rfl) (by kernel_rfl)
        rw [Vp13] at f90; rw [f90] at e90; clear f90
        clear hV hN hO
        go_simp
        refine (D1.out _ (HX.out.on hG).sl).mono ?_
        rintro e w11 ⟨rfl, hb⟩
        exact hK.out _ _ (by rw [Vp14, upd_at]) hb (hG.trans (hb.mono hG.size))
      case s15_q1 =>
        refine owe_if (g := 12) (t := 89) (b := false) rfl (by kernel_rfl) (by kernel_rfl) (by kernel_rfl) (by simp) (fun val w h => by rw [Vp12] at h; exact h) fun a wx val hG hV hN hO K hK => ?_
        have e21 : a.tmps[21]? = some (.pointer (some ⟨bx, 0, none⟩)) := (hO 21 (by kernel_rfl)).trans (by rfl)
        clear hV hN hO
        obtain ⟨y0, y1⟩ := (HX.out.on hG).pl.cells
        go_simp
        exact hK.out _ _ (by rw [Vp15, upd_at] <;> (congr 1 <;> omega)) (Below.refl _ _) hG
      case s16_q1 =>
        refine owe_if (g := 12) (t := 89) (b := false) rfl (by kernel_rfl) (by kernel_rfl) (by kernel_rfl) (by simp) (fun val w h => by rw [Vp12] at h; exact h) fun a wx val hG hV hN hO K hK => ?_
        have e92 := hN 15 92 (by kernel_rfl) (by kernel_rfl) (by simp)
        have f92 := hV 15 (by kernel_rfl) (by kernel_rfl)
        rw [Vp15] at f92; rw [f92] at e92; clear f92
        clear hV hN hO
        go_simp
        refine (D2.out _ (HX.out.on hG).sl).mono ?_
        rintro e w11 ⟨rfl, hb⟩
        exact hK.out _ _ (by rw [Vp16, upd_at]) hb (hG.trans (hb.mono hG.size))
      case s17_q1 =>
        refine owe_if (g := 12) (t := 89) (b := false) rfl (by kernel_rfl) (by kernel_rfl) (by kernel_rfl) (by simp) (fun val w h => by rw [Vp12] at h; exact h) fun a wx val hG hV hN hO K hK => ?_
        have e91 := hN 14 91 (by kernel_rfl) (by kernel_rfl) (by simp)
        have f91 := hV 14 (by kernel_rfl) (by kernel_rfl)
        rw [Vp14] at f91; rw [f91] at e91; clear f91
        have e93 := hN 16 93 (by kernel_rfl) (by kernel_rfl) (by simp)
        have f93 := hV 16 (by kernel_rfl) (by kernel_rfl)
        rw [Vp16] at f93; rw [f93] at e93; clear f93
        clear hV hN hO
        go_simp
        exact hK.out _ _ (by rw [Vp17, upd_at] <;> (congr 1 <;> omega)) (Below.refl _ _) hG
      case s18_q1 =>
        refine owe rfl fun a wx val hG hV hN hO K hK => ?_
        have e89 := hN 12 89 (by kernel_rfl) (by kernel_rfl) (by simp)
        have f89 := hV 12 (by kernel_rfl) (by kernel_rfl)
        rw [Vp12] at f89; rw [f89] at e89; clear f89
        have e94 := hN 17 94 (by kernel_rfl) (by kernel_rfl) (by simp)
        have f94 := hV 17 (by kernel_rfl) (by kernel_rfl)
        rw [Vp17] at f94; rw [f94] at e94; clear f94
        clear hV hN hO
        go_simp
        exact hK.out _ _ (by rw [Vp18, upd_at] <;> (congr 1 <;> omega)) (Below.refl _ _) hG
      intro val wx hG hV
      have f0 := hV 0 (by simp) (fun _ _ => by rfl)
      rw [Vp0] at f0
      have f1 := hV 1 (by simp) (fun _ _ => by rfl)
      rw [Vp1] at f1
      have f2 := hV 2 (by simp) (fun _ _ => by rfl)
      rw [Vp2] at f2
      have f3 := hV 3 (by simp) (fun _ _ => by rfl)
      rw [Vp3] at f3
      have f4 := hV 4 (by simp) (fun _ _ => by rfl)
      rw [Vp4] at f4
      have f5 := hV 5 (by simp) (fun _ _ => by rfl)
      rw [Vp5] at f5
      have f6 := hV 6 (by simp) (fun _ _ => by rfl)
      rw [Vp6] at f6
      have f7 := hV 7 (by simp) (fun _ _ => by rfl)
      rw [Vp7] at f7
      have f8 := hV 8 (by simp) (fun _ _ => by rfl)
      rw [Vp8] at f8
      have f9 := hV 9 (by simp) (fun _ _ => by rfl)
      rw [Vp9] at f9
      have f10 := hV 10 (by simp) (fun _ _ => by rfl)
      rw [Vp10] at f10
      have f11 := hV 11 (by simp) (fun _ _ => by rfl)
      rw [Vp11] at f11
      have f12 := hV 12 (by simp) (fun _ _ => by rfl)
      rw [Vp12] at f12
      have f13 := hV 13 (by simp) (fun _ _ => by rfl)
      rw [Vp13] at f13
      have f14 := hV 14 (by simp) (fun _ _ => by rfl)
      rw [Vp14] at f14
      have f15 := hV 15 (by simp) (fun _ _ => by rfl)
      rw [Vp15] at f15
      have f16 := hV 16 (by simp) (fun _ _ => by rfl)
      rw [Vp16] at f16
      have f17 := hV 17 (by simp) (fun _ _ => by rfl)
      rw [Vp17] at f17
      have f18 := hV 18 (by simp) (fun _ _ => by rfl)
      rw [Vp18] at f18
      clear hV Vp0 Vp1 Vp2 Vp3 Vp4 Vp5 Vp6 Vp7 Vp8 Vp9 Vp10 Vp11 Vp12 Vp13 Vp14 Vp15 Vp16 Vp17 Vp18
      simp only [putAll, Act.put, List.setIfInBounds_toArray, List.set_cons_zero, List.set_cons_succ]
      generalize val 0 = z0 at *; (subst f0)
      generalize val 1 = z1 at *; (subst f1)
      generalize val 2 = z2 at *; (subst f2)
      generalize val 3 = z3 at *; (subst f3)
      generalize val 4 = z4 at *; (subst f4)
      generalize val 5 = z5 at *; (subst f5)
      generalize val 6 = z6 at *; (subst f6)
      generalize val 7 = z7 at *; (subst f7)
      generalize val 8 = z8 at *; (subst f8)
      generalize val 9 = z9 at *; (subst f9)
      generalize val 10 = z10 at *; (subst f10)
      generalize val 11 = z11 at *; (subst f11)
      generalize val 12 = z12 at *; (subst f12)
      generalize val 13 = z13 at *; (subst f13)
      generalize val 14 = z14 at *; (subst f14)
      generalize val 15 = z15 at *; (subst f15)
      generalize val 16 = z16 at *; (subst f16)
      generalize val 17 = z17 at *; (subst f17)
      generalize val 18 = z18 at *; (subst f18)
      clear HVD
      go_wp2_with fail
      go_meet
      exact ⟨rfl, hG⟩
    case rest =>
    obtain ⟨rfl, hb9⟩ := hcut
    have HX2 := Lib.hid (HX.out.on hb9)
    have HS2 := Lib.hid (HS1.out.on hb9)
    have HQ2 := Lib.hid (HQ1.out.on hb9)
    have HB2 := Lib.hid (HB1.out.trans (hb9.mono HB1.out.size))
    clear hb9 HX HS1 HQ1 HB1 R1 R2 N1 N2 D1 D2
    generalize wc = wf at *
    go_wp2_with fail; refine (P17.out _).mono ?_; rintro e wd ⟨rfl, rfl⟩
    have hb := Joins.below_alloc1 wf (.cells #[.int .i64 a5, .int .i64 (p17 - 1)] 3)
    have HT2 : Hid (Tw (wf.alloc (.cells #[.int .i64 a5, .int .i64 (p17 - 1)] 3)) wf.heap.size a5 (p17 - 1)) := Lib.hid (heap_alloc_new wf _)
    have HX3 := Lib.hid (HX2.out.on hb)
    have HS3 := Lib.hid (HS2.out.on hb)
    have HQ3 := Lib.hid (HQ2.out.on hb)
    have HB3 := Lib.hid (HB2.out.trans (hb.mono HB2.out.size))
    clear hb HX2 HS2 HQ2 HB2
    go_wp2_with fail
    generalize wf.alloc (.cells #[.int .i64 a5, .int .i64 (p17 - 1)] 3) = wg at *
    generalize wf.heap.size = q2 at *
    refine t2_loop lmx HX3 HT2 (Lib.hid ?_)
    intro x23 x24 x25 x26 x27 x102 x103 x104 x105 x106 x107 x108 x109 x110 x111 x112 x113 x114 x115 x116 x117 x118 x119 x120 x121 x122 x123 x124 x125 x126 wh hbi
    have HX4 := Lib.hid (HX3.out.on hbi)
    have HS4 := Lib.hid (HS3.out.on hbi)
    have HQ4 := Lib.hid (HQ3.out.on hbi)
    have HB4 := Lib.hid (HB3.out.trans (hbi.mono HB3.out.size))
    clear hbi HX3 HS3 HQ3 HB3 HT2
    obtain ⟨VC, hVC⟩ : ∃ V, atV l C p40 = V := ⟨_, rfl⟩
    obtain ⟨EC, hEC⟩ : ∃ E, atE l C p40 = E := ⟨_, rfl⟩
    have AT0 := Lib.hid (fun W h => refAt_any A c C l lmx p40 W h)
    rw [hVC, hEC] at AT0
    clear hVC hEC
    obtain ⟨v1, v2, v3, v4⟩ := VC
    go_upto_region 19 with fail
    go_cut [28, 29] from 127 to 133 (fun s t wq => ∃ gc, s = .pointer (some ⟨gc, 0, none⟩) ∧ t = .int .i64 EC ∧ SpAt wq gc ⟨v1, v2, v3, v4⟩ ∧ Below wh.heap.size wh wq)
    case first =>
      have HV : ∃ Vp : Nat → (Nat → Value) → World → Prop, Vp = (fun ix u wv => match ix with
        | 0 => u 0 = .agg #[.slice A l.length c, .int .i64 C]
        | 1 => u 1 = .int .i64 a5
        | 2 => u 2 = .int .i64 p40
        | 3 => u 3 = .tuple #[.agg #[.int .i64 v1, .int .i64 v2, .int .i64 v3, .int .i64 v4], .int .i64 EC]
        | 4 => u 4 = .tuple #[.agg #[.int .i64 v1, .int .i64 v2, .int .i64 v3, .int .i64 v4], .int .i64 EC]
        | 5 => u 5 = .agg #[.int .i64 v1, .int .i64 v2, .int .i64 v3, .int .i64 v4]
        | 6 => u 6 = .int .i64 EC
        | 7 => ∃ g, u 7 = .pointer (some ⟨g, 0, none⟩) ∧ wh.heap.size ≤ g ∧ SpAt wv g zeroSp
        | 8 => ∃ g, u 7 = .pointer (some ⟨g, 0, none⟩) ∧ wh.heap.size ≤ g ∧ SpAt wv g ⟨v1, v2, v3, v4⟩
        | 9 => u 9 = .int .i64 EC
        | _ => True) := ⟨_, rfl⟩
      obtain ⟨Vp, hVdef⟩ := HV
      have Vp0 : ∀ u wv, Vp 0 u wv = (u 0 = .agg #[.slice A l.length c, .int .i64 C]) := fun u wv => by subst hVdef; rfl
      have Vp1 : ∀ u wv, Vp 1 u wv = (u 1 = .int .i64 a5) := fun u wv => by subst hVdef; rfl
      have Vp2 : ∀ u wv, Vp 2 u wv = (u 2 = .int .i64 p40) := fun u wv => by subst hVdef; rfl
      have Vp3 : ∀ u wv, Vp 3 u wv = (u 3 = .tuple #[.agg #[.int .i64 v1, .int .i64 v2, .int .i64 v3, .int .i64 v4], .int .i64 EC]) := fun u wv => by subst hVdef; rfl
      have Vp4 : ∀ u wv, Vp 4 u wv = (u 4 = .tuple #[.agg #[.int .i64 v1, .int .i64 v2, .int .i64 v3, .int .i64 v4], .int .i64 EC]) := fun u wv => by subst hVdef; rfl
      have Vp5 : ∀ u wv, Vp 5 u wv = (u 5 = .agg #[.int .i64 v1, .int .i64 v2, .int .i64 v3, .int .i64 v4]) := fun u wv => by subst hVdef; rfl
      have Vp6 : ∀ u wv, Vp 6 u wv = (u 6 = .int .i64 EC) := fun u wv => by subst hVdef; rfl
      have Vp7 : ∀ u wv, Vp 7 u wv = (∃ g, u 7 = .pointer (some ⟨g, 0, none⟩) ∧ wh.heap.size ≤ g ∧ SpAt wv g zeroSp) := fun u wv => by subst hVdef; rfl
      have Vp8 : ∀ u wv, Vp 8 u wv = (∃ g, u 7 = .pointer (some ⟨g, 0, none⟩) ∧ wh.heap.size ≤ g ∧ SpAt wv g ⟨v1, v2, v3, v4⟩) := fun u wv => by subst hVdef; rfl
      have Vp9 : ∀ u wv, Vp 9 u wv = (u 9 = .int .i64 EC) := fun u wv => by subst hVdef; rfl
      have HVD := Lib.hid hVdef
      clear hVdef
      refine region_phase (V := Vp) (drop := fun jx ix => (jx == 8 && ix == 7)) (G := fun L wv => Below wh.heap.size wh wv) (Rel := fun jx wv wv' => jx = 8 ∨ Below wv.heap.size wv wv') (by kernel_rfl) (by kernel_rfl) (Below.refl _ _).drew ?hmonop1 ?hdepp1 ⟨?s0_p1, ?s1_p1, ?s2_p1, ?s3_p1, ?s4_p1, ?s5_p1, ?s6_p1, ?s7_p1, ?s8_p1, ?s9_p1, trivial⟩ ?behindp1
      case hmonop1 =>
        intro ix jx u wv wv' hij hw hd hr
        rw [HVD.out]
        dsimp only
        split <;> intro h <;> first | exact trivial | exact h | (rcases hr with rfl | hb; (focus first | exact absurd rfl hij | (simp at hd; done) | (exact Bool.noConfusion (hw.symm.trans (show _ = true from by kernel_rfl)))); (first | (obtain ⟨g, e, hg, hm⟩ := h; exact ⟨g, e, hg, hm.on hb⟩)))
      case hdepp1 =>
        intro ix u u' wv h1 h2
        rw [HVD.out]
        dsimp only
        split <;> intro h <;> first | exact trivial | (rw [← h1]; exact h) | (obtain ⟨g, e, h⟩ := h; exact ⟨g, (h2 7 (by kernel_rfl)).symm.trans e, h⟩) | exact h
      case s0_p1 =>
        refine oweP rfl fun a wx val L hG hi hW hV hN hO K hK => ?_
        have e21 : a.tmps[21]? = some (.pointer (some ⟨bx, 0, none⟩)) := (hO 21 (by kernel_rfl)).trans (by rfl)
        clear hV hN hO
        obtain ⟨y0, y1⟩ := (HX4.out.on hG).pl.cells
        go_simp
        exact hK.out _ _ (by rw [Vp0, upd_at] <;> (congr 1 <;> omega)) (.inr (Below.refl _ _)) (hG)
      case s1_p1 =>
        refine oweP rfl fun a wx val L hG hi hW hV hN hO K hK => ?_
        have e5 : a.tmps[5]? = some (.int .i64 a5) := (hO 5 (by kernel_rfl)).trans (by rfl)
        clear hV hN hO
        go_simp
        exact hK.out _ _ (by rw [Vp1, upd_at] <;> (congr 1 <;> omega)) (.inr (Below.refl _ _)) (hG)
      case s2_p1 =>
        refine oweP rfl fun a wx val L hG hi hW hV hN hO K hK => ?_
        have e129 := hN 1 129 (by kernel_rfl) (by kernel_rfl) (by simp)
        have f129 := hV 1 (by kernel_rfl) (by kernel_rfl)
        rw [Vp1] at f129; rw [f129] at e129; clear f129
        clear hV hN hO
        go_simp
        refine (P40.out _).mono ?_
        rintro e w11 ⟨rfl, rfl⟩
        exact hK.out _ _ (by rw [Vp2, upd_at]) (.inr (Below.refl _ _)) (hG)
      case s3_p1 =>
        refine oweP rfl fun a wx val L hG hi hW hV hN hO K hK => ?_
        have e128 := hN 0 128 (by kernel_rfl) (by kernel_rfl) (by simp)
        have f128 := hV 0 (by kernel_rfl) (by kernel_rfl)
        rw [Vp0] at f128; rw [f128] at e128; clear f128
        have e130 := hN 2 130 (by kernel_rfl) (by kernel_rfl) (by simp)
        have f130 := hV 2 (by kernel_rfl) (by kernel_rfl)
        rw [Vp2] at f130; rw [f130] at e130; clear f130
        clear hV hN hO
        go_simp
        refine (AT0.out _ (HX4.out.on hG).sl).mono ?_
        rintro e w11 ⟨rfl, hb⟩
        exact hK.out _ _ (by rw [Vp3, upd_at]) (.inr (hb)) (hG.trans (hb.mono hG.size))
      case s4_p1 =>
        refine oweP rfl fun a wx val L hG hi hW hV hN hO K hK => ?_
        have e131 := hN 3 131 (by kernel_rfl) (by kernel_rfl) (by simp)
        have f131 := hV 3 (by kernel_rfl) (by kernel_rfl)
        rw [Vp3] at f131; rw [f131] at e131; clear f131
        clear hV hN hO
        go_simp
        exact hK.out _ _ (by rw [Vp4, upd_at] <;> (congr 1 <;> omega)) (.inr (Below.refl _ _)) (hG)
      case s5_p1 =>
        refine oweP rfl fun a wx val L hG hi hW hV hN hO K hK => ?_
        have e127 := hN 4 127 (by kernel_rfl) (by kernel_rfl) (by simp)
        have f127 := hV 4 (by kernel_rfl) (by kernel_rfl)
        rw [Vp4] at f127; rw [f127] at e127; clear f127
        clear hV hN hO
        go_simp
        exact hK.out _ _ (by rw [Vp5, upd_at] <;> (congr 1 <;> omega)) (.inr (Below.refl _ _)) (hG)
      case s6_p1 =>
        refine oweP rfl fun a wx val L hG hi hW hV hN hO K hK => ?_
        have e127 := hN 4 127 (by kernel_rfl) (by kernel_rfl) (by simp)
        have f127 := hV 4 (by kernel_rfl) (by kernel_rfl)
        rw [Vp4] at f127; rw [f127] at e127; clear f127
        clear hV hN hO
        go_simp
        exact hK.out _ _ (by rw [Vp6, upd_at] <;> (congr 1 <;> omega)) (.inr (Below.refl _ _)) (hG)
      case s7_p1 =>
        refine oweP rfl fun a wx val L hG hi hW hV hN hO K hK => ?_
        clear hV hN hO
        go_simp
        have hb := Joins.below_alloc1 wx (.cells #[.int .i64 0, .int .i64 0, .int .i64 0, .int .i64 0] 27)
        exact hK.out _ _ (by rw [Vp7, upd_at]; exact ⟨_, rfl, hG.size, SpAt.new' wx 0 0 0 0⟩) (.inr hb) (hG.trans (hb.mono hG.size))
      case s8_p1 =>
        refine oweP rfl fun a wx val L hG hi hW hV hN hO K hK => ?_
        have e28 := hN 7 28 (by kernel_rfl) (by kernel_rfl) (by simp)
        have f28 := hV 7 (by kernel_rfl) (by kernel_rfl)
        rw [Vp7] at f28; obtain ⟨g, hv, hg9, hmm⟩ := f28; rw [hv] at e28
        have e132 := hN 5 132 (by kernel_rfl) (by kernel_rfl) (by simp)
        have f132 := hV 5 (by kernel_rfl) (by kernel_rfl)
        rw [Vp5] at f132; rw [f132] at e132; clear f132
        clear hV hN hO
        obtain ⟨x0, x1, x2, x3⟩ := hmm.cells
        have p0 := hmm.frozen 0
        have p1 := hmm.frozen 1
        have p2 := hmm.frozen 2
        have p3 := hmm.frozen 3
        go_simp
        exact hK.out undef (putS wx g ⟨v1, v2, v3, v4⟩) (by rw [Vp8, upd_ne _ _ (by decide)]; exact ⟨g, hv, hg9, putS_at hmm _⟩) (.inl rfl) (putS_below hG hg9 _)
      case s9_p1 =>
        refine oweP rfl fun a wx val L hG hi hW hV hN hO K hK => ?_
        have e133 := hN 6 133 (by kernel_rfl) (by kernel_rfl) (by simp)
        have f133 := hV 6 (by kernel_rfl) (by kernel_rfl)
        rw [Vp6] at f133; rw [f133] at e133; clear f133
        clear hV hN hO
        go_simp
        exact hK.out _ _ (by rw [Vp9, upd_at] <;> (congr 1 <;> omega)) (.inr (Below.refl _ _)) (hG)
      intro val wx L hG hV
      have f0 := hV 0 (by simp) (fun _ _ => by simp)
      rw [Vp0] at f0
      have f1 := hV 1 (by simp) (fun _ _ => by simp)
      rw [Vp1] at f1
      have f2 := hV 2 (by simp) (fun _ _ => by simp)
      rw [Vp2] at f2
      have f3 := hV 3 (by simp) (fun _ _ => by simp)
      rw [Vp3] at f3
      have f4 := hV 4 (by simp) (fun _ _ => by simp)
      rw [Vp4] at f4
      have f5 := hV 5 (by simp) (fun _ _ => by simp)
      rw [Vp5] at f5
      have f6 := hV 6 (by simp) (fun _ _ => by simp)
      rw [Vp6] at f6
      have f8 := hV 8 (by simp) (fun _ _ => by simp)
      rw [Vp8] at f8
      have f9 := hV 9 (by simp) (fun _ _ => by simp)
      rw [Vp9] at f9
      clear hV Vp0 Vp1 Vp2 Vp3 Vp4 Vp5 Vp6 Vp7 Vp8 Vp9
      simp only [putAll, Act.put, List.setIfInBounds_toArray, List.set_cons_zero, List.set_cons_succ]
      generalize val 0 = z0 at *; (subst f0)
      generalize val 1 = z1 at *; (subst f1)
      generalize val 2 = z2 at *; (subst f2)
      generalize val 3 = z3 at *; (subst f3)
      generalize val 4 = z4 at *; (subst f4)
      generalize val 5 = z5 at *; (subst f5)
      generalize val 6 = z6 at *; (subst f6)
      generalize val 7 = z7 at *
      generalize val 9 = z9 at *; (subst f9)
      clear HVD
      obtain ⟨gc, hz28, hg9, hmm⟩ := f8
      subst hz28
      go_wp2_with fail
      go_meet
      exact ⟨gc, rfl, rfl, hmm, hG⟩
    case rest =>
    obtain ⟨gc, rfl, rfl, hsc, hb9⟩ := hcut
    have HC5 := Lib.hid hsc
    have HX5 := Lib.hid (HX4.out.on hb9)
    have HS5 := Lib.hid (HS4.out.on hb9)
    have HQ5 := Lib.hid (HQ4.out.on hb9)
    have HB5 := Lib.hid (HB4.out.trans (hb9.mono HB4.out.size))
    clear hb9 hsc HX4 HS4 HQ4 HB4 AT0
    generalize wc = wj at *
    go_wp2_with fail; refine (P40.out _).mono ?_; rintro e wd ⟨rfl, rfl⟩
    have hb := Joins.below_alloc1 wj (.cells #[.int .i64 a5, .int .i64 p40] 3)
    have HT5 : Hid (Tw (wj.alloc (.cells #[.int .i64 a5, .int .i64 p40] 3)) wj.heap.size a5 p40) := Lib.hid (heap_alloc_new wj _)
    have HC6 := Lib.hid (HC5.out.on hb)
    have HX6 := Lib.hid (HX5.out.on hb)
    have HS6 := Lib.hid (HS5.out.on hb)
    have HQ6 := Lib.hid (HQ5.out.on hb)
    have HB6 := Lib.hid (HB5.out.trans (hb.mono HB5.out.size))
    clear hb HX5 HS5 HQ5 HB5 HC5
    go_wp2_with fail
    generalize wj.alloc (.cells #[.int .i64 a5, .int .i64 p40] 3) = wk at *
    generalize wj.heap.size = q3 at *
    refine t3_loop lmx HX6 HT5 (Lib.hid ?_)
    intro x31 x32 x33 x34 x35 x139 x140 x141 x142 x143 x144 x145 x146 x147 x148 x149 x150 x151 x152 x153 x154 x155 x156 x157 x158 x159 x160 x161 x162 x163 wl hbi
    have HC7 := Lib.hid (HC6.out.on hbi)
    have HX7 := Lib.hid (HX6.out.on hbi)
    have HS7 := Lib.hid (HS6.out.on hbi)
    have HQ7 := Lib.hid (HQ6.out.on hbi)
    have HB7 := Lib.hid (HB6.out.trans (hbi.mono HB6.out.size))
    clear hbi HX6 HS6 HQ6 HB6 HT5 HC6
    obtain ⟨y0, y1, y2, y3⟩ := HC7.out.cells
    obtain ⟨z0, z1, z2, z3⟩ := HS7.out.cells
    have hb := Joins.below_alloc1 wl (.cells #[.int .i64 s1, .int .i64 s2, .int .i64 s3, .int .i64 s4, .int .i64 v1, .int .i64 v2, .int .i64 v3, .int .i64 v4, .int .i64 v1, .int .i64 s2, .int .i64 v3, .int .i64 s4, .int .i64 s1, .int .i64 v2, .int .i64 s3, .int .i64 v4] 27)
    have H4 := Lib.hid (four_spots (q := wl.heap.size) (a := ⟨s1, s2, s3, s4⟩) (b := ⟨v1, v2, v3, v4⟩) (c := ⟨v1, s2, v3, s4⟩) (d := ⟨s1, v2, s3, v4⟩) (heap_alloc_new wl (.cells #[.int .i64 s1, .int .i64 s2, .int .i64 s3, .int .i64 s4, .int .i64 v1, .int .i64 v2, .int .i64 v3, .int .i64 v4, .int .i64 v1, .int .i64 s2, .int .i64 v3, .int .i64 s4, .int .i64 s1, .int .i64 v2, .int .i64 s3, .int .i64 v4] 27)))
    have HX8 := Lib.hid (HX7.out.on hb)
    have HS8 := Lib.hid (HS7.out.on hb)
    have HQ8 := Lib.hid (HQ7.out.on hb)
    have HB8 := Lib.hid (HB7.out.trans (hb.mono HB7.out.size))
    clear hb HX7 HQ7 HB7
    go_wp2_with fail
    clear y0 y1 y2 y3 z0 z1 z2 z3 HC7 HS7
    generalize wl.alloc (.cells #[.int .i64 s1, .int .i64 s2, .int .i64 s3, .int .i64 s4, .int .i64 v1, .int .i64 v2, .int .i64 v3, .int .i64 v4, .int .i64 v1, .int .i64 s2, .int .i64 v3, .int .i64 s4, .int .i64 s1, .int .i64 v2, .int .i64 s3, .int .i64 v4] 27) = wm at *
    generalize wl.heap.size = q4 at *
    refine t4_loop lmx HX8 H4 P100 (Lib.hid ?_)
    intro x37 x38 x39 x40 x41 x42 x43 x44 x45 x46 x47 x186 x187 x188 x189 x190 x191 x192 x193 x194 x195 x196 x197 x198 x199 x200 x201 x202 x203 x204 x205 x206 x207 x208 x209 x210 x211 x212 x213 x214 x215 x216 x217 x218 x219 x220 x221 x222 x223 x224 x225 x226 x227 x228 x229 x230 x231 x232 x233 x234 x235 x236 x237 x238 x239 x240 x241 x242 wn hbi
    have HS9 := Lib.hid (HS8.out.on hbi)
    have HQ9 := Lib.hid (HQ8.out.on hbi)
    have HB9 := Lib.hid (HB8.out.trans (hbi.mono HB8.out.size))
    clear hbi HX8 HS8 HQ8 HB8 H4
    have qj : IntKind.i64.wrap ((k : Int) + 1) = (k : Int) + 1 := IntWalk.i64_in _ (by omega)
    go_wp2_with fail
    refine ⟨?_, by simp [T1Mu, intOf]; omega⟩
    unfold T1I
    refine ⟨_, _, _, _, _, _, _, _, _, _, _, _, _, _, _, _, _, _, _, _, _, _, _, _, _, _, _, _, _, _, _, _, _, _, _, _, _, _, _, _, _, _, _, _, _, _, _, _, _, _, _, _, _, _, _, _, _, _, _, _, _, _, _, _, _, _, _, _, _, _, _, _, _, _, _, _, _, _, _, _, _, _, _, _, _, _, _, _, _, _, _, _, _, _, _, _, _, _, _, _, _, _, _, _, _, _, _, _, _, _, _, _, _, _, _, _, _, _, _, _, _, _, _, _, _, _, _, _, _, _, _, _, _, _, _, _, _, _, _, _, _, _, _, _, _, _, _, _, _, _, _, _, _, _, _, _, _, _, _, _, _, _, _, _, _, _, _, _, _, _, _, _, _, _, _, _, _, _, _, _, _, _, _, _, _, _, _, _, _, _, _, _, _, _, _, _, _, _, ?_, rfl⟩
    exact ⟨k + 1, by omega, by go_num, HQ9.out, HS9.out, HB9.out⟩
  · go_wp2_with fail
    exact HE.out _ _ _ _ _ _ _ _ _ _ _ _ _ _ _ _ _ _ _ _ _ _ _ _ _ _ _ _ _ _ _ _ _ _ _ _ _ _ _ _ _ _ _ _ _ _ _ _ _ _ _ _ _ _ _ _ _ _ _ _ _ _ _ _ _ _ _ _ _ _ _ _ _ _ _ _ _ _ _ _ _ _ _ _ _ _ _ _ _ _ _ _ _ _ _ _ _ _ _ _ _ _ _ _ _ _ _ _ _ _ _ _ _ _ _ _ _ _ _ _ _ _ _ _ _ _ _ _ _ _ _ _ _ _ _ _ _ _ _ _ _ _ _ _ _ _ _ _ _ _ _ _ _ _ _ _ _ _ _ _ _ _ _ _ _ _ _ _ _ _ _ _ _ _ _ _ _ _ _ _ _ _ _ _ _ _ _ _ _ _ _ _ _ _ _ _ _ _ _ HB.out

set_option maxRecDepth 1000000 in
set_option maxHeartbeats 8000000 in
theorem t1_loop (P17 : Hid (∀ W, Calls Try.prog 17 #[.int .i64 a5, .int .i64 17] W fun e w' => e = .returned (.int .i64 p17) ∧ W = w')) (P40 : Hid (∀ W, Calls Try.prog 17 #[.int .i64 a5, .int .i64 1099511627776] W fun e w' => e = .returned (.int .i64 p40) ∧ W = w')) (P100 : Hid (∀ W, Calls Try.prog 17 #[.int .i64 a7, .int .i64 100] W fun e w' => e = .returned (.int .i64 p100) ∧ W = w')) (g17 : IntKind.i64.wrap (p17 - 1) = p17 - 1) (HQ0 : Hid (Plans X0 qb)) (HS0 : Hid (SpAt X0 bs ⟨s1, s2, s3, s4⟩))
    (HE : Hid (∀ u21 u22 u23 u24 u25 u26 u27 u28 u29 u30 u31 u32 u33 u34 u35 u36 u37 u38 u39 u40 u41 u42 u43 u44 u45 u46 u47 u73 u74 u75 u76 u77 u78 u79 u80 u81 u82 u83 u84 u85 u86 u87 u88 u89 u90 u91 u92 u93 u94 u95 u96 u97 u98 u99 u100 u101 u102 u103 u104 u105 u106 u107 u108 u109 u110 u111 u112 u113 u114 u115 u116 u117 u118 u119 u120 u121 u122 u123 u124 u125 u126 u127 u128 u129 u130 u131 u132 u133 u134 u135 u136 u137 u138 u139 u140 u141 u142 u143 u144 u145 u146 u147 u148 u149 u150 u151 u152 u153 u154 u155 u156 u157 u158 u159 u160 u161 u162 u163 u164 u165 u166 u167 u168 u169 u170 u171 u172 u173 u174 u175 u176 u177 u178 u179 u180 u181 u182 u183 u184 u185 u186 u187 u188 u189 u190 u191 u192 u193 u194 u195 u196 u197 u198 u199 u200 u201 u202 u203 u204 u205 u206 u207 u208 u209 u210 u211 u212 u213 u214 u215 u216 u217 u218 u219 u220 u221 u222 u223 u224 u225 u226 u227 u228 u229 u230 u231 u232 u233 u234 u235 u236 u237 u238 u239 u240 u241 u242 u243 w'', Below X0.heap.size X0 w'' → Q0 (.exit 0) ⟨#[c0, c1, c2, c3, c4, .int .i64 a5, c6, .int .i64 a7, c8, c9, c10, c11, c12, c13, .pointer (some ⟨bs, 0, none⟩), c15, c16, c17, c18, c19, c20, u21, u22, u23, u24, u25, u26, u27, u28, u29, u30, u31, u32, u33, u34, u35, u36, u37, u38, u39, u40, u41, u42, u43, u44, u45, u46, u47, c48, c49, c50, c51, c52, c53, c54, c55, c56, c57, c58, c59, c60, c61, c62, c63, c64, c65, c66, c67, c68, c69, c70, .slice (some ⟨qb, 0, none⟩) 3 3, .int .i64 3, u73, u74, u75, u76, u77, u78, u79, u80, u81, u82, u83, u84, u85, u86, u87, u88, u89, u90, u91, u92, u93, u94, u95, u96, u97, u98, u99, u100, u101, u102, u103, u104, u105, u106, u107, u108, u109, u110, u111, u112, u113, u114, u115, u116, u117, u118, u119, u120, u121, u122, u123, u124, u125, u126, u127, u128, u129, u130, u131, u132, u133, u134, u135, u136, u137, u138, u139, u140, u141, u142, u143, u144, u145, u146, u147, u148, u149, u150, u151, u152, u153, u154, u155, u156, u157, u158, u159, u160, u161, u162, u163, u164, u165, u166, u167, u168, u169, u170, u171, u172, u173, u174, u175, u176, u177, u178, u179, u180, u181, u182, u183, u184, u185, u186, u187, u188, u189, u190, u191, u192, u193, u194, u195, u196, u197, u198, u199, u200, u201, u202, u203, u204, u205, u206, u207, u208, u209, u210, u211, u212, u213, u214, u215, u216, u217, u218, u219, u220, u221, u222, u223, u224, u225, u226, u227, u228, u229, u230, u231, u232, u233, u234, u235, u236, u237, u238, u239, u240, u241, u242, u243, c244], []⟩ w'')) :
    Code.wp Try.prog (Code.loop tel1) Q0 ⟨#[c0, c1, c2, c3, c4, .int .i64 a5, c6, .int .i64 a7, c8, c9, c10, c11, c12, c13, .pointer (some ⟨bs, 0, none⟩), c15, c16, c17, c18, c19, c20, u21, u22, u23, u24, u25, u26, u27, u28, u29, u30, u31, u32, u33, u34, u35, u36, u37, u38, u39, u40, u41, u42, u43, u44, u45, u46, u47, c48, c49, c50, c51, c52, c53, c54, c55, c56, c57, c58, c59, c60, c61, c62, c63, c64, c65, c66, c67, c68, c69, c70, .slice (some ⟨qb, 0, none⟩) 3 3, .int .i64 3, .int .i64 0, u74, u75, u76, u77, u78, u79, u80, u81, u82, u83, u84, u85, u86, u87, u88, u89, u90, u91, u92, u93, u94, u95, u96, u97, u98, u99, u100, u101, u102, u103, u104, u105, u106, u107, u108, u109, u110, u111, u112, u113, u114, u115, u116, u117, u118, u119, u120, u121, u122, u123, u124, u125, u126, u127, u128, u129, u130, u131, u132, u133, u134, u135, u136, u137, u138, u139, u140, u141, u142, u143, u144, u145, u146, u147, u148, u149, u150, u151, u152, u153, u154, u155, u156, u157, u158, u159, u160, u161, u162, u163, u164, u165, u166, u167, u168, u169, u170, u171, u172, u173, u174, u175, u176, u177, u178, u179, u180, u181, u182, u183, u184, u185, u186, u187, u188, u189, u190, u191, u192, u193, u194, u195, u196, u197, u198, u199, u200, u201, u202, u203, u204, u205, u206, u207, u208, u209, u210, u211, u212, u213, u214, u215, u216, u217, u218, u219, u220, u221, u222, u223, u224, u225, u226, u227, u228, u229, u230, u231, u232, u233, u234, u235, u236, u237, u238, u239, u240, u241, u242, u243, c244], []⟩ X0 := by
  refine wp_loop (T1I bs qb a5 a7 s1 s2 s3 s4 c0 c1 c2 c3 c4 c6 c8 c9 c10 c11 c12 c13 c15 c16 c17 c18 c19 c20 c48 c49 c50 c51 c52 c53 c54 c55 c56 c57 c58 c59 c60 c61 c62 c63 c64 c65 c66 c67 c68 c69 c70 c244 X0) T1Mu ?_ (fun a wr hI => ?_)
  · unfold T1I
    exact ⟨u21, u22, u23, u24, u25, u26, u27, u28, u29, u30, u31, u32, u33, u34, u35, u36, u37, u38, u39, u40, u41, u42, u43, u44, u45, u46, u47, .int .i64 0, u74, u75, u76, u77, u78, u79, u80, u81, u82, u83, u84, u85, u86, u87, u88, u89, u90, u91, u92, u93, u94, u95, u96, u97, u98, u99, u100, u101, u102, u103, u104, u105, u106, u107, u108, u109, u110, u111, u112, u113, u114, u115, u116, u117, u118, u119, u120, u121, u122, u123, u124, u125, u126, u127, u128, u129, u130, u131, u132, u133, u134, u135, u136, u137, u138, u139, u140, u141, u142, u143, u144, u145, u146, u147, u148, u149, u150, u151, u152, u153, u154, u155, u156, u157, u158, u159, u160, u161, u162, u163, u164, u165, u166, u167, u168, u169, u170, u171, u172, u173, u174, u175, u176, u177, u178, u179, u180, u181, u182, u183, u184, u185, u186, u187, u188, u189, u190, u191, u192, u193, u194, u195, u196, u197, u198, u199, u200, u201, u202, u203, u204, u205, u206, u207, u208, u209, u210, u211, u212, u213, u214, u215, u216, u217, u218, u219, u220, u221, u222, u223, u224, u225, u226, u227, u228, u229, u230, u231, u232, u233, u234, u235, u236, u237, u238, u239, u240, u241, u242, u243, ⟨0, by omega, rfl, HQ0.out, HS0.out, Below.refl _ _⟩, rfl⟩
  · unfold T1I at hI
    obtain ⟨u21, hI⟩ := hI
    obtain ⟨u22, hI⟩ := hI
    obtain ⟨u23, hI⟩ := hI
    obtain ⟨u24, hI⟩ := hI
    obtain ⟨u25, hI⟩ := hI
    obtain ⟨u26, hI⟩ := hI
    obtain ⟨u27, hI⟩ := hI
    obtain ⟨u28, hI⟩ := hI
    obtain ⟨u29, hI⟩ := hI
    obtain ⟨u30, hI⟩ := hI
    obtain ⟨u31, hI⟩ := hI
    obtain ⟨u32, hI⟩ := hI
    obtain ⟨u33, hI⟩ := hI
    obtain ⟨u34, hI⟩ := hI
    obtain ⟨u35, hI⟩ := hI
    obtain ⟨u36, hI⟩ := hI
    obtain ⟨u37, hI⟩ := hI
    obtain ⟨u38, hI⟩ := hI
    obtain ⟨u39, hI⟩ := hI
    obtain ⟨u40, hI⟩ := hI
    obtain ⟨u41, hI⟩ := hI
    obtain ⟨u42, hI⟩ := hI
    obtain ⟨u43, hI⟩ := hI
    obtain ⟨u44, hI⟩ := hI
    obtain ⟨u45, hI⟩ := hI
    obtain ⟨u46, hI⟩ := hI
    obtain ⟨u47, hI⟩ := hI
    obtain ⟨u73, hI⟩ := hI
    obtain ⟨u74, hI⟩ := hI
    obtain ⟨u75, hI⟩ := hI
    obtain ⟨u76, hI⟩ := hI
    obtain ⟨u77, hI⟩ := hI
    obtain ⟨u78, hI⟩ := hI
    obtain ⟨u79, hI⟩ := hI
    obtain ⟨u80, hI⟩ := hI
    obtain ⟨u81, hI⟩ := hI
    obtain ⟨u82, hI⟩ := hI
    obtain ⟨u83, hI⟩ := hI
    obtain ⟨u84, hI⟩ := hI
    obtain ⟨u85, hI⟩ := hI
    obtain ⟨u86, hI⟩ := hI
    obtain ⟨u87, hI⟩ := hI
    obtain ⟨u88, hI⟩ := hI
    obtain ⟨u89, hI⟩ := hI
    obtain ⟨u90, hI⟩ := hI
    obtain ⟨u91, hI⟩ := hI
    obtain ⟨u92, hI⟩ := hI
    obtain ⟨u93, hI⟩ := hI
    obtain ⟨u94, hI⟩ := hI
    obtain ⟨u95, hI⟩ := hI
    obtain ⟨u96, hI⟩ := hI
    obtain ⟨u97, hI⟩ := hI
    obtain ⟨u98, hI⟩ := hI
    obtain ⟨u99, hI⟩ := hI
    obtain ⟨u100, hI⟩ := hI
    obtain ⟨u101, hI⟩ := hI
    obtain ⟨u102, hI⟩ := hI
    obtain ⟨u103, hI⟩ := hI
    obtain ⟨u104, hI⟩ := hI
    obtain ⟨u105, hI⟩ := hI
    obtain ⟨u106, hI⟩ := hI
    obtain ⟨u107, hI⟩ := hI
    obtain ⟨u108, hI⟩ := hI
    obtain ⟨u109, hI⟩ := hI
    obtain ⟨u110, hI⟩ := hI
    obtain ⟨u111, hI⟩ := hI
    obtain ⟨u112, hI⟩ := hI
    obtain ⟨u113, hI⟩ := hI
    obtain ⟨u114, hI⟩ := hI
    obtain ⟨u115, hI⟩ := hI
    obtain ⟨u116, hI⟩ := hI
    obtain ⟨u117, hI⟩ := hI
    obtain ⟨u118, hI⟩ := hI
    obtain ⟨u119, hI⟩ := hI
    obtain ⟨u120, hI⟩ := hI
    obtain ⟨u121, hI⟩ := hI
    obtain ⟨u122, hI⟩ := hI
    obtain ⟨u123, hI⟩ := hI
    obtain ⟨u124, hI⟩ := hI
    obtain ⟨u125, hI⟩ := hI
    obtain ⟨u126, hI⟩ := hI
    obtain ⟨u127, hI⟩ := hI
    obtain ⟨u128, hI⟩ := hI
    obtain ⟨u129, hI⟩ := hI
    obtain ⟨u130, hI⟩ := hI
    obtain ⟨u131, hI⟩ := hI
    obtain ⟨u132, hI⟩ := hI
    obtain ⟨u133, hI⟩ := hI
    obtain ⟨u134, hI⟩ := hI
    obtain ⟨u135, hI⟩ := hI
    obtain ⟨u136, hI⟩ := hI
    obtain ⟨u137, hI⟩ := hI
    obtain ⟨u138, hI⟩ := hI
    obtain ⟨u139, hI⟩ := hI
    obtain ⟨u140, hI⟩ := hI
    obtain ⟨u141, hI⟩ := hI
    obtain ⟨u142, hI⟩ := hI
    obtain ⟨u143, hI⟩ := hI
    obtain ⟨u144, hI⟩ := hI
    obtain ⟨u145, hI⟩ := hI
    obtain ⟨u146, hI⟩ := hI
    obtain ⟨u147, hI⟩ := hI
    obtain ⟨u148, hI⟩ := hI
    obtain ⟨u149, hI⟩ := hI
    obtain ⟨u150, hI⟩ := hI
    obtain ⟨u151, hI⟩ := hI
    obtain ⟨u152, hI⟩ := hI
    obtain ⟨u153, hI⟩ := hI
    obtain ⟨u154, hI⟩ := hI
    obtain ⟨u155, hI⟩ := hI
    obtain ⟨u156, hI⟩ := hI
    obtain ⟨u157, hI⟩ := hI
    obtain ⟨u158, hI⟩ := hI
    obtain ⟨u159, hI⟩ := hI
    obtain ⟨u160, hI⟩ := hI
    obtain ⟨u161, hI⟩ := hI
    obtain ⟨u162, hI⟩ := hI
    obtain ⟨u163, hI⟩ := hI
    obtain ⟨u164, hI⟩ := hI
    obtain ⟨u165, hI⟩ := hI
    obtain ⟨u166, hI⟩ := hI
    obtain ⟨u167, hI⟩ := hI
    obtain ⟨u168, hI⟩ := hI
    obtain ⟨u169, hI⟩ := hI
    obtain ⟨u170, hI⟩ := hI
    obtain ⟨u171, hI⟩ := hI
    obtain ⟨u172, hI⟩ := hI
    obtain ⟨u173, hI⟩ := hI
    obtain ⟨u174, hI⟩ := hI
    obtain ⟨u175, hI⟩ := hI
    obtain ⟨u176, hI⟩ := hI
    obtain ⟨u177, hI⟩ := hI
    obtain ⟨u178, hI⟩ := hI
    obtain ⟨u179, hI⟩ := hI
    obtain ⟨u180, hI⟩ := hI
    obtain ⟨u181, hI⟩ := hI
    obtain ⟨u182, hI⟩ := hI
    obtain ⟨u183, hI⟩ := hI
    obtain ⟨u184, hI⟩ := hI
    obtain ⟨u185, hI⟩ := hI
    obtain ⟨u186, hI⟩ := hI
    obtain ⟨u187, hI⟩ := hI
    obtain ⟨u188, hI⟩ := hI
    obtain ⟨u189, hI⟩ := hI
    obtain ⟨u190, hI⟩ := hI
    obtain ⟨u191, hI⟩ := hI
    obtain ⟨u192, hI⟩ := hI
    obtain ⟨u193, hI⟩ := hI
    obtain ⟨u194, hI⟩ := hI
    obtain ⟨u195, hI⟩ := hI
    obtain ⟨u196, hI⟩ := hI
    obtain ⟨u197, hI⟩ := hI
    obtain ⟨u198, hI⟩ := hI
    obtain ⟨u199, hI⟩ := hI
    obtain ⟨u200, hI⟩ := hI
    obtain ⟨u201, hI⟩ := hI
    obtain ⟨u202, hI⟩ := hI
    obtain ⟨u203, hI⟩ := hI
    obtain ⟨u204, hI⟩ := hI
    obtain ⟨u205, hI⟩ := hI
    obtain ⟨u206, hI⟩ := hI
    obtain ⟨u207, hI⟩ := hI
    obtain ⟨u208, hI⟩ := hI
    obtain ⟨u209, hI⟩ := hI
    obtain ⟨u210, hI⟩ := hI
    obtain ⟨u211, hI⟩ := hI
    obtain ⟨u212, hI⟩ := hI
    obtain ⟨u213, hI⟩ := hI
    obtain ⟨u214, hI⟩ := hI
    obtain ⟨u215, hI⟩ := hI
    obtain ⟨u216, hI⟩ := hI
    obtain ⟨u217, hI⟩ := hI
    obtain ⟨u218, hI⟩ := hI
    obtain ⟨u219, hI⟩ := hI
    obtain ⟨u220, hI⟩ := hI
    obtain ⟨u221, hI⟩ := hI
    obtain ⟨u222, hI⟩ := hI
    obtain ⟨u223, hI⟩ := hI
    obtain ⟨u224, hI⟩ := hI
    obtain ⟨u225, hI⟩ := hI
    obtain ⟨u226, hI⟩ := hI
    obtain ⟨u227, hI⟩ := hI
    obtain ⟨u228, hI⟩ := hI
    obtain ⟨u229, hI⟩ := hI
    obtain ⟨u230, hI⟩ := hI
    obtain ⟨u231, hI⟩ := hI
    obtain ⟨u232, hI⟩ := hI
    obtain ⟨u233, hI⟩ := hI
    obtain ⟨u234, hI⟩ := hI
    obtain ⟨u235, hI⟩ := hI
    obtain ⟨u236, hI⟩ := hI
    obtain ⟨u237, hI⟩ := hI
    obtain ⟨u238, hI⟩ := hI
    obtain ⟨u239, hI⟩ := hI
    obtain ⟨u240, hI⟩ := hI
    obtain ⟨u241, hI⟩ := hI
    obtain ⟨u242, hI⟩ := hI
    obtain ⟨u243, hI⟩ := hI
    obtain ⟨⟨k, hk, rfl, hq, hs, hb⟩, rfl⟩ := hI
    exact t1_round P17 P40 P100 g17 HE hk (Lib.hid hq) (Lib.hid hs) (Lib.hid hb)
end
end Go.Proofs.Ytmklabdfalkldaa

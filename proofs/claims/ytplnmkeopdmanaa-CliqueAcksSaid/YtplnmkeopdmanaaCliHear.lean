/-
  What a slot does to an ear: slots, good, spoilt, Hear.
-/
import Derived.Test.YtplnmkeopdmanaaCliBase
namespace Go.Proofs.Ytplnmkeopdmanaa
open Go.RowKit

theorem int_desc : Try.prog.underlying 3 = some (.int .i64) := Try.underlying3
def slE : Array MapEntry := #[⟨.int .i64 1, .func (.func 32) #[] #[], 0⟩, ⟨.int .i64 2, .func (.func 33) #[] #[], 1⟩]
theorem ins_at {w : World} {b : Nat} {es : Array MapEntry} {clock : Nat} {k : Int} {v : Value} (hb : w.heap[b]? = some (.map es clock)) (hn : Instr.findNow (.int .i64) (.int .i64 k) es.toList 0 = some none) :
    ∃ w', (Instr.mapUpdate 46 (.map (some b)) (.int .i64 k) v).run Try.prog w = .ok () w' ∧ (∀ B, B ≤ b → Below B w w') ∧ w'.heap[b]? = some (.map (es.push { key := .int .i64 k, val := v, born := clock }) (clock + 1)) := by
  have hk : Go.MapKept.IsKey (.int .i64) (.int .i64 k) := rfl
  refine ⟨{ w with heap := w.heap.setIfInBounds b (.map (es.push { key := .int .i64 k, val := v, born := clock }) (clock + 1)) }, ?_, fun B hB => ⟨rfl, rfl, rfl, by simp, fun j hj => (Go.MapKept.heap_set hb).2 j (by omega)⟩, (Go.MapKept.heap_set hb).1⟩
  simp only [Instr.mapUpdate, Sem.run_bind, run_underlying Try.underlying46, Result.andThen]
  simp only [Sem.run_bind, Go.MapKept.run_getObj_map hb, Go.MapKept.run_checkKey int_desc hk, Go.MapKept.run_findKey int_desc hn, Go.MapKept.run_setObj_map _ hb, Result.andThen]

set_option maxRecDepth 100000 in
theorem slots_any (w : World) : Calls Try.prog 25 #[] w fun e w' => e = .returned (.map (some w.heap.size)) ∧ Below w.heap.size w w' ∧ w'.heap[w.heap.size]? = some (.map slE 2) := by
  have hmm := @run_makeMap Try.prog
  have h0 : (w.alloc (.map #[] 0)).heap[w.heap.size]? = some (.map #[] 0) := heap_new w _
  obtain ⟨w1, i1, b1, m1⟩ := ins_at (k := 1) (v := .func (.func 32) #[] #[]) h0 (by rfl)
  obtain ⟨w2, i2, b2, m2⟩ := ins_at (k := 2) (v := .func (.func 33) #[] #[]) m1 (by rfl)
  have HB : Hid (Below w.heap.size w w2) := Lib.hid ((((Below.refl _ w).alloc (Nat.le_refl _) _).trans (b1 _ (Nat.le_refl _))).trans (b2 _ (Nat.le_refl _)))
  have HM : Hid (w2.heap[w.heap.size]? = some (.map slE 2)) := Lib.hid m2
  clear b1 b2 m1 m2 h0
  go_enter Try.func25, Try.ntmps25
  go_wp2_with fail
  go_ret
  exact ⟨rfl, HB.out, HM.out⟩

def knownB (k : Int) : Bool := k == 1 || k == 2
def kindF (k : Int) : Value := if k = 1 then .func (.func 32) #[] #[] else if k = 2 then .func (.func 33) #[] #[] else .nilFunc
theorem look_at {w : World} {b : Nat} (hb : w.heap[b]? = some (.map slE 2)) (k : Int) (c : Bool) : (Instr.lookup 46 (.map (some b)) (.int .i64 k) c).run Try.prog w = .ok (if c then .tuple #[kindF k, .bool (knownB k)] else kindF k) w := by
  have hk : Go.MapKept.IsKey (.int .i64) (.int .i64 k) := rfl
  have hn : Instr.findNow (.int .i64) (.int .i64 k) slE.toList 0 = some (if k = 1 then some (0, .func (.func 32) #[] #[]) else if k = 2 then some (1, .func (.func 33) #[] #[]) else none) := by
    by_cases h0 : k = 1
    · subst h0; rfl
    by_cases h1 : k = 2
    · subst h1; rfl
    have e0 : (k == (1 : Int)) = false := by simpa using h0
    have e1 : (k == (2 : Int)) = false := by simpa using h1
    simp [slE, Instr.findNow, Instr.sameNow, e0, e1, h0, h1]
  by_cases h0 : k = 1
  · subst h0
    simp [Instr.lookup, run_underlying Try.underlying46, Result.andThen, Go.MapKept.run_getObj_map hb, Go.MapKept.run_checkKey int_desc hk, Go.MapKept.run_findKey int_desc hn, kindF, knownB]
  by_cases h1 : k = 2
  · subst h1
    simp [Instr.lookup, run_underlying Try.underlying46, Result.andThen, Go.MapKept.run_getObj_map hb, Go.MapKept.run_checkKey int_desc hk, Go.MapKept.run_findKey int_desc hn, kindF, knownB]
  rw [if_neg h0, if_neg h1] at hn
  have z0 : (k == 1) = false := by simpa using h0
  have z1 : (k == 2) = false := by simpa using h1
  simp [Instr.lookup, run_underlying Try.underlying46, Result.andThen, Go.MapKept.run_getObj_map hb, Go.MapKept.run_checkKey int_desc hk, Go.MapKept.run_findKey int_desc hn, kindF, knownB, h0, h1, z0, z1]

def ErAt2 (w : World) (b : Nat) (e : Er) : Prop := w.heap[b]? = some (.cells #[.int .i64 e.h, .int .i64 e.g, .int .i64 e.b] 49 (0, 0))
theorem ErAt2.new (w : World) (e : Er) : ErAt2 (w.alloc (.cells #[.int .i64 e.h, .int .i64 e.g, .int .i64 e.b] 49)) w.heap.size e := heap_new w _
theorem ErAt2.cells {w : World} {b : Nat} {e : Er} (h : ErAt2 w b e) : w.cell? ⟨b, 0, none⟩ = some (.int .i64 e.h) ∧ w.cell? ⟨b, 1, none⟩ = some (.int .i64 e.g) ∧ w.cell? ⟨b, 2, none⟩ = some (.int .i64 e.b) := ⟨cell_of h 0, cell_of h 1, cell_of h 2⟩
theorem good_res {Y : World} {b : Nat} {e : Er} {T : Array Value} (h0 : Y.cell? ⟨b, 0, none⟩ = some (.int .i64 e.h)) (h1 : Y.cell? ⟨b, 1, none⟩ = some (.int .i64 e.g)) (h2 : Y.cell? ⟨b, 2, none⟩ = some (.int .i64 e.b)) (ht : T[4]? = some (.pointer (some ⟨b, 0, none⟩))) :
    (results Try.f32 T).run Try.prog Y = .ok (ev e) Y := by
  simp [results, Try.results32, go_sem, ht, h0, h1, h2]
theorem bad_res {Y : World} {b : Nat} {e : Er} {T : Array Value} (h0 : Y.cell? ⟨b, 0, none⟩ = some (.int .i64 e.h)) (h1 : Y.cell? ⟨b, 1, none⟩ = some (.int .i64 e.g)) (h2 : Y.cell? ⟨b, 2, none⟩ = some (.int .i64 e.b)) (ht : T[4]? = some (.pointer (some ⟨b, 0, none⟩))) :
    (results Try.f33 T).run Try.prog Y = .ok (ev e) Y := by
  simp [results, Try.results33, go_sem, ht, h0, h1, h2]
theorem hear_res {Y : World} {b : Nat} {e : Er} {T : Array Value} (h0 : Y.cell? ⟨b, 0, none⟩ = some (.int .i64 e.h)) (h1 : Y.cell? ⟨b, 1, none⟩ = some (.int .i64 e.g)) (h2 : Y.cell? ⟨b, 2, none⟩ = some (.int .i64 e.b)) (ht : T[6]? = some (.pointer (some ⟨b, 0, none⟩))) :
    (results Try.f14 T).run Try.prog Y = .ok (ev e) Y := by
  simp [results, Try.results14, go_sem, ht, h0, h1, h2]

set_option maxRecDepth 100000 in
set_option maxHeartbeats 1000000 in
theorem good_any (e : Er) (n : Int) (w : World) :
    Calls Try.prog 32 #[ev e, .int .i64 n] w fun r w' => r = .returned (ev (goodE e n)) ∧ Below w.heap.size w w' := by
  obtain ⟨h, g, b⟩ := e
  have c1 := fun W => with_any h n W
  have c2 := fun W => more_any g W
  unfold goodE
  dsimp only
  generalize withI h n = H at *
  generalize moreI g = G at *
  go_enter Try.func32, Try.ntmps32
  go_wp2_with fail; refine (c1 _).mono ?_; rintro e w1 ⟨rfl, rfl⟩
  go_wp2_with fail; refine (c2 _).mono ?_; rintro e w1 ⟨rfl, rfl⟩
  go_wp2_with fail
  have hp : ErAt2 _ _ ⟨H, G, b⟩ := ErAt2.new (w.alloc (.cells #[.int .i64 H, .int .i64 G, .int .i64 b] 49)) _
  obtain ⟨y0, y1, y2⟩ := hp.cells
  rw [World.size_alloc] at y0 y1 y2
  exact bodyPost_ret (good_res y0 y1 y2 rfl) rfl ⟨rfl, Joins.below_alloc2 w _ _⟩
set_option maxRecDepth 100000 in
set_option maxHeartbeats 1000000 in
theorem bad_any (e : Er) (n : Int) (w : World) :
    Calls Try.prog 33 #[ev e, .int .i64 n] w fun r w' => r = .returned (ev (badE e)) ∧ Below w.heap.size w w' := by
  obtain ⟨h, g, b⟩ := e
  have c2 := fun W => more_any b W
  unfold badE
  dsimp only
  generalize moreI b = G at *
  go_enter Try.func33, Try.ntmps33
  go_wp2_with fail; refine (c2 _).mono ?_; rintro e w1 ⟨rfl, rfl⟩
  go_wp2_with fail
  have hp : ErAt2 _ _ ⟨h, g, G⟩ := ErAt2.new (w.alloc (.cells #[.int .i64 h, .int .i64 g, .int .i64 G] 49)) _
  obtain ⟨y0, y1, y2⟩ := hp.cells
  rw [World.size_alloc] at y0 y1 y2
  exact bodyPost_ret (bad_res y0 y1 y2 rfl) rfl ⟨rfl, Joins.below_alloc2 w _ _⟩

theorem kindF_one : kindF 1 = .func (.func 32) #[] #[] := by unfold kindF; rw [if_pos rfl]
theorem kindF_two : kindF 2 = .func (.func 33) #[] #[] := by unfold kindF; rw [if_neg (by decide), if_pos rfl]

/-! ## Hear -/
theorem known_no {k : Int} (h1 : k ≠ 1) (h2 : k ≠ 2) : knownB k = false := by simp [knownB, h1, h2]
set_option maxRecDepth 100000 in
set_option maxHeartbeats 2000000 in
theorem hear_good_any (e : Er) (n : Int) (hn : nodeB n = true) (w : World) :
    Calls Try.prog 14 #[ev e, .int .i64 n, .int .i64 1] w fun r w' => r = .returned (ev (goodE e n)) ∧ Below w.heap.size w w' := by
  obtain ⟨h, g, b⟩ := e
  have cn := fun W => isNode_any n W
  rw [hn] at cn
  have cf := Lib.hid (fun W => good_any ⟨h, g, b⟩ n W)
  generalize hR : (goodE (⟨h, g, b⟩ : Er) n) = R at *
  have HL : Hid (∀ {W : World} {b : Nat}, W.heap[b]? = some (.map slE 2) → (Instr.lookup 46 (.map (some b)) (.int .i64 1) true).run Try.prog W = .ok (.tuple #[.func (.func 32) #[] #[], .bool true]) W) := Lib.hid (fun hb => by have q := look_at hb 1 true; rw [if_pos rfl, kindF_one] at q; exact q)
  have hE := ErAt.new w ⟨h, g, b⟩
  have hb1 := Joins.below_alloc1 w (.cells #[.int .i64 h, .int .i64 g, .int .i64 b] 26)
  have hF := ErAt.new (w.alloc (.cells #[.int .i64 h, .int .i64 g, .int .i64 b] 26)) ⟨0, 0, 0⟩
  have hb2 := Joins.below_alloc1 (w.alloc (.cells #[.int .i64 h, .int .i64 g, .int .i64 b] 26)) (.cells #[.int .i64 0, .int .i64 0, .int .i64 0] 26)
  have hE2 := hE.on hb2
  have hB := hb1.trans (hb2.mono hb1.size)
  rw [World.size_alloc] at hF
  clear hE hb1 hb2
  go_enter Try.func14, Try.ntmps14
  go_wp2_with fail
  generalize (w.alloc (.cells #[.int .i64 h, .int .i64 g, .int .i64 b] 26)).alloc (.cells #[.int .i64 0, .int .i64 0, .int .i64 0] 26) = X at *
  refine (slots_any _).mono ?_; rintro r w1 ⟨rfl, b1, hm⟩
  have HE := Lib.hid (hE2.on b1); have HF := Lib.hid (hF.on b1)
  have HB := Lib.hid (hB.trans (b1.mono hB.size))
  have hl := HL.out hm
  generalize X.heap.size = M at *
  clear hE2 hF hB b1 hm
  go_wp2_with fail; refine (cn _).mono ?_; rintro r w2 ⟨rfl, rfl⟩
  clear hl
  obtain ⟨y0, y1, y2⟩ := HE.out.cells
  go_wp2_with fail; refine (cf.out _).mono ?_; rintro r w3 ⟨rfl, b2⟩
  replace HF := Lib.hid (HF.out.on b2)
  replace HB := Lib.hid (HB.out.trans (b2.mono HB.out.size))
  obtain ⟨z0, z1, z2⟩ := HF.out.cells; have hfr := HF.out.frozen
  obtain ⟨R0, R1, R2⟩ := R
  go_wp2_with fail
  have hp := ErAt.set HF.out ⟨R0, R1, R2⟩
  obtain ⟨x0, x1, x2⟩ := hp.cells
  exact bodyPost_ret (hear_res x0 x1 x2 rfl) rfl ⟨rfl, below_set3 HB.out (by omega) _ _ _⟩

set_option maxRecDepth 100000 in
set_option maxHeartbeats 2000000 in
theorem hear_bad_any (e : Er) (n : Int) (hn : nodeB n = true) (w : World) :
    Calls Try.prog 14 #[ev e, .int .i64 n, .int .i64 2] w fun r w' => r = .returned (ev (badE e)) ∧ Below w.heap.size w w' := by
  obtain ⟨h, g, b⟩ := e
  have cn := fun W => isNode_any n W
  rw [hn] at cn
  have cf := Lib.hid (fun W => bad_any ⟨h, g, b⟩ n W)
  generalize hR : (badE (⟨h, g, b⟩ : Er)) = R at *
  have HL : Hid (∀ {W : World} {b : Nat}, W.heap[b]? = some (.map slE 2) → (Instr.lookup 46 (.map (some b)) (.int .i64 2) true).run Try.prog W = .ok (.tuple #[.func (.func 33) #[] #[], .bool true]) W) := Lib.hid (fun hb => by have q := look_at hb 2 true; rw [if_pos rfl, kindF_two] at q; exact q)
  have hE := ErAt.new w ⟨h, g, b⟩
  have hb1 := Joins.below_alloc1 w (.cells #[.int .i64 h, .int .i64 g, .int .i64 b] 26)
  have hF := ErAt.new (w.alloc (.cells #[.int .i64 h, .int .i64 g, .int .i64 b] 26)) ⟨0, 0, 0⟩
  have hb2 := Joins.below_alloc1 (w.alloc (.cells #[.int .i64 h, .int .i64 g, .int .i64 b] 26)) (.cells #[.int .i64 0, .int .i64 0, .int .i64 0] 26)
  have hE2 := hE.on hb2
  have hB := hb1.trans (hb2.mono hb1.size)
  rw [World.size_alloc] at hF
  clear hE hb1 hb2
  go_enter Try.func14, Try.ntmps14
  go_wp2_with fail
  generalize (w.alloc (.cells #[.int .i64 h, .int .i64 g, .int .i64 b] 26)).alloc (.cells #[.int .i64 0, .int .i64 0, .int .i64 0] 26) = X at *
  refine (slots_any _).mono ?_; rintro r w1 ⟨rfl, b1, hm⟩
  have HE := Lib.hid (hE2.on b1); have HF := Lib.hid (hF.on b1)
  have HB := Lib.hid (hB.trans (b1.mono hB.size))
  have hl := HL.out hm
  generalize X.heap.size = M at *
  clear hE2 hF hB b1 hm
  go_wp2_with fail; refine (cn _).mono ?_; rintro r w2 ⟨rfl, rfl⟩
  clear hl
  obtain ⟨y0, y1, y2⟩ := HE.out.cells
  go_wp2_with fail; refine (cf.out _).mono ?_; rintro r w3 ⟨rfl, b2⟩
  replace HF := Lib.hid (HF.out.on b2)
  replace HB := Lib.hid (HB.out.trans (b2.mono HB.out.size))
  obtain ⟨z0, z1, z2⟩ := HF.out.cells; have hfr := HF.out.frozen
  obtain ⟨R0, R1, R2⟩ := R
  go_wp2_with fail
  have hp := ErAt.set HF.out ⟨R0, R1, R2⟩
  obtain ⟨x0, x1, x2⟩ := hp.cells
  exact bodyPost_ret (hear_res x0 x1 x2 rfl) rfl ⟨rfl, below_set3 HB.out (by omega) _ _ _⟩

set_option maxRecDepth 100000 in
set_option maxHeartbeats 2000000 in
theorem hear_off1_any (e : Er) (n : Int) (hn : nodeB n = false) (w : World) :
    Calls Try.prog 14 #[ev e, .int .i64 n, .int .i64 1] w fun r w' => r = .returned (ev e) ∧ Below w.heap.size w w' := by
  obtain ⟨h, g, b⟩ := e
  have cn := fun W => isNode_any n W
  rw [hn] at cn
  have HL : Hid (∀ {W : World} {b : Nat}, W.heap[b]? = some (.map slE 2) → (Instr.lookup 46 (.map (some b)) (.int .i64 1) true).run Try.prog W = .ok (.tuple #[.func (.func 32) #[] #[], .bool true]) W) := Lib.hid (fun hb => by have q := look_at hb 1 true; rw [if_pos rfl, kindF_one] at q; exact q)
  have hE := ErAt.new w ⟨h, g, b⟩
  have hb1 := Joins.below_alloc1 w (.cells #[.int .i64 h, .int .i64 g, .int .i64 b] 26)
  have hF := ErAt.new (w.alloc (.cells #[.int .i64 h, .int .i64 g, .int .i64 b] 26)) ⟨0, 0, 0⟩
  have hb2 := Joins.below_alloc1 (w.alloc (.cells #[.int .i64 h, .int .i64 g, .int .i64 b] 26)) (.cells #[.int .i64 0, .int .i64 0, .int .i64 0] 26)
  have hE2 := hE.on hb2
  have hB := hb1.trans (hb2.mono hb1.size)
  rw [World.size_alloc] at hF
  clear hE hb1 hb2
  go_enter Try.func14, Try.ntmps14
  go_wp2_with fail
  generalize (w.alloc (.cells #[.int .i64 h, .int .i64 g, .int .i64 b] 26)).alloc (.cells #[.int .i64 0, .int .i64 0, .int .i64 0] 26) = X at *
  refine (slots_any _).mono ?_; rintro r w1 ⟨rfl, b1, hm⟩
  have HE := Lib.hid (hE2.on b1); have HF := Lib.hid (hF.on b1)
  have HB := Lib.hid (hB.trans (b1.mono hB.size))
  have hl := HL.out hm
  generalize X.heap.size = M at *
  clear hE2 hF hB b1 hm
  go_wp2_with fail; refine (cn _).mono ?_; rintro r w2 ⟨rfl, rfl⟩
  clear hl
  obtain ⟨y0, y1, y2⟩ := HE.out.cells
  obtain ⟨z0, z1, z2⟩ := HF.out.cells; have hfr := HF.out.frozen
  go_wp2_with fail
  have hp := ErAt.set HF.out ⟨h, g, b⟩
  obtain ⟨x0, x1, x2⟩ := hp.cells
  exact bodyPost_ret (hear_res x0 x1 x2 rfl) rfl ⟨rfl, below_set3 HB.out (by omega) _ _ _⟩

set_option maxRecDepth 100000 in
set_option maxHeartbeats 2000000 in
theorem hear_off2_any (e : Er) (n : Int) (hn : nodeB n = false) (w : World) :
    Calls Try.prog 14 #[ev e, .int .i64 n, .int .i64 2] w fun r w' => r = .returned (ev e) ∧ Below w.heap.size w w' := by
  obtain ⟨h, g, b⟩ := e
  have cn := fun W => isNode_any n W
  rw [hn] at cn
  have HL : Hid (∀ {W : World} {b : Nat}, W.heap[b]? = some (.map slE 2) → (Instr.lookup 46 (.map (some b)) (.int .i64 2) true).run Try.prog W = .ok (.tuple #[.func (.func 33) #[] #[], .bool true]) W) := Lib.hid (fun hb => by have q := look_at hb 2 true; rw [if_pos rfl, kindF_two] at q; exact q)
  have hE := ErAt.new w ⟨h, g, b⟩
  have hb1 := Joins.below_alloc1 w (.cells #[.int .i64 h, .int .i64 g, .int .i64 b] 26)
  have hF := ErAt.new (w.alloc (.cells #[.int .i64 h, .int .i64 g, .int .i64 b] 26)) ⟨0, 0, 0⟩
  have hb2 := Joins.below_alloc1 (w.alloc (.cells #[.int .i64 h, .int .i64 g, .int .i64 b] 26)) (.cells #[.int .i64 0, .int .i64 0, .int .i64 0] 26)
  have hE2 := hE.on hb2
  have hB := hb1.trans (hb2.mono hb1.size)
  rw [World.size_alloc] at hF
  clear hE hb1 hb2
  go_enter Try.func14, Try.ntmps14
  go_wp2_with fail
  generalize (w.alloc (.cells #[.int .i64 h, .int .i64 g, .int .i64 b] 26)).alloc (.cells #[.int .i64 0, .int .i64 0, .int .i64 0] 26) = X at *
  refine (slots_any _).mono ?_; rintro r w1 ⟨rfl, b1, hm⟩
  have HE := Lib.hid (hE2.on b1); have HF := Lib.hid (hF.on b1)
  have HB := Lib.hid (hB.trans (b1.mono hB.size))
  have hl := HL.out hm
  generalize X.heap.size = M at *
  clear hE2 hF hB b1 hm
  go_wp2_with fail; refine (cn _).mono ?_; rintro r w2 ⟨rfl, rfl⟩
  clear hl
  obtain ⟨y0, y1, y2⟩ := HE.out.cells
  obtain ⟨z0, z1, z2⟩ := HF.out.cells; have hfr := HF.out.frozen
  go_wp2_with fail
  have hp := ErAt.set HF.out ⟨h, g, b⟩
  obtain ⟨x0, x1, x2⟩ := hp.cells
  exact bodyPost_ret (hear_res x0 x1 x2 rfl) rfl ⟨rfl, below_set3 HB.out (by omega) _ _ _⟩

set_option maxRecDepth 100000 in
set_option maxHeartbeats 2000000 in
theorem hear_none_any (e : Er) (n k : Int) (h1 : k ≠ 1) (h2 : k ≠ 2) (w : World) :
    Calls Try.prog 14 #[ev e, .int .i64 n, .int .i64 k] w fun r w' => r = .returned (ev e) ∧ Below w.heap.size w w' := by
  obtain ⟨h, g, b⟩ := e
  have HL : Hid (∀ {W : World} {b : Nat}, W.heap[b]? = some (.map slE 2) → (Instr.lookup 46 (.map (some b)) (.int .i64 k) true).run Try.prog W = .ok (.tuple #[kindF k, .bool false]) W) := Lib.hid (fun hb => by have q := look_at hb k true; rw [if_pos rfl, known_no h1 h2] at q; exact q)
  have hE := ErAt.new w ⟨h, g, b⟩
  have hb1 := Joins.below_alloc1 w (.cells #[.int .i64 h, .int .i64 g, .int .i64 b] 26)
  have hF := ErAt.new (w.alloc (.cells #[.int .i64 h, .int .i64 g, .int .i64 b] 26)) ⟨0, 0, 0⟩
  have hb2 := Joins.below_alloc1 (w.alloc (.cells #[.int .i64 h, .int .i64 g, .int .i64 b] 26)) (.cells #[.int .i64 0, .int .i64 0, .int .i64 0] 26)
  have hE2 := hE.on hb2
  have hB := hb1.trans (hb2.mono hb1.size)
  rw [World.size_alloc] at hF
  clear hE hb1 hb2
  go_enter Try.func14, Try.ntmps14
  go_wp2_with fail
  generalize (w.alloc (.cells #[.int .i64 h, .int .i64 g, .int .i64 b] 26)).alloc (.cells #[.int .i64 0, .int .i64 0, .int .i64 0] 26) = X at *
  refine (slots_any _).mono ?_; rintro r w1 ⟨rfl, b1, hm⟩
  have HE := Lib.hid (hE2.on b1); have HF := Lib.hid (hF.on b1)
  have HB := Lib.hid (hB.trans (b1.mono hB.size))
  have hl := HL.out hm
  generalize X.heap.size = M at *
  clear hE2 hF hB b1 hm
  obtain ⟨y0, y1, y2⟩ := HE.out.cells
  obtain ⟨z0, z1, z2⟩ := HF.out.cells; have hfr := HF.out.frozen
  go_wp2_with fail
  have hp := ErAt.set HF.out ⟨h, g, b⟩
  obtain ⟨x0, x1, x2⟩ := hp.cells
  exact bodyPost_ret (hear_res x0 x1 x2 rfl) rfl ⟨rfl, below_set3 HB.out (by omega) _ _ _⟩

theorem hear_any (e : Er) (n k : Int) (w : World) :
    Calls Try.prog 14 #[ev e, .int .i64 n, .int .i64 k] w fun r w' => r = .returned (ev (hearE e n k)) ∧ Below w.heap.size w w' := by
  by_cases h1 : k = 1
  · subst h1
    cases hn : nodeB n
    · rw [hear_off _ _ _ hn]; exact hear_off1_any e n hn w
    · rw [hear_good _ _ hn]; exact hear_good_any e n hn w
  · by_cases h2 : k = 2
    · subst h2
      cases hn : nodeB n
      · rw [hear_off _ _ _ hn]; exact hear_off2_any e n hn w
      · rw [hear_bad _ _ hn]; exact hear_bad_any e n hn w
    · rw [hear_none _ _ _ h1 h2]; exact hear_none_any e n k h1 h2 w

end Go.Proofs.Ytplnmkeopdmanaa

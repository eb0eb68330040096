/-
  What the statements' own helpers of layer 4 do: pick, Ident and Message.
-/
import Derived.Test.YtehajmockicilaaDoorMsgDec
import Derived.OpenShut
namespace Go.Proofs.YtehajmockicilaaDoor
open Go.RowKit

/-- Which of n things a raw number speaks of. -/
def pickI (c n : Int) : Int := (if c < 0 then -(c + 1) else c) % n
theorem pickI_range (c n : Int) (hn : 0 < n) : 0 ≤ pickI c n ∧ pickI c n < n := ⟨Int.emod_nonneg _ (by omega), Int.emod_lt_of_pos _ hn⟩
theorem w64 (n : Int) (h1 : -9223372036854775808 ≤ n) (h2 : n ≤ 9223372036854775807) : wrap64 n = n := by
  unfold wrap64
  omega
set_option maxRecDepth 100000 in
theorem pick_neg_value (c n : Int) (hc : (Lit.int .i64 c).wf = true) (h : c < 0) : (wrap64 (-wrap64 (c + 1))).tmod n = pickI c n := by
  have hb := bounds_i64 hc
  rw [w64 (c + 1) (by omega) (by omega), w64 _ (by omega) (by omega), Int.tmod_eq_emod_of_nonneg (by omega)]
  unfold pickI
  rw [if_pos h]
theorem pick_pos_value (c n : Int) (h : ¬ c < 0) : c % n = pickI c n := by
  unfold pickI
  rw [if_neg h]

set_option maxRecDepth 100000 in
theorem pick_any (c n : Int) (hc : (Lit.int .i64 c).wf = true) (hn : 0 < n) (w : World) :
    Calls Tryd.prog 57 #[.int .i64 c, .int .i64 n] w fun e w' => e = .returned (.int .i64 (pickI c n)) ∧ w = w' := by
  by_cases h : c < 0
  · have hv := Lib.hid (pick_neg_value c n hc h)
    have HC := Lib.hid hc; clear hc
    go_enter Tryd.func57, Tryd.ntmps57
    go_wp2
    go_ret
    exact ⟨ret_i hv.out, rfl⟩
  · have hv := Lib.hid (pick_pos_value c n h)
    have h0 : 0 ≤ c := by omega
    have HC := Lib.hid hc; clear hc
    go_enter Tryd.func57, Tryd.ntmps57
    go_wp2
    go_ret
    exact ⟨ret_i hv.out, rfl⟩
set_option maxRecDepth 100000 in
theorem pick2_any (c n : Int) (hc : (Lit.int .i64 c).wf = true) (hn : 0 < n) (w : World) :
    Calls Tryd.prog 80 #[.int .i64 c, .int .i64 n] w fun e w' => e = .returned (.int .i64 (pickI c n)) ∧ w = w' := by
  by_cases h : c < 0
  · have hv := Lib.hid (pick_neg_value c n hc h)
    have HC := Lib.hid hc; clear hc
    go_enter Tryd.func80, Tryd.ntmps80
    go_wp2
    go_ret
    exact ⟨ret_i hv.out, rfl⟩
  · have hv := Lib.hid (pick_pos_value c n h)
    have h0 : 0 ≤ c := by omega
    have HC := Lib.hid hc; clear hc
    go_enter Tryd.func80, Tryd.ntmps80
    go_wp2
    go_ret
    exact ⟨ret_i hv.out, rfl⟩

/-- Of a raw number, an identifier's. -/
def idN (n : Int) (ext : Bool) : Int := if ext = true then pickI n 536870912 else pickI n 2048
set_option maxRecDepth 100000 in
theorem idN_right (n : Int) (ext : Bool) : rightI ext (idN n ext) = true := by
  unfold idN rightI
  have h1 := pickI_range n 536870912 (by omega)
  have h2 := pickI_range n 2048 (by omega)
  cases ext
  · rw [lim_false]; simp; omega
  · rw [lim_true]; simp; omega

set_option maxRecDepth 100000 in
theorem rawId_any (n : Int) (ext : Bool) (hn : (Lit.int .i64 n).wf = true) (w : World) :
    Calls Tryd.prog 56 #[.int .i64 n, .bool ext] w fun e w' => e = .returned (.agg #[.bool ext, .int .i64 (idN n ext)]) ∧ Below w.heap.size w w' := by
  have c1 := fun w => pick2_any n 536870912 hn (by omega) w
  have c2 := fun w => pick2_any n 2048 hn (by omega) w
  cases ext
  · rw [show pickI n 2048 = idN n false from rfl] at c2
    generalize idN n false = N at *
    go_enter Tryd.func56, Tryd.ntmps56
    go_wp2_with fail; refine (c2 _).mono ?_; rintro e w1 ⟨rfl, rfl⟩
    go_wp2_with fail
    exact bodyPost_ret (v := .agg #[.bool false, .int .i64 N]) (by simp [results, Tryd.results56, go_sem]) rfl ⟨rfl, Joins.below_alloc1 _ _⟩
  · rw [show pickI n 536870912 = idN n true from rfl] at c1
    generalize idN n true = N at *
    go_enter Tryd.func56, Tryd.ntmps56
    go_wp2_with fail; refine (c1 _).mono ?_; rintro e w1 ⟨rfl, rfl⟩
    go_wp2_with fail
    exact bodyPost_ret (v := .agg #[.bool true, .int .i64 N]) (by simp [results, Tryd.results56, go_sem]) rfl ⟨rfl, Joins.below_alloc1 _ _⟩

/-- Block g is an identifier: whatever it holds; just this one. -/
def Duo (w : World) (g : Nat) : Prop := ∃ Z : Array Value, w.heap[g]? = some (.cells Z 24 (0, 0)) ∧ Z.size = 2
def IdAt (w : World) (g : Nat) (b : Bool) (n : Int) : Prop := w.heap[g]? = some (.cells #[.bool b, .int .i64 n] 24 (0, 0))
theorem IdAt.duo {w : World} {g : Nat} {b : Bool} {n : Int} (h : IdAt w g b n) : Duo w g := ⟨_, h, rfl⟩
theorem IdAt.new (w : World) (b : Bool) (n : Int) : IdAt (w.alloc (.cells #[.bool b, .int .i64 n] 24)) w.heap.size b n := heap_alloc_new w _
theorem IdAt.below {w w' : World} {g : Nat} {b : Bool} {n : Int} (h : IdAt w g b n) (hb : Below w.heap.size w w') : IdAt w' g b n :=
  (hb.block g (Array.getElem?_eq_some_iff.1 h).1).trans h
theorem Duo.below {w w' : World} {g : Nat} (h : Duo w g) (hb : Below w.heap.size w w') : Duo w' g := by
  obtain ⟨Z, h1, h2⟩ := h
  exact ⟨Z, (hb.block g (Array.getElem?_eq_some_iff.1 h1).1).trans h1, h2⟩
theorem IdAt.cells {w : World} {g : Nat} {b : Bool} {n : Int} (h : IdAt w g b n) : w.cell? ⟨g, 0, none⟩ = some (.bool b) ∧ w.cell? ⟨g, 1, none⟩ = some (.int .i64 n) ∧ ∀ i, w.frozen? ⟨g, i, none⟩ = false := by
  unfold IdAt at h
  refine ⟨?_, ?_, fun i => ?_⟩ <;> simp [World.cell?, World.frozen?, h]
theorem Duo.cells {w : World} {g : Nat} (h : Duo w g) : ∃ z0 z1 : Value, w.cell? ⟨g, 0, none⟩ = some z0 ∧ w.cell? ⟨g, 1, none⟩ = some z1 ∧ ∀ i, w.frozen? ⟨g, i, none⟩ = false := by
  obtain ⟨⟨l⟩, h1, h2⟩ := h
  match l, h2 with
  | [z0, z1], _ => exact ⟨z0, z1, by simp [World.cell?, h1], by simp [World.cell?, h1], fun i => by simp [World.frozen?, h1]⟩
def put2 (w : World) (g : Nat) (b : Bool) (n : Int) : World := (w.setCell ⟨g, 0, none⟩ (.bool b)).setCell ⟨g, 1, none⟩ (.int .i64 n)
set_option maxRecDepth 100000 in
theorem put2_at {w : World} {g : Nat} (h : Duo w g) (b : Bool) (n : Int) : IdAt (put2 w g b n) g b n := by
  obtain ⟨Z, h1, h2⟩ := h
  obtain ⟨l, rfl⟩ : ∃ l : List Value, Z = l.toArray := ⟨Z.toList, by simp⟩
  have h3 : l.length = 2 := by simpa using h2
  match l, h3, h1 with
  | [z0, z1], _, h1 =>
    have e0 := set_blk h1 0 (.bool b)
    have e1 := set_blk e0 1 (.int .i64 n)
    simp only [List.setIfInBounds_toArray, List.set_cons_zero, List.set_cons_succ] at e1
    exact e1
theorem put2_far (w : World) {g g' : Nat} (h : g' ≠ g) (b : Bool) (n : Int) : (put2 w g b n).heap[g']? = w.heap[g']? := by
  unfold put2
  rw [Below.heap_setCell _ _ _ _ h, Below.heap_setCell _ _ _ _ h]
theorem put2_below {B : Nat} {a w : World} (h : Below B a w) {g : Nat} (hg : B ≤ g) (b : Bool) (n : Int) : Below B a (put2 w g b n) :=
  (h.setCell (p := ⟨g, 0, none⟩) hg _).setCell (p := ⟨g, 1, none⟩) hg _
set_option maxRecDepth 100000 in
theorem put2_duo {w : World} {g g' : Nat} (h : Duo w g) (h' : Duo w g') (b : Bool) (n : Int) : Duo (put2 w g b n) g' := by
  by_cases e : g' = g
  · rw [e]; exact (put2_at h b n).duo
  · obtain ⟨Z, h1, h2⟩ := h'
    exact ⟨Z, (put2_far w e b n).trans h1, h2⟩
theorem put2_same {w : World} {g g' : Nat} (h : Duo w g) {b : Bool} {n : Int} (h' : IdAt w g' b n) : IdAt (put2 w g b n) g' b n := by
  by_cases e : g' = g
  · rw [e]; exact put2_at h b n
  · exact (put2_far w e b n).trans h'

/-- Block g is just this message. -/
def MsgAt (w : World) (g : Nat) (m : Msg) : Prop := w.heap[g]? = some (.cells (mc m) 26 (0, 0))
theorem wf_in (n : Int) (h1 : -9223372036854775808 ≤ n) (h2 : n ≤ 9223372036854775807) : (Lit.int .i64 n).wf = true := by
  simp [Lit.wf, IntKind.min, IntKind.max, IntKind.bits, IntKind.signed]
  omega

/-- A raw message. -/
def rawExt (r1 : Int) : Bool := if pickI r1 7 = 6 then pickI r1 2 == 0 else pickI r1 3 == 0
def rawN (r0 r1 : Int) : Int := if pickI r1 7 = 6 then idN r0 (pickI r1 2 == 0) else idN (pickI r0 5) (pickI r1 3 == 0)
def rawM (r0 r1 r2 r3 r4 r5 : Int) (d : ByteArray) : Msg :=
  ⟨rawExt r1, rawN r0 r1, pickI r2 16, 1 + pickI r3 65535, 1 + pickI r4 65535, 1 + pickI r5 65535, txt (d.data.toList.take 8)⟩
set_option maxRecDepth 100000 in
theorem rawM_right (r0 r1 r2 r3 r4 r5 : Int) (d : ByteArray) : rightM (rawM r0 r1 r2 r3 r4 r5 d) = true := by
  rw [rightM_iff]
  have h2 := pickI_range r2 16 (by omega)
  have h3 := pickI_range r3 65535 (by omega)
  have h4 := pickI_range r4 65535 (by omega)
  have h5 := pickI_range r5 65535 (by omega)
  refine ⟨?_, ⟨h2.1, by show pickI r2 16 ≤ 15; omega⟩, ⟨by show 1 ≤ 1 + pickI r3 65535; omega, by show 1 + pickI r3 65535 ≤ 65535; omega⟩, ⟨by show 1 ≤ 1 + pickI r4 65535; omega, by show 1 + pickI r4 65535 ≤ 65535; omega⟩, ⟨by show 1 ≤ 1 + pickI r5 65535; omega, by show 1 + pickI r5 65535 ≤ 65535; omega⟩, ?_⟩
  · show rightI (rawExt r1) (rawN r0 r1) = true
    unfold rawExt rawN
    split
    · exact idN_right _ _
    · exact idN_right _ _
  · show (txt _).size ≤ 8
    rw [txt_size, List.length_take]; omega

set_option maxRecDepth 100000 in
set_option maxHeartbeats 4000000 in
theorem rawM_any (r0 r1 r2 r3 r4 r5 : Int) (d : ByteArray) (k0 : (Lit.int .i64 r0).wf = true) (k1 : (Lit.int .i64 r1).wf = true) (k2 : (Lit.int .i64 r2).wf = true) (k3 : (Lit.int .i64 r3).wf = true) (k4 : (Lit.int .i64 r4).wf = true) (k5 : (Lit.int .i64 r5).wf = true) (hd : d.size ≤ maxLen) (w : World) :
    Calls Tryd.prog 23 #[.agg #[.int .i64 r0, .int .i64 r1, .int .i64 r2, .int .i64 r3, .int .i64 r4, .int .i64 r5], .string d] w fun e w' => e = .returned (mv (rawM r0 r1 r2 r3 r4 r5 d)) ∧ Below w.heap.size w w' := by
  have c05 := fun w => pick_any r0 5 k0 (by omega) w
  have c13 := fun w => pick_any r1 3 k1 (by omega) w
  have c17 := fun w => pick_any r1 7 k1 (by omega) w
  have c12 := fun w => pick_any r1 2 k1 (by omega) w
  have c2 := fun w => pick_any r2 16 k2 (by omega) w
  have c3 := fun w => pick_any r3 65535 k3 (by omega) w
  have c4 := fun w => pick_any r4 65535 k4 (by omega) w
  have c5 := fun w => pick_any r5 65535 k5 (by omega) w
  have hp05 := pickI_range r0 5 (by omega)
  have cA := fun w => rawId_any (pickI r0 5) (pickI r1 3 == 0) (wf_in _ (by omega) (by omega)) w
  have cB := fun w => rawId_any r0 (pickI r1 2 == 0) k0 w
  have hr3 := pickI_range r3 65535 (by omega)
  have hr4 := pickI_range r4 65535 (by omega)
  have hr5 := pickI_range r5 65535 (by omega)
  have HD := Lib.hid hd
  have hMz : ∃ mz : Int, ((d.size : Int) ≤ 8 ∧ mz = d.size) ∨ (8 < (d.size : Int) ∧ mz = 8) := by
    rcases Int.lt_or_le 8 (d.size : Int) with h | h
    · exact ⟨8, .inr ⟨h, rfl⟩⟩
    · exact ⟨d.size, .inl ⟨h, rfl⟩⟩
  obtain ⟨mz, hmz⟩ := hMz
  have kx := fun w => run_to d mz mz.toNat (by omega) (by omega) w
  have hX : txt (d.data.toList.take mz.toNat) = txt (d.data.toList.take 8) := by
    rcases hmz with ⟨h, e⟩ | ⟨h, e⟩
    · rw [List.take_of_length_le (by rw [← Lib.size_eq]; omega), List.take_of_length_le (by rw [← Lib.size_eq]; omega)]
    · rw [e]; rfl
  rw [hX] at kx
  have HMZ := Lib.hid hmz
  have KX := Lib.hid kx
  clear kx hX hmz hp05
  have HE : Hid (rawM r0 r1 r2 r3 r4 r5 d = ⟨rawExt r1, rawN r0 r1, pickI r2 16, 1 + pickI r3 65535, 1 + pickI r4 65535, 1 + pickI r5 65535, txt (d.data.toList.take 8)⟩) := Lib.hid rfl
  unfold rawExt rawN at HE
  generalize rawM r0 r1 r2 r3 r4 r5 d = M at *
  generalize txt (d.data.toList.take 8) = X at *
  generalize idN (pickI r0 5) (pickI r1 3 == 0) = N1 at *
  generalize idN r0 (pickI r1 2 == 0) = N2 at *
  generalize pickI r0 5 = q at *
  generalize pickI r1 3 = t3 at *
  generalize pickI r1 2 = t2 at *
  generalize pickI r2 16 = q2 at *
  generalize pickI r3 65535 = q3 at *
  generalize pickI r4 65535 = q4 at *
  generalize pickI r5 65535 = q5 at *
  have f3 : IntKind.i64.wrap (1 + q3) = 1 + q3 := IntWalk.i64_in _ (by omega)
  have f4 : IntKind.i64.wrap (1 + q4) = 1 + q4 := IntWalk.i64_in _ (by omega)
  have f5 : IntKind.i64.wrap (1 + q5) = 1 + q5 := IntWalk.i64_in _ (by omega)
  have F3 := Lib.hid f3; clear f3
  have F4 := Lib.hid f4; clear f4
  have F5 := Lib.hid f5; clear f5
  unfold maxLen at hd
  by_cases h6 : pickI r1 7 = 6
  · rw [if_pos h6, if_pos h6] at HE
    rw [h6] at c17
    clear h6
    go_enter Tryd.func23, Tryd.ntmps23
    go_wp2_with fail
    have hW := Joins.below_alloc2 w (.cells #[.int .i64 r0, .int .i64 r1, .int .i64 r2, .int .i64 r3, .int .i64 r4, .int .i64 r5] 27) (.cells (mc zeroM) 26)
    have hs : Seven ((w.alloc (.cells #[.int .i64 r0, .int .i64 r1, .int .i64 r2, .int .i64 r3, .int .i64 r4, .int .i64 r5] 27)).alloc (.cells (mc zeroM) 26)) (w.heap.size + 1) := by
      have := Seven.new (w.alloc (.cells #[.int .i64 r0, .int .i64 r1, .int .i64 r2, .int .i64 r3, .int .i64 r4, .int .i64 r5] 27)) zeroM
      rwa [World.size_alloc] at this
    have hr : ∀ W', Below (w.heap.size + 1) ((w.alloc (.cells #[.int .i64 r0, .int .i64 r1, .int .i64 r2, .int .i64 r3, .int .i64 r4, .int .i64 r5] 27)).alloc (.cells (mc zeroM) 26)) W' → W'.cell? ⟨w.heap.size, 0, none⟩ = some (.int .i64 r0) ∧ W'.cell? ⟨w.heap.size, 1, none⟩ = some (.int .i64 r1) ∧ W'.cell? ⟨w.heap.size, 2, none⟩ = some (.int .i64 r2) ∧ W'.cell? ⟨w.heap.size, 3, none⟩ = some (.int .i64 r3) ∧ W'.cell? ⟨w.heap.size, 4, none⟩ = some (.int .i64 r4) ∧ W'.cell? ⟨w.heap.size, 5, none⟩ = some (.int .i64 r5) := by
      intro W' hb
      refine ⟨(hb.cell (p := ⟨w.heap.size, 0, none⟩) (by simp)).trans ?_, (hb.cell (p := ⟨w.heap.size, 1, none⟩) (by simp)).trans ?_, (hb.cell (p := ⟨w.heap.size, 2, none⟩) (by simp)).trans ?_, (hb.cell (p := ⟨w.heap.size, 3, none⟩) (by simp)).trans ?_, (hb.cell (p := ⟨w.heap.size, 4, none⟩) (by simp)).trans ?_, (hb.cell (p := ⟨w.heap.size, 5, none⟩) (by simp)).trans ?_⟩ <;> simp [go_sem]
    have hz : w.heap.size + 2 = ((w.alloc (.cells #[.int .i64 r0, .int .i64 r1, .int .i64 r2, .int .i64 r3, .int .i64 r4, .int .i64 r5] 27)).alloc (.cells (mc zeroM) 26)).heap.size := by simp
    simp only [mc, zeroM] at *
    generalize (w.alloc (.cells #[.int .i64 r0, .int .i64 r1, .int .i64 r2, .int .i64 r3, .int .i64 r4, .int .i64 r5] 27)).alloc (.cells #[.bool false, .int .i64 0, .int .i64 0, .int .i64 0, .int .i64 0, .int .i64 0, .string ⟨#[]⟩] 26) = W at *
    have HW := Lib.hid hW; clear hW
    have HS := Lib.hid hs; clear hs
    have HZ := Lib.hid hz; clear hz
    generalize hBw : w.heap.size = B at *
    have HR := Lib.hid (fun W' (hb : Below W.heap.size W W') => hr W' (hb.mono (by have := HZ.out; omega)))
    have HR4 := Lib.hid hr; clear hr
    have HV : ∃ V : Nat → (Nat → Value) → World → Prop, V = (fun ix u wv => match ix with
      | 0 => u 0 = .pointer (some ⟨B, 0, none⟩)
      | 1 => u 1 = .int .i64 r0
      | 2 => u 2 = .int .i64 q
      | 3 => u 3 = .pointer (some ⟨B, 1, none⟩)
      | 4 => u 4 = .int .i64 r1
      | 5 => u 5 = .int .i64 t3
      | 6 => u 6 = .bool (t3 == 0)
      | 7 => u 7 = .agg #[.bool (t3 == 0), .int .i64 N1]
      | 8 => ∃ g, u 8 = .pointer (some ⟨g, 0, none⟩) ∧ W.heap.size ≤ g ∧ Duo wv g
      | 9 => ∃ g, u 8 = .pointer (some ⟨g, 0, none⟩) ∧ W.heap.size ≤ g ∧ IdAt wv g (t3 == 0) N1
      | _ => True) := ⟨_, rfl⟩
    obtain ⟨V, hVdef⟩ := HV
    have V0 : ∀ u wv, V 0 u wv = (u 0 = .pointer (some ⟨B, 0, none⟩)) := fun u wv => by subst hVdef; rfl
    have V1 : ∀ u wv, V 1 u wv = (u 1 = .int .i64 r0) := fun u wv => by subst hVdef; rfl
    have V2 : ∀ u wv, V 2 u wv = (u 2 = .int .i64 q) := fun u wv => by subst hVdef; rfl
    have V3 : ∀ u wv, V 3 u wv = (u 3 = .pointer (some ⟨B, 1, none⟩)) := fun u wv => by subst hVdef; rfl
    have V4 : ∀ u wv, V 4 u wv = (u 4 = .int .i64 r1) := fun u wv => by subst hVdef; rfl
    have V5 : ∀ u wv, V 5 u wv = (u 5 = .int .i64 t3) := fun u wv => by subst hVdef; rfl
    have V6 : ∀ u wv, V 6 u wv = (u 6 = .bool (t3 == 0)) := fun u wv => by subst hVdef; rfl
    have V7 : ∀ u wv, V 7 u wv = (u 7 = .agg #[.bool (t3 == 0), .int .i64 N1]) := fun u wv => by subst hVdef; rfl
    have V8 : ∀ u wv, V 8 u wv = (∃ g, u 8 = .pointer (some ⟨g, 0, none⟩) ∧ W.heap.size ≤ g ∧ Duo wv g) := fun u wv => by subst hVdef; rfl
    have V9 : ∀ u wv, V 9 u wv = (∃ g, u 8 = .pointer (some ⟨g, 0, none⟩) ∧ W.heap.size ≤ g ∧ IdAt wv g (t3 == 0) N1) := fun u wv => by subst hVdef; rfl
    have HVD := Lib.hid hVdef
    clear hVdef
    refine region_each (V := V) (drop := fun _ _ => false) (G := fun wv => Below W.heap.size W wv) (Rel := fun jx wv wv' => Below W.heap.size wv wv' ∧ (∀ g, Duo wv g → Duo wv' g) ∧ (∀ g, IdAt wv g (t3 == 0) N1 → IdAt wv' g (t3 == 0) N1)) (by kernel_rfl) (by kernel_rfl) (Below.refl _ _).drew ?hmono1 ?hdep1 ⟨?s0_1, ?s1_1, ?s2_1, ?s3_1, ?s4_1, ?s5_1, ?s6_1, ?s7_1, ?s8_1, ?s9_1, trivial⟩ ?behind1
    case hmono1 =>
      intro ix jx u wv wv' hij hw hd hr
      rw [HVD.out]
      dsimp only
      split <;> intro h <;> first | exact trivial | exact h | (obtain ⟨g, h1, h2, h3⟩ := h; first | exact ⟨g, h1, h2, hr.2.1 g h3⟩ | exact ⟨g, h1, h2, hr.2.2 g h3⟩)
    case hdep1 =>
      intro ix u u' wv h1 h2
      rw [HVD.out]
      dsimp only
      split <;> intro h <;> first | exact trivial | (rw [← h1]; exact h) | (obtain ⟨g, e1, e2⟩ := h; first | exact ⟨g, h1 ▸ e1, e2⟩ | exact ⟨g, (h2 8 (by kernel_rfl)) ▸ e1, e2⟩)
    case s0_1 =>
      refine owe rfl fun a wx val hG hV hN hO K hK => ?_
      have e2 : a.tmps[2]? = some (.pointer (some ⟨B, 0, none⟩)) := (hO 2 (by kernel_rfl)).trans (by rfl)
      clear hV hN hO
      go_simp
      exact hK.out _ _ (by rw [V0, upd_at]) ⟨Below.refl _ _, fun _ h => h, fun _ h => h⟩ hG
    case s1_1 =>
      refine owe rfl fun a wx val hG hV hN hO K hK => ?_
      have e6 := hN 0 6 (by kernel_rfl) (by kernel_rfl) (by simp)
      have f6 := hV 0 (by kernel_rfl) (by kernel_rfl)
      rw [V0] at f6
      rw [f6] at e6; clear f6
      clear hV hN hO
      have cs := HR.out _ hG
      obtain ⟨a0, a1, a2, a3, a4, a5⟩ := cs
      go_simp
      exact hK.out _ _ (by rw [V1, upd_at]) ⟨Below.refl _ _, fun _ h => h, fun _ h => h⟩ hG
    case s2_1 =>
      refine owe rfl fun a wx val hG hV hN hO K hK => ?_
      have e7 := hN 1 7 (by kernel_rfl) (by kernel_rfl) (by simp)
      have f7 := hV 1 (by kernel_rfl) (by kernel_rfl)
      rw [V1] at f7
      rw [f7] at e7; clear f7
      clear hV hN hO
      go_simp
      refine (c05 _).mono ?_
      rintro e w3 ⟨rfl, rfl⟩
      exact hK.out _ _ (by rw [V2, upd_at]) ⟨Below.refl _ _, fun _ h => h, fun _ h => h⟩ hG
    case s3_1 =>
      refine owe rfl fun a wx val hG hV hN hO K hK => ?_
      have e2 : a.tmps[2]? = some (.pointer (some ⟨B, 0, none⟩)) := (hO 2 (by kernel_rfl)).trans (by rfl)
      clear hV hN hO
      go_simp
      exact hK.out _ _ (by rw [V3, upd_at]) ⟨Below.refl _ _, fun _ h => h, fun _ h => h⟩ hG
    case s4_1 =>
      refine owe rfl fun a wx val hG hV hN hO K hK => ?_
      have e9 := hN 3 9 (by kernel_rfl) (by kernel_rfl) (by simp)
      have f9 := hV 3 (by kernel_rfl) (by kernel_rfl)
      rw [V3] at f9
      rw [f9] at e9; clear f9
      clear hV hN hO
      have cs := HR.out _ hG
      obtain ⟨a0, a1, a2, a3, a4, a5⟩ := cs
      go_simp
      exact hK.out _ _ (by rw [V4, upd_at]) ⟨Below.refl _ _, fun _ h => h, fun _ h => h⟩ hG
    case s5_1 =>
      refine owe rfl fun a wx val hG hV hN hO K hK => ?_
      have e10 := hN 4 10 (by kernel_rfl) (by kernel_rfl) (by simp)
      have f10 := hV 4 (by kernel_rfl) (by kernel_rfl)
      rw [V4] at f10
      rw [f10] at e10; clear f10
      clear hV hN hO
      go_simp
      refine (c13 _).mono ?_
      rintro e w3 ⟨rfl, rfl⟩
      exact hK.out _ _ (by rw [V5, upd_at]) ⟨Below.refl _ _, fun _ h => h, fun _ h => h⟩ hG
    case s6_1 =>
      refine owe rfl fun a wx val hG hV hN hO K hK => ?_
      have e11 := hN 5 11 (by kernel_rfl) (by kernel_rfl) (by simp)
      have f11 := hV 5 (by kernel_rfl) (by kernel_rfl)
      rw [V5] at f11
      rw [f11] at e11; clear f11
      clear hV hN hO
      go_simp
      exact hK.out _ _ (by rw [V6, upd_at]) ⟨Below.refl _ _, fun _ h => h, fun _ h => h⟩ hG
    case s7_1 =>
      refine owe rfl fun a wx val hG hV hN hO K hK => ?_
      have e8 := hN 2 8 (by kernel_rfl) (by kernel_rfl) (by simp)
      have f8 := hV 2 (by kernel_rfl) (by kernel_rfl)
      rw [V2] at f8
      rw [f8] at e8; clear f8
      have e12 := hN 6 12 (by kernel_rfl) (by kernel_rfl) (by simp)
      have f12 := hV 6 (by kernel_rfl) (by kernel_rfl)
      rw [V6] at f12
      rw [f12] at e12; clear f12
      clear hV hN hO
      go_simp
      refine (cA _).mono ?_
      rintro e w3 ⟨rfl, hb⟩
      exact hK.out _ _ (by rw [V7, upd_at]) ⟨hb.mono hG.size, fun _ h => h.below hb, fun _ h => h.below hb⟩ (hG.trans (hb.mono hG.size))
    case s8_1 =>
      refine owe rfl fun a wx val hG hV hN hO K hK => ?_
      clear hV hN hO
      go_simp
      have hb := Joins.below_alloc1 wx (.cells #[.bool false, .int .i64 0] 24)
      exact hK.out _ _ (by rw [V8, upd_at]; exact ⟨_, rfl, hG.size, (IdAt.new wx false 0).duo⟩) ⟨hb.mono hG.size, fun _ h => h.below hb, fun _ h => h.below hb⟩ (hG.trans (hb.mono hG.size))
    case s9_1 =>
      refine owe rfl fun a wx val hG hV hN hO K hK => ?_
      have e5 := hN 8 5 (by kernel_rfl) (by kernel_rfl) (by simp)
      have f5 := hV 8 (by kernel_rfl) (by kernel_rfl)
      rw [V8] at f5
      obtain ⟨g, hv, hg, hc⟩ := f5; rw [hv] at e5
      have e13 := hN 7 13 (by kernel_rfl) (by kernel_rfl) (by simp)
      have f13 := hV 7 (by kernel_rfl) (by kernel_rfl)
      rw [V7] at f13
      rw [f13] at e13; clear f13
      clear hV hN hO
      obtain ⟨z0, z1, d0, d1, hfz⟩ := hc.cells
      go_simp
      exact hK.out undef (put2 wx g (t3 == 0) N1) (by rw [V9]; exact ⟨g, (upd_ne _ _ (by decide)).trans hv, hg, put2_at hc _ _⟩) ⟨put2_below (Below.refl _ _) hg _ _, fun _ h => put2_duo hc h _ _, fun _ h => put2_same hc h⟩ (put2_below hG hg _ _)
    intro val wx hG hV
    have f0 := hV 0 (by simp) (fun _ _ => by rfl)
    rw [V0] at f0
    have f1 := hV 1 (by simp) (fun _ _ => by rfl)
    rw [V1] at f1
    have f2 := hV 2 (by simp) (fun _ _ => by rfl)
    rw [V2] at f2
    have f3 := hV 3 (by simp) (fun _ _ => by rfl)
    rw [V3] at f3
    have f4 := hV 4 (by simp) (fun _ _ => by rfl)
    rw [V4] at f4
    have f5 := hV 5 (by simp) (fun _ _ => by rfl)
    rw [V5] at f5
    have f6 := hV 6 (by simp) (fun _ _ => by rfl)
    rw [V6] at f6
    have f7 := hV 7 (by simp) (fun _ _ => by rfl)
    rw [V7] at f7
    have f8 := hV 8 (by simp) (fun _ _ => by rfl)
    rw [V8] at f8
    have f9 := hV 9 (by simp) (fun _ _ => by rfl)
    rw [V9] at f9
    clear hV V0 V1 V2 V3 V4 V5 V6 V7 V8 V9
    simp only [putAll, Act.put, List.setIfInBounds_toArray, List.set_cons_zero, List.set_cons_succ]
    generalize val 0 = z0 at *; (subst f0)
    generalize val 1 = z1 at *; (subst f1)
    generalize val 2 = z2 at *; (subst f2)
    generalize val 3 = z3 at *; (subst f3)
    generalize val 4 = z4 at *; (subst f4)
    generalize val 5 = z5 at *; (subst f5)
    generalize val 6 = z6 at *; (subst f6)
    generalize val 7 = z7 at *; (subst f7)
    obtain ⟨g, hv8, hg, hI⟩ := f9
    clear f8
    generalize val 8 = z8 at *
    subst hv8
    have HB := Lib.hid hG
    have HG := Lib.hid hI
    have HGB : Hid (g ≠ B + 1) := Lib.hid (by have := HZ.out; omega)
    have HS1 := Lib.hid (HS.out.below hG)
    obtain ⟨a0, a1, a2, a3, a4, a5⟩ := HR.out _ hG
    clear hG hI
    go_wp2_with fail; refine (c17 _).mono ?_; rintro e w3 ⟨rfl, rfl⟩
    go_wp2_with fail
    clear a0 a1 a2 a3 a4 a5
    have HV : ∃ V : Nat → (Nat → Value) → World → Prop, V = (fun ix u wv => match ix with
      | 0 => u 0 = .pointer (some ⟨B, 0, none⟩)
      | 1 => u 1 = .int .i64 r0
      | 2 => u 2 = .pointer (some ⟨B, 1, none⟩)
      | 3 => u 3 = .int .i64 r1
      | 4 => u 4 = .int .i64 t2
      | 5 => u 5 = .bool (t2 == 0)
      | 6 => u 6 = .agg #[.bool (t2 == 0), .int .i64 N2]
      | 7 => IdAt wv g (t2 == 0) N2
      | _ => True) := ⟨_, rfl⟩
    obtain ⟨V, hVdef⟩ := HV
    have V0 : ∀ u wv, V 0 u wv = (u 0 = .pointer (some ⟨B, 0, none⟩)) := fun u wv => by subst hVdef; rfl
    have V1 : ∀ u wv, V 1 u wv = (u 1 = .int .i64 r0) := fun u wv => by subst hVdef; rfl
    have V2 : ∀ u wv, V 2 u wv = (u 2 = .pointer (some ⟨B, 1, none⟩)) := fun u wv => by subst hVdef; rfl
    have V3 : ∀ u wv, V 3 u wv = (u 3 = .int .i64 r1) := fun u wv => by subst hVdef; rfl
    have V4 : ∀ u wv, V 4 u wv = (u 4 = .int .i64 t2) := fun u wv => by subst hVdef; rfl
    have V5 : ∀ u wv, V 5 u wv = (u 5 = .bool (t2 == 0)) := fun u wv => by subst hVdef; rfl
    have V6 : ∀ u wv, V 6 u wv = (u 6 = .agg #[.bool (t2 == 0), .int .i64 N2]) := fun u wv => by subst hVdef; rfl
    have V7 : ∀ u wv, V 7 u wv = (IdAt wv g (t2 == 0) N2) := fun u wv => by subst hVdef; rfl
    have HVD := Lib.hid hVdef
    clear hVdef
    refine region_each (V := V) (drop := fun _ _ => false) (G := fun wv => Below W.heap.size W wv ∧ Duo wv g) (Rel := fun jx wv wv' => IdAt wv g (t2 == 0) N2 → IdAt wv' g (t2 == 0) N2) (by kernel_rfl) (by kernel_rfl) ⟨HB.out.drew, HG.out.duo⟩ ?hmono2 ?hdep2 ⟨?s0_2, ?s1_2, ?s2_2, ?s3_2, ?s4_2, ?s5_2, ?s6_2, ?s7_2, trivial⟩ ?behind2
    case hmono2 =>
      intro ix jx u wv wv' hij hw hd hr
      rw [HVD.out]
      dsimp only
      split <;> intro h <;> first | exact trivial | exact h | (exact hr h)
    case hdep2 =>
      intro ix u u' wv h1 h2
      rw [HVD.out]
      dsimp only
      split <;> intro h <;> first | exact trivial | (rw [← h1]; exact h) | (exact h)
    case s0_2 =>
      refine owe rfl fun a wx val hG hV hN hO K hK => ?_
      have e2 : a.tmps[2]? = some (.pointer (some ⟨B, 0, none⟩)) := (hO 2 (by kernel_rfl)).trans (by rfl)
      clear hV hN hO
      go_simp
      exact hK.out _ _ (by rw [V0, upd_at]) id hG
    case s1_2 =>
      refine owe rfl fun a wx val hG hV hN hO K hK => ?_
      have e18 := hN 0 18 (by kernel_rfl) (by kernel_rfl) (by simp)
      have f18 := hV 0 (by kernel_rfl) (by kernel_rfl)
      rw [V0] at f18
      rw [f18] at e18; clear f18
      clear hV hN hO
      have cs := HR.out _ hG.1
      obtain ⟨a0, a1, a2, a3, a4, a5⟩ := cs
      go_simp
      exact hK.out _ _ (by rw [V1, upd_at]) id hG
    case s2_2 =>
      refine owe rfl fun a wx val hG hV hN hO K hK => ?_
      have e2 : a.tmps[2]? = some (.pointer (some ⟨B, 0, none⟩)) := (hO 2 (by kernel_rfl)).trans (by rfl)
      clear hV hN hO
      go_simp
      exact hK.out _ _ (by rw [V2, upd_at]) id hG
    case s3_2 =>
      refine owe rfl fun a wx val hG hV hN hO K hK => ?_
      have e20 := hN 2 20 (by kernel_rfl) (by kernel_rfl) (by simp)
      have f20 := hV 2 (by kernel_rfl) (by kernel_rfl)
      rw [V2] at f20
      rw [f20] at e20; clear f20
      clear hV hN hO
      have cs := HR.out _ hG.1
      obtain ⟨a0, a1, a2, a3, a4, a5⟩ := cs
      go_simp
      exact hK.out _ _ (by rw [V3, upd_at]) id hG
    case s4_2 =>
      refine owe rfl fun a wx val hG hV hN hO K hK => ?_
      have e21 := hN 3 21 (by kernel_rfl) (by kernel_rfl) (by simp)
      have f21 := hV 3 (by kernel_rfl) (by kernel_rfl)
      rw [V3] at f21
      rw [f21] at e21; clear f21
      clear hV hN hO
      go_simp
      refine (c12 _).mono ?_
      rintro e w3 ⟨rfl, rfl⟩
      exact hK.out _ _ (by rw [V4, upd_at]) id hG
    case s5_2 =>
      refine owe rfl fun a wx val hG hV hN hO K hK => ?_
      have e22 := hN 4 22 (by kernel_rfl) (by kernel_rfl) (by simp)
      have f22 := hV 4 (by kernel_rfl) (by kernel_rfl)
      rw [V4] at f22
      rw [f22] at e22; clear f22
      clear hV hN hO
      go_simp
      exact hK.out _ _ (by rw [V5, upd_at]) id hG
    case s6_2 =>
      refine owe rfl fun a wx val hG hV hN hO K hK => ?_
      have e19 := hN 1 19 (by kernel_rfl) (by kernel_rfl) (by simp)
      have f19 := hV 1 (by kernel_rfl) (by kernel_rfl)
      rw [V1] at f19
      rw [f19] at e19; clear f19
      have e23 := hN 5 23 (by kernel_rfl) (by kernel_rfl) (by simp)
      have f23 := hV 5 (by kernel_rfl) (by kernel_rfl)
      rw [V5] at f23
      rw [f23] at e23; clear f23
      clear hV hN hO
      go_simp
      refine (cB _).mono ?_
      rintro e w3 ⟨rfl, hb⟩
      exact hK.out _ _ (by rw [V6, upd_at]) (fun h => h.below hb) ⟨hG.1.trans (hb.mono hG.1.size), hG.2.below hb⟩
    case s7_2 =>
      refine owe rfl fun a wx val hG hV hN hO K hK => ?_
      have e5 : a.tmps[5]? = some (.pointer (some ⟨g, 0, none⟩)) := (hO 5 (by kernel_rfl)).trans (by rfl)
      have e24 := hN 6 24 (by kernel_rfl) (by kernel_rfl) (by simp)
      have f24 := hV 6 (by kernel_rfl) (by kernel_rfl)
      rw [V6] at f24
      rw [f24] at e24; clear f24
      clear hV hN hO
      obtain ⟨z0, z1, d0, d1, hfz⟩ := hG.2.cells
      go_simp
      exact hK.out undef (put2 wx g (t2 == 0) N2) (by rw [V7]; exact put2_at hG.2 _ _) (fun h => put2_same hG.2 h) ⟨put2_below hG.1 hg _ _, put2_duo hG.2 hG.2 _ _⟩
    intro val wx hG hV
    have f0 := hV 0 (by simp) (fun _ _ => by rfl)
    rw [V0] at f0
    have f1 := hV 1 (by simp) (fun _ _ => by rfl)
    rw [V1] at f1
    have f2 := hV 2 (by simp) (fun _ _ => by rfl)
    rw [V2] at f2
    have f3 := hV 3 (by simp) (fun _ _ => by rfl)
    rw [V3] at f3
    have f4 := hV 4 (by simp) (fun _ _ => by rfl)
    rw [V4] at f4
    have f5 := hV 5 (by simp) (fun _ _ => by rfl)
    rw [V5] at f5
    have f6 := hV 6 (by simp) (fun _ _ => by rfl)
    rw [V6] at f6
    have f7 := hV 7 (by simp) (fun _ _ => by rfl)
    rw [V7] at f7
    clear hV V0 V1 V2 V3 V4 V5 V6 V7
    simp only [putAll, Act.put, List.setIfInBounds_toArray, List.set_cons_zero, List.set_cons_succ]
    generalize val 0 = z0 at *; (subst f0)
    generalize val 1 = z1 at *; (subst f1)
    generalize val 2 = z2 at *; (subst f2)
    generalize val 3 = z3 at *; (subst f3)
    generalize val 4 = z4 at *; (subst f4)
    generalize val 5 = z5 at *; (subst f5)
    generalize val 6 = z6 at *; (subst f6)
    have HB4 := Lib.hid (hG.1.mono (show B + 1 ≤ W.heap.size by have := HZ.out; omega))
    have HG4 := Lib.hid f7; clear f7
    have HS4 := Lib.hid (HS.out.below hG.1)
    clear hG HR
    have HR := HR4
    have f3 := F3.out
    have f4 := F4.out
    have f5 := F5.out
    go_wp2_with fail
    have HV : ∃ V : Nat → (Nat → Value) → World → Prop, V = (fun ix u wv => match ix with
      | 0 => u 0 = .agg #[.bool (t2 == 0), .int .i64 N2]
      | 1 => u 1 = .pointer (some ⟨B, 2, none⟩)
      | 2 => u 2 = .int .i64 r2
      | 3 => u 3 = .int .i64 q2
      | 4 => u 4 = .pointer (some ⟨B, 3, none⟩)
      | 5 => u 5 = .int .i64 r3
      | 6 => u 6 = .int .i64 q3
      | 7 => u 7 = .int .i64 (1 + q3)
      | 8 => u 8 = .pointer (some ⟨B, 4, none⟩)
      | 9 => u 9 = .int .i64 r4
      | 10 => u 10 = .int .i64 q4
      | 11 => u 11 = .int .i64 (1 + q4)
      | 12 => u 12 = .pointer (some ⟨B, 5, none⟩)
      | 13 => u 13 = .int .i64 r5
      | 14 => u 14 = .int .i64 q5
      | 15 => u 15 = .int .i64 (1 + q5)
      | 16 => u 16 = .string d
      | 17 => u 17 = .string d
      | 18 => u 18 = .int .i64 (d.size : Int)
      | 19 => u 19 = .int .i64 mz
      | 20 => u 20 = .string X
      | 21 => u 21 = .agg #[.bool (t2 == 0), .int .i64 N2, .int .i64 q2, .int .i64 (1 + q3), .int .i64 (1 + q4), .int .i64 (1 + q5), .string X]
      | 22 => MsgAt wv (B + 1) ⟨t2 == 0, N2, q2, 1 + q3, 1 + q4, 1 + q5, X⟩
      | _ => True) := ⟨_, rfl⟩
    obtain ⟨V, hVdef⟩ := HV
    have V0 : ∀ u wv, V 0 u wv = (u 0 = .agg #[.bool (t2 == 0), .int .i64 N2]) := fun u wv => by subst hVdef; rfl
    have V1 : ∀ u wv, V 1 u wv = (u 1 = .pointer (some ⟨B, 2, none⟩)) := fun u wv => by subst hVdef; rfl
    have V2 : ∀ u wv, V 2 u wv = (u 2 = .int .i64 r2) := fun u wv => by subst hVdef; rfl
    have V3 : ∀ u wv, V 3 u wv = (u 3 = .int .i64 q2) := fun u wv => by subst hVdef; rfl
    have V4 : ∀ u wv, V 4 u wv = (u 4 = .pointer (some ⟨B, 3, none⟩)) := fun u wv => by subst hVdef; rfl
    have V5 : ∀ u wv, V 5 u wv = (u 5 = .int .i64 r3) := fun u wv => by subst hVdef; rfl
    have V6 : ∀ u wv, V 6 u wv = (u 6 = .int .i64 q3) := fun u wv => by subst hVdef; rfl
    have V7 : ∀ u wv, V 7 u wv = (u 7 = .int .i64 (1 + q3)) := fun u wv => by subst hVdef; rfl
    have V8 : ∀ u wv, V 8 u wv = (u 8 = .pointer (some ⟨B, 4, none⟩)) := fun u wv => by subst hVdef; rfl
    have V9 : ∀ u wv, V 9 u wv = (u 9 = .int .i64 r4) := fun u wv => by subst hVdef; rfl
    have V10 : ∀ u wv, V 10 u wv = (u 10 = .int .i64 q4) := fun u wv => by subst hVdef; rfl
    have V11 : ∀ u wv, V 11 u wv = (u 11 = .int .i64 (1 + q4)) := fun u wv => by subst hVdef; rfl
    have V12 : ∀ u wv, V 12 u wv = (u 12 = .pointer (some ⟨B, 5, none⟩)) := fun u wv => by subst hVdef; rfl
    have V13 : ∀ u wv, V 13 u wv = (u 13 = .int .i64 r5) := fun u wv => by subst hVdef; rfl
    have V14 : ∀ u wv, V 14 u wv = (u 14 = .int .i64 q5) := fun u wv => by subst hVdef; rfl
    have V15 : ∀ u wv, V 15 u wv = (u 15 = .int .i64 (1 + q5)) := fun u wv => by subst hVdef; rfl
    have V16 : ∀ u wv, V 16 u wv = (u 16 = .string d) := fun u wv => by subst hVdef; rfl
    have V17 : ∀ u wv, V 17 u wv = (u 17 = .string d) := fun u wv => by subst hVdef; rfl
    have V18 : ∀ u wv, V 18 u wv = (u 18 = .int .i64 (d.size : Int)) := fun u wv => by subst hVdef; rfl
    have V19 : ∀ u wv, V 19 u wv = (u 19 = .int .i64 mz) := fun u wv => by subst hVdef; rfl
    have V20 : ∀ u wv, V 20 u wv = (u 20 = .string X) := fun u wv => by subst hVdef; rfl
    have V21 : ∀ u wv, V 21 u wv = (u 21 = .agg #[.bool (t2 == 0), .int .i64 N2, .int .i64 q2, .int .i64 (1 + q3), .int .i64 (1 + q4), .int .i64 (1 + q5), .string X]) := fun u wv => by subst hVdef; rfl
    have V22 : ∀ u wv, V 22 u wv = (MsgAt wv (B + 1) ⟨t2 == 0, N2, q2, 1 + q3, 1 + q4, 1 + q5, X⟩) := fun u wv => by subst hVdef; rfl
    have HVD := Lib.hid hVdef
    clear hVdef
    refine region_each (V := V) (drop := fun _ _ => false) (G := fun wv => Below (B + 1) W wv ∧ (IdAt wv g (t2 == 0) N2 ∧ Seven wv (B + 1))) (Rel := fun jx wv wv' => MsgAt wv (B + 1) ⟨t2 == 0, N2, q2, 1 + q3, 1 + q4, 1 + q5, X⟩ → MsgAt wv' (B + 1) ⟨t2 == 0, N2, q2, 1 + q3, 1 + q4, 1 + q5, X⟩) (by kernel_rfl) (by kernel_rfl) ⟨(HB4.out).drew, HG4.out, HS4.out⟩ ?hmono3 ?hdep3 ⟨?s0_3, ?s1_3, ?s2_3, ?s3_3, ?s4_3, ?s5_3, ?s6_3, ?s7_3, ?s8_3, ?s9_3, ?s10_3, ?s11_3, ?s12_3, ?s13_3, ?s14_3, ?s15_3, ?s16_3, ?s17_3, ?s18_3, ?s19_3, ?s20_3, ?s21_3, ?s22_3, trivial⟩ ?behind3
    case hmono3 =>
      intro ix jx u wv wv' hij hw hd hr
      rw [HVD.out]
      dsimp only
      split <;> intro h <;> first | exact trivial | exact h | (exact hr h)
    case hdep3 =>
      intro ix u u' wv h1 h2
      rw [HVD.out]
      dsimp only
      split <;> intro h <;> first | exact trivial | (rw [← h1]; exact h) | (exact h)
    case s0_3 =>
      refine owe rfl fun a wx val hG hV hN hO K hK => ?_
      have e5 : a.tmps[5]? = some (.pointer (some ⟨g, 0, none⟩)) := (hO 5 (by kernel_rfl)).trans (by rfl)
      clear hV hN hO
      obtain ⟨d0, d1, _⟩ := hG.2.1.cells
      go_simp
      exact hK.out _ _ (by rw [V0, upd_at]) id hG
    case s1_3 =>
      refine owe rfl fun a wx val hG hV hN hO K hK => ?_
      have e2 : a.tmps[2]? = some (.pointer (some ⟨B, 0, none⟩)) := (hO 2 (by kernel_rfl)).trans (by rfl)
      clear hV hN hO
      go_simp
      exact hK.out _ _ (by rw [V1, upd_at]) id hG
    case s2_3 =>
      refine owe rfl fun a wx val hG hV hN hO K hK => ?_
      have e26 := hN 1 26 (by kernel_rfl) (by kernel_rfl) (by simp)
      have f26 := hV 1 (by kernel_rfl) (by kernel_rfl)
      rw [V1] at f26
      rw [f26] at e26; clear f26
      clear hV hN hO
      have cs := HR.out _ hG.1
      obtain ⟨a0, a1, a2, a3, a4, a5⟩ := cs
      go_simp
      exact hK.out _ _ (by rw [V2, upd_at]) id hG
    case s3_3 =>
      refine owe rfl fun a wx val hG hV hN hO K hK => ?_
      have e27 := hN 2 27 (by kernel_rfl) (by kernel_rfl) (by simp)
      have f27 := hV 2 (by kernel_rfl) (by kernel_rfl)
      rw [V2] at f27
      rw [f27] at e27; clear f27
      clear hV hN hO
      go_simp
      refine (c2 _).mono ?_
      rintro e w3 ⟨rfl, rfl⟩
      exact hK.out _ _ (by rw [V3, upd_at]) id hG
    case s4_3 =>
      refine owe rfl fun a wx val hG hV hN hO K hK => ?_
      have e2 : a.tmps[2]? = some (.pointer (some ⟨B, 0, none⟩)) := (hO 2 (by kernel_rfl)).trans (by rfl)
      clear hV hN hO
      go_simp
      exact hK.out _ _ (by rw [V4, upd_at]) id hG
    case s5_3 =>
      refine owe rfl fun a wx val hG hV hN hO K hK => ?_
      have e29 := hN 4 29 (by kernel_rfl) (by kernel_rfl) (by simp)
      have f29 := hV 4 (by kernel_rfl) (by kernel_rfl)
      rw [V4] at f29
      rw [f29] at e29; clear f29
      clear hV hN hO
      have cs := HR.out _ hG.1
      obtain ⟨a0, a1, a2, a3, a4, a5⟩ := cs
      go_simp
      exact hK.out _ _ (by rw [V5, upd_at]) id hG
    case s6_3 =>
      refine owe rfl fun a wx val hG hV hN hO K hK => ?_
      have e30 := hN 5 30 (by kernel_rfl) (by kernel_rfl) (by simp)
      have f30 := hV 5 (by kernel_rfl) (by kernel_rfl)
      rw [V5] at f30
      rw [f30] at e30; clear f30
      clear hV hN hO
      go_simp
      refine (c3 _).mono ?_
      rintro e w3 ⟨rfl, rfl⟩
      exact hK.out _ _ (by rw [V6, upd_at]) id hG
    case s7_3 =>
      refine owe rfl fun a wx val hG hV hN hO K hK => ?_
      have e31 := hN 6 31 (by kernel_rfl) (by kernel_rfl) (by simp)
      have f31 := hV 6 (by kernel_rfl) (by kernel_rfl)
      rw [V6] at f31
      rw [f31] at e31; clear f31
      clear hV hN hO
      go_simp
      exact hK.out _ _ (by rw [V7, upd_at]) id hG
    case s8_3 =>
      refine owe rfl fun a wx val hG hV hN hO K hK => ?_
      have e2 : a.tmps[2]? = some (.pointer (some ⟨B, 0, none⟩)) := (hO 2 (by kernel_rfl)).trans (by rfl)
      clear hV hN hO
      go_simp
      exact hK.out _ _ (by rw [V8, upd_at]) id hG
    case s9_3 =>
      refine owe rfl fun a wx val hG hV hN hO K hK => ?_
      have e33 := hN 8 33 (by kernel_rfl) (by kernel_rfl) (by simp)
      have f33 := hV 8 (by kernel_rfl) (by kernel_rfl)
      rw [V8] at f33
      rw [f33] at e33; clear f33
      clear hV hN hO
      have cs := HR.out _ hG.1
      obtain ⟨a0, a1, a2, a3, a4, a5⟩ := cs
      go_simp
      exact hK.out _ _ (by rw [V9, upd_at]) id hG
    case s10_3 =>
      refine owe rfl fun a wx val hG hV hN hO K hK => ?_
      have e34 := hN 9 34 (by kernel_rfl) (by kernel_rfl) (by simp)
      have f34 := hV 9 (by kernel_rfl) (by kernel_rfl)
      rw [V9] at f34
      rw [f34] at e34; clear f34
      clear hV hN hO
      go_simp
      refine (c4 _).mono ?_
      rintro e w3 ⟨rfl, rfl⟩
      exact hK.out _ _ (by rw [V10, upd_at]) id hG
    case s11_3 =>
      refine owe rfl fun a wx val hG hV hN hO K hK => ?_
      have e35 := hN 10 35 (by kernel_rfl) (by kernel_rfl) (by simp)
      have f35 := hV 10 (by kernel_rfl) (by kernel_rfl)
      rw [V10] at f35
      rw [f35] at e35; clear f35
      clear hV hN hO
      go_simp
      exact hK.out _ _ (by rw [V11, upd_at]) id hG
    case s12_3 =>
      refine owe rfl fun a wx val hG hV hN hO K hK => ?_
      have e2 : a.tmps[2]? = some (.pointer (some ⟨B, 0, none⟩)) := (hO 2 (by kernel_rfl)).trans (by rfl)
      clear hV hN hO
      go_simp
      exact hK.out _ _ (by rw [V12, upd_at]) id hG
    case s13_3 =>
      refine owe rfl fun a wx val hG hV hN hO K hK => ?_
      have e37 := hN 12 37 (by kernel_rfl) (by kernel_rfl) (by simp)
      have f37 := hV 12 (by kernel_rfl) (by kernel_rfl)
      rw [V12] at f37
      rw [f37] at e37; clear f37
      clear hV hN hO
      have cs := HR.out _ hG.1
      obtain ⟨a0, a1, a2, a3, a4, a5⟩ := cs
      go_simp
      exact hK.out _ _ (by rw [V13, upd_at]) id hG
    case s14_3 =>
      refine owe rfl fun a wx val hG hV hN hO K hK => ?_
      have e38 := hN 13 38 (by kernel_rfl) (by kernel_rfl) (by simp)
      have f38 := hV 13 (by kernel_rfl) (by kernel_rfl)
      rw [V13] at f38
      rw [f38] at e38; clear f38
      clear hV hN hO
      go_simp
      refine (c5 _).mono ?_
      rintro e w3 ⟨rfl, rfl⟩
      exact hK.out _ _ (by rw [V14, upd_at]) id hG
    case s15_3 =>
      refine owe rfl fun a wx val hG hV hN hO K hK => ?_
      have e39 := hN 14 39 (by kernel_rfl) (by kernel_rfl) (by simp)
      have f39 := hV 14 (by kernel_rfl) (by kernel_rfl)
      rw [V14] at f39
      rw [f39] at e39; clear f39
      clear hV hN hO
      go_simp
      exact hK.out _ _ (by rw [V15, upd_at]) id hG
    case s16_3 =>
      refine owe rfl fun a wx val hG hV hN hO K hK => ?_
      have e1 : a.tmps[1]? = some (.string d) := (hO 1 (by kernel_rfl)).trans (by rfl)
      clear hV hN hO
      go_simp
      exact hK.out _ _ (by rw [V16, upd_at]) id hG
    case s17_3 =>
      refine owe rfl fun a wx val hG hV hN hO K hK => ?_
      have e1 : a.tmps[1]? = some (.string d) := (hO 1 (by kernel_rfl)).trans (by rfl)
      clear hV hN hO
      go_simp
      exact hK.out _ _ (by rw [V17, upd_at]) id hG
    case s18_3 =>
      refine owe rfl fun a wx val hG hV hN hO K hK => ?_
      have e42 := hN 17 42 (by kernel_rfl) (by kernel_rfl) (by simp)
      have f42 := hV 17 (by kernel_rfl) (by kernel_rfl)
      rw [V17] at f42
      rw [f42] at e42; clear f42
      clear hV hN hO
      go_simp
      exact hK.out _ _ (by rw [V18, upd_at]) id hG
    case s19_3 =>
      refine owe rfl fun a wx val hG hV hN hO K hK => ?_
      have e43 := hN 18 43 (by kernel_rfl) (by kernel_rfl) (by simp)
      have f43 := hV 18 (by kernel_rfl) (by kernel_rfl)
      rw [V18] at f43
      rw [f43] at e43; clear f43
      clear hV hN hO
      rcases HMZ.out with ⟨hz, ez⟩ | ⟨hz, ez⟩
      · go_simp
        exact hK.out _ _ (by rw [V19, upd_at, ez, if_neg (show ¬ (8 < (d.size : Int)) by omega)]) id hG
      · go_simp
        exact hK.out _ _ (by rw [V19, upd_at, ez]) id hG
    case s20_3 =>
      refine owe rfl fun a wx val hG hV hN hO K hK => ?_
      have e41 := hN 16 41 (by kernel_rfl) (by kernel_rfl) (by simp)
      have f41 := hV 16 (by kernel_rfl) (by kernel_rfl)
      rw [V16] at f41
      rw [f41] at e41; clear f41
      have e44 := hN 19 44 (by kernel_rfl) (by kernel_rfl) (by simp)
      have f44 := hV 19 (by kernel_rfl) (by kernel_rfl)
      rw [V19] at f44
      rw [f44] at e44; clear f44
      clear hV hN hO
      have kx := KX.out
      go_simp
      exact hK.out _ _ (by rw [V20, upd_at]) id hG
    case s21_3 =>
      refine owe rfl fun a wx val hG hV hN hO K hK => ?_
      have e25 := hN 0 25 (by kernel_rfl) (by kernel_rfl) (by simp)
      have f25 := hV 0 (by kernel_rfl) (by kernel_rfl)
      rw [V0] at f25
      rw [f25] at e25; clear f25
      have e28 := hN 3 28 (by kernel_rfl) (by kernel_rfl) (by simp)
      have f28 := hV 3 (by kernel_rfl) (by kernel_rfl)
      rw [V3] at f28
      rw [f28] at e28; clear f28
      have e32 := hN 7 32 (by kernel_rfl) (by kernel_rfl) (by simp)
      have f32 := hV 7 (by kernel_rfl) (by kernel_rfl)
      rw [V7] at f32
      rw [f32] at e32; clear f32
      have e36 := hN 11 36 (by kernel_rfl) (by kernel_rfl) (by simp)
      have f36 := hV 11 (by kernel_rfl) (by kernel_rfl)
      rw [V11] at f36
      rw [f36] at e36; clear f36
      have e40 := hN 15 40 (by kernel_rfl) (by kernel_rfl) (by simp)
      have f40 := hV 15 (by kernel_rfl) (by kernel_rfl)
      rw [V15] at f40
      rw [f40] at e40; clear f40
      have e45 := hN 20 45 (by kernel_rfl) (by kernel_rfl) (by simp)
      have f45 := hV 20 (by kernel_rfl) (by kernel_rfl)
      rw [V20] at f45
      rw [f45] at e45; clear f45
      clear hV hN hO
      go_simp
      exact hK.out _ _ (by rw [V21, upd_at]) id hG
    case s22_3 =>
      refine owe rfl fun a wx val hG hV hN hO K hK => ?_
      have e4 : a.tmps[4]? = some (.pointer (some ⟨B + 1, 0, none⟩)) := (hO 4 (by kernel_rfl)).trans (by rfl)
      have e46 := hN 21 46 (by kernel_rfl) (by kernel_rfl) (by simp)
      have f46 := hV 21 (by kernel_rfl) (by kernel_rfl)
      rw [V21] at f46
      rw [f46] at e46; clear f46
      clear hV hN hO
      obtain ⟨z0, z1, z2, z3, z4, z5, z6, ⟨d0, d1, d2, d3, d4, d5, d6⟩, hfz⟩ := hG.2.2.cells
      go_simp
      exact hK.out undef (put7 wx (B + 1) ⟨t2 == 0, N2, q2, 1 + q3, 1 + q4, 1 + q5, X⟩) (by rw [V22]; exact put7_blk hG.2.2 _) (fun _ => put7_blk hG.2.2 _) ⟨put7_below hG.1 (Nat.le_refl _) _, (put7_far wx (by have := HGB.out; omega) _).trans hG.2.1, Seven.put7 hG.2.2 hG.2.2 _⟩
    intro val wx hG hV
    have f0 := hV 0 (by simp) (fun _ _ => by rfl)
    rw [V0] at f0
    have f1 := hV 1 (by simp) (fun _ _ => by rfl)
    rw [V1] at f1
    have f2 := hV 2 (by simp) (fun _ _ => by rfl)
    rw [V2] at f2
    have f3 := hV 3 (by simp) (fun _ _ => by rfl)
    rw [V3] at f3
    have f4 := hV 4 (by simp) (fun _ _ => by rfl)
    rw [V4] at f4
    have f5 := hV 5 (by simp) (fun _ _ => by rfl)
    rw [V5] at f5
    have f6 := hV 6 (by simp) (fun _ _ => by rfl)
    rw [V6] at f6
    have f7 := hV 7 (by simp) (fun _ _ => by rfl)
    rw [V7] at f7
    have f8 := hV 8 (by simp) (fun _ _ => by rfl)
    rw [V8] at f8
    have f9 := hV 9 (by simp) (fun _ _ => by rfl)
    rw [V9] at f9
    have f10 := hV 10 (by simp) (fun _ _ => by rfl)
    rw [V10] at f10
    have f11 := hV 11 (by simp) (fun _ _ => by rfl)
    rw [V11] at f11
    have f12 := hV 12 (by simp) (fun _ _ => by rfl)
    rw [V12] at f12
    have f13 := hV 13 (by simp) (fun _ _ => by rfl)
    rw [V13] at f13
    have f14 := hV 14 (by simp) (fun _ _ => by rfl)
    rw [V14] at f14
    have f15 := hV 15 (by simp) (fun _ _ => by rfl)
    rw [V15] at f15
    have f16 := hV 16 (by simp) (fun _ _ => by rfl)
    rw [V16] at f16
    have f17 := hV 17 (by simp) (fun _ _ => by rfl)
    rw [V17] at f17
    have f18 := hV 18 (by simp) (fun _ _ => by rfl)
    rw [V18] at f18
    have f19 := hV 19 (by simp) (fun _ _ => by rfl)
    rw [V19] at f19
    have f20 := hV 20 (by simp) (fun _ _ => by rfl)
    rw [V20] at f20
    have f21 := hV 21 (by simp) (fun _ _ => by rfl)
    rw [V21] at f21
    have f22 := hV 22 (by simp) (fun _ _ => by rfl)
    rw [V22] at f22
    clear hV V0 V1 V2 V3 V4 V5 V6 V7 V8 V9 V10 V11 V12 V13 V14 V15 V16 V17 V18 V19 V20 V21 V22
    simp only [putAll, Act.put, List.setIfInBounds_toArray, List.set_cons_zero, List.set_cons_succ]
    generalize val 0 = z0 at *; (subst f0)
    generalize val 1 = z1 at *; (subst f1)
    generalize val 2 = z2 at *; (subst f2)
    generalize val 3 = z3 at *; (subst f3)
    generalize val 4 = z4 at *; (subst f4)
    generalize val 5 = z5 at *; (subst f5)
    generalize val 6 = z6 at *; (subst f6)
    generalize val 7 = z7 at *; (subst f7)
    generalize val 8 = z8 at *; (subst f8)
    generalize val 9 = z9 at *; (subst f9)
    generalize val 10 = z10 at *; (subst f10)
    generalize val 11 = z11 at *; (subst f11)
    generalize val 12 = z12 at *; (subst f12)
    generalize val 13 = z13 at *; (subst f13)
    generalize val 14 = z14 at *; (subst f14)
    generalize val 15 = z15 at *; (subst f15)
    generalize val 16 = z16 at *; (subst f16)
    generalize val 17 = z17 at *; (subst f17)
    generalize val 18 = z18 at *; (subst f18)
    generalize val 19 = z19 at *; (subst f19)
    generalize val 20 = z20 at *; (subst f20)
    generalize val 21 = z21 at *; (subst f21)
    go_wp2_with fail
    have HMA := Lib.hid f22; clear f22
    have HBE := Lib.hid (HW.out.trans (hG.1.mono (by omega)))
    clear hG
    have hf := Holds.of_blk HMA.out
    obtain ⟨_, r0', r1', r2', r3', r4', r5', r6'⟩ := hf
    exact bodyPost_ret (v := mv ⟨t2 == 0, N2, q2, 1 + q3, 1 + q4, 1 + q5, X⟩) (by simp [results, Tryd.results23, go_sem, r0', r1', r2', r3', r4', r5', r6']) rfl ⟨by rw [HE.out], by rw [hBw]; exact HBE.out⟩
  · rw [if_neg h6, if_neg h6] at HE
    have h62 : (pickI r1 7 == 6) = false := by simpa using h6
    clear h6
    generalize pickI r1 7 = t7 at *
    go_enter Tryd.func23, Tryd.ntmps23
    go_wp2_with fail
    have hW := Joins.below_alloc2 w (.cells #[.int .i64 r0, .int .i64 r1, .int .i64 r2, .int .i64 r3, .int .i64 r4, .int .i64 r5] 27) (.cells (mc zeroM) 26)
    have hs : Seven ((w.alloc (.cells #[.int .i64 r0, .int .i64 r1, .int .i64 r2, .int .i64 r3, .int .i64 r4, .int .i64 r5] 27)).alloc (.cells (mc zeroM) 26)) (w.heap.size + 1) := by
      have := Seven.new (w.alloc (.cells #[.int .i64 r0, .int .i64 r1, .int .i64 r2, .int .i64 r3, .int .i64 r4, .int .i64 r5] 27)) zeroM
      rwa [World.size_alloc] at this
    have hr : ∀ W', Below (w.heap.size + 1) ((w.alloc (.cells #[.int .i64 r0, .int .i64 r1, .int .i64 r2, .int .i64 r3, .int .i64 r4, .int .i64 r5] 27)).alloc (.cells (mc zeroM) 26)) W' → W'.cell? ⟨w.heap.size, 0, none⟩ = some (.int .i64 r0) ∧ W'.cell? ⟨w.heap.size, 1, none⟩ = some (.int .i64 r1) ∧ W'.cell? ⟨w.heap.size, 2, none⟩ = some (.int .i64 r2) ∧ W'.cell? ⟨w.heap.size, 3, none⟩ = some (.int .i64 r3) ∧ W'.cell? ⟨w.heap.size, 4, none⟩ = some (.int .i64 r4) ∧ W'.cell? ⟨w.heap.size, 5, none⟩ = some (.int .i64 r5) := by
      intro W' hb
      refine ⟨(hb.cell (p := ⟨w.heap.size, 0, none⟩) (by simp)).trans ?_, (hb.cell (p := ⟨w.heap.size, 1, none⟩) (by simp)).trans ?_, (hb.cell (p := ⟨w.heap.size, 2, none⟩) (by simp)).trans ?_, (hb.cell (p := ⟨w.heap.size, 3, none⟩) (by simp)).trans ?_, (hb.cell (p := ⟨w.heap.size, 4, none⟩) (by simp)).trans ?_, (hb.cell (p := ⟨w.heap.size, 5, none⟩) (by simp)).trans ?_⟩ <;> simp [go_sem]
    have hz : w.heap.size + 2 = ((w.alloc (.cells #[.int .i64 r0, .int .i64 r1, .int .i64 r2, .int .i64 r3, .int .i64 r4, .int .i64 r5] 27)).alloc (.cells (mc zeroM) 26)).heap.size := by simp
    simp only [mc, zeroM] at *
    generalize (w.alloc (.cells #[.int .i64 r0, .int .i64 r1, .int .i64 r2, .int .i64 r3, .int .i64 r4, .int .i64 r5] 27)).alloc (.cells #[.bool false, .int .i64 0, .int .i64 0, .int .i64 0, .int .i64 0, .int .i64 0, .string ⟨#[]⟩] 26) = W at *
    have HW := Lib.hid hW; clear hW
    have HS := Lib.hid hs; clear hs
    have HZ := Lib.hid hz; clear hz
    generalize hBw : w.heap.size = B at *
    have HR := Lib.hid (fun W' (hb : Below W.heap.size W W') => hr W' (hb.mono (by have := HZ.out; omega)))
    have HR4 := Lib.hid hr; clear hr
    have HV : ∃ V : Nat → (Nat → Value) → World → Prop, V = (fun ix u wv => match ix with
      | 0 => u 0 = .pointer (some ⟨B, 0, none⟩)
      | 1 => u 1 = .int .i64 r0
      | 2 => u 2 = .int .i64 q
      | 3 => u 3 = .pointer (some ⟨B, 1, none⟩)
      | 4 => u 4 = .int .i64 r1
      | 5 => u 5 = .int .i64 t3
      | 6 => u 6 = .bool (t3 == 0)
      | 7 => u 7 = .agg #[.bool (t3 == 0), .int .i64 N1]
      | 8 => ∃ g, u 8 = .pointer (some ⟨g, 0, none⟩) ∧ W.heap.size ≤ g ∧ Duo wv g
      | 9 => ∃ g, u 8 = .pointer (some ⟨g, 0, none⟩) ∧ W.heap.size ≤ g ∧ IdAt wv g (t3 == 0) N1
      | _ => True) := ⟨_, rfl⟩
    obtain ⟨V, hVdef⟩ := HV
    have V0 : ∀ u wv, V 0 u wv = (u 0 = .pointer (some ⟨B, 0, none⟩)) := fun u wv => by subst hVdef; rfl
    have V1 : ∀ u wv, V 1 u wv = (u 1 = .int .i64 r0) := fun u wv => by subst hVdef; rfl
    have V2 : ∀ u wv, V 2 u wv = (u 2 = .int .i64 q) := fun u wv => by subst hVdef; rfl
    have V3 : ∀ u wv, V 3 u wv = (u 3 = .pointer (some ⟨B, 1, none⟩)) := fun u wv => by subst hVdef; rfl
    have V4 : ∀ u wv, V 4 u wv = (u 4 = .int .i64 r1) := fun u wv => by subst hVdef; rfl
    have V5 : ∀ u wv, V 5 u wv = (u 5 = .int .i64 t3) := fun u wv => by subst hVdef; rfl
    have V6 : ∀ u wv, V 6 u wv = (u 6 = .bool (t3 == 0)) := fun u wv => by subst hVdef; rfl
    have V7 : ∀ u wv, V 7 u wv = (u 7 = .agg #[.bool (t3 == 0), .int .i64 N1]) := fun u wv => by subst hVdef; rfl
    have V8 : ∀ u wv, V 8 u wv = (∃ g, u 8 = .pointer (some ⟨g, 0, none⟩) ∧ W.heap.size ≤ g ∧ Duo wv g) := fun u wv => by subst hVdef; rfl
    have V9 : ∀ u wv, V 9 u wv = (∃ g, u 8 = .pointer (some ⟨g, 0, none⟩) ∧ W.heap.size ≤ g ∧ IdAt wv g (t3 == 0) N1) := fun u wv => by subst hVdef; rfl
    have HVD := Lib.hid hVdef
    clear hVdef
    refine region_each (V := V) (drop := fun _ _ => false) (G := fun wv => Below W.heap.size W wv) (Rel := fun jx wv wv' => Below W.heap.size wv wv' ∧ (∀ g, Duo wv g → Duo wv' g) ∧ (∀ g, IdAt wv g (t3 == 0) N1 → IdAt wv' g (t3 == 0) N1)) (by kernel_rfl) (by kernel_rfl) (Below.refl _ _).drew ?hmono4 ?hdep4 ⟨?s0_4, ?s1_4, ?s2_4, ?s3_4, ?s4_4, ?s5_4, ?s6_4, ?s7_4, ?s8_4, ?s9_4, trivial⟩ ?behind4
    case hmono4 =>
      intro ix jx u wv wv' hij hw hd hr
      rw [HVD.out]
      dsimp only
      split <;> intro h <;> first | exact trivial | exact h | (obtain ⟨g, h1, h2, h3⟩ := h; first | exact ⟨g, h1, h2, hr.2.1 g h3⟩ | exact ⟨g, h1, h2, hr.2.2 g h3⟩)
    case hdep4 =>
      intro ix u u' wv h1 h2
      rw [HVD.out]
      dsimp only
      split <;> intro h <;> first | exact trivial | (rw [← h1]; exact h) | (obtain ⟨g, e1, e2⟩ := h; first | exact ⟨g, h1 ▸ e1, e2⟩ | exact ⟨g, (h2 8 (by kernel_rfl)) ▸ e1, e2⟩)
    case s0_4 =>
      refine owe rfl fun a wx val hG hV hN hO K hK => ?_
      have e2 : a.tmps[2]? = some (.pointer (some ⟨B, 0, none⟩)) := (hO 2 (by kernel_rfl)).trans (by rfl)
      clear hV hN hO
      go_simp
      exact hK.out _ _ (by rw [V0, upd_at]) ⟨Below.refl _ _, fun _ h => h, fun _ h => h⟩ hG
    case s1_4 =>
      refine owe rfl fun a wx val hG hV hN hO K hK => ?_
      have e6 := hN 0 6 (by kernel_rfl) (by kernel_rfl) (by simp)
      have f6 := hV 0 (by kernel_rfl) (by kernel_rfl)
      rw [V0] at f6
      rw [f6] at e6; clear f6
      clear hV hN hO
      have cs := HR.out _ hG
      obtain ⟨a0, a1, a2, a3, a4, a5⟩ := cs
      go_simp
      exact hK.out _ _ (by rw [V1, upd_at]) ⟨Below.refl _ _, fun _ h => h, fun _ h => h⟩ hG
    case s2_4 =>
      refine owe rfl fun a wx val hG hV hN hO K hK => ?_
      have e7 := hN 1 7 (by kernel_rfl) (by kernel_rfl) (by simp)
      have f7 := hV 1 (by kernel_rfl) (by kernel_rfl)
      rw [V1] at f7
      rw [f7] at e7; clear f7
      clear hV hN hO
      go_simp
      refine (c05 _).mono ?_
      rintro e w3 ⟨rfl, rfl⟩
      exact hK.out _ _ (by rw [V2, upd_at]) ⟨Below.refl _ _, fun _ h => h, fun _ h => h⟩ hG
    case s3_4 =>
      refine owe rfl fun a wx val hG hV hN hO K hK => ?_
      have e2 : a.tmps[2]? = some (.pointer (some ⟨B, 0, none⟩)) := (hO 2 (by kernel_rfl)).trans (by rfl)
      clear hV hN hO
      go_simp
      exact hK.out _ _ (by rw [V3, upd_at]) ⟨Below.refl _ _, fun _ h => h, fun _ h => h⟩ hG
    case s4_4 =>
      refine owe rfl fun a wx val hG hV hN hO K hK => ?_
      have e9 := hN 3 9 (by kernel_rfl) (by kernel_rfl) (by simp)
      have f9 := hV 3 (by kernel_rfl) (by kernel_rfl)
      rw [V3] at f9
      rw [f9] at e9; clear f9
      clear hV hN hO
      have cs := HR.out _ hG
      obtain ⟨a0, a1, a2, a3, a4, a5⟩ := cs
      go_simp
      exact hK.out _ _ (by rw [V4, upd_at]) ⟨Below.refl _ _, fun _ h => h, fun _ h => h⟩ hG
    case s5_4 =>
      refine owe rfl fun a wx val hG hV hN hO K hK => ?_
      have e10 := hN 4 10 (by kernel_rfl) (by kernel_rfl) (by simp)
      have f10 := hV 4 (by kernel_rfl) (by kernel_rfl)
      rw [V4] at f10
      rw [f10] at e10; clear f10
      clear hV hN hO
      go_simp
      refine (c13 _).mono ?_
      rintro e w3 ⟨rfl, rfl⟩
      exact hK.out _ _ (by rw [V5, upd_at]) ⟨Below.refl _ _, fun _ h => h, fun _ h => h⟩ hG
    case s6_4 =>
      refine owe rfl fun a wx val hG hV hN hO K hK => ?_
      have e11 := hN 5 11 (by kernel_rfl) (by kernel_rfl) (by simp)
      have f11 := hV 5 (by kernel_rfl) (by kernel_rfl)
      rw [V5] at f11
      rw [f11] at e11; clear f11
      clear hV hN hO
      go_simp
      exact hK.out _ _ (by rw [V6, upd_at]) ⟨Below.refl _ _, fun _ h => h, fun _ h => h⟩ hG
    case s7_4 =>
      refine owe rfl fun a wx val hG hV hN hO K hK => ?_
      have e8 := hN 2 8 (by kernel_rfl) (by kernel_rfl) (by simp)
      have f8 := hV 2 (by kernel_rfl) (by kernel_rfl)
      rw [V2] at f8
      rw [f8] at e8; clear f8
      have e12 := hN 6 12 (by kernel_rfl) (by kernel_rfl) (by simp)
      have f12 := hV 6 (by kernel_rfl) (by kernel_rfl)
      rw [V6] at f12
      rw [f12] at e12; clear f12
      clear hV hN hO
      go_simp
      refine (cA _).mono ?_
      rintro e w3 ⟨rfl, hb⟩
      exact hK.out _ _ (by rw [V7, upd_at]) ⟨hb.mono hG.size, fun _ h => h.below hb, fun _ h => h.below hb⟩ (hG.trans (hb.mono hG.size))
    case s8_4 =>
      refine owe rfl fun a wx val hG hV hN hO K hK => ?_
      clear hV hN hO
      go_simp
      have hb := Joins.below_alloc1 wx (.cells #[.bool false, .int .i64 0] 24)
      exact hK.out _ _ (by rw [V8, upd_at]; exact ⟨_, rfl, hG.size, (IdAt.new wx false 0).duo⟩) ⟨hb.mono hG.size, fun _ h => h.below hb, fun _ h => h.below hb⟩ (hG.trans (hb.mono hG.size))
    case s9_4 =>
      refine owe rfl fun a wx val hG hV hN hO K hK => ?_
      have e5 := hN 8 5 (by kernel_rfl) (by kernel_rfl) (by simp)
      have f5 := hV 8 (by kernel_rfl) (by kernel_rfl)
      rw [V8] at f5
      obtain ⟨g, hv, hg, hc⟩ := f5; rw [hv] at e5
      have e13 := hN 7 13 (by kernel_rfl) (by kernel_rfl) (by simp)
      have f13 := hV 7 (by kernel_rfl) (by kernel_rfl)
      rw [V7] at f13
      rw [f13] at e13; clear f13
      clear hV hN hO
      obtain ⟨z0, z1, d0, d1, hfz⟩ := hc.cells
      go_simp
      exact hK.out undef (put2 wx g (t3 == 0) N1) (by rw [V9]; exact ⟨g, (upd_ne _ _ (by decide)).trans hv, hg, put2_at hc _ _⟩) ⟨put2_below (Below.refl _ _) hg _ _, fun _ h => put2_duo hc h _ _, fun _ h => put2_same hc h⟩ (put2_below hG hg _ _)
    intro val wx hG hV
    have f0 := hV 0 (by simp) (fun _ _ => by rfl)
    rw [V0] at f0
    have f1 := hV 1 (by simp) (fun _ _ => by rfl)
    rw [V1] at f1
    have f2 := hV 2 (by simp) (fun _ _ => by rfl)
    rw [V2] at f2
    have f3 := hV 3 (by simp) (fun _ _ => by rfl)
    rw [V3] at f3
    have f4 := hV 4 (by simp) (fun _ _ => by rfl)
    rw [V4] at f4
    have f5 := hV 5 (by simp) (fun _ _ => by rfl)
    rw [V5] at f5
    have f6 := hV 6 (by simp) (fun _ _ => by rfl)
    rw [V6] at f6
    have f7 := hV 7 (by simp) (fun _ _ => by rfl)
    rw [V7] at f7
    have f8 := hV 8 (by simp) (fun _ _ => by rfl)
    rw [V8] at f8
    have f9 := hV 9 (by simp) (fun _ _ => by rfl)
    rw [V9] at f9
    clear hV V0 V1 V2 V3 V4 V5 V6 V7 V8 V9
    simp only [putAll, Act.put, List.setIfInBounds_toArray, List.set_cons_zero, List.set_cons_succ]
    generalize val 0 = z0 at *; (subst f0)
    generalize val 1 = z1 at *; (subst f1)
    generalize val 2 = z2 at *; (subst f2)
    generalize val 3 = z3 at *; (subst f3)
    generalize val 4 = z4 at *; (subst f4)
    generalize val 5 = z5 at *; (subst f5)
    generalize val 6 = z6 at *; (subst f6)
    generalize val 7 = z7 at *; (subst f7)
    obtain ⟨g, hv8, hg, hI⟩ := f9
    clear f8
    generalize val 8 = z8 at *
    subst hv8
    have HB := Lib.hid hG
    have HG := Lib.hid hI
    have HGB : Hid (g ≠ B + 1) := Lib.hid (by have := HZ.out; omega)
    have HS1 := Lib.hid (HS.out.below hG)
    obtain ⟨a0, a1, a2, a3, a4, a5⟩ := HR.out _ hG
    clear hG hI
    go_wp2_with fail; refine (c17 _).mono ?_; rintro e w3 ⟨rfl, rfl⟩
    go_wp2_with fail
    clear a0 a1 a2 a3 a4 a5
    have HB4 := Lib.hid (HB.out.mono (show B + 1 ≤ W.heap.size by have := HZ.out; omega))
    have HG4 := HG
    have HS4 := HS1
    clear HR
    have HR := HR4
    have f3 := F3.out
    have f4 := F4.out
    have f5 := F5.out
    have HV : ∃ V : Nat → (Nat → Value) → World → Prop, V = (fun ix u wv => match ix with
      | 0 => u 0 = .agg #[.bool (t3 == 0), .int .i64 N1]
      | 1 => u 1 = .pointer (some ⟨B, 2, none⟩)
      | 2 => u 2 = .int .i64 r2
      | 3 => u 3 = .int .i64 q2
      | 4 => u 4 = .pointer (some ⟨B, 3, none⟩)
      | 5 => u 5 = .int .i64 r3
      | 6 => u 6 = .int .i64 q3
      | 7 => u 7 = .int .i64 (1 + q3)
      | 8 => u 8 = .pointer (some ⟨B, 4, none⟩)
      | 9 => u 9 = .int .i64 r4
      | 10 => u 10 = .int .i64 q4
      | 11 => u 11 = .int .i64 (1 + q4)
      | 12 => u 12 = .pointer (some ⟨B, 5, none⟩)
      | 13 => u 13 = .int .i64 r5
      | 14 => u 14 = .int .i64 q5
      | 15 => u 15 = .int .i64 (1 + q5)
      | 16 => u 16 = .string d
      | 17 => u 17 = .string d
      | 18 => u 18 = .int .i64 (d.size : Int)
      | 19 => u 19 = .int .i64 mz
      | 20 => u 20 = .string X
      | 21 => u 21 = .agg #[.bool (t3 == 0), .int .i64 N1, .int .i64 q2, .int .i64 (1 + q3), .int .i64 (1 + q4), .int .i64 (1 + q5), .string X]
      | 22 => MsgAt wv (B + 1) ⟨t3 == 0, N1, q2, 1 + q3, 1 + q4, 1 + q5, X⟩
      | _ => True) := ⟨_, rfl⟩
    obtain ⟨V, hVdef⟩ := HV
    have V0 : ∀ u wv, V 0 u wv = (u 0 = .agg #[.bool (t3 == 0), .int .i64 N1]) := fun u wv => by subst hVdef; rfl
    have V1 : ∀ u wv, V 1 u wv = (u 1 = .pointer (some ⟨B, 2, none⟩)) := fun u wv => by subst hVdef; rfl
    have V2 : ∀ u wv, V 2 u wv = (u 2 = .int .i64 r2) := fun u wv => by subst hVdef; rfl
    have V3 : ∀ u wv, V 3 u wv = (u 3 = .int .i64 q2) := fun u wv => by subst hVdef; rfl
    have V4 : ∀ u wv, V 4 u wv = (u 4 = .pointer (some ⟨B, 3, none⟩)) := fun u wv => by subst hVdef; rfl
    have V5 : ∀ u wv, V 5 u wv = (u 5 = .int .i64 r3) := fun u wv => by subst hVdef; rfl
    have V6 : ∀ u wv, V 6 u wv = (u 6 = .int .i64 q3) := fun u wv => by subst hVdef; rfl
    have V7 : ∀ u wv, V 7 u wv = (u 7 = .int .i64 (1 + q3)) := fun u wv => by subst hVdef; rfl
    have V8 : ∀ u wv, V 8 u wv = (u 8 = .pointer (some ⟨B, 4, none⟩)) := fun u wv => by subst hVdef; rfl
    have V9 : ∀ u wv, V 9 u wv = (u 9 = .int .i64 r4) := fun u wv => by subst hVdef; rfl
    have V10 : ∀ u wv, V 10 u wv = (u 10 = .int .i64 q4) := fun u wv => by subst hVdef; rfl
    have V11 : ∀ u wv, V 11 u wv = (u 11 = .int .i64 (1 + q4)) := fun u wv => by subst hVdef; rfl
    have V12 : ∀ u wv, V 12 u wv = (u 12 = .pointer (some ⟨B, 5, none⟩)) := fun u wv => by subst hVdef; rfl
    have V13 : ∀ u wv, V 13 u wv = (u 13 = .int .i64 r5) := fun u wv => by subst hVdef; rfl
    have V14 : ∀ u wv, V 14 u wv = (u 14 = .int .i64 q5) := fun u wv => by subst hVdef; rfl
    have V15 : ∀ u wv, V 15 u wv = (u 15 = .int .i64 (1 + q5)) := fun u wv => by subst hVdef; rfl
    have V16 : ∀ u wv, V 16 u wv = (u 16 = .string d) := fun u wv => by subst hVdef; rfl
    have V17 : ∀ u wv, V 17 u wv = (u 17 = .string d) := fun u wv => by subst hVdef; rfl
    have V18 : ∀ u wv, V 18 u wv = (u 18 = .int .i64 (d.size : Int)) := fun u wv => by subst hVdef; rfl
    have V19 : ∀ u wv, V 19 u wv = (u 19 = .int .i64 mz) := fun u wv => by subst hVdef; rfl
    have V20 : ∀ u wv, V 20 u wv = (u 20 = .string X) := fun u wv => by subst hVdef; rfl
    have V21 : ∀ u wv, V 21 u wv = (u 21 = .agg #[.bool (t3 == 0), .int .i64 N1, .int .i64 q2, .int .i64 (1 + q3), .int .i64 (1 + q4), .int .i64 (1 + q5), .string X]) := fun u wv => by subst hVdef; rfl
    have V22 : ∀ u wv, V 22 u wv = (MsgAt wv (B + 1) ⟨t3 == 0, N1, q2, 1 + q3, 1 + q4, 1 + q5, X⟩) := fun u wv => by subst hVdef; rfl
    have HVD := Lib.hid hVdef
    clear hVdef
    refine region_each (V := V) (drop := fun _ _ => false) (G := fun wv => Below (B + 1) W wv ∧ (IdAt wv g (t3 == 0) N1 ∧ Seven wv (B + 1))) (Rel := fun jx wv wv' => MsgAt wv (B + 1) ⟨t3 == 0, N1, q2, 1 + q3, 1 + q4, 1 + q5, X⟩ → MsgAt wv' (B + 1) ⟨t3 == 0, N1, q2, 1 + q3, 1 + q4, 1 + q5, X⟩) (by kernel_rfl) (by kernel_rfl) ⟨(HB4.out).drew, HG4.out, HS4.out⟩ ?hmono5 ?hdep5 ⟨?s0_5, ?s1_5, ?s2_5, ?s3_5, ?s4_5, ?s5_5, ?s6_5, ?s7_5, ?s8_5, ?s9_5, ?s10_5, ?s11_5, ?s12_5, ?s13_5, ?s14_5, ?s15_5, ?s16_5, ?s17_5, ?s18_5, ?s19_5, ?s20_5, ?s21_5, ?s22_5, trivial⟩ ?behind5
    case hmono5 =>
      intro ix jx u wv wv' hij hw hd hr
      rw [HVD.out]
      dsimp only
      split <;> intro h <;> first | exact trivial | exact h | (exact hr h)
    case hdep5 =>
      intro ix u u' wv h1 h2
      rw [HVD.out]
      dsimp only
      split <;> intro h <;> first | exact trivial | (rw [← h1]; exact h) | (exact h)
    case s0_5 =>
      refine owe rfl fun a wx val hG hV hN hO K hK => ?_
      have e5 : a.tmps[5]? = some (.pointer (some ⟨g, 0, none⟩)) := (hO 5 (by kernel_rfl)).trans (by rfl)
      clear hV hN hO
      obtain ⟨d0, d1, _⟩ := hG.2.1.cells
      go_simp
      exact hK.out _ _ (by rw [V0, upd_at]) id hG
    case s1_5 =>
      refine owe rfl fun a wx val hG hV hN hO K hK => ?_
      have e2 : a.tmps[2]? = some (.pointer (some ⟨B, 0, none⟩)) := (hO 2 (by kernel_rfl)).trans (by rfl)
      clear hV hN hO
      go_simp
      exact hK.out _ _ (by rw [V1, upd_at]) id hG
    case s2_5 =>
      refine owe rfl fun a wx val hG hV hN hO K hK => ?_
      have e26 := hN 1 26 (by kernel_rfl) (by kernel_rfl) (by simp)
      have f26 := hV 1 (by kernel_rfl) (by kernel_rfl)
      rw [V1] at f26
      rw [f26] at e26; clear f26
      clear hV hN hO
      have cs := HR.out _ hG.1
      obtain ⟨a0, a1, a2, a3, a4, a5⟩ := cs
      go_simp
      exact hK.out _ _ (by rw [V2, upd_at]) id hG
    case s3_5 =>
      refine owe rfl fun a wx val hG hV hN hO K hK => ?_
      have e27 := hN 2 27 (by kernel_rfl) (by kernel_rfl) (by simp)
      have f27 := hV 2 (by kernel_rfl) (by kernel_rfl)
      rw [V2] at f27
      rw [f27] at e27; clear f27
      clear hV hN hO
      go_simp
      refine (c2 _).mono ?_
      rintro e w3 ⟨rfl, rfl⟩
      exact hK.out _ _ (by rw [V3, upd_at]) id hG
    case s4_5 =>
      refine owe rfl fun a wx val hG hV hN hO K hK => ?_
      have e2 : a.tmps[2]? = some (.pointer (some ⟨B, 0, none⟩)) := (hO 2 (by kernel_rfl)).trans (by rfl)
      clear hV hN hO
      go_simp
      exact hK.out _ _ (by rw [V4, upd_at]) id hG
    case s5_5 =>
      refine owe rfl fun a wx val hG hV hN hO K hK => ?_
      have e29 := hN 4 29 (by kernel_rfl) (by kernel_rfl) (by simp)
      have f29 := hV 4 (by kernel_rfl) (by kernel_rfl)
      rw [V4] at f29
      rw [f29] at e29; clear f29
      clear hV hN hO
      have cs := HR.out _ hG.1
      obtain ⟨a0, a1, a2, a3, a4, a5⟩ := cs
      go_simp
      exact hK.out _ _ (by rw [V5, upd_at]) id hG
    case s6_5 =>
      refine owe rfl fun a wx val hG hV hN hO K hK => ?_
      have e30 := hN 5 30 (by kernel_rfl) (by kernel_rfl) (by simp)
      have f30 := hV 5 (by kernel_rfl) (by kernel_rfl)
      rw [V5] at f30
      rw [f30] at e30; clear f30
      clear hV hN hO
      go_simp
      refine (c3 _).mono ?_
      rintro e w3 ⟨rfl, rfl⟩
      exact hK.out _ _ (by rw [V6, upd_at]) id hG
    case s7_5 =>
      refine owe rfl fun a wx val hG hV hN hO K hK => ?_
      have e31 := hN 6 31 (by kernel_rfl) (by kernel_rfl) (by simp)
      have f31 := hV 6 (by kernel_rfl) (by kernel_rfl)
      rw [V6] at f31
      rw [f31] at e31; clear f31
      clear hV hN hO
      go_simp
      exact hK.out _ _ (by rw [V7, upd_at]) id hG
    case s8_5 =>
      refine owe rfl fun a wx val hG hV hN hO K hK => ?_
      have e2 : a.tmps[2]? = some (.pointer (some ⟨B, 0, none⟩)) := (hO 2 (by kernel_rfl)).trans (by rfl)
      clear hV hN hO
      go_simp
      exact hK.out _ _ (by rw [V8, upd_at]) id hG
    case s9_5 =>
      refine owe rfl fun a wx val hG hV hN hO K hK => ?_
      have e33 := hN 8 33 (by kernel_rfl) (by kernel_rfl) (by simp)
      have f33 := hV 8 (by kernel_rfl) (by kernel_rfl)
      rw [V8] at f33
      rw [f33] at e33; clear f33
      clear hV hN hO
      have cs := HR.out _ hG.1
      obtain ⟨a0, a1, a2, a3, a4, a5⟩ := cs
      go_simp
      exact hK.out _ _ (by rw [V9, upd_at]) id hG
    case s10_5 =>
      refine owe rfl fun a wx val hG hV hN hO K hK => ?_
      have e34 := hN 9 34 (by kernel_rfl) (by kernel_rfl) (by simp)
      have f34 := hV 9 (by kernel_rfl) (by kernel_rfl)
      rw [V9] at f34
      rw [f34] at e34; clear f34
      clear hV hN hO
      go_simp
      refine (c4 _).mono ?_
      rintro e w3 ⟨rfl, rfl⟩
      exact hK.out _ _ (by rw [V10, upd_at]) id hG
    case s11_5 =>
      refine owe rfl fun a wx val hG hV hN hO K hK => ?_
      have e35 := hN 10 35 (by kernel_rfl) (by kernel_rfl) (by simp)
      have f35 := hV 10 (by kernel_rfl) (by kernel_rfl)
      rw [V10] at f35
      rw [f35] at e35; clear f35
      clear hV hN hO
      go_simp
      exact hK.out _ _ (by rw [V11, upd_at]) id hG
    case s12_5 =>
      refine owe rfl fun a wx val hG hV hN hO K hK => ?_
      have e2 : a.tmps[2]? = some (.pointer (some ⟨B, 0, none⟩)) := (hO 2 (by kernel_rfl)).trans (by rfl)
      clear hV hN hO
      go_simp
      exact hK.out _ _ (by rw [V12, upd_at]) id hG
    case s13_5 =>
      refine owe rfl fun a wx val hG hV hN hO K hK => ?_
      have e37 := hN 12 37 (by kernel_rfl) (by kernel_rfl) (by simp)
      have f37 := hV 12 (by kernel_rfl) (by kernel_rfl)
      rw [V12] at f37
      rw [f37] at e37; clear f37
      clear hV hN hO
      have cs := HR.out _ hG.1
      obtain ⟨a0, a1, a2, a3, a4, a5⟩ := cs
      go_simp
      exact hK.out _ _ (by rw [V13, upd_at]) id hG
    case s14_5 =>
      refine owe rfl fun a wx val hG hV hN hO K hK => ?_
      have e38 := hN 13 38 (by kernel_rfl) (by kernel_rfl) (by simp)
      have f38 := hV 13 (by kernel_rfl) (by kernel_rfl)
      rw [V13] at f38
      rw [f38] at e38; clear f38
      clear hV hN hO
      go_simp
      refine (c5 _).mono ?_
      rintro e w3 ⟨rfl, rfl⟩
      exact hK.out _ _ (by rw [V14, upd_at]) id hG
    case s15_5 =>
      refine owe rfl fun a wx val hG hV hN hO K hK => ?_
      have e39 := hN 14 39 (by kernel_rfl) (by kernel_rfl) (by simp)
      have f39 := hV 14 (by kernel_rfl) (by kernel_rfl)
      rw [V14] at f39
      rw [f39] at e39; clear f39
      clear hV hN hO
      go_simp
      exact hK.out _ _ (by rw [V15, upd_at]) id hG
    case s16_5 =>
      refine owe rfl fun a wx val hG hV hN hO K hK => ?_
      have e1 : a.tmps[1]? = some (.string d) := (hO 1 (by kernel_rfl)).trans (by rfl)
      clear hV hN hO
      go_simp
      exact hK.out _ _ (by rw [V16, upd_at]) id hG
    case s17_5 =>
      refine owe rfl fun a wx val hG hV hN hO K hK => ?_
      have e1 : a.tmps[1]? = some (.string d) := (hO 1 (by kernel_rfl)).trans (by rfl)
      clear hV hN hO
      go_simp
      exact hK.out _ _ (by rw [V17, upd_at]) id hG
    case s18_5 =>
      refine owe rfl fun a wx val hG hV hN hO K hK => ?_
      have e42 := hN 17 42 (by kernel_rfl) (by kernel_rfl) (by simp)
      have f42 := hV 17 (by kernel_rfl) (by kernel_rfl)
      rw [V17] at f42
      rw [f42] at e42; clear f42
      clear hV hN hO
      go_simp
      exact hK.out _ _ (by rw [V18, upd_at]) id hG
    case s19_5 =>
      refine owe rfl fun a wx val hG hV hN hO K hK => ?_
      have e43 := hN 18 43 (by kernel_rfl) (by kernel_rfl) (by simp)
      have f43 := hV 18 (by kernel_rfl) (by kernel_rfl)
      rw [V18] at f43
      rw [f43] at e43; clear f43
      clear hV hN hO
      rcases HMZ.out with ⟨hz, ez⟩ | ⟨hz, ez⟩
      · go_simp
        exact hK.out _ _ (by rw [V19, upd_at, ez, if_neg (show ¬ (8 < (d.size : Int)) by omega)]) id hG
      · go_simp
        exact hK.out _ _ (by rw [V19, upd_at, ez]) id hG
    case s20_5 =>
      refine owe rfl fun a wx val hG hV hN hO K hK => ?_
      have e41 := hN 16 41 (by kernel_rfl) (by kernel_rfl) (by simp)
      have f41 := hV 16 (by kernel_rfl) (by kernel_rfl)
      rw [V16] at f41
      rw [f41] at e41; clear f41
      have e44 := hN 19 44 (by kernel_rfl) (by kernel_rfl) (by simp)
      have f44 := hV 19 (by kernel_rfl) (by kernel_rfl)
      rw [V19] at f44
      rw [f44] at e44; clear f44
      clear hV hN hO
      have kx := KX.out
      go_simp
      exact hK.out _ _ (by rw [V20, upd_at]) id hG
    case s21_5 =>
      refine owe rfl fun a wx val hG hV hN hO K hK => ?_
      have e25 := hN 0 25 (by kernel_rfl) (by kernel_rfl) (by simp)
      have f25 := hV 0 (by kernel_rfl) (by kernel_rfl)
      rw [V0] at f25
      rw [f25] at e25; clear f25
      have e28 := hN 3 28 (by kernel_rfl) (by kernel_rfl) (by simp)
      have f28 := hV 3 (by kernel_rfl) (by kernel_rfl)
      rw [V3] at f28
      rw [f28] at e28; clear f28
      have e32 := hN 7 32 (by kernel_rfl) (by kernel_rfl) (by simp)
      have f32 := hV 7 (by kernel_rfl) (by kernel_rfl)
      rw [V7] at f32
      rw [f32] at e32; clear f32
      have e36 := hN 11 36 (by kernel_rfl) (by kernel_rfl) (by simp)
      have f36 := hV 11 (by kernel_rfl) (by kernel_rfl)
      rw [V11] at f36
      rw [f36] at e36; clear f36
      have e40 := hN 15 40 (by kernel_rfl) (by kernel_rfl) (by simp)
      have f40 := hV 15 (by kernel_rfl) (by kernel_rfl)
      rw [V15] at f40
      rw [f40] at e40; clear f40
      have e45 := hN 20 45 (by kernel_rfl) (by kernel_rfl) (by simp)
      have f45 := hV 20 (by kernel_rfl) (by kernel_rfl)
      rw [V20] at f45
      rw [f45] at e45; clear f45
      clear hV hN hO
      go_simp
      exact hK.out _ _ (by rw [V21, upd_at]) id hG
    case s22_5 =>
      refine owe rfl fun a wx val hG hV hN hO K hK => ?_
      have e4 : a.tmps[4]? = some (.pointer (some ⟨B + 1, 0, none⟩)) := (hO 4 (by kernel_rfl)).trans (by rfl)
      have e46 := hN 21 46 (by kernel_rfl) (by kernel_rfl) (by simp)
      have f46 := hV 21 (by kernel_rfl) (by kernel_rfl)
      rw [V21] at f46
      rw [f46] at e46; clear f46
      clear hV hN hO
      obtain ⟨z0, z1, z2, z3, z4, z5, z6, ⟨d0, d1, d2, d3, d4, d5, d6⟩, hfz⟩ := hG.2.2.cells
      go_simp
      exact hK.out undef (put7 wx (B + 1) ⟨t3 == 0, N1, q2, 1 + q3, 1 + q4, 1 + q5, X⟩) (by rw [V22]; exact put7_blk hG.2.2 _) (fun _ => put7_blk hG.2.2 _) ⟨put7_below hG.1 (Nat.le_refl _) _, (put7_far wx (by have := HGB.out; omega) _).trans hG.2.1, Seven.put7 hG.2.2 hG.2.2 _⟩
    intro val wx hG hV
    have f0 := hV 0 (by simp) (fun _ _ => by rfl)
    rw [V0] at f0
    have f1 := hV 1 (by simp) (fun _ _ => by rfl)
    rw [V1] at f1
    have f2 := hV 2 (by simp) (fun _ _ => by rfl)
    rw [V2] at f2
    have f3 := hV 3 (by simp) (fun _ _ => by rfl)
    rw [V3] at f3
    have f4 := hV 4 (by simp) (fun _ _ => by rfl)
    rw [V4] at f4
    have f5 := hV 5 (by simp) (fun _ _ => by rfl)
    rw [V5] at f5
    have f6 := hV 6 (by simp) (fun _ _ => by rfl)
    rw [V6] at f6
    have f7 := hV 7 (by simp) (fun _ _ => by rfl)
    rw [V7] at f7
    have f8 := hV 8 (by simp) (fun _ _ => by rfl)
    rw [V8] at f8
    have f9 := hV 9 (by simp) (fun _ _ => by rfl)
    rw [V9] at f9
    have f10 := hV 10 (by simp) (fun _ _ => by rfl)
    rw [V10] at f10
    have f11 := hV 11 (by simp) (fun _ _ => by rfl)
    rw [V11] at f11
    have f12 := hV 12 (by simp) (fun _ _ => by rfl)
    rw [V12] at f12
    have f13 := hV 13 (by simp) (fun _ _ => by rfl)
    rw [V13] at f13
    have f14 := hV 14 (by simp) (fun _ _ => by rfl)
    rw [V14] at f14
    have f15 := hV 15 (by simp) (fun _ _ => by rfl)
    rw [V15] at f15
    have f16 := hV 16 (by simp) (fun _ _ => by rfl)
    rw [V16] at f16
    have f17 := hV 17 (by simp) (fun _ _ => by rfl)
    rw [V17] at f17
    have f18 := hV 18 (by simp) (fun _ _ => by rfl)
    rw [V18] at f18
    have f19 := hV 19 (by simp) (fun _ _ => by rfl)
    rw [V19] at f19
    have f20 := hV 20 (by simp) (fun _ _ => by rfl)
    rw [V20] at f20
    have f21 := hV 21 (by simp) (fun _ _ => by rfl)
    rw [V21] at f21
    have f22 := hV 22 (by simp) (fun _ _ => by rfl)
    rw [V22] at f22
    clear hV V0 V1 V2 V3 V4 V5 V6 V7 V8 V9 V10 V11 V12 V13 V14 V15 V16 V17 V18 V19 V20 V21 V22
    simp only [putAll, Act.put, List.setIfInBounds_toArray, List.set_cons_zero, List.set_cons_succ]
    generalize val 0 = z0 at *; (subst f0)
    generalize val 1 = z1 at *; (subst f1)
    generalize val 2 = z2 at *; (subst f2)
    generalize val 3 = z3 at *; (subst f3)
    generalize val 4 = z4 at *; (subst f4)
    generalize val 5 = z5 at *; (subst f5)
    generalize val 6 = z6 at *; (subst f6)
    generalize val 7 = z7 at *; (subst f7)
    generalize val 8 = z8 at *; (subst f8)
    generalize val 9 = z9 at *; (subst f9)
    generalize val 10 = z10 at *; (subst f10)
    generalize val 11 = z11 at *; (subst f11)
    generalize val 12 = z12 at *; (subst f12)
    generalize val 13 = z13 at *; (subst f13)
    generalize val 14 = z14 at *; (subst f14)
    generalize val 15 = z15 at *; (subst f15)
    generalize val 16 = z16 at *; (subst f16)
    generalize val 17 = z17 at *; (subst f17)
    generalize val 18 = z18 at *; (subst f18)
    generalize val 19 = z19 at *; (subst f19)
    generalize val 20 = z20 at *; (subst f20)
    generalize val 21 = z21 at *; (subst f21)
    go_wp2_with fail
    have HMA := Lib.hid f22; clear f22
    have HBE := Lib.hid (HW.out.trans (hG.1.mono (by omega)))
    clear hG
    have hf := Holds.of_blk HMA.out
    obtain ⟨_, r0', r1', r2', r3', r4', r5', r6'⟩ := hf
    exact bodyPost_ret (v := mv ⟨t3 == 0, N1, q2, 1 + q3, 1 + q4, 1 + q5, X⟩) (by simp [results, Tryd.results23, go_sem, r0', r1', r2', r3', r4', r5', r6']) rfl ⟨by rw [HE.out], by rw [hBw]; exact HBE.out⟩

end Go.Proofs.YtehajmockicilaaDoor


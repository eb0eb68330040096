/-
  What clock.put and refused do.
-/
import Derived.Test.YtllbhbekpnmlnaaClkEnds
import Derived.ScopeJumps
namespace Go.Proofs.Ytllbhbekpnmlnaa
open Go.RowKit

/-- What put has done when its place is p. -/
structure PutAt (w0 : World) (B : Nat) (u : Value) (s : List Int) (x : Int) (p : Nat) (w : World) : Prop where
  le : p ≤ s.length
  own : ∃ c, Own w B u (s.take p ++ c :: s.drop p)
  more : ∀ y ∈ s.drop p, x < y
  bel : Below B w0 w
def PutPost (w : World) (B : Nat) (s : List Int) (x : Int) (e : Ending) (w' : World) : Prop := ∃ u', e = .returned u' ∧ Own w' B u' (insI x s) ∧ Below B w w'

theorem PutAt.one {w0 w : World} {B : Nat} {u : Value} {s : List Int} {x : Int} {p : Nat} (h : PutAt w0 B u s x p w) : ∃ g c, u = .slice (some ⟨g, 0, none⟩) (s.length + 1) c ∧ s.length + 1 ≤ c ∧ (∀ j, w.frozen? ⟨g, j, none⟩ = false) ∧ (∃ c0, w.cell? ⟨g, p, none⟩ = some (.int .i64 c0)) ∧
    (∀ j y, p = j + 1 → s[j]? = some y → w.cell? ⟨g, j, none⟩ = some (.int .i64 y)) ∧
    (∀ j y, p = j + 1 → s[j]? = some y → x < y → PutAt w0 B u s x j (w.setCell ⟨g, j + 1, none⟩ (.int .i64 y))) ∧
    (Rises s → (p = 0 ∨ ∃ j y, p = j + 1 ∧ s[j]? = some y ∧ y ≤ x) → Own (w.setCell ⟨g, p, none⟩ (.int .i64 x)) B u (insI x s) ∧ Below B w0 (w.setCell ⟨g, p, none⟩ (.int .i64 x))) := by
  obtain ⟨c0, ho⟩ := h.own
  have hlen := shift_length s p c0 h.le
  obtain ⟨g, c, e, hBg, hg, hc, hcell, hfz, hst⟩ := ho.one (by omega)
  rw [hlen] at e hc
  refine ⟨g, c, e, hc, hfz, ⟨c0, hcell p c0 (by rw [List.getElem?_append_right (by rw [List.length_take]; omega), List.length_take, Nat.min_eq_left h.le, Nat.sub_self]; rfl)⟩, ?_, ?_, ?_⟩
  · rintro j y rfl hy
    exact hcell j y (shift_at s j c0 y hy)
  · rintro j y rfl hy hxy
    obtain ⟨h1, h2⟩ := hst (j + 1) y
    rw [shift_set s j c0 y hy] at h1
    exact ⟨by have := h.le; omega, ⟨y, h1⟩, drop_more h.more hy hxy, h.bel.setCell (p := ⟨g, j + 1, none⟩) hBg _⟩
  · intro hr hp
    obtain ⟨h1, h2⟩ := hst p x
    rw [last_set s p c0 x h.le, ← insI_done hr x p h.more (by
      rcases hp with rfl | ⟨j, y, rfl, hy, hx⟩
      · exact .inl rfl
      · exact .inr ⟨y, by simpa using hy, hx⟩)] at h1
    exact ⟨h1, h.bel.setCell (p := ⟨g, p, none⟩) hBg _⟩
theorem rise_case (s : List Int) (x : Int) (p : Nat) (hp : p ≤ s.length) : (p = 0 ∨ ∃ j y, p = j + 1 ∧ s[j]? = some y ∧ y ≤ x) ∨ ∃ j y, p = j + 1 ∧ s[j]? = some y ∧ x < y := by
  rcases Nat.eq_zero_or_pos p with rfl | h
  · exact .inl (.inl rfl)
  · obtain ⟨j, rfl⟩ : ∃ j, p = j + 1 := ⟨p - 1, by omega⟩
    obtain ⟨y, hy⟩ : ∃ y, s[j]? = some y := ⟨_, List.getElem?_eq_getElem (by omega)⟩
    rcases Int.lt_or_le x y with hxy | hxy
    · exact .inr ⟨j, y, rfl, hy, hxy⟩
    · exact .inl (.inr ⟨j, y, rfl, hy, hxy⟩)

set_option maxRecDepth 100000 in
set_option maxHeartbeats 1000000 in
theorem put_any (B : Nat) (u : Value) (s : List Int) (x : Int) (w : World) (ho : Own w B u s) (hs : Rises s) (hl : s.length ≤ 64) (hB : B ≤ w.heap.size) :
    Calls Try.prog 27 #[u, .int .i64 x] w (PutPost w B s x) := by
  obtain ⟨i0, hi, hz0, hz1, hz2⟩ := info_parts int_info
  have hrow : w.ownsRow B 3 1 u s.length (s.map (Value.int .i64)) := ho
  have HO := Lib.hid ho; clear ho
  have HS := Lib.hid hs; clear hs
  go_enter Try.func27, Try.ntmps27
  go_wp2_with fail
  refine wp_scope_jumps 0 (fun a' w' => ∃ (p : Nat) (u0 u2 u3 u4 u6 u7 u8 u9 u10 u11 u12 u13 u14 u15 u16 u17 u18 u19 u20 u21 u22 u23 u24 u25 u26 u27 u28 u29 u30 u31 u32 u33 u34 u35 u36 u37 u38 : Value), a' = { tmps := #[u0, .int .i64 x, u2, u3, u4, .int .i64 (p : Int), u6, u7, u8, u9, u10, u11, u12, u13, u14, u15, u16, u17, u18, u19, u20, u21, u22, u23, u24, u25, u26, u27, u28, u29, u30, u31, u32, u33, u34, u35, u36, u37, u38], defers := [] } ∧ PutAt w B u0 s x p w') (fun a' _ => (intOf (a'.tmps.getD 5 undef)).toNat) rfl ?_ ?_
  · have hfirst : ∀ v' w3, PutAt w B v' s x s.length w3 → True := fun _ _ _ => trivial
    clear hfirst
    go_wp2_with (at_builtin; refine wpList_append_own _ rfl _ _ 22 rfl B 3 i0 (.int .i64 0) 1 8 Try.underlying22 hi hz0 hz1 hz2 rfl (by decide) _ _ _ rfl (hrow.alloc _) ⟨w.heap.size, 0, none⟩ 1 1 [.int .i64 x] rfl rfl (cell_one_new _ _ _) (by simp [Value.oneCell']) (by simp only [maxLen]; omega) (by omega) (by simp; omega) ?_; intro v' w3 hown' hgrow3 hnil3; have hput' : PutAt w B v' s x s.length w3 := ⟨Nat.le_refl _, ⟨x, by rw [List.take_length, List.drop_length]; unfold Own; rw [List.length_append, List.map_append]; exact hown'⟩, (by rw [List.drop_length]; intro y hy; cases hy), ((Below.refl B w).alloc hB _).grown hgrow3 (by simp; omega) (fun g e' => (hrow.lt g e').1)⟩; obtain ⟨p, hp⟩ : ∃ p, p = s.length := ⟨_, rfl⟩; have hput : PutAt w B v' s x p w3 := (by rw [hp]; exact hput'); have HP := Lib.hid hp; clear hp hown' hgrow3 hnil3 hput'; obtain ⟨g, c, rfl, hcc, hfz, ⟨c0, hc0⟩, hcell, hshift, hlast⟩ := hput.one)
    have HSH := Lib.hid hshift; clear hshift
    have HLA := Lib.hid (hlast HS.out); clear hlast
    have hpi : (s.length : Int) = (p : Int) := by have := HP.out; omega
    rw [hpi]
    clear hpi HP
    go_step3
    rcases rise_case s x p hput.le with hlow | ⟨j, y, hj, hy, hxy⟩
    · have HL := Lib.hid (HLA.out hlow)
      clear HSH HLA
      rcases hlow with hp0 | ⟨j, y, hj, hy, hxy⟩
      · subst hp0
        have hf0 := hfz 0
        have hnn : (0 : Int) < (s.length : Int) + 1 := by omega
        clear hcell hput hfz
        go_wp2_with fail
        simp only [Exit.jump]
        go_ret
        exact ⟨_, rfl, HL.out⟩
      · subst hj
        have hc := hcell j y rfl hy
        have hf1 := hfz (j + 1)
        have hjl : j < s.length := (List.getElem?_eq_some_iff.1 hy).1
        have hle : decide (x < y) = false := by rw [decide_eq_false_iff_not]; omega
        clear hcell hput hfz hy
        go_wp2_with fail
        simp only [Exit.jump]
        go_ret
        exact ⟨_, rfl, HL.out⟩
    · subst hj
      have hc := hcell j y rfl hy
      have hf1 := hfz (j + 1)
      have hjl : j < s.length := (List.getElem?_eq_some_iff.1 hy).1
      have HN := Lib.hid (HSH.out j y rfl hy hxy)
      clear HSH HLA hcell hput hfz hy
      go_wp2_with fail
      go_step3
      exact ⟨rfl, ⟨j, _, _, _, _, _, _, _, _, _, _, _, _, _, _, _, _, _, _, _, _, _, _, _, _, _, _, _, _, _, _, _, _, _, _, _, _, _, rfl, HN.out⟩⟩
  · rintro a w1 ⟨p, u0, u2, u3, u4, u6, u7, u8, u9, u10, u11, u12, u13, u14, u15, u16, u17, u18, u19, u20, u21, u22, u23, u24, u25, u26, u27, u28, u29, u30, u31, u32, u33, u34, u35, u36, u37, u38, rfl, hput⟩
    obtain ⟨g, c, rfl, hcc, hfz, ⟨c0, hc0⟩, hcell, hshift, hlast⟩ := hput.one
    have HSH := Lib.hid hshift; clear hshift
    have HLA := Lib.hid (hlast HS.out); clear hlast
    rcases rise_case s x p hput.le with hlow | ⟨j, y, hj, hy, hxy⟩
    · have HL := Lib.hid (HLA.out hlow)
      clear HSH HLA
      rcases hlow with hp0 | ⟨j, y, hj, hy, hxy⟩
      · subst hp0
        have hf0 := hfz 0
        have hnn : (0 : Int) < (s.length : Int) + 1 := by omega
        clear hcell hput hfz
        go_wp2_with fail
        simp only [Exit.jump]
        go_ret
        exact ⟨_, rfl, HL.out⟩
      · subst hj
        have hc := hcell j y rfl hy
        have hf1 := hfz (j + 1)
        have hjl : j < s.length := (List.getElem?_eq_some_iff.1 hy).1
        have hle : decide (x < y) = false := by rw [decide_eq_false_iff_not]; omega
        clear hcell hput hfz hy
        go_wp2_with fail
        simp only [Exit.jump]
        go_ret
        exact ⟨_, rfl, HL.out⟩
    · subst hj
      have hc := hcell j y rfl hy
      have hf1 := hfz (j + 1)
      have hjl : j < s.length := (List.getElem?_eq_some_iff.1 hy).1
      have HN := Lib.hid (HSH.out j y rfl hy hxy)
      clear HSH HLA hcell hput hfz hy
      go_wp2_with fail
      go_step3
      refine ⟨rfl, ⟨j, _, _, _, _, _, _, _, _, _, _, _, _, _, _, _, _, _, _, _, _, _, _, _, _, _, _, _, _, _, _, _, _, _, _, _, _, _, rfl, HN.out⟩, ?_⟩
      simp [intOf]

end Go.Proofs.Ytllbhbekpnmlnaa

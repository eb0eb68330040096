/-
  Plans, by the document: Right, Nodes, Round, Slot.
-/
import Derived.Test.YtmklabdfalkldaaSchNodes
import Derived.Test.YtmklabdfalkldaaVecRef
import Derived.Test.YtmklabdfalkldaaOnceMore
import Derived.Test.YtmklabdfalkldaaSchSlot
namespace Go.Proofs.Ytmklabdfalkldaa
open Go.RowKit

/-- The first n slots are right, each by itself and with those ahead of it. -/
def okS (l : Pl) (n : Nat) : Prop := ∀ (j : Nat) (s : Int × Int), j < n → l[j]? = some s → ((0 ≤ s.1 ∧ s.1 ≤ 15) ∧ 1 ≤ s.2 ∧ s.2 ≤ 1000) ∧ ∀ (k : Nat) (s' : Int × Int), k < j → l[k]? = some s' → s'.1 ≠ s.1
theorem SlAt.on {w w' : World} {b : Nat} {s : Int × Int} (h : SlAt w b s) (hb : Below w.heap.size w w') : SlAt w' b s := (hb.block b (Array.getElem?_eq_some_iff.1 h).1).trans h
theorem right_not {l : Pl} {c : Int} (h : ¬ ((2 ≤ l.length ∧ l.length ≤ 16) ∧ (1 ≤ c ∧ c ≤ 64) ∧ (∀ s ∈ l, 1 ≤ s.2 ∧ s.2 ≤ 1000) ∧ (∀ s ∈ l, 0 ≤ s.1 ∧ s.1 ≤ 15) ∧ (l.map Prod.fst).Pairwise (· ≠ ·))) : false = rightS l c := by
  cases hr : rightS l c
  · rfl
  · exact absurd ((rightS_each l c).1 hr) h
theorem right_len {l : Pl} {c : Int} (h : (l.length : Int) < 2 ∨ 16 < (l.length : Int) ∨ c < 1 ∨ 64 < c) : false = rightS l c := right_not fun ⟨a, b, _⟩ => by omega
theorem right_at {l : Pl} {c : Int} {i : Nat} {s : Int × Int} (hs : l[i]? = some s) (h : s.1 < 0 ∨ 15 < s.1 ∨ s.2 < 1 ∨ 1000 < s.2) : false = rightS l c := right_not fun ⟨_, _, a, b, _⟩ => by
  have h1 := a s (List.mem_of_getElem? hs)
  have h2 := b s (List.mem_of_getElem? hs)
  omega
theorem right_twice {l : Pl} {c : Int} {i k : Nat} {s s' : Int × Int} (hs : l[i]? = some s) (hs' : l[k]? = some s') (hk : k < i) (h : s'.1 = s.1) : false = rightS l c := right_not fun ⟨_, _, _, _, a⟩ => by
  rw [List.pairwise_iff_getElem] at a
  obtain ⟨h1, e1⟩ := List.getElem?_eq_some_iff.1 hs
  obtain ⟨h2, e2⟩ := List.getElem?_eq_some_iff.1 hs'
  have := a k i (by simpa using h2) (by simpa using h1) hk
  rw [List.getElem_map, List.getElem_map, e1, e2] at this
  exact this h
theorem right_ok {l : Pl} {c : Int} (h0 : ¬ (l.length : Int) < 2) (h1 : ¬ 16 < (l.length : Int)) (h2 : ¬ c < 1) (h3 : ¬ 64 < c) (h : okS l l.length) : true = rightS l c := by
  symm
  rw [rightS_each]
  refine ⟨by omega, by omega, fun s hs => ?_, fun s hs => ?_, ?_⟩
  · obtain ⟨j, hj⟩ := List.getElem?_of_mem hs
    exact (h j s (List.getElem?_eq_some_iff.1 hj).1 hj).1.2
  · obtain ⟨j, hj⟩ := List.getElem?_of_mem hs
    exact (h j s (List.getElem?_eq_some_iff.1 hj).1 hj).1.1
  · rw [List.pairwise_iff_getElem]
    intro i j hi hj hij
    rw [List.getElem_map, List.getElem_map]
    simp only [List.length_map] at hi hj
    exact (h j _ hj (List.getElem?_eq_getElem hj)).2 i _ hij (List.getElem?_eq_getElem hi)
theorem okS_step {l : Pl} {i : Nat} {s : Int × Int} (h : okS l i) (hs : l[i]? = some s) (hb : (0 ≤ s.1 ∧ s.1 ≤ 15) ∧ 1 ≤ s.2 ∧ s.2 ≤ 1000) (hk : ∀ (k : Nat) (s' : Int × Int), k < i → l[k]? = some s' → s'.1 ≠ s.1) : okS l (i + 1) := fun j x hj hx => by
  rcases Nat.lt_or_ge j i with h' | h'
  · exact h j x h' hx
  · have e : j = i := by omega
    subst e
    have e2 : s = x := Option.some.inj (hs.symm.trans hx)
    subst e2
    exact ⟨hb, hk⟩

set_option maxRecDepth 100000 in
set_option maxHeartbeats 4000000 in
theorem refRight_any (A : Option Addr) (cp : Nat) (c : Int) (l : Pl) (hlm : l.length ≤ maxLen) (w : World) (hS : Sls w w.heap.size A l) :
    Calls Try.prog 12 #[pv A l.length cp c] w fun e w' => e = .returned (.bool (rightS l c)) ∧ Below w.heap.size w w' := by
  unfold maxLen at hlm
  have hB := Joins.below_alloc1 w (.cells #[.slice A l.length cp, .int .i64 c] 25)
  have hP := PlAt.new w A l.length cp c
  have hS0 := (hS.below hB (Nat.le_refl _)).more hB.size
  have HB := Lib.hid hB; clear hB hS
  have HS0 := Lib.hid hS0; clear hS0
  have HP := Lib.hid hP
  have HR0 := Lib.hid (fun h => right_len (l := l) (c := c) h)
  have HR1 := Lib.hid (fun (i : Nat) s (hs : l[i]? = some s) h => right_at (c := c) hs h)
  have HR2 := Lib.hid (fun (i k : Nat) s s' (hs : l[i]? = some s) (hs' : l[k]? = some s') hk h => right_twice (c := c) hs hs' hk h)
  have HR3 := Lib.hid (fun h0 h1 h2 h3 h => right_ok (l := l) (c := c) h0 h1 h2 h3 h)
  obtain ⟨y0, y1⟩ := hP.cells
  clear hP
  generalize rightS l c = R at *
  go_enter Try.func12, Try.ntmps12
  by_cases g1 : (l.length : Int) < 2
  · go_wp2_with fail
    go_ret
    exact ⟨ret_b (HR0.out (.inl g1)), HB.out⟩
  by_cases g2 : 16 < (l.length : Int)
  · go_wp2_with fail
    go_ret
    exact ⟨ret_b (HR0.out (.inr (.inl g2))), HB.out⟩
  by_cases g3 : c < 1
  · go_wp2_with fail
    go_ret
    exact ⟨ret_b (HR0.out (.inr (.inr (.inl g3)))), HB.out⟩
  by_cases g4 : 64 < c
  · go_wp2_with fail
    go_ret
    exact ⟨ret_b (HR0.out (.inr (.inr (.inr g4)))), HB.out⟩
  have HR4 := Lib.hid (HR3.out g1 g2 g3 g4)
  go_wp2_with fail
  clear HR0 HR3
  go_loopw [3] (fun ix wr => ∃ i : Nat, i ≤ l.length ∧ ix = .int .i64 (i : Int) ∧ okS l i ∧ Below (w.alloc (.cells #[.slice A l.length cp, .int .i64 c] 25)).heap.size (w.alloc (.cells #[.slice A l.length cp, .int .i64 c] 25)) wr) (fun ix _ => l.length - (intOf ix).toNat)
  case atStart => exact ⟨0, by omega, rfl, fun j s h => absurd h (Nat.not_lt_zero _), Below.refl _ _⟩
  case round =>
    obtain ⟨i, hi, rfl, hok, hbr⟩ := hrel
    clear y0 y1
    have HOK := Lib.hid hok; clear hok
    obtain ⟨y0, y1⟩ := (HP.out.on hbr).cells
    have HS1 := Lib.hid (HS0.out.below hbr (Nat.le_refl _))
    have HBR := Lib.hid hbr; clear hbr
    by_cases hlt : i < l.length
    · have hiI : (i : Int) < (l.length : Int) := by omega
      obtain ⟨s, hs⟩ : ∃ s, l[i]? = some s := ⟨_, List.getElem?_eq_getElem hlt⟩
      obtain ⟨ad, rfl, hadb, hcc⟩ := HS1.out (by omega)
      obtain ⟨x0, x1⟩ := hcc i s hs
      have HSS := Lib.hid hs; clear hs hcc hadb
      have hnew := SlAt.new wr s
      have HNEW := Lib.hid hnew; clear hnew
      have hb2 := HBR.out.trans ((Joins.below_alloc1 wr (.cells #[.int .i64 s.1, .int .i64 s.2] 45)).mono HBR.out.size)
      have HB2 := Lib.hid hb2; clear hb2
      obtain ⟨s1, s2⟩ := s
      simp only at *
      by_cases q1 : s1 < 0
      · go_wp2_with fail
        go_ret
        exact ⟨ret_b (HR1.out i _ HSS.out (.inl q1)), HB.out.trans (HB2.out.mono HB.out.size)⟩
      by_cases q2 : 15 < s1
      · go_wp2_with fail
        go_ret
        exact ⟨ret_b (HR1.out i _ HSS.out (.inr (.inl q2))), HB.out.trans (HB2.out.mono HB.out.size)⟩
      by_cases q3 : s2 < 1
      · go_wp2_with fail
        go_ret
        exact ⟨ret_b (HR1.out i _ HSS.out (.inr (.inr (.inl q3)))), HB.out.trans (HB2.out.mono HB.out.size)⟩
      by_cases q4 : 1000 < s2
      · go_wp2_with fail
        go_ret
        exact ⟨ret_b (HR1.out i _ HSS.out (.inr (.inr (.inr q4)))), HB.out.trans (HB2.out.mono HB.out.size)⟩
      go_wp2_with fail
      generalize hW2 : wr.alloc (.cells #[.int .i64 s1, .int .i64 s2] 45) = W2 at *
      have HS2 : Hid (Sls W2 _ (some ad) l) := Lib.hid (HS1.out.on (by rw [← hW2]; exact Joins.below_alloc1 wr _))
      have HP2 : Hid (PlAt W2 w.heap.size (some ad) l.length cp c) := Lib.hid (HP.out.on HB2.out)
      have hgs : wr.heap.size < W2.heap.size := by rw [← hW2]; simp
      clear x0 x1 y0 y1 hW2 HR1
      go_loopw [5] (fun ix wq => ∃ k : Nat, k ≤ i ∧ ix = .int .i64 (k : Int) ∧ (∀ (j : Nat) (s' : Int × Int), j < k → l[j]? = some s' → s'.1 ≠ s1) ∧ Below W2.heap.size W2 wq) (fun ix _ => i - (intOf ix).toNat)
      case atStart => exact ⟨0, by omega, rfl, fun j s h => absurd h (Nat.not_lt_zero _), Below.refl _ _⟩
      case round =>
        obtain ⟨k, hk, rfl, hne, hbq⟩ := hrel
        have HNE := Lib.hid hne; clear hne
        have HBQ := Lib.hid hbq
        obtain ⟨y0, y1⟩ := (HP2.out.on hbq).cells
        obtain ⟨z0, z1⟩ := (HNEW.out.on hbq).cells
        have HS3 := Lib.hid (HS2.out.on hbq)
        clear hbq
        by_cases hlk : k < i
        · have hkI : (k : Int) < (i : Int) := by omega
          have hkl : (k : Int) < (l.length : Int) := by omega
          obtain ⟨s', hs'⟩ : ∃ s', l[k]? = some s' := ⟨_, List.getElem?_eq_getElem (by omega)⟩
          obtain ⟨ad', had, -, hcc⟩ := HS3.out (by omega)
          obtain rfl : ad = ad' := Option.some.inj had
          obtain ⟨x0, x1⟩ := hcc k s' hs'
          have HSK := Lib.hid hs'; clear hs' hcc had
          obtain ⟨t1, t2⟩ := s'
          simp only at *
          by_cases he : t1 = s1
          · have heI : (t1 == s1) = true := by rw [he]; simp
            have HF := Lib.hid (HR2.out i k _ _ HSS.out HSK.out hlk he)
            go_wp2_with fail
            go_quiet (fail)
            go_wp2_with fail
            go_ret
            exact ⟨ret_b HF.out, below_drewN ((HB.out.trans (HB2.out.mono HB.out.size)).trans (HBQ.out.mono (by have := HB.out.size; have := HB2.out.size; omega))) _⟩
          · go_wp2_with fail
            go_quiet (fail)
            go_wp2_with fail
            go_roundw
            case rel => exact ⟨k + 1, by omega, by go_num, fun j x hj hx => by
              rcases Nat.lt_or_ge j k with h | h
              · exact HNE.out j x h hx
              · have e : j = k := by omega
                subst e
                have e2 := Option.some.inj (HSK.out.symm.trans hx)
                subst e2
                exact he, below_drewN HBQ.out _⟩
            case measure => simp [intOf]; omega
        · have hkI : ¬ (k : Int) < (i : Int) := by omega
          have ek : k = i := by omega
          have HNX := Lib.hid (okS_step HOK.out HSS.out ⟨⟨by omega, by omega⟩, by omega, by omega⟩ (fun j x hj hx => HNE.out j x (by omega) hx))
          go_wp2_with fail
          go_roundw
          case rel => exact ⟨i + 1, by omega, by go_num, HNX.out, HB2.out.trans (HBQ.out.mono (by have := HB2.out.size; omega))⟩
          case measure => simp [intOf]; omega
    · have hiI : ¬ (i : Int) < (l.length : Int) := by omega
      have ei : i = l.length := by omega
      have HF := Lib.hid (HR4.out (by rw [← ei]; exact HOK.out))
      go_wp2_with fail
      go_ret
      exact ⟨ret_b HF.out, HB.out.trans (HBR.out.mono HB.out.size)⟩

theorem nodesS_take (l : Pl) (k : Nat) (s : Int × Int) (h : l[k]? = some s) : nodesS (l.take (k + 1)) = withI (nodesS (l.take k)) s.1 := by
  unfold nodesS
  rw [List.take_add_one, h, List.map_append]
  exact ofI_snoc _ _
theorem nodesS_end (l : Pl) (k : Nat) (h : k = l.length) : nodesS (l.take k) = nodesS l := by rw [h, List.take_length]

set_option maxRecDepth 100000 in
set_option maxHeartbeats 2000000 in
theorem refNodes_any (A : Option Addr) (cp : Nat) (c : Int) (l : Pl) (hlm : l.length ≤ maxLen) (w : World) (hS : Sls w w.heap.size A l) :
    Calls Try.prog 14 #[pv A l.length cp c] w fun e w' => e = .returned (.int .i64 (nodesS l)) ∧ Below w.heap.size w w' := by
  unfold maxLen at hlm
  have hB := Joins.below_alloc1 w (.cells #[.slice A l.length cp, .int .i64 c] 25)
  have hP := PlAt.new w A l.length cp c
  have hS0 := (hS.below hB (Nat.le_refl _)).more hB.size
  have HB := Lib.hid hB; clear hB hS
  have HS0 := Lib.hid hS0; clear hS0
  have HP := Lib.hid hP
  obtain ⟨y0, y1⟩ := hP.cells
  clear hP
  go_enter Try.func14, Try.ntmps14
  go_wp2_with fail
  go_loopw [3, 4] (fun v ix wr => ∃ i : Nat, i ≤ l.length ∧ ix = .int .i64 (i : Int) ∧ v = .int .i64 (nodesS (l.take i)) ∧ Below (w.alloc (.cells #[.slice A l.length cp, .int .i64 c] 25)).heap.size (w.alloc (.cells #[.slice A l.length cp, .int .i64 c] 25)) wr) (fun _ ix _ => l.length - (intOf ix).toNat)
  case atStart => exact ⟨0, by omega, rfl, rfl, Below.refl _ _⟩
  case round =>
    obtain ⟨i, hi, rfl, rfl, hbr⟩ := hrel
    clear y0 y1
    obtain ⟨y0, y1⟩ := (HP.out.on hbr).cells
    have HS1 := Lib.hid (HS0.out.below hbr (Nat.le_refl _))
    have HBR := Lib.hid hbr; clear hbr
    by_cases hlt : i < l.length
    · have hiI : (i : Int) < (l.length : Int) := by omega
      obtain ⟨s, hs⟩ : ∃ s, l[i]? = some s := ⟨_, List.getElem?_eq_getElem hlt⟩
      obtain ⟨ad, rfl, hadb, hcc⟩ := HS1.out (by omega)
      obtain ⟨x0, x1⟩ := hcc i s hs
      have HN := Lib.hid (nodesS_take l i s hs)
      clear hs hcc hadb
      have cw := fun W => refWith_any (nodesS (l.take i)) s.1 W
      obtain ⟨s1, s2⟩ := s
      simp only at *
      generalize nodesS (l.take i) = N0 at *
      go_wp2_with fail
      refine (cw _).mono ?_; rintro e w1 ⟨rfl, b1⟩
      go_wp2_with fail
      go_roundw
      case rel => exact ⟨i + 1, by omega, by go_num, by rw [HN.out], HBR.out.trans (b1.mono HBR.out.size)⟩
      case measure => simp [intOf]; omega
    · have hiI : ¬ (i : Int) < (l.length : Int) := by omega
      have HE := Lib.hid (nodesS_end l i (by omega))
      go_wp2_with fail
      go_ret
      exact ⟨ret_i HE.out, HB.out.trans (HBR.out.mono HB.out.size)⟩

theorem aheadS_end (l : Pl) (k : Nat) (h : k = l.length) : aheadS l k = sumS l := by rw [h, aheadS_all]
theorem roundS_of {l : Pl} {c : Int} (h : rightS l c = true) : roundS l c = sumS l := by unfold roundS; rw [if_pos h]
theorem roundS_no {l : Pl} {c : Int} (h : rightS l c = false) : (0 : Int) = roundS l c := by unfold roundS; rw [h]; rfl

set_option maxRecDepth 100000 in
set_option maxHeartbeats 2000000 in
theorem refRound_any (A : Option Addr) (cp : Nat) (c : Int) (l : Pl) (hlm : l.length ≤ maxLen) (w : World) (hS : Sls w w.heap.size A l) :
    Calls Try.prog 16 #[pv A l.length cp c] w fun e w' => e = .returned (.int .i64 (roundS l c)) ∧ Below w.heap.size w w' := by
  have hB := Joins.below_alloc1 w (.cells #[.slice A l.length cp, .int .i64 c] 25)
  have hP := PlAt.new w A l.length cp c
  have hS0 := (hS.below hB (Nat.le_refl _)).more hB.size
  have cr := refRight_any A cp c l hlm _ hS0
  unfold maxLen at hlm
  have HB := Lib.hid hB; clear hB hS
  have HS0 := Lib.hid hS0; clear hS0
  have HP := Lib.hid hP
  obtain ⟨y0, y1⟩ := hP.cells
  clear hP
  cases hR : rightS l c
  · rw [hR] at cr
    have HV := Lib.hid (roundS_no hR)
    clear hR
    go_enter Try.func16, Try.ntmps16
    go_wp2_with fail
    refine cr.mono ?_; rintro e w1 ⟨rfl, b1⟩
    go_wp2_with fail
    go_ret
    exact ⟨ret_i HV.out, HB.out.trans (b1.mono HB.out.size)⟩
  · rw [hR] at cr
    have HV := Lib.hid (roundS_of hR)
    have ht := rightS_ticked hR
    have hl2 := rightS_len hR
    have HT := Lib.hid ht
    clear hR ht
    go_enter Try.func16, Try.ntmps16
    go_wp2_with fail
    refine cr.mono ?_; rintro e w1 ⟨rfl, b1⟩
    clear y0 y1
    obtain ⟨y0, y1⟩ := (HP.out.on b1).cells
    have HP1 := Lib.hid (HP.out.on b1)
    have HS1 := Lib.hid (HS0.out.below b1 (Nat.le_refl _))
    have HB1 := Lib.hid (HB.out.trans (b1.mono HB.out.size))
    clear b1
    go_wp2_with fail
    go_loopw [3, 4] (fun v ix wr => w1 = wr ∧ ∃ i : Nat, i ≤ l.length ∧ ix = .int .i64 (i : Int) ∧ v = .int .i64 (aheadS l i)) (fun _ ix _ => l.length - (intOf ix).toNat)
    case atStart => exact ⟨rfl, 0, by omega, rfl, rfl⟩
    case round =>
      obtain ⟨rfl, i, hi, rfl, rfl⟩ := hrel
      have hab := aheadS_bounds HT.out i hi
      by_cases hlt : i < l.length
      · have hiI : (i : Int) < (l.length : Int) := by omega
        obtain ⟨s, hs⟩ : ∃ s, l[i]? = some s := ⟨_, List.getElem?_eq_getElem hlt⟩
        obtain ⟨ad, rfl, hadb, hcc⟩ := HS1.out (by omega)
        obtain ⟨x0, x1⟩ := hcc i s hs
        have hst : 1 ≤ s.2 ∧ s.2 ≤ 1000 := HT.out _ (List.mem_of_getElem? hs)
        have HN := Lib.hid (aheadS_succ l i s hs)
        clear hs hcc hadb
        obtain ⟨s1, s2⟩ := s
        simp only at *
        generalize aheadS l i = N0 at *
        have ew : IntKind.i64.wrap (N0 + s2) = N0 + s2 := IntWalk.i64_in _ (by omega)
        go_wp2_with fail
        go_roundw
        case rel => exact ⟨trivial, i + 1, by omega, by go_num, by rw [HN.out]⟩
        case measure => simp [intOf]; omega
      · have hiI : ¬ (i : Int) < (l.length : Int) := by omega
        have HE := Lib.hid (aheadS_end l i (by omega))
        go_wp2_with fail
        go_ret
        exact ⟨ret_i (by rw [HE.out, HV.out]), HB1.out⟩

set_option maxRecDepth 100000 in
set_option maxHeartbeats 2000000 in
theorem refSlot_any (A : Option Addr) (cp : Nat) (c : Int) (l : Pl) (hlm : l.length ≤ maxLen) (n : Int) (w : World) (hS : Sls w w.heap.size A l) :
    Calls Try.prog 19 #[pv A l.length cp c, .int .i64 n] w fun e w' => e = .returned (.tuple #[.int .i64 (slotV l c n), .bool (slotB l c n)]) ∧ Below w.heap.size w w' := by
  have hB := Joins.below_alloc1 w (.cells #[.slice A l.length cp, .int .i64 c] 25)
  have hP := PlAt.new w A l.length cp c
  have hS0 := (hS.below hB (Nat.le_refl _)).more hB.size
  have cr := refRight_any A cp c l hlm _ hS0
  unfold maxLen at hlm
  have HB := Lib.hid hB; clear hB hS
  have HS0 := Lib.hid hS0; clear hS0
  have HP := Lib.hid hP
  obtain ⟨y0, y1⟩ := hP.cells
  clear hP
  cases hR : rightS l c
  · rw [hR] at cr
    have HV := Lib.hid (slot_tuple0 (l := l) (c := c) (n := n) (.inl hR))
    clear hR
    go_enter Try.func19, Try.ntmps19
    go_wp2_with fail
    refine cr.mono ?_; rintro e w1 ⟨rfl, b1⟩
    go_wp2_with fail
    go_ret2
    exact ⟨HV.out, HB.out.trans (b1.mono HB.out.size)⟩
  · rw [hR] at cr
    have HR := Lib.hid hR
    clear hR
    go_enter Try.func19, Try.ntmps19
    go_wp2_with fail
    refine cr.mono ?_; rintro e w1 ⟨rfl, b1⟩
    clear y0 y1
    obtain ⟨y0, y1⟩ := (HP.out.on b1).cells
    have HS1 := Lib.hid (HS0.out.below b1 (Nat.le_refl _))
    have HB1 := Lib.hid (HB.out.trans (b1.mono HB.out.size))
    clear b1
    go_wp2_with fail
    go_loopw [6] (fun ix wr => w1 = wr ∧ ∃ i : Nat, i ≤ l.length ∧ ix = .int .i64 (i : Int) ∧ ∀ (j : Nat) (s : Int × Int), j < i → l[j]? = some s → s.1 ≠ n) (fun ix _ => l.length - (intOf ix).toNat)
    case atStart => exact ⟨rfl, 0, by omega, rfl, fun j s h => absurd h (Nat.not_lt_zero _)⟩
    case round =>
      obtain ⟨rfl, i, hi, rfl, hne⟩ := hrel
      have HNE := Lib.hid hne; clear hne
      by_cases hlt : i < l.length
      · have hiI : (i : Int) < (l.length : Int) := by omega
        obtain ⟨s, hs⟩ : ∃ s, l[i]? = some s := ⟨_, List.getElem?_eq_getElem hlt⟩
        obtain ⟨ad, rfl, hadb, hcc⟩ := HS1.out (by omega)
        obtain ⟨x0, x1⟩ := hcc i s hs
        have HSS := Lib.hid hs
        clear hs hcc hadb
        obtain ⟨s1, s2⟩ := s
        simp only at *
        by_cases he : s1 = n
        · have HF := Lib.hid (slot_tuple HR.out (slotK_some HSS.out he HNE.out))
          go_wp2_with fail
          go_ret2
          exact ⟨HF.out, HB1.out⟩
        · go_wp2_with fail
          go_roundw
          case rel => exact ⟨trivial, i + 1, by omega, by go_num, fun j x hj hx => by
            rcases Nat.lt_or_ge j i with h | h
            · exact HNE.out j x h hx
            · have e : j = i := by omega
              subst e
              have e2 := Option.some.inj (HSS.out.symm.trans hx)
              subst e2
              exact he⟩
          case measure => simp [intOf]; omega
      · have hiI : ¬ (i : Int) < (l.length : Int) := by omega
        have HF := Lib.hid (slot_tuple0 (l := l) (c := c) (n := n) (.inr (slotK_none fun j x hx => HNE.out j x (by have := (List.getElem?_eq_some_iff.1 hx).1; omega) hx)))
        go_wp2_with fail
        go_ret2
        exact ⟨HF.out, HB1.out⟩

end Go.Proofs.Ytmklabdfalkldaa

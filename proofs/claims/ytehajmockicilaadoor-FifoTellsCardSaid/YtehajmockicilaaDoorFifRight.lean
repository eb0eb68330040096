/-
  Which fifos may be: both Rights; messages in memory of their own.
-/
import Derived.Test.YtehajmockicilaaDoorFifBase
namespace Go.Proofs.YtehajmockicilaaDoor
open Go Go.RowKit

def rightFi (L T : Int) (l : List Msg) : Bool := limB L && decide ((l.length : Int) ≤ L) && withB 0 65535 T && l.all rightM
theorem rightFi_iff (L T : Int) (l : List Msg) : rightFi L T l = true ↔ (1 ≤ L ∧ L ≤ 32) ∧ (l.length : Int) ≤ L ∧ (0 ≤ T ∧ T ≤ 65535) ∧ ∀ m ∈ l, rightM m = true := by
  unfold rightFi
  rw [Bool.and_eq_true, Bool.and_eq_true, Bool.and_eq_true, limB_iff, withB_iff, decide_eq_true_iff, List.all_eq_true]
  constructor
  · rintro ⟨⟨⟨h1, h2⟩, h3⟩, h4⟩; exact ⟨h1, h2, h3, h4⟩
  · rintro ⟨h1, h2, h3, h4⟩; exact ⟨⟨⟨h1, h2⟩, h3⟩, h4⟩
theorem rightFi_lim {L T : Int} {l : List Msg} (h : limB L = false) : rightFi L T l = false := by unfold rightFi; rw [h]; rfl
theorem rightFi_len {L T : Int} {l : List Msg} (h : ¬ (l.length : Int) ≤ L) : rightFi L T l = false := by unfold rightFi; rw [decide_eq_false h]; simp
theorem rightFi_lost {L T : Int} {l : List Msg} (h : withB 0 65535 T = false) : rightFi L T l = false := by unfold rightFi; rw [h]; simp
theorem rightFi_ok {L T : Int} {l : List Msg} (h1 : limB L = true) (h2 : (l.length : Int) ≤ L) (h3 : withB 0 65535 T = true) : rightFi L T l = l.all rightM := by unfold rightFi; rw [h1, decide_eq_true h2, h3]; rfl
theorem data_at' {w : World} {A : Option Addr} {c : Nat} {l : List Msg} (h : QIn w A c l) {k : Nat} {m : Msg} (hm : l[k]? = some m) : m.data.size ≤ maxLen := by
  have := h.data m (List.mem_of_getElem? hm)
  unfold maxLen; omega
theorem all_bad {l : List Msg} {k : Nat} {m : Msg} (hm : l[k]? = some m) (h : rightM m = false) : l.all rightM = false := by
  rw [← Bool.not_eq_true, List.all_eq_true]
  intro h2
  rw [h2 m (List.mem_of_getElem? hm)] at h; cases h
theorem all_next {l : List Msg} {k : Nat} {m : Msg} (hm : l[k]? = some m) (h : (l.take k).all rightM = true) (h2 : rightM m = true) : (l.take (k + 1)).all rightM = true := by
  rw [List.take_add_one, hm, List.all_append, h]; simp [h2]

set_option maxRecDepth 100000 in
set_option maxHeartbeats 4000000 in
theorem rightFi_any (L T : Int) (A : Option Addr) (c : Nat) (l : List Msg) (w : World) (LL : Laid w) (hq : QIn w A c l) :
    Calls Tryd.prog 21 #[fiv L T A l.length c] w fun e w' => e = .returned (.bool (rightFi L T l)) ∧ Below w.heap.size w w' := by
  have hlim := fun W => fiLim_any L W
  have hwit := fun W => fiWithin_any 0 65535 T W
  have q1 := FiAt.new w L T A l.length c
  have b1 := Joins.below_alloc1 w (.cells #[.int .i64 L, .int .i64 T, .slice A l.length c] 30)
  have hq1 := hq.on b1
  have hL1 := LL.below b1
  obtain ⟨y0, y1, y2⟩ := q1.cells
  have HB := Lib.hid b1
  have HQA := Lib.hid q1
  clear q1 b1 hq LL
  obtain ⟨R, hR⟩ : ∃ R, R = rightFi L T l := ⟨_, rfl⟩
  rw [← hR]
  cases hl : limB L
  · have HR : Hid (R = false) := Lib.hid (by rw [hR]; exact rightFi_lim hl)
    rw [hl] at hlim
    clear hR hl hwit
    go_enter Tryd.func21, Tryd.ntmps21
    go_wp2_with fail; refine (hlim _).mono ?_; rintro e w1 ⟨rfl, rfl⟩
    go_wp2_with fail
    go_ret
    exact ⟨ret_b HR.out.symm, HB.out⟩
  · rw [hl] at hlim
    by_cases hlen : (l.length : Int) ≤ L
    · have hlen2 : ¬ L < (l.length : Int) := by omega
      cases hw : withB 0 65535 T
      · have HR : Hid (R = false) := Lib.hid (by rw [hR]; exact rightFi_lost hw)
        rw [hw] at hwit
        clear hR hl hw
        go_enter Tryd.func21, Tryd.ntmps21
        go_wp2_with fail; refine (hlim _).mono ?_; rintro e w1 ⟨rfl, rfl⟩
        go_wp2_with fail; refine (hwit _).mono ?_; rintro e w1 ⟨rfl, rfl⟩
        go_wp2_with fail
        go_ret
        exact ⟨ret_b HR.out.symm, HB.out⟩
      · rw [hw] at hwit
        have HR : Hid (R = l.all rightM) := Lib.hid (by rw [hR]; exact rightFi_ok hl hlen hw)
        clear hR hl hw
        go_enter Tryd.func21, Tryd.ntmps21
        go_wp2_with fail; refine (hlim _).mono ?_; rintro e w1 ⟨rfl, rfl⟩
        go_wp2_with fail; refine (hwit _).mono ?_; rintro e w1 ⟨rfl, rfl⟩
        go_wp2_with fail
        generalize w.alloc (.cells #[.int .i64 L, .int .i64 T, .slice A l.length c] 30) = W at *
        have hfew := hq1.few
        have hcap := hq1.cap
        have HQ := Lib.hid hq1
        have HLL := Lib.hid hL1
        clear y0 y1 y2 hq1 hL1 hlim hwit
        go_loopw [4, 26] (fun _ i wr => ∃ k : Nat, k ≤ l.length ∧ i = .int .i64 k ∧ (l.take k).all rightM = true ∧ Below W.heap.size W wr) (fun _ i _ => l.length - (intOf i).toNat)
        case atStart => exact ⟨0, by omega, rfl, rfl, Below.refl _ _⟩
        case round =>
          obtain ⟨k, hk, rfl, hok, hb⟩ := hrel
          have HOK := Lib.hid hok; clear hok
          by_cases hlt : k < l.length
          · have hltI : (k : Int) < (l.length : Int) := by omega
            obtain ⟨m, hm⟩ : ∃ m, l[k]? = some m := ⟨_, List.getElem?_eq_getElem hlt⟩
            have hqr := HQ.out.on hb
            have hlr := HLL.out.below hb
            obtain ⟨ad, rfl, hat⟩ := hqr.at hm
            have hM := MsgAt.new wr m
            have b1 := Joins.below_alloc1 wr (.cells (mc m) 26)
            have hL1 := hlr.below b1
            have HB1 := Lib.hid (hb.trans (b1.mono hb.size))
            have CR : Hid (Calls Tryd.prog 54 #[mv m] (wr.alloc (.cells (mc m) 26)) fun e w' => e = .returned (.bool (rightM m)) ∧ Below (wr.alloc (.cells (mc m) 26)).heap.size (wr.alloc (.cells (mc m) 26)) w') := Lib.hid (rightM_any m (data_at' hqr hm) _ hL1)
            have HFA : Hid (rightM m = false → l.all rightM = false) := Lib.hid (fun h => all_bad hm h)
            have HNX : Hid (rightM m = true → (l.take (k + 1)).all rightM = true) := Lib.hid (fun h => all_next hm HOK.out h)
            obtain ⟨x0, x1, x2, x3, x4, x5, x6⟩ := hM.cells
            clear hm hM b1 hL1 hb hqr hlr
            generalize rightM m = rb at *
            obtain ⟨e1, n1, s1, i1, q1, k1, d1⟩ := m
            obtain ⟨z0, z1, z2, z3, z4, z5, z6⟩ := hat
            simp only [mv, mc] at *
            cases rb
            · go_wp2_with fail; refine CR.out.mono ?_; rintro e w1 ⟨rfl, b2⟩
              have HB2 := Lib.hid (HB1.out.trans (b2.mono HB1.out.size))
              go_wp2_with fail
              go_ret
              exact ⟨ret_b (by rw [HR.out]; exact (HFA.out (by trivial)).symm), HB.out.trans (HB2.out.mono HB.out.size)⟩
            · go_wp2_with fail; refine CR.out.mono ?_; rintro e w1 ⟨rfl, b2⟩
              have HB2 := Lib.hid (HB1.out.trans (b2.mono HB1.out.size))
              go_wp2_with fail
              go_roundw
              case rel => exact ⟨k + 1, by omega, by go_num, HNX.out (by trivial), HB2.out⟩
              case measure => simp [intOf]; omega
          · have hltI : ¬ (k : Int) < (l.length : Int) := by omega
            have hkl : k = l.length := by omega
            have HKL := Lib.hid hkl; clear hkl
            have HBR := Lib.hid hb
            go_wp2_with fail
            go_ret
            exact ⟨ret_b (by rw [HR.out, ← HOK.out, HKL.out, List.take_length]), HB.out.trans (HBR.out.mono HB.out.size)⟩
    · have HR : Hid (R = false) := Lib.hid (by rw [hR]; exact rightFi_len hlen)
      clear hR hl hwit
      have hlen2 : L < (l.length : Int) := by omega
      go_enter Tryd.func21, Tryd.ntmps21
      go_wp2_with fail; refine (hlim _).mono ?_; rintro e w1 ⟨rfl, rfl⟩
      go_wp2_with fail
      go_ret
      exact ⟨ret_b HR.out.symm, HB.out⟩

set_option maxRecDepth 100000 in
set_option maxHeartbeats 4000000 in
theorem refRightFi_any (L T : Int) (A : Option Addr) (c : Nat) (l : List Msg) (w : World) (hq : QIn w A c l) :
    Calls Tryd.prog 22 #[fiv L T A l.length c] w fun e w' => e = .returned (.bool (rightFi L T l)) ∧ Below w.heap.size w w' := by
  have q1 := FiAt.new w L T A l.length c
  have b1 := Joins.below_alloc1 w (.cells #[.int .i64 L, .int .i64 T, .slice A l.length c] 30)
  have hq1 := hq.on b1
  obtain ⟨y0, y1, y2⟩ := q1.cells
  have HB := Lib.hid b1
  have HQA := Lib.hid q1
  clear q1 b1 hq
  obtain ⟨R, hR⟩ : ∃ R, R = rightFi L T l := ⟨_, rfl⟩
  rw [← hR]
  by_cases hl : 1 ≤ L ∧ L ≤ 32
  · obtain ⟨hla, hlb⟩ := hl
    have hl1 : ¬ L < 1 := by omega
    have hl2 : ¬ 32 < L := by omega
    by_cases hlen : (l.length : Int) ≤ L
    · have hlen2 : ¬ L < (l.length : Int) := by omega
      by_cases ht : 0 ≤ T ∧ T ≤ 65535
      · obtain ⟨hta, htb⟩ := ht
        have ht1 : ¬ T < 0 := by omega
        have ht2 : ¬ 65535 < T := by omega
        have HR : Hid (R = l.all rightM) := Lib.hid (by rw [hR]; exact rightFi_ok ((limB_iff L).2 ⟨hla, hlb⟩) hlen ((withB_iff _ _ _).2 ⟨hta, htb⟩))
        clear hR
        go_enter Tryd.func22, Tryd.ntmps22
        go_wp2_with fail
        generalize hWW : w.alloc (.cells #[.int .i64 L, .int .i64 T, .slice A l.length c] 30) = W at *
        clear hWW
        have hfew := hq1.few
        have HQ := Lib.hid hq1
        clear y0 y1 y2 hq1
        go_loopw [3] (fun i wr => ∃ k : Nat, k ≤ l.length ∧ i = .int .i64 k ∧ (l.take k).all rightM = true ∧ Below W.heap.size W wr) (fun i _ => l.length - (intOf i).toNat)
        case atStart => exact ⟨0, by omega, rfl, rfl, Below.refl _ _⟩
        case round =>
          obtain ⟨k, hk, rfl, hok, hb⟩ := hrel
          have HOK := Lib.hid hok; clear hok
          obtain ⟨y0, y1, y2⟩ := (HQA.out.on hb).cells
          by_cases hlt : k < l.length
          · have hltI : (k : Int) < (l.length : Int) := by omega
            obtain ⟨m, hm⟩ : ∃ m, l[k]? = some m := ⟨_, List.getElem?_eq_getElem hlt⟩
            have hqr := HQ.out.on hb
            obtain ⟨ad, rfl, hat⟩ := hqr.at hm
            have HBR := Lib.hid hb
            have CR := Lib.hid (refRightM_any m (data_at' hqr hm) wr)
            have HFA : Hid (rightM m = false → l.all rightM = false) := Lib.hid (fun h => all_bad hm h)
            have HNX : Hid (rightM m = true → (l.take (k + 1)).all rightM = true) := Lib.hid (fun h => all_next hm HOK.out h)
            clear hm hb hqr
            generalize rightM m = rb at *
            obtain ⟨e1, n1, s1, i1, q1, k1, d1⟩ := m
            obtain ⟨z0, z1, z2, z3, z4, z5, z6⟩ := hat
            simp only [mv] at *
            cases rb
            · go_wp2_with fail; refine (CR.out).mono ?_; rintro e w1 ⟨rfl, b2⟩
              have HB2 := Lib.hid (HBR.out.trans (b2.mono HBR.out.size))
              go_wp2_with fail
              go_ret
              exact ⟨ret_b (by rw [HR.out]; exact (HFA.out (by trivial)).symm), HB.out.trans (HB2.out.mono HB.out.size)⟩
            · go_wp2_with fail; refine (CR.out).mono ?_; rintro e w1 ⟨rfl, b2⟩
              have HB2 := Lib.hid (HBR.out.trans (b2.mono HBR.out.size))
              go_wp2_with fail
              go_roundw
              case rel => exact ⟨k + 1, by omega, by go_num, HNX.out (by trivial), HB2.out⟩
              case measure => simp [intOf]; omega
          · have hltI : ¬ (k : Int) < (l.length : Int) := by omega
            have hkl : k = l.length := by omega
            have HKL := Lib.hid hkl; clear hkl
            have HBR := Lib.hid hb
            go_wp2_with fail
            go_ret
            exact ⟨ret_b (by rw [HR.out, ← HOK.out, HKL.out, List.take_length]), HB.out.trans (HBR.out.mono HB.out.size)⟩
      · have HR : Hid (R = false) := Lib.hid (by rw [hR]; exact rightFi_lost ((withB_not _ _ _).2 (by omega)))
        clear hR
        by_cases ht1 : T < 0
        · clear ht
          go_enter Tryd.func22, Tryd.ntmps22
          go_wp2_with fail
          go_ret
          exact ⟨ret_b HR.out.symm, HB.out⟩
        · have ht2 : 65535 < T := by omega
          clear ht
          go_enter Tryd.func22, Tryd.ntmps22
          go_wp2_with fail
          go_ret
          exact ⟨ret_b HR.out.symm, HB.out⟩
    · have HR : Hid (R = false) := Lib.hid (by rw [hR]; exact rightFi_len hlen)
      clear hR
      have hlen2 : L < (l.length : Int) := by omega
      go_enter Tryd.func22, Tryd.ntmps22
      go_wp2_with fail
      go_ret
      exact ⟨ret_b HR.out.symm, HB.out⟩
  · have HR : Hid (R = false) := Lib.hid (by rw [hR]; exact rightFi_lim ((limB_not L).2 (by omega)))
    clear hR
    by_cases hl1 : L < 1
    · clear hl
      go_enter Tryd.func22, Tryd.ntmps22
      go_wp2_with fail
      go_ret
      exact ⟨ret_b HR.out.symm, HB.out⟩
    · have hl2 : 32 < L := by omega
      clear hl
      go_enter Tryd.func22, Tryd.ntmps22
      go_wp2_with fail
      go_ret
      exact ⟨ret_b HR.out.symm, HB.out⟩

set_option maxRecDepth 100000 in
set_option maxHeartbeats 4000000 in
/-- Messages in memory of their own. -/
theorem fiOwned_any (A : Option Addr) (c : Nat) (l : List Msg) (w : World) (hq : QIn w A c l) :
    Calls Tryd.prog 75 #[.slice A l.length c] w fun e w' => ∃ u, e = .returned u ∧ OwnM w' w.heap.size u l ∧ Below w.heap.size w w' := by
  have hfew := hq.few
  have HQ := Lib.hid hq
  clear hq
  go_enter Tryd.func75, Tryd.ntmps75
  go_wp2_with fail
  go_loopw [3, 5, 8] (fun u _ i wr => ∃ k : Nat, k ≤ l.length ∧ i = .int .i64 k ∧ OwnM wr w.heap.size u (l.take k) ∧ Below w.heap.size w wr) (fun _ _ i _ => l.length - (intOf i).toNat)
  case atStart => exact ⟨0, by omega, rfl, OwnM.nil _ _, Below.refl _ _⟩
  case round =>
    obtain ⟨k, hk, rfl, hown, hb⟩ := hrel
    have HOWN := Lib.hid hown; clear hown
    by_cases hlt : k < l.length
    · have hltI : (k : Int) < (l.length : Int) := by omega
      obtain ⟨m, hm⟩ : ∃ m, l[k]? = some m := ⟨_, List.getElem?_eq_getElem hlt⟩
      have hqr := HQ.out.on hb
      obtain ⟨ad, rfl, hat⟩ := hqr.at hm
      have hd : m.data.size ≤ 281474976710656 := by have := hqr.data m (List.mem_of_getElem? hm); omega
      have cc := fun W => clone_any m.data W hd
      have hM := MsgAt.new wr m
      have b1 := Joins.below_alloc1 wr (.cells (mc m) 26)
      have HB1 := Lib.hid (hb.trans (b1.mono hb.size))
      have HOWN1 := Lib.hid (HOWN.out.on b1)
      have HNX : Hid (l.take (k + 1) = l.take k ++ [m]) := Lib.hid (by rw [List.take_add_one, hm]; rfl)
      have htl : (l.take k).length = k := by rw [List.length_take]; omega
      have HM := Lib.hid hM
      obtain ⟨x0, x1, x2, x3, x4, x5, x6⟩ := hM.cells
      have HSZ : Hid ((wr.alloc (.cells (mc m) 26)).heap.size = wr.heap.size + 1) := Lib.hid (World.size_alloc _ _)
      clear hm hM b1 hb hqr hd
      generalize l.take k = out at *
      obtain ⟨e1, n1, s1, i1, q1, k1, d1⟩ := m
      obtain ⟨z0, z1, z2, z3, z4, z5, z6⟩ := hat
      simp only [mc] at *
      go_wp2_with fail; refine (cc _).mono ?_; rintro e w2 ⟨rfl, b2⟩
      clear x0 x1 x2 x3 x4 x5 x6 z0 z1 z2 z3 z4 z5 z6
      have hM2 : MsgAt w2 wr.heap.size ⟨e1, n1, s1, i1, q1, k1, d1⟩ := MsgAt.on HM.out b2
      have hsame := setCell_is (k := 6) (v := .string d1) hM2 rfl
      have HB2 := Lib.hid (HB1.out.trans (b2.mono HB1.out.size))
      have HOWN2 := Lib.hid (HOWN1.out.on b2)
      obtain ⟨x0, x1, x2, x3, x4, x5, x6⟩ := hM2.cells
      have xf := hM2.frozen
      clear hM2 b2 cc
      go_wp2_with (at_builtin; refine list_appM (by rfl) _ _ rfl w.heap.size (w2.alloc (.cells (mc ⟨e1, n1, s1, i1, q1, k1, d1⟩) 26)).heap.size _ out [⟨e1, n1, s1, i1, q1, k1, d1⟩] (some ⟨w2.heap.size, 0, none⟩) 1 rfl rfl (own_one HOWN2.out ⟨e1, n1, s1, i1, q1, k1, d1⟩) (Msgs.one (heap_alloc_new w2 _)) (by have := HB2.out.size; simp; omega) (by simp; omega) ?_; intro u' w5 hown5 hg5)
      have HB5 := Lib.hid ((own_one HOWN2.out ⟨e1, n1, s1, i1, q1, k1, d1⟩).below hg5 (by have := HB2.out.size; simp; omega))
      go_roundw
      case rel => exact ⟨k + 1, by omega, by go_num, by rw [HNX.out]; exact hown5, (HB2.out.alloc HB2.out.size _).trans HB5.out⟩
      case measure => simp [intOf]; omega
    · have hltI : ¬ (k : Int) < (l.length : Int) := by omega
      have hkl : k = l.length := by omega
      have HF : Hid (OwnM wr w.heap.size _ l) := Lib.hid (by have h := HOWN.out; rw [hkl, List.take_length] at h; exact h)
      have HBR := Lib.hid hb
      clear hkl hb
      go_wp2_with fail
      go_ret
      exact ⟨_, rfl, HF.out, HBR.out⟩

end Go.Proofs.YtehajmockicilaaDoor

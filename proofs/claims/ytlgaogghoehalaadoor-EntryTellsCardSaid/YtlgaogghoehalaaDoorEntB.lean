/-
  The document's Inc and Right of entries. Entries' bytes, by the document. Entries' bytes, by the program. Entries compared, and in memory of their own: the document's Same and Own. The entry that bytes are, by the document.
-/
import Derived.Test.YtlgaogghoehalaaDoorEntA
import Derived.Test.YtlgaogghoehalaaDoorMsgEncG
import Derived.Test.YtlgaogghoehalaaDoorMsgEncPG
import Derived.Test.YtlgaogghoehalaaDoorVecAppG
import Derived.Test.YtlgaogghoehalaaDoorMsgAppG
import Derived.Test.YtlgaogghoehalaaDoorMsgDecG
import Derived.Test.YtlgaogghoehalaaDoorOnceAll
import Derived.Deep.DeepCutAuto
import Derived.Deep.RegionHeld3
import Derived.Deep.RegionWith
import Derived.Deep.RegionLaw

namespace Go.Proofs.YtlgaogghoehalaaDoor
open Go.RowKit

set_option maxRecDepth 100000 in
theorem refSmall6_any (n : Int) (w : World) : Calls Tryd.prog 40 #[.int .i64 n] w fun e w' => e = .returned (.bool (smallB n)) ∧ w = w' := by
  by_cases h1 : 1 ≤ n
  · by_cases h2 : n ≤ 65535
    · have hv := Lib.hid ((smallB_iff n).2 ⟨h1, h2⟩)
      go_enter Tryd.func40, Tryd.ntmps40
      go_wp2
      go_ret
      exact ⟨ret_b hv.out.symm, rfl⟩
    · have hv : smallB n = false := by rw [← Bool.not_eq_true, smallB_iff]; omega
      have HV := Lib.hid hv; clear hv
      go_enter Tryd.func40, Tryd.ntmps40
      go_wp2
      go_ret
      exact ⟨ret_b HV.out.symm, rfl⟩
  · have hv : smallB n = false := by rw [← Bool.not_eq_true, smallB_iff]; omega
    have HV := Lib.hid hv; clear hv
    go_enter Tryd.func40, Tryd.ntmps40
    go_wp2
    go_ret
    exact ⟨ret_b HV.out.symm, rfl⟩

theorem inc_found {mem : Int} {incs : List Int} {node : Int} {k : Nat} (hx : (V.listI mem)[k]? = some node) (hc : (incs.length : Int) = V.countI mem) : isE mem incs node = true ∧ incs[k]? = some (incE mem incs node) := by
  have hh : V.hasB mem node = true := by
    cases h : V.hasB mem node
    · exact absurd rfl (list_no_member h k node hx)
    · rfl
  have h2 := (incE_yes hh hc).2
  rw [list_inj hx (list_member hh)]
  exact ⟨isE_yes hh hc, h2⟩
theorem inc_none {mem : Int} {incs : List Int} {node : Int} (h : ∀ (j : Nat) (x : Int), (V.listI mem)[j]? = some x → x ≠ node) : isE mem incs node = false := by
  refine isE_no_node ?_
  cases hh : V.hasB mem node
  · rfl
  · exact absurd rfl (h _ _ (list_member hh))

set_option maxRecDepth 100000 in
set_option maxHeartbeats 2000000 in
theorem refInc_any (t ep mem node : Int) (A : Option Addr) (c : Nat) (incs : List Int) (v : Value) (w : World) (h : V.Row w w.heap.size A incs) (_hl : incs.length ≤ maxLen) :
    Calls Tryd.prog 16 #[ev t ep mem (.slice A incs.length c) v, .int .i64 node] w fun e w' => e = .returned (.tuple #[.int .i64 (incE mem incs node), .bool (isE mem incs node)]) ∧ Below w.heap.size w w' := by
  unfold maxLen at _hl
  obtain ⟨I, hI⟩ : ∃ I, I = isE mem incs node := ⟨_, rfl⟩
  obtain ⟨X, hX⟩ : ∃ X, X = incE mem incs node := ⟨_, rfl⟩
  rw [← hI, ← hX]
  have HI := Lib.hid hI; clear hI
  have HX := Lib.hid hX; clear hX
  have b1 := Joins.below_alloc1 w (.cells #[.int .i64 t, .int .i64 ep, .int .i64 mem, .slice A incs.length c, v] 27)
  have e1 := EntAt.new w t ep mem (.slice A incs.length c) v
  have r1 := h.below b1 (Nat.le_refl _)
  generalize hW : w.alloc (.cells #[.int .i64 t, .int .i64 ep, .int .i64 mem, .slice A incs.length c, v] 27) = W at *
  obtain ⟨y0, y1, y2, y3, y4⟩ := e1.cells
  have HE := Lib.hid e1; clear e1
  have HB := Lib.hid b1; clear b1
  have HRW := Lib.hid r1; clear r1 h
  have hcl := V.countI_length mem
  have h16 := V.listI_length mem
  go_enter Tryd.func16, Tryd.ntmps16
  go_wp2_with fail; refine (V.refList_any mem _).mono ?_; rintro e w2 ⟨u, rfl, hrow, b2⟩
  clear hW y0 y1 y2 y3 y4
  obtain ⟨AL, cL, rfl, _, hR⟩ := V.Row.of_own hrow
  clear hrow
  have HB2 := Lib.hid (HB.out.trans (b2.mono HB.out.size))
  obtain ⟨y0, y1, y2, y3, y4⟩ := (HE.out.on b2).cells
  have HRW2 := Lib.hid (HRW.out.below b2 (by have := HB.out.size; omega))
  clear b2
  by_cases hc : (incs.length : Int) = V.countI mem
  · have hq : (((V.listI mem).length : Int) != incs.length) = false := by rw [hcl, hc]; simp
    have HF := Lib.hid (fun k hx => inc_found (mem := mem) (incs := incs) (node := node) (k := k) hx hc)
    have HNO := Lib.hid (fun h => inc_none (mem := mem) (incs := incs) (node := node) h)
    have HNV := Lib.hid (fun h => incE_no (mem := mem) (incs := incs) (node := node) h)
    have hlen : (V.listI mem).length = incs.length := by omega
    have HLEN := Lib.hid hlen; clear hlen hc hcl
    generalize V.listI mem = LL at *
    go_wp2_with fail
    go_loopw [7] (fun ix wr => ∃ k : Nat, k ≤ LL.length ∧ ix = .int .i64 k ∧ (∀ (j : Nat) (x : Int), j < k → LL[j]? = some x → x ≠ node) ∧ wr = w2) (fun ix _ => LL.length - (intOf ix).toNat)
    case atStart => exact ⟨0, by omega, rfl, fun j x hj => absurd hj (by omega), rfl⟩
    case round =>
      obtain ⟨k, hk, rfl, hno, rfl⟩ := hrel
      have HN := Lib.hid hno; clear hno
      by_cases hlt : k < LL.length
      · obtain ⟨x, hx⟩ : ∃ x, LL[k]? = some x := ⟨_, List.getElem?_eq_getElem hlt⟩
        obtain ⟨ad, rfl, _, hcc⟩ := hR (by omega)
        have hck := hcc k x hx
        by_cases hxn : x = node
        · subst hxn
          obtain ⟨h1, h2⟩ := HF.out k hx
          obtain ⟨ad2, rfl, _, hcc2⟩ := HRW2.out (by have := HLEN.out; omega)
          rw [← HX.out] at h2
          have hck2 := hcc2 k X h2
          have hk2 : (k : Int) < incs.length := by have := HLEN.out; omega
          have hk3 : (0 : Int) ≤ k := by omega
          have HIT := Lib.hid (HI.out.trans h1)
          clear hcc hcc2 hx h2 h1
          go_wp2_with fail
          go_ret2
          exact ⟨by rw [HIT.out]; rfl, HB2.out⟩
        · have hxe : ((x : Int) == node) = false := by simpa using hxn
          have HXN := Lib.hid hxn; clear hxn
          have HXX := Lib.hid hx; clear hx hcc
          go_wp2_with fail
          go_roundw
          case rel => exact ⟨k + 1, by omega, by go_num, fun j y hj hy => by
            rcases Nat.lt_or_ge j k with h | h
            · exact HN.out j y h hy
            · have : j = k := by omega
              subst this
              rw [HXX.out] at hy
              exact Option.some.inj hy ▸ HXN.out, trivial⟩
          case measure => simp [intOf]; omega
      · have hI := HNO.out (fun j x hx => HN.out j x (by have := (List.getElem?_eq_some_iff.1 hx).1; omega) hx)
        have hX := HNV.out hI
        have HIT := Lib.hid (HI.out.trans hI)
        have HXT := Lib.hid (HX.out.trans hX)
        clear hR hI hX
        go_wp2_with fail
        go_ret2
        exact ⟨by rw [HIT.out, HXT.out]; rfl, HB2.out⟩
  · have hq : (((V.listI mem).length : Int) != incs.length) = true := by rw [hcl]; simp; omega
    have hI := isE_no_count (node := node) hc
    have HIT := Lib.hid (HI.out.trans hI)
    have HXT := Lib.hid (HX.out.trans (incE_no hI))
    clear hI hc hR
    go_wp2_with fail
    go_ret2
    exact ⟨by rw [HIT.out, HXT.out]; rfl, HB2.out⟩

theorem any_take_snoc {l : List Msg} {k : Nat} {m : Msg} (hm : l[k]? = some m) (s : Int) : ((l.take (k + 1)).any fun x => decide (x.sender = s)) = (((l.take k).any fun x => decide (x.sender = s)) || decide (m.sender = s)) := by
  rw [List.take_add_one, hm]
  show ((l.take k ++ [m]).any _) = _
  rw [List.any_append]; simp
theorem ref_bad {mem : Int} {incs : List Int} {l : List Msg} {k : Nat} {m : Msg} (hm : l[k]? = some m) (hk : k + 1 ≤ l.length) (hu : memU mem incs l k = true)
    (hB : ((((!(rightM m)) || (!(isE mem incs m.sender))) || ((incE mem incs m.sender) != m.inc)) || ((decide (0 < k)) && (!(lessM (l.getD (k - 1) zeroM) m)))) = true) : (ordU l l.length && memU mem incs l l.length) = false := by
  simp only [Bool.or_eq_true, Bool.not_eq_true', Bool.and_eq_true, decide_eq_true_iff, bne_iff_ne] at hB
  rcases hB with ((hB | hB) | hB) | ⟨hB1, hB2⟩
  · rw [ordU_false (k := k + 1) (by
      show (ordU l k && (rightM (l.getD k zeroM) && _)) = false
      rw [getD_at hm, hB]; simp) hk]; rfl
  · rw [memU_false (k := k + 1) (by rw [memU_next hm hu, hB]; rfl) hk]; simp
  · rw [memU_false (k := k + 1) (by rw [memU_next hm hu, decide_eq_false (fun e => hB e.symm)]; simp) hk]; simp
  · rw [ordU_false (k := k + 1) (by
      show (ordU l k && (rightM (l.getD k zeroM) && (decide (k = 0) || lessM (l.getD (k - 1) zeroM) (l.getD k zeroM)))) = false
      rw [getD_at hm, hB2, decide_eq_false (show ¬ k = 0 by omega)]; simp) hk]; rfl
theorem ref_good {mem : Int} {incs : List Int} {l : List Msg} {k : Nat} {m : Msg} (hm : l[k]? = some m) (ho : ordU l k = true) (hu : memU mem incs l k = true)
    (hB : ((((!(rightM m)) || (!(isE mem incs m.sender))) || ((incE mem incs m.sender) != m.inc)) || ((decide (0 < k)) && (!(lessM (l.getD (k - 1) zeroM) m)))) = false) :
    ordU l (k + 1) = true ∧ memU mem incs l (k + 1) = !((l.take k).any fun x => decide (x.sender = m.sender)) := by
  simp only [Bool.or_eq_false_iff, Bool.not_eq_false', Bool.and_eq_false_iff, decide_eq_false_iff_not, bne_eq_false_iff_eq] at hB
  obtain ⟨⟨⟨h1, h2⟩, h3⟩, h4⟩ := hB
  refine ⟨?_, ?_⟩
  · show (ordU l k && (rightM (l.getD k zeroM) && (decide (k = 0) || lessM (l.getD (k - 1) zeroM) (l.getD k zeroM)))) = true
    rw [getD_at hm, ho, h1]
    rcases h4 with h4 | h4
    · rw [decide_eq_true (show k = 0 by omega)]; rfl
    · rw [h4]; simp
  · rw [memU_next hm hu, h2, decide_eq_true h3.symm]; simp
theorem rightE_ref1 (e : Ent) (h : (((((!(smallB e.t)) || (!(smallB e.ep))) || (decide (e.mem < 0))) || (decide (65535 < e.mem))) || ((e.incs.length : Int) != V.countI e.mem)) = true) : rightE e = false := by
  rw [← Bool.not_eq_true, rightE_iff]
  rintro ⟨h1, h2, h3, h4, h5, -⟩
  rw [(smallB_iff _).2 h1, (smallB_iff _).2 h2, decide_eq_false (show ¬ e.mem < 0 by omega), decide_eq_false (show ¬ 65535 < e.mem by omega), h5] at h
  simp at h
theorem rightE_ref2 (e : Ent) (h : (((((!(smallB e.t)) || (!(smallB e.ep))) || (decide (e.mem < 0))) || (decide (65535 < e.mem))) || ((e.incs.length : Int) != V.countI e.mem)) = false) (h2 : e.incs.all smallB = true) : rightE e = (ordU e.msgs e.msgs.length && memU e.mem e.incs e.msgs e.msgs.length) := by
  simp only [Bool.or_eq_false_iff, Bool.not_eq_false', decide_eq_false_iff_not, bne_eq_false_iff_eq] at h
  obtain ⟨⟨⟨⟨a1, a2⟩, a3⟩, a4⟩, a5⟩ := h
  unfold rightE
  rw [a1, a2, decide_eq_true (show 0 ≤ e.mem by omega), decide_eq_true (show e.mem ≤ 65535 by omega), a5, h2]
  simp
theorem rightE_ref3 (e : Ent) (h2 : e.incs.all smallB = false) : rightE e = false := by
  unfold rightE; rw [h2]; simp

set_option maxRecDepth 100000 in
set_option maxHeartbeats 8000000 in
theorem rightER_any (x : Ent) (A : Option Addr) (c : Nat) (A' : Option Addr) (c' : Nat) (w : World) (h : V.Row w w.heap.size A x.incs) (hM : Msgs w w.heap.size A' x.msgs) (hil : x.incs.length ≤ maxLen) (hl : x.msgs.length ≤ maxLen) (hd : ∀ m ∈ x.msgs, m.data.size ≤ maxLen) :
    Calls Tryd.prog 18 #[ev x.t x.ep x.mem (.slice A x.incs.length c) (.slice A' x.msgs.length c')] w fun e w' => e = .returned (.bool (rightE x)) ∧ Below w.heap.size w w' := by
  have hR1 := rightE_ref1 x
  have hR2 := rightE_ref2 x
  have hR3 := rightE_ref3 x
  obtain ⟨t, ep, mem, incs, l⟩ := x
  simp only at *
  have ni := hil
  have nl := hl
  unfold maxLen at ni nl
  generalize rightE ⟨t, ep, mem, incs, l⟩ = R at *
  have HR1 := Lib.hid hR1; clear hR1
  have HR2 := Lib.hid hR2; clear hR2
  have HR3 := Lib.hid hR3; clear hR3
  have HD := Lib.hid hd; clear hd
  have b1 := Joins.below_alloc1 w (.cells #[.int .i64 t, .int .i64 ep, .int .i64 mem, .slice A incs.length c, .slice A' l.length c'] 27)
  have e1 := EntAt.new w t ep mem (.slice A incs.length c) (.slice A' l.length c')
  have r1 := (h.below b1 (Nat.le_refl _)).more b1.size
  have m1 := (hM.below b1 (Nat.le_refl _)).more b1.size
  generalize hW : w.alloc (.cells #[.int .i64 t, .int .i64 ep, .int .i64 mem, .slice A incs.length c, .slice A' l.length c'] 27) = W at *
  have S1 := Lib.hid (fun W' => refSmall6_any t W')
  have S2 := Lib.hid (fun W' => refSmall6_any ep W')
  have CC := Lib.hid (fun W' => V.refCount_any mem W')
  have CI := Lib.hid (fun n W' (hG : Below W.heap.size W W') => refInc_any t ep mem n A c incs (.slice A' l.length c') W' ((r1.below hG (Nat.le_refl _)).more hG.size) hil)
  have HE := Lib.hid e1; clear e1
  have HB := Lib.hid b1; clear b1 h hM hil hl
  have HRW := Lib.hid r1; clear r1
  have HMW := Lib.hid m1; clear m1
  generalize hg : w.heap.size = b at *
  go_enter Tryd.func18, Tryd.ntmps18
  go_wp2_with fail
  clear hW
  have HV : ∃ Vp : Nat → (Nat → Value) → World → Prop, Vp = (fun ix u wv => match ix with
    | 0 => u 0 = .pointer (some ⟨b, 0, none⟩)
    | 1 => u 1 = .int .i64 t
    | 2 => u 2 = .bool (smallB t)
    | 3 => u 3 = .bool (!((smallB t)))
    | 4 => u 4 = .bool (!((smallB t)))
    | 5 => u 5 = if (!((!((smallB t))))) = true then .pointer (some ⟨b, 1, none⟩) else undef
    | 6 => u 6 = if (!((!((smallB t))))) = true then .int .i64 ep else undef
    | 7 => u 7 = if (!((!((smallB t))))) = true then .bool (smallB ep) else undef
    | 8 => u 8 = if (!((!((smallB t))))) = true then .bool (!((smallB ep))) else undef
    | 9 => u 9 = .bool ((!((smallB t))) || (!((smallB ep))))
    | 10 => u 10 = .bool ((!((smallB t))) || (!((smallB ep))))
    | 11 => u 11 = if (!(((!((smallB t))) || (!((smallB ep)))))) = true then .pointer (some ⟨b, 2, none⟩) else undef
    | 12 => u 12 = if (!(((!((smallB t))) || (!((smallB ep)))))) = true then .int .i64 mem else undef
    | 13 => u 13 = if (!(((!((smallB t))) || (!((smallB ep)))))) = true then .bool (decide (mem < 0)) else undef
    | 14 => u 14 = .bool (((!((smallB t))) || (!((smallB ep)))) || (decide (mem < 0)))
    | 15 => u 15 = .bool (((!((smallB t))) || (!((smallB ep)))) || (decide (mem < 0)))
    | 16 => u 16 = if (!((((!((smallB t))) || (!((smallB ep)))) || (decide (mem < 0))))) = true then .pointer (some ⟨b, 2, none⟩) else undef
    | 17 => u 17 = if (!((((!((smallB t))) || (!((smallB ep)))) || (decide (mem < 0))))) = true then .int .i64 mem else undef
    | 18 => u 18 = if (!((((!((smallB t))) || (!((smallB ep)))) || (decide (mem < 0))))) = true then .bool (decide (65535 < mem)) else undef
    | 19 => u 19 = .bool ((((!((smallB t))) || (!((smallB ep)))) || (decide (mem < 0))) || (decide (65535 < mem)))
    | 20 => u 20 = .bool ((((!((smallB t))) || (!((smallB ep)))) || (decide (mem < 0))) || (decide (65535 < mem)))
    | 21 => u 21 = if (!(((((!((smallB t))) || (!((smallB ep)))) || (decide (mem < 0))) || (decide (65535 < mem))))) = true then .pointer (some ⟨b, 3, none⟩) else undef
    | 22 => u 22 = if (!(((((!((smallB t))) || (!((smallB ep)))) || (decide (mem < 0))) || (decide (65535 < mem))))) = true then .slice A incs.length c else undef
    | 23 => u 23 = if (!(((((!((smallB t))) || (!((smallB ep)))) || (decide (mem < 0))) || (decide (65535 < mem))))) = true then .int .i64 (incs.length : Int) else undef
    | 24 => u 24 = if (!(((((!((smallB t))) || (!((smallB ep)))) || (decide (mem < 0))) || (decide (65535 < mem))))) = true then .pointer (some ⟨b, 2, none⟩) else undef
    | 25 => u 25 = if (!(((((!((smallB t))) || (!((smallB ep)))) || (decide (mem < 0))) || (decide (65535 < mem))))) = true then .int .i64 mem else undef
    | 26 => u 26 = if (!(((((!((smallB t))) || (!((smallB ep)))) || (decide (mem < 0))) || (decide (65535 < mem))))) = true then .int .i64 (V.countI mem) else undef
    | 27 => u 27 = if (!(((((!((smallB t))) || (!((smallB ep)))) || (decide (mem < 0))) || (decide (65535 < mem))))) = true then .bool ((incs.length : Int) != V.countI mem) else undef
    | 28 => u 28 = .bool (((((!((smallB t))) || (!((smallB ep)))) || (decide (mem < 0))) || (decide (65535 < mem))) || ((incs.length : Int) != V.countI mem))
    | _ => True) := ⟨_, rfl⟩
  obtain ⟨Vp, hVdef⟩ := HV
  have Vp0 : ∀ u wv, Vp 0 u wv = (u 0 = .pointer (some ⟨b, 0, none⟩)) := fun u wv => by subst hVdef; rfl
  have Vp1 : ∀ u wv, Vp 1 u wv = (u 1 = .int .i64 t) := fun u wv => by subst hVdef; rfl
  have Vp2 : ∀ u wv, Vp 2 u wv = (u 2 = .bool (smallB t)) := fun u wv => by subst hVdef; rfl
  have Vp3 : ∀ u wv, Vp 3 u wv = (u 3 = .bool (!((smallB t)))) := fun u wv => by subst hVdef; rfl
  have Vp4 : ∀ u wv, Vp 4 u wv = (u 4 = .bool (!((smallB t)))) := fun u wv => by subst hVdef; rfl
  have Vp5 : ∀ u wv, Vp 5 u wv = (u 5 = if (!((!((smallB t))))) = true then .pointer (some ⟨b, 1, none⟩) else undef) := fun u wv => by subst hVdef; rfl
  have Vp6 : ∀ u wv, Vp 6 u wv = (u 6 = if (!((!((smallB t))))) = true then .int .i64 ep else undef) := fun u wv => by subst hVdef; rfl
  have Vp7 : ∀ u wv, Vp 7 u wv = (u 7 = if (!((!((smallB t))))) = true then .bool (smallB ep) else undef) := fun u wv => by subst hVdef; rfl
  have Vp8 : ∀ u wv, Vp 8 u wv = (u 8 = if (!((!((smallB t))))) = true then .bool (!((smallB ep))) else undef) := fun u wv => by subst hVdef; rfl
  have Vp9 : ∀ u wv, Vp 9 u wv = (u 9 = .bool ((!((smallB t))) || (!((smallB ep))))) := fun u wv => by subst hVdef; rfl
  have Vp10 : ∀ u wv, Vp 10 u wv = (u 10 = .bool ((!((smallB t))) || (!((smallB ep))))) := fun u wv => by subst hVdef; rfl
  have Vp11 : ∀ u wv, Vp 11 u wv = (u 11 = if (!(((!((smallB t))) || (!((smallB ep)))))) = true then .pointer (some ⟨b, 2, none⟩) else undef) := fun u wv => by subst hVdef; rfl
  have Vp12 : ∀ u wv, Vp 12 u wv = (u 12 = if (!(((!((smallB t))) || (!((smallB ep)))))) = true then .int .i64 mem else undef) := fun u wv => by subst hVdef; rfl
  have Vp13 : ∀ u wv, Vp 13 u wv = (u 13 = if (!(((!((smallB t))) || (!((smallB ep)))))) = true then .bool (decide (mem < 0)) else undef) := fun u wv => by subst hVdef; rfl
  have Vp14 : ∀ u wv, Vp 14 u wv = (u 14 = .bool (((!((smallB t))) || (!((smallB ep)))) || (decide (mem < 0)))) := fun u wv => by subst hVdef; rfl
  have Vp15 : ∀ u wv, Vp 15 u wv = (u 15 = .bool (((!((smallB t))) || (!((smallB ep)))) || (decide (mem < 0)))) := fun u wv => by subst hVdef; rfl
  have Vp16 : ∀ u wv, Vp 16 u wv = (u 16 = if (!((((!((smallB t))) || (!((smallB ep)))) || (decide (mem < 0))))) = true then .pointer (some ⟨b, 2, none⟩) else undef) := fun u wv => by subst hVdef; rfl
  have Vp17 : ∀ u wv, Vp 17 u wv = (u 17 = if (!((((!((smallB t))) || (!((smallB ep)))) || (decide (mem < 0))))) = true then .int .i64 mem else undef) := fun u wv => by subst hVdef; rfl
  have Vp18 : ∀ u wv, Vp 18 u wv = (u 18 = if (!((((!((smallB t))) || (!((smallB ep)))) || (decide (mem < 0))))) = true then .bool (decide (65535 < mem)) else undef) := fun u wv => by subst hVdef; rfl
  have Vp19 : ∀ u wv, Vp 19 u wv = (u 19 = .bool ((((!((smallB t))) || (!((smallB ep)))) || (decide (mem < 0))) || (decide (65535 < mem)))) := fun u wv => by subst hVdef; rfl
  have Vp20 : ∀ u wv, Vp 20 u wv = (u 20 = .bool ((((!((smallB t))) || (!((smallB ep)))) || (decide (mem < 0))) || (decide (65535 < mem)))) := fun u wv => by subst hVdef; rfl
  have Vp21 : ∀ u wv, Vp 21 u wv = (u 21 = if (!(((((!((smallB t))) || (!((smallB ep)))) || (decide (mem < 0))) || (decide (65535 < mem))))) = true then .pointer (some ⟨b, 3, none⟩) else undef) := fun u wv => by subst hVdef; rfl
  have Vp22 : ∀ u wv, Vp 22 u wv = (u 22 = if (!(((((!((smallB t))) || (!((smallB ep)))) || (decide (mem < 0))) || (decide (65535 < mem))))) = true then .slice A incs.length c else undef) := fun u wv => by subst hVdef; rfl
  have Vp23 : ∀ u wv, Vp 23 u wv = (u 23 = if (!(((((!((smallB t))) || (!((smallB ep)))) || (decide (mem < 0))) || (decide (65535 < mem))))) = true then .int .i64 (incs.length : Int) else undef) := fun u wv => by subst hVdef; rfl
  have Vp24 : ∀ u wv, Vp 24 u wv = (u 24 = if (!(((((!((smallB t))) || (!((smallB ep)))) || (decide (mem < 0))) || (decide (65535 < mem))))) = true then .pointer (some ⟨b, 2, none⟩) else undef) := fun u wv => by subst hVdef; rfl
  have Vp25 : ∀ u wv, Vp 25 u wv = (u 25 = if (!(((((!((smallB t))) || (!((smallB ep)))) || (decide (mem < 0))) || (decide (65535 < mem))))) = true then .int .i64 mem else undef) := fun u wv => by subst hVdef; rfl
  have Vp26 : ∀ u wv, Vp 26 u wv = (u 26 = if (!(((((!((smallB t))) || (!((smallB ep)))) || (decide (mem < 0))) || (decide (65535 < mem))))) = true then .int .i64 (V.countI mem) else undef) := fun u wv => by subst hVdef; rfl
  have Vp27 : ∀ u wv, Vp 27 u wv = (u 27 = if (!(((((!((smallB t))) || (!((smallB ep)))) || (decide (mem < 0))) || (decide (65535 < mem))))) = true then .bool ((incs.length : Int) != V.countI mem) else undef) := fun u wv => by subst hVdef; rfl
  have Vp28 : ∀ u wv, Vp 28 u wv = (u 28 = .bool (((((!((smallB t))) || (!((smallB ep)))) || (decide (mem < 0))) || (decide (65535 < mem))) || ((incs.length : Int) != V.countI mem))) := fun u wv => by subst hVdef; rfl
  have HVD := Lib.hid hVdef
  clear hVdef
  refine region_each (V := Vp) (drop := fun _ _ => false) (G := fun wv => Below W.heap.size W wv) (Rel := fun jx wv wv' => Below wv.heap.size wv wv') (by kernel_rfl) (by kernel_rfl) (Below.refl _ _).drew ?hmonoc1 ?hdepc1 ⟨?s0_c1, ?s1_c1, ?s2_c1, ?s3_c1, ?s4_c1, ?s5_c1, ?s6_c1, ?s7_c1, ?s8_c1, ?s9_c1, ?s10_c1, ?s11_c1, ?s12_c1, ?s13_c1, ?s14_c1, ?s15_c1, ?s16_c1, ?s17_c1, ?s18_c1, ?s19_c1, ?s20_c1, ?s21_c1, ?s22_c1, ?s23_c1, ?s24_c1, ?s25_c1, ?s26_c1, ?s27_c1, ?s28_c1, trivial⟩ ?behindc1
  case hmonoc1 =>
    intro ix jx u wv wv' hij hw hd hr
    rw [HVD.out]
    dsimp only
    split <;> intro h <;> first | exact trivial | exact h
  case hdepc1 =>
    intro ix u u' wv h1 h2
    rw [HVD.out]
    dsimp only
    split <;> intro h <;> first | exact trivial | (rw [← h1]; exact h)
  case s0_c1 =>
    refine owe rfl fun a wx val hG hV hN hO K hK => ?_
    have e1 : a.tmps[1]? = some (.pointer (some ⟨b, 0, none⟩)) := (hO 1 (by kernel_rfl)).trans (by rfl)
    clear hV hN hO
    go_simp
    exact hK.out _ _ (by rw [Vp0, upd_at] <;> (congr 1 <;> omega)) (Below.refl _ _) hG
  case s1_c1 =>
    refine owe rfl fun a wx val hG hV hN hO K hK => ?_
    have e9 := hN 0 9 (by kernel_rfl) (by kernel_rfl) (by simp)
    have f9 := hV 0 (by kernel_rfl) (by kernel_rfl)
    rw [Vp0] at f9; rw [f9] at e9; clear f9
    clear hV hN hO
    obtain ⟨y0, y1, y2, y3, y4⟩ := (HE.out.on hG).cells
    go_simp
    exact hK.out _ _ (by rw [Vp1, upd_at] <;> (congr 1 <;> omega)) (Below.refl _ _) hG
  case s2_c1 =>
    refine owe rfl fun a wx val hG hV hN hO K hK => ?_
    have e10 := hN 1 10 (by kernel_rfl) (by kernel_rfl) (by simp)
    have f10 := hV 1 (by kernel_rfl) (by kernel_rfl)
    rw [Vp1] at f10; rw [f10] at e10; clear f10
    clear hV hN hO
    go_simp
    refine (S1.out _).mono ?_
    rintro e w11 ⟨rfl, rfl⟩
    exact hK.out _ _ (by rw [Vp2, upd_at]) (Below.refl _ _) hG
  case s3_c1 =>
    refine owe rfl fun a wx val hG hV hN hO K hK => ?_
    have e11 := hN 2 11 (by kernel_rfl) (by kernel_rfl) (by simp)
    have f11 := hV 2 (by kernel_rfl) (by kernel_rfl)
    rw [Vp2] at f11; rw [f11] at e11; clear f11
    clear hV hN hO
    go_simp
    exact hK.out _ _ (by rw [Vp3, upd_at] <;> (congr 1 <;> omega)) (Below.refl _ _) hG
  case s4_c1 =>
    refine owe rfl fun a wx val hG hV hN hO K hK => ?_
    have e12 := hN 3 12 (by kernel_rfl) (by kernel_rfl) (by simp)
    have f12 := hV 3 (by kernel_rfl) (by kernel_rfl)
    rw [Vp3] at f12; rw [f12] at e12; clear f12
    clear hV hN hO
    go_simp
    exact hK.out _ _ (by rw [Vp4, upd_at] <;> (congr 1 <;> omega)) (Below.refl _ _) hG
  case s5_c1 =>
    refine owe_cond (g := 4) (t := 13) (b := false) (c := (!((smallB t)))) (d := true) ((!((!((smallB t)))))) (by first | rfl | simp) rfl (by kernel_rfl) (by kernel_rfl) (by kernel_rfl) (by simp) (fun val w h => by rw [Vp4] at h; first | exact h | simpa using h) (fun hd a wx val hG hV hN hO K hK => ?_) (fun hd val w => by rw [Vp5, upd_at, if_neg (by rw [hd]; decide)])
    have e1 : a.tmps[1]? = some (.pointer (some ⟨b, 0, none⟩)) := (hO 1 (by kernel_rfl)).trans (by rfl)
    clear hV hN hO
    go_simp
    exact hK.out _ _ (by rw [Vp5, upd_at, if_pos hd] <;> (congr 1 <;> omega)) (Below.refl _ _) hG
  case s6_c1 =>
    refine owe_cond (g := 4) (t := 13) (b := false) (c := (!((smallB t)))) (d := true) ((!((!((smallB t)))))) (by first | rfl | simp) rfl (by kernel_rfl) (by kernel_rfl) (by kernel_rfl) (by simp) (fun val w h => by rw [Vp4] at h; first | exact h | simpa using h) (fun hd a wx val hG hV hN hO K hK => ?_) (fun hd val w => by rw [Vp6, upd_at, if_neg (by rw [hd]; decide)])
    have e14 := hN 5 14 (by kernel_rfl) (by kernel_rfl) (by simp)
    have f14 := hV 5 (by kernel_rfl) (by kernel_rfl)
    rw [Vp5] at f14; rw [f14] at e14; clear f14
    rw [if_pos hd] at e14
    clear hV hN hO
    obtain ⟨y0, y1, y2, y3, y4⟩ := (HE.out.on hG).cells
    go_simp
    exact hK.out _ _ (by rw [Vp6, upd_at, if_pos hd] <;> (congr 1 <;> omega)) (Below.refl _ _) hG
  case s7_c1 =>
    refine owe_cond (g := 4) (t := 13) (b := false) (c := (!((smallB t)))) (d := true) ((!((!((smallB t)))))) (by first | rfl | simp) rfl (by kernel_rfl) (by kernel_rfl) (by kernel_rfl) (by simp) (fun val w h => by rw [Vp4] at h; first | exact h | simpa using h) (fun hd a wx val hG hV hN hO K hK => ?_) (fun hd val w => by rw [Vp7, upd_at, if_neg (by rw [hd]; decide)])
    have e15 := hN 6 15 (by kernel_rfl) (by kernel_rfl) (by simp)
    have f15 := hV 6 (by kernel_rfl) (by kernel_rfl)
    rw [Vp6] at f15; rw [f15] at e15; clear f15
    rw [if_pos hd] at e15
    clear hV hN hO
    go_simp
    refine (S2.out _).mono ?_
    rintro e w11 ⟨rfl, rfl⟩
    exact hK.out _ _ (by rw [Vp7, upd_at, if_pos hd]) (Below.refl _ _) hG
  case s8_c1 =>
    refine owe_cond (g := 4) (t := 13) (b := false) (c := (!((smallB t)))) (d := true) ((!((!((smallB t)))))) (by first | rfl | simp) rfl (by kernel_rfl) (by kernel_rfl) (by kernel_rfl) (by simp) (fun val w h => by rw [Vp4] at h; first | exact h | simpa using h) (fun hd a wx val hG hV hN hO K hK => ?_) (fun hd val w => by rw [Vp8, upd_at, if_neg (by rw [hd]; decide)])
    have e16 := hN 7 16 (by kernel_rfl) (by kernel_rfl) (by simp)
    have f16 := hV 7 (by kernel_rfl) (by kernel_rfl)
    rw [Vp7] at f16; rw [f16] at e16; clear f16
    rw [if_pos hd] at e16
    clear hV hN hO
    go_simp
    exact hK.out _ _ (by rw [Vp8, upd_at, if_pos hd] <;> (congr 1 <;> omega)) (Below.refl _ _) hG
  case s9_c1 =>
    refine owe rfl fun a wx val hG hV hN hO K hK => ?_
    have e13 := hN 4 13 (by kernel_rfl) (by kernel_rfl) (by simp)
    have f13 := hV 4 (by kernel_rfl) (by kernel_rfl)
    rw [Vp4] at f13; rw [f13] at e13; clear f13
    have e17 := hN 8 17 (by kernel_rfl) (by kernel_rfl) (by simp)
    have f17 := hV 8 (by kernel_rfl) (by kernel_rfl)
    rw [Vp8] at f17; rw [f17] at e17; clear f17
    clear hV hN hO
    cases hcc : ((!((smallB t))))
    · rw [hcc] at e13
      rw [if_pos (by first | exact hcc | (rw [hcc]; rfl) | simp [hcc])] at e17
      go_simp
      exact hK.out _ _ (by rw [Vp9, upd_at] <;> simp [hcc]) (Below.refl _ _) hG
    · rw [hcc] at e13
      rw [if_neg (by first | (rw [hcc]; decide) | simp [hcc])] at e17
      go_simp
      exact hK.out _ _ (by rw [Vp9, upd_at] <;> simp [hcc]) (Below.refl _ _) hG
  case s10_c1 =>
    refine owe rfl fun a wx val hG hV hN hO K hK => ?_
    have e18 := hN 9 18 (by kernel_rfl) (by kernel_rfl) (by simp)
    have f18 := hV 9 (by kernel_rfl) (by kernel_rfl)
    rw [Vp9] at f18; rw [f18] at e18; clear f18
    clear hV hN hO
    go_simp
    exact hK.out _ _ (by rw [Vp10, upd_at] <;> (congr 1 <;> omega)) (Below.refl _ _) hG
  case s11_c1 =>
    refine owe_cond (g := 10) (t := 19) (b := false) (c := ((!((smallB t))) || (!((smallB ep))))) (d := true) ((!(((!((smallB t))) || (!((smallB ep))))))) (by first | rfl | simp) rfl (by kernel_rfl) (by kernel_rfl) (by kernel_rfl) (by simp) (fun val w h => by rw [Vp10] at h; first | exact h | simpa using h) (fun hd a wx val hG hV hN hO K hK => ?_) (fun hd val w => by rw [Vp11, upd_at, if_neg (by rw [hd]; decide)])
    have e1 : a.tmps[1]? = some (.pointer (some ⟨b, 0, none⟩)) := (hO 1 (by kernel_rfl)).trans (by rfl)
    clear hV hN hO
    go_simp
    exact hK.out _ _ (by rw [Vp11, upd_at, if_pos hd] <;> (congr 1 <;> omega)) (Below.refl _ _) hG
  case s12_c1 =>
    refine owe_cond (g := 10) (t := 19) (b := false) (c := ((!((smallB t))) || (!((smallB ep))))) (d := true) ((!(((!((smallB t))) || (!((smallB ep))))))) (by first | rfl | simp) rfl (by kernel_rfl) (by kernel_rfl) (by kernel_rfl) (by simp) (fun val w h => by rw [Vp10] at h; first | exact h | simpa using h) (fun hd a wx val hG hV hN hO K hK => ?_) (fun hd val w => by rw [Vp12, upd_at, if_neg (by rw [hd]; decide)])
    have e20 := hN 11 20 (by kernel_rfl) (by kernel_rfl) (by simp)
    have f20 := hV 11 (by kernel_rfl) (by kernel_rfl)
    rw [Vp11] at f20; rw [f20] at e20; clear f20
    rw [if_pos hd] at e20
    clear hV hN hO
    obtain ⟨y0, y1, y2, y3, y4⟩ := (HE.out.on hG).cells
    go_simp
    exact hK.out _ _ (by rw [Vp12, upd_at, if_pos hd] <;> (congr 1 <;> omega)) (Below.refl _ _) hG
  case s13_c1 =>
    refine owe_cond (g := 10) (t := 19) (b := false) (c := ((!((smallB t))) || (!((smallB ep))))) (d := true) ((!(((!((smallB t))) || (!((smallB ep))))))) (by first | rfl | simp) rfl (by kernel_rfl) (by kernel_rfl) (by kernel_rfl) (by simp) (fun val w h => by rw [Vp10] at h; first | exact h | simpa using h) (fun hd a wx val hG hV hN hO K hK => ?_) (fun hd val w => by rw [Vp13, upd_at, if_neg (by rw [hd]; decide)])
    have e21 := hN 12 21 (by kernel_rfl) (by kernel_rfl) (by simp)
    have f21 := hV 12 (by kernel_rfl) (by kernel_rfl)
    rw [Vp12] at f21; rw [f21] at e21; clear f21
    rw [if_pos hd] at e21
    clear hV hN hO
    go_simp
    exact hK.out _ _ (by rw [Vp13, upd_at, if_pos hd] <;> (congr 1 <;> omega)) (Below.refl _ _) hG
  case s14_c1 =>
    refine owe rfl fun a wx val hG hV hN hO K hK => ?_
    have e19 := hN 10 19 (by kernel_rfl) (by kernel_rfl) (by simp)
    have f19 := hV 10 (by kernel_rfl) (by kernel_rfl)
    rw [Vp10] at f19; rw [f19] at e19; clear f19
    have e22 := hN 13 22 (by kernel_rfl) (by kernel_rfl) (by simp)
    have f22 := hV 13 (by kernel_rfl) (by kernel_rfl)
    rw [Vp13] at f22; rw [f22] at e22; clear f22
    clear hV hN hO
    cases hcc : (((!((smallB t))) || (!((smallB ep)))))
    · rw [hcc] at e19
      rw [if_pos (by first | exact hcc | (rw [hcc]; rfl) | simp [hcc])] at e22
      go_simp
      exact hK.out _ _ (by rw [Vp14, upd_at] <;> simp [hcc]) (Below.refl _ _) hG
    · rw [hcc] at e19
      rw [if_neg (by first | (rw [hcc]; decide) | simp [hcc])] at e22
      go_simp
      exact hK.out _ _ (by rw [Vp14, upd_at] <;> simp [hcc]) (Below.refl _ _) hG
  case s15_c1 =>
    refine owe rfl fun a wx val hG hV hN hO K hK => ?_
    have e23 := hN 14 23 (by kernel_rfl) (by kernel_rfl) (by simp)
    have f23 := hV 14 (by kernel_rfl) (by kernel_rfl)
    rw [Vp14] at f23; rw [f23] at e23; clear f23
    clear hV hN hO
    go_simp
    exact hK.out _ _ (by rw [Vp15, upd_at] <;> (congr 1 <;> omega)) (Below.refl _ _) hG
  case s16_c1 =>
    refine owe_cond (g := 15) (t := 24) (b := false) (c := (((!((smallB t))) || (!((smallB ep)))) || (decide (mem < 0)))) (d := true) ((!((((!((smallB t))) || (!((smallB ep)))) || (decide (mem < 0)))))) (by first | rfl | simp) rfl (by kernel_rfl) (by kernel_rfl) (by kernel_rfl) (by simp) (fun val w h => by rw [Vp15] at h; first | exact h | simpa using h) (fun hd a wx val hG hV hN hO K hK => ?_) (fun hd val w => by rw [Vp16, upd_at, if_neg (by rw [hd]; decide)])
    have e1 : a.tmps[1]? = some (.pointer (some ⟨b, 0, none⟩)) := (hO 1 (by kernel_rfl)).trans (by rfl)
    clear hV hN hO
    go_simp
    exact hK.out _ _ (by rw [Vp16, upd_at, if_pos hd] <;> (congr 1 <;> omega)) (Below.refl _ _) hG
  case s17_c1 =>
    refine owe_cond (g := 15) (t := 24) (b := false) (c := (((!((smallB t))) || (!((smallB ep)))) || (decide (mem < 0)))) (d := true) ((!((((!((smallB t))) || (!((smallB ep)))) || (decide (mem < 0)))))) (by first | rfl | simp) rfl (by kernel_rfl) (by kernel_rfl) (by kernel_rfl) (by simp) (fun val w h => by rw [Vp15] at h; first | exact h | simpa using h) (fun hd a wx val hG hV hN hO K hK => ?_) (fun hd val w => by rw [Vp17, upd_at, if_neg (by rw [hd]; decide)])
    have e25 := hN 16 25 (by kernel_rfl) (by kernel_rfl) (by simp)
    have f25 := hV 16 (by kernel_rfl) (by kernel_rfl)
    rw [Vp16] at f25; rw [f25] at e25; clear f25
    rw [if_pos hd] at e25
    clear hV hN hO
    obtain ⟨y0, y1, y2, y3, y4⟩ := (HE.out.on hG).cells
    go_simp
    exact hK.out _ _ (by rw [Vp17, upd_at, if_pos hd] <;> (congr 1 <;> omega)) (Below.refl _ _) hG
  case s18_c1 =>
    refine owe_cond (g := 15) (t := 24) (b := false) (c := (((!((smallB t))) || (!((smallB ep)))) || (decide (mem < 0)))) (d := true) ((!((((!((smallB t))) || (!((smallB ep)))) || (decide (mem < 0)))))) (by first | rfl | simp) rfl (by kernel_rfl) (by kernel_rfl) (by kernel_rfl) (by simp) (fun val w h => by rw [Vp15] at h; first | exact h | simpa using h) (fun hd a wx val hG hV hN hO K hK => ?_) (fun hd val w => by rw [Vp18, upd_at, if_neg (by rw [hd]; decide)])
    have e26 := hN 17 26 (by kernel_rfl) (by kernel_rfl) (by simp)
    have f26 := hV 17 (by kernel_rfl) (by kernel_rfl)
    rw [Vp17] at f26; rw [f26] at e26; clear f26
    rw [if_pos hd] at e26
    clear hV hN hO
    go_simp
    exact hK.out _ _ (by rw [Vp18, upd_at, if_pos hd] <;> (congr 1 <;> omega)) (Below.refl _ _) hG
  case s19_c1 =>
    refine owe rfl fun a wx val hG hV hN hO K hK => ?_
    have e24 := hN 15 24 (by kernel_rfl) (by kernel_rfl) (by simp)
    have f24 := hV 15 (by kernel_rfl) (by kernel_rfl)
    rw [Vp15] at f24; rw [f24] at e24; clear f24
    have e27 := hN 18 27 (by kernel_rfl) (by kernel_rfl) (by simp)
    have f27 := hV 18 (by kernel_rfl) (by kernel_rfl)
    rw [Vp18] at f27; rw [f27] at e27; clear f27
    clear hV hN hO
    cases hcc : ((((!((smallB t))) || (!((smallB ep)))) || (decide (mem < 0))))
    · rw [hcc] at e24
      rw [if_pos (by first | exact hcc | (rw [hcc]; rfl) | simp [hcc])] at e27
      go_simp
      exact hK.out _ _ (by rw [Vp19, upd_at] <;> simp [hcc]) (Below.refl _ _) hG
    · rw [hcc] at e24
      rw [if_neg (by first | (rw [hcc]; decide) | simp [hcc])] at e27
      go_simp
      exact hK.out _ _ (by rw [Vp19, upd_at] <;> simp [hcc]) (Below.refl _ _) hG
  case s20_c1 =>
    refine owe rfl fun a wx val hG hV hN hO K hK => ?_
    have e28 := hN 19 28 (by kernel_rfl) (by kernel_rfl) (by simp)
    have f28 := hV 19 (by kernel_rfl) (by kernel_rfl)
    rw [Vp19] at f28; rw [f28] at e28; clear f28
    clear hV hN hO
    go_simp
    exact hK.out _ _ (by rw [Vp20, upd_at] <;> (congr 1 <;> omega)) (Below.refl _ _) hG
  case s21_c1 =>
    refine owe_cond (g := 20) (t := 29) (b := false) (c := ((((!((smallB t))) || (!((smallB ep)))) || (decide (mem < 0))) || (decide (65535 < mem)))) (d := true) ((!(((((!((smallB t))) || (!((smallB ep)))) || (decide (mem < 0))) || (decide (65535 < mem)))))) (by first | rfl | simp) rfl (by kernel_rfl) (by kernel_rfl) (by kernel_rfl) (by simp) (fun val w h => by rw [Vp20] at h; first | exact h | simpa using h) (fun hd a wx val hG hV hN hO K hK => ?_) (fun hd val w => by rw [Vp21, upd_at, if_neg (by rw [hd]; decide)])
    have e1 : a.tmps[1]? = some (.pointer (some ⟨b, 0, none⟩)) := (hO 1 (by kernel_rfl)).trans (by rfl)
    clear hV hN hO
    go_simp
    exact hK.out _ _ (by rw [Vp21, upd_at, if_pos hd] <;> (congr 1 <;> omega)) (Below.refl _ _) hG
  case s22_c1 =>
    refine owe_cond (g := 20) (t := 29) (b := false) (c := ((((!((smallB t))) || (!((smallB ep)))) || (decide (mem < 0))) || (decide (65535 < mem)))) (d := true) ((!(((((!((smallB t))) || (!((smallB ep)))) || (decide (mem < 0))) || (decide (65535 < mem)))))) (by first | rfl | simp) rfl (by kernel_rfl) (by kernel_rfl) (by kernel_rfl) (by simp) (fun val w h => by rw [Vp20] at h; first | exact h | simpa using h) (fun hd a wx val hG hV hN hO K hK => ?_) (fun hd val w => by rw [Vp22, upd_at, if_neg (by rw [hd]; decide)])
    have e30 := hN 21 30 (by kernel_rfl) (by kernel_rfl) (by simp)
    have f30 := hV 21 (by kernel_rfl) (by kernel_rfl)
    rw [Vp21] at f30; rw [f30] at e30; clear f30
    rw [if_pos hd] at e30
    clear hV hN hO
    obtain ⟨y0, y1, y2, y3, y4⟩ := (HE.out.on hG).cells
    go_simp
    exact hK.out _ _ (by rw [Vp22, upd_at, if_pos hd] <;> (congr 1 <;> omega)) (Below.refl _ _) hG
  case s23_c1 =>
    refine owe_cond (g := 20) (t := 29) (b := false) (c := ((((!((smallB t))) || (!((smallB ep)))) || (decide (mem < 0))) || (decide (65535 < mem)))) (d := true) ((!(((((!((smallB t))) || (!((smallB ep)))) || (decide (mem < 0))) || (decide (65535 < mem)))))) (by first | rfl | simp) rfl (by kernel_rfl) (by kernel_rfl) (by kernel_rfl) (by simp) (fun val w h => by rw [Vp20] at h; first | exact h | simpa using h) (fun hd a wx val hG hV hN hO K hK => ?_) (fun hd val w => by rw [Vp23, upd_at, if_neg (by rw [hd]; decide)])
    have e31 := hN 22 31 (by kernel_rfl) (by kernel_rfl) (by simp)
    have f31 := hV 22 (by kernel_rfl) (by kernel_rfl)
    rw [Vp22] at f31; rw [f31] at e31; clear f31
    rw [if_pos hd] at e31
    clear hV hN hO
    go_simp
    exact hK.out _ _ (by rw [Vp23, upd_at, if_pos hd] <;> (congr 1 <;> omega)) (Below.refl _ _) hG
  case s24_c1 =>
    refine owe_cond (g := 20) (t := 29) (b := false) (c := ((((!((smallB t))) || (!((smallB ep)))) || (decide (mem < 0))) || (decide (65535 < mem)))) (d := true) ((!(((((!((smallB t))) || (!((smallB ep)))) || (decide (mem < 0))) || (decide (65535 < mem)))))) (by first | rfl | simp) rfl (by kernel_rfl) (by kernel_rfl) (by kernel_rfl) (by simp) (fun val w h => by rw [Vp20] at h; first | exact h | simpa using h) (fun hd a wx val hG hV hN hO K hK => ?_) (fun hd val w => by rw [Vp24, upd_at, if_neg (by rw [hd]; decide)])
    have e1 : a.tmps[1]? = some (.pointer (some ⟨b, 0, none⟩)) := (hO 1 (by kernel_rfl)).trans (by rfl)
    clear hV hN hO
    go_simp
    exact hK.out _ _ (by rw [Vp24, upd_at, if_pos hd] <;> (congr 1 <;> omega)) (Below.refl _ _) hG
  case s25_c1 =>
    refine owe_cond (g := 20) (t := 29) (b := false) (c := ((((!((smallB t))) || (!((smallB ep)))) || (decide (mem < 0))) || (decide (65535 < mem)))) (d := true) ((!(((((!((smallB t))) || (!((smallB ep)))) || (decide (mem < 0))) || (decide (65535 < mem)))))) (by first | rfl | simp) rfl (by kernel_rfl) (by kernel_rfl) (by kernel_rfl) (by simp) (fun val w h => by rw [Vp20] at h; first | exact h | simpa using h) (fun hd a wx val hG hV hN hO K hK => ?_) (fun hd val w => by rw [Vp25, upd_at, if_neg (by rw [hd]; decide)])
    have e33 := hN 24 33 (by kernel_rfl) (by kernel_rfl) (by simp)
    have f33 := hV 24 (by kernel_rfl) (by kernel_rfl)
    rw [Vp24] at f33; rw [f33] at e33; clear f33
    rw [if_pos hd] at e33
    clear hV hN hO
    obtain ⟨y0, y1, y2, y3, y4⟩ := (HE.out.on hG).cells
    go_simp
    exact hK.out _ _ (by rw [Vp25, upd_at, if_pos hd] <;> (congr 1 <;> omega)) (Below.refl _ _) hG
  case s26_c1 =>
    refine owe_cond (g := 20) (t := 29) (b := false) (c := ((((!((smallB t))) || (!((smallB ep)))) || (decide (mem < 0))) || (decide (65535 < mem)))) (d := true) ((!(((((!((smallB t))) || (!((smallB ep)))) || (decide (mem < 0))) || (decide (65535 < mem)))))) (by first | rfl | simp) rfl (by kernel_rfl) (by kernel_rfl) (by kernel_rfl) (by simp) (fun val w h => by rw [Vp20] at h; first | exact h | simpa using h) (fun hd a wx val hG hV hN hO K hK => ?_) (fun hd val w => by rw [Vp26, upd_at, if_neg (by rw [hd]; decide)])
    have e34 := hN 25 34 (by kernel_rfl) (by kernel_rfl) (by simp)
    have f34 := hV 25 (by kernel_rfl) (by kernel_rfl)
    rw [Vp25] at f34; rw [f34] at e34; clear f34
    rw [if_pos hd] at e34
    clear hV hN hO
    go_simp
    refine (CC.out _).mono ?_
    rintro e w11 ⟨rfl, hb⟩
    exact hK.out _ _ (by rw [Vp26, upd_at, if_pos hd]) hb (hG.trans (hb.mono hG.size))
  case s27_c1 =>
    refine owe_cond (g := 20) (t := 29) (b := false) (c := ((((!((smallB t))) || (!((smallB ep)))) || (decide (mem < 0))) || (decide (65535 < mem)))) (d := true) ((!(((((!((smallB t))) || (!((smallB ep)))) || (decide (mem < 0))) || (decide (65535 < mem)))))) (by first | rfl | simp) rfl (by kernel_rfl) (by kernel_rfl) (by kernel_rfl) (by simp) (fun val w h => by rw [Vp20] at h; first | exact h | simpa using h) (fun hd a wx val hG hV hN hO K hK => ?_) (fun hd val w => by rw [Vp27, upd_at, if_neg (by rw [hd]; decide)])
    have e32 := hN 23 32 (by kernel_rfl) (by kernel_rfl) (by simp)
    have f32 := hV 23 (by kernel_rfl) (by kernel_rfl)
    rw [Vp23] at f32; rw [f32] at e32; clear f32
    rw [if_pos hd] at e32
    have e35 := hN 26 35 (by kernel_rfl) (by kernel_rfl) (by simp)
    have f35 := hV 26 (by kernel_rfl) (by kernel_rfl)
    rw [Vp26] at f35; rw [f35] at e35; clear f35
    rw [if_pos hd] at e35
    clear hV hN hO
    go_simp
    exact hK.out _ _ (by rw [Vp27, upd_at, if_pos hd] <;> (congr 1 <;> omega)) (Below.refl _ _) hG
  case s28_c1 =>
    refine owe rfl fun a wx val hG hV hN hO K hK => ?_
    have e29 := hN 20 29 (by kernel_rfl) (by kernel_rfl) (by simp)
    have f29 := hV 20 (by kernel_rfl) (by kernel_rfl)
    rw [Vp20] at f29; rw [f29] at e29; clear f29
    have e36 := hN 27 36 (by kernel_rfl) (by kernel_rfl) (by simp)
    have f36 := hV 27 (by kernel_rfl) (by kernel_rfl)
    rw [Vp27] at f36; rw [f36] at e36; clear f36
    clear hV hN hO
    cases hcc : (((((!((smallB t))) || (!((smallB ep)))) || (decide (mem < 0))) || (decide (65535 < mem))))
    · rw [hcc] at e29
      rw [if_pos (by first | exact hcc | (rw [hcc]; rfl) | simp [hcc])] at e36
      go_simp
      exact hK.out _ _ (by rw [Vp28, upd_at] <;> simp [hcc]) (Below.refl _ _) hG
    · rw [hcc] at e29
      rw [if_neg (by first | (rw [hcc]; decide) | simp [hcc])] at e36
      go_simp
      exact hK.out _ _ (by rw [Vp28, upd_at] <;> simp [hcc]) (Below.refl _ _) hG
  intro val wx hG hV
  have f0 := hV 0 (by simp) (fun _ _ => by rfl)
  rw [Vp0] at f0
  have f1 := hV 1 (by simp) (fun _ _ => by rfl)
  rw [Vp1] at f1
  have f2 := hV 2 (by simp) (fun _ _ => by rfl)
  rw [Vp2] at f2
  have f3 := hV 3 (by simp) (fun _ _ => by rfl)
  rw [Vp3] at f3
  have f4 := hV 4 (by simp) (fun _ _ => by rfl)
  rw [Vp4] at f4
  have f5 := hV 5 (by simp) (fun _ _ => by rfl)
  rw [Vp5] at f5
  have f6 := hV 6 (by simp) (fun _ _ => by rfl)
  rw [Vp6] at f6
  have f7 := hV 7 (by simp) (fun _ _ => by rfl)
  rw [Vp7] at f7
  have f8 := hV 8 (by simp) (fun _ _ => by rfl)
  rw [Vp8] at f8
  have f9 := hV 9 (by simp) (fun _ _ => by rfl)
  rw [Vp9] at f9
  have f10 := hV 10 (by simp) (fun _ _ => by rfl)
  rw [Vp10] at f10
  have f11 := hV 11 (by simp) (fun _ _ => by rfl)
  rw [Vp11] at f11
  have f12 := hV 12 (by simp) (fun _ _ => by rfl)
  rw [Vp12] at f12
  have f13 := hV 13 (by simp) (fun _ _ => by rfl)
  rw [Vp13] at f13
  have f14 := hV 14 (by simp) (fun _ _ => by rfl)
  rw [Vp14] at f14
  have f15 := hV 15 (by simp) (fun _ _ => by rfl)
  rw [Vp15] at f15
  have f16 := hV 16 (by simp) (fun _ _ => by rfl)
  rw [Vp16] at f16
  have f17 := hV 17 (by simp) (fun _ _ => by rfl)
  rw [Vp17] at f17
  have f18 := hV 18 (by simp) (fun _ _ => by rfl)
  rw [Vp18] at f18
  have f19 := hV 19 (by simp) (fun _ _ => by rfl)
  rw [Vp19] at f19
  have f20 := hV 20 (by simp) (fun _ _ => by rfl)
  rw [Vp20] at f20
  have f21 := hV 21 (by simp) (fun _ _ => by rfl)
  rw [Vp21] at f21
  have f22 := hV 22 (by simp) (fun _ _ => by rfl)
  rw [Vp22] at f22
  have f23 := hV 23 (by simp) (fun _ _ => by rfl)
  rw [Vp23] at f23
  have f24 := hV 24 (by simp) (fun _ _ => by rfl)
  rw [Vp24] at f24
  have f25 := hV 25 (by simp) (fun _ _ => by rfl)
  rw [Vp25] at f25
  have f26 := hV 26 (by simp) (fun _ _ => by rfl)
  rw [Vp26] at f26
  have f27 := hV 27 (by simp) (fun _ _ => by rfl)
  rw [Vp27] at f27
  have f28 := hV 28 (by simp) (fun _ _ => by rfl)
  rw [Vp28] at f28
  clear hV Vp0 Vp1 Vp2 Vp3 Vp4 Vp5 Vp6 Vp7 Vp8 Vp9 Vp10 Vp11 Vp12 Vp13 Vp14 Vp15 Vp16 Vp17 Vp18 Vp19 Vp20 Vp21 Vp22 Vp23 Vp24 Vp25 Vp26 Vp27 Vp28
  simp only [putAll, Act.put, List.setIfInBounds_toArray, List.set_cons_zero, List.set_cons_succ]
  generalize val 0 = z0 at *; (subst f0)
  generalize val 1 = z1 at *; (subst f1)
  generalize val 2 = z2 at *; (subst f2)
  generalize val 3 = z3 at *; (subst f3)
  generalize val 4 = z4 at *; (subst f4)
  generalize val 5 = z5 at *; clear f5
  generalize val 6 = z6 at *; clear f6
  generalize val 7 = z7 at *; clear f7
  generalize val 8 = z8 at *; clear f8
  generalize val 9 = z9 at *; (subst f9)
  generalize val 10 = z10 at *; (subst f10)
  generalize val 11 = z11 at *; clear f11
  generalize val 12 = z12 at *; clear f12
  generalize val 13 = z13 at *; clear f13
  generalize val 14 = z14 at *; (subst f14)
  generalize val 15 = z15 at *; (subst f15)
  generalize val 16 = z16 at *; clear f16
  generalize val 17 = z17 at *; clear f17
  generalize val 18 = z18 at *; clear f18
  generalize val 19 = z19 at *; (subst f19)
  generalize val 20 = z20 at *; (subst f20)
  generalize val 21 = z21 at *; clear f21
  generalize val 22 = z22 at *; clear f22
  generalize val 23 = z23 at *; clear f23
  generalize val 24 = z24 at *; clear f24
  generalize val 25 = z25 at *; clear f25
  generalize val 26 = z26 at *; clear f26
  generalize val 27 = z27 at *; clear f27
  generalize val 28 = z28 at *; (subst f28)
  clear HVD
  have hbw : b ≤ W.heap.size := by have := HB.out.size; rw [hg] at this; exact this
  have HB1 := Lib.hid (HB.out.trans (hG.mono hbw))
  have HG1 := Lib.hid hG; clear hG
  have HLE : Hid (b ≤ W.heap.size) := Lib.hid hbw; clear hbw
  obtain ⟨y0, y1, y2, y3, y4⟩ := (HE.out.on HG1.out).cells
  cases hB : ((((((!(smallB t)) || (!(smallB ep))) || (decide (mem < 0))) || (decide (65535 < mem))) || ((incs.length : Int) != V.countI mem)))
  · -- the Incs
    have HR2' := Lib.hid (HR2.out hB)
    clear HR1 HR2 hB S1 S2 CC
    go_wp2_with fail
    go_loopw [3] (fun ix wr => ∃ k : Nat, k ≤ incs.length ∧ ix = .int .i64 k ∧ (incs.take k).all smallB = true ∧ wr = wx) (fun ix _ => incs.length - (intOf ix).toNat)
    case atStart => exact ⟨0, by omega, rfl, rfl, rfl⟩
    case round =>
      obtain ⟨k, hk, rfl, hal, rfl⟩ := hrel
      have HAL := Lib.hid hal; clear hal
      by_cases hlt : k < incs.length
      · obtain ⟨n, hx⟩ : ∃ n, incs[k]? = some n := ⟨_, List.getElem?_eq_getElem hlt⟩
        obtain ⟨ad, rfl, _, hcc⟩ := HRW.out.below HG1.out (Nat.le_refl _) (by omega)
        have hck := hcc k n hx
        have cs := fun W' => refSmall6_any n W'
        have HT := Lib.hid (all_take incs k n hx)
        have HM := Lib.hid (all_miss incs k n hx)
        clear hcc hx
        cases hs : smallB n
        · have HRF := Lib.hid (HR3.out (HM.out hs))
          rw [hs] at cs
          clear hs
          go_wp2_with fail; refine (cs _).mono ?_; rintro e w1 ⟨rfl, rfl⟩
          go_wp2_with fail
          go_ret
          exact ⟨ret_b HRF.out.symm, HB1.out⟩
        · have HS := Lib.hid hs
          rw [hs] at cs
          clear hs
          go_wp2_with fail; refine (cs _).mono ?_; rintro e w1 ⟨rfl, rfl⟩
          go_wp2_with fail
          go_roundw
          case rel => exact ⟨k + 1, by omega, by go_num, by rw [HT.out, HAL.out, HS.out]; rfl, trivial⟩
          case measure => simp [intOf]; omega
      · have ek : k = incs.length := by omega
        subst ek
        have hal := HAL.out
        rw [List.take_length] at hal
        have HR := Lib.hid (HR2'.out hal)
        clear HR2' HR3 HAL hal
        go_wp2_with fail
        go_loopw [4, 5, 6, 7, 8] (fun ix _ _ _ _ wr => ∃ k : Nat, k ≤ l.length ∧ ix = .int .i64 k ∧ ordU l k = true ∧ memU mem incs l k = true ∧ Below W.heap.size W wr) (fun ix _ _ _ _ _ => l.length - (intOf ix).toNat)
        case atStart => exact ⟨0, by omega, rfl, rfl, rfl, HG1.out⟩
        case round =>
          obtain ⟨k, hk, rfl, ho, hu, hbr⟩ := hrel
          have HBR := Lib.hid hbr; clear hbr y0 y1 y2 y3 y4
          obtain ⟨y0, y1, y2, y3, y4⟩ := (HE.out.on HBR.out).cells
          by_cases hlt : k < l.length
          · obtain ⟨m, hm⟩ : ∃ m, l[k]? = some m := ⟨_, List.getElem?_eq_getElem hlt⟩
            obtain ⟨ad, rfl, had, hcc⟩ := HMW.out.below HBR.out (Nat.le_refl _) (by omega)
            have hck := hcc k m hm
            have HBAD := Lib.hid (ref_bad (incs := incs) (mem := mem) hm (by omega) hu)
            have HGOOD := Lib.hid (ref_good (incs := incs) (mem := mem) hm ho hu)
            have hmd := HD.out m (List.mem_of_getElem? hm)
            have cr := fun W' => refRightM_any m hmd W'
            have clp := fun W' => refLessM_any (l.getD (k - 1) zeroM) m W'
            have hbn := Joins.below_alloc1 wr (.cells (mc m) 36)
            have hM1 : MsgAt (wr.alloc (.cells (mc m) 36)) wr.heap.size m := heap_alloc_new wr _
            have hB1 := HBR.out.trans (hbn.mono HBR.out.size)
            have HMM := Lib.hid hm; clear hm
            have HM1 := Lib.hid hM1; clear hM1 hcc
            have HB2 := Lib.hid hB1; clear hB1 hbn
            obtain ⟨me, mn, ms, mi, mq, mu, md⟩ := m
            simp only [mc] at *
            obtain ⟨a0, a1, a2, a3, a4, a5, a6⟩ := hck
            simp only at a0 a1 a2 a3 a4 a5 a6
            go_upto_region 12 with (fail)
            generalize wr.alloc (.cells #[.bool me, .int .i64 mn, .int .i64 ms, .int .i64 mi, .int .i64 mq, .int .i64 mu, .string md] 36) = W1 at *
            generalize wr.heap.size = g at *
            clear a0 a1 a2 a3 a4 a5 a6 y0 y1 y2 y3 y4
            obtain ⟨_, x0, x1, x2, x3, x4, x5, x6⟩ := Holds.of_blk HM1.out
            simp only at x0 x1 x2 x3 x4 x5 x6
            obtain ⟨y0, y1, y2, y3, y4⟩ := (HE.out.on HB2.out).cells
            go_wp2_with fail; refine (CI.out ms _ HB2.out).mono ?_; rintro e w2 ⟨rfl, b2⟩
            have HB3 := Lib.hid (HB2.out.trans (b2.mono HB2.out.size))
            have HM2 := Lib.hid (HM1.out.on b2)
            clear b2 x0 x1 x2 x3 x4 x5 x6 y0 y1 y2 y3 y4 HB2 HM1
            go_wp2_with fail
            have QW : Hid (IntKind.i64.wrap ((k : Int) - 1) = (k : Int) - 1) := Lib.hid (IntWalk.i64_in _ (by omega))
            have QI : Hid (0 < k → (0 : Int) ≤ (k : Int) - 1 ∧ (k : Int) - 1 < l.length) := Lib.hid (by omega)
            have hmr := HMW.out.below HB3.out (Nat.le_refl _)
            obtain ⟨ad', ead, had2, hcc2⟩ := hmr (by omega)
            obtain rfl : ad = ad' := Option.some.inj ead
            have HPV : Hid (0 < k → ∀ wx', Below w2.heap.size w2 wx' → At7 wx' (ad.add ((k - 1) * 7)) (l.getD (k - 1) zeroM)) := Lib.hid (by
              intro hk0 wx' hb'
              have hj : l[k - 1]? = some l[k - 1] := List.getElem?_eq_getElem (by omega)
              have h7 := hcc2 (k - 1) _ hj
              rw [getD_at hj]
              exact h7.keep fun q hq => hb'.cell (by rw [hq, adb]; have := HB3.out.size; omega))
            clear hmr ead hcc2
            generalize hPP : l.getD (k - 1) zeroM = p at *
            have HV : ∃ Vp : Nat → (Nat → Value) → World → Prop, Vp = (fun ix u wv => match ix with
              | 0 => u 0 = .agg #[.bool me, .int .i64 mn, .int .i64 ms, .int .i64 mi, .int .i64 mq, .int .i64 mu, .string md]
              | 1 => u 1 = .bool (rightM ⟨me, mn, ms, mi, mq, mu, md⟩)
              | 2 => u 2 = .bool (!((rightM ⟨me, mn, ms, mi, mq, mu, md⟩)))
              | 3 => u 3 = .bool (!((rightM ⟨me, mn, ms, mi, mq, mu, md⟩)))
              | 4 => u 4 = if (!((!((rightM ⟨me, mn, ms, mi, mq, mu, md⟩))))) = true then .bool (isE mem incs ms) else undef
              | 5 => u 5 = if (!((!((rightM ⟨me, mn, ms, mi, mq, mu, md⟩))))) = true then .bool (!((isE mem incs ms))) else undef
              | 6 => u 6 = .bool ((!((rightM ⟨me, mn, ms, mi, mq, mu, md⟩))) || (!((isE mem incs ms))))
              | 7 => u 7 = .bool ((!((rightM ⟨me, mn, ms, mi, mq, mu, md⟩))) || (!((isE mem incs ms))))
              | 8 => u 8 = if (!(((!((rightM ⟨me, mn, ms, mi, mq, mu, md⟩))) || (!((isE mem incs ms)))))) = true then .int .i64 (incE mem incs ms) else undef
              | 9 => u 9 = if (!(((!((rightM ⟨me, mn, ms, mi, mq, mu, md⟩))) || (!((isE mem incs ms)))))) = true then .pointer (some ⟨g, 3, none⟩) else undef
              | 10 => u 10 = if (!(((!((rightM ⟨me, mn, ms, mi, mq, mu, md⟩))) || (!((isE mem incs ms)))))) = true then .int .i64 mi else undef
              | 11 => u 11 = if (!(((!((rightM ⟨me, mn, ms, mi, mq, mu, md⟩))) || (!((isE mem incs ms)))))) = true then .bool ((incE mem incs ms) != mi) else undef
              | 12 => u 12 = .bool (((!((rightM ⟨me, mn, ms, mi, mq, mu, md⟩))) || (!((isE mem incs ms)))) || ((incE mem incs ms) != mi))
              | 13 => u 13 = .bool (((!((rightM ⟨me, mn, ms, mi, mq, mu, md⟩))) || (!((isE mem incs ms)))) || ((incE mem incs ms) != mi))
              | 14 => u 14 = if (!((((!((rightM ⟨me, mn, ms, mi, mq, mu, md⟩))) || (!((isE mem incs ms)))) || ((incE mem incs ms) != mi)))) = true then .int .i64 (k : Int) else undef
              | 15 => u 15 = if (!((((!((rightM ⟨me, mn, ms, mi, mq, mu, md⟩))) || (!((isE mem incs ms)))) || ((incE mem incs ms) != mi)))) = true then .bool (decide (0 < k)) else undef
              | 16 => u 16 = if (!((((!((rightM ⟨me, mn, ms, mi, mq, mu, md⟩))) || (!((isE mem incs ms)))) || ((incE mem incs ms) != mi)))) = true then .bool (decide (0 < k)) else undef
              | 17 => u 17 = if ((!((((!((rightM ⟨me, mn, ms, mi, mq, mu, md⟩))) || (!((isE mem incs ms)))) || ((incE mem incs ms) != mi)))) && (decide (0 < k))) = true then .pointer (some ⟨b, 4, none⟩) else undef
              | 18 => u 18 = if ((!((((!((rightM ⟨me, mn, ms, mi, mq, mu, md⟩))) || (!((isE mem incs ms)))) || ((incE mem incs ms) != mi)))) && (decide (0 < k))) = true then .slice (some ad) l.length c' else undef
              | 19 => u 19 = if ((!((((!((rightM ⟨me, mn, ms, mi, mq, mu, md⟩))) || (!((isE mem incs ms)))) || ((incE mem incs ms) != mi)))) && (decide (0 < k))) = true then .int .i64 (k : Int) else undef
              | 20 => u 20 = if ((!((((!((rightM ⟨me, mn, ms, mi, mq, mu, md⟩))) || (!((isE mem incs ms)))) || ((incE mem incs ms) != mi)))) && (decide (0 < k))) = true then .int .i64 ((k : Int) - 1) else undef
              | 21 => u 21 = if ((!((((!((rightM ⟨me, mn, ms, mi, mq, mu, md⟩))) || (!((isE mem incs ms)))) || ((incE mem incs ms) != mi)))) && (decide (0 < k))) = true then .pointer (some (ad.add ((k - 1) * 7))) else undef
              | 22 => u 22 = if ((!((((!((rightM ⟨me, mn, ms, mi, mq, mu, md⟩))) || (!((isE mem incs ms)))) || ((incE mem incs ms) != mi)))) && (decide (0 < k))) = true then .agg #[.bool p.ext, .int .i64 p.n, .int .i64 p.sender, .int .i64 p.inc, .int .i64 p.seq, .int .i64 p.number, .string p.data] else undef
              | 23 => u 23 = if ((!((((!((rightM ⟨me, mn, ms, mi, mq, mu, md⟩))) || (!((isE mem incs ms)))) || ((incE mem incs ms) != mi)))) && (decide (0 < k))) = true then .agg #[.bool me, .int .i64 mn, .int .i64 ms, .int .i64 mi, .int .i64 mq, .int .i64 mu, .string md] else undef
              | 24 => u 24 = if ((!((((!((rightM ⟨me, mn, ms, mi, mq, mu, md⟩))) || (!((isE mem incs ms)))) || ((incE mem incs ms) != mi)))) && (decide (0 < k))) = true then .bool (lessM p ⟨me, mn, ms, mi, mq, mu, md⟩) else undef
              | 25 => u 25 = if ((!((((!((rightM ⟨me, mn, ms, mi, mq, mu, md⟩))) || (!((isE mem incs ms)))) || ((incE mem incs ms) != mi)))) && (decide (0 < k))) = true then .bool (!((lessM p ⟨me, mn, ms, mi, mq, mu, md⟩))) else undef
              | 26 => u 26 = if (!((((!((rightM ⟨me, mn, ms, mi, mq, mu, md⟩))) || (!((isE mem incs ms)))) || ((incE mem incs ms) != mi)))) = true then .bool ((decide (0 < k)) && (!((lessM p ⟨me, mn, ms, mi, mq, mu, md⟩)))) else undef
              | 27 => u 27 = .bool ((((!((rightM ⟨me, mn, ms, mi, mq, mu, md⟩))) || (!((isE mem incs ms)))) || ((incE mem incs ms) != mi)) || ((decide (0 < k)) && (!((lessM p ⟨me, mn, ms, mi, mq, mu, md⟩)))))
              | _ => True) := ⟨_, rfl⟩
            obtain ⟨Vp, hVdef⟩ := HV
            have Vp0 : ∀ u wv, Vp 0 u wv = (u 0 = .agg #[.bool me, .int .i64 mn, .int .i64 ms, .int .i64 mi, .int .i64 mq, .int .i64 mu, .string md]) := fun u wv => by subst hVdef; rfl
            have Vp1 : ∀ u wv, Vp 1 u wv = (u 1 = .bool (rightM ⟨me, mn, ms, mi, mq, mu, md⟩)) := fun u wv => by subst hVdef; rfl
            have Vp2 : ∀ u wv, Vp 2 u wv = (u 2 = .bool (!((rightM ⟨me, mn, ms, mi, mq, mu, md⟩)))) := fun u wv => by subst hVdef; rfl
            have Vp3 : ∀ u wv, Vp 3 u wv = (u 3 = .bool (!((rightM ⟨me, mn, ms, mi, mq, mu, md⟩)))) := fun u wv => by subst hVdef; rfl
            have Vp4 : ∀ u wv, Vp 4 u wv = (u 4 = if (!((!((rightM ⟨me, mn, ms, mi, mq, mu, md⟩))))) = true then .bool (isE mem incs ms) else undef) := fun u wv => by subst hVdef; rfl
            have Vp5 : ∀ u wv, Vp 5 u wv = (u 5 = if (!((!((rightM ⟨me, mn, ms, mi, mq, mu, md⟩))))) = true then .bool (!((isE mem incs ms))) else undef) := fun u wv => by subst hVdef; rfl
            have Vp6 : ∀ u wv, Vp 6 u wv = (u 6 = .bool ((!((rightM ⟨me, mn, ms, mi, mq, mu, md⟩))) || (!((isE mem incs ms))))) := fun u wv => by subst hVdef; rfl
            have Vp7 : ∀ u wv, Vp 7 u wv = (u 7 = .bool ((!((rightM ⟨me, mn, ms, mi, mq, mu, md⟩))) || (!((isE mem incs ms))))) := fun u wv => by subst hVdef; rfl
            have Vp8 : ∀ u wv, Vp 8 u wv = (u 8 = if (!(((!((rightM ⟨me, mn, ms, mi, mq, mu, md⟩))) || (!((isE mem incs ms)))))) = true then .int .i64 (incE mem incs ms) else undef) := fun u wv => by subst hVdef; rfl
            have Vp9 : ∀ u wv, Vp 9 u wv = (u 9 = if (!(((!((rightM ⟨me, mn, ms, mi, mq, mu, md⟩))) || (!((isE mem incs ms)))))) = true then .pointer (some ⟨g, 3, none⟩) else undef) := fun u wv => by subst hVdef; rfl
            have Vp10 : ∀ u wv, Vp 10 u wv = (u 10 = if (!(((!((rightM ⟨me, mn, ms, mi, mq, mu, md⟩))) || (!((isE mem incs ms)))))) = true then .int .i64 mi else undef) := fun u wv => by subst hVdef; rfl
            have Vp11 : ∀ u wv, Vp 11 u wv = (u 11 = if (!(((!((rightM ⟨me, mn, ms, mi, mq, mu, md⟩))) || (!((isE mem incs ms)))))) = true then .bool ((incE mem incs ms) != mi) else undef) := fun u wv => by subst hVdef; rfl
            have Vp12 : ∀ u wv, Vp 12 u wv = (u 12 = .bool (((!((rightM ⟨me, mn, ms, mi, mq, mu, md⟩))) || (!((isE mem incs ms)))) || ((incE mem incs ms) != mi))) := fun u wv => by subst hVdef; rfl
            have Vp13 : ∀ u wv, Vp 13 u wv = (u 13 = .bool (((!((rightM ⟨me, mn, ms, mi, mq, mu, md⟩))) || (!((isE mem incs ms)))) || ((incE mem incs ms) != mi))) := fun u wv => by subst hVdef; rfl
            have Vp14 : ∀ u wv, Vp 14 u wv = (u 14 = if (!((((!((rightM ⟨me, mn, ms, mi, mq, mu, md⟩))) || (!((isE mem incs ms)))) || ((incE mem incs ms) != mi)))) = true then .int .i64 (k : Int) else undef) := fun u wv => by subst hVdef; rfl
            have Vp15 : ∀ u wv, Vp 15 u wv = (u 15 = if (!((((!((rightM ⟨me, mn, ms, mi, mq, mu, md⟩))) || (!((isE mem incs ms)))) || ((incE mem incs ms) != mi)))) = true then .bool (decide (0 < k)) else undef) := fun u wv => by subst hVdef; rfl
            have Vp16 : ∀ u wv, Vp 16 u wv = (u 16 = if (!((((!((rightM ⟨me, mn, ms, mi, mq, mu, md⟩))) || (!((isE mem incs ms)))) || ((incE mem incs ms) != mi)))) = true then .bool (decide (0 < k)) else undef) := fun u wv => by subst hVdef; rfl
            have Vp17 : ∀ u wv, Vp 17 u wv = (u 17 = if ((!((((!((rightM ⟨me, mn, ms, mi, mq, mu, md⟩))) || (!((isE mem incs ms)))) || ((incE mem incs ms) != mi)))) && (decide (0 < k))) = true then .pointer (some ⟨b, 4, none⟩) else undef) := fun u wv => by subst hVdef; rfl
            have Vp18 : ∀ u wv, Vp 18 u wv = (u 18 = if ((!((((!((rightM ⟨me, mn, ms, mi, mq, mu, md⟩))) || (!((isE mem incs ms)))) || ((incE mem incs ms) != mi)))) && (decide (0 < k))) = true then .slice (some ad) l.length c' else undef) := fun u wv => by subst hVdef; rfl
            have Vp19 : ∀ u wv, Vp 19 u wv = (u 19 = if ((!((((!((rightM ⟨me, mn, ms, mi, mq, mu, md⟩))) || (!((isE mem incs ms)))) || ((incE mem incs ms) != mi)))) && (decide (0 < k))) = true then .int .i64 (k : Int) else undef) := fun u wv => by subst hVdef; rfl
            have Vp20 : ∀ u wv, Vp 20 u wv = (u 20 = if ((!((((!((rightM ⟨me, mn, ms, mi, mq, mu, md⟩))) || (!((isE mem incs ms)))) || ((incE mem incs ms) != mi)))) && (decide (0 < k))) = true then .int .i64 ((k : Int) - 1) else undef) := fun u wv => by subst hVdef; rfl
            have Vp21 : ∀ u wv, Vp 21 u wv = (u 21 = if ((!((((!((rightM ⟨me, mn, ms, mi, mq, mu, md⟩))) || (!((isE mem incs ms)))) || ((incE mem incs ms) != mi)))) && (decide (0 < k))) = true then .pointer (some (ad.add ((k - 1) * 7))) else undef) := fun u wv => by subst hVdef; rfl
            have Vp22 : ∀ u wv, Vp 22 u wv = (u 22 = if ((!((((!((rightM ⟨me, mn, ms, mi, mq, mu, md⟩))) || (!((isE mem incs ms)))) || ((incE mem incs ms) != mi)))) && (decide (0 < k))) = true then .agg #[.bool p.ext, .int .i64 p.n, .int .i64 p.sender, .int .i64 p.inc, .int .i64 p.seq, .int .i64 p.number, .string p.data] else undef) := fun u wv => by subst hVdef; rfl
            have Vp23 : ∀ u wv, Vp 23 u wv = (u 23 = if ((!((((!((rightM ⟨me, mn, ms, mi, mq, mu, md⟩))) || (!((isE mem incs ms)))) || ((incE mem incs ms) != mi)))) && (decide (0 < k))) = true then .agg #[.bool me, .int .i64 mn, .int .i64 ms, .int .i64 mi, .int .i64 mq, .int .i64 mu, .string md] else undef) := fun u wv => by subst hVdef; rfl
            have Vp24 : ∀ u wv, Vp 24 u wv = (u 24 = if ((!((((!((rightM ⟨me, mn, ms, mi, mq, mu, md⟩))) || (!((isE mem incs ms)))) || ((incE mem incs ms) != mi)))) && (decide (0 < k))) = true then .bool (lessM p ⟨me, mn, ms, mi, mq, mu, md⟩) else undef) := fun u wv => by subst hVdef; rfl
            have Vp25 : ∀ u wv, Vp 25 u wv = (u 25 = if ((!((((!((rightM ⟨me, mn, ms, mi, mq, mu, md⟩))) || (!((isE mem incs ms)))) || ((incE mem incs ms) != mi)))) && (decide (0 < k))) = true then .bool (!((lessM p ⟨me, mn, ms, mi, mq, mu, md⟩))) else undef) := fun u wv => by subst hVdef; rfl
            have Vp26 : ∀ u wv, Vp 26 u wv = (u 26 = if (!((((!((rightM ⟨me, mn, ms, mi, mq, mu, md⟩))) || (!((isE mem incs ms)))) || ((incE mem incs ms) != mi)))) = true then .bool ((decide (0 < k)) && (!((lessM p ⟨me, mn, ms, mi, mq, mu, md⟩)))) else undef) := fun u wv => by subst hVdef; rfl
            have Vp27 : ∀ u wv, Vp 27 u wv = (u 27 = .bool ((((!((rightM ⟨me, mn, ms, mi, mq, mu, md⟩))) || (!((isE mem incs ms)))) || ((incE mem incs ms) != mi)) || ((decide (0 < k)) && (!((lessM p ⟨me, mn, ms, mi, mq, mu, md⟩)))))) := fun u wv => by subst hVdef; rfl
            have HVD := Lib.hid hVdef
            clear hVdef
            refine region_each (V := Vp) (drop := fun _ _ => false) (G := fun wv => Below w2.heap.size w2 wv) (Rel := fun jx wv wv' => Below wv.heap.size wv wv') (by kernel_rfl) (by kernel_rfl) (Below.refl _ _).drew ?hmonoc2 ?hdepc2 ⟨?s0_c2, ?s1_c2, ?s2_c2, ?s3_c2, ?s4_c2, ?s5_c2, ?s6_c2, ?s7_c2, ?s8_c2, ?s9_c2, ?s10_c2, ?s11_c2, ?s12_c2, ?s13_c2, ?s14_c2, ?s15_c2, ?s16_c2, ?s17_c2, ?s18_c2, ?s19_c2, ?s20_c2, ?s21_c2, ?s22_c2, ?s23_c2, ?s24_c2, ?s25_c2, ?s26_c2, ?s27_c2, trivial⟩ ?behindc2
            case hmonoc2 =>
              intro ix jx u wv wv' hij hw hd hr
              rw [HVD.out]
              dsimp only
              split <;> intro h <;> first | exact trivial | exact h
            case hdepc2 =>
              intro ix u u' wv h1 h2
              rw [HVD.out]
              dsimp only
              split <;> intro h <;> first | exact trivial | (rw [← h1]; exact h)
            case s0_c2 =>
              refine owe rfl fun a wx val hG hV hN hO K hK => ?_
              have e5 : a.tmps[5]? = some (.pointer (some ⟨g, 0, none⟩)) := (hO 5 (by kernel_rfl)).trans (by rfl)
              clear hV hN hO
              obtain ⟨_, x0, x1, x2, x3, x4, x5, x6⟩ := Holds.of_blk (HM2.out.on hG)
              simp only at x0 x1 x2 x3 x4 x5 x6
              obtain ⟨y0, y1, y2, y3, y4⟩ := (HE.out.on (HB3.out.trans (hG.mono HB3.out.size))).cells
              go_simp
              exact hK.out _ _ (by rw [Vp0, upd_at] <;> (congr 1 <;> omega)) (Below.refl _ _) hG
            case s1_c2 =>
              refine owe rfl fun a wx val hG hV hN hO K hK => ?_
              have e71 := hN 0 71 (by kernel_rfl) (by kernel_rfl) (by simp)
              have f71 := hV 0 (by kernel_rfl) (by kernel_rfl)
              rw [Vp0] at f71; rw [f71] at e71; clear f71
              clear hV hN hO
              go_simp
              refine (cr _).mono ?_
              rintro e w11 ⟨rfl, hb⟩
              exact hK.out _ _ (by rw [Vp1, upd_at]) hb (hG.trans (hb.mono hG.size))
            case s2_c2 =>
              refine owe rfl fun a wx val hG hV hN hO K hK => ?_
              have e72 := hN 1 72 (by kernel_rfl) (by kernel_rfl) (by simp)
              have f72 := hV 1 (by kernel_rfl) (by kernel_rfl)
              rw [Vp1] at f72; rw [f72] at e72; clear f72
              clear hV hN hO
              go_simp
              exact hK.out _ _ (by rw [Vp2, upd_at] <;> (congr 1 <;> omega)) (Below.refl _ _) hG
            case s3_c2 =>
              refine owe rfl fun a wx val hG hV hN hO K hK => ?_
              have e73 := hN 2 73 (by kernel_rfl) (by kernel_rfl) (by simp)
              have f73 := hV 2 (by kernel_rfl) (by kernel_rfl)
              rw [Vp2] at f73; rw [f73] at e73; clear f73
              clear hV hN hO
              go_simp
              exact hK.out _ _ (by rw [Vp3, upd_at] <;> (congr 1 <;> omega)) (Below.refl _ _) hG
            case s4_c2 =>
              refine owe_cond (g := 3) (t := 74) (b := false) (c := (!((rightM ⟨me, mn, ms, mi, mq, mu, md⟩)))) (d := true) ((!((!((rightM ⟨me, mn, ms, mi, mq, mu, md⟩)))))) (by first | rfl | simp) rfl (by kernel_rfl) (by kernel_rfl) (by kernel_rfl) (by simp) (fun val w h => by rw [Vp3] at h; first | exact h | simpa using h) (fun hd a wx val hG hV hN hO K hK => ?_) (fun hd val w => by rw [Vp4, upd_at, if_neg (by rw [hd]; decide)])
              have e7 : a.tmps[7]? = some (.bool (isE mem incs ms)) := (hO 7 (by kernel_rfl)).trans (by rfl)
              clear hV hN hO
              go_simp
              exact hK.out _ _ (by rw [Vp4, upd_at, if_pos hd] <;> (congr 1 <;> omega)) (Below.refl _ _) hG
            case s5_c2 =>
              refine owe_cond (g := 3) (t := 74) (b := false) (c := (!((rightM ⟨me, mn, ms, mi, mq, mu, md⟩)))) (d := true) ((!((!((rightM ⟨me, mn, ms, mi, mq, mu, md⟩)))))) (by first | rfl | simp) rfl (by kernel_rfl) (by kernel_rfl) (by kernel_rfl) (by simp) (fun val w h => by rw [Vp3] at h; first | exact h | simpa using h) (fun hd a wx val hG hV hN hO K hK => ?_) (fun hd val w => by rw [Vp5, upd_at, if_neg (by rw [hd]; decide)])
              have e75 := hN 4 75 (by kernel_rfl) (by kernel_rfl) (by simp)
              have f75 := hV 4 (by kernel_rfl) (by kernel_rfl)
              rw [Vp4] at f75; rw [f75] at e75; clear f75
              rw [if_pos hd] at e75
              clear hV hN hO
              go_simp
              exact hK.out _ _ (by rw [Vp5, upd_at, if_pos hd] <;> (congr 1 <;> omega)) (Below.refl _ _) hG
            case s6_c2 =>
              refine owe rfl fun a wx val hG hV hN hO K hK => ?_
              have e74 := hN 3 74 (by kernel_rfl) (by kernel_rfl) (by simp)
              have f74 := hV 3 (by kernel_rfl) (by kernel_rfl)
              rw [Vp3] at f74; rw [f74] at e74; clear f74
              have e76 := hN 5 76 (by kernel_rfl) (by kernel_rfl) (by simp)
              have f76 := hV 5 (by kernel_rfl) (by kernel_rfl)
              rw [Vp5] at f76; rw [f76] at e76; clear f76
              clear hV hN hO
              cases hcc : ((!((rightM ⟨me, mn, ms, mi, mq, mu, md⟩))))
              · rw [hcc] at e74
                rw [if_pos (by first | exact hcc | (rw [hcc]; rfl) | simp [hcc])] at e76
                go_simp
                exact hK.out _ _ (by rw [Vp6, upd_at] <;> simp [hcc]) (Below.refl _ _) hG
              · rw [hcc] at e74
                rw [if_neg (by first | (rw [hcc]; decide) | simp [hcc])] at e76
                go_simp
                exact hK.out _ _ (by rw [Vp6, upd_at] <;> simp [hcc]) (Below.refl _ _) hG
            case s7_c2 =>
              refine owe rfl fun a wx val hG hV hN hO K hK => ?_
              have e77 := hN 6 77 (by kernel_rfl) (by kernel_rfl) (by simp)
              have f77 := hV 6 (by kernel_rfl) (by kernel_rfl)
              rw [Vp6] at f77; rw [f77] at e77; clear f77
              clear hV hN hO
              go_simp
              exact hK.out _ _ (by rw [Vp7, upd_at] <;> (congr 1 <;> omega)) (Below.refl _ _) hG
            case s8_c2 =>
              refine owe_cond (g := 7) (t := 78) (b := false) (c := ((!((rightM ⟨me, mn, ms, mi, mq, mu, md⟩))) || (!((isE mem incs ms))))) (d := true) ((!(((!((rightM ⟨me, mn, ms, mi, mq, mu, md⟩))) || (!((isE mem incs ms))))))) (by first | rfl | simp) rfl (by kernel_rfl) (by kernel_rfl) (by kernel_rfl) (by simp) (fun val w h => by rw [Vp7] at h; first | exact h | simpa using h) (fun hd a wx val hG hV hN hO K hK => ?_) (fun hd val w => by rw [Vp8, upd_at, if_neg (by rw [hd]; decide)])
              have e6 : a.tmps[6]? = some (.int .i64 (incE mem incs ms)) := (hO 6 (by kernel_rfl)).trans (by rfl)
              clear hV hN hO
              go_simp
              exact hK.out _ _ (by rw [Vp8, upd_at, if_pos hd] <;> (congr 1 <;> omega)) (Below.refl _ _) hG
            case s9_c2 =>
              refine owe_cond (g := 7) (t := 78) (b := false) (c := ((!((rightM ⟨me, mn, ms, mi, mq, mu, md⟩))) || (!((isE mem incs ms))))) (d := true) ((!(((!((rightM ⟨me, mn, ms, mi, mq, mu, md⟩))) || (!((isE mem incs ms))))))) (by first | rfl | simp) rfl (by kernel_rfl) (by kernel_rfl) (by kernel_rfl) (by simp) (fun val w h => by rw [Vp7] at h; first | exact h | simpa using h) (fun hd a wx val hG hV hN hO K hK => ?_) (fun hd val w => by rw [Vp9, upd_at, if_neg (by rw [hd]; decide)])
              have e5 : a.tmps[5]? = some (.pointer (some ⟨g, 0, none⟩)) := (hO 5 (by kernel_rfl)).trans (by rfl)
              clear hV hN hO
              go_simp
              exact hK.out _ _ (by rw [Vp9, upd_at, if_pos hd] <;> (congr 1 <;> omega)) (Below.refl _ _) hG
            case s10_c2 =>
              refine owe_cond (g := 7) (t := 78) (b := false) (c := ((!((rightM ⟨me, mn, ms, mi, mq, mu, md⟩))) || (!((isE mem incs ms))))) (d := true) ((!(((!((rightM ⟨me, mn, ms, mi, mq, mu, md⟩))) || (!((isE mem incs ms))))))) (by first | rfl | simp) rfl (by kernel_rfl) (by kernel_rfl) (by kernel_rfl) (by simp) (fun val w h => by rw [Vp7] at h; first | exact h | simpa using h) (fun hd a wx val hG hV hN hO K hK => ?_) (fun hd val w => by rw [Vp10, upd_at, if_neg (by rw [hd]; decide)])
              have e80 := hN 9 80 (by kernel_rfl) (by kernel_rfl) (by simp)
              have f80 := hV 9 (by kernel_rfl) (by kernel_rfl)
              rw [Vp9] at f80; rw [f80] at e80; clear f80
              rw [if_pos hd] at e80
              clear hV hN hO
              obtain ⟨_, x0, x1, x2, x3, x4, x5, x6⟩ := Holds.of_blk (HM2.out.on hG)
              simp only at x0 x1 x2 x3 x4 x5 x6
              obtain ⟨y0, y1, y2, y3, y4⟩ := (HE.out.on (HB3.out.trans (hG.mono HB3.out.size))).cells
              go_simp
              exact hK.out _ _ (by rw [Vp10, upd_at, if_pos hd] <;> (congr 1 <;> omega)) (Below.refl _ _) hG
            case s11_c2 =>
              refine owe_cond (g := 7) (t := 78) (b := false) (c := ((!((rightM ⟨me, mn, ms, mi, mq, mu, md⟩))) || (!((isE mem incs ms))))) (d := true) ((!(((!((rightM ⟨me, mn, ms, mi, mq, mu, md⟩))) || (!((isE mem incs ms))))))) (by first | rfl | simp) rfl (by kernel_rfl) (by kernel_rfl) (by kernel_rfl) (by simp) (fun val w h => by rw [Vp7] at h; first | exact h | simpa using h) (fun hd a wx val hG hV hN hO K hK => ?_) (fun hd val w => by rw [Vp11, upd_at, if_neg (by rw [hd]; decide)])
              have e79 := hN 8 79 (by kernel_rfl) (by kernel_rfl) (by simp)
              have f79 := hV 8 (by kernel_rfl) (by kernel_rfl)
              rw [Vp8] at f79; rw [f79] at e79; clear f79
              rw [if_pos hd] at e79
              have e81 := hN 10 81 (by kernel_rfl) (by kernel_rfl) (by simp)
              have f81 := hV 10 (by kernel_rfl) (by kernel_rfl)
              rw [Vp10] at f81; rw [f81] at e81; clear f81
              rw [if_pos hd] at e81
              clear hV hN hO
              go_simp
              exact hK.out _ _ (by rw [Vp11, upd_at, if_pos hd] <;> (congr 1 <;> omega)) (Below.refl _ _) hG
            case s12_c2 =>
              refine owe rfl fun a wx val hG hV hN hO K hK => ?_
              have e78 := hN 7 78 (by kernel_rfl) (by kernel_rfl) (by simp)
              have f78 := hV 7 (by kernel_rfl) (by kernel_rfl)
              rw [Vp7] at f78; rw [f78] at e78; clear f78
              have e82 := hN 11 82 (by kernel_rfl) (by kernel_rfl) (by simp)
              have f82 := hV 11 (by kernel_rfl) (by kernel_rfl)
              rw [Vp11] at f82; rw [f82] at e82; clear f82
              clear hV hN hO
              cases hcc : (((!((rightM ⟨me, mn, ms, mi, mq, mu, md⟩))) || (!((isE mem incs ms)))))
              · rw [hcc] at e78
                rw [if_pos (by first | exact hcc | (rw [hcc]; rfl) | simp [hcc])] at e82
                go_simp
                exact hK.out _ _ (by rw [Vp12, upd_at] <;> simp [hcc]) (Below.refl _ _) hG
              · rw [hcc] at e78
                rw [if_neg (by first | (rw [hcc]; decide) | simp [hcc])] at e82
                go_simp
                exact hK.out _ _ (by rw [Vp12, upd_at] <;> simp [hcc]) (Below.refl _ _) hG
            case s13_c2 =>
              refine owe rfl fun a wx val hG hV hN hO K hK => ?_
              have e83 := hN 12 83 (by kernel_rfl) (by kernel_rfl) (by simp)
              have f83 := hV 12 (by kernel_rfl) (by kernel_rfl)
              rw [Vp12] at f83; rw [f83] at e83; clear f83
              clear hV hN hO
              go_simp
              exact hK.out _ _ (by rw [Vp13, upd_at] <;> (congr 1 <;> omega)) (Below.refl _ _) hG
            case s14_c2 =>
              refine owe_cond (g := 13) (t := 84) (b := false) (c := (((!((rightM ⟨me, mn, ms, mi, mq, mu, md⟩))) || (!((isE mem incs ms)))) || ((incE mem incs ms) != mi))) (d := true) ((!((((!((rightM ⟨me, mn, ms, mi, mq, mu, md⟩))) || (!((isE mem incs ms)))) || ((incE mem incs ms) != mi))))) (by first | rfl | simp) rfl (by kernel_rfl) (by kernel_rfl) (by kernel_rfl) (by simp) (fun val w h => by rw [Vp13] at h; first | exact h | simpa using h) (fun hd a wx val hG hV hN hO K hK => ?_) (fun hd val w => by rw [Vp14, upd_at, if_neg (by rw [hd]; decide)])
              have e4 : a.tmps[4]? = some (.int .i64 (k : Int)) := (hO 4 (by kernel_rfl)).trans (by rfl)
              clear hV hN hO
              go_simp
              exact hK.out _ _ (by rw [Vp14, upd_at, if_pos hd] <;> (congr 1 <;> omega)) (Below.refl _ _) hG
            case s15_c2 =>
              refine owe_cond (g := 13) (t := 84) (b := false) (c := (((!((rightM ⟨me, mn, ms, mi, mq, mu, md⟩))) || (!((isE mem incs ms)))) || ((incE mem incs ms) != mi))) (d := true) ((!((((!((rightM ⟨me, mn, ms, mi, mq, mu, md⟩))) || (!((isE mem incs ms)))) || ((incE mem incs ms) != mi))))) (by first | rfl | simp) rfl (by kernel_rfl) (by kernel_rfl) (by kernel_rfl) (by simp) (fun val w h => by rw [Vp13] at h; first | exact h | simpa using h) (fun hd a wx val hG hV hN hO K hK => ?_) (fun hd val w => by rw [Vp15, upd_at, if_neg (by rw [hd]; decide)])
              have e85 := hN 14 85 (by kernel_rfl) (by kernel_rfl) (by simp)
              have f85 := hV 14 (by kernel_rfl) (by kernel_rfl)
              rw [Vp14] at f85; rw [f85] at e85; clear f85
              rw [if_pos hd] at e85
              clear hV hN hO
              go_simp
              exact hK.out _ _ (by rw [Vp15, upd_at, if_pos hd] <;> (congr 1 <;> omega)) (Below.refl _ _) hG
            case s16_c2 =>
              refine owe_cond (g := 13) (t := 84) (b := false) (c := (((!((rightM ⟨me, mn, ms, mi, mq, mu, md⟩))) || (!((isE mem incs ms)))) || ((incE mem incs ms) != mi))) (d := true) ((!((((!((rightM ⟨me, mn, ms, mi, mq, mu, md⟩))) || (!((isE mem incs ms)))) || ((incE mem incs ms) != mi))))) (by first | rfl | simp) rfl (by kernel_rfl) (by kernel_rfl) (by kernel_rfl) (by simp) (fun val w h => by rw [Vp13] at h; first | exact h | simpa using h) (fun hd a wx val hG hV hN hO K hK => ?_) (fun hd val w => by rw [Vp16, upd_at, if_neg (by rw [hd]; decide)])
              have e86 := hN 15 86 (by kernel_rfl) (by kernel_rfl) (by simp)
              have f86 := hV 15 (by kernel_rfl) (by kernel_rfl)
              rw [Vp15] at f86; rw [f86] at e86; clear f86
              rw [if_pos hd] at e86
              clear hV hN hO
              go_simp
              exact hK.out _ _ (by rw [Vp16, upd_at, if_pos hd] <;> (congr 1 <;> omega)) (Below.refl _ _) hG
            case s17_c2 =>
              refine owe_cond (g := 16) (t := 87) (b := true) (c := (decide (0 < k))) (d := (!((((!((rightM ⟨me, mn, ms, mi, mq, mu, md⟩))) || (!((isE mem incs ms)))) || ((incE mem incs ms) != mi))))) (((!((((!((rightM ⟨me, mn, ms, mi, mq, mu, md⟩))) || (!((isE mem incs ms)))) || ((incE mem incs ms) != mi)))) && (decide (0 < k)))) (by first | rfl | simp) rfl (by kernel_rfl) (by kernel_rfl) (by kernel_rfl) (by simp) (fun val w h => by rw [Vp16] at h; first | exact h | simpa using h) (fun hd a wx val hG hV hN hO K hK => ?_) (fun hd val w => by rw [Vp17, upd_at, if_neg (by rw [hd]; decide)])
              have e1 : a.tmps[1]? = some (.pointer (some ⟨b, 0, none⟩)) := (hO 1 (by kernel_rfl)).trans (by rfl)
              clear hV hN hO
              go_simp
              exact hK.out _ _ (by rw [Vp17, upd_at, if_pos hd] <;> (congr 1 <;> omega)) (Below.refl _ _) hG
            case s18_c2 =>
              refine owe_cond (g := 16) (t := 87) (b := true) (c := (decide (0 < k))) (d := (!((((!((rightM ⟨me, mn, ms, mi, mq, mu, md⟩))) || (!((isE mem incs ms)))) || ((incE mem incs ms) != mi))))) (((!((((!((rightM ⟨me, mn, ms, mi, mq, mu, md⟩))) || (!((isE mem incs ms)))) || ((incE mem incs ms) != mi)))) && (decide (0 < k)))) (by first | rfl | simp) rfl (by kernel_rfl) (by kernel_rfl) (by kernel_rfl) (by simp) (fun val w h => by rw [Vp16] at h; first | exact h | simpa using h) (fun hd a wx val hG hV hN hO K hK => ?_) (fun hd val w => by rw [Vp18, upd_at, if_neg (by rw [hd]; decide)])
              have e88 := hN 17 88 (by kernel_rfl) (by kernel_rfl) (by simp)
              have f88 := hV 17 (by kernel_rfl) (by kernel_rfl)
              rw [Vp17] at f88; rw [f88] at e88; clear f88
              rw [if_pos hd] at e88
              clear hV hN hO
              obtain ⟨_, x0, x1, x2, x3, x4, x5, x6⟩ := Holds.of_blk (HM2.out.on hG)
              simp only at x0 x1 x2 x3 x4 x5 x6
              obtain ⟨y0, y1, y2, y3, y4⟩ := (HE.out.on (HB3.out.trans (hG.mono HB3.out.size))).cells
              go_simp
              exact hK.out _ _ (by rw [Vp18, upd_at, if_pos hd] <;> (congr 1 <;> omega)) (Below.refl _ _) hG
            case s19_c2 =>
              refine owe_cond (g := 16) (t := 87) (b := true) (c := (decide (0 < k))) (d := (!((((!((rightM ⟨me, mn, ms, mi, mq, mu, md⟩))) || (!((isE mem incs ms)))) || ((incE mem incs ms) != mi))))) (((!((((!((rightM ⟨me, mn, ms, mi, mq, mu, md⟩))) || (!((isE mem incs ms)))) || ((incE mem incs ms) != mi)))) && (decide (0 < k)))) (by first | rfl | simp) rfl (by kernel_rfl) (by kernel_rfl) (by kernel_rfl) (by simp) (fun val w h => by rw [Vp16] at h; first | exact h | simpa using h) (fun hd a wx val hG hV hN hO K hK => ?_) (fun hd val w => by rw [Vp19, upd_at, if_neg (by rw [hd]; decide)])
              have e4 : a.tmps[4]? = some (.int .i64 (k : Int)) := (hO 4 (by kernel_rfl)).trans (by rfl)
              clear hV hN hO
              go_simp
              exact hK.out _ _ (by rw [Vp19, upd_at, if_pos hd] <;> (congr 1 <;> omega)) (Below.refl _ _) hG
            case s20_c2 =>
              refine owe_cond (g := 16) (t := 87) (b := true) (c := (decide (0 < k))) (d := (!((((!((rightM ⟨me, mn, ms, mi, mq, mu, md⟩))) || (!((isE mem incs ms)))) || ((incE mem incs ms) != mi))))) (((!((((!((rightM ⟨me, mn, ms, mi, mq, mu, md⟩))) || (!((isE mem incs ms)))) || ((incE mem incs ms) != mi)))) && (decide (0 < k)))) (by first | rfl | simp) rfl (by kernel_rfl) (by kernel_rfl) (by kernel_rfl) (by simp) (fun val w h => by rw [Vp16] at h; first | exact h | simpa using h) (fun hd a wx val hG hV hN hO K hK => ?_) (fun hd val w => by rw [Vp20, upd_at, if_neg (by rw [hd]; decide)])
              have e90 := hN 19 90 (by kernel_rfl) (by kernel_rfl) (by simp)
              have f90 := hV 19 (by kernel_rfl) (by kernel_rfl)
              rw [Vp19] at f90; rw [f90] at e90; clear f90
              rw [if_pos hd] at e90
              clear hV hN hO
              have q1 := QW.out
              go_simp
              exact hK.out _ _ (by rw [Vp20, upd_at, if_pos hd] <;> (congr 1 <;> omega)) (Below.refl _ _) hG
            case s21_c2 =>
              refine owe_cond (g := 16) (t := 87) (b := true) (c := (decide (0 < k))) (d := (!((((!((rightM ⟨me, mn, ms, mi, mq, mu, md⟩))) || (!((isE mem incs ms)))) || ((incE mem incs ms) != mi))))) (((!((((!((rightM ⟨me, mn, ms, mi, mq, mu, md⟩))) || (!((isE mem incs ms)))) || ((incE mem incs ms) != mi)))) && (decide (0 < k)))) (by first | rfl | simp) rfl (by kernel_rfl) (by kernel_rfl) (by kernel_rfl) (by simp) (fun val w h => by rw [Vp16] at h; first | exact h | simpa using h) (fun hd a wx val hG hV hN hO K hK => ?_) (fun hd val w => by rw [Vp21, upd_at, if_neg (by rw [hd]; decide)])
              have e89 := hN 18 89 (by kernel_rfl) (by kernel_rfl) (by simp)
              have f89 := hV 18 (by kernel_rfl) (by kernel_rfl)
              rw [Vp18] at f89; rw [f89] at e89; clear f89
              rw [if_pos hd] at e89
              have e91 := hN 20 91 (by kernel_rfl) (by kernel_rfl) (by simp)
              have f91 := hV 20 (by kernel_rfl) (by kernel_rfl)
              rw [Vp20] at f91; rw [f91] at e91; clear f91
              rw [if_pos hd] at e91
              clear hV hN hO
              have q0 : 0 < k := by (have h5 := hd; simp only [Bool.and_eq_true, decide_eq_true_iff] at h5; exact h5.2)
              obtain ⟨q1, q2⟩ := QI.out q0
              have q3 : (1 : Int) ≤ k := by omega
              go_simp
              exact hK.out _ _ (by rw [Vp21, upd_at, if_pos hd] <;> (congr 1 <;> omega)) (Below.refl _ _) hG
            case s22_c2 =>
              refine owe_cond (g := 16) (t := 87) (b := true) (c := (decide (0 < k))) (d := (!((((!((rightM ⟨me, mn, ms, mi, mq, mu, md⟩))) || (!((isE mem incs ms)))) || ((incE mem incs ms) != mi))))) (((!((((!((rightM ⟨me, mn, ms, mi, mq, mu, md⟩))) || (!((isE mem incs ms)))) || ((incE mem incs ms) != mi)))) && (decide (0 < k)))) (by first | rfl | simp) rfl (by kernel_rfl) (by kernel_rfl) (by kernel_rfl) (by simp) (fun val w h => by rw [Vp16] at h; first | exact h | simpa using h) (fun hd a wx val hG hV hN hO K hK => ?_) (fun hd val w => by rw [Vp22, upd_at, if_neg (by rw [hd]; decide)])
              have e92 := hN 21 92 (by kernel_rfl) (by kernel_rfl) (by simp)
              have f92 := hV 21 (by kernel_rfl) (by kernel_rfl)
              rw [Vp21] at f92; rw [f92] at e92; clear f92
              rw [if_pos hd] at e92
              clear hV hN hO
              have q0 : 0 < k := by (have h5 := hd; simp only [Bool.and_eq_true, decide_eq_true_iff] at h5; exact h5.2)
              obtain ⟨z0, z1, z2, z3, z4, z5, z6⟩ := HPV.out q0 _ hG
              obtain ⟨_, x0, x1, x2, x3, x4, x5, x6⟩ := Holds.of_blk (HM2.out.on hG)
              simp only at x0 x1 x2 x3 x4 x5 x6
              obtain ⟨y0, y1, y2, y3, y4⟩ := (HE.out.on (HB3.out.trans (hG.mono HB3.out.size))).cells
              go_simp
              exact hK.out _ _ (by rw [Vp22, upd_at, if_pos hd] <;> (congr 1 <;> omega)) (Below.refl _ _) hG
            case s23_c2 =>
              refine owe_cond (g := 16) (t := 87) (b := true) (c := (decide (0 < k))) (d := (!((((!((rightM ⟨me, mn, ms, mi, mq, mu, md⟩))) || (!((isE mem incs ms)))) || ((incE mem incs ms) != mi))))) (((!((((!((rightM ⟨me, mn, ms, mi, mq, mu, md⟩))) || (!((isE mem incs ms)))) || ((incE mem incs ms) != mi)))) && (decide (0 < k)))) (by first | rfl | simp) rfl (by kernel_rfl) (by kernel_rfl) (by kernel_rfl) (by simp) (fun val w h => by rw [Vp16] at h; first | exact h | simpa using h) (fun hd a wx val hG hV hN hO K hK => ?_) (fun hd val w => by rw [Vp23, upd_at, if_neg (by rw [hd]; decide)])
              have e5 : a.tmps[5]? = some (.pointer (some ⟨g, 0, none⟩)) := (hO 5 (by kernel_rfl)).trans (by rfl)
              clear hV hN hO
              obtain ⟨_, x0, x1, x2, x3, x4, x5, x6⟩ := Holds.of_blk (HM2.out.on hG)
              simp only at x0 x1 x2 x3 x4 x5 x6
              obtain ⟨y0, y1, y2, y3, y4⟩ := (HE.out.on (HB3.out.trans (hG.mono HB3.out.size))).cells
              go_simp
              exact hK.out _ _ (by rw [Vp23, upd_at, if_pos hd] <;> (congr 1 <;> omega)) (Below.refl _ _) hG
            case s24_c2 =>
              refine owe_cond (g := 16) (t := 87) (b := true) (c := (decide (0 < k))) (d := (!((((!((rightM ⟨me, mn, ms, mi, mq, mu, md⟩))) || (!((isE mem incs ms)))) || ((incE mem incs ms) != mi))))) (((!((((!((rightM ⟨me, mn, ms, mi, mq, mu, md⟩))) || (!((isE mem incs ms)))) || ((incE mem incs ms) != mi)))) && (decide (0 < k)))) (by first | rfl | simp) rfl (by kernel_rfl) (by kernel_rfl) (by kernel_rfl) (by simp) (fun val w h => by rw [Vp16] at h; first | exact h | simpa using h) (fun hd a wx val hG hV hN hO K hK => ?_) (fun hd val w => by rw [Vp24, upd_at, if_neg (by rw [hd]; decide)])
              have e93 := hN 22 93 (by kernel_rfl) (by kernel_rfl) (by simp)
              have f93 := hV 22 (by kernel_rfl) (by kernel_rfl)
              rw [Vp22] at f93; rw [f93] at e93; clear f93
              rw [if_pos hd] at e93
              have e94 := hN 23 94 (by kernel_rfl) (by kernel_rfl) (by simp)
              have f94 := hV 23 (by kernel_rfl) (by kernel_rfl)
              rw [Vp23] at f94; rw [f94] at e94; clear f94
              rw [if_pos hd] at e94
              clear hV hN hO
              go_simp
              refine (clp _).mono ?_
              rintro e w11 ⟨rfl, hb⟩
              exact hK.out _ _ (by rw [Vp24, upd_at, if_pos hd]) hb (hG.trans (hb.mono hG.size))
            case s25_c2 =>
              refine owe_cond (g := 16) (t := 87) (b := true) (c := (decide (0 < k))) (d := (!((((!((rightM ⟨me, mn, ms, mi, mq, mu, md⟩))) || (!((isE mem incs ms)))) || ((incE mem incs ms) != mi))))) (((!((((!((rightM ⟨me, mn, ms, mi, mq, mu, md⟩))) || (!((isE mem incs ms)))) || ((incE mem incs ms) != mi)))) && (decide (0 < k)))) (by first | rfl | simp) rfl (by kernel_rfl) (by kernel_rfl) (by kernel_rfl) (by simp) (fun val w h => by rw [Vp16] at h; first | exact h | simpa using h) (fun hd a wx val hG hV hN hO K hK => ?_) (fun hd val w => by rw [Vp25, upd_at, if_neg (by rw [hd]; decide)])
              have e95 := hN 24 95 (by kernel_rfl) (by kernel_rfl) (by simp)
              have f95 := hV 24 (by kernel_rfl) (by kernel_rfl)
              rw [Vp24] at f95; rw [f95] at e95; clear f95
              rw [if_pos hd] at e95
              clear hV hN hO
              go_simp
              exact hK.out _ _ (by rw [Vp25, upd_at, if_pos hd] <;> (congr 1 <;> omega)) (Below.refl _ _) hG
            case s26_c2 =>
              refine owe_cond (g := 13) (t := 84) (b := false) (c := (((!((rightM ⟨me, mn, ms, mi, mq, mu, md⟩))) || (!((isE mem incs ms)))) || ((incE mem incs ms) != mi))) (d := true) ((!((((!((rightM ⟨me, mn, ms, mi, mq, mu, md⟩))) || (!((isE mem incs ms)))) || ((incE mem incs ms) != mi))))) (by first | rfl | simp) rfl (by kernel_rfl) (by kernel_rfl) (by kernel_rfl) (by simp) (fun val w h => by rw [Vp13] at h; first | exact h | simpa using h) (fun hd a wx val hG hV hN hO K hK => ?_) (fun hd val w => by rw [Vp26, upd_at, if_neg (by rw [hd]; decide)])
              have e87 := hN 16 87 (by kernel_rfl) (by kernel_rfl) (by simp)
              have f87 := hV 16 (by kernel_rfl) (by kernel_rfl)
              rw [Vp16] at f87; rw [f87] at e87; clear f87
              have e96 := hN 25 96 (by kernel_rfl) (by kernel_rfl) (by simp)
              have f96 := hV 25 (by kernel_rfl) (by kernel_rfl)
              rw [Vp25] at f96; rw [f96] at e96; clear f96
              clear hV hN hO
              rw [if_pos hd] at e87
              cases hcc : ((decide (0 < k)))
              · rw [hcc] at e87
                rw [if_neg (by first | (rw [hcc]; decide) | simp [hcc])] at e96
                go_simp
                exact hK.out _ _ (by rw [Vp26, upd_at, if_pos hd] <;> simp [hcc]) (Below.refl _ _) hG
              · rw [hcc] at e87
                rw [if_pos (by first | exact hcc | (rw [hcc]; rfl) | simp [hcc, hd])] at e96
                go_simp
                exact hK.out _ _ (by rw [Vp26, upd_at, if_pos hd] <;> simp [hcc]) (Below.refl _ _) hG
            case s27_c2 =>
              refine owe rfl fun a wx val hG hV hN hO K hK => ?_
              have e84 := hN 13 84 (by kernel_rfl) (by kernel_rfl) (by simp)
              have f84 := hV 13 (by kernel_rfl) (by kernel_rfl)
              rw [Vp13] at f84; rw [f84] at e84; clear f84
              have e97 := hN 26 97 (by kernel_rfl) (by kernel_rfl) (by simp)
              have f97 := hV 26 (by kernel_rfl) (by kernel_rfl)
              rw [Vp26] at f97; rw [f97] at e97; clear f97
              clear hV hN hO
              cases hcc : ((((!((rightM ⟨me, mn, ms, mi, mq, mu, md⟩))) || (!((isE mem incs ms)))) || ((incE mem incs ms) != mi)))
              · rw [hcc] at e84
                rw [if_pos (by first | exact hcc | (rw [hcc]; rfl) | simp [hcc])] at e97
                go_simp
                exact hK.out _ _ (by rw [Vp27, upd_at] <;> simp [hcc]) (Below.refl _ _) hG
              · rw [hcc] at e84
                rw [if_neg (by first | (rw [hcc]; decide) | simp [hcc])] at e97
                go_simp
                exact hK.out _ _ (by rw [Vp27, upd_at] <;> simp [hcc]) (Below.refl _ _) hG
            intro val wx hG hV
            have f0 := hV 0 (by simp) (fun _ _ => by rfl)
            rw [Vp0] at f0
            have f1 := hV 1 (by simp) (fun _ _ => by rfl)
            rw [Vp1] at f1
            have f2 := hV 2 (by simp) (fun _ _ => by rfl)
            rw [Vp2] at f2
            have f3 := hV 3 (by simp) (fun _ _ => by rfl)
            rw [Vp3] at f3
            have f4 := hV 4 (by simp) (fun _ _ => by rfl)
            rw [Vp4] at f4
            have f5 := hV 5 (by simp) (fun _ _ => by rfl)
            rw [Vp5] at f5
            have f6 := hV 6 (by simp) (fun _ _ => by rfl)
            rw [Vp6] at f6
            have f7 := hV 7 (by simp) (fun _ _ => by rfl)
            rw [Vp7] at f7
            have f8 := hV 8 (by simp) (fun _ _ => by rfl)
            rw [Vp8] at f8
            have f9 := hV 9 (by simp) (fun _ _ => by rfl)
            rw [Vp9] at f9
            have f10 := hV 10 (by simp) (fun _ _ => by rfl)
            rw [Vp10] at f10
            have f11 := hV 11 (by simp) (fun _ _ => by rfl)
            rw [Vp11] at f11
            have f12 := hV 12 (by simp) (fun _ _ => by rfl)
            rw [Vp12] at f12
            have f13 := hV 13 (by simp) (fun _ _ => by rfl)
            rw [Vp13] at f13
            have f14 := hV 14 (by simp) (fun _ _ => by rfl)
            rw [Vp14] at f14
            have f15 := hV 15 (by simp) (fun _ _ => by rfl)
            rw [Vp15] at f15
            have f16 := hV 16 (by simp) (fun _ _ => by rfl)
            rw [Vp16] at f16
            have f17 := hV 17 (by simp) (fun _ _ => by rfl)
            rw [Vp17] at f17
            have f18 := hV 18 (by simp) (fun _ _ => by rfl)
            rw [Vp18] at f18
            have f19 := hV 19 (by simp) (fun _ _ => by rfl)
            rw [Vp19] at f19
            have f20 := hV 20 (by simp) (fun _ _ => by rfl)
            rw [Vp20] at f20
            have f21 := hV 21 (by simp) (fun _ _ => by rfl)
            rw [Vp21] at f21
            have f22 := hV 22 (by simp) (fun _ _ => by rfl)
            rw [Vp22] at f22
            have f23 := hV 23 (by simp) (fun _ _ => by rfl)
            rw [Vp23] at f23
            have f24 := hV 24 (by simp) (fun _ _ => by rfl)
            rw [Vp24] at f24
            have f25 := hV 25 (by simp) (fun _ _ => by rfl)
            rw [Vp25] at f25
            have f26 := hV 26 (by simp) (fun _ _ => by rfl)
            rw [Vp26] at f26
            have f27 := hV 27 (by simp) (fun _ _ => by rfl)
            rw [Vp27] at f27
            clear hV Vp0 Vp1 Vp2 Vp3 Vp4 Vp5 Vp6 Vp7 Vp8 Vp9 Vp10 Vp11 Vp12 Vp13 Vp14 Vp15 Vp16 Vp17 Vp18 Vp19 Vp20 Vp21 Vp22 Vp23 Vp24 Vp25 Vp26 Vp27
            simp only [putAll, Act.put, List.setIfInBounds_toArray, List.set_cons_zero, List.set_cons_succ]
            generalize val 0 = z0 at *; (subst f0)
            generalize val 1 = z1 at *; (subst f1)
            generalize val 2 = z2 at *; (subst f2)
            generalize val 3 = z3 at *; (subst f3)
            generalize val 4 = z4 at *; clear f4
            generalize val 5 = z5 at *; clear f5
            generalize val 6 = z6 at *; (subst f6)
            generalize val 7 = z7 at *; (subst f7)
            generalize val 8 = z8 at *; clear f8
            generalize val 9 = z9 at *; clear f9
            generalize val 10 = z10 at *; clear f10
            generalize val 11 = z11 at *; clear f11
            generalize val 12 = z12 at *; (subst f12)
            generalize val 13 = z13 at *; (subst f13)
            generalize val 14 = z14 at *; clear f14
            generalize val 15 = z15 at *; clear f15
            generalize val 16 = z16 at *; clear f16
            generalize val 17 = z17 at *; clear f17
            generalize val 18 = z18 at *; clear f18
            generalize val 19 = z19 at *; clear f19
            generalize val 20 = z20 at *; clear f20
            generalize val 21 = z21 at *; clear f21
            generalize val 22 = z22 at *; clear f22
            generalize val 23 = z23 at *; clear f23
            generalize val 24 = z24 at *; clear f24
            generalize val 25 = z25 at *; clear f25
            generalize val 26 = z26 at *; clear f26
            generalize val 27 = z27 at *; (subst f27)
            clear HVD
            have HB4 := Lib.hid (HB3.out.trans (hG.mono HB3.out.size))
            have HM4 := Lib.hid (HM2.out.on hG)
            clear hG HB3 HM2 HPV QI QW cr clp
            cases hB : ((((!(rightM ⟨me, mn, ms, mi, mq, mu, md⟩)) || (!(isE mem incs ms))) || ((incE mem incs ms) != mi)) || ((decide (0 < k)) && (!(lessM p ⟨me, mn, ms, mi, mq, mu, md⟩))))
            · obtain ⟨hgo, hgm⟩ := HGOOD.out hB
              have HGO := Lib.hid hgo
              have HGM := Lib.hid hgm
              clear hB hgo hgm HBAD HGOOD
              go_wp2_with fail
              go_loopw [8] (fun ix wr' => ∃ j n : Nat, j ≤ k ∧ ix = .int .i64 j ∧ ((l.take j).any fun x => decide (x.sender = ms)) = false ∧ wr' = wx.drewN n) (fun ix _ => k - (intOf ix).toNat)
              case atStart => exact ⟨0, 0, by omega, rfl, rfl, rfl⟩
              case round =>
                obtain ⟨j, nd, hj, rfl, hny, rfl⟩ := hrel
                have HNY := Lib.hid hny; clear hny
                have hbd := below_drewN (Below.refl wx.heap.size wx) nd
                have HBJ := Lib.hid (HB4.out.trans (hbd.mono HB4.out.size))
                clear hbd
                by_cases hjk : j < k
                · obtain ⟨q, hq⟩ : ∃ q, l[j]? = some q := ⟨_, List.getElem?_eq_getElem (by omega)⟩
                  obtain ⟨ad', ead, had3, hcc3⟩ := HMW.out.below HB4.out (Nat.le_refl _) (by omega)
                  obtain rfl : ad = ad' := Option.some.inj ead
                  obtain ⟨z0, z1, z2, z3, z4, z5, z6⟩ := hcc3 j q hq
                  obtain ⟨_, x0, x1, x2, x3, x4, x5, x6⟩ := Holds.of_blk HM4.out
                  simp only at x0 x1 x2 x3 x4 x5 x6
                  obtain ⟨y0, y1, y2, y3, y4⟩ := (HE.out.on HB4.out).cells
                  have HSN := Lib.hid (any_take_snoc hq ms)
                  have hj2 : (j : Int) < l.length := by omega
                  have hj0 : (0 : Int) ≤ j := by omega
                  have hj3 : (j : Int) < k := by omega
                  clear hcc3 ead hq
                  by_cases hss : q.sender = ms
                  · have hse : ((q.sender : Int) == ms) = true := by simpa using hss
                    have hany : ((l.take k).any fun x => decide (x.sender = ms)) = true := by
                      have h1 : ((l.take (j + 1)).any fun x => decide (x.sender = ms)) = true := by rw [HSN.out, decide_eq_true hss]; simp
                      rw [List.any_eq_true] at h1 ⊢
                      obtain ⟨x, hx1, hx2⟩ := h1
                      exact ⟨x, (List.take_subset_take_left l (show j + 1 ≤ k by omega)) hx1, hx2⟩
                    have HRF : Hid (R = false) := Lib.hid (by rw [HR.out, memU_false (k := k + 1) (by rw [HGM.out, hany]; rfl) (by omega)]; simp)
                    clear hss hany HSN
                    go_wp2_with fail
                    go_quiet (fail)
                    go_wp2_with fail
                    go_ret
                    exact ⟨ret_b HRF.out.symm, below_drewN (HB.out.trans (HBJ.out.mono HLE.out)) _⟩
                  · have hse : ((q.sender : Int) == ms) = false := by simpa using hss
                    have HSS := Lib.hid hss; clear hss
                    go_wp2_with fail
                    go_quiet (fail)
                    go_wp2_with fail
                    go_roundw
                    case rel => exact ⟨j + 1, nd + nq, by omega, by go_num, by rw [HSN.out, HNY.out, decide_eq_false HSS.out]; rfl, rfl⟩
                    case measure => simp [intOf]; omega
                · have ejk : j = k := by omega
                  subst ejk
                  have HMU : Hid (memU mem incs l (j + 1) = true) := Lib.hid (by rw [HGM.out, HNY.out]; rfl)
                  clear HGM HNY
                  go_wp2_with fail
                  go_roundw
                  case rel => exact ⟨j + 1, by omega, by go_num, HGO.out, HMU.out, HBJ.out⟩
                  case measure => simp [intOf]; omega
            · have HRF : Hid (R = false) := Lib.hid (by rw [HR.out]; exact HBAD.out hB)
              clear HBAD HGOOD hB
              go_wp2_with fail
              go_ret
              exact ⟨ret_b HRF.out.symm, HB.out.trans (HB4.out.mono HLE.out)⟩
          · have ek : k = l.length := by omega
            subst ek
            have HRF : Hid (R = true) := Lib.hid (by rw [HR.out, ho, hu]; rfl)
            clear ho hu
            go_wp2_with fail
            go_ret
            exact ⟨ret_b HRF.out.symm, HB.out.trans (HBR.out.mono HLE.out)⟩
  · have HRF := Lib.hid (HR1.out hB)
    clear HR1 HR2 HR3 hB
    go_wp2_with fail
    go_ret
    exact ⟨ret_b HRF.out.symm, HB1.out⟩

end Go.Proofs.YtlgaogghoehalaaDoor

namespace Go.Proofs.YtlgaogghoehalaaDoor
open Go.RowKit

set_option maxRecDepth 100000 in
theorem refTwo6_any (n : Int) (h0 : 0 ≤ n) (h1 : n ≤ 65535) (w : World) :
    Calls Tryd.prog 32 #[.int .i64 n] w fun e w' => e = .returned (.string (txt (twoL n))) ∧ Below w.heap.size w w' := by
  have h2 := two_bytes
  go_enter Tryd.func32, Tryd.ntmps32
  go_wp2_with fail
  go_ret
  refine ⟨congrArg (fun l => Ending.returned (.string (txt l))) ?_, Joins.below_alloc1 _ _⟩
  unfold twoL
  rw [octet_of _ (n / 256) (by omega) (by omega), octet_of _ n (by omega) (by omega)]

theorem twosL_take {l : List Int} {k : Nat} {n : Int} (h : l[k]? = some n) : twosL (l.take (k + 1)) = twosL (l.take k) ++ twoL n := by
  rw [List.take_add_one, h]
  exact twosL_snoc _ _
theorem catL_take {l : List Msg} {k : Nat} {m : Msg} (h : l[k]? = some m) : catL (l.take (k + 1)) = catL (l.take k) ++ encL m := by
  rw [List.take_add_one, h]
  exact catL_snoc _ _
theorem catL_take_le {l : List Msg} (h : ∀ m ∈ l, rightM m = true) (h16 : l.length ≤ 16) (k : Nat) : (catL (l.take k)).length ≤ 320 := by
  have := catL_length (l.take k) (fun m hm => h m (List.mem_of_mem_take hm))
  rw [List.length_take] at this
  omega
theorem smalls_mem {l : List Int} (h : l.all smallB = true) : ∀ n ∈ l, 1 ≤ n ∧ n ≤ 65535 := fun n hn => (smallB_iff n).1 (List.all_eq_true.1 h n hn)
theorem inc16 (l : List Int) (h : l.length ≤ 16) (k : Nat) : (twosL (l.take k)).length ≤ 32 := by
  rw [twosL_length, List.length_take]; omega

set_option maxRecDepth 100000 in
set_option maxHeartbeats 8000000 in
theorem refEncE_any (x : Ent) (A : Option Addr) (c : Nat) (A' : Option Addr) (c' : Nat) (w : World) (h : V.Row w w.heap.size A x.incs) (hM : Msgs w w.heap.size A' x.msgs) (hil : x.incs.length ≤ maxLen) (hl : x.msgs.length ≤ maxLen) (hd : ∀ m ∈ x.msgs, m.data.size ≤ maxLen) :
    Calls Tryd.prog 14 #[ev x.t x.ep x.mem (.slice A x.incs.length c) (.slice A' x.msgs.length c')] w fun e w' => e = .returned (.tuple #[.string (txt (encTE x)), .int .i64 (encEE x)]) ∧ Below w.heap.size w w' := by
  have b1 := Joins.below_alloc1 w (.cells #[.int .i64 x.t, .int .i64 x.ep, .int .i64 x.mem, .slice A x.incs.length c, .slice A' x.msgs.length c'] 27)
  have e1 := EntAt.new w x.t x.ep x.mem (.slice A x.incs.length c) (.slice A' x.msgs.length c')
  have r1 := (h.below b1 (Nat.le_refl _)).more b1.size
  have m1 := (hM.below b1 (Nat.le_refl _)).more b1.size
  have cr := rightER_any x A c A' c' _ r1 m1 hil hl hd
  have ni := hil
  have nl := hl
  unfold maxLen at ni nl
  generalize hg : w.heap.size = b at *
  cases hr : rightE x
  · rw [hr] at cr
    rw [show encTE x = [] by unfold encTE; rw [hr]; rfl, show encEE x = 1 by unfold encEE; rw [hr]; rfl]
    obtain ⟨t, ep, mem, incs, l⟩ := x
    simp only at *
    generalize hW : w.alloc (.cells #[.int .i64 t, .int .i64 ep, .int .i64 mem, .slice A incs.length c, .slice A' l.length c'] 27) = W at *
    obtain ⟨y0, y1, y2, y3, y4⟩ := e1.cells
    have HB := Lib.hid b1; clear b1 r1 m1 h hM hil hl hd hr
    go_enter Tryd.func14, Tryd.ntmps14
    go_wp2_with fail; refine cr.mono ?_; rintro e w1 ⟨rfl, b2⟩
    clear hW y0 y1 y2 y3 y4
    go_wp2_with fail
    go_ret2
    exact ⟨rfl, HB.out.trans (b2.mono (by have := HB.out.size; rw [hg] at this; exact this))⟩
  · rw [hr] at cr
    rw [show encTE x = encEnt x by unfold encTE; rw [hr]; rfl, show encEE x = 0 by unfold encEE; rw [hr]; rfl]
    have h16 := rightE_msgs hr
    have hi16 := rightE_incs hr
    have heach := rightE_each hr
    obtain ⟨ht, hep, hm0, hm1, -, hal, -, -⟩ := (rightE_iff x).1 hr
    have hsm := smalls_mem hal
    obtain ⟨T, hT⟩ : ∃ T, T = encEnt x := ⟨_, rfl⟩
    rw [← hT]
    unfold encEnt at hT
    obtain ⟨t, ep, mem, incs, l⟩ := x
    simp only at *
    generalize hW : w.alloc (.cells #[.int .i64 t, .int .i64 ep, .int .i64 mem, .slice A incs.length c, .slice A' l.length c'] 27) = W at *
    obtain ⟨y0, y1, y2, y3, y4⟩ := e1.cells
    have HE := Lib.hid e1; clear e1
    have HB := Lib.hid b1; clear b1
    have HRW := Lib.hid r1; clear r1
    have HMW := Lib.hid m1; clear m1 h hM hil hl
    have HT := Lib.hid hT; clear hT
    have T1 := Lib.hid (fun W' => refTwo6_any t (by omega) (by omega) W')
    have T2 := Lib.hid (fun W' => refTwo6_any ep (by omega) (by omega) W')
    have T3 := Lib.hid (fun W' => refTwo6_any mem hm0 hm1 W')
    have HSM := Lib.hid hsm; clear hsm hal
    have HEA := Lib.hid heach; clear heach
    have HD := Lib.hid hd; clear hd
    have AD1 := Lib.hid (add_txt (twoL t) (twoL ep) (twoL t ++ twoL ep) rfl (by simp [twoL]))
    have AD2 := Lib.hid (add_txt (twoL t ++ twoL ep) (twoL mem) (twosL [t, ep, mem]) rfl (by simp [twoL]))
    go_enter Tryd.func14, Tryd.ntmps14
    go_wp2_with fail; refine cr.mono ?_; rintro e w1 ⟨rfl, b2⟩
    clear hW y0 y1 y2 y3 y4
    have HLE : Hid (b ≤ W.heap.size) := Lib.hid (by have := HB.out.size; rw [hg] at this; exact this)
    have HG1 := Lib.hid b2; clear b2
    obtain ⟨y0, y1, y2, y3, y4⟩ := (HE.out.on HG1.out).cells
    go_wp2_with fail
    have HV : ∃ Vp : Nat → (Nat → Value) → World → Prop, Vp = (fun ix u wv => match ix with
      | 0 => u 0 = .pointer (some ⟨b, 0, none⟩)
      | 1 => u 1 = .int .i64 t
      | 2 => u 2 = .string (txt (twoL t))
      | 3 => u 3 = .pointer (some ⟨b, 1, none⟩)
      | 4 => u 4 = .int .i64 ep
      | 5 => u 5 = .string (txt (twoL ep))
      | 6 => u 6 = .string (txt (twoL t ++ twoL ep))
      | 7 => u 7 = .pointer (some ⟨b, 2, none⟩)
      | 8 => u 8 = .int .i64 mem
      | 9 => u 9 = .string (txt (twoL mem))
      | 10 => u 10 = .string (txt (twosL [t, ep, mem]))
      | 11 => u 11 = .string (txt (twosL [t, ep, mem]))
      | _ => True) := ⟨_, rfl⟩
    obtain ⟨Vp, hVdef⟩ := HV
    have Vp0 : ∀ u wv, Vp 0 u wv = (u 0 = .pointer (some ⟨b, 0, none⟩)) := fun u wv => by subst hVdef; rfl
    have Vp1 : ∀ u wv, Vp 1 u wv = (u 1 = .int .i64 t) := fun u wv => by subst hVdef; rfl
    have Vp2 : ∀ u wv, Vp 2 u wv = (u 2 = .string (txt (twoL t))) := fun u wv => by subst hVdef; rfl
    have Vp3 : ∀ u wv, Vp 3 u wv = (u 3 = .pointer (some ⟨b, 1, none⟩)) := fun u wv => by subst hVdef; rfl
    have Vp4 : ∀ u wv, Vp 4 u wv = (u 4 = .int .i64 ep) := fun u wv => by subst hVdef; rfl
    have Vp5 : ∀ u wv, Vp 5 u wv = (u 5 = .string (txt (twoL ep))) := fun u wv => by subst hVdef; rfl
    have Vp6 : ∀ u wv, Vp 6 u wv = (u 6 = .string (txt (twoL t ++ twoL ep))) := fun u wv => by subst hVdef; rfl
    have Vp7 : ∀ u wv, Vp 7 u wv = (u 7 = .pointer (some ⟨b, 2, none⟩)) := fun u wv => by subst hVdef; rfl
    have Vp8 : ∀ u wv, Vp 8 u wv = (u 8 = .int .i64 mem) := fun u wv => by subst hVdef; rfl
    have Vp9 : ∀ u wv, Vp 9 u wv = (u 9 = .string (txt (twoL mem))) := fun u wv => by subst hVdef; rfl
    have Vp10 : ∀ u wv, Vp 10 u wv = (u 10 = .string (txt (twosL [t, ep, mem]))) := fun u wv => by subst hVdef; rfl
    have Vp11 : ∀ u wv, Vp 11 u wv = (u 11 = .string (txt (twosL [t, ep, mem]))) := fun u wv => by subst hVdef; rfl
    have HVD := Lib.hid hVdef
    clear hVdef
    refine region_each (V := Vp) (drop := fun _ _ => false) (G := fun wv => Below w1.heap.size w1 wv) (Rel := fun jx wv wv' => Below wv.heap.size wv wv') (by kernel_rfl) (by kernel_rfl) (Below.refl _ _).drew ?hmonoc1 ?hdepc1 ⟨?s0_c1, ?s1_c1, ?s2_c1, ?s3_c1, ?s4_c1, ?s5_c1, ?s6_c1, ?s7_c1, ?s8_c1, ?s9_c1, ?s10_c1, ?s11_c1, trivial⟩ ?behindc1
    case hmonoc1 =>
      intro ix jx u wv wv' hij hw hd hr
      rw [HVD.out]
      dsimp only
      split <;> intro h <;> first | exact trivial | exact h
    case hdepc1 =>
      intro ix u u' wv h1 h2
      rw [HVD.out]
      dsimp only
      split <;> intro h <;> first | exact trivial | (rw [← h1]; exact h)
    case s0_c1 =>
      refine owe rfl fun a wx val hG hV hN hO K hK => ?_
      have e1 : a.tmps[1]? = some (.pointer (some ⟨b, 0, none⟩)) := (hO 1 (by kernel_rfl)).trans (by rfl)
      clear hV hN hO
      go_simp
      exact hK.out _ _ (by rw [Vp0, upd_at] <;> (congr 1 <;> omega)) (Below.refl _ _) hG
    case s1_c1 =>
      refine owe rfl fun a wx val hG hV hN hO K hK => ?_
      have e12 := hN 0 12 (by kernel_rfl) (by kernel_rfl) (by simp)
      have f12 := hV 0 (by kernel_rfl) (by kernel_rfl)
      rw [Vp0] at f12; rw [f12] at e12; clear f12
      clear hV hN hO
      obtain ⟨y0, y1, y2, y3, y4⟩ := (HE.out.on (HG1.out.trans (hG.mono HG1.out.size))).cells
      go_simp
      exact hK.out _ _ (by rw [Vp1, upd_at] <;> (congr 1 <;> omega)) (Below.refl _ _) hG
    case s2_c1 =>
      refine owe rfl fun a wx val hG hV hN hO K hK => ?_
      have e13 := hN 1 13 (by kernel_rfl) (by kernel_rfl) (by simp)
      have f13 := hV 1 (by kernel_rfl) (by kernel_rfl)
      rw [Vp1] at f13; rw [f13] at e13; clear f13
      clear hV hN hO
      go_simp
      refine (T1.out _).mono ?_
      rintro e w11 ⟨rfl, hb⟩
      exact hK.out _ _ (by rw [Vp2, upd_at]) hb (hG.trans (hb.mono hG.size))
    case s3_c1 =>
      refine owe rfl fun a wx val hG hV hN hO K hK => ?_
      have e1 : a.tmps[1]? = some (.pointer (some ⟨b, 0, none⟩)) := (hO 1 (by kernel_rfl)).trans (by rfl)
      clear hV hN hO
      go_simp
      exact hK.out _ _ (by rw [Vp3, upd_at] <;> (congr 1 <;> omega)) (Below.refl _ _) hG
    case s4_c1 =>
      refine owe rfl fun a wx val hG hV hN hO K hK => ?_
      have e15 := hN 3 15 (by kernel_rfl) (by kernel_rfl) (by simp)
      have f15 := hV 3 (by kernel_rfl) (by kernel_rfl)
      rw [Vp3] at f15; rw [f15] at e15; clear f15
      clear hV hN hO
      obtain ⟨y0, y1, y2, y3, y4⟩ := (HE.out.on (HG1.out.trans (hG.mono HG1.out.size))).cells
      go_simp
      exact hK.out _ _ (by rw [Vp4, upd_at] <;> (congr 1 <;> omega)) (Below.refl _ _) hG
    case s5_c1 =>
      refine owe rfl fun a wx val hG hV hN hO K hK => ?_
      have e16 := hN 4 16 (by kernel_rfl) (by kernel_rfl) (by simp)
      have f16 := hV 4 (by kernel_rfl) (by kernel_rfl)
      rw [Vp4] at f16; rw [f16] at e16; clear f16
      clear hV hN hO
      go_simp
      refine (T2.out _).mono ?_
      rintro e w11 ⟨rfl, hb⟩
      exact hK.out _ _ (by rw [Vp5, upd_at]) hb (hG.trans (hb.mono hG.size))
    case s6_c1 =>
      refine owe rfl fun a wx val hG hV hN hO K hK => ?_
      have e14 := hN 2 14 (by kernel_rfl) (by kernel_rfl) (by simp)
      have f14 := hV 2 (by kernel_rfl) (by kernel_rfl)
      rw [Vp2] at f14; rw [f14] at e14; clear f14
      have e17 := hN 5 17 (by kernel_rfl) (by kernel_rfl) (by simp)
      have f17 := hV 5 (by kernel_rfl) (by kernel_rfl)
      rw [Vp5] at f17; rw [f17] at e17; clear f17
      clear hV hN hO
      obtain ⟨q1, q2⟩ := AD1.out
      go_simp
      exact hK.out _ _ (by rw [Vp6, upd_at] <;> (congr 1 <;> omega)) (Below.refl _ _) hG
    case s7_c1 =>
      refine owe rfl fun a wx val hG hV hN hO K hK => ?_
      have e1 : a.tmps[1]? = some (.pointer (some ⟨b, 0, none⟩)) := (hO 1 (by kernel_rfl)).trans (by rfl)
      clear hV hN hO
      go_simp
      exact hK.out _ _ (by rw [Vp7, upd_at] <;> (congr 1 <;> omega)) (Below.refl _ _) hG
    case s8_c1 =>
      refine owe rfl fun a wx val hG hV hN hO K hK => ?_
      have e19 := hN 7 19 (by kernel_rfl) (by kernel_rfl) (by simp)
      have f19 := hV 7 (by kernel_rfl) (by kernel_rfl)
      rw [Vp7] at f19; rw [f19] at e19; clear f19
      clear hV hN hO
      obtain ⟨y0, y1, y2, y3, y4⟩ := (HE.out.on (HG1.out.trans (hG.mono HG1.out.size))).cells
      go_simp
      exact hK.out _ _ (by rw [Vp8, upd_at] <;> (congr 1 <;> omega)) (Below.refl _ _) hG
    case s9_c1 =>
      refine owe rfl fun a wx val hG hV hN hO K hK => ?_
      have e20 := hN 8 20 (by kernel_rfl) (by kernel_rfl) (by simp)
      have f20 := hV 8 (by kernel_rfl) (by kernel_rfl)
      rw [Vp8] at f20; rw [f20] at e20; clear f20
      clear hV hN hO
      go_simp
      refine (T3.out _).mono ?_
      rintro e w11 ⟨rfl, hb⟩
      exact hK.out _ _ (by rw [Vp9, upd_at]) hb (hG.trans (hb.mono hG.size))
    case s10_c1 =>
      refine owe rfl fun a wx val hG hV hN hO K hK => ?_
      have e18 := hN 6 18 (by kernel_rfl) (by kernel_rfl) (by simp)
      have f18 := hV 6 (by kernel_rfl) (by kernel_rfl)
      rw [Vp6] at f18; rw [f18] at e18; clear f18
      have e21 := hN 9 21 (by kernel_rfl) (by kernel_rfl) (by simp)
      have f21 := hV 9 (by kernel_rfl) (by kernel_rfl)
      rw [Vp9] at f21; rw [f21] at e21; clear f21
      clear hV hN hO
      obtain ⟨q1, q2⟩ := AD2.out
      go_simp
      exact hK.out _ _ (by rw [Vp10, upd_at] <;> (congr 1 <;> omega)) (Below.refl _ _) hG
    case s11_c1 =>
      refine owe rfl fun a wx val hG hV hN hO K hK => ?_
      have e22 := hN 10 22 (by kernel_rfl) (by kernel_rfl) (by simp)
      have f22 := hV 10 (by kernel_rfl) (by kernel_rfl)
      rw [Vp10] at f22; rw [f22] at e22; clear f22
      clear hV hN hO
      go_simp
      exact hK.out _ _ (by rw [Vp11, upd_at] <;> (congr 1 <;> omega)) (Below.refl _ _) hG
    intro val wx hG hV
    have f0 := hV 0 (by simp) (fun _ _ => by rfl)
    rw [Vp0] at f0
    have f1 := hV 1 (by simp) (fun _ _ => by rfl)
    rw [Vp1] at f1
    have f2 := hV 2 (by simp) (fun _ _ => by rfl)
    rw [Vp2] at f2
    have f3 := hV 3 (by simp) (fun _ _ => by rfl)
    rw [Vp3] at f3
    have f4 := hV 4 (by simp) (fun _ _ => by rfl)
    rw [Vp4] at f4
    have f5 := hV 5 (by simp) (fun _ _ => by rfl)
    rw [Vp5] at f5
    have f6 := hV 6 (by simp) (fun _ _ => by rfl)
    rw [Vp6] at f6
    have f7 := hV 7 (by simp) (fun _ _ => by rfl)
    rw [Vp7] at f7
    have f8 := hV 8 (by simp) (fun _ _ => by rfl)
    rw [Vp8] at f8
    have f9 := hV 9 (by simp) (fun _ _ => by rfl)
    rw [Vp9] at f9
    have f10 := hV 10 (by simp) (fun _ _ => by rfl)
    rw [Vp10] at f10
    have f11 := hV 11 (by simp) (fun _ _ => by rfl)
    rw [Vp11] at f11
    clear hV Vp0 Vp1 Vp2 Vp3 Vp4 Vp5 Vp6 Vp7 Vp8 Vp9 Vp10 Vp11
    simp only [putAll, Act.put, List.setIfInBounds_toArray, List.set_cons_zero, List.set_cons_succ]
    generalize val 0 = z0 at *; (subst f0)
    generalize val 1 = z1 at *; (subst f1)
    generalize val 2 = z2 at *; (subst f2)
    generalize val 3 = z3 at *; (subst f3)
    generalize val 4 = z4 at *; (subst f4)
    generalize val 5 = z5 at *; (subst f5)
    generalize val 6 = z6 at *; (subst f6)
    generalize val 7 = z7 at *; (subst f7)
    generalize val 8 = z8 at *; (subst f8)
    generalize val 9 = z9 at *; (subst f9)
    generalize val 10 = z10 at *; (subst f10)
    generalize val 11 = z11 at *; (subst f11)
    clear HVD
    have HG2 := Lib.hid (HG1.out.trans (hG.mono HG1.out.size)); clear hG HG1 T1 T2 T3 AD1 AD2 y0 y1 y2 y3 y4
    generalize hH : twosL [t, ep, mem] = H at *
    have hHl : H.length = 6 := by rw [← hH]; rfl
    have HHH := Lib.hid hH; clear hH
    have HHL := Lib.hid hHl; clear hHl
    obtain ⟨y0, y1, y2, y3, y4⟩ := (HE.out.on HG2.out).cells
    have hH0 : H = H ++ twosL (incs.take 0) := by simp [twosL]
    go_wp2_with fail
    go_loopw [4, 5] (fun sv ix wr => ∃ k : Nat, k ≤ incs.length ∧ ix = .int .i64 k ∧ sv = .string (txt (H ++ twosL (incs.take k))) ∧ Below W.heap.size W wr) (fun _ ix _ => incs.length - (intOf ix).toNat)
    case atStart => exact ⟨0, by omega, rfl, by rw [← hH0], HG2.out⟩
    case round =>
      obtain ⟨k, hk, rfl, rfl, hb⟩ := hrel
      have HBR := Lib.hid hb; clear hb hH0 y0 y1 y2 y3 y4
      obtain ⟨y0, y1, y2, y3, y4⟩ := (HE.out.on HBR.out).cells
      by_cases hlt : k < incs.length
      · obtain ⟨n, hx⟩ : ∃ n, incs[k]? = some n := ⟨_, List.getElem?_eq_getElem hlt⟩
        obtain ⟨ad, rfl, _, hcc⟩ := HRW.out.below HBR.out (Nat.le_refl _) (by omega)
        have hck := hcc k n hx
        have hn := HSM.out n (List.mem_of_getElem? hx)
        have ct := fun W' => refTwo6_any n (by omega) (by omega) W'
        have hAD := add_txt (H ++ twosL (incs.take k)) (twoL n) (H ++ twosL (incs.take (k + 1))) (by rw [twosL_take hx, List.append_assoc]) (by
          have h1 := inc16 incs hi16 k
          have h2 : (twoL n).length = 2 := rfl
          have h3 := HHL.out
          rw [List.length_append]; omega)
        have HAD := Lib.hid hAD; clear hAD hcc hx hn
        generalize H ++ twosL (incs.take k) = L1 at *
        generalize hL2 : H ++ twosL (incs.take (k + 1)) = L2 at *
        have HL2 := Lib.hid hL2; clear hL2
        go_wp2_with fail; refine (ct _).mono ?_; rintro e w2 ⟨rfl, b2⟩
        have HB2 := Lib.hid (HBR.out.trans (b2.mono HBR.out.size)); clear b2
        obtain ⟨q1, q2⟩ := HAD.out
        go_wp2_with fail
        go_roundw
        case rel => exact ⟨k + 1, by omega, by go_num, by rw [HL2.out], HB2.out⟩
        case measure => simp [intOf]; omega
      · have ek : k = incs.length := by omega
        subst ek
        rw [List.take_length]
        have h1 := fun (w : World) (a : Int) => one_at (w.alloc (.cells #[.int .u8 a] 5)) w.heap.size a (by simp [go_sem])
        have hoc : UInt8.ofNat l.length = octet (l.length : Int) := by simpa using octet_small (l.length : Int) (by omega)
        have hAD := add_txt (H ++ twosL incs) [octet l.length] (H ++ twosL incs ++ [octet l.length]) rfl (by
          have h2 := HHL.out
          rw [List.length_append, twosL_length]; simp; omega)
        rw [← hoc] at hAD
        have hcat : H ++ twosL incs ++ [UInt8.ofNat l.length] = H ++ twosL incs ++ [UInt8.ofNat l.length] ++ catL (l.take 0) := by simp [catL]
        have hfin : H ++ twosL incs ++ [UInt8.ofNat l.length] ++ catL l = T := by rw [hoc, HT.out, ← HHH.out]
        obtain ⟨q1, q2⟩ := hAD
        have hLL : (H ++ twosL incs ++ [UInt8.ofNat l.length]).length ≤ 39 := by
          have h2 := HHL.out
          rw [List.length_append, List.length_append, twosL_length]; simp; omega
        clear hoc
        have HFIN := Lib.hid hfin; clear hfin
        have HLL := Lib.hid hLL; clear hLL
        have HCAT := Lib.hid hcat; clear hcat
        generalize H ++ twosL incs ++ [UInt8.ofNat l.length] = P at *
        generalize H ++ twosL incs = L1 at *
        go_upto_region 9 with (fail)
        have hB9 := HBR.out.trans ((Joins.below_alloc1 wr (.cells #[.int .u8 (l.length : Int)] 5)).mono HBR.out.size)
        have HB9 := Lib.hid hB9; clear hB9 HBR
        clear q1 q2 h1 y0 y1 y2 y3 y4
        generalize wr.alloc (.cells #[.int .u8 (l.length : Int)] 5) = W9 at *
        obtain ⟨y0, y1, y2, y3, y4⟩ := (HE.out.on HB9.out).cells
        go_wp2_with fail
        go_loopw [4, 6, 7, 8] (fun sv ix _ _ wr => ∃ k : Nat, k ≤ l.length ∧ ix = .int .i64 k ∧ sv = .string (txt (P ++ catL (l.take k))) ∧ Below W.heap.size W wr) (fun _ ix _ _ _ => l.length - (intOf ix).toNat)
        case atStart => exact ⟨0, by omega, rfl, by rw [← HCAT.out], HB9.out⟩
        case round =>
          obtain ⟨k, hk, rfl, rfl, hb⟩ := hrel
          have HBR := Lib.hid hb; clear hb y0 y1 y2 y3 y4
          obtain ⟨y0, y1, y2, y3, y4⟩ := (HE.out.on HBR.out).cells
          by_cases hlt : k < l.length
          · obtain ⟨m, hm⟩ : ∃ m, l[k]? = some m := ⟨_, List.getElem?_eq_getElem hlt⟩
            obtain ⟨ad, rfl, _, hcc⟩ := HMW.out.below HBR.out (Nat.le_refl _) (by omega)
            have hmr := HEA.out m (List.mem_of_getElem? hm)
            have ce := fun W' => refEnc_any m (HD.out m (List.mem_of_getElem? hm)) W'
            rw [encT_right hmr, encE_right hmr] at ce
            have hAD := add_txt (P ++ catL (l.take k)) (encL m) (P ++ catL (l.take (k + 1))) (by rw [catL_take hm, List.append_assoc]) (by
              have h1 := catL_take_le HEA.out h16 k
              have h2 := HLL.out
              have h3 := encL_length hmr
              have h4 := rightM_data hmr
              rw [List.length_append]; omega)
            have HAD := Lib.hid hAD; clear hAD
            obtain ⟨x0, x1, x2, x3, x4, x5, x6⟩ := hcc k m hm
            obtain ⟨me, mn, ms, mi, mq, mu, md⟩ := m
            simp only [mv] at *
            clear hcc hm hmr
            generalize P ++ catL (l.take k) = L1 at *
            generalize hL2 : P ++ catL (l.take (k + 1)) = L2 at *
            have HL2 := Lib.hid hL2; clear hL2
            generalize encL ⟨me, mn, ms, mi, mq, mu, md⟩ = EM at *
            go_wp2_with fail; refine (ce _).mono ?_; rintro e w2 ⟨rfl, b2⟩
            have HB2 := Lib.hid (HBR.out.trans (b2.mono HBR.out.size)); clear b2
            obtain ⟨q1, q2⟩ := HAD.out
            go_wp2_with fail
            go_roundw
            case rel => exact ⟨k + 1, by omega, by go_num, by rw [HL2.out], HB2.out⟩
            case measure => simp [intOf]; omega
          · have ek : k = l.length := by omega
            subst ek
            rw [List.take_length, HFIN.out]
            go_wp2_with fail
            go_ret2
            exact ⟨rfl, HB.out.trans (HBR.out.mono HLE.out)⟩

end Go.Proofs.YtlgaogghoehalaaDoor

namespace Go.Proofs.YtlgaogghoehalaaDoor
open Go.RowKit

theorem cell_zero_addE (w : World) (g k : Nat) : w.cell? ((⟨g, 0, none⟩ : Addr).add k) = w.cell? ⟨g, k, none⟩ := by
  unfold Addr.add
  split
  · rename_i h; rw [h]
  · simp
theorem lib_byteCells_length (l : List UInt8) : (Lib.byteCells l).length = l.length := by simp [Lib.byteCells]
theorem lib_byteCells_get (l : List UInt8) (i : Nat) (h : i < l.length) : (Lib.byteCells l)[i]? = some (.int .u8 ((l.getD i 0).toNat : Int)) := by
  simp [Lib.byteCells, List.getD, List.getElem?_eq_getElem h]
theorem own_bytes_text (W : World) (base n : Nat) (v : Value) (l : List UInt8) (h : W.ownsRow base 5 1 v n (Lib.byteCells l)) :
    (convert 43 9 v).run Tryd.prog W = .ok (.string (txt l)) W := by
  have hl := h.1
  rw [lib_byteCells_length] at hl
  rcases h.2 with ⟨rfl, h0⟩ | ⟨g, cap, cur, rfl, _⟩
  · have : l = [] := List.eq_nil_of_length_eq_zero (by omega)
    subst this
    exact run_convert_bytes_nil W 43 5 Tryd.underlying43 Tryd.underlying5 0 0 9 Tryd.underlying9
  · have h1 := run_convert_bytes_arg (P := Tryd.prog) W 43 5 Tryd.underlying43 Tryd.underlying5 g 0 n cap (l.map fun b => (b.toNat : Int)) (by rw [List.length_map]; omega) (by
      intro i hi
      have hc := h.cells (g := g) rfl i _ (lib_byteCells_get l i (by omega))
      rw [cell_zero_addE] at hc
      rw [Nat.zero_add, hc]
      simp [List.getD]
      cases l[i]? <;> rfl) 9 Tryd.underlying9
    rw [h1]
    have e : strOfNums (l.map fun b => (b.toNat : Int)) = txt l := by
      unfold strOfNums txt
      rw [List.map_map]
      have : ((fun n : Int => UInt8.ofNat n.toNat) ∘ fun b : UInt8 => (b.toNat : Int)) = id := by
        funext b
        simp
      rw [this, List.map_id]
    rw [e]
theorem cell_two_new (w : World) (x y : Value) (t : TypeId) : ∀ j u, [x, y][j]? = some u → (w.alloc (.cells #[x, y] t)).cell? ((⟨w.heap.size, 0, none⟩ : Addr).add j) = some u := by
  intro j u hu
  have hj : j < 2 := (List.getElem?_eq_some_iff.1 hu).1
  rw [cell_zero_addE]
  rcases (show j = 0 ∨ j = 1 by omega) with rfl | rfl
  · have e : x = u := by simpa using hu
    subst e; simp [go_sem]
  · have e : y = u := by simpa using hu
    subst e; simp [go_sem]
theorem shr8 (n : Int) : (n / 2 ^ (8 : Int).toNat) = n / 256 := by simp
theorem byteCells_two (n : Int) : Lib.byteCells (twoL n) = [.int .u8 ((octet (n / 256)).toNat : Int), .int .u8 ((octet n).toNat : Int)] := rfl

set_option maxRecDepth 100000 in
set_option maxHeartbeats 2000000 in
theorem pairs_any (A : Option Addr) (c B : Nat) (l : List Int) (w : World) (h : V.Row w B A l) (hB : B ≤ w.heap.size) (hl : l.length ≤ 100) (hs : ∀ n ∈ l, 0 ≤ n ∧ n ≤ 65535) :
    Calls Tryd.prog 28 #[.slice A l.length c] w fun e w' => e = .returned (.string (txt (twosL l))) ∧ Below w.heap.size w w' := by
  obtain ⟨i0, hi, hz0, hz1, hz2⟩ := info_parts (show (Tryd.prog.info? 5).map (fun i => (i.zero, i.size, i.bytes)) = some (some (.int .u8 0), 1, 1) by kernel_rfl)
  have HS := Lib.hid hs; clear hs
  go_enter Tryd.func28, Tryd.ntmps28
  go_wp2_with fail
  go_loopw [3, 5, 8] (fun u _ ix wr => ∃ k : Nat, k ≤ l.length ∧ ix = .int .i64 k ∧ wr.ownsRow w.heap.size 5 1 u (2 * k) (Lib.byteCells (twosL (l.take k))) ∧ Below w.heap.size w wr) (fun _ _ ix _ => l.length - (intOf ix).toNat)
  case atStart => exact ⟨0, by omega, rfl, World.ownsRow_nil _ _ _ _, Below.refl _ _⟩
  case round =>
    obtain ⟨k, hk, rfl, hown, hb⟩ := hrel
    have HB := Lib.hid hb; clear hb
    have HOWN := Lib.hid hown; clear hown
    by_cases hlt : k < l.length
    · obtain ⟨n, hx⟩ : ∃ n, l[k]? = some n := ⟨_, List.getElem?_eq_getElem hlt⟩
      obtain ⟨ad, rfl, _, hcc⟩ := h.below HB.out hB (by omega)
      have hck := hcc k n hx
      obtain ⟨n0, n1⟩ := HS.out n (List.mem_of_getElem? hx)
      have HT := Lib.hid (twosL_take hx)
      have e1 : ((octet (n / 256)).toNat : Int) = n / 256 := by rw [octet_nat]; omega
      have e2 : ((octet n).toNat : Int) = n % 256 := octet_nat n
      have HE1 := Lib.hid e1
      have HE2 := Lib.hid e2
      clear hcc hx e1 e2
      go_wp2_with (at_builtin; refine wpList_append_own _ rfl _ _ 43 rfl w.heap.size 5 i0 (.int .u8 0) 1 1 Tryd.underlying43 hi hz0 hz1 hz2 rfl (by decide) _ _ _ rfl (HOWN.out.alloc _) ⟨wr.heap.size, 0, none⟩ 2 2 [_, _] rfl rfl (cell_two_new _ _ _ _) (by simp [Value.oneCell']) (by simp only [maxLen]; omega) (by omega) (by have := HB.out.size; simp; omega) ?_; intro v' w3 hown' hgrow3 hnil3)
      have hb3 := (HB.out.alloc (by have := HB.out.size; omega) (.cells #[_, _] 5)).grown hgrow3 (by have := HB.out.size; simp; omega) (fun g e' => (HOWN.out.lt g e').1)
      go_roundw
      case rel =>
        refine ⟨k + 1, by omega, by go_num, ?_, hb3⟩
        rw [HT.out, byteCells_append, byteCells_two, HE1.out, HE2.out]
        exact hown'
      case measure => simp [intOf]; omega
    · have ek : k = l.length := by omega
      subst ek
      have hO := HOWN.out
      rw [List.take_length] at hO
      have hcv := own_bytes_text _ _ _ _ _ hO
      clear hO h
      go_wp2_with fail
      go_ret
      exact ⟨rfl, HB.out⟩

theorem ownsRow_on {w w' : World} {B : Nat} {e : TypeId} {k n : Nat} {u : Value} {xs : List Value} (h : w.ownsRow B e k u n xs) (hb : Below w.heap.size w w') : w'.ownsRow B e k u n xs := by
  refine ⟨h.1, h.2.imp id ?_⟩
  rintro ⟨g, cap, cur, e1, e2, e3, e4⟩
  exact ⟨g, cap, cur, e1, e2, (hb.block g (Array.getElem?_eq_some_iff.1 e3).1).trans e3, e4⟩
theorem builderAt_on {T e : TypeId} {B b : Nat} {p : Value} {bs : List Value} {X Y : World} (h : Lib.BuilderAt T e B b p bs X) (hb : Below X.heap.size X Y) : Lib.BuilderAt T e B b p bs Y := by
  obtain ⟨hB, v, hv, hown, hne⟩ := h
  exact ⟨hB, v, (hb.block b (Array.getElem?_eq_some_iff.1 hv).1).trans hv, ownsRow_on hown hb, hne⟩

set_option maxHeartbeats 2000000 in
set_option maxRecDepth 100000 in
/-- WriteByte. -/
theorem writeByte_any (B b : Nat) (bs : List Value) (x : Int) (w : World) (h : Lib.IsBuilder 62 5 B b bs w) (hlen : bs.length + 1 ≤ 1000) (hBw : B ≤ w.heap.size) :
    Calls Tryd.prog 29 #[.pointer (some ⟨b, 0, none⟩), .int .u8 x] w fun e w' => e = .returned .nilIface ∧ (Lib.BuilderAt 62 5 B b (.pointer (some ⟨b, 0, none⟩)) (bs ++ [.int .u8 x]) w' ∧ Below B w w') := by
  obtain ⟨i0, hi, hz0, hz1, hz2⟩ := info_parts (show (Tryd.prog.info? 5).map (fun i => (i.zero, i.size, i.bytes)) = some (some (.int .u8 0), 1, 1) by kernel_rfl)
  go_enter Tryd.func29, Tryd.ntmps29
  go_wp2_with (go_at_call 54; refine (copyCheck_any B b bs _ h).mono ?_)
  rintro e w1 ⟨rfl, h1, hb1, hk1⟩
  obtain ⟨hB, v, hbk, hown, hne⟩ := h1
  have c0 : w1.cell? ⟨b, 0, none⟩ = some (.pointer (some ⟨b, 0, none⟩)) := by rw [Lib.cell_of_heap hbk]; rfl
  have c1 : w1.cell? ⟨b, 1, none⟩ = some v := by rw [Lib.cell_of_heap hbk]; rfl
  have hs1 := hb1.size
  have hlt : b < w1.heap.size := by
    rcases Nat.lt_or_ge b w1.heap.size with h' | h'
    · exact h'
    · simp [Array.getElem?_eq_none h'] at hbk
  have HOWN := Lib.hid hown
  go_wp2_with (at_builtin; refine wpList_append_own _ rfl _ _ 43 rfl B 5 i0 (.int .u8 0) 1 1 Tryd.underlying43 hi hz0 hz1 hz2 rfl (by decide) _ _ _ rfl (HOWN.out.alloc _) ⟨w1.heap.size, 0, none⟩ 1 1 [.int .u8 x] rfl rfl (cell_one_new _ _ _) (by simp [Value.oneCell']) (by simp only [maxLen]; omega) (by omega) (by simp; omega) ?_)
  intro v' w2 hown' hgrow _
  have hb2 : w2.heap[b]? = some (.cells #[.pointer (some ⟨b, 0, none⟩), v] 62 (0, 0)) := by
    rw [hgrow.block b (by simp; omega) (fun e => hne e.symm), Below.heap_alloc _ _ _ hlt]
    exact hbk
  have d0 : w2.cell? ⟨b, 0, none⟩ = some (.pointer (some ⟨b, 0, none⟩)) := by rw [Lib.cell_of_heap hb2]; rfl
  have d1 : w2.cell? ⟨b, 1, none⟩ = some v := by rw [Lib.cell_of_heap hb2]; rfl
  have f1 : w2.frozen? ⟨b, 1, none⟩ = false := Lib.frozen_of_heap hb2 1
  obtain ⟨ao, n', cap, rfl⟩ : ∃ ao n' cap, v' = .slice ao n' cap := by
    rcases hown'.2 with ⟨hv, _⟩ | ⟨g, cap, cur, hv, _⟩
    · exact ⟨_, _, _, hv⟩
    · exact ⟨_, _, _, hv⟩
  go_wp2
  go_ret
  refine ⟨rfl, ?_, ?_⟩
  · exact Lib.BuilderAt.put (T := 62) (e := 5) hB hb2 (bs' := bs ++ [.int .u8 x]) (by simpa using hown') (by decide)
  · exact ((hb1.alloc (by omega) (.cells #[.int .u8 x] 5)).grown hgrow (by simp; omega) (fun k hk => (hown.lt k hk).1)).setCell (p := ⟨b, 1, none⟩) hB _

theorem row_three {w : World} {g : Nat} {a b d : Int} (h : w.heap[g]? = some (.cells #[.int .i64 a, .int .i64 b, .int .i64 d] 3 (0, 0))) : V.Row w (g + 1) (some ⟨g, 0, none⟩) [a, b, d] := fun _ => by
  refine ⟨_, rfl, by show g < g + 1; omega, fun j x hx => ?_⟩
  have hj : j < 3 := (List.getElem?_eq_some_iff.1 hx).1
  rcases (show j = 0 ∨ j = 1 ∨ j = 2 by omega) with rfl | rfl | rfl
  · have e : a = x := by simpa using hx
    subst e; exact (cell_of h 0).trans rfl
  · have e : b = x := by simpa using hx
    subst e; exact (cell_of h 1).trans rfl
  · have e : d = x := by simpa using hx
    subst e; exact (cell_of h 2).trans rfl

set_option maxRecDepth 100000 in
set_option maxHeartbeats 8000000 in
theorem encEP_any (x : Ent) (A : Option Addr) (c : Nat) (A' : Option Addr) (c' : Nat) (w : World) (L : Laid w) (h : V.Row w w.heap.size A x.incs) (hM : Msgs w w.heap.size A' x.msgs) (hil : x.incs.length ≤ maxLen) (hl : x.msgs.length ≤ maxLen) (hd : ∀ m ∈ x.msgs, m.data.size ≤ maxLen) :
    Calls Tryd.prog 13 #[ev x.t x.ep x.mem (.slice A x.incs.length c) (.slice A' x.msgs.length c')] w fun e w' => e = .returned (.tuple #[.string (txt (encTE x)), .int .i64 (encEE x)]) ∧ Below w.heap.size w w' := by
  have b1 := Joins.below_alloc1 w (.cells #[.int .i64 x.t, .int .i64 x.ep, .int .i64 x.mem, .slice A x.incs.length c, .slice A' x.msgs.length c'] 27)
  have e1 := EntAt.new w x.t x.ep x.mem (.slice A x.incs.length c) (.slice A' x.msgs.length c')
  have L1 := L.below b1
  have r1 := (h.below b1 (Nat.le_refl _)).more b1.size
  have m1 := (hM.below b1 (Nat.le_refl _)).more b1.size
  have cr := rightEP_any x A c A' c' _ L1 r1 m1 hil hl hd
  have ni := hil
  have nl := hl
  unfold maxLen at ni nl
  generalize hg : w.heap.size = b at *
  cases hr : rightE x
  · rw [hr] at cr
    rw [show encTE x = [] by unfold encTE; rw [hr]; rfl, show encEE x = 1 by unfold encEE; rw [hr]; rfl]
    obtain ⟨t, ep, mem, incs, l⟩ := x
    simp only at *
    generalize hW : w.alloc (.cells #[.int .i64 t, .int .i64 ep, .int .i64 mem, .slice A incs.length c, .slice A' l.length c'] 27) = W at *
    obtain ⟨y0, y1, y2, y3, y4⟩ := e1.cells
    have HB := Lib.hid b1; clear b1 r1 m1 h hM hil hl hd hr L L1
    go_enter Tryd.func13, Tryd.ntmps13
    go_wp2_with fail; refine cr.mono ?_; rintro e w1 ⟨rfl, b2⟩
    clear hW y0 y1 y2 y3 y4
    go_wp2_with fail
    go_ret2
    exact ⟨rfl, HB.out.trans (b2.mono (by have := HB.out.size; rw [hg] at this; exact this))⟩
  · rw [hr] at cr
    rw [show encTE x = encEnt x by unfold encTE; rw [hr]; rfl, show encEE x = 0 by unfold encEE; rw [hr]; rfl]
    have h16 := rightE_msgs hr
    have hi16 := rightE_incs hr
    have heach := rightE_each hr
    obtain ⟨ht, hep, hm0, hm1, -, hal, -, -⟩ := (rightE_iff x).1 hr
    have hsm := smalls_mem hal
    obtain ⟨T, hT⟩ : ∃ T, T = encEnt x := ⟨_, rfl⟩
    rw [← hT]
    unfold encEnt at hT
    obtain ⟨t, ep, mem, incs, l⟩ := x
    simp only at *
    generalize hW : w.alloc (.cells #[.int .i64 t, .int .i64 ep, .int .i64 mem, .slice A incs.length c, .slice A' l.length c'] 27) = W at *
    obtain ⟨y0, y1, y2, y3, y4⟩ := e1.cells
    have HE := Lib.hid e1; clear e1
    have HB := Lib.hid b1; clear b1
    have HRW := Lib.hid r1; clear r1
    have HMW := Lib.hid m1; clear m1 h hM hil hl
    have HLW := Lib.hid L1; clear L1 L
    have HT := Lib.hid hT; clear hT
    have P1 := Lib.hid (fun W' g hgg => pairs_any (some ⟨g, 0, none⟩) 3 (g + 1) [t, ep, mem] W' (row_three hgg) (by have := (Array.getElem?_eq_some_iff.1 hgg).1; omega) (by simp) (by
      intro n hn
      simp only [List.mem_cons, List.not_mem_nil, or_false] at hn
      rcases hn with rfl | rfl | rfl <;> omega))
    have P2 := Lib.hid (fun W' (hG : Below W.heap.size W W') => pairs_any A c W.heap.size incs W' (HRW.out.below hG (Nat.le_refl _)) hG.size (by omega) (fun n hn => by have := hsm n hn; omega))
    have HEA := Lib.hid heach; clear heach hsm hal
    have HD := Lib.hid hd; clear hd
    have hH6 : (twosL [t, ep, mem]).length = 6 := rfl
    generalize hH : twosL [t, ep, mem] = H at *
    have HH6 := Lib.hid hH6; clear hH6 hH
    go_enter Tryd.func13, Tryd.ntmps13
    go_wp2_with fail; refine cr.mono ?_; rintro e w1 ⟨rfl, b2⟩
    clear hW y0 y1 y2 y3 y4
    have HLE : Hid (b ≤ W.heap.size) := Lib.hid (by have := HB.out.size; rw [hg] at this; exact this)
    have hB3 := b2.trans ((Joins.below_alloc1 w1 (.cells #[.pointer none, .slice none 0 0] 62)).mono b2.size)
    have hbk : (w1.alloc (.cells #[.pointer none, .slice none 0 0] 62)).heap[w1.heap.size]? = some (.cells #[.pointer none, .slice none 0 0] 62 (0, 0)) := World.alloc_heap_new w1 _
    have hbld : Lib.IsBuilder 62 5 w1.heap.size w1.heap.size (Lib.byteCells []) (w1.alloc (.cells #[.pointer none, .slice none 0 0] 62)) := .inl ⟨Nat.le_refl _, _, hbk, World.ownsRow_nil _ _ _ _, by simp [Value.ownBlock]⟩
    go_upto_region 4 with (fail)
    have HWB : Hid (W.heap.size ≤ w1.heap.size) := Lib.hid b2.size
    have HG3 := Lib.hid hB3; clear hB3 b2 hbk
    have HBL := Lib.hid hbld; clear hbld
    have hq : w1.heap.size ≤ (w1.alloc (.cells #[.pointer none, .slice none 0 0] 62)).heap.size := by simp
    have HQ := Lib.hid hq; clear hq
    generalize w1.alloc (.cells #[.pointer none, .slice none 0 0] 62) = W3 at *
    generalize w1.heap.size = g at *
    obtain ⟨y0, y1, y2, y3, y4⟩ := (HE.out.on HG3.out).cells
    have hgg := heap_alloc_new W3 (.cells #[.int .i64 t, .int .i64 ep, .int .i64 mem] 3)
    have hb4 := Joins.below_alloc1 W3 (.cells #[.int .i64 t, .int .i64 ep, .int .i64 mem] 3)
    have HGG := Lib.hid hgg; clear hgg
    have HB4 := Lib.hid hb4; clear hb4
    go_wp2_with fail
    refine (P1.out _ _ HGG.out).mono ?_; rintro e w5 ⟨rfl, b5⟩
    have hb5 := HB4.out.trans (b5.mono HB4.out.size)
    have HBL5 : Hid (Lib.IsBuilder 62 5 g g (Lib.byteCells []) w5) := Lib.hid (HBL.out.imp (fun h => builderAt_on h hb5) (fun h => builderAt_on h hb5))
    have HG5 := Lib.hid (HG3.out.trans (hb5.mono HG3.out.size))
    have HQ5 : Hid (g ≤ w5.heap.size) := Lib.hid (Nat.le_trans HQ.out hb5.size)
    clear b5 hb5 HB4 HGG HBL HQ y0 y1 y2 y3 y4 HG3
    go_wp2_with fail
    refine (writeString_any g g (Lib.byteCells []) (txt H) _ HBL5.out (by rw [lib_byteCells_length, txt_size, HH6.out]; decide) HQ5.out).mono ?_; rintro e w6 ⟨rfl, h6, b6, -⟩
    have e6 : Lib.byteCells [] ++ Lib.strCells (txt H) = Lib.byteCells H := rfl
    rw [e6] at h6
    have HBL6 := Lib.hid h6; clear h6 e6 HBL5
    have HG6 := Lib.hid (HG5.out.trans (b6.mono HWB.out))
    have HQ6 : Hid (g ≤ w6.heap.size) := Lib.hid (Nat.le_trans HQ5.out b6.size)
    clear b6 HQ5 HG5
    obtain ⟨y0, y1, y2, y3, y4⟩ := (HE.out.on HG6.out).cells
    go_wp2_with fail
    refine (P2.out _ HG6.out).mono ?_; rintro e w7 ⟨rfl, b7⟩
    have HBL7 : Hid (Lib.IsBuilder 62 5 g g (Lib.byteCells H) w7) := Lib.hid (.inr (builderAt_on HBL6.out b7))
    have HG7 := Lib.hid (HG6.out.trans (b7.mono HG6.out.size))
    have HQ7 : Hid (g ≤ w7.heap.size) := Lib.hid (Nat.le_trans HQ6.out b7.size)
    clear b7 HBL6 HQ6 HG6 y0 y1 y2 y3 y4 P1 P2
    go_wp2_with fail
    refine (writeString_any g g (Lib.byteCells H) (txt (twosL incs)) _ HBL7.out (by rw [lib_byteCells_length, txt_size, HH6.out, twosL_length]; omega) HQ7.out).mono ?_; rintro e w8 ⟨rfl, h8, b8, -⟩
    have e8 : Lib.byteCells H ++ Lib.strCells (txt (twosL incs)) = Lib.byteCells (H ++ twosL incs) := (byteCells_append _ _).symm
    rw [e8] at h8
    have HBL8 := Lib.hid h8; clear h8 e8 HBL7
    have HG8 := Lib.hid (HG7.out.trans (b8.mono HWB.out))
    have HQ8 : Hid (g ≤ w8.heap.size) := Lib.hid (Nat.le_trans HQ7.out b8.size)
    clear b8 HQ7 HG7
    obtain ⟨y0, y1, y2, y3, y4⟩ := (HE.out.on HG8.out).cells
    have hoc : ((octet (l.length : Int)).toNat : Int) = l.length := by rw [octet_nat]; omega
    have HOC := Lib.hid hoc; clear hoc
    have hPl : (H ++ twosL incs ++ [octet (l.length : Int)]).length ≤ 39 := by
      rw [List.length_append, List.length_append, HH6.out, twosL_length]; simp; omega
    have HPL := Lib.hid hPl; clear hPl
    go_wp2_with fail
    refine (writeByte_any g g (Lib.byteCells (H ++ twosL incs)) _ _ (.inr HBL8.out) (by rw [lib_byteCells_length, List.length_append, HH6.out, twosL_length]; omega) HQ8.out).mono ?_; rintro e w9 ⟨rfl, h9, b9⟩
    have e9 : Lib.byteCells (H ++ twosL incs) ++ [.int .u8 (l.length : Int)] = Lib.byteCells (H ++ twosL incs ++ [octet (l.length : Int)]) := by
      rw [byteCells_append (H ++ twosL incs)]
      show _ = _ ++ [Value.int .u8 ((octet (l.length : Int)).toNat : Int)]
      rw [HOC.out]
    rw [e9] at h9
    have HBL9 := Lib.hid h9; clear h9 e9 HBL8
    have HG9 := Lib.hid (HG8.out.trans (b9.mono HWB.out))
    have HQ9 : Hid (g ≤ w9.heap.size) := Lib.hid (Nat.le_trans HQ8.out b9.size)
    clear b9 HQ8 HG8 y0 y1 y2 y3 y4
    obtain ⟨y0, y1, y2, y3, y4⟩ := (HE.out.on HG9.out).cells
    have hfin : H ++ twosL incs ++ [octet (l.length : Int)] ++ catL l = T := HT.out.symm
    have hcat : H ++ twosL incs ++ [octet (l.length : Int)] = H ++ twosL incs ++ [octet (l.length : Int)] ++ catL (l.take 0) := by simp [catL]
    generalize H ++ twosL incs ++ [octet (l.length : Int)] = P at *
    have HFIN := Lib.hid hfin; clear hfin
    rw [hcat] at HBL9
    clear hcat HOC
    go_wp2_with fail
    go_loopw [6, 7, 8, 33] (fun _ _ _ ix wr => ∃ k : Nat, k ≤ l.length ∧ ix = .int .i64 k ∧ Lib.BuilderAt 62 5 g g (.pointer (some ⟨g, 0, none⟩)) (Lib.byteCells (P ++ catL (l.take k))) wr ∧ g ≤ wr.heap.size ∧ Below W.heap.size W wr) (fun _ _ _ ix _ => l.length - (intOf ix).toNat)
    case atStart => exact ⟨0, by omega, rfl, HBL9.out, HQ9.out, HG9.out⟩
    case round =>
      obtain ⟨k, hk, rfl, hbl, hqr, hb⟩ := hrel
      have HBLR := Lib.hid hbl; clear hbl
      have HQR := Lib.hid hqr; clear hqr
      have HBR := Lib.hid hb; clear hb y0 y1 y2 y3 y4
      obtain ⟨y0, y1, y2, y3, y4⟩ := (HE.out.on HBR.out).cells
      by_cases hlt : k < l.length
      · obtain ⟨m, hm⟩ : ∃ m, l[k]? = some m := ⟨_, List.getElem?_eq_getElem hlt⟩
        obtain ⟨ad, rfl, _, hcc⟩ := HMW.out.below HBR.out (Nat.le_refl _) (by omega)
        have hmr := HEA.out m (List.mem_of_getElem? hm)
        have ce := fun W' L' => encP_any m W' L' (HD.out m (List.mem_of_getElem? hm))
        rw [encT_right hmr, encE_right hmr] at ce
        have hlen : (Lib.byteCells (P ++ catL (l.take k))).length + (txt (encL m)).size ≤ 1000 := by
          have h1 := catL_take_le HEA.out h16 k
          have h2 := HPL.out
          have h3 := encL_length hmr
          have h4 := rightM_data hmr
          rw [lib_byteCells_length, txt_size, List.length_append]; omega
        have hnx : Lib.byteCells (P ++ catL (l.take k)) ++ Lib.strCells (txt (encL m)) = Lib.byteCells (P ++ catL (l.take (k + 1))) := by
          rw [strCells_txt, ← byteCells_append, catL_take hm, List.append_assoc]
        have HLEN := Lib.hid hlen; clear hlen
        have HNX := Lib.hid hnx; clear hnx
        have hbn := Joins.below_alloc1 wr (.cells (mc m) 36)
        have hM1 : MsgAt (wr.alloc (.cells (mc m) 36)) wr.heap.size m := heap_alloc_new wr _
        have HBL1 := Lib.hid (builderAt_on HBLR.out hbn)
        have HB1 := Lib.hid (HBR.out.trans (hbn.mono HBR.out.size))
        have HQ1 : Hid (g ≤ (wr.alloc (.cells (mc m) 36)).heap.size) := Lib.hid (Nat.le_trans HQR.out hbn.size)
        have HM1 := Lib.hid hM1; clear hM1 hbn HBLR
        obtain ⟨x0, x1, x2, x3, x4, x5, x6⟩ := hcc k m hm
        obtain ⟨me, mn, ms, mi, mq, mu, md⟩ := m
        simp only [mv, mc] at *
        clear hcc hm hmr
        go_upto_region 10 with (fail)
        generalize wr.alloc (.cells #[.bool me, .int .i64 mn, .int .i64 ms, .int .i64 mi, .int .i64 mq, .int .i64 mu, .string md] 36) = W1 at *
        generalize wr.heap.size = gm at *
        clear x0 x1 x2 x3 x4 x5 x6 y0 y1 y2 y3 y4
        obtain ⟨_, x0, x1, x2, x3, x4, x5, x6⟩ := Holds.of_blk HM1.out
        simp only at x0 x1 x2 x3 x4 x5 x6
        generalize encL ⟨me, mn, ms, mi, mq, mu, md⟩ = EM at *
        go_wp2_with fail; refine (ce _ (HLW.out.below HB1.out)).mono ?_; rintro e w2 ⟨rfl, b2⟩
        have HBL2 := Lib.hid (builderAt_on HBL1.out b2)
        have HB2 := Lib.hid (HB1.out.trans (b2.mono HB1.out.size))
        have HQ2 : Hid (g ≤ w2.heap.size) := Lib.hid (Nat.le_trans HQ1.out b2.size)
        clear b2 HBL1 HB1 HQ1 x0 x1 x2 x3 x4 x5 x6 HM1
        go_wp2_with fail; refine (writeString_any g g _ (txt EM) _ (.inr HBL2.out) HLEN.out HQ2.out).mono ?_; rintro e w3 ⟨rfl, h3, b3, -⟩
        rw [HNX.out] at h3
        have HBL3 := Lib.hid h3; clear h3
        have HB3 := Lib.hid (HB2.out.trans (b3.mono HWB.out))
        have HQ3 : Hid (g ≤ w3.heap.size) := Lib.hid (Nat.le_trans HQ2.out b3.size)
        clear b3
        go_wp2_with fail
        go_roundw
        case rel => exact ⟨k + 1, by omega, by go_num, HBL3.out, HQ3.out, HB3.out⟩
        case measure => simp [intOf]; omega
      · have ek : k = l.length := by omega
        subst ek
        have hbl := HBLR.out
        rw [List.take_length, HFIN.out] at hbl
        have HBLF := Lib.hid hbl; clear hbl HBLR
        go_wp2_with fail
        refine (Builder_String_any_k g g T _ (Lib.IsBuilderF.of (.inr HBLF.out)) HQR.out).mono ?_; rintro e w3 ⟨rfl, -, b3, -⟩
        have HB3 := Lib.hid (HBR.out.trans (b3.mono HWB.out)); clear b3
        go_wp2_with fail
        go_ret2
        exact ⟨rfl, HB.out.trans (HB3.out.mono HLE.out)⟩

end Go.Proofs.YtlgaogghoehalaaDoor

namespace Go.Proofs.YtlgaogghoehalaaDoor
open Go.RowKit

/-- Are two entries the same? -/
def sameE (a b : Ent) : Bool := decide (a.t = b.t) && (decide (a.ep = b.ep) && (decide (a.mem = b.mem) && (decide (a.incs = b.incs) && sameL a.msgs b.msgs)))
theorem sameE_iff (a b : Ent) : sameE a b = true ↔ a = b := by
  unfold sameE
  obtain ⟨t, ep, mem, incs, l⟩ := a
  obtain ⟨t', ep', mem', incs', l'⟩ := b
  simp only [Bool.and_eq_true, decide_eq_true_iff, sameL_iff, Ent.mk.injEq]

set_option maxRecDepth 100000 in
set_option maxHeartbeats 4000000 in
theorem refSameE_any (a b : Ent) (A A' : Option Addr) (c c' : Nat) (B B' : Option Addr) (d d' : Nat) (w : World) (hA : V.Row w w.heap.size A a.incs) (hM : Msgs w w.heap.size A' a.msgs) (hB : V.Row w w.heap.size B b.incs) (hN : Msgs w w.heap.size B' b.msgs) (hil : a.incs.length ≤ maxLen) (hl : a.msgs.length ≤ maxLen) :
    Calls Tryd.prog 21 #[ev a.t a.ep a.mem (.slice A a.incs.length c) (.slice A' a.msgs.length c'), ev b.t b.ep b.mem (.slice B b.incs.length d) (.slice B' b.msgs.length d')] w fun e w' => e = .returned (.bool (sameE a b)) ∧ Below w.heap.size w w' := by
  have HS : Hid (sameE a b = (decide (a.t = b.t) && (decide (a.ep = b.ep) && (decide (a.mem = b.mem) && (decide (a.incs = b.incs) && sameL a.msgs b.msgs))))) := Lib.hid rfl
  obtain ⟨t, ep, mem, incs, l⟩ := a
  obtain ⟨t', ep', mem', incs', l'⟩ := b
  simp only at *
  generalize sameE ⟨t, ep, mem, incs, l⟩ ⟨t', ep', mem', incs', l'⟩ = R at *
  have b1 := Joins.below_alloc2 w (.cells #[.int .i64 t, .int .i64 ep, .int .i64 mem, .slice A incs.length c, .slice A' l.length c'] 27) (.cells #[.int .i64 t', .int .i64 ep', .int .i64 mem', .slice B incs'.length d, .slice B' l'.length d'] 27)
  have e1 := (EntAt.new w t ep mem (.slice A incs.length c) (.slice A' l.length c')).on (Joins.below_alloc1 _ (.cells #[.int .i64 t', .int .i64 ep', .int .i64 mem', .slice B incs'.length d, .slice B' l'.length d'] 27))
  have e2 := EntAt.new (w.alloc (.cells #[.int .i64 t, .int .i64 ep, .int .i64 mem, .slice A incs.length c, .slice A' l.length c'] 27)) t' ep' mem' (.slice B incs'.length d) (.slice B' l'.length d')
  rw [World.size_alloc] at e2
  have r1 := hA.below b1 (Nat.le_refl _)
  have m1 := hM.below b1 (Nat.le_refl _)
  have r2 := hB.below b1 (Nat.le_refl _)
  have m2 := hN.below b1 (Nat.le_refl _)
  generalize hW : (w.alloc (.cells #[.int .i64 t, .int .i64 ep, .int .i64 mem, .slice A incs.length c, .slice A' l.length c'] 27)).alloc (.cells #[.int .i64 t', .int .i64 ep', .int .i64 mem', .slice B incs'.length d, .slice B' l'.length d'] 27) = W at *
  have ci := fun W' (hG : Below W.heap.size W W') => V.ints_any A B c d _ _ incs incs' W' ((r1.more b1.size).below hG (Nat.le_refl _)) ((r2.more b1.size).below hG (Nat.le_refl _)) hil
  have cm := fun W' (hG : Below W.heap.size W W') => same_any A' B' c' d' _ _ l l' W' ((m1.more b1.size).below hG (Nat.le_refl _)) ((m2.more b1.size).below hG (Nat.le_refl _)) hl
  obtain ⟨y0, y1, y2, y3, y4⟩ := e1.cells
  obtain ⟨z0, z1, z2, z3, z4⟩ := e2.cells
  have HB := Lib.hid b1; clear b1 r1 m1 r2 m2 hA hM hB hN
  have HE1 := Lib.hid e1; clear e1
  have HE2 := Lib.hid e2; clear e2
  go_enter Tryd.func21, Tryd.ntmps21
  by_cases h1 : t = t'
  · have q1 : ((t : Int) == t') = true := by simpa using h1
    by_cases h2 : ep = ep'
    · have q2 : ((ep : Int) == ep') = true := by simpa using h2
      by_cases h3 : mem = mem'
      · have q3 : ((mem : Int) == mem') = true := by simpa using h3
        have HX : Hid (R = (decide (incs = incs') && sameL l l')) := Lib.hid (by rw [HS.out, decide_eq_true h1, decide_eq_true h2, decide_eq_true h3]; simp)
        clear HS h1 h2 h3
        generalize decide (incs = incs') = D at *
        generalize sameL l l' = M at *
        cases D
        · go_wp2_with fail; refine (ci _ (Below.refl _ _)).mono ?_; rintro e w2 ⟨rfl, n2, rfl⟩
          clear hW
          go_wp2_with fail
          go_ret
          exact ⟨ret_b (by rw [HX.out]; rfl), below_drewN HB.out _⟩
        · go_wp2_with fail; refine (ci _ (Below.refl _ _)).mono ?_; rintro e w2 ⟨rfl, n2, rfl⟩
          clear hW
          go_wp2_with fail; refine (cm _ (below_drewN (Below.refl _ _) _)).mono ?_; rintro e w3 ⟨rfl, n3, rfl⟩
          go_wp2_with fail
          go_ret
          exact ⟨ret_b (by rw [HX.out]; rfl), below_drewN HB.out _⟩
      · have q3 : ((mem : Int) == mem') = false := by simpa using h3
        have HX : Hid (R = false) := Lib.hid (by rw [HS.out, decide_eq_false h3]; simp)
        clear HS h1 h2 h3
        go_wp2_with fail
        go_ret
        exact ⟨ret_b HX.out.symm, HB.out⟩
    · have q2 : ((ep : Int) == ep') = false := by simpa using h2
      have HX : Hid (R = false) := Lib.hid (by rw [HS.out, decide_eq_false h2]; simp)
      clear HS h1 h2
      go_wp2_with fail
      go_ret
      exact ⟨ret_b HX.out.symm, HB.out⟩
  · have q1 : ((t : Int) == t') = false := by simpa using h1
    have HX : Hid (R = false) := Lib.hid (by rw [HS.out, decide_eq_false h1]; simp)
    clear HS h1
    go_wp2_with fail
    go_ret
    exact ⟨ret_b HX.out.symm, HB.out⟩

theorem EntAt.frozen {w : World} {b : Nat} {t ep mem : Int} {u v : Value} (h : EntAt w b t ep mem u v) (i : Nat) : w.frozen? ⟨b, i, none⟩ = false := by simp [World.frozen?, show w.heap[b]? = _ from h]
theorem EntAt.set3 {w : World} {b : Nat} {t ep mem : Int} {u v : Value} (h : EntAt w b t ep mem u v) (x : Value) : EntAt (w.setCell ⟨b, 3, none⟩ x) b t ep mem x v := set_blk h 3 x
theorem EntAt.set4 {w : World} {b : Nat} {t ep mem : Int} {u v : Value} (h : EntAt w b t ep mem u v) (x : Value) : EntAt (w.setCell ⟨b, 4, none⟩ x) b t ep mem u x := set_blk h 4 x
theorem EntAt.far {w : World} {b : Nat} {t ep mem : Int} {u v : Value} (h : EntAt w b t ep mem u v) {b' i : Nat} (hne : b ≠ b') (x : Value) : EntAt (w.setCell ⟨b', i, none⟩ x) b t ep mem u v := (Below.heap_setCell _ _ _ _ hne).trans h
/-- The entry of a block, set anew, field by field. -/
def putE (w : World) (b : Nat) (t ep mem : Int) (u v : Value) : World := ((((w.setCell ⟨b, 0, none⟩ (.int .i64 t)).setCell ⟨b, 1, none⟩ (.int .i64 ep)).setCell ⟨b, 2, none⟩ (.int .i64 mem)).setCell ⟨b, 3, none⟩ u).setCell ⟨b, 4, none⟩ v
theorem putE_at {w : World} {b : Nat} {t ep mem : Int} {u v : Value} (h : EntAt w b t ep mem u v) (t' ep' mem' : Int) (u' v' : Value) : EntAt (putE w b t' ep' mem' u' v') b t' ep' mem' u' v' :=
  set_blk (set_blk (set_blk (set_blk (set_blk h 0 (.int .i64 t')) 1 (.int .i64 ep')) 2 (.int .i64 mem')) 3 u') 4 v'
theorem putE_below {B : Nat} {a w : World} (h : Below B a w) {b : Nat} (hb : B ≤ b) (t ep mem : Int) (u v : Value) : Below B a (putE w b t ep mem u v) :=
  ((((h.setCell (p := ⟨b, 0, none⟩) hb _).setCell (p := ⟨b, 1, none⟩) hb _).setCell (p := ⟨b, 2, none⟩) hb _).setCell (p := ⟨b, 3, none⟩) hb _).setCell (p := ⟨b, 4, none⟩) hb _
theorem putE_far (w : World) {b g : Nat} (h : g ≠ b) (t ep mem : Int) (u v : Value) : (putE w b t ep mem u v).heap[g]? = w.heap[g]? := by
  unfold putE
  rw [Below.heap_setCell _ _ _ _ h, Below.heap_setCell _ _ _ _ h, Below.heap_setCell _ _ _ _ h, Below.heap_setCell _ _ _ _ h, Below.heap_setCell _ _ _ _ h]
theorem own_far {w w' : World} {B : Nat} {e : TypeId} {k n : Nat} {u : Value} {xs : List Value} (h : w.ownsRow B e k u n xs) (hk : ∀ g, u.ownBlock = some g → w'.heap[g]? = w.heap[g]?) : w'.ownsRow B e k u n xs := by
  refine ⟨h.1, h.2.imp id ?_⟩
  rintro ⟨g, cap, cur, rfl, e2, e3, e4⟩
  exact ⟨g, cap, cur, rfl, e2, (hk g rfl).trans e3, e4⟩
/-- A row of one type lies in no block of another. -/
theorem own_apart {w : World} {B : Nat} {e : TypeId} {k n : Nat} {u : Value} {xs : List Value} (h : w.ownsRow B e k u n xs) {b : Nat} {cs : Array Value} {T : TypeId} (hb : w.heap[b]? = some (.cells cs T (0, 0))) (hT : T ≠ e) : ∀ g, u.ownBlock = some g → g ≠ b := by
  intro g hg hgb
  subst hgb
  rcases h.2 with ⟨rfl, _⟩ | ⟨g', cap, cur, rfl, _, hh, _⟩
  · cases hg
  · have e1 : g' = g := by simpa [Value.ownBlock] using hg
    subst e1
    rw [hb] at hh
    injection hh with hh
    injection hh with h1 h2
    exact hT h2

/-- What Own hands back. -/
def OwnE (w' : World) (B : Nat) (x : Ent) (e : Ending) : Prop := ∃ u v, e = .returned (ev x.t x.ep x.mem u v) ∧ V.Own w' B u x.incs ∧ OwnM w' B v x.msgs
theorem OwnE.val {w' : World} {B : Nat} {x : Ent} {e : Ending} (h : OwnE w' B x e) : ∃ A c A' c', e = .returned (ev x.t x.ep x.mem (.slice A x.incs.length c) (.slice A' x.msgs.length c')) ∧ V.Row w' w'.heap.size A x.incs ∧ Msgs w' w'.heap.size A' x.msgs ∧ x.incs.length ≤ c ∧ x.msgs.length ≤ c' := by
  obtain ⟨u, v, rfl, h1, h2⟩ := h
  obtain ⟨A, c, rfl, k1, h1⟩ := V.Own.row h1
  obtain ⟨A', c', rfl, k2, h2⟩ := h2.row
  exact ⟨A, c, A', c', rfl, h1, h2, k1, k2⟩

set_option maxRecDepth 100000 in
set_option maxHeartbeats 4000000 in
theorem refOwnE_any (x : Ent) (A A' : Option Addr) (c c' : Nat) (w : World) (hA : V.Row w w.heap.size A x.incs) (hM : Msgs w w.heap.size A' x.msgs) (hil : x.incs.length ≤ 1000) (hl : x.msgs.length ≤ 1000) :
    Calls Tryd.prog 11 #[ev x.t x.ep x.mem (.slice A x.incs.length c) (.slice A' x.msgs.length c')] w fun e w' => OwnE w' w.heap.size x e ∧ Below w.heap.size w w' := by
  obtain ⟨t, ep, mem, incs, l⟩ := x
  simp only at *
  have b1 := Joins.below_alloc3 w (.cells #[.int .i64 t, .int .i64 ep, .int .i64 mem, .slice A incs.length c, .slice A' l.length c'] 27) (.cells #[.int .i64 0, .int .i64 0, .int .i64 0, .slice none 0 0, .slice none 0 0] 27) (.cells #[.int .i64 t, .int .i64 ep, .int .i64 mem, .slice A incs.length c, .slice A' l.length c'] 27)
  have e0 := ((EntAt.new w t ep mem (.slice A incs.length c) (.slice A' l.length c')).on (Joins.below_alloc2 _ (.cells #[.int .i64 0, .int .i64 0, .int .i64 0, .slice none 0 0, .slice none 0 0] 27) (.cells #[.int .i64 t, .int .i64 ep, .int .i64 mem, .slice A incs.length c, .slice A' l.length c'] 27)))
  have e1 := (EntAt.new (w.alloc (.cells #[.int .i64 t, .int .i64 ep, .int .i64 mem, .slice A incs.length c, .slice A' l.length c'] 27)) 0 0 0 (.slice none 0 0) (.slice none 0 0)).on (Joins.below_alloc1 _ (.cells #[.int .i64 t, .int .i64 ep, .int .i64 mem, .slice A incs.length c, .slice A' l.length c'] 27))
  have e2 := EntAt.new ((w.alloc (.cells #[.int .i64 t, .int .i64 ep, .int .i64 mem, .slice A incs.length c, .slice A' l.length c'] 27)).alloc (.cells #[.int .i64 0, .int .i64 0, .int .i64 0, .slice none 0 0, .slice none 0 0] 27)) t ep mem (.slice A incs.length c) (.slice A' l.length c')
  simp only [World.size_alloc] at e1 e2
  have r1 := hA.below b1 (Nat.le_refl _)
  have m1 := hM.below b1 (Nat.le_refl _)
  go_enter Tryd.func11, Tryd.ntmps11
  go_upto_region 2 with (fail)
  generalize ((w.alloc (.cells #[.int .i64 t, .int .i64 ep, .int .i64 mem, .slice A incs.length c, .slice A' l.length c'] 27)).alloc (.cells #[.int .i64 0, .int .i64 0, .int .i64 0, .slice none 0 0, .slice none 0 0] 27)).alloc (.cells #[.int .i64 t, .int .i64 ep, .int .i64 mem, .slice A incs.length c, .slice A' l.length c'] 27) = W at *
  have HB := Lib.hid b1; clear b1 hA hM
  have HR := Lib.hid r1; clear r1
  have HM := Lib.hid m1; clear m1
  obtain ⟨y0, y1, y2, y3, y4⟩ := e0.cells
  have E0 := Lib.hid e0; clear e0
  have E1 := Lib.hid e1; clear e1
  have E2 := Lib.hid e2; clear e2
  go_wp2_with (at_builtin; refine V.list_app (by rfl) _ _ rfl W.heap.size w.heap.size (.slice none 0 0) [] incs A c rfl rfl (V.Own.nil _ _) HR.out (Nat.le_refl _) (by simp; omega) ?_)
  intro u w5 hown5 hg5
  obtain ⟨A5, c5, rfl, -, -⟩ := V.Own.row hown5
  have hb5 : Below W.heap.size W w5 := (V.Own.nil W W.heap.size).below hg5 (Nat.le_refl _)
  have F0 := Lib.hid (E0.out.on hb5)
  have F1 := Lib.hid (E1.out.on hb5)
  have F2 := Lib.hid (E2.out.on hb5)
  have hs5 := hb5.size
  have HB5 := Lib.hid (HB.out.trans (hb5.mono HB.out.size))
  have HOW := Lib.hid hown5
  clear hg5 y0 y1 y2 y3 y4 E0 E1 E2 hown5 HR
  obtain ⟨z0, z1, z2, z3, z4⟩ := F2.out.cells
  have hf := F2.out.frozen 3
  go_upto_region 3 with (fail)
  have hM5 := HM.out.below hb5 (by have := HB.out.size; omega)
  have hfar : ∀ g, (Value.slice A5 incs.length c5).ownBlock = some g → g ≠ w.heap.size + 1 + 1 := own_apart HOW.out F2.out (by decide)
  have hOW6 : V.Own (w5.setCell ⟨w.heap.size + 1 + 1, 3, none⟩ (.slice A5 incs.length c5)) W.heap.size (.slice A5 incs.length c5) incs := own_far HOW.out (fun g hg => Below.heap_setCell _ _ _ _ (hfar g hg))
  have G0 := Lib.hid (F0.out.far (b' := w.heap.size + 1 + 1) (i := 3) (by omega) (.slice A5 incs.length c5))
  have G1 := Lib.hid (F1.out.far (b' := w.heap.size + 1 + 1) (i := 3) (by omega) (.slice A5 incs.length c5))
  have G2 := Lib.hid (F2.out.set3 (.slice A5 incs.length c5))
  have hB6 := HB5.out.setCell (p := ⟨w.heap.size + 1 + 1, 3, none⟩) (by simp; omega) (.slice A5 incs.length c5)
  have hM6 := (hM5.below ((Below.refl w.heap.size w5).setCell (p := ⟨w.heap.size + 1 + 1, 3, none⟩) (by simp; omega) (.slice A5 incs.length c5)) (Nat.le_refl _))
  have hs6 : (w5.setCell ⟨w.heap.size + 1 + 1, 3, none⟩ (.slice A5 incs.length c5)).heap.size = w5.heap.size := by simp
  have HB6 := Lib.hid hB6; clear hB6
  have HM6 := Lib.hid hM6; clear hM6
  have HOW6 := Lib.hid hOW6; clear hOW6 hfar hM5 HM
  have hs7 : W.heap.size ≤ (w5.setCell ⟨w.heap.size + 1 + 1, 3, none⟩ (.slice A5 incs.length c5)).heap.size := by rw [hs6]; exact hs5
  clear hs6 z0 z1 z2 z3 z4 hf F0 F1 F2 HB5 HOW hb5 hs5
  generalize w5.setCell ⟨w.heap.size + 1 + 1, 3, none⟩ (.slice A5 incs.length c5) = W6 at *
  obtain ⟨y0, y1, y2, y3, y4⟩ := G0.out.cells
  go_wp2_with (at_builtin; refine list_appM (by rfl) _ _ rfl W6.heap.size w.heap.size (.slice none 0 0) [] l A' c' rfl rfl (OwnM.nil _ _) HM6.out (Nat.le_refl _) (by simp; omega) ?_)
  intro v w7 hown7 hg7
  obtain ⟨A7, c7, rfl, -, -⟩ := hown7.row
  have hb7 : Below W6.heap.size W6 w7 := (OwnM.nil W6 W6.heap.size).below hg7 (Nat.le_refl _)
  have K0 := Lib.hid (G0.out.on hb7)
  have K1 := Lib.hid (G1.out.on hb7)
  have K2 := Lib.hid (G2.out.on hb7)
  have HO7 := Lib.hid (ownsRow_on HOW6.out hb7)
  have HB7 := Lib.hid (HB6.out.trans (hb7.mono HB6.out.size))
  have HM7 := Lib.hid hown7
  have hs8 := hb7.size
  clear hg7 y0 y1 y2 y3 y4 G0 G1 G2 hown7 hb7 HOW6 HB6 HM6
  obtain ⟨z0, z1, z2, z3, z4⟩ := K2.out.cells
  have hf := K2.out.frozen 4
  go_upto_region 4 with (fail)
  have hfu : ∀ g, (Value.slice A5 incs.length c5).ownBlock = some g → g ≠ w.heap.size + 1 + 1 := own_apart HO7.out K2.out (by decide)
  have hfv : ∀ g, (Value.slice A7 l.length c7).ownBlock = some g → g ≠ w.heap.size + 1 + 1 := own_apart HM7.out K2.out (by decide)
  have hU8 : V.Own (w7.setCell ⟨w.heap.size + 1 + 1, 4, none⟩ (.slice A7 l.length c7)) W.heap.size (.slice A5 incs.length c5) incs := own_far HO7.out (fun g hg => Below.heap_setCell _ _ _ _ (hfu g hg))
  have hV8 : OwnM (w7.setCell ⟨w.heap.size + 1 + 1, 4, none⟩ (.slice A7 l.length c7)) W6.heap.size (.slice A7 l.length c7) l := own_far HM7.out (fun g hg => Below.heap_setCell _ _ _ _ (hfv g hg))
  have L1 := Lib.hid (K1.out.far (b' := w.heap.size + 1 + 1) (i := 4) (by omega) (.slice A7 l.length c7))
  have L2 := Lib.hid (K2.out.set4 (.slice A7 l.length c7))
  have HB8 := Lib.hid (HB7.out.setCell (p := ⟨w.heap.size + 1 + 1, 4, none⟩) (by simp; omega) (.slice A7 l.length c7))
  have HU8 := Lib.hid hU8
  have HV8 := Lib.hid hV8
  clear hfu hfv hU8 hV8 z0 z1 z2 z3 z4 hf K0 K1 K2 HB7 HO7 HM7
  generalize w7.setCell ⟨w.heap.size + 1 + 1, 4, none⟩ (.slice A7 l.length c7) = W8 at *
  obtain ⟨z0, z1, z2, z3, z4⟩ := L2.out.cells
  obtain ⟨x0, x1, x2, x3, x4⟩ := L1.out.cells
  have f0 := L1.out.frozen 0
  have f1 := L1.out.frozen 1
  have f2 := L1.out.frozen 2
  have f3 := L1.out.frozen 3
  have f4 := L1.out.frozen 4
  go_wp2_with fail
  have hp := putE_at L1.out t ep mem (.slice A5 incs.length c5) (.slice A7 l.length c7)
  obtain ⟨r0, r1, r2, r3, r4⟩ := hp.cells
  have hfu : ∀ g, (Value.slice A5 incs.length c5).ownBlock = some g → g ≠ w.heap.size + 1 := own_apart HU8.out L1.out (by decide)
  have hfv : ∀ g, (Value.slice A7 l.length c7).ownBlock = some g → g ≠ w.heap.size + 1 := own_apart HV8.out L1.out (by decide)
  have hu := own_far (w' := putE W8 (w.heap.size + 1) t ep mem (.slice A5 incs.length c5) (.slice A7 l.length c7)) HU8.out (fun g hg => putE_far _ (hfu g hg) _ _ _ _ _)
  have hv := own_far (w' := putE W8 (w.heap.size + 1) t ep mem (.slice A5 incs.length c5) (.slice A7 l.length c7)) HV8.out (fun g hg => putE_far _ (hfv g hg) _ _ _ _ _)
  have hbp := putE_below HB8.out (b := w.heap.size + 1) (by omega) t ep mem (.slice A5 incs.length c5) (.slice A7 l.length c7)
  have hwl : w.heap.size ≤ W.heap.size := HB.out.size
  unfold putE at r0 r1 r2 r3 r4 hu hv hbp
  refine bodyPost_ret (v := ev t ep mem (.slice A5 incs.length c5) (.slice A7 l.length c7)) (by simp [results, Tryd.results11, go_sem, r0, r1, r2, r3, r4]) rfl ⟨⟨_, _, rfl, ?_, ?_⟩, hbp⟩
  · exact (show V.Own _ w.heap.size (.slice A5 incs.length c5) incs from ⟨hu.1, hu.2.imp id (by rintro ⟨g, cap, cur, k1, k2, k3⟩; exact ⟨g, cap, cur, k1, by omega, k3⟩)⟩)
  · exact (show OwnM _ w.heap.size (.slice A7 l.length c7) l from ⟨hv.1, hv.2.imp id (by rintro ⟨g, cap, cur, k1, k2, k3⟩; exact ⟨g, cap, cur, k1, by omega, k3⟩)⟩)

end Go.Proofs.YtlgaogghoehalaaDoor

namespace Go.Proofs.YtlgaogghoehalaaDoor
open Go.RowKit

set_option maxRecDepth 100000 in
theorem refTold6_any (s : ByteArray) (k : Nat) (hk : k + 1 < s.size) (hs : s.size ≤ maxLen) (w : World) :
    Calls Tryd.prog 46 #[.string s, .int .i64 k] w fun e w' => e = .returned (.int .i64 (pairL s.data.toList k)) ∧ ∃ n, w' = w.drewN n := by
  unfold maxLen at hs
  have k0 := run_at s k k rfl (by omega)
  have k1 := run_at s ((k : Int) + 1) (k + 1) (by omega) hk
  have ek : IntKind.i64.wrap ((k : Int) + 1) = (k : Int) + 1 := IntWalk.i64_in _ (by omega)
  have HV : Hid (pairL s.data.toList k = 256 * ((s.data.toList.getD k 0).toNat : Int) + ((s.data.toList.getD (k + 1) 0).toNat : Int)) := Lib.hid rfl
  have b0 := (s.data.toList.getD k 0).toNat_lt
  have b1 := (s.data.toList.getD (k + 1) 0).toNat_lt
  generalize (s.data.toList.getD k 0).toNat = x0 at *
  generalize (s.data.toList.getD (k + 1) 0).toNat = x1 at *
  have e0 : IntKind.i64.wrap (x0 : Int) = x0 := IntWalk.i64_in _ (by omega)
  have e1 : IntKind.i64.wrap (x1 : Int) = x1 := IntWalk.i64_in _ (by omega)
  have f0 : IntKind.i64.wrap (256 * (x0 : Int)) = 256 * (x0 : Int) := IntWalk.i64_in _ (by omega)
  have g1 : IntKind.i64.wrap (256 * (x0 : Int) + (x1 : Int)) = 256 * (x0 : Int) + (x1 : Int) := IntWalk.i64_in _ (by omega)
  go_enter Tryd.func46, Tryd.ntmps46
  go_wp2_with fail
  go_quiet (fail)
  go_wp2_with fail
  go_ret
  exact ⟨ret_i HV.out.symm, _, rfl⟩

theorem refTold6_b (s : ByteArray) (k : Nat) (hk : k + 1 < s.size) (hs : s.size ≤ maxLen) (w : World) :
    Calls Tryd.prog 46 #[.string s, .int .i64 k] w fun e w' => e = .returned (.int .i64 (pairL s.data.toList k)) ∧ Below w.heap.size w w' :=
  (refTold6_any s k hk hs w).mono fun e w' ⟨h1, n, h2⟩ => ⟨h1, by rw [h2]; exact below_drewN (Below.refl _ _) n⟩
theorem own_slice {w : World} {B n c : Nat} {A : Option Addr} {l : List Int} (h : V.Own w B (.slice A n c) l) : n = l.length ∧ V.Row w w.heap.size A l := by
  obtain ⟨A', c', e, -, hr⟩ := V.Own.row h
  injection e with e1 e2 e3
  subst e1
  exact ⟨e2, hr⟩
theorem ownM_slice {w : World} {B n c : Nat} {A : Option Addr} {l : List Msg} (h : OwnM w B (.slice A n c) l) : n = l.length ∧ Msgs w w.heap.size A l := by
  obtain ⟨A', c', e, -, hr⟩ := h.row
  injection e with e1 e2 e3
  subst e1
  exact ⟨e2, hr⟩
theorem decR_small (l : List UInt8) : (decR l).data.size ≤ 255 := by
  unfold decR
  split
  · show (txt _).size ≤ 255
    rw [txt_size, List.length_take]
    have : decN l < 256 := (l.getD 11 0).toNat_lt
    omega
  · decide
theorem msgK_small (l : List UInt8) : ∀ k, ∀ m ∈ msgK l k, m.data.size ≤ 255
  | 0 => fun m hm => by cases hm
  | k + 1 => fun m hm => by
    rcases List.mem_append.1 hm with h | h
    · exact msgK_small l k m h
    · rw [List.mem_singleton] at h
      rw [h]; exact decR_small _
/-- Rows of unlike types lie in unlike blocks. -/
theorem own_kinds {w : World} {B B' : Nat} {e e' : TypeId} {k k' n n' : Nat} {u u' : Value} {xs xs' : List Value} (h : w.ownsRow B e k u n xs) (h' : w.ownsRow B' e' k' u' n' xs') (hne : e ≠ e') : ∀ g, u.ownBlock = some g → ∀ g', u'.ownBlock = some g' → g ≠ g' := by
  intro g hg g' hg' hgg
  subst hgg
  rcases h.2 with ⟨rfl, _⟩ | ⟨a, cap, cur, rfl, _, hh, _⟩
  · cases hg
  · rcases h'.2 with ⟨rfl, _⟩ | ⟨a', cap', cur', rfl, _, hh', _⟩
    · cases hg'
    · have e1 : a = g := by simpa [Value.ownBlock] using hg
      have e2 : a' = g := by simpa [Value.ownBlock] using hg'
      subst e1 e2
      rw [hh] at hh'
      injection hh' with hh'
      injection hh' with h1 h2
      exact hne h2
theorem EntAt.grown {w w' : World} {b : Nat} {t ep mem : Int} {u v : Value} {ob : Option Nat} (h : EntAt w b t ep mem u v) (hg : w.grownBy w' ob) (hne : ∀ g, ob = some g → g ≠ b) : EntAt w' b t ep mem u v :=
  (hg.block b (Array.getElem?_eq_some_iff.1 h).1 (fun e => hne b e.symm rfl)).trans h
theorem row_one {w : World} {g : Nat} {a : Int} (h : w.heap[g]? = some (.cells #[.int .i64 a] 3 (0, 0))) : V.Row w (g + 1) (some ⟨g, 0, none⟩) [a] := fun _ => by
  refine ⟨_, rfl, by show g < g + 1; omega, fun j x hx => ?_⟩
  have hj : j = 0 := by have := (List.getElem?_eq_some_iff.1 hx).1; simp at this; exact this
  subst hj
  have e : a = x := by simpa using hx
  subst e; exact (cell_of h 0).trans rfl
/-- What Decode hands back. -/
def DecEPost (l : List UInt8) (w : World) (e : Ending) (w' : World) : Prop :=
  ∃ u v, e = .returned (.tuple #[ev (decRE l).t (decRE l).ep (decRE l).mem u v, .string (txt (decRestE l)), .int .i64 (decEE l)]) ∧ V.Own w' w.heap.size u (decRE l).incs ∧ OwnM w' w.heap.size v (decRE l).msgs ∧ Below w.heap.size w w'
theorem decE_none {l : List UInt8} {E : Int} (h : decEE l = E) (hE : E ≠ 0) (w : World) : ∀ (_ : Unit) w', Below w.heap.size w w' → DecEPost l w (.returned (.tuple #[ev 0 0 0 (.slice none 0 0) (.slice none 0 0), .string ⟨#[]⟩, .int .i64 E])) w' := by
  intro _ w' hb
  have hne : ¬ decEE l = 0 := by rw [h]; exact hE
  refine ⟨.slice none 0 0, .slice none 0 0, ?_, ?_, ?_, hb⟩
  · unfold decRE decRestE
    rw [if_neg hne, if_neg hne, h]; rfl
  · unfold decRE; rw [if_neg hne]; exact V.Own.nil _ _
  · unfold decRE; rw [if_neg hne]; exact OwnM.nil _ _
theorem decE_one {l : List UInt8} (h : decEE l = 0) (w : World) : ∀ u v w', V.Own w' w.heap.size u (incsN l (hMany l)) → OwnM w' w.heap.size v (msgK (bodyL l) (eN l)) → Below w.heap.size w w' →
    DecEPost l w (.returned (.tuple #[ev (pairL l 0) (pairL l 2) (pairL l 4) u v, .string (txt (restK (bodyL l) (eN l))), .int .i64 0])) w' := by
  intro u v w' h1 h2 h3
  unfold DecEPost
  unfold decRE decRestE
  rw [if_pos h, if_pos h, h]
  exact ⟨u, v, rfl, h1, h2, h3⟩

set_option maxRecDepth 100000 in
set_option maxHeartbeats 16000000 in
theorem refDecE_any (s : ByteArray) (hs : s.size ≤ 140737488355328) (w : World) :
    Calls Tryd.prog 20 #[.string s] w (DecEPost s.data.toList w) := by
  have hl := Lib.size_eq s
  have er := EntAt.new w 0 0 0 (.slice none 0 0) (.slice none 0 0)
  have br := Joins.below_alloc1 w (.cells #[.int .i64 0, .int .i64 0, .int .i64 0, .slice none 0 0, .slice none 0 0] 27)
  by_cases h6 : s.size < 6
  · have HE := Lib.hid (decE_none (l := s.data.toList) (E := 3) (by unfold decEE; rw [if_pos (by omega)]) (by omega) w ())
    have h2 : (s.size : Int) < 6 := by omega
    have HL := Lib.hid hl; clear hl
    have ER := Lib.hid er
    have BR := Lib.hid br; clear br
    obtain ⟨r0, r1, r2, r3, r4⟩ := er.cells
    clear er
    go_enter Tryd.func20, Tryd.ntmps20
    go_wp2_with fail
    exact bodyPost_ret (v := .tuple #[ev 0 0 0 (.slice none 0 0) (.slice none 0 0), .string ⟨#[]⟩, .int .i64 3]) (by simp [results, Tryd.results20, go_sem, r0, r1, r2, r3, r4]) rfl (HE.out _ BR.out)
  · have h2 : ¬ (s.size : Int) < 6 := by omega
    have t0 := fun W => refTold6_b s 0 (by omega) (by unfold maxLen; omega) W
    have t2 := fun W => refTold6_b s 2 (by omega) (by unfold maxLen; omega) W
    have t4 := fun W => refTold6_b s 4 (by omega) (by unfold maxLen; omega) W
    have cc := fun W => V.refCount_any (pairL s.data.toList 4) W
    have hcm : V.countI (pairL s.data.toList 4) = (hMany s.data.toList : Int) := rfl
    rw [hcm] at cc
    have hM16 := hMany_le s.data.toList
    have hE0 : ∀ E, (if s.data.toList.length < 7 + 2 * hMany s.data.toList then (3 : Int) else if 16 < eN s.data.toList then 2 else if errK (bodyL s.data.toList) (eN s.data.toList) = 0 then (if rightE (entD s.data.toList) = true then 0 else 2) else errK (bodyL s.data.toList) (eN s.data.toList)) = E → decEE s.data.toList = E := fun E h => by
      unfold decEE; rw [if_neg (by omega)]; exact h
    have hent : entD s.data.toList = ⟨pairL s.data.toList 0, pairL s.data.toList 2, pairL s.data.toList 4, incsN s.data.toList (hMany s.data.toList), msgK (bodyL s.data.toList) (eN s.data.toList)⟩ := rfl
    obtain ⟨S, hS⟩ : ∃ S, S = s.data.toList := ⟨_, rfl⟩
    rw [← hS] at t0 t2 t4 cc hE0 hl hent hM16 hcm
    rw [← hS]
    have HSS := Lib.hid hS; clear hS
    have HE0 := Lib.hid hE0; clear hE0
    have HENT := Lib.hid hent; clear hent
    have HL := Lib.hid hl; clear hl
    generalize hPT : pairL S 0 = PT at *
    generalize hPE : pairL S 2 = PE at *
    generalize hPM : pairL S 4 = PM at *
    have HPT := Lib.hid hPT; clear hPT
    have HPE := Lib.hid hPE; clear hPE
    have HPM := Lib.hid hPM; clear hPM hcm
    have BR := Lib.hid br; clear br
    have ER := Lib.hid er; clear er
    have T0 := Lib.hid t0; clear t0
    have T2 := Lib.hid t2; clear t2
    have T4 := Lib.hid t4; clear t4
    go_enter Tryd.func20, Tryd.ntmps20
    go_upto_region 1 with (fail)
    generalize hb2 : w.heap.size = b2 at *
    generalize w.alloc (.cells #[.int .i64 0, .int .i64 0, .int .i64 0, .slice none 0 0, .slice none 0 0] 27) = W1 at *
    go_wp2_with fail; refine (T0.out _).mono ?_; rintro e w1 ⟨rfl, q1⟩
    go_wp2_with fail; refine (T2.out _).mono ?_; rintro e w2 ⟨rfl, q2⟩
    go_wp2_with fail; refine (T4.out _).mono ?_; rintro e w3 ⟨rfl, q3⟩
    have hq := (q1.trans (q2.mono q1.size)).trans (q3.mono (Nat.le_trans q1.size q2.size))
    have hq4 := Joins.below_alloc1 w3 (.cells #[.int .i64 PT, .int .i64 PE, .int .i64 PM, .slice none 0 0, .slice none 0 0] 27)
    have hq5 := hq.trans (hq4.mono hq.size)
    have e5 := EntAt.new w3 PT PE PM (.slice none 0 0) (.slice none 0 0)
    have HR5 := Lib.hid (ER.out.on hq5)
    have hle5 : b2 < w3.heap.size := Nat.lt_of_lt_of_le (Array.getElem?_eq_some_iff.1 ER.out).1 hq.size
    have HB5 := Lib.hid (BR.out.trans (hq5.mono (by have := BR.out.size; rw [hb2] at this; exact this)))
    clear q1 q2 q3 hq hq4 hq5 T0 T2 T4 ER BR
    go_upto_region 4 with (fail)
    generalize w3.alloc (.cells #[.int .i64 PT, .int .i64 PE, .int .i64 PM, .slice none 0 0, .slice none 0 0] 27) = W5 at *
    have hne5 : b2 ≠ w3.heap.size := by omega
    have HNE := Lib.hid hne5
    have HLB : Hid (b2 ≤ w3.heap.size) := Lib.hid (by omega)
    generalize w3.heap.size = b5 at *
    obtain ⟨y0, y1, y2, y3, y4⟩ := e5.cells
    have E5 := Lib.hid e5; clear e5 hne5 hle5
    go_wp2_with fail; refine (cc _).mono ?_; rintro e w6 ⟨rfl, q6⟩
    have ER6 := Lib.hid (HR5.out.on q6)
    have E6 := Lib.hid (E5.out.on q6)
    have HB6 := Lib.hid (HB5.out.trans (q6.mono (by have := HB5.out.size; rw [hb2] at this; exact this)))
    clear q6 y0 y1 y2 y3 y4 HR5 E5 HB5 cc
    obtain ⟨y0, y1, y2, y3, y4⟩ := E6.out.cells
    by_cases h7 : s.size < 7 + 2 * hMany S
    · have HD := Lib.hid (decE_none (HE0.out 3 (by rw [if_pos (by have := HL.out; omega)])) (by omega) w ())
      have h8 : (s.size : Int) < 7 + 2 * (hMany S : Int) := by omega
      clear HE0 HENT HPT HPE HPM
      obtain ⟨p0, p1, p2, p3, p4⟩ := ER6.out.cells
      have f0 := ER6.out.frozen 0
      have f1 := ER6.out.frozen 1
      have f2 := ER6.out.frozen 2
      have f3 := ER6.out.frozen 3
      have f4 := ER6.out.frozen 4
      go_wp2_with fail
      have hpz := putE_at ER6.out 0 0 0 (.slice none 0 0) (.slice none 0 0)
      obtain ⟨r0, r1, r2, r3, r4⟩ := hpz.cells
      have hbz := putE_below HB6.out (b := b2) (Nat.le_refl _) 0 0 0 (.slice none 0 0) (.slice none 0 0)
      unfold putE at r0 r1 r2 r3 r4 hbz
      exact bodyPost_ret (v := .tuple #[ev 0 0 0 (.slice none 0 0) (.slice none 0 0), .string ⟨#[]⟩, .int .i64 3]) (by simp [results, Tryd.results20, go_sem, r0, r1, r2, r3, r4]) rfl (HD.out _ (by rw [hb2]; exact hbz))
    · have h8 : ¬ (s.size : Int) < 7 + 2 * (hMany S : Int) := by omega
      have HE1 : Hid (∀ E, (if 16 < eN S then (2 : Int) else if errK (bodyL S) (eN S) = 0 then (if rightE (entD S) = true then 0 else 2) else errK (bodyL S) (eN S)) = E → decEE S = E) := Lib.hid (fun E h => HE0.out E (by rw [if_neg (by have := HL.out; omega)]; exact h))
      clear HE0
      clear y0 y1 y2 y3 y4 h2
      go_wp2_with fail
      go_loopw [7] (fun ix wr => ∃ (k : Nat) (A : Option Addr) (n c : Nat), k ≤ hMany S ∧ ix = .int .i64 k ∧ n = k ∧ EntAt wr b5 PT PE PM (.slice A n c) (.slice none 0 0) ∧ V.Own wr b2 (.slice A n c) (incsN S k) ∧ EntAt wr b2 0 0 0 (.slice none 0 0) (.slice none 0 0) ∧ Below b2 w wr) (fun ix _ => hMany S - (intOf ix).toNat)
      case atStart => exact ⟨0, none, 0, 0, by omega, rfl, rfl, E6.out, V.Own.nil _ _, ER6.out, HB6.out⟩
      case round =>
        obtain ⟨k, A, n, c, hk, rfl, hnk, he, hu, her, hb⟩ := hrel
        have HE := Lib.hid he; clear he
        have HU := Lib.hid hu; clear hu
        have HER := Lib.hid her; clear her
        have HBR := Lib.hid hb; clear hb
        have HNK := Lib.hid hnk; clear hnk E6 ER6 HB6
        obtain ⟨y0, y1, y2, y3, y4⟩ := HE.out.cells
        by_cases hlt : k < hMany S
        · have ht := fun W => refTold6_b s (6 + 2 * k) (by omega) (by unfold maxLen; omega) W
          rw [← HSS.out, show ((6 + 2 * k : Nat) : Int) = 6 + 2 * (k : Int) by omega] at ht
          have HNX : Hid (incsN S (k + 1) = incsN S k ++ [pairL S (6 + 2 * k)]) := Lib.hid rfl
          generalize pairL S (6 + 2 * k) = X at *
          have g1 : IntKind.i64.wrap (2 * (k : Int)) = 2 * (k : Int) := IntWalk.i64_in _ (by omega)
          have g2 : IntKind.i64.wrap (6 + 2 * (k : Int)) = 6 + 2 * (k : Int) := IntWalk.i64_in _ (by omega)
          have hlb : b2 ≤ wr.heap.size := by have := HBR.out.size; rw [hb2] at this; exact this
          have HTT := Lib.hid ht
          have HG1 := Lib.hid g1
          have HG2 := Lib.hid g2
          clear ht g1 g2 y0 y1 y2 y3 y4
          go_wp2_with fail
          have HLN : Hid ((incsN S (k + 1)).length = n + 1) := Lib.hid (by rw [incsN_length, HNK.out])
          have HNL : Hid ((incsN S k).length + [X].length ≤ 1000) := Lib.hid (by rw [incsN_length]; simp; omega)
          have HNS : Hid (n = (incsN S k).length) := Lib.hid (by rw [incsN_length]; exact HNK.out)
          have HV : ∃ Vp : Nat → (Nat → Value) → World → Prop, Vp = (fun ix u wv => match ix with
            | 0 => u 0 = .pointer (some ⟨b5, 3, none⟩)
            | 1 => u 1 = .slice A n c
            | 2 => u 2 = .string s
            | 3 => u 3 = .int .i64 (k : Int)
            | 4 => u 4 = .int .i64 (2 * (k : Int))
            | 5 => u 5 = .int .i64 (6 + 2 * (k : Int))
            | 6 => u 6 = .int .i64 X
            | 7 => ∃ g, u 7 = .slice (some ⟨g, 0, none⟩) 1 1 ∧ wv.heap[g]? = some (.cells #[.int .i64 X] 3 (0, 0))
            | 8 => ∃ A9 c9, u 8 = .slice A9 (n + 1) c9 ∧ V.Own wv b2 (.slice A9 (n + 1) c9) (incsN S (k + 1))
            | 9 => u 9 = .pointer (some ⟨b5, 3, none⟩)
            | 10 => ∃ A9 c9, EntAt wv b5 PT PE PM (.slice A9 (n + 1) c9) (.slice none 0 0) ∧ V.Own wv b2 (.slice A9 (n + 1) c9) (incsN S (k + 1))
            | _ => True) := ⟨_, rfl⟩
          obtain ⟨Vp, hVdef⟩ := HV
          have Vp0 : ∀ u wv, Vp 0 u wv = (u 0 = .pointer (some ⟨b5, 3, none⟩)) := fun u wv => by subst hVdef; rfl
          have Vp1 : ∀ u wv, Vp 1 u wv = (u 1 = .slice A n c) := fun u wv => by subst hVdef; rfl
          have Vp2 : ∀ u wv, Vp 2 u wv = (u 2 = .string s) := fun u wv => by subst hVdef; rfl
          have Vp3 : ∀ u wv, Vp 3 u wv = (u 3 = .int .i64 (k : Int)) := fun u wv => by subst hVdef; rfl
          have Vp4 : ∀ u wv, Vp 4 u wv = (u 4 = .int .i64 (2 * (k : Int))) := fun u wv => by subst hVdef; rfl
          have Vp5 : ∀ u wv, Vp 5 u wv = (u 5 = .int .i64 (6 + 2 * (k : Int))) := fun u wv => by subst hVdef; rfl
          have Vp6 : ∀ u wv, Vp 6 u wv = (u 6 = .int .i64 X) := fun u wv => by subst hVdef; rfl
          have Vp7 : ∀ u wv, Vp 7 u wv = (∃ g, u 7 = .slice (some ⟨g, 0, none⟩) 1 1 ∧ wv.heap[g]? = some (.cells #[.int .i64 X] 3 (0, 0))) := fun u wv => by subst hVdef; rfl
          have Vp8 : ∀ u wv, Vp 8 u wv = (∃ A9 c9, u 8 = .slice A9 (n + 1) c9 ∧ V.Own wv b2 (.slice A9 (n + 1) c9) (incsN S (k + 1))) := fun u wv => by subst hVdef; rfl
          have Vp9 : ∀ u wv, Vp 9 u wv = (u 9 = .pointer (some ⟨b5, 3, none⟩)) := fun u wv => by subst hVdef; rfl
          have Vp10 : ∀ u wv, Vp 10 u wv = (∃ A9 c9, EntAt wv b5 PT PE PM (.slice A9 (n + 1) c9) (.slice none 0 0) ∧ V.Own wv b2 (.slice A9 (n + 1) c9) (incsN S (k + 1))) := fun u wv => by subst hVdef; rfl
          have HVD := Lib.hid hVdef
          clear hVdef
          refine region_phase (V := Vp) (drop := fun jx ix => (jx == 8 && ix == 7) || (jx == 10 && ix == 7) || (jx == 10 && ix == 8)) (G := fun L wv => (L 10 = false → EntAt wv b5 PT PE PM (.slice A n c) (.slice none 0 0)) ∧ (L 8 = false → V.Own wv b2 (.slice A n c) (incsN S k)) ∧ EntAt wv b2 0 0 0 (.slice none 0 0) (.slice none 0 0) ∧ Below b2 w wv ∧ b2 ≤ wv.heap.size) (Rel := fun jx wv wv' => jx = 8 ∨ jx = 10 ∨ Below wv.heap.size wv wv') (by kernel_rfl) (by kernel_rfl) ⟨fun _ => HE.out.on (Below.refl _ _).drew, fun _ => ownsRow_on HU.out (Below.refl _ _).drew, HER.out.on (Below.refl _ _).drew, HBR.out.trans ((Below.refl _ _).drew.mono hlb), hlb⟩ ?hmonop1 ?hdepp1 ⟨?s0_p1, ?s1_p1, ?s2_p1, ?s3_p1, ?s4_p1, ?s5_p1, ?s6_p1, ?s7_p1, ?s8_p1, ?s9_p1, ?s10_p1, trivial⟩ ?behindp1
          case hmonop1 =>
            intro ix jx u wv wv' hij hw hd hr
            rw [HVD.out]
            dsimp only
            split <;> intro h <;> first | exact trivial | exact h | (rcases hr with rfl | rfl | hb; (focus first | exact absurd rfl hij | (simp at hd; done) | (exact Bool.noConfusion (hw.symm.trans (show _ = true from by kernel_rfl)))); (focus first | exact absurd rfl hij | (simp at hd; done) | (exact Bool.noConfusion (hw.symm.trans (show _ = true from by kernel_rfl)))); (first | (obtain ⟨g, e, hg⟩ := h; exact ⟨g, e, (hb.block g (Array.getElem?_eq_some_iff.1 hg).1).trans hg⟩) | (obtain ⟨A9, c9, e, hg⟩ := h; first | exact ⟨A9, c9, e, ownsRow_on hg hb⟩ | exact ⟨A9, c9, e.on hb, ownsRow_on hg hb⟩)))
          case hdepp1 =>
            intro ix u u' wv h1 h2
            rw [HVD.out]
            dsimp only
            split <;> intro h <;> first | exact trivial | (rw [← h1]; exact h) | exact h
          case s0_p1 =>
            refine oweP rfl fun a wx val L hG hi hW hV hN hO K hK => ?_
            have e5 : a.tmps[5]? = some (.pointer (some ⟨b5, 0, none⟩)) := (hO 5 (by kernel_rfl)).trans (by rfl)
            clear hV hN hO
            go_simp
            exact hK.out _ _ (by rw [Vp0, upd_at] <;> (congr 1 <;> omega)) (.inr (.inr (Below.refl _ _))) (⟨fun h => hG.1 (upL_false h), fun h => hG.2.1 (upL_false h), hG.2.2.1, hG.2.2.2.1, hG.2.2.2.2⟩)
          case s1_p1 =>
            refine oweP rfl fun a wx val L hG hi hW hV hN hO K hK => ?_
            have e40 := hN 0 40 (by kernel_rfl) (by kernel_rfl) (by simp)
            have f40 := hV 0 (by kernel_rfl) (by kernel_rfl)
            rw [Vp0] at f40; rw [f40] at e40; clear f40
            clear hV hN hO
            obtain ⟨y0, y1, y2, y3, y4⟩ := (hG.1 (hW 10 (by kernel_rfl))).cells
            go_simp
            exact hK.out _ _ (by rw [Vp1, upd_at] <;> (congr 1 <;> omega)) (.inr (.inr (Below.refl _ _))) (⟨fun h => hG.1 (upL_false h), fun h => hG.2.1 (upL_false h), hG.2.2.1, hG.2.2.2.1, hG.2.2.2.2⟩)
          case s2_p1 =>
            refine oweP rfl fun a wx val L hG hi hW hV hN hO K hK => ?_
            have e0 : a.tmps[0]? = some (.string s) := (hO 0 (by kernel_rfl)).trans (by rfl)
            clear hV hN hO
            go_simp
            exact hK.out _ _ (by rw [Vp2, upd_at] <;> (congr 1 <;> omega)) (.inr (.inr (Below.refl _ _))) (⟨fun h => hG.1 (upL_false h), fun h => hG.2.1 (upL_false h), hG.2.2.1, hG.2.2.2.1, hG.2.2.2.2⟩)
          case s3_p1 =>
            refine oweP rfl fun a wx val L hG hi hW hV hN hO K hK => ?_
            have e7 : a.tmps[7]? = some (.int .i64 (k : Int)) := (hO 7 (by kernel_rfl)).trans (by rfl)
            clear hV hN hO
            go_simp
            exact hK.out _ _ (by rw [Vp3, upd_at] <;> (congr 1 <;> omega)) (.inr (.inr (Below.refl _ _))) (⟨fun h => hG.1 (upL_false h), fun h => hG.2.1 (upL_false h), hG.2.2.1, hG.2.2.2.1, hG.2.2.2.2⟩)
          case s4_p1 =>
            refine oweP rfl fun a wx val L hG hi hW hV hN hO K hK => ?_
            have e43 := hN 3 43 (by kernel_rfl) (by kernel_rfl) (by simp)
            have f43 := hV 3 (by kernel_rfl) (by kernel_rfl)
            rw [Vp3] at f43; rw [f43] at e43; clear f43
            clear hV hN hO
            have g1 := HG1.out
            go_simp
            exact hK.out _ _ (by rw [Vp4, upd_at] <;> (congr 1 <;> omega)) (.inr (.inr (Below.refl _ _))) (⟨fun h => hG.1 (upL_false h), fun h => hG.2.1 (upL_false h), hG.2.2.1, hG.2.2.2.1, hG.2.2.2.2⟩)
          case s5_p1 =>
            refine oweP rfl fun a wx val L hG hi hW hV hN hO K hK => ?_
            have e44 := hN 4 44 (by kernel_rfl) (by kernel_rfl) (by simp)
            have f44 := hV 4 (by kernel_rfl) (by kernel_rfl)
            rw [Vp4] at f44; rw [f44] at e44; clear f44
            clear hV hN hO
            have g2 := HG2.out
            go_simp
            exact hK.out _ _ (by rw [Vp5, upd_at] <;> (congr 1 <;> omega)) (.inr (.inr (Below.refl _ _))) (⟨fun h => hG.1 (upL_false h), fun h => hG.2.1 (upL_false h), hG.2.2.1, hG.2.2.2.1, hG.2.2.2.2⟩)
          case s6_p1 =>
            refine oweP rfl fun a wx val L hG hi hW hV hN hO K hK => ?_
            have e42 := hN 2 42 (by kernel_rfl) (by kernel_rfl) (by simp)
            have f42 := hV 2 (by kernel_rfl) (by kernel_rfl)
            rw [Vp2] at f42; rw [f42] at e42; clear f42
            have e45 := hN 5 45 (by kernel_rfl) (by kernel_rfl) (by simp)
            have f45 := hV 5 (by kernel_rfl) (by kernel_rfl)
            rw [Vp5] at f45; rw [f45] at e45; clear f45
            clear hV hN hO
            go_simp
            refine (HTT.out _).mono ?_
            rintro e w11 ⟨rfl, hb⟩
            exact hK.out _ _ (by rw [Vp6, upd_at]) (.inr (.inr (hb))) (⟨fun h => (hG.1 (upL_false h)).on hb, fun h => ownsRow_on (hG.2.1 (upL_false h)) hb, hG.2.2.1.on hb, hG.2.2.2.1.trans (hb.mono hG.2.2.2.2), Nat.le_trans hG.2.2.2.2 hb.size⟩)
          case s7_p1 =>
            refine oweP rfl fun a wx val L hG hi hW hV hN hO K hK => ?_
            have e46 := hN 6 46 (by kernel_rfl) (by kernel_rfl) (by simp)
            have f46 := hV 6 (by kernel_rfl) (by kernel_rfl)
            rw [Vp6] at f46; rw [f46] at e46; clear f46
            clear hV hN hO
            go_simp
            have hb := Joins.below_alloc1 wx (.cells #[.int .i64 X] 3)
            exact hK.out _ _ (by rw [Vp7, upd_at]; exact ⟨_, rfl, heap_alloc_new _ _⟩) (.inr (.inr hb)) (⟨fun h => (hG.1 (upL_false h)).on hb, fun h => ownsRow_on (hG.2.1 (upL_false h)) hb, hG.2.2.1.on hb, hG.2.2.2.1.trans (hb.mono hG.2.2.2.2), Nat.le_trans hG.2.2.2.2 hb.size⟩)
          case s8_p1 =>
            refine oweP rfl fun a wx val L hG hi hW hV hN hO K hK => ?_
            have e41 := hN 1 41 (by kernel_rfl) (by kernel_rfl) (by simp)
            have f41 := hV 1 (by kernel_rfl) (by kernel_rfl)
            rw [Vp1] at f41; rw [f41] at e41; clear f41
            have e47 := hN 7 47 (by kernel_rfl) (by kernel_rfl) (by simp)
            have f47 := hV 7 (by kernel_rfl) (by kernel_rfl)
            rw [Vp7] at f47; obtain ⟨g, hv, hgg⟩ := f47; rw [hv] at e47
            clear hV hN hO
            have hOw := hG.2.1 hi
            have hEn := hG.1 (hW 10 (by kernel_rfl))
            refine V.wp_app (.tmp 41) (.tmp 47) rfl b2 (g + 1) (.slice A n c) (incsN S k) [X] (some ⟨g, 0, none⟩) 1 (by simp [Act.eval, e41]) (by simp [Act.eval, e47]) hOw (row_one hgg) hG.2.2.2.2 HNL.out ?_
            intro u' w5 hown5 hg5
            rw [← HNX.out] at hown5
            obtain ⟨A9, c9, rfl, -, -⟩ := V.Own.row hown5
            rw [HLN.out] at hown5 ⊢
            exact hK.out _ _ (by rw [Vp8, upd_at]; exact ⟨A9, c9, rfl, hown5⟩) (.inl rfl) ⟨fun h => hEn.grown hg5 (own_apart hOw hEn (by decide)), fun h => (upL_self h).elim, hG.2.2.1.grown hg5 (own_apart hOw hG.2.2.1 (by decide)), hG.2.2.2.1.grown hg5 hG.2.2.2.2 (fun g e => (hOw.lt g e).1), Nat.le_trans hG.2.2.2.2 hg5.size⟩
          case s9_p1 =>
            refine oweP rfl fun a wx val L hG hi hW hV hN hO K hK => ?_
            have e5 : a.tmps[5]? = some (.pointer (some ⟨b5, 0, none⟩)) := (hO 5 (by kernel_rfl)).trans (by rfl)
            clear hV hN hO
            go_simp
            exact hK.out _ _ (by rw [Vp9, upd_at] <;> (congr 1 <;> omega)) (.inr (.inr (Below.refl _ _))) (⟨fun h => hG.1 (upL_false h), fun h => hG.2.1 (upL_false h), hG.2.2.1, hG.2.2.2.1, hG.2.2.2.2⟩)
          case s10_p1 =>
            refine oweP rfl fun a wx val L hG hi hW hV hN hO K hK => ?_
            have e49 := hN 9 49 (by kernel_rfl) (by kernel_rfl) (by simp)
            have f49 := hV 9 (by kernel_rfl) (by kernel_rfl)
            rw [Vp9] at f49; rw [f49] at e49; clear f49
            have e48 := hN 8 48 (by kernel_rfl) (by kernel_rfl) (by simp)
            have f48 := hV 8 (by kernel_rfl) (by kernel_rfl)
            rw [Vp8] at f48; obtain ⟨A9, c9, hv, hoo⟩ := f48; rw [hv] at e48
            clear hV hN hO
            have hEn := hG.1 hi
            obtain ⟨y0, y1, y2, y3, y4⟩ := hEn.cells
            have hf := hEn.frozen 3
            go_simp
            exact hK.out undef (wx.setCell ⟨b5, 3, none⟩ (.slice A9 (n + 1) c9)) (by rw [Vp10]; exact ⟨A9, c9, hEn.set3 _, own_far hoo (fun g hg => Below.heap_setCell _ _ _ _ (own_apart hoo hEn (by decide) g hg))⟩) (.inr (.inl rfl)) ⟨fun h => (upL_self h).elim, fun h => own_far (hG.2.1 (upL_false h)) (fun g hg => Below.heap_setCell _ _ _ _ (own_apart (hG.2.1 (upL_false h)) hEn (by decide) g hg)), hG.2.2.1.far HNE.out _, hG.2.2.2.1.setCell (p := ⟨b5, 3, none⟩) HLB.out _, Nat.le_trans hG.2.2.2.2 (Nat.le_of_eq (World.size_setCell _ _ _).symm)⟩
          intro val wx L hG hV
          have f0 := hV 0 (by simp) (fun _ _ => by simp)
          rw [Vp0] at f0
          have f1 := hV 1 (by simp) (fun _ _ => by simp)
          rw [Vp1] at f1
          have f2 := hV 2 (by simp) (fun _ _ => by simp)
          rw [Vp2] at f2
          have f3 := hV 3 (by simp) (fun _ _ => by simp)
          rw [Vp3] at f3
          have f4 := hV 4 (by simp) (fun _ _ => by simp)
          rw [Vp4] at f4
          have f5 := hV 5 (by simp) (fun _ _ => by simp)
          rw [Vp5] at f5
          have f6 := hV 6 (by simp) (fun _ _ => by simp)
          rw [Vp6] at f6
          have f9 := hV 9 (by simp) (fun _ _ => by simp)
          rw [Vp9] at f9
          have f10 := hV 10 (by simp) (fun _ _ => by simp)
          rw [Vp10] at f10
          clear hV Vp0 Vp1 Vp2 Vp3 Vp4 Vp5 Vp6 Vp7 Vp8 Vp9 Vp10
          simp only [putAll, Act.put, List.setIfInBounds_toArray, List.set_cons_zero, List.set_cons_succ]
          generalize val 0 = z0 at *; (subst f0)
          generalize val 1 = z1 at *; (subst f1)
          generalize val 2 = z2 at *; (subst f2)
          generalize val 3 = z3 at *; (subst f3)
          generalize val 4 = z4 at *; (subst f4)
          generalize val 5 = z5 at *; (subst f5)
          generalize val 6 = z6 at *; (subst f6)
          generalize val 7 = z7 at *
          generalize val 8 = z8 at *
          generalize val 9 = z9 at *; (subst f9)
          clear HVD
          obtain ⟨A9, c9, he9, hu9⟩ := f10
          have HE9 := Lib.hid he9
          have HU9 := Lib.hid hu9
          have HR9 := Lib.hid hG.2.2.1
          have HB9 := Lib.hid hG.2.2.2.1
          have HNN : Hid (n + 1 = k + 1) := Lib.hid (by have := HNK.out; omega)
          clear he9 hu9 hG
          go_wp2_with fail
          go_roundw
          case rel => exact ⟨k + 1, A9, n + 1, c9, by omega, by go_num, HNN.out, HE9.out, HU9.out, HR9.out, HB9.out⟩
          case measure => simp [intOf]; omega
        · have ek : k = hMany S := by omega
          have HUU : Hid (V.Own wr b2 (.slice A n c) (incsN S (hMany S))) := Lib.hid (by rw [← ek]; exact HU.out)
          clear HU
          have hx := run_at s (6 + 2 * (hMany S : Int)) (6 + 2 * hMany S) (by omega) (by omega)
          have hN : eN S = (S.getD (6 + 2 * hMany S) 0).toNat := rfl
          have hNb := (S.getD (6 + 2 * hMany S) 0).toNat_lt
          rw [← HSS.out, ← hN] at hx
          rw [← hN] at hNb
          have hfr := run_from s (7 + 2 * (hMany S : Int)) (7 + 2 * hMany S) (by omega) (by omega)
          have hbd : S.drop (7 + 2 * hMany S) = bodyL S := rfl
          rw [← HSS.out, hbd] at hfr
          have hbl : (bodyL S).length ≤ s.size := by rw [← hbd, List.length_drop, HL.out]; omega
          have HBLN := Lib.hid hbl
          have g1 : IntKind.i64.wrap (2 * (hMany S : Int)) = 2 * (hMany S : Int) := IntWalk.i64_in _ (by omega)
          have g2 : IntKind.i64.wrap (6 + 2 * (hMany S : Int)) = 6 + 2 * (hMany S : Int) := IntWalk.i64_in _ (by omega)
          have g3 : IntKind.i64.wrap (7 + 2 * (hMany S : Int)) = 7 + 2 * (hMany S : Int) := IntWalk.i64_in _ (by omega)
          clear hN hbd hbl y0 y1 y2 y3 y4
          by_cases h16 : 16 < eN S
          · have HD := Lib.hid (decE_none (HE1.out 2 (by rw [if_pos h16])) (by omega) w ())
            have h17 : (16 : Int) < (eN S : Int) := by omega
            clear HE1 HENT HPT HPE HPM HUU
            obtain ⟨p0, p1, p2, p3, p4⟩ := HER.out.cells
            have f0 := HER.out.frozen 0
            have f1 := HER.out.frozen 1
            have f2 := HER.out.frozen 2
            have f3 := HER.out.frozen 3
            have f4 := HER.out.frozen 4
            go_wp2_with fail
            have hpz := putE_at HER.out 0 0 0 (.slice none 0 0) (.slice none 0 0)
            obtain ⟨r0, r1, r2, r3, r4⟩ := hpz.cells
            have hbz := putE_below HBR.out (b := b2) (Nat.le_refl _) 0 0 0 (.slice none 0 0) (.slice none 0 0)
            unfold putE at r0 r1 r2 r3 r4 hbz
            exact bodyPost_ret (v := .tuple #[ev 0 0 0 (.slice none 0 0) (.slice none 0 0), .string ⟨#[]⟩, .int .i64 2]) (by simp [results, Tryd.results20, go_sem, r0, r1, r2, r3, r4]) rfl (HD.out _ (by rw [hb2]; exact hbz))
          · have HE2 : Hid (∀ E, (if errK (bodyL S) (eN S) = 0 then (if rightE (entD S) = true then (0 : Int) else 2) else errK (bodyL S) (eN S)) = E → decEE S = E) := Lib.hid (fun E h => HE1.out E (by rw [if_neg h16]; exact h))
            have h17 : ¬ (16 : Int) < (eN S : Int) := by omega
            clear HE1
            have HUM : Hid (OwnM wr b2 (.slice none 0 0) (msgK (bodyL S) 0)) := Lib.hid (OwnM.nil _ _)
            go_wp2_with fail
            clear hx hfr g1 g2 g3 HSS
            have HONE0 := Lib.hid (fun h => decE_one (l := S) h w)
            generalize bodyL S = Bd at *
            generalize eN S = NN at *
            go_loopw [9, 10, 11, 12, 13] (fun rs ix _ _ _ wz => ∃ (k : Nat) (A' : Option Addr) (n' c' : Nat), k ≤ NN ∧ ix = .int .i64 k ∧ rs = .string (txt (restK Bd k)) ∧ n' = k ∧ errK Bd k = 0 ∧ (restK Bd k).length ≤ Bd.length ∧ EntAt wz b5 PT PE PM (.slice A n c) (.slice A' n' c') ∧ V.Own wz b2 (.slice A n c) (incsN S (hMany S)) ∧ OwnM wz b2 (.slice A' n' c') (msgK Bd k) ∧ EntAt wz b2 0 0 0 (.slice none 0 0) (.slice none 0 0) ∧ Below b2 w wz) (fun _ ix _ _ _ _ => NN - (intOf ix).toNat)
            case atStart => exact ⟨0, none, 0, 0, by omega, rfl, rfl, rfl, rfl, Nat.le_refl _, HE.out, HUU.out, HUM.out, HER.out, HBR.out⟩
            case round =>
              obtain ⟨j, A', n', c', hj, rfl, rfl, hnj, herr, hrl, he, hu, hv, her, hb⟩ := hrel
              have HJE := Lib.hid he; clear he
              have HJU := Lib.hid hu; clear hu
              have HJV := Lib.hid hv; clear hv
              have HJR := Lib.hid her; clear her
              have HJB := Lib.hid hb; clear hb
              have HNJ := Lib.hid hnj; clear hnj HE HUU HUM HER HBR
              have HERR := Lib.hid herr; clear herr
              have HRL := Lib.hid hrl; clear hrl
              by_cases hjl : j < NN
              · have cd := fun W => refDec_any (txt (restK Bd j)) (by rw [txt_size]; unfold maxLen; have := HRL.out; have := HBLN.out; omega) W
                unfold DecPost at cd
                simp only [txt_data] at cd
                have hbz : b2 ≤ wr.heap.size := by have := HJB.out.size; rw [hb2] at this; exact this
                by_cases hde : decE (restK Bd j) = 0
                · rw [hde] at cd
                  have HEN : Hid (errK Bd (j + 1) = 0) := Lib.hid (errK_next Bd HERR.out hde)
                  have HRN : Hid ((restK Bd (j + 1)).length ≤ Bd.length) := Lib.hid (by
                    show (decRest (restK Bd j)).length ≤ _
                    unfold decRest
                    rw [if_pos hde, List.length_drop]
                    have := HRL.out
                    omega)
                  have HMN : Hid (msgK Bd (j + 1) = msgK Bd j ++ [decR (restK Bd j)]) := Lib.hid rfl
                  have HRS : Hid (decRest (restK Bd j) = restK Bd (j + 1)) := Lib.hid rfl
                  rw [HRS.out] at cd
                  have HLM : Hid ((msgK Bd j).length + [decR (restK Bd j)].length ≤ 1000) := Lib.hid (by rw [msgK_length]; simp; omega)
                  have HLN : Hid ((msgK Bd (j + 1)).length = n' + 1) := Lib.hid (by rw [msgK_length, HNJ.out])
                  clear hde
                  generalize decR (restK Bd j) = MM at *
                  have hq8 := fun (w7 : World) => Joins.below_alloc1 w7 (.cells (mc MM) 36)
                  have hm8 := fun (w7 : World) => (show MsgAt (w7.alloc (.cells (mc MM) 36)) w7.heap.size MM from heap_alloc_new w7 _)
                  have hb1 := fun (w7 : World) => Joins.below_alloc1 w7 (.cells (mc MM) 36)
                  obtain ⟨me, mn, ms, mi, mq, mu, md⟩ := MM
                  simp only [mv, mc] at *
                  go_wp2_with fail; refine (cd _).mono ?_; rintro e w7 ⟨rfl, q7⟩
                  have hq9 := q7.trans ((hq8 w7).mono q7.size)
                  have HM8 := Lib.hid (hm8 w7)
                  have HE8 := Lib.hid (HJE.out.on hq9)
                  have HU8 := Lib.hid (ownsRow_on HJU.out hq9)
                  have HV8 := Lib.hid (ownsRow_on HJV.out hq9)
                  have HR8 := Lib.hid (HJR.out.on hq9)
                  have HB8 := Lib.hid (HJB.out.trans (hq9.mono hbz))
                  have HZ8 : Hid (b2 ≤ (w7.alloc (.cells #[.bool me, .int .i64 mn, .int .i64 ms, .int .i64 mi, .int .i64 mq, .int .i64 mu, .string md] 36)).heap.size) := Lib.hid (by have := hq9.size; omega)
                  clear q7 hq9 hq8 hm8 cd HJE HJU HJV HJR HJB hbz
                  go_upto_region 21 with (fail)
                  generalize w7.alloc (.cells #[.bool me, .int .i64 mn, .int .i64 ms, .int .i64 mi, .int .i64 mq, .int .i64 mu, .string md] 36) = W8 at *
                  generalize w7.heap.size = gm at *
                  obtain ⟨_, x0, x1, x2, x3, x4, x5, x6⟩ := Holds.of_blk HM8.out
                  simp only at x0 x1 x2 x3 x4 x5 x6
                  obtain ⟨y0, y1, y2, y3, y4⟩ := HE8.out.cells
                  have hb8 := hb1 W8
                  have h1 : MsgAt (W8.alloc (.cells #[.bool me, .int .i64 mn, .int .i64 ms, .int .i64 mi, .int .i64 mq, .int .i64 mu, .string md] 36)) W8.heap.size ⟨me, mn, ms, mi, mq, mu, md⟩ := heap_alloc_new W8 _
                  have HB1 := Lib.hid hb8
                  have HMO := Lib.hid (Msgs.one h1)
                  have hz9 := Nat.le_trans HZ8.out hb8.size
                  have HZ9 := Lib.hid hz9
                  have HVE := Lib.hid (ownsRow_on HV8.out hb8)
                  clear hb1 hb8 h1 hz9
                  go_wp2_with (at_builtin; refine list_appM (by rfl) _ _ rfl b2 _ (.slice A' n' c') (msgK Bd j) [⟨me, mn, ms, mi, mq, mu, md⟩] (some ⟨W8.heap.size, 0, none⟩) 1 rfl rfl HVE.out HMO.out HZ9.out HLM.out ?_)
                  intro v' w9 hown9 hg9
                  rw [← HMN.out] at hown9
                  obtain ⟨A9, c9, rfl, -, -⟩ := hown9.row
                  rw [HLN.out] at hown9 ⊢
                  have HO9 := Lib.hid hown9
                  have hE1 := HE8.out.on HB1.out
                  have hap := own_apart HVE.out hE1 (by decide)
                  have HE9 := Lib.hid (hE1.grown hg9 hap)
                  have hU1 := ownsRow_on HU8.out HB1.out
                  have hR1 := HR8.out.on HB1.out
                  have HR9 := Lib.hid (hR1.grown hg9 (own_apart HVE.out hR1 (by decide)))
                  have hB1 := HB8.out.trans (HB1.out.mono HZ8.out)
                  have HB9 := Lib.hid (hB1.grown hg9 HZ9.out (fun g e => (HVE.out.lt g e).1))
                  have HU9 : Hid (V.Own w9 b2 (.slice A n c) (incsN S (hMany S))) := Lib.hid (own_far hU1 (fun g hg => hg9.block g (hU1.lt g hg).2 (fun e => own_kinds hU1 HVE.out (by decide) g hg g e.symm rfl)))
                  clear hown9 hg9 hE1 hap hU1 hR1 hB1 HE8 HU8 HV8 HR8 HB8 HZ8 HM8 HB1 HMO HZ9 HVE x0 x1 x2 x3 x4 x5 x6 y0 y1 y2 y3 y4
                  obtain ⟨y0, y1, y2, y3, y4⟩ := HE9.out.cells
                  have f4 := HE9.out.frozen 4
                  go_upto_region 22 with (fail)
                  have hf9 := own_apart HO9.out HE9.out (by decide)
                  have hfu := own_apart HU9.out HE9.out (by decide)
                  have K1 := Lib.hid (HE9.out.set4 (.slice A9 (n' + 1) c9))
                  have K2 : Hid (OwnM (w9.setCell ⟨b5, 4, none⟩ (.slice A9 (n' + 1) c9)) b2 (.slice A9 (n' + 1) c9) (msgK Bd (j + 1))) := Lib.hid (own_far HO9.out (fun g hg => Below.heap_setCell _ _ _ _ (hf9 g hg)))
                  have K3 : Hid (V.Own (w9.setCell ⟨b5, 4, none⟩ (.slice A9 (n' + 1) c9)) b2 (.slice A n c) (incsN S (hMany S))) := Lib.hid (own_far HU9.out (fun g hg => Below.heap_setCell _ _ _ _ (hfu g hg)))
                  have K4 := Lib.hid (HR9.out.far (b' := b5) (i := 4) HNE.out (.slice A9 (n' + 1) c9))
                  have K5 := Lib.hid (HB9.out.setCell (p := ⟨b5, 4, none⟩) HLB.out (.slice A9 (n' + 1) c9))
                  clear hf9 hfu HE9 HO9 HU9 HR9 HB9 y0 y1 y2 y3 y4 f4
                  generalize w9.setCell ⟨b5, 4, none⟩ (.slice A9 (n' + 1) c9) = W10 at *
                  have HNN2 : Hid (n' + 1 = j + 1) := Lib.hid (by have := HNJ.out; omega)
                  go_wp2_with fail
                  go_roundw
                  case rel => exact ⟨j + 1, A9, n' + 1, c9, by omega, by go_num, rfl, HNN2.out, HEN.out, HRN.out, K1.out, K3.out, K2.out, K4.out, K5.out⟩
                  case measure => simp [intOf]; omega
                · have hdz : ((decE (restK Bd j) : Int) != 0) = true := by simpa using hde
                  have HD := Lib.hid (decE_none (HE2.out (decE (restK Bd j)) (by rw [errK_at Bd hjl HERR.out hde, if_neg hde])) hde w ())
                  clear HE2 HENT hde
                  generalize decE (restK Bd j) = E at *
                  generalize decR (restK Bd j) = MM at *
                  obtain ⟨me, mn, ms, mi, mq, mu, md⟩ := MM
                  simp only [mv] at cd
                  go_wp2_with fail; refine (cd _).mono ?_; rintro e w7 ⟨rfl, q7⟩
                  have hq8 := Joins.below_alloc1 w7 (.cells #[.bool me, .int .i64 mn, .int .i64 ms, .int .i64 mi, .int .i64 mq, .int .i64 mu, .string md] 36)
                  have hq9 := q7.trans (hq8.mono q7.size)
                  have HR8 := Lib.hid (HJR.out.on hq9)
                  have HB8 := Lib.hid (HJB.out.trans (hq9.mono hbz))
                  clear q7 hq8 hq9 cd
                  go_upto_region 19 with (fail)
                  generalize w7.alloc (.cells #[.bool me, .int .i64 mn, .int .i64 ms, .int .i64 mi, .int .i64 mq, .int .i64 mu, .string md] 36) = W8 at *
                  obtain ⟨p0, p1, p2, p3, p4⟩ := HR8.out.cells
                  have f0 := HR8.out.frozen 0
                  have f1 := HR8.out.frozen 1
                  have f2 := HR8.out.frozen 2
                  have f3 := HR8.out.frozen 3
                  have f4 := HR8.out.frozen 4
                  go_wp2_with fail
                  have hpz := putE_at HR8.out 0 0 0 (.slice none 0 0) (.slice none 0 0)
                  obtain ⟨r0, r1, r2, r3, r4⟩ := hpz.cells
                  have hbz := putE_below HB8.out (b := b2) (Nat.le_refl _) 0 0 0 (.slice none 0 0) (.slice none 0 0)
                  unfold putE at r0 r1 r2 r3 r4 hbz
                  exact bodyPost_ret (v := .tuple #[ev 0 0 0 (.slice none 0 0) (.slice none 0 0), .string ⟨#[]⟩, .int .i64 E]) (by simp [results, Tryd.results20, go_sem, r0, r1, r2, r3, r4]) rfl (HD.out _ (by rw [hb2]; exact hbz))
              · have ejn : j = NN := by omega
                subst ejn
                have herr := HERR.out
                obtain ⟨hn1, hrow1⟩ := own_slice HJU.out
                obtain ⟨hn2, hrow2⟩ := ownM_slice HJV.out
                have hin : (incsN S (hMany S)).length ≤ maxLen := by rw [incsN_length]; unfold maxLen; omega
                have hmn : (msgK Bd j).length ≤ maxLen := by rw [msgK_length]; unfold maxLen; omega
                have cR := rightER_any ⟨PT, PE, PM, incsN S (hMany S), msgK Bd j⟩ A c A' c' _ hrow1 hrow2 hin hmn (fun m hm => Nat.le_trans (msgK_small Bd j m hm) (by unfold maxLen; decide))
                have hre : rightE ⟨PT, PE, PM, incsN S (hMany S), msgK Bd j⟩ = rightE (entD S) := by rw [HENT.out]
                rw [hre] at cR
                simp only at cR
                rw [← hn1, ← hn2] at cR
                clear hre
                have hbz : b2 ≤ wr.heap.size := by have := HJB.out.size; rw [hb2] at this; exact this
                obtain ⟨y0, y1, y2, y3, y4⟩ := HJE.out.cells
                clear hn1 hn2 hrow1 hrow2 hin hmn hjl
                cases hri : rightE (entD S)
                · rw [hri] at cR
                  have HD := Lib.hid (decE_none (HE2.out 2 (by rw [if_pos herr, hri]; rfl)) (by omega) w ())
                  clear HE2 hri herr HENT
                  go_wp2_with fail; refine cR.mono ?_; rintro e w7 ⟨rfl, q7⟩
                  have HR8 := Lib.hid (HJR.out.on q7)
                  have HB8 := Lib.hid (HJB.out.trans (q7.mono hbz))
                  clear q7 cR y0 y1 y2 y3 y4
                  obtain ⟨p0, p1, p2, p3, p4⟩ := HR8.out.cells
                  have f0 := HR8.out.frozen 0
                  have f1 := HR8.out.frozen 1
                  have f2 := HR8.out.frozen 2
                  have f3 := HR8.out.frozen 3
                  have f4 := HR8.out.frozen 4
                  go_wp2_with fail
                  have hpz := putE_at HR8.out 0 0 0 (.slice none 0 0) (.slice none 0 0)
                  obtain ⟨r0, r1, r2, r3, r4⟩ := hpz.cells
                  have hbz := putE_below HB8.out (b := b2) (Nat.le_refl _) 0 0 0 (.slice none 0 0) (.slice none 0 0)
                  unfold putE at r0 r1 r2 r3 r4 hbz
                  exact bodyPost_ret (v := .tuple #[ev 0 0 0 (.slice none 0 0) (.slice none 0 0), .string ⟨#[]⟩, .int .i64 2]) (by simp [results, Tryd.results20, go_sem, r0, r1, r2, r3, r4]) rfl (HD.out _ (by rw [hb2]; exact hbz))
                · rw [hri] at cR
                  have hone := HONE0.out (HE2.out 0 (by rw [if_pos herr, hri]; rfl))
                  clear HE2 hri herr HENT
                  go_wp2_with fail; refine cR.mono ?_; rintro e w7 ⟨rfl, q7⟩
                  have HR8 := Lib.hid (HJR.out.on q7)
                  have HE8 := Lib.hid (HJE.out.on q7)
                  have HU8 := Lib.hid (ownsRow_on HJU.out q7)
                  have HV8 := Lib.hid (ownsRow_on HJV.out q7)
                  have HB8 := Lib.hid (HJB.out.trans (q7.mono hbz))
                  have HONE := Lib.hid hone
                  clear q7 cR y0 y1 y2 y3 y4 hone
                  obtain ⟨y0, y1, y2, y3, y4⟩ := HE8.out.cells
                  obtain ⟨p0, p1, p2, p3, p4⟩ := HR8.out.cells
                  have f0 := HR8.out.frozen 0
                  have f1 := HR8.out.frozen 1
                  have f2 := HR8.out.frozen 2
                  have f3 := HR8.out.frozen 3
                  have f4 := HR8.out.frozen 4
                  go_wp2_with fail
                  have hpz := putE_at HR8.out PT PE PM (.slice A n c) (.slice A' n' c')
                  obtain ⟨r0, r1, r2, r3, r4⟩ := hpz.cells
                  have hu := own_far (w' := putE w7 b2 PT PE PM (.slice A n c) (.slice A' n' c')) HU8.out (fun g hg => putE_far _ (own_apart HU8.out HR8.out (by decide) g hg) _ _ _ _ _)
                  have hv := own_far (w' := putE w7 b2 PT PE PM (.slice A n c) (.slice A' n' c')) HV8.out (fun g hg => putE_far _ (own_apart HV8.out HR8.out (by decide) g hg) _ _ _ _ _)
                  have hbz := putE_below HB8.out (b := b2) (Nat.le_refl _) PT PE PM (.slice A n c) (.slice A' n' c')
                  have hfin := HONE.out (.slice A n c) (.slice A' n' c') (putE w7 b2 PT PE PM (.slice A n c) (.slice A' n' c')) (by rw [hb2]; exact hu) (by rw [hb2]; exact hv) (by rw [hb2]; exact hbz)
                  rw [HPT.out, HPE.out, HPM.out] at hfin
                  unfold putE at r0 r1 r2 r3 r4 hfin
                  exact bodyPost_ret (v := .tuple #[ev PT PE PM (.slice A n c) (.slice A' n' c'), .string (txt (restK Bd j)), .int .i64 0]) (by simp [results, Tryd.results20, go_sem, r0, r1, r2, r3, r4]) rfl hfin

end Go.Proofs.YtlgaogghoehalaaDoor

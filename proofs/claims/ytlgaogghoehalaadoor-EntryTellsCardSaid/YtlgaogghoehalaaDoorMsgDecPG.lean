/-
  What the program's Decode does.
-/
import Derived.Test.YtlgaogghoehalaaDoorMsgAsmG
import Derived.Test.YtlgaogghoehalaaDoorMsgOwnG

namespace Go.Proofs.YtlgaogghoehalaaDoor
open Go.RowKit

theorem getD_take (l : List UInt8) (n i : Nat) (h : i < n) : (l.take n).getD i 0 = l.getD i 0 := by
  rw [List.getD_eq_getElem?_getD, List.getD_eq_getElem?_getD, List.getElem?_take_of_lt h]
theorem pair_take (l : List UInt8) (n i : Nat) (h : i + 1 < n) : pairL (l.take n) i = pairL l i := by
  unfold pairL; rw [getD_take l n i (by omega), getD_take l n (i + 1) h]
theorem take4 (l : List UInt8) (n : Nat) (h : 4 ≤ n) : (l.take n).take 4 = l.take 4 := by
  rw [List.take_take, Nat.min_eq_left h]
theorem asm_take (l : List UInt8) : asmM (l.take (12 + decN l)) = decM l := by
  rw [asm_eq, take4 l _ (by omega), getD_take l _ 4 (by omega), pair_take l _ 5 (by omega), pair_take l _ 7 (by omega), pair_take l _ 9 (by omega), List.drop_take, Nat.add_sub_cancel_left]
  rfl

set_option maxRecDepth 100000 in
set_option maxHeartbeats 4000000 in
theorem decP_any (s : ByteArray) (w : World) (L : Laid w) (hs : s.size ≤ 1000) :
    Calls Tryd.prog 86 #[.string s] w (DecPost s.data.toList w) := by
  have hl := Lib.size_eq s
  by_cases h1 : s.size < 12
  · have HE := Lib.hid (dec_none s.data.toList 3 (by unfold decE; rw [if_pos (by omega)]) (by omega))
    have h2 : (s.size : Int) < 12 := by omega
    have HL := Lib.hid hl; clear hl
    go_enter Tryd.func86, Tryd.ntmps86
    go_wp2_with fail
    exact bodyPost_ret (v := .tuple #[mv zeroM, .string ⟨#[]⟩, .int .i64 3]) (by simp [results, Tryd.results86, go_sem, zeroM]) rfl (HE.out _ _ (Joins.below_alloc1 _ _))
  · have h2 : (12 : Int) ≤ s.size := by omega
    have k11 := run_at s 11 11 rfl (by omega)
    have e1 := fun E (h : decE s.data.toList = E) (hE : E ≠ 0) => dec_none s.data.toList E h hE
    have ed : ∀ E, (if 8 < decN s.data.toList then (2 : Int) else if s.data.toList.length < 12 + decN s.data.toList then 3 else if psE (s.data.toList.take 4) = 0 then (if rightM (decM s.data.toList) = true then 0 else 2) else 2) = E → decE s.data.toList = E := fun E h => by
      unfold decE; rw [if_neg (by omega)]; exact h
    have ex : decN s.data.toList = (s.data.toList.getD 11 0).toNat := rfl
    have bx := (s.data.toList.getD 11 0).toNat_lt
    rw [← ex] at k11 bx
    clear ex
    rcases Nat.lt_or_ge 8 (decN s.data.toList) with h3 | h3
    · have HE := Lib.hid (e1 2 (ed 2 (by rw [if_pos h3])) (by omega))
      clear e1 ed
      generalize decN s.data.toList = x at *
      have h4 : (8 : Int) < x := by omega
      have w0 : IntKind.i64.wrap (x : Int) = x := IntWalk.i64_in _ (by omega)
      have HL := Lib.hid hl; clear hl
      go_enter Tryd.func86, Tryd.ntmps86
      go_wp2_with fail
      exact bodyPost_ret (v := .tuple #[mv zeroM, .string ⟨#[]⟩, .int .i64 2]) (by simp [results, Tryd.results86, go_sem, zeroM]) rfl (HE.out _ _ (Joins.below_alloc1 _ _))
    · rcases Nat.lt_or_ge s.size (12 + decN s.data.toList) with h5 | h5
      · have HE := Lib.hid (e1 3 (ed 3 (by rw [if_neg (by omega), if_pos (by omega)])) (by omega))
        clear e1 ed
        generalize decN s.data.toList = x at *
        have h4 : (x : Int) ≤ 8 := by omega
        have h6 : (s.size : Int) < 12 + x := by omega
        have w0 : IntKind.i64.wrap (x : Int) = x := IntWalk.i64_in _ (by omega)
        have HL := Lib.hid hl; clear hl
        go_enter Tryd.func86, Tryd.ntmps86
        go_wp2_with fail
        exact bodyPost_ret (v := .tuple #[mv zeroM, .string ⟨#[]⟩, .int .i64 3]) (by simp [results, Tryd.results86, go_sem, zeroM]) rfl (HE.out _ _ (Joins.below_alloc1 _ _))
      · have km := run_to s (12 + (decN s.data.toList : Int)) (12 + decN s.data.toList) (by omega) h5
        have kb := run_from s (12 + (decN s.data.toList : Int)) (12 + decN s.data.toList) (by omega) h5
        have hts : (txt (s.data.toList.take (12 + decN s.data.toList))).size = 12 + decN s.data.toList := by rw [txt_size, List.length_take]; omega
        have ca := fun w L => assemble_any (txt (s.data.toList.take (12 + decN s.data.toList))) (by omega) (by omega) w L
        simp only [txt_data] at ca
        rw [asm_take, take4 _ _ (by omega)] at ca
        have cc := fun w => clone_any (txt (s.data.toList.drop (12 + decN s.data.toList))) (by rw [txt_size, List.length_drop]; omega) w
        have hE2 : psE (s.data.toList.take 4) ≠ 0 ∨ rightM (decM s.data.toList) = false → decE s.data.toList = 2 := fun h => ed 2 (by
          rw [if_neg (by omega), if_neg (by omega)]
          by_cases hp : psE (s.data.toList.take 4) = 0
          · rw [if_pos hp, h.resolve_left (fun hn => hn hp)]; rfl
          · rw [if_neg hp])
        have hE0 : psE (s.data.toList.take 4) = 0 → rightM (decM s.data.toList) = true → decE s.data.toList = 0 := fun h h' => ed 0 (by rw [if_neg (by omega), if_neg (by omega), if_pos h, if_pos h'])
        have d0 := fun h h' => dec_one s.data.toList (hE0 h h')
        have d2 := fun h => e1 2 (hE2 h) (by omega)
        have hds : (decM s.data.toList).data.size ≤ maxLen := by show (txt _).size ≤ _; rw [txt_size, List.length_take]; unfold maxLen; omega
        have cr := fun w L => rightM_any (decM s.data.toList) hds w L
        clear e1 ed hE2 hE0 hts hds
        generalize decM s.data.toList = M at *
        generalize psE (s.data.toList.take 4) = pe at *
        generalize txt (s.data.toList.take (12 + decN s.data.toList)) = Tt at *
        generalize txt (s.data.toList.drop (12 + decN s.data.toList)) = Rt at *
        generalize decN s.data.toList = x at *
        obtain ⟨b, nn, sd, p5, p7, p9, Dt⟩ := M
        simp only [mv] at ca cr
        have D0 := Lib.hid d0; clear d0
        have D2 := Lib.hid d2; clear d2
        have h4 : (x : Int) ≤ 8 := by omega
        have h6 : 12 + (x : Int) ≤ (s.size : Int) := by omega
        have w0 : IntKind.i64.wrap (x : Int) = x := IntWalk.i64_in _ (by omega)
        have KB := Lib.hid kb; clear kb
        have HL := Lib.hid hl; clear hl
        have hs0 := Joins.below_alloc1 w (.cells (mc zeroM) 36)
        have hS0 : Seven (w.alloc (.cells (mc zeroM) 36)) w.heap.size := Seven.new w zeroM
        have hL0 := L.alloc (.cells (mc zeroM) 36)
        simp only [mc, zeroM] at hs0 hS0 hL0
        go_enter Tryd.func86, Tryd.ntmps86
        go_wp2_with fail
        refine (ca _ hL0).mono ?_; rintro e w2 ⟨rfl, b2⟩
        have B2 := hs0.trans (b2.mono hs0.size)
        have S2 := hS0.below b2
        have L2 := hL0.below b2
        have hne : ¬ w2.heap.size = w.heap.size := by have := b2.size; simp at this; omega
        have b3 := Joins.below_alloc1 w2 (.cells (mc ⟨b, nn, sd, p5, p7, p9, Dt⟩) 36)
        have M3 : MsgAt (w2.alloc (.cells (mc ⟨b, nn, sd, p5, p7, p9, Dt⟩) 36)) w2.heap.size ⟨b, nn, sd, p5, p7, p9, Dt⟩ := heap_alloc_new w2 _
        have B3 := B2.trans (b3.mono B2.size)
        have S3 := S2.below b3
        have L3 := L2.below b3
        have HNE := Lib.hid hne
        clear hs0 hS0 hL0 b2 B2 S2 L2 b3 hne
        simp only [mc] at M3 B3 S3 L3
        generalize hW3 : w2.alloc (.cells #[.bool b, .int .i64 nn, .int .i64 sd, .int .i64 p5, .int .i64 p7, .int .i64 p9, .string Dt] 36) = W3 at *
        by_cases hp : pe = 0
        · subst hp
          cases hr : rightM ⟨b, nn, sd, p5, p7, p9, Dt⟩
          · rw [hr] at cr
            have HD := Lib.hid (D2.out (.inr hr))
            obtain ⟨_, m0, m1, m2, m3, m4, m5, m6⟩ := Holds.of_blk M3
            go_wp2_with fail
            refine (cr _ L3).mono ?_; rintro e w3 ⟨rfl, b3⟩
            have h3 := S3.below b3
            have H3 := Lib.hid h3
            have HB3 := Lib.hid (B3.trans (b3.mono B3.size))
            obtain ⟨z0, z1, z2, z3, z4, z5, z6, ⟨q0, q1, q2, q3, q4, q5, q6⟩, hfz⟩ := h3.cells
            clear m0 m1 m2 m3 m4 m5 m6 h3 b3 hW3
            go_wp2_with fail
            have hf := Holds.of_blk (put7_blk H3.out zeroM)
            unfold put7 at hf
            simp only [zeroM] at hf
            obtain ⟨_, r0, r1, r2, r3, r4, r5, r6⟩ := hf
            exact bodyPost_ret (v := .tuple #[mv zeroM, .string ⟨#[]⟩, .int .i64 2]) (by simp [results, Tryd.results86, go_sem, zeroM, r0, r1, r2, r3, r4, r5, r6]) rfl (HD.out _ _ (put7_below HB3.out (Nat.le_refl _) zeroM))
          · rw [hr] at cr
            have HD := Lib.hid (D0.out rfl hr)
            obtain ⟨_, m0, m1, m2, m3, m4, m5, m6⟩ := Holds.of_blk M3
            go_wp2_with fail
            refine (cr _ L3).mono ?_; rintro e w3 ⟨rfl, b3⟩
            have H3 := Lib.hid (S3.below b3)
            have HB3 := Lib.hid (B3.trans (b3.mono B3.size))
            have HM3 := Lib.hid (M3.on b3)
            clear m0 m1 m2 m3 m4 m5 m6 b3 hW3 M3 B3 S3 L3
            go_wp2_with fail
            have HV : ∃ V : Nat → (Nat → Value) → World → Prop, V = (fun ix u wv => match ix with
              | 0 => u 0 = .agg #[.bool b, .int .i64 nn, .int .i64 sd, .int .i64 p5, .int .i64 p7, .int .i64 p9, .string Dt]
              | 1 => u 1 = .string s
              | 2 => u 2 = .int .i64 (12 + (x : Int))
              | 3 => u 3 = .string Rt
              | 4 => u 4 = .string Rt
              | 5 => MsgAt wv w.heap.size ⟨b, nn, sd, p5, p7, p9, Dt⟩
              | 6 => u 6 = .string Rt
              | 7 => u 7 = .int .i64 0
              | _ => True) := ⟨_, rfl⟩
            obtain ⟨V, hVdef⟩ := HV
            have V0 : ∀ u wv, V 0 u wv = (u 0 = .agg #[.bool b, .int .i64 nn, .int .i64 sd, .int .i64 p5, .int .i64 p7, .int .i64 p9, .string Dt]) := fun u wv => by subst hVdef; rfl
            have V1 : ∀ u wv, V 1 u wv = (u 1 = .string s) := fun u wv => by subst hVdef; rfl
            have V2 : ∀ u wv, V 2 u wv = (u 2 = .int .i64 (12 + (x : Int))) := fun u wv => by subst hVdef; rfl
            have V3 : ∀ u wv, V 3 u wv = (u 3 = .string Rt) := fun u wv => by subst hVdef; rfl
            have V4 : ∀ u wv, V 4 u wv = (u 4 = .string Rt) := fun u wv => by subst hVdef; rfl
            have V5 : ∀ u wv, V 5 u wv = (MsgAt wv w.heap.size ⟨b, nn, sd, p5, p7, p9, Dt⟩) := fun u wv => by subst hVdef; rfl
            have V6 : ∀ u wv, V 6 u wv = (u 6 = .string Rt) := fun u wv => by subst hVdef; rfl
            have V7 : ∀ u wv, V 7 u wv = (u 7 = .int .i64 0) := fun u wv => by subst hVdef; rfl
            have HVD := Lib.hid hVdef
            clear hVdef
            refine region_each (V := V) (drop := fun _ _ => false) (G := fun wv => Below w.heap.size w wv ∧ (MsgAt wv w2.heap.size ⟨b, nn, sd, p5, p7, p9, Dt⟩ ∧ Seven wv w.heap.size)) (Rel := fun jx wv wv' => MsgAt wv w.heap.size ⟨b, nn, sd, p5, p7, p9, Dt⟩ → MsgAt wv' w.heap.size ⟨b, nn, sd, p5, p7, p9, Dt⟩) (by kernel_rfl) (by kernel_rfl) ⟨HB3.out.drew, HM3.out, H3.out⟩ ?hmono1 ?hdep1 ⟨?s0_1, ?s1_1, ?s2_1, ?s3_1, ?s4_1, ?s5_1, ?s6_1, ?s7_1, trivial⟩ ?behind1
            case hmono1 =>
              intro ix jx u wv wv' hij hw hd hr
              rw [HVD.out]
              dsimp only
              split <;> intro h <;> first | exact trivial | exact h | (exact hr h)
            case hdep1 =>
              intro ix u u' wv h1 h2
              rw [HVD.out]
              dsimp only
              split <;> intro h <;> first | exact trivial | (rw [← h1]; exact h) | (exact h)
            case s0_1 =>
              refine owe rfl fun a wx val hG hV hN hO K hK => ?_
              have e6 : a.tmps[6]? = some (.pointer (some ⟨w2.heap.size, 0, none⟩)) := (hO 6 (by kernel_rfl)).trans (by rfl)
              clear hV hN hO
              obtain ⟨_, m0, m1, m2, m3, m4, m5, m6⟩ := Holds.of_blk hG.2.1
              go_simp
              exact hK.out _ _ (by rw [V0, upd_at]) id hG
            case s1_1 =>
              refine owe rfl fun a wx val hG hV hN hO K hK => ?_
              have e0 : a.tmps[0]? = some (.string s) := (hO 0 (by kernel_rfl)).trans (by rfl)
              clear hV hN hO
              go_simp
              exact hK.out _ _ (by rw [V1, upd_at]) id hG
            case s2_1 =>
              refine owe rfl fun a wx val hG hV hN hO K hK => ?_
              have e5 : a.tmps[5]? = some (.int .i64 (12 + (x : Int))) := (hO 5 (by kernel_rfl)).trans (by rfl)
              clear hV hN hO
              go_simp
              exact hK.out _ _ (by rw [V2, upd_at]) id hG
            case s3_1 =>
              refine owe rfl fun a wx val hG hV hN hO K hK => ?_
              have e41 := hN 1 41 (by kernel_rfl) (by kernel_rfl) (by simp)
              have f41 := hV 1 (by kernel_rfl) (by kernel_rfl)
              rw [V1] at f41
              rw [f41] at e41; clear f41
              have e42 := hN 2 42 (by kernel_rfl) (by kernel_rfl) (by simp)
              have f42 := hV 2 (by kernel_rfl) (by kernel_rfl)
              rw [V2] at f42
              rw [f42] at e42; clear f42
              clear hV hN hO
              have kb := KB.out
              go_simp
              exact hK.out _ _ (by rw [V3, upd_at]) id hG
            case s4_1 =>
              refine owe rfl fun a wx val hG hV hN hO K hK => ?_
              have e43 := hN 3 43 (by kernel_rfl) (by kernel_rfl) (by simp)
              have f43 := hV 3 (by kernel_rfl) (by kernel_rfl)
              rw [V3] at f43
              rw [f43] at e43; clear f43
              clear hV hN hO
              go_simp
              refine (cc _).mono ?_
              rintro e w7 ⟨rfl, hb⟩
              exact hK.out _ _ (by rw [V4, upd_at]) (fun h => h.on hb) ⟨hG.1.trans (hb.mono hG.1.size), hG.2.1.on hb, hG.2.2.below hb⟩
            case s5_1 =>
              refine owe rfl fun a wx val hG hV hN hO K hK => ?_
              have e2 : a.tmps[2]? = some (.pointer (some ⟨w.heap.size, 0, none⟩)) := (hO 2 (by kernel_rfl)).trans (by rfl)
              have e40 := hN 0 40 (by kernel_rfl) (by kernel_rfl) (by simp)
              have f40 := hV 0 (by kernel_rfl) (by kernel_rfl)
              rw [V0] at f40
              rw [f40] at e40; clear f40
              clear hV hN hO
              obtain ⟨z0, z1, z2, z3, z4, z5, z6, ⟨d0, d1, d2, d3, d4, d5, d6⟩, hfz⟩ := hG.2.2.cells
              go_simp
              exact hK.out undef (put7 wx w.heap.size ⟨b, nn, sd, p5, p7, p9, Dt⟩) (by rw [V5]; exact put7_blk hG.2.2 _) (fun _ => put7_blk hG.2.2 _) ⟨put7_below hG.1 (Nat.le_refl _) _, msgAt_far HNE.out hG.2.1, Seven.put7 hG.2.2 hG.2.2 _⟩
            case s6_1 =>
              refine owe rfl fun a wx val hG hV hN hO K hK => ?_
              have e44 := hN 4 44 (by kernel_rfl) (by kernel_rfl) (by simp)
              have f44 := hV 4 (by kernel_rfl) (by kernel_rfl)
              rw [V4] at f44
              rw [f44] at e44; clear f44
              clear hV hN hO
              go_simp
              exact hK.out _ _ (by rw [V6, upd_at]) id hG
            case s7_1 =>
              refine owe rfl fun a wx val hG hV hN hO K hK => ?_
              clear hV hN hO
              go_simp
              exact hK.out _ _ (by rw [V7, upd_at]) id hG
            intro val wx hG hV
            have f0 := hV 0 (by simp) (fun _ _ => by rfl)
            rw [V0] at f0
            have f1 := hV 1 (by simp) (fun _ _ => by rfl)
            rw [V1] at f1
            have f2 := hV 2 (by simp) (fun _ _ => by rfl)
            rw [V2] at f2
            have f3 := hV 3 (by simp) (fun _ _ => by rfl)
            rw [V3] at f3
            have f4 := hV 4 (by simp) (fun _ _ => by rfl)
            rw [V4] at f4
            have f5 := hV 5 (by simp) (fun _ _ => by rfl)
            rw [V5] at f5
            have f6 := hV 6 (by simp) (fun _ _ => by rfl)
            rw [V6] at f6
            have f7 := hV 7 (by simp) (fun _ _ => by rfl)
            rw [V7] at f7
            clear hV V0 V1 V2 V3 V4 V5 V6 V7
            simp only [putAll, Act.put, List.setIfInBounds_toArray, List.set_cons_zero, List.set_cons_succ]
            generalize val 0 = z0 at *; (subst f0)
            generalize val 1 = z1 at *; (subst f1)
            generalize val 2 = z2 at *; (subst f2)
            generalize val 3 = z3 at *; (subst f3)
            generalize val 4 = z4 at *; (subst f4)
            generalize val 6 = z6 at *; (subst f6)
            generalize val 7 = z7 at *; (subst f7)
            obtain ⟨hB5, _, hS5⟩ := hG
            have HM5 := Lib.hid (Holds.of_blk f5)
            clear f5 H3 HB3 HM3
            go_wp2_with fail
            obtain ⟨_, r0, r1, r2, r3, r4, r5, r6⟩ := HM5.out
            exact bodyPost_ret (v := .tuple #[mv ⟨b, nn, sd, p5, p7, p9, Dt⟩, .string Rt, .int .i64 0]) (by simp [results, Tryd.results86, go_sem, r0, r1, r2, r3, r4, r5, r6]) rfl (HD.out _ _ hB5)
        · have hp2 : ((pe : Int) != 0) = true := by simpa using hp
          have HD := Lib.hid (D2.out (.inl hp))
          have HP := Lib.hid hp; clear hp
          have h3 := S3
          have H3 := Lib.hid h3
          have HB3 := Lib.hid B3
          obtain ⟨z0, z1, z2, z3, z4, z5, z6, ⟨q0, q1, q2, q3, q4, q5, q6⟩, hfz⟩ := h3.cells
          go_wp2_with fail
          have hf := Holds.of_blk (put7_blk H3.out zeroM)
          unfold put7 at hf
          simp only [zeroM] at hf
          obtain ⟨_, r0, r1, r2, r3, r4, r5, r6⟩ := hf
          exact bodyPost_ret (v := .tuple #[mv zeroM, .string ⟨#[]⟩, .int .i64 2]) (by simp [results, Tryd.results86, go_sem, zeroM, r0, r1, r2, r3, r4, r5, r6]) rfl (HD.out _ _ (put7_below HB3.out (Nat.le_refl _) zeroM))

end Go.Proofs.YtlgaogghoehalaaDoor

/-
  The law TxqSame, walked.
-/
import Derived.Test.YtmikcgofhlbimaaDoorTxqSeq
import Derived.Deep.DeepCutAuto
namespace Go.Proofs.YtmikcgofhlbimaaDoor
open Go Go.RowKit

theorem sameQ_one (L : Int) (a : List Msg) : sameQ L L a a = true := by unfold sameQ; rw [(sameL_iff a a).2 rfl]; simp
theorem rot_back {n k i : Nat} (hk : k ≤ n) (hi : i < n) : ((i + k) % n + (n - k)) % n = i := by
  rw [Nat.mod_add_mod, show i + k + (n - k) = i + n by omega, Nat.add_mod_right, Nat.mod_eq_of_lt hi]
theorem rot_forth {n k i : Nat} (hk : k ≤ n) (hi : i < n) : ((i + (n - k)) % n + k) % n = i := by
  rw [Nat.mod_add_mod, show i + (n - k) + k = i + n by omega, Nat.add_mod_right, Nat.mod_eq_of_lt hi]
def rowF (rs : List Raw) (i : Nat) : Msg := numM (rs.getD i ⟨0, 0, 0, 0, 0, 0⟩) ((i : Int) + 1)
theorem off_nil (A : Option Addr) : OffB [] A := fun x hx => by cases hx
def rotF (rs : List Raw) (n k i : Nat) : Msg := rowF rs ((i + k) % n)
theorem row_ok {L : Int} {N : Nat} (h1 : 1 ≤ L) (h2 : L ≤ 32) (hN : (N : Int) ≤ L) (rs : List Raw) : SeqOk L N (rowF rs) :=
  ⟨h1, h2, hN, fun i hi => numM_right _ _ (by omega) (by omega), fun i j hi hj hij => by
    show ((i : Int) + 1) ≠ ((j : Int) + 1)
    omega⟩
theorem rot_ok {L : Int} {N k : Nat} (h1 : 1 ≤ L) (h2 : L ≤ 32) (hN : (N : Int) ≤ L) (hk : k ≤ N) (rs : List Raw) : SeqOk L N (rotF rs N k) :=
  ⟨h1, h2, hN, fun i hi => (row_ok h1 h2 hN rs).right _ (Nat.mod_lt _ (by omega)), fun i j hi hj hij => (row_ok h1 h2 hN rs).unlike _ _ (Nat.mod_lt _ (by omega)) (Nat.mod_lt _ (by omega)) (fun e => hij (by rw [← rot_back hk hi, e, rot_back hk hj]))⟩
theorem rot_same {L : Int} {N k : Nat} (h1 : 1 ≤ L) (h2 : L ≤ 32) (hN : (N : Int) ≤ L) (hk : k ≤ N) (rs : List Raw) : seqL L (rotF rs N k) N = seqL L (rowF rs) N := by
  obtain ⟨a1, a2, a3⟩ := seq_spec (row_ok h1 h2 hN rs) N (Nat.le_refl _)
  obtain ⟨b1, b2, b3⟩ := seq_spec (rot_ok h1 h2 hN hk rs) N (Nat.le_refl _)
  refine right_one b1 a1 fun x => ?_
  rw [a3, b3]
  constructor
  · rintro ⟨i, hi, e⟩
    exact ⟨(i + k) % N, Nat.mod_lt _ (by omega), e⟩
  · rintro ⟨i, hi, e⟩
    refine ⟨(i + (N - k)) % N, Nat.mod_lt _ (by omega), ?_⟩
    show rowF rs (((i + (N - k)) % N + k) % N) = x
    rw [rot_forth hk hi]; exact e

set_option maxRecDepth 100000 in
set_option maxHeartbeats 8000000 in
theorem txqSame_walk (A : Option Addr) (c : Nat) (rs : List Raw) (att : Int) (hat : (Lit.int .i64 att).wf = true) (w : World) (L : Laid w) (f0 : RowsOk w A c rs) :
    Calls Tryd.prog 6 #[.slice A rs.length c, .int .i64 att] w fun e w' => e = .returned (.bool true) ∧ Below w.heap.size w w' := by
  obtain ⟨hrs, ⟨hlc, hcm⟩, hwf⟩ := f0
  unfold maxLen at hcm
  obtain ⟨N, hNd⟩ : ∃ N, N = min rs.length 10 := ⟨_, rfl⟩
  have hmin : min (rs.length : Int) 10 = (N : Int) := by rw [hNd]; omega
  have hN10 : N ≤ 10 := by omega
  have hNr : N ≤ rs.length := by omega
  have hpr := pickI_range att ((N : Int) + 1) (by omega)
  have cP := fun W => pick13_any att ((N : Int) + 1) hat (by omega) W
  obtain ⟨kk, hkk⟩ : ∃ kk : Nat, pickI att ((N : Int) + 1) = (kk : Int) := ⟨(pickI att ((N : Int) + 1)).toNat, by omega⟩
  rw [hkk] at cP hpr
  have hkN : kk ≤ N := by omega
  have HMIN := Lib.hid hmin
  clear hkk hpr hmin hNd
  have hoa := row_ok (L := 12) (N := N) (by decide) (by decide) (by omega) rs
  have hob := rot_ok (L := 12) (N := N) (k := kk) (by decide) (by decide) (by omega) hkN rs
  have HSA := Lib.hid (seq_spec hoa)
  have HSB := Lib.hid (seq_spec hob)
  have HPA := Lib.hid (fun k (hk : k < N) => seq_put hoa hk)
  have HPB := Lib.hid (fun k (hk : k < N) => seq_put hob hk)
  have HDA : Hid (∀ k, ∀ x ∈ seqL 12 (rowF rs) k, x.data.size ≤ 140737488351232) := Lib.hid (seq_data (fun i => numM_data _ _))
  have HDB : Hid (∀ k, ∀ x ∈ seqL 12 (rotF rs N kk) k, x.data.size ≤ 140737488351232) := Lib.hid (seq_data (fun i => numM_data _ _))
  have HAB := Lib.hid (rot_same (L := 12) (by decide) (by decide) (by omega) hkN rs)
  have HSNA : Hid (∀ k r, rs[k]? = some r → rowF rs k = numM r ((k : Int) + 1)) := Lib.hid (fun k r hk => by
    show numM (rs.getD k ⟨0, 0, 0, 0, 0, 0⟩) _ = _
    rw [List.getD_eq_getElem?_getD, hk]; rfl)
  have HSNB : Hid (∀ k j r, (k + kk) % N = j → rs[j]? = some r → rotF rs N kk k = numM r ((j : Int) + 1)) := Lib.hid (fun k j r hj hr => by
    show rowF rs ((k + kk) % N) = _
    rw [hj]; exact HSNA.out j r hr)
  have hnA : ∀ k, seqL 12 (rowF rs) (k + 1) = putL 12 (seqL 12 (rowF rs) k) (rowF rs k) := fun k => rfl
  have hnB : ∀ k, seqL 12 (rotF rs N kk) (k + 1) = putL 12 (seqL 12 (rotF rs N kk) k) (rotF rs N kk k) := fun k => rfl
  have HNA := Lib.hid hnA
  have HNB := Lib.hid hnB
  have hq0 : seqL 12 (rowF rs) 0 = [] ∧ seqL 12 (rotF rs N kk) 0 = [] := ⟨rfl, rfl⟩
  clear hnA hnB hoa hob
  generalize hqa : seqL 12 (rowF rs) = qa at *
  generalize hqb : seqL 12 (rotF rs N kk) = qb at *
  clear hqa hqb
  have HQ0 := Lib.hid hq0
  clear hq0
  -- the last ones
  obtain ⟨sr, sl, sm⟩ := HSA.out N (Nat.le_refl _)
  have hE1 := put_fits (m := numM ⟨att, att, att, att, att, att⟩ 99) sr (numM_right _ _ (by decide) (by decide)) (fun x hx e => by
    obtain ⟨i, hi, rfl⟩ := (sm x).1 hx
    have : ((i : Int) + 1) = 99 := e
    omega) (by rw [sl]; omega)
  obtain ⟨lm, hlm⟩ : ∃ lm, lm = putL 12 (qa N) (numM ⟨att, att, att, att, att, att⟩ 99) := ⟨_, rfl⟩
  have hlmr : rightQ 12 lm = true := by rw [hlm]; exact putL_right sr
  have hin : numM ⟨att, att, att, att, att, att⟩ 99 ∈ lm := by rw [hlm, put_mem hE1.1]; exact .inl rfl
  have hA := abort_one hlmr hin
  rw [numM_number] at hA
  obtain ⟨a1, a2, a3, -⟩ := hA
  have hback : cutL 12 lm (lm.findIdx (isNum 99)) = qa N := right_one (cut_right hlmr) sr (fun x => by
    rw [a3, hlm, put_mem hE1.1]
    constructor
    · rintro ⟨rfl | h, hne⟩
      · exact absurd rfl hne
      · exact h
    · intro h
      refine ⟨.inr h, fun e => ?_⟩
      obtain ⟨i, hi, e2⟩ := (sm x).1 h
      rw [e] at e2
      have : ((i : Int) + 1) = 99 := congrArg Msg.number e2
      omega)
  have hlml : lm.length ≤ 199 := by rw [hlm, put_len hE1.1, sl]; omega
  have HCUT := Lib.hid (And.intro a1 (And.intro a2 hback))
  have HE1 := Lib.hid (And.intro hE1.1 hlm.symm)
  have HCAB : Hid (∀ A8 c8 W, Laid W → QIn W A8 c8 lm → Calls Tryd.prog 24 #[qv 12 A8 lm.length c8, .int .i64 99] W (TakePost 12 A8 lm (lm.findIdx (isNum 99)) W)) := Lib.hid (fun A8 c8 W h1 h2 => abortQ_any 12 A8 c8 lm 99 W h1 h2)
  have h0 : (0 < N ∧ cutE 12 (qa N) 0 = 0) ∨ (N = 0 ∧ cutE 12 (qa N) 0 = 41) := by
    rcases Nat.eq_zero_or_pos N with h | h
    · exact .inr ⟨h, (cut_none sr (by rw [sl, h])).1⟩
    · exact .inl ⟨h, (cut_one sr (List.getElem?_eq_getElem (by rw [sl]; exact h))).1⟩
  have H0 := Lib.hid h0
  have HSL := Lib.hid sl
  have hatwf : WfR ⟨att, att, att, att, att, att⟩ := ⟨hat, hat, hat, hat, hat, hat⟩
  have HATW := Lib.hid hatwf
  clear sr sm sl hE1 hlmr hin a1 a2 a3 hback hlm h0 hatwf hat
  have cn := fun W => new_any 12 W
  have n12 : newL 12 = 12 ∧ newE 12 = 0 := ⟨by kernel_rfl, by kernel_rfl⟩
  rw [n12.1, n12.2] at cn
  have HCN := Lib.hid cn
  have HLL := Lib.hid L
  have HRS := Lib.hid hrs
  have HWF := Lib.hid hwf
  have HCP := Lib.hid cP
  have HB : Hid (Below w.heap.size w w) := Lib.hid (Below.refl _ _)
  clear cn n12 L hrs hwf cP
  go_enter Tryd.func6, Tryd.ntmps6
  go_wp2_with fail; refine (awake_any _ HLL.out).mono ?_; rintro e w1 ⟨rfl, hG⟩
  have HB1 := Lib.hid (HB.out.trans (hG.mono HB.out.size)); clear HB; have HB := HB1; clear HB1
  clear hG
  have hmin := HMIN.out
  have cn := HCN.out
  go_wp2_with fail; refine (cn _).mono ?_; rintro e w2 ⟨rfl, b2⟩
  have hb := Joins.below_alloc1 w2 (.cells #[.int .i64 12, .slice none 0 0] 31)
  have hq := QVar.new (Bs := []) (w := w2) (L := 12) (l := []) (A := none) (c := 0) ⟨Msgs.nil _ _ _, Nat.le_refl _, by decide, (fun m h => by cases h), fun ad e => by cases e⟩ (off_none _)
  simp only [List.length_nil] at hq
  have HVA := Lib.hid hq
  have HS7 : Hid (w.heap.size ≤ w2.heap.size) := Lib.hid (Nat.le_trans HB.out.size b2.size)
  have hG := b2.trans (hb.mono b2.size)
  have HB1 := Lib.hid (HB.out.trans (hG.mono HB.out.size)); clear HB; have HB := HB1; clear HB1
  clear hG b2 hb hq
  go_wp2_with fail; refine (cn _).mono ?_; rintro e w3 ⟨rfl, b2⟩
  have hb := Joins.below_alloc1 w3 (.cells #[.int .i64 12, .slice none 0 0] 31)
  have hq := QVar.new (Bs := [w2.heap.size]) (w := w3) (L := 12) (l := []) (A := none) (c := 0) ⟨Msgs.nil _ _ _, Nat.le_refl _, by decide, (fun m h => by cases h), fun ad e => by cases e⟩ (off_none _)
  simp only [List.length_nil] at hq
  have HVB := Lib.hid hq
  have HS9 : Hid (w2.heap.size < w3.heap.size) := Lib.hid (QVar.on HVA.out b2).lt
  have HVA1 := Lib.hid (QVar.more (QVar.on HVA.out b2) hb); clear HVA; have HVA := HVA1; clear HVA1
  have hG := b2.trans (hb.mono b2.size)
  have HB1 := Lib.hid (HB.out.trans (hG.mono HB.out.size)); clear HB; have HB := HB1; clear HB1
  clear hG b2 hb hq cn hmin
  have cP := HCP.out
  go_wp2_with fail; refine (cP _).mono ?_; rintro e w4 ⟨rfl, rfl⟩
  clear cP HCN HCP
  go_wp2_with fail
  generalize hW1 : w3.alloc (.cells #[.int .i64 12, .slice none 0 0] 31) = W1 at *
  clear hW1
  generalize w3.heap.size = b9 at *
  generalize w2.heap.size = b7 at *
  go_loopw [12] (fun i wr => ∃ k : Nat, k ≤ N ∧ i = .int .i64 k ∧ QVar [b9, b7] wr b7 12 (qa k) ∧ QVar [b9, b7] wr b9 12 (qb k) ∧ Below w.heap.size w wr) (fun i _ => N - (intOf i).toNat)
  case atStart => exact ⟨0, by omega, rfl, by rw [HQ0.out.1]; exact HVA.out, by rw [HQ0.out.2]; exact HVB.out, HB.out⟩
  case round =>
    obtain ⟨k, hk, rfl, hva, hvb, hb⟩ := hrel
    clear HVA HVB HB
    have HVA := Lib.hid hva
    have HVB := Lib.hid hvb
    have HB := Lib.hid hb
    clear hva hvb hb
    by_cases hlt : k < N
    · have hltI : (k : Int) < (N : Int) := by omega
      obtain ⟨j, hj⟩ : ∃ j, (k + kk) % N = j := ⟨_, rfl⟩
      have hjN : j < N := by rw [← hj]; exact Nat.mod_lt _ (by omega)
      have hjI : ((k : Int) + (kk : Int)) % (N : Int) = (j : Int) := by rw [← hj]; simp
      obtain ⟨r, hr⟩ : ∃ r, rs[k]? = some r := ⟨_, List.getElem?_eq_getElem (by omega)⟩
      obtain ⟨s, hs⟩ : ∃ s, rs[j]? = some s := ⟨_, List.getElem?_eq_getElem (by omega)⟩
      obtain ⟨ad, rfl, hadb, hcc⟩ := HRS.out (by omega)
      have HROW : Hid (∀ i x W, Below w.heap.size w W → rs[i]? = some x → At6 W (ad.add (i * 6)) x) := Lib.hid (fun i x W h hx => (hcc i x hx).keep fun q hq => h.cell (by rw [hq, adb]; exact hadb))
      have HRI : Hid (k < rs.length ∧ j < rs.length) := Lib.hid ⟨by omega, by omega⟩
      clear hcc hadb
      have hkr : (k : Int) < (rs.length : Int) := by omega
      have hjr : (j : Int) < (rs.length : Int) := by omega
      have hpa := HPA.out k hlt
      have hpb := HPB.out k hlt
      have hna := HNA.out k
      have hnb := HNB.out k
      rw [HSNA.out k r hr] at hpa hna
      rw [HSNB.out k j s hj hs] at hpb hnb
      have HPNA := Lib.hid (And.intro hpa hna)
      have HPNB := Lib.hid (And.intro hpb hnb)
      have HJ := Lib.hid hj
      clear hpa hpb hna hnb hj
      obtain ⟨Aq, cq, hqa, hqi, hqo⟩ := HVA.out
      have HQA := Lib.hid hqa
      have HRAW : Hid (∀ W, Below wr.heap.size wr W → At6 W (ad.add (k * 6)) r) := Lib.hid (fun W h => HROW.out k r W (HB.out.trans (h.mono HB.out.size)) hr)
      have CN : Hid (∀ W, Calls Tryd.prog 21 #[rv r, .int .i64 ((k : Int) + 1)] W fun e w' => e = .returned (mv (numM r ((k : Int) + 1))) ∧ Below W.heap.size W w') := Lib.hid (fun W => numM_any _ (HWF.out k r hr) _ W)
      have CP : Hid (∀ W, Below wr.heap.size wr W → Calls Tryd.prog 22 #[qv 12 Aq (qa k).length cq, mv (numM r ((k : Int) + 1))] W fun e w' => ∃ A5 c5, e = .returned (.tuple #[qv 12 A5 (qa (k + 1)).length c5, .int .i64 0]) ∧ QIn w' A5 c5 (qa (k + 1)) ∧ OffB [b9, b7] A5 ∧ Below W.heap.size W w') := Lib.hid (fun W hW => put_var 12 Aq cq (qa k) _ [b9, b7] W (HLL.out.below (HB.out.trans (hW.mono HB.out.size))) (hqi.on hW) hqo (fun x hx => by simp only [List.mem_cons, List.not_mem_nil, or_false] at hx; rcases hx with rfl | rfl; exact Nat.lt_of_lt_of_le HVB.out.lt hW.size; exact Nat.lt_of_lt_of_le HVA.out.lt hW.size) (numM_data _ _) (by rw [(HSA.out k (by omega)).2.1]; omega) 0 _ HPNA.out.1 HPNA.out.2.symm)
      clear hqa hqi hqo
      have HWS := Lib.hid (HWF.out j s hs)
      have HSS := Lib.hid hs
      clear hs hr
      generalize hl1 : qa (k + 1) = l1 at *
      have HL1 := Lib.hid hl1
      clear hl1
      generalize numM r ((k : Int) + 1) = m at *
      obtain ⟨e1, n1, s1, i1, q1, k1, d1⟩ := m
      obtain ⟨r0, r1, r2, r3, r4, r5⟩ := r
      simp only [mv, rv] at CN CP
      have hw1 : IntKind.i64.wrap ((k : Int) + 1) = (k : Int) + 1 := IntWalk.i64_in _ (by omega)
      go_upto_region 10 with (fail)
      rw [hjI]
      clear hjI
      have HV : ∃ Vp : Nat → (Nat → Value) → World → Prop, Vp = (fun ix u wv => match ix with
        | 0 => u 0 = .agg #[.int .i64 12, .slice Aq (qa k).length cq]
        | 1 => u 1 = .slice (some ad) rs.length c
        | 2 => u 2 = .int .i64 (k : Int)
        | 3 => u 3 = .pointer (some (ad.add (k * 6)))
        | 4 => u 4 = .agg #[.int .i64 r0, .int .i64 r1, .int .i64 r2, .int .i64 r3, .int .i64 r4, .int .i64 r5]
        | 5 => u 5 = .int .i64 (k : Int)
        | 6 => u 6 = .int .i64 ((k : Int) + 1)
        | 7 => u 7 = .agg #[.bool e1, .int .i64 n1, .int .i64 s1, .int .i64 i1, .int .i64 q1, .int .i64 k1, .string d1]
        | 8 => ∃ A5 c5, u 8 = .tuple #[.agg #[.int .i64 12, .slice A5 l1.length c5], .int .i64 0] ∧ QIn wv A5 c5 l1 ∧ OffB [b9, b7] A5
        | 9 => ∃ A5 c5, u 9 = .tuple #[.agg #[.int .i64 12, .slice A5 l1.length c5], .int .i64 0] ∧ QIn wv A5 c5 l1 ∧ OffB [b9, b7] A5
        | 10 => ∃ A5 c5, u 10 = .agg #[.int .i64 12, .slice A5 l1.length c5] ∧ QIn wv A5 c5 l1 ∧ OffB [b9, b7] A5
        | 11 => u 11 = .int .i64 0
        | 12 => ∃ g, u 12 = .pointer (some ⟨g, 0, none⟩) ∧ wr.heap.size ≤ g ∧ QAt wv g 0 none 0 0
        | 13 => ∃ g, u 12 = .pointer (some ⟨g, 0, none⟩) ∧ wr.heap.size ≤ g ∧ QVar [b9, b7] wv g 12 l1
        | 14 => u 14 = .int .i64 0
        | _ => True) := ⟨_, rfl⟩
      obtain ⟨Vp, hVdef⟩ := HV
      have Vp0 : ∀ u wv, Vp 0 u wv = (u 0 = .agg #[.int .i64 12, .slice Aq (qa k).length cq]) := fun u wv => by subst hVdef; rfl
      have Vp1 : ∀ u wv, Vp 1 u wv = (u 1 = .slice (some ad) rs.length c) := fun u wv => by subst hVdef; rfl
      have Vp2 : ∀ u wv, Vp 2 u wv = (u 2 = .int .i64 (k : Int)) := fun u wv => by subst hVdef; rfl
      have Vp3 : ∀ u wv, Vp 3 u wv = (u 3 = .pointer (some (ad.add (k * 6)))) := fun u wv => by subst hVdef; rfl
      have Vp4 : ∀ u wv, Vp 4 u wv = (u 4 = .agg #[.int .i64 r0, .int .i64 r1, .int .i64 r2, .int .i64 r3, .int .i64 r4, .int .i64 r5]) := fun u wv => by subst hVdef; rfl
      have Vp5 : ∀ u wv, Vp 5 u wv = (u 5 = .int .i64 (k : Int)) := fun u wv => by subst hVdef; rfl
      have Vp6 : ∀ u wv, Vp 6 u wv = (u 6 = .int .i64 ((k : Int) + 1)) := fun u wv => by subst hVdef; rfl
      have Vp7 : ∀ u wv, Vp 7 u wv = (u 7 = .agg #[.bool e1, .int .i64 n1, .int .i64 s1, .int .i64 i1, .int .i64 q1, .int .i64 k1, .string d1]) := fun u wv => by subst hVdef; rfl
      have Vp8 : ∀ u wv, Vp 8 u wv = (∃ A5 c5, u 8 = .tuple #[.agg #[.int .i64 12, .slice A5 l1.length c5], .int .i64 0] ∧ QIn wv A5 c5 l1 ∧ OffB [b9, b7] A5) := fun u wv => by subst hVdef; rfl
      have Vp9 : ∀ u wv, Vp 9 u wv = (∃ A5 c5, u 9 = .tuple #[.agg #[.int .i64 12, .slice A5 l1.length c5], .int .i64 0] ∧ QIn wv A5 c5 l1 ∧ OffB [b9, b7] A5) := fun u wv => by subst hVdef; rfl
      have Vp10 : ∀ u wv, Vp 10 u wv = (∃ A5 c5, u 10 = .agg #[.int .i64 12, .slice A5 l1.length c5] ∧ QIn wv A5 c5 l1 ∧ OffB [b9, b7] A5) := fun u wv => by subst hVdef; rfl
      have Vp11 : ∀ u wv, Vp 11 u wv = (u 11 = .int .i64 0) := fun u wv => by subst hVdef; rfl
      have Vp12 : ∀ u wv, Vp 12 u wv = (∃ g, u 12 = .pointer (some ⟨g, 0, none⟩) ∧ wr.heap.size ≤ g ∧ QAt wv g 0 none 0 0) := fun u wv => by subst hVdef; rfl
      have Vp13 : ∀ u wv, Vp 13 u wv = (∃ g, u 12 = .pointer (some ⟨g, 0, none⟩) ∧ wr.heap.size ≤ g ∧ QVar [b9, b7] wv g 12 l1) := fun u wv => by subst hVdef; rfl
      have Vp14 : ∀ u wv, Vp 14 u wv = (u 14 = .int .i64 0) := fun u wv => by subst hVdef; rfl
      have HVD := Lib.hid hVdef
      clear hVdef
      refine region_phase (V := Vp) (drop := fun jx ix => (jx == 13 && ix == 12)) (G := fun L wv => Below wr.heap.size wr wv) (Rel := fun jx wv wv' => (jx = 13 ∧ (∃ g x y, QAt wv g 0 none 0 0 ∧ wv' = (wv.setCell ⟨g, 0, none⟩ x).setCell ⟨g, 1, none⟩ y)) ∨ Below wv.heap.size wv wv') (by kernel_rfl) (by kernel_rfl) (Below.refl _ _).drew ?hmonop1 ?hdepp1 ⟨?s0_p1, ?s1_p1, ?s2_p1, ?s3_p1, ?s4_p1, ?s5_p1, ?s6_p1, ?s7_p1, ?s8_p1, ?s9_p1, ?s10_p1, ?s11_p1, ?s12_p1, ?s13_p1, ?s14_p1, trivial⟩ ?behindp1
      case hmonop1 =>
        intro ix jx u wv wv' hij hw hd hr
        rw [HVD.out]
        dsimp only
        split <;> intro h <;> first | exact trivial | exact h | (rcases hr with ⟨rfl, hpk⟩ | hb; (focus first | exact absurd rfl hij | (simp at hd; done) | (obtain ⟨A5, c5, e, hi5, ho5⟩ := h; obtain ⟨g, x, y, hgq, rfl⟩ := hpk; exact ⟨A5, c5, e, hi5.farQ hgq x y, ho5⟩) | (exact Bool.noConfusion (hw.symm.trans (show _ = true from by kernel_rfl)))); (first | (obtain ⟨A5, c5, e, hi5, ho5⟩ := h; exact ⟨A5, c5, e, hi5.on hb, ho5⟩) | (obtain ⟨g, e, hg, hm⟩ := h; exact ⟨g, e, hg, hm.on hb⟩) | (obtain ⟨g, e, hg, hm⟩ := h; exact ⟨g, e, hg, hm.on hb⟩)))
      case hdepp1 =>
        intro ix u u' wv h1 h2
        rw [HVD.out]
        dsimp only
        split <;> intro h <;> first | exact trivial | (rw [← h1]; exact h) | (obtain ⟨g, e, h⟩ := h; exact ⟨g, (h2 12 (by kernel_rfl)).symm.trans e, h⟩) | exact h
      case s0_p1 =>
        refine oweP rfl fun a wx val L hG hi hW hV hN hO K hK => ?_
        have e7 : a.tmps[7]? = some (.pointer (some ⟨b7, 0, none⟩)) := (hO 7 (by kernel_rfl)).trans (by rfl)
        clear hV hN hO
        obtain ⟨v0, v1⟩ := (HQA.out.on hG).cells
        go_simp
        exact hK.out _ _ (by rw [Vp0, upd_at] <;> (congr 1 <;> omega)) (.inr (Below.refl _ _)) (hG)
      case s1_p1 =>
        refine oweP rfl fun a wx val L hG hi hW hV hN hO K hK => ?_
        have e0 : a.tmps[0]? = some (.slice (some ad) rs.length c) := (hO 0 (by kernel_rfl)).trans (by rfl)
        clear hV hN hO
        go_simp
        exact hK.out _ _ (by rw [Vp1, upd_at] <;> (congr 1 <;> omega)) (.inr (Below.refl _ _)) (hG)
      case s2_p1 =>
        refine oweP rfl fun a wx val L hG hi hW hV hN hO K hK => ?_
        have e12 : a.tmps[12]? = some (.int .i64 (k : Int)) := (hO 12 (by kernel_rfl)).trans (by rfl)
        clear hV hN hO
        go_simp
        exact hK.out _ _ (by rw [Vp2, upd_at] <;> (congr 1 <;> omega)) (.inr (Below.refl _ _)) (hG)
      case s3_p1 =>
        refine oweP rfl fun a wx val L hG hi hW hV hN hO K hK => ?_
        have e56 := hN 1 56 (by kernel_rfl) (by kernel_rfl) (by simp)
        have f56 := hV 1 (by kernel_rfl) (by kernel_rfl)
        rw [Vp1] at f56; rw [f56] at e56; clear f56
        have e57 := hN 2 57 (by kernel_rfl) (by kernel_rfl) (by simp)
        have f57 := hV 2 (by kernel_rfl) (by kernel_rfl)
        rw [Vp2] at f57; rw [f57] at e57; clear f57
        clear hV hN hO
        go_simp
        exact hK.out _ _ (by rw [Vp3, upd_at] <;> (congr 1 <;> omega)) (.inr (Below.refl _ _)) (hG)
      case s4_p1 =>
        refine oweP rfl fun a wx val L hG hi hW hV hN hO K hK => ?_
        have e58 := hN 3 58 (by kernel_rfl) (by kernel_rfl) (by simp)
        have f58 := hV 3 (by kernel_rfl) (by kernel_rfl)
        rw [Vp3] at f58; rw [f58] at e58; clear f58
        clear hV hN hO
        obtain ⟨x0, x1, x2, x3, x4, x5⟩ := HRAW.out _ hG
        go_simp
        exact hK.out _ _ (by rw [Vp4, upd_at] <;> (congr 1 <;> omega)) (.inr (Below.refl _ _)) (hG)
      case s5_p1 =>
        refine oweP rfl fun a wx val L hG hi hW hV hN hO K hK => ?_
        have e12 : a.tmps[12]? = some (.int .i64 (k : Int)) := (hO 12 (by kernel_rfl)).trans (by rfl)
        clear hV hN hO
        go_simp
        exact hK.out _ _ (by rw [Vp5, upd_at] <;> (congr 1 <;> omega)) (.inr (Below.refl _ _)) (hG)
      case s6_p1 =>
        refine oweP rfl fun a wx val L hG hi hW hV hN hO K hK => ?_
        have e60 := hN 5 60 (by kernel_rfl) (by kernel_rfl) (by simp)
        have f60 := hV 5 (by kernel_rfl) (by kernel_rfl)
        rw [Vp5] at f60; rw [f60] at e60; clear f60
        clear hV hN hO
        go_simp
        exact hK.out _ _ (by rw [Vp6, upd_at] <;> (congr 1 <;> omega)) (.inr (Below.refl _ _)) (hG)
      case s7_p1 =>
        refine oweP rfl fun a wx val L hG hi hW hV hN hO K hK => ?_
        have e59 := hN 4 59 (by kernel_rfl) (by kernel_rfl) (by simp)
        have f59 := hV 4 (by kernel_rfl) (by kernel_rfl)
        rw [Vp4] at f59; rw [f59] at e59; clear f59
        have e61 := hN 6 61 (by kernel_rfl) (by kernel_rfl) (by simp)
        have f61 := hV 6 (by kernel_rfl) (by kernel_rfl)
        rw [Vp6] at f61; rw [f61] at e61; clear f61
        clear hV hN hO
        go_simp
        refine (CN.out _).mono ?_
        rintro e w11 ⟨rfl, hb⟩
        exact hK.out _ _ (by rw [Vp7, upd_at]) (.inr (hb)) (hG.trans (hb.mono hG.size))
      case s8_p1 =>
        refine oweP rfl fun a wx val L hG hi hW hV hN hO K hK => ?_
        have e55 := hN 0 55 (by kernel_rfl) (by kernel_rfl) (by simp)
        have f55 := hV 0 (by kernel_rfl) (by kernel_rfl)
        rw [Vp0] at f55; rw [f55] at e55; clear f55
        have e62 := hN 7 62 (by kernel_rfl) (by kernel_rfl) (by simp)
        have f62 := hV 7 (by kernel_rfl) (by kernel_rfl)
        rw [Vp7] at f62; rw [f62] at e62; clear f62
        clear hV hN hO
        go_simp
        refine (CP.out _ hG).mono ?_
        rintro e w11 ⟨A5, c5, rfl, hi5, ho5, hb⟩
        exact hK.out _ _ (by rw [Vp8, upd_at]; exact ⟨A5, c5, rfl, hi5, ho5⟩) (.inr hb) (hG.trans (hb.mono hG.size))
      case s9_p1 =>
        refine oweP rfl fun a wx val L hG hi hW hV hN hO K hK => ?_
        have e63 := hN 8 63 (by kernel_rfl) (by kernel_rfl) (by simp)
        have f63 := hV 8 (by kernel_rfl) (by kernel_rfl)
        rw [Vp8] at f63; obtain ⟨A5, c5, hv, hi5, ho5⟩ := f63; rw [hv] at e63
        clear hV hN hO
        go_simp
        exact hK.out _ _ (by rw [Vp9, upd_at]; exact ⟨A5, c5, rfl, hi5, ho5⟩) (.inr (Below.refl _ _)) (hG)
      case s10_p1 =>
        refine oweP rfl fun a wx val L hG hi hW hV hN hO K hK => ?_
        have e54 := hN 9 54 (by kernel_rfl) (by kernel_rfl) (by simp)
        have f54 := hV 9 (by kernel_rfl) (by kernel_rfl)
        rw [Vp9] at f54; obtain ⟨A5, c5, hv, hi5, ho5⟩ := f54; rw [hv] at e54
        clear hV hN hO
        go_simp
        exact hK.out _ _ (by rw [Vp10, upd_at]; exact ⟨A5, c5, rfl, hi5, ho5⟩) (.inr (Below.refl _ _)) (hG)
      case s11_p1 =>
        refine oweP rfl fun a wx val L hG hi hW hV hN hO K hK => ?_
        have e54 := hN 9 54 (by kernel_rfl) (by kernel_rfl) (by simp)
        have f54 := hV 9 (by kernel_rfl) (by kernel_rfl)
        rw [Vp9] at f54; obtain ⟨A5, c5, hv, hi5, ho5⟩ := f54; rw [hv] at e54
        clear hV hN hO
        go_simp
        exact hK.out _ _ (by rw [Vp11, upd_at]) (.inr (Below.refl _ _)) (hG)
      case s12_p1 =>
        refine oweP rfl fun a wx val L hG hi hW hV hN hO K hK => ?_
        clear hV hN hO
        go_simp
        have hb := Joins.below_alloc1 wx (.cells #[.int .i64 0, .slice none 0 0] 31)
        exact hK.out _ _ (by rw [Vp12, upd_at]; exact ⟨_, rfl, hG.size, QAt.new wx 0 none 0 0⟩) (.inr hb) (hG.trans (hb.mono hG.size))
      case s13_p1 =>
        refine oweP rfl fun a wx val L hG hi hW hV hN hO K hK => ?_
        have e14 := hN 12 14 (by kernel_rfl) (by kernel_rfl) (by simp)
        have f14 := hV 12 (by kernel_rfl) (by kernel_rfl)
        rw [Vp12] at f14; obtain ⟨g, hva, hg9, hgg⟩ := f14; rw [hva] at e14
        have e64 := hN 10 64 (by kernel_rfl) (by kernel_rfl) (by simp)
        have f64 := hV 10 (by kernel_rfl) (by kernel_rfl)
        rw [Vp10] at f64; obtain ⟨A5, c5, hv, hi5, ho5⟩ := f64; rw [hv] at e64
        clear hV hN hO
        obtain ⟨v0, v1⟩ := hgg.cells
        have vf := hgg.frozen
        have hs9 := hG.size
        have hbs := below_set2 hG (b := g) hg9 (.int .i64 12) (.slice A5 l1.length c5)
        have hqn : QVar [b9, b7] ((wx.setCell ⟨g, 0, none⟩ (.int .i64 12)).setCell ⟨g, 1, none⟩ (.slice A5 l1.length c5)) g 12 l1 := ⟨A5, c5, hgg.set 12 A5 l1.length c5, hi5.farQ hgg _ _, ho5⟩
        have hpk : ∃ g0 x y, QAt wx g0 0 none 0 0 ∧ ((wx.setCell ⟨g, 0, none⟩ (.int .i64 12)).setCell ⟨g, 1, none⟩ (.slice A5 l1.length c5)) = (wx.setCell ⟨g0, 0, none⟩ x).setCell ⟨g0, 1, none⟩ y := ⟨g, _, _, hgg, rfl⟩
        clear hs9
        go_simp
        exact hK.out undef _ (by rw [Vp13, upd_ne _ _ (by decide)]; exact ⟨g, hva, hg9, hqn⟩) (.inl ⟨rfl, hpk⟩) hbs
      case s14_p1 =>
        refine oweP rfl fun a wx val L hG hi hW hV hN hO K hK => ?_
        have e65 := hN 11 65 (by kernel_rfl) (by kernel_rfl) (by simp)
        have f65 := hV 11 (by kernel_rfl) (by kernel_rfl)
        rw [Vp11] at f65; rw [f65] at e65; clear f65
        clear hV hN hO
        go_simp
        exact hK.out _ _ (by rw [Vp14, upd_at] <;> (congr 1 <;> omega)) (.inr (Below.refl _ _)) (hG)
      intro val wx L hG hV
      have f0 := hV 0 (by simp) (fun _ _ => by simp)
      rw [Vp0] at f0
      have f1 := hV 1 (by simp) (fun _ _ => by simp)
      rw [Vp1] at f1
      have f2 := hV 2 (by simp) (fun _ _ => by simp)
      rw [Vp2] at f2
      have f3 := hV 3 (by simp) (fun _ _ => by simp)
      rw [Vp3] at f3
      have f4 := hV 4 (by simp) (fun _ _ => by simp)
      rw [Vp4] at f4
      have f5 := hV 5 (by simp) (fun _ _ => by simp)
      rw [Vp5] at f5
      have f6 := hV 6 (by simp) (fun _ _ => by simp)
      rw [Vp6] at f6
      have f7 := hV 7 (by simp) (fun _ _ => by simp)
      rw [Vp7] at f7
      have f8 := hV 8 (by simp) (fun _ _ => by simp)
      rw [Vp8] at f8
      have f9 := hV 9 (by simp) (fun _ _ => by simp)
      rw [Vp9] at f9
      have f10 := hV 10 (by simp) (fun _ _ => by simp)
      rw [Vp10] at f10
      have f11 := hV 11 (by simp) (fun _ _ => by simp)
      rw [Vp11] at f11
      have f13 := hV 13 (by simp) (fun _ _ => by simp)
      rw [Vp13] at f13
      have f14 := hV 14 (by simp) (fun _ _ => by simp)
      rw [Vp14] at f14
      clear hV Vp0 Vp1 Vp2 Vp3 Vp4 Vp5 Vp6 Vp7 Vp8 Vp9 Vp10 Vp11 Vp12 Vp13 Vp14
      simp only [putAll, Act.put, List.setIfInBounds_toArray, List.set_cons_zero, List.set_cons_succ]
      generalize val 0 = z0 at *; (subst f0)
      generalize val 1 = z1 at *; (subst f1)
      generalize val 2 = z2 at *; (subst f2)
      generalize val 3 = z3 at *; (subst f3)
      generalize val 4 = z4 at *; (subst f4)
      generalize val 5 = z5 at *; (subst f5)
      generalize val 6 = z6 at *; (subst f6)
      generalize val 7 = z7 at *; (subst f7)
      generalize val 8 = z8 at *
      generalize val 9 = z9 at *
      generalize val 10 = z10 at *
      generalize val 11 = z11 at *; (subst f11)
      generalize val 12 = z12 at *
      generalize val 14 = z14 at *; (subst f14)
      clear HVD
      obtain ⟨g14, hz14, hg14, hq14⟩ := f13
      subst hz14
      have H14 := Lib.hid hq14
      have HVA1 := Lib.hid (QVar.on HVA.out hG); clear HVA; have HVA := HVA1; clear HVA1
      have HVB1 := Lib.hid (QVar.on HVB.out hG); clear HVB; have HVB := HVB1; clear HVB1
      have HB1 := Lib.hid (HB.out.trans (hG.mono HB.out.size)); clear HB; have HB := HB1; clear HB1
      clear hq14 hG f8 f9 f10 hw1 CN CP HRAW HQA
      generalize hX11 : wx = X11 at *
      clear hX11
      have HLT7 : Hid (b7 < X11.heap.size) := Lib.hid HVA.out.lt
      have hs := HSS.out
      obtain ⟨Aq, cq, hqa, hqi, hqo⟩ := HVB.out
      have HQA := Lib.hid hqa
      have HRAW : Hid (∀ W, Below X11.heap.size X11 W → At6 W (ad.add (j * 6)) s) := Lib.hid (fun W h => HROW.out j s W (HB.out.trans (h.mono HB.out.size)) hs)
      have CN : Hid (∀ W, Calls Tryd.prog 21 #[rv s, .int .i64 ((j : Int) + 1)] W fun e w' => e = .returned (mv (numM s ((j : Int) + 1))) ∧ Below W.heap.size W w') := Lib.hid (fun W => numM_any _ HWS.out _ W)
      have CP : Hid (∀ W, Below X11.heap.size X11 W → Calls Tryd.prog 22 #[qv 12 Aq (qb k).length cq, mv (numM s ((j : Int) + 1))] W fun e w' => ∃ A5 c5, e = .returned (.tuple #[qv 12 A5 (qb (k + 1)).length c5, .int .i64 0]) ∧ QIn w' A5 c5 (qb (k + 1)) ∧ OffB [b9, b7] A5 ∧ Below W.heap.size W w') := Lib.hid (fun W hW => put_var 12 Aq cq (qb k) _ [b9, b7] W (HLL.out.below (HB.out.trans (hW.mono HB.out.size))) (hqi.on hW) hqo (fun x hx => by simp only [List.mem_cons, List.not_mem_nil, or_false] at hx; rcases hx with rfl | rfl; exact Nat.lt_of_lt_of_le HVB.out.lt hW.size; exact Nat.lt_of_lt_of_le HVA.out.lt hW.size) (numM_data _ _) (by rw [(HSB.out k (by omega)).2.1]; omega) 0 _ HPNB.out.1 HPNB.out.2.symm)
      clear hqa hqi hqo
      clear hs HSS
      generalize hl2 : qb (k + 1) = l2 at *
      have HL2 := Lib.hid hl2
      clear hl2
      generalize numM s ((j : Int) + 1) = m at *
      obtain ⟨e1, n1, s1, i1, q1, k1, d1⟩ := m
      obtain ⟨r0, r1, r2, r3, r4, r5⟩ := s
      simp only [mv, rv] at CN CP
      have hw1 : IntKind.i64.wrap ((j : Int) + 1) = (j : Int) + 1 := IntWalk.i64_in _ (by omega)
      go_upto_region 11 with (fail)
      have HV : ∃ Vp : Nat → (Nat → Value) → World → Prop, Vp = (fun ix u wv => match ix with
        | 0 => u 0 = .agg #[.int .i64 12, .slice Aq (qb k).length cq]
        | 1 => u 1 = .slice (some ad) rs.length c
        | 2 => u 2 = .int .i64 (j : Int)
        | 3 => u 3 = .pointer (some (ad.add (j * 6)))
        | 4 => u 4 = .agg #[.int .i64 r0, .int .i64 r1, .int .i64 r2, .int .i64 r3, .int .i64 r4, .int .i64 r5]
        | 5 => u 5 = .int .i64 (j : Int)
        | 6 => u 6 = .int .i64 ((j : Int) + 1)
        | 7 => u 7 = .agg #[.bool e1, .int .i64 n1, .int .i64 s1, .int .i64 i1, .int .i64 q1, .int .i64 k1, .string d1]
        | 8 => ∃ A5 c5, u 8 = .tuple #[.agg #[.int .i64 12, .slice A5 l2.length c5], .int .i64 0] ∧ QIn wv A5 c5 l2 ∧ OffB [b9, b7] A5
        | 9 => ∃ A5 c5, u 9 = .tuple #[.agg #[.int .i64 12, .slice A5 l2.length c5], .int .i64 0] ∧ QIn wv A5 c5 l2 ∧ OffB [b9, b7] A5
        | 10 => ∃ A5 c5, u 10 = .agg #[.int .i64 12, .slice A5 l2.length c5] ∧ QIn wv A5 c5 l2 ∧ OffB [b9, b7] A5
        | 11 => u 11 = .int .i64 0
        | 12 => ∃ g, u 12 = .pointer (some ⟨g, 0, none⟩) ∧ X11.heap.size ≤ g ∧ QAt wv g 0 none 0 0
        | 13 => ∃ g, u 12 = .pointer (some ⟨g, 0, none⟩) ∧ X11.heap.size ≤ g ∧ QVar [b9, b7] wv g 12 l2
        | 14 => u 14 = .int .i64 0
        | _ => True) := ⟨_, rfl⟩
      obtain ⟨Vp, hVdef⟩ := HV
      have Vp0 : ∀ u wv, Vp 0 u wv = (u 0 = .agg #[.int .i64 12, .slice Aq (qb k).length cq]) := fun u wv => by subst hVdef; rfl
      have Vp1 : ∀ u wv, Vp 1 u wv = (u 1 = .slice (some ad) rs.length c) := fun u wv => by subst hVdef; rfl
      have Vp2 : ∀ u wv, Vp 2 u wv = (u 2 = .int .i64 (j : Int)) := fun u wv => by subst hVdef; rfl
      have Vp3 : ∀ u wv, Vp 3 u wv = (u 3 = .pointer (some (ad.add (j * 6)))) := fun u wv => by subst hVdef; rfl
      have Vp4 : ∀ u wv, Vp 4 u wv = (u 4 = .agg #[.int .i64 r0, .int .i64 r1, .int .i64 r2, .int .i64 r3, .int .i64 r4, .int .i64 r5]) := fun u wv => by subst hVdef; rfl
      have Vp5 : ∀ u wv, Vp 5 u wv = (u 5 = .int .i64 (j : Int)) := fun u wv => by subst hVdef; rfl
      have Vp6 : ∀ u wv, Vp 6 u wv = (u 6 = .int .i64 ((j : Int) + 1)) := fun u wv => by subst hVdef; rfl
      have Vp7 : ∀ u wv, Vp 7 u wv = (u 7 = .agg #[.bool e1, .int .i64 n1, .int .i64 s1, .int .i64 i1, .int .i64 q1, .int .i64 k1, .string d1]) := fun u wv => by subst hVdef; rfl
      have Vp8 : ∀ u wv, Vp 8 u wv = (∃ A5 c5, u 8 = .tuple #[.agg #[.int .i64 12, .slice A5 l2.length c5], .int .i64 0] ∧ QIn wv A5 c5 l2 ∧ OffB [b9, b7] A5) := fun u wv => by subst hVdef; rfl
      have Vp9 : ∀ u wv, Vp 9 u wv = (∃ A5 c5, u 9 = .tuple #[.agg #[.int .i64 12, .slice A5 l2.length c5], .int .i64 0] ∧ QIn wv A5 c5 l2 ∧ OffB [b9, b7] A5) := fun u wv => by subst hVdef; rfl
      have Vp10 : ∀ u wv, Vp 10 u wv = (∃ A5 c5, u 10 = .agg #[.int .i64 12, .slice A5 l2.length c5] ∧ QIn wv A5 c5 l2 ∧ OffB [b9, b7] A5) := fun u wv => by subst hVdef; rfl
      have Vp11 : ∀ u wv, Vp 11 u wv = (u 11 = .int .i64 0) := fun u wv => by subst hVdef; rfl
      have Vp12 : ∀ u wv, Vp 12 u wv = (∃ g, u 12 = .pointer (some ⟨g, 0, none⟩) ∧ X11.heap.size ≤ g ∧ QAt wv g 0 none 0 0) := fun u wv => by subst hVdef; rfl
      have Vp13 : ∀ u wv, Vp 13 u wv = (∃ g, u 12 = .pointer (some ⟨g, 0, none⟩) ∧ X11.heap.size ≤ g ∧ QVar [b9, b7] wv g 12 l2) := fun u wv => by subst hVdef; rfl
      have Vp14 : ∀ u wv, Vp 14 u wv = (u 14 = .int .i64 0) := fun u wv => by subst hVdef; rfl
      have HVD := Lib.hid hVdef
      clear hVdef
      refine region_phase (V := Vp) (drop := fun jx ix => (jx == 13 && ix == 12)) (G := fun L wv => Below X11.heap.size X11 wv) (Rel := fun jx wv wv' => (jx = 13 ∧ (∃ g x y, QAt wv g 0 none 0 0 ∧ wv' = (wv.setCell ⟨g, 0, none⟩ x).setCell ⟨g, 1, none⟩ y)) ∨ Below wv.heap.size wv wv') (by kernel_rfl) (by kernel_rfl) (Below.refl _ _).drew ?hmonop2 ?hdepp2 ⟨?s0_p2, ?s1_p2, ?s2_p2, ?s3_p2, ?s4_p2, ?s5_p2, ?s6_p2, ?s7_p2, ?s8_p2, ?s9_p2, ?s10_p2, ?s11_p2, ?s12_p2, ?s13_p2, ?s14_p2, trivial⟩ ?behindp2
      case hmonop2 =>
        intro ix jx u wv wv' hij hw hd hr
        rw [HVD.out]
        dsimp only
        split <;> intro h <;> first | exact trivial | exact h | (rcases hr with ⟨rfl, hpk⟩ | hb; (focus first | exact absurd rfl hij | (simp at hd; done) | (obtain ⟨A5, c5, e, hi5, ho5⟩ := h; obtain ⟨g, x, y, hgq, rfl⟩ := hpk; exact ⟨A5, c5, e, hi5.farQ hgq x y, ho5⟩) | (exact Bool.noConfusion (hw.symm.trans (show _ = true from by kernel_rfl)))); (first | (obtain ⟨A5, c5, e, hi5, ho5⟩ := h; exact ⟨A5, c5, e, hi5.on hb, ho5⟩) | (obtain ⟨g, e, hg, hm⟩ := h; exact ⟨g, e, hg, hm.on hb⟩) | (obtain ⟨g, e, hg, hm⟩ := h; exact ⟨g, e, hg, hm.on hb⟩)))
      case hdepp2 =>
        intro ix u u' wv h1 h2
        rw [HVD.out]
        dsimp only
        split <;> intro h <;> first | exact trivial | (rw [← h1]; exact h) | (obtain ⟨g, e, h⟩ := h; exact ⟨g, (h2 12 (by kernel_rfl)).symm.trans e, h⟩) | exact h
      case s0_p2 =>
        refine oweP rfl fun a wx val L hG hi hW hV hN hO K hK => ?_
        have e9 : a.tmps[9]? = some (.pointer (some ⟨b9, 0, none⟩)) := (hO 9 (by kernel_rfl)).trans (by rfl)
        clear hV hN hO
        obtain ⟨v0, v1⟩ := (HQA.out.on hG).cells
        go_simp
        exact hK.out _ _ (by rw [Vp0, upd_at] <;> (congr 1 <;> omega)) (.inr (Below.refl _ _)) (hG)
      case s1_p2 =>
        refine oweP rfl fun a wx val L hG hi hW hV hN hO K hK => ?_
        have e0 : a.tmps[0]? = some (.slice (some ad) rs.length c) := (hO 0 (by kernel_rfl)).trans (by rfl)
        clear hV hN hO
        go_simp
        exact hK.out _ _ (by rw [Vp1, upd_at] <;> (congr 1 <;> omega)) (.inr (Below.refl _ _)) (hG)
      case s2_p2 =>
        refine oweP rfl fun a wx val L hG hi hW hV hN hO K hK => ?_
        have e13 : a.tmps[13]? = some (.int .i64 (j : Int)) := (hO 13 (by kernel_rfl)).trans (by rfl)
        clear hV hN hO
        go_simp
        exact hK.out _ _ (by rw [Vp2, upd_at] <;> (congr 1 <;> omega)) (.inr (Below.refl _ _)) (hG)
      case s3_p2 =>
        refine oweP rfl fun a wx val L hG hi hW hV hN hO K hK => ?_
        have e68 := hN 1 68 (by kernel_rfl) (by kernel_rfl) (by simp)
        have f68 := hV 1 (by kernel_rfl) (by kernel_rfl)
        rw [Vp1] at f68; rw [f68] at e68; clear f68
        have e69 := hN 2 69 (by kernel_rfl) (by kernel_rfl) (by simp)
        have f69 := hV 2 (by kernel_rfl) (by kernel_rfl)
        rw [Vp2] at f69; rw [f69] at e69; clear f69
        clear hV hN hO
        go_simp
        exact hK.out _ _ (by rw [Vp3, upd_at] <;> (congr 1 <;> omega)) (.inr (Below.refl _ _)) (hG)
      case s4_p2 =>
        refine oweP rfl fun a wx val L hG hi hW hV hN hO K hK => ?_
        have e70 := hN 3 70 (by kernel_rfl) (by kernel_rfl) (by simp)
        have f70 := hV 3 (by kernel_rfl) (by kernel_rfl)
        rw [Vp3] at f70; rw [f70] at e70; clear f70
        clear hV hN hO
        obtain ⟨x0, x1, x2, x3, x4, x5⟩ := HRAW.out _ hG
        go_simp
        exact hK.out _ _ (by rw [Vp4, upd_at] <;> (congr 1 <;> omega)) (.inr (Below.refl _ _)) (hG)
      case s5_p2 =>
        refine oweP rfl fun a wx val L hG hi hW hV hN hO K hK => ?_
        have e13 : a.tmps[13]? = some (.int .i64 (j : Int)) := (hO 13 (by kernel_rfl)).trans (by rfl)
        clear hV hN hO
        go_simp
        exact hK.out _ _ (by rw [Vp5, upd_at] <;> (congr 1 <;> omega)) (.inr (Below.refl _ _)) (hG)
      case s6_p2 =>
        refine oweP rfl fun a wx val L hG hi hW hV hN hO K hK => ?_
        have e72 := hN 5 72 (by kernel_rfl) (by kernel_rfl) (by simp)
        have f72 := hV 5 (by kernel_rfl) (by kernel_rfl)
        rw [Vp5] at f72; rw [f72] at e72; clear f72
        clear hV hN hO
        go_simp
        exact hK.out _ _ (by rw [Vp6, upd_at] <;> (congr 1 <;> omega)) (.inr (Below.refl _ _)) (hG)
      case s7_p2 =>
        refine oweP rfl fun a wx val L hG hi hW hV hN hO K hK => ?_
        have e71 := hN 4 71 (by kernel_rfl) (by kernel_rfl) (by simp)
        have f71 := hV 4 (by kernel_rfl) (by kernel_rfl)
        rw [Vp4] at f71; rw [f71] at e71; clear f71
        have e73 := hN 6 73 (by kernel_rfl) (by kernel_rfl) (by simp)
        have f73 := hV 6 (by kernel_rfl) (by kernel_rfl)
        rw [Vp6] at f73; rw [f73] at e73; clear f73
        clear hV hN hO
        go_simp
        refine (CN.out _).mono ?_
        rintro e w11 ⟨rfl, hb⟩
        exact hK.out _ _ (by rw [Vp7, upd_at]) (.inr (hb)) (hG.trans (hb.mono hG.size))
      case s8_p2 =>
        refine oweP rfl fun a wx val L hG hi hW hV hN hO K hK => ?_
        have e67 := hN 0 67 (by kernel_rfl) (by kernel_rfl) (by simp)
        have f67 := hV 0 (by kernel_rfl) (by kernel_rfl)
        rw [Vp0] at f67; rw [f67] at e67; clear f67
        have e74 := hN 7 74 (by kernel_rfl) (by kernel_rfl) (by simp)
        have f74 := hV 7 (by kernel_rfl) (by kernel_rfl)
        rw [Vp7] at f74; rw [f74] at e74; clear f74
        clear hV hN hO
        go_simp
        refine (CP.out _ hG).mono ?_
        rintro e w11 ⟨A5, c5, rfl, hi5, ho5, hb⟩
        exact hK.out _ _ (by rw [Vp8, upd_at]; exact ⟨A5, c5, rfl, hi5, ho5⟩) (.inr hb) (hG.trans (hb.mono hG.size))
      case s9_p2 =>
        refine oweP rfl fun a wx val L hG hi hW hV hN hO K hK => ?_
        have e75 := hN 8 75 (by kernel_rfl) (by kernel_rfl) (by simp)
        have f75 := hV 8 (by kernel_rfl) (by kernel_rfl)
        rw [Vp8] at f75; obtain ⟨A5, c5, hv, hi5, ho5⟩ := f75; rw [hv] at e75
        clear hV hN hO
        go_simp
        exact hK.out _ _ (by rw [Vp9, upd_at]; exact ⟨A5, c5, rfl, hi5, ho5⟩) (.inr (Below.refl _ _)) (hG)
      case s10_p2 =>
        refine oweP rfl fun a wx val L hG hi hW hV hN hO K hK => ?_
        have e66 := hN 9 66 (by kernel_rfl) (by kernel_rfl) (by simp)
        have f66 := hV 9 (by kernel_rfl) (by kernel_rfl)
        rw [Vp9] at f66; obtain ⟨A5, c5, hv, hi5, ho5⟩ := f66; rw [hv] at e66
        clear hV hN hO
        go_simp
        exact hK.out _ _ (by rw [Vp10, upd_at]; exact ⟨A5, c5, rfl, hi5, ho5⟩) (.inr (Below.refl _ _)) (hG)
      case s11_p2 =>
        refine oweP rfl fun a wx val L hG hi hW hV hN hO K hK => ?_
        have e66 := hN 9 66 (by kernel_rfl) (by kernel_rfl) (by simp)
        have f66 := hV 9 (by kernel_rfl) (by kernel_rfl)
        rw [Vp9] at f66; obtain ⟨A5, c5, hv, hi5, ho5⟩ := f66; rw [hv] at e66
        clear hV hN hO
        go_simp
        exact hK.out _ _ (by rw [Vp11, upd_at]) (.inr (Below.refl _ _)) (hG)
      case s12_p2 =>
        refine oweP rfl fun a wx val L hG hi hW hV hN hO K hK => ?_
        clear hV hN hO
        go_simp
        have hb := Joins.below_alloc1 wx (.cells #[.int .i64 0, .slice none 0 0] 31)
        exact hK.out _ _ (by rw [Vp12, upd_at]; exact ⟨_, rfl, hG.size, QAt.new wx 0 none 0 0⟩) (.inr hb) (hG.trans (hb.mono hG.size))
      case s13_p2 =>
        refine oweP rfl fun a wx val L hG hi hW hV hN hO K hK => ?_
        have e16 := hN 12 16 (by kernel_rfl) (by kernel_rfl) (by simp)
        have f16 := hV 12 (by kernel_rfl) (by kernel_rfl)
        rw [Vp12] at f16; obtain ⟨g, hva, hg9, hgg⟩ := f16; rw [hva] at e16
        have e76 := hN 10 76 (by kernel_rfl) (by kernel_rfl) (by simp)
        have f76 := hV 10 (by kernel_rfl) (by kernel_rfl)
        rw [Vp10] at f76; obtain ⟨A5, c5, hv, hi5, ho5⟩ := f76; rw [hv] at e76
        clear hV hN hO
        obtain ⟨v0, v1⟩ := hgg.cells
        have vf := hgg.frozen
        have hs9 := hG.size
        have hbs := below_set2 hG (b := g) hg9 (.int .i64 12) (.slice A5 l2.length c5)
        have hqn : QVar [b9, b7] ((wx.setCell ⟨g, 0, none⟩ (.int .i64 12)).setCell ⟨g, 1, none⟩ (.slice A5 l2.length c5)) g 12 l2 := ⟨A5, c5, hgg.set 12 A5 l2.length c5, hi5.farQ hgg _ _, ho5⟩
        have hpk : ∃ g0 x y, QAt wx g0 0 none 0 0 ∧ ((wx.setCell ⟨g, 0, none⟩ (.int .i64 12)).setCell ⟨g, 1, none⟩ (.slice A5 l2.length c5)) = (wx.setCell ⟨g0, 0, none⟩ x).setCell ⟨g0, 1, none⟩ y := ⟨g, _, _, hgg, rfl⟩
        clear hs9
        go_simp
        exact hK.out undef _ (by rw [Vp13, upd_ne _ _ (by decide)]; exact ⟨g, hva, hg9, hqn⟩) (.inl ⟨rfl, hpk⟩) hbs
      case s14_p2 =>
        refine oweP rfl fun a wx val L hG hi hW hV hN hO K hK => ?_
        have e77 := hN 11 77 (by kernel_rfl) (by kernel_rfl) (by simp)
        have f77 := hV 11 (by kernel_rfl) (by kernel_rfl)
        rw [Vp11] at f77; rw [f77] at e77; clear f77
        clear hV hN hO
        go_simp
        exact hK.out _ _ (by rw [Vp14, upd_at] <;> (congr 1 <;> omega)) (.inr (Below.refl _ _)) (hG)
      intro val wx L hG hV
      have f0 := hV 0 (by simp) (fun _ _ => by simp)
      rw [Vp0] at f0
      have f1 := hV 1 (by simp) (fun _ _ => by simp)
      rw [Vp1] at f1
      have f2 := hV 2 (by simp) (fun _ _ => by simp)
      rw [Vp2] at f2
      have f3 := hV 3 (by simp) (fun _ _ => by simp)
      rw [Vp3] at f3
      have f4 := hV 4 (by simp) (fun _ _ => by simp)
      rw [Vp4] at f4
      have f5 := hV 5 (by simp) (fun _ _ => by simp)
      rw [Vp5] at f5
      have f6 := hV 6 (by simp) (fun _ _ => by simp)
      rw [Vp6] at f6
      have f7 := hV 7 (by simp) (fun _ _ => by simp)
      rw [Vp7] at f7
      have f8 := hV 8 (by simp) (fun _ _ => by simp)
      rw [Vp8] at f8
      have f9 := hV 9 (by simp) (fun _ _ => by simp)
      rw [Vp9] at f9
      have f10 := hV 10 (by simp) (fun _ _ => by simp)
      rw [Vp10] at f10
      have f11 := hV 11 (by simp) (fun _ _ => by simp)
      rw [Vp11] at f11
      have f13 := hV 13 (by simp) (fun _ _ => by simp)
      rw [Vp13] at f13
      have f14 := hV 14 (by simp) (fun _ _ => by simp)
      rw [Vp14] at f14
      clear hV Vp0 Vp1 Vp2 Vp3 Vp4 Vp5 Vp6 Vp7 Vp8 Vp9 Vp10 Vp11 Vp12 Vp13 Vp14
      simp only [putAll, Act.put, List.setIfInBounds_toArray, List.set_cons_zero, List.set_cons_succ]
      generalize val 0 = z0 at *; (subst f0)
      generalize val 1 = z1 at *; (subst f1)
      generalize val 2 = z2 at *; (subst f2)
      generalize val 3 = z3 at *; (subst f3)
      generalize val 4 = z4 at *; (subst f4)
      generalize val 5 = z5 at *; (subst f5)
      generalize val 6 = z6 at *; (subst f6)
      generalize val 7 = z7 at *; (subst f7)
      generalize val 8 = z8 at *
      generalize val 9 = z9 at *
      generalize val 10 = z10 at *
      generalize val 11 = z11 at *; (subst f11)
      generalize val 12 = z12 at *
      generalize val 14 = z14 at *; (subst f14)
      clear HVD
      obtain ⟨g16, hz16, hg16, hq16⟩ := f13
      subst hz16
      have H16 := Lib.hid hq16
      have HVA1 := Lib.hid (QVar.on HVA.out hG); clear HVA; have HVA := HVA1; clear HVA1
      have HVB1 := Lib.hid (QVar.on HVB.out hG); clear HVB; have HVB := HVB1; clear HVB1
      have H141 := Lib.hid (QVar.on H14.out hG); clear H14; have H14 := H141; clear H141
      have HB1 := Lib.hid (HB.out.trans (hG.mono HB.out.size)); clear HB; have HB := HB1; clear HB1
      clear hq16 hG f8 f9 f10 hw1 CN CP HRAW HQA
      generalize hX12 : wx = X12 at *
      clear hX12
      obtain ⟨A5, c5, hqa, hqi, hqo⟩ := H14.out
      obtain ⟨y0, y1⟩ := hqa.cells
      obtain ⟨Ao, co, hqb, hqj, hqp⟩ := HVA.out
      obtain ⟨z0, z1⟩ := hqb.cells
      have zf := hqb.frozen
      have HQS := Lib.hid (QVar.store HVA.out (L' := 12) hqi hqo (by simp))
      have HBS := Lib.hid (below_set2 HB.out (b := b7) HS7.out (.int .i64 12) (.slice A5 l1.length c5))
      have HVB1 := Lib.hid (QVar.far HVB.out (b' := b7) (by simp) (by have := HS9.out; omega) (.int .i64 12) (.slice A5 l1.length c5))
      obtain ⟨A6, c6, hra, hri, hro⟩ := H16.out
      have hri2 := hri.far2 (b := b7) (hro b7 (by simp)) (.int .i64 12) (.slice A5 l1.length c5)
      have HRI := Lib.hid hri2
      have HRO := Lib.hid hro
      have HRA := Lib.hid (que_far2 hra (b := b7) (by have := HLT7.out; omega) (.int .i64 12) (.slice A5 l1.length c5))
      clear hqa hqi hqo hqb hqj hqp hra hri hro hri2
      go_upto_region 15 with (fail)
      clear y0 y1 z0 z1 zf
      generalize hXA : (X12.setCell ⟨b7, 0, none⟩ (.int .i64 12)).setCell ⟨b7, 1, none⟩ (.slice A5 l1.length c5) = XA at *
      clear hXA
      obtain ⟨y0, y1⟩ := HRA.out.cells
      obtain ⟨Ao, co, hqb, hqj, hqp⟩ := HVB1.out
      obtain ⟨z0, z1⟩ := hqb.cells
      have zf := hqb.frozen
      have HQT := Lib.hid (QVar.store HVB1.out (L' := 12) HRI.out HRO.out (by simp))
      have HBT := Lib.hid (below_set2 HBS.out (b := b9) (by have := HS7.out; have := HS9.out; omega) (.int .i64 12) (.slice A6 l2.length c6))
      have HQS1 := Lib.hid (QVar.far HQS.out (b' := b9) (by simp) (by have := HS9.out; omega) (.int .i64 12) (.slice A6 l2.length c6))
      clear hqb hqj hqp
      go_wp2_with fail
      go_roundw
      case rel => exact ⟨k + 1, by omega, by go_num, by rw [HL1.out]; exact HQS1.out, by rw [HL2.out]; exact HQT.out, HBT.out⟩
      case measure => simp [intOf]; omega
    · have hltI : ¬ (k : Int) < (N : Int) := by omega
      have hkN2 : k = N := by omega
      subst hkN2
      have hvb := HVB.out
      rw [HAB.out] at hvb
      clear HVB
      have HVB := Lib.hid hvb
      clear hvb hlt hk
      obtain ⟨Aq, cq, hqa, hqi, hqo⟩ := HVA.out
      have HQA := Lib.hid hqa
      have CN : Hid (∀ W, Calls Tryd.prog 21 #[rv ⟨att, att, att, att, att, att⟩, .int .i64 (99)] W fun e w' => e = .returned (mv (numM ⟨att, att, att, att, att, att⟩ (99))) ∧ Below W.heap.size W w') := Lib.hid (fun W => numM_any _ HATW.out _ W)
      have CP : Hid (∀ W, Below wr.heap.size wr W → Calls Tryd.prog 22 #[qv 12 Aq (qa k).length cq, mv (numM ⟨att, att, att, att, att, att⟩ (99))] W fun e w' => ∃ A5 c5, e = .returned (.tuple #[qv 12 A5 (lm).length c5, .int .i64 0]) ∧ QIn w' A5 c5 (lm) ∧ OffB [b9, b7] A5 ∧ Below W.heap.size W w') := Lib.hid (fun W hW => put_var 12 Aq cq (qa k) _ [b9, b7] W (HLL.out.below (HB.out.trans (hW.mono HB.out.size))) (hqi.on hW) hqo (fun x hx => by simp only [List.mem_cons, List.not_mem_nil, or_false] at hx; rcases hx with rfl | rfl; exact Nat.lt_of_lt_of_le HVB.out.lt hW.size; exact Nat.lt_of_lt_of_le HVA.out.lt hW.size) (numM_data _ _) (by rw [HSL.out]; omega) 0 _ HE1.out.1 HE1.out.2)
      clear hqa hqi hqo
      generalize hm99 : numM ⟨att, att, att, att, att, att⟩ 99 = m at *
      have HM99 : Hid (m.number = 99) := Lib.hid (by rw [← hm99]; rfl)
      clear hm99
      obtain ⟨e1, n1, s1, i1, q1, k1, d1⟩ := m
      simp only [mv, rv] at CN CP
      go_upto_region 16 with (fail)
      have HV : ∃ Vp : Nat → (Nat → Value) → World → Prop, Vp = (fun ix u wv => match ix with
        | 0 => u 0 = .agg #[.int .i64 12, .slice Aq (qa k).length cq]
        | 1 => u 1 = .int .i64 att
        | 2 => u 2 = .int .i64 att
        | 3 => u 3 = .int .i64 att
        | 4 => u 4 = .int .i64 att
        | 5 => u 5 = .int .i64 att
        | 6 => u 6 = .int .i64 att
        | 7 => u 7 = .agg #[.int .i64 att, .int .i64 att, .int .i64 att, .int .i64 att, .int .i64 att, .int .i64 att]
        | 8 => u 8 = .agg #[.bool e1, .int .i64 n1, .int .i64 s1, .int .i64 i1, .int .i64 q1, .int .i64 k1, .string d1]
        | 9 => ∃ A5 c5, u 9 = .tuple #[.agg #[.int .i64 12, .slice A5 lm.length c5], .int .i64 0] ∧ QIn wv A5 c5 lm ∧ OffB [b9, b7] A5
        | 10 => ∃ A5 c5, u 10 = .tuple #[.agg #[.int .i64 12, .slice A5 lm.length c5], .int .i64 0] ∧ QIn wv A5 c5 lm ∧ OffB [b9, b7] A5
        | 11 => ∃ A5 c5, u 11 = .agg #[.int .i64 12, .slice A5 lm.length c5] ∧ QIn wv A5 c5 lm ∧ OffB [b9, b7] A5
        | 12 => u 12 = .int .i64 0
        | 13 => ∃ g, u 13 = .pointer (some ⟨g, 0, none⟩) ∧ wr.heap.size ≤ g ∧ QAt wv g 0 none 0 0
        | 14 => ∃ g, u 13 = .pointer (some ⟨g, 0, none⟩) ∧ wr.heap.size ≤ g ∧ QVar [b9, b7] wv g 12 lm
        | 15 => u 15 = .int .i64 0
        | _ => True) := ⟨_, rfl⟩
      obtain ⟨Vp, hVdef⟩ := HV
      have Vp0 : ∀ u wv, Vp 0 u wv = (u 0 = .agg #[.int .i64 12, .slice Aq (qa k).length cq]) := fun u wv => by subst hVdef; rfl
      have Vp1 : ∀ u wv, Vp 1 u wv = (u 1 = .int .i64 att) := fun u wv => by subst hVdef; rfl
      have Vp2 : ∀ u wv, Vp 2 u wv = (u 2 = .int .i64 att) := fun u wv => by subst hVdef; rfl
      have Vp3 : ∀ u wv, Vp 3 u wv = (u 3 = .int .i64 att) := fun u wv => by subst hVdef; rfl
      have Vp4 : ∀ u wv, Vp 4 u wv = (u 4 = .int .i64 att) := fun u wv => by subst hVdef; rfl
      have Vp5 : ∀ u wv, Vp 5 u wv = (u 5 = .int .i64 att) := fun u wv => by subst hVdef; rfl
      have Vp6 : ∀ u wv, Vp 6 u wv = (u 6 = .int .i64 att) := fun u wv => by subst hVdef; rfl
      have Vp7 : ∀ u wv, Vp 7 u wv = (u 7 = .agg #[.int .i64 att, .int .i64 att, .int .i64 att, .int .i64 att, .int .i64 att, .int .i64 att]) := fun u wv => by subst hVdef; rfl
      have Vp8 : ∀ u wv, Vp 8 u wv = (u 8 = .agg #[.bool e1, .int .i64 n1, .int .i64 s1, .int .i64 i1, .int .i64 q1, .int .i64 k1, .string d1]) := fun u wv => by subst hVdef; rfl
      have Vp9 : ∀ u wv, Vp 9 u wv = (∃ A5 c5, u 9 = .tuple #[.agg #[.int .i64 12, .slice A5 lm.length c5], .int .i64 0] ∧ QIn wv A5 c5 lm ∧ OffB [b9, b7] A5) := fun u wv => by subst hVdef; rfl
      have Vp10 : ∀ u wv, Vp 10 u wv = (∃ A5 c5, u 10 = .tuple #[.agg #[.int .i64 12, .slice A5 lm.length c5], .int .i64 0] ∧ QIn wv A5 c5 lm ∧ OffB [b9, b7] A5) := fun u wv => by subst hVdef; rfl
      have Vp11 : ∀ u wv, Vp 11 u wv = (∃ A5 c5, u 11 = .agg #[.int .i64 12, .slice A5 lm.length c5] ∧ QIn wv A5 c5 lm ∧ OffB [b9, b7] A5) := fun u wv => by subst hVdef; rfl
      have Vp12 : ∀ u wv, Vp 12 u wv = (u 12 = .int .i64 0) := fun u wv => by subst hVdef; rfl
      have Vp13 : ∀ u wv, Vp 13 u wv = (∃ g, u 13 = .pointer (some ⟨g, 0, none⟩) ∧ wr.heap.size ≤ g ∧ QAt wv g 0 none 0 0) := fun u wv => by subst hVdef; rfl
      have Vp14 : ∀ u wv, Vp 14 u wv = (∃ g, u 13 = .pointer (some ⟨g, 0, none⟩) ∧ wr.heap.size ≤ g ∧ QVar [b9, b7] wv g 12 lm) := fun u wv => by subst hVdef; rfl
      have Vp15 : ∀ u wv, Vp 15 u wv = (u 15 = .int .i64 0) := fun u wv => by subst hVdef; rfl
      have HVD := Lib.hid hVdef
      clear hVdef
      refine region_phase (V := Vp) (drop := fun jx ix => (jx == 14 && ix == 13)) (G := fun L wv => Below wr.heap.size wr wv) (Rel := fun jx wv wv' => (jx = 14 ∧ (∃ g x y, QAt wv g 0 none 0 0 ∧ wv' = (wv.setCell ⟨g, 0, none⟩ x).setCell ⟨g, 1, none⟩ y)) ∨ Below wv.heap.size wv wv') (by kernel_rfl) (by kernel_rfl) (Below.refl _ _).drew ?hmonop3 ?hdepp3 ⟨?s0_p3, ?s1_p3, ?s2_p3, ?s3_p3, ?s4_p3, ?s5_p3, ?s6_p3, ?s7_p3, ?s8_p3, ?s9_p3, ?s10_p3, ?s11_p3, ?s12_p3, ?s13_p3, ?s14_p3, ?s15_p3, trivial⟩ ?behindp3
      case hmonop3 =>
        intro ix jx u wv wv' hij hw hd hr
        rw [HVD.out]
        dsimp only
        split <;> intro h <;> first | exact trivial | exact h | (rcases hr with ⟨rfl, hpk⟩ | hb; (focus first | exact absurd rfl hij | (simp at hd; done) | (obtain ⟨A5, c5, e, hi5, ho5⟩ := h; obtain ⟨g, x, y, hgq, rfl⟩ := hpk; exact ⟨A5, c5, e, hi5.farQ hgq x y, ho5⟩) | (exact Bool.noConfusion (hw.symm.trans (show _ = true from by kernel_rfl)))); (first | (obtain ⟨A5, c5, e, hi5, ho5⟩ := h; exact ⟨A5, c5, e, hi5.on hb, ho5⟩) | (obtain ⟨g, e, hg, hm⟩ := h; exact ⟨g, e, hg, hm.on hb⟩) | (obtain ⟨g, e, hg, hm⟩ := h; exact ⟨g, e, hg, hm.on hb⟩)))
      case hdepp3 =>
        intro ix u u' wv h1 h2
        rw [HVD.out]
        dsimp only
        split <;> intro h <;> first | exact trivial | (rw [← h1]; exact h) | (obtain ⟨g, e, h⟩ := h; exact ⟨g, (h2 13 (by kernel_rfl)).symm.trans e, h⟩) | exact h
      case s0_p3 =>
        refine oweP rfl fun a wx val L hG hi hW hV hN hO K hK => ?_
        have e7 : a.tmps[7]? = some (.pointer (some ⟨b7, 0, none⟩)) := (hO 7 (by kernel_rfl)).trans (by rfl)
        clear hV hN hO
        obtain ⟨v0, v1⟩ := (HQA.out.on hG).cells
        go_simp
        exact hK.out _ _ (by rw [Vp0, upd_at] <;> (congr 1 <;> omega)) (.inr (Below.refl _ _)) (hG)
      case s1_p3 =>
        refine oweP rfl fun a wx val L hG hi hW hV hN hO K hK => ?_
        have e1 : a.tmps[1]? = some (.int .i64 att) := (hO 1 (by kernel_rfl)).trans (by rfl)
        clear hV hN hO
        go_simp
        exact hK.out _ _ (by rw [Vp1, upd_at] <;> (congr 1 <;> omega)) (.inr (Below.refl _ _)) (hG)
      case s2_p3 =>
        refine oweP rfl fun a wx val L hG hi hW hV hN hO K hK => ?_
        have e1 : a.tmps[1]? = some (.int .i64 att) := (hO 1 (by kernel_rfl)).trans (by rfl)
        clear hV hN hO
        go_simp
        exact hK.out _ _ (by rw [Vp2, upd_at] <;> (congr 1 <;> omega)) (.inr (Below.refl _ _)) (hG)
      case s3_p3 =>
        refine oweP rfl fun a wx val L hG hi hW hV hN hO K hK => ?_
        have e1 : a.tmps[1]? = some (.int .i64 att) := (hO 1 (by kernel_rfl)).trans (by rfl)
        clear hV hN hO
        go_simp
        exact hK.out _ _ (by rw [Vp3, upd_at] <;> (congr 1 <;> omega)) (.inr (Below.refl _ _)) (hG)
      case s4_p3 =>
        refine oweP rfl fun a wx val L hG hi hW hV hN hO K hK => ?_
        have e1 : a.tmps[1]? = some (.int .i64 att) := (hO 1 (by kernel_rfl)).trans (by rfl)
        clear hV hN hO
        go_simp
        exact hK.out _ _ (by rw [Vp4, upd_at] <;> (congr 1 <;> omega)) (.inr (Below.refl _ _)) (hG)
      case s5_p3 =>
        refine oweP rfl fun a wx val L hG hi hW hV hN hO K hK => ?_
        have e1 : a.tmps[1]? = some (.int .i64 att) := (hO 1 (by kernel_rfl)).trans (by rfl)
        clear hV hN hO
        go_simp
        exact hK.out _ _ (by rw [Vp5, upd_at] <;> (congr 1 <;> omega)) (.inr (Below.refl _ _)) (hG)
      case s6_p3 =>
        refine oweP rfl fun a wx val L hG hi hW hV hN hO K hK => ?_
        have e1 : a.tmps[1]? = some (.int .i64 att) := (hO 1 (by kernel_rfl)).trans (by rfl)
        clear hV hN hO
        go_simp
        exact hK.out _ _ (by rw [Vp6, upd_at] <;> (congr 1 <;> omega)) (.inr (Below.refl _ _)) (hG)
      case s7_p3 =>
        refine oweP rfl fun a wx val L hG hi hW hV hN hO K hK => ?_
        have e88 := hN 1 88 (by kernel_rfl) (by kernel_rfl) (by simp)
        have f88 := hV 1 (by kernel_rfl) (by kernel_rfl)
        rw [Vp1] at f88; rw [f88] at e88; clear f88
        have e89 := hN 2 89 (by kernel_rfl) (by kernel_rfl) (by simp)
        have f89 := hV 2 (by kernel_rfl) (by kernel_rfl)
        rw [Vp2] at f89; rw [f89] at e89; clear f89
        have e90 := hN 3 90 (by kernel_rfl) (by kernel_rfl) (by simp)
        have f90 := hV 3 (by kernel_rfl) (by kernel_rfl)
        rw [Vp3] at f90; rw [f90] at e90; clear f90
        have e91 := hN 4 91 (by kernel_rfl) (by kernel_rfl) (by simp)
        have f91 := hV 4 (by kernel_rfl) (by kernel_rfl)
        rw [Vp4] at f91; rw [f91] at e91; clear f91
        have e92 := hN 5 92 (by kernel_rfl) (by kernel_rfl) (by simp)
        have f92 := hV 5 (by kernel_rfl) (by kernel_rfl)
        rw [Vp5] at f92; rw [f92] at e92; clear f92
        have e93 := hN 6 93 (by kernel_rfl) (by kernel_rfl) (by simp)
        have f93 := hV 6 (by kernel_rfl) (by kernel_rfl)
        rw [Vp6] at f93; rw [f93] at e93; clear f93
        clear hV hN hO
        go_simp
        exact hK.out _ _ (by rw [Vp7, upd_at] <;> (congr 1 <;> omega)) (.inr (Below.refl _ _)) (hG)
      case s8_p3 =>
        refine oweP rfl fun a wx val L hG hi hW hV hN hO K hK => ?_
        have e94 := hN 7 94 (by kernel_rfl) (by kernel_rfl) (by simp)
        have f94 := hV 7 (by kernel_rfl) (by kernel_rfl)
        rw [Vp7] at f94; rw [f94] at e94; clear f94
        clear hV hN hO
        go_simp
        refine (CN.out _).mono ?_
        rintro e w11 ⟨rfl, hb⟩
        exact hK.out _ _ (by rw [Vp8, upd_at]) (.inr (hb)) (hG.trans (hb.mono hG.size))
      case s9_p3 =>
        refine oweP rfl fun a wx val L hG hi hW hV hN hO K hK => ?_
        have e87 := hN 0 87 (by kernel_rfl) (by kernel_rfl) (by simp)
        have f87 := hV 0 (by kernel_rfl) (by kernel_rfl)
        rw [Vp0] at f87; rw [f87] at e87; clear f87
        have e95 := hN 8 95 (by kernel_rfl) (by kernel_rfl) (by simp)
        have f95 := hV 8 (by kernel_rfl) (by kernel_rfl)
        rw [Vp8] at f95; rw [f95] at e95; clear f95
        clear hV hN hO
        go_simp
        refine (CP.out _ hG).mono ?_
        rintro e w11 ⟨A5, c5, rfl, hi5, ho5, hb⟩
        exact hK.out _ _ (by rw [Vp9, upd_at]; exact ⟨A5, c5, rfl, hi5, ho5⟩) (.inr hb) (hG.trans (hb.mono hG.size))
      case s10_p3 =>
        refine oweP rfl fun a wx val L hG hi hW hV hN hO K hK => ?_
        have e96 := hN 9 96 (by kernel_rfl) (by kernel_rfl) (by simp)
        have f96 := hV 9 (by kernel_rfl) (by kernel_rfl)
        rw [Vp9] at f96; obtain ⟨A5, c5, hv, hi5, ho5⟩ := f96; rw [hv] at e96
        clear hV hN hO
        go_simp
        exact hK.out _ _ (by rw [Vp10, upd_at]; exact ⟨A5, c5, rfl, hi5, ho5⟩) (.inr (Below.refl _ _)) (hG)
      case s11_p3 =>
        refine oweP rfl fun a wx val L hG hi hW hV hN hO K hK => ?_
        have e86 := hN 10 86 (by kernel_rfl) (by kernel_rfl) (by simp)
        have f86 := hV 10 (by kernel_rfl) (by kernel_rfl)
        rw [Vp10] at f86; obtain ⟨A5, c5, hv, hi5, ho5⟩ := f86; rw [hv] at e86
        clear hV hN hO
        go_simp
        exact hK.out _ _ (by rw [Vp11, upd_at]; exact ⟨A5, c5, rfl, hi5, ho5⟩) (.inr (Below.refl _ _)) (hG)
      case s12_p3 =>
        refine oweP rfl fun a wx val L hG hi hW hV hN hO K hK => ?_
        have e86 := hN 10 86 (by kernel_rfl) (by kernel_rfl) (by simp)
        have f86 := hV 10 (by kernel_rfl) (by kernel_rfl)
        rw [Vp10] at f86; obtain ⟨A5, c5, hv, hi5, ho5⟩ := f86; rw [hv] at e86
        clear hV hN hO
        go_simp
        exact hK.out _ _ (by rw [Vp12, upd_at]) (.inr (Below.refl _ _)) (hG)
      case s13_p3 =>
        refine oweP rfl fun a wx val L hG hi hW hV hN hO K hK => ?_
        clear hV hN hO
        go_simp
        have hb := Joins.below_alloc1 wx (.cells #[.int .i64 0, .slice none 0 0] 31)
        exact hK.out _ _ (by rw [Vp13, upd_at]; exact ⟨_, rfl, hG.size, QAt.new wx 0 none 0 0⟩) (.inr hb) (hG.trans (hb.mono hG.size))
      case s14_p3 =>
        refine oweP rfl fun a wx val L hG hi hW hV hN hO K hK => ?_
        have e18 := hN 13 18 (by kernel_rfl) (by kernel_rfl) (by simp)
        have f18 := hV 13 (by kernel_rfl) (by kernel_rfl)
        rw [Vp13] at f18; obtain ⟨g, hva, hg9, hgg⟩ := f18; rw [hva] at e18
        have e97 := hN 11 97 (by kernel_rfl) (by kernel_rfl) (by simp)
        have f97 := hV 11 (by kernel_rfl) (by kernel_rfl)
        rw [Vp11] at f97; obtain ⟨A5, c5, hv, hi5, ho5⟩ := f97; rw [hv] at e97
        clear hV hN hO
        obtain ⟨v0, v1⟩ := hgg.cells
        have vf := hgg.frozen
        have hs9 := hG.size
        have hbs := below_set2 hG (b := g) hg9 (.int .i64 12) (.slice A5 lm.length c5)
        have hqn : QVar [b9, b7] ((wx.setCell ⟨g, 0, none⟩ (.int .i64 12)).setCell ⟨g, 1, none⟩ (.slice A5 lm.length c5)) g 12 lm := ⟨A5, c5, hgg.set 12 A5 lm.length c5, hi5.farQ hgg _ _, ho5⟩
        have hpk : ∃ g0 x y, QAt wx g0 0 none 0 0 ∧ ((wx.setCell ⟨g, 0, none⟩ (.int .i64 12)).setCell ⟨g, 1, none⟩ (.slice A5 lm.length c5)) = (wx.setCell ⟨g0, 0, none⟩ x).setCell ⟨g0, 1, none⟩ y := ⟨g, _, _, hgg, rfl⟩
        clear hs9
        go_simp
        exact hK.out undef _ (by rw [Vp14, upd_ne _ _ (by decide)]; exact ⟨g, hva, hg9, hqn⟩) (.inl ⟨rfl, hpk⟩) hbs
      case s15_p3 =>
        refine oweP rfl fun a wx val L hG hi hW hV hN hO K hK => ?_
        have e98 := hN 12 98 (by kernel_rfl) (by kernel_rfl) (by simp)
        have f98 := hV 12 (by kernel_rfl) (by kernel_rfl)
        rw [Vp12] at f98; rw [f98] at e98; clear f98
        clear hV hN hO
        go_simp
        exact hK.out _ _ (by rw [Vp15, upd_at] <;> (congr 1 <;> omega)) (.inr (Below.refl _ _)) (hG)
      intro val wx L hG hV
      have f0 := hV 0 (by simp) (fun _ _ => by simp)
      rw [Vp0] at f0
      have f1 := hV 1 (by simp) (fun _ _ => by simp)
      rw [Vp1] at f1
      have f2 := hV 2 (by simp) (fun _ _ => by simp)
      rw [Vp2] at f2
      have f3 := hV 3 (by simp) (fun _ _ => by simp)
      rw [Vp3] at f3
      have f4 := hV 4 (by simp) (fun _ _ => by simp)
      rw [Vp4] at f4
      have f5 := hV 5 (by simp) (fun _ _ => by simp)
      rw [Vp5] at f5
      have f6 := hV 6 (by simp) (fun _ _ => by simp)
      rw [Vp6] at f6
      have f7 := hV 7 (by simp) (fun _ _ => by simp)
      rw [Vp7] at f7
      have f8 := hV 8 (by simp) (fun _ _ => by simp)
      rw [Vp8] at f8
      have f9 := hV 9 (by simp) (fun _ _ => by simp)
      rw [Vp9] at f9
      have f10 := hV 10 (by simp) (fun _ _ => by simp)
      rw [Vp10] at f10
      have f11 := hV 11 (by simp) (fun _ _ => by simp)
      rw [Vp11] at f11
      have f12 := hV 12 (by simp) (fun _ _ => by simp)
      rw [Vp12] at f12
      have f14 := hV 14 (by simp) (fun _ _ => by simp)
      rw [Vp14] at f14
      have f15 := hV 15 (by simp) (fun _ _ => by simp)
      rw [Vp15] at f15
      clear hV Vp0 Vp1 Vp2 Vp3 Vp4 Vp5 Vp6 Vp7 Vp8 Vp9 Vp10 Vp11 Vp12 Vp13 Vp14 Vp15
      simp only [putAll, Act.put, List.setIfInBounds_toArray, List.set_cons_zero, List.set_cons_succ]
      generalize val 0 = z0 at *; (subst f0)
      generalize val 1 = z1 at *; (subst f1)
      generalize val 2 = z2 at *; (subst f2)
      generalize val 3 = z3 at *; (subst f3)
      generalize val 4 = z4 at *; (subst f4)
      generalize val 5 = z5 at *; (subst f5)
      generalize val 6 = z6 at *; (subst f6)
      generalize val 7 = z7 at *; (subst f7)
      generalize val 8 = z8 at *; (subst f8)
      generalize val 9 = z9 at *
      generalize val 10 = z10 at *
      generalize val 11 = z11 at *
      generalize val 12 = z12 at *; (subst f12)
      generalize val 13 = z13 at *
      generalize val 15 = z15 at *; (subst f15)
      clear HVD
      obtain ⟨g18, hz18, hg18, hq18⟩ := f14
      subst hz18
      have H18 := Lib.hid hq18
      have HVA1 := Lib.hid (QVar.on HVA.out hG); clear HVA; have HVA := HVA1; clear HVA1
      have HVB1 := Lib.hid (QVar.on HVB.out hG); clear HVB; have HVB := HVB1; clear HVB1
      have HB1 := Lib.hid (HB.out.trans (hG.mono HB.out.size)); clear HB; have HB := HB1; clear HB1
      clear hq18 hG f9 f10 f11 CN CP HQA
      generalize hX17 : wx = X17 at *
      clear hX17
      obtain ⟨Aq, cq, hqa, hqi, hqo⟩ := H18.out
      obtain ⟨y0, y1⟩ := hqa.cells
      have hpc := cut_var (Bs := []) hqi (fun x hx => by cases hx) (fun x hx => by cases hx) HCUT.out.1 HCUT.out.2.2 HCUT.out.2.1 (HCAB.out Aq cq X17 (HLL.out.below HB.out) hqi)
      simp only [mv] at hpc
      clear hqa hqi hqo
      go_wp2_with fail; refine hpc.mono ?_; rintro e w4 ⟨A20, c20, rfl, hi20, -, b4⟩
      clear y0 y1 hpc
      have hb20 := Joins.below_alloc1 w4 (.cells #[.int .i64 12, .slice A20 (qa k).length c20] 31)
      have hb21 := Joins.below_alloc1 (w4.alloc (.cells #[.int .i64 12, .slice A20 (qa k).length c20] 31)) (.cells #[.bool e1, .int .i64 n1, .int .i64 s1, .int .i64 i1, .int .i64 q1, .int .i64 k1, .string d1] 27)
      have hG := b4.trans ((hb20.trans (hb21.mono hb20.size)).mono b4.size)
      have H20 := Lib.hid ((QVar.new (L := 12) hi20 (off_nil A20)).on hb21)
      have H21 : Hid (MsgAt _ _ ⟨e1, n1, s1, i1, q1, k1, d1⟩) := Lib.hid (MsgAt.new (w4.alloc (.cells #[.int .i64 12, .slice A20 (qa k).length c20] 31)) ⟨e1, n1, s1, i1, q1, k1, d1⟩)
      have HVA1 := Lib.hid (QVar.on HVA.out hG); clear HVA; have HVA := HVA1; clear HVA1
      have HVB1 := Lib.hid (QVar.on HVB.out hG); clear HVB; have HVB := HVB1; clear HVB1
      have HB1 := Lib.hid (HB.out.trans (hG.mono HB.out.size)); clear HB; have HB := HB1; clear HB1
      simp only [mc, World.size_alloc] at H20 H21 HVA HVB HB
      clear hb20 hb21 hG b4 hi20
      go_upto_region 18 with (fail)
      generalize hX18 : (w4.alloc (.cells #[.int .i64 12, .slice A20 (qa k).length c20] 31)).alloc (.cells #[.bool e1, .int .i64 n1, .int .i64 s1, .int .i64 i1, .int .i64 q1, .int .i64 k1, .string d1] 27) = X18 at *
      clear hX18
      generalize w4.heap.size = b20 at *
      generalize hfm : cutM 12 (qa k) 0 = fm at *
      have HFM := Lib.hid hfm
      generalize hfe : cutE 12 (qa k) 0 = fe at *
      have HFE := Lib.hid hfe
      clear hfm hfe
      obtain ⟨Aq, cq, hqa, hqi, hqo⟩ := HVA.out
      obtain ⟨y0, y1⟩ := hqa.cells
      have hpc := firstQ_any 12 Aq cq (qa k) X18 (HLL.out.below HB.out) hqi
      rw [HFM.out, HFE.out] at hpc
      obtain ⟨ef, nf, sf, jf, qf, kf, df⟩ := fm
      simp only [mv] at hpc
      clear hqa hqi hqo
      go_wp2_with fail; refine hpc.mono ?_; rintro e w5 ⟨rfl, b5⟩
      clear y0 y1 hpc
      have hb23 := Joins.below_alloc1 w5 (.cells #[.bool ef, .int .i64 nf, .int .i64 sf, .int .i64 jf, .int .i64 qf, .int .i64 kf, .string df] 27)
      have hG := b5.trans (hb23.mono b5.size)
      have H23 := Lib.hid (MsgAt.new w5 ⟨ef, nf, sf, jf, qf, kf, df⟩)
      have HVA1 := Lib.hid (QVar.on HVA.out hG); clear HVA; have HVA := HVA1; clear HVA1
      have HVB1 := Lib.hid (QVar.on HVB.out hG); clear HVB; have HVB := HVB1; clear HVB1
      have H201 := Lib.hid (QVar.on H20.out hG); clear H20; have H20 := H201; clear H201
      have H211 := Lib.hid (MsgAt.on H21.out hG); clear H21; have H21 := H211; clear H211
      have HB1 := Lib.hid (HB.out.trans (hG.mono HB.out.size)); clear HB; have HB := HB1; clear HB1
      simp only [mc] at H23
      clear hb23 hG b5
      go_upto_region 19 with (fail)
      generalize hX19 : w5.alloc (.cells #[.bool ef, .int .i64 nf, .int .i64 sf, .int .i64 jf, .int .i64 qf, .int .i64 kf, .string df] 27) = X19 at *
      clear hX19
      generalize w5.heap.size = b23 at *
      obtain ⟨Aq, cq, hqa, hqi, hqo⟩ := HVA.out
      obtain ⟨y0, y1⟩ := hqa.cells
      have hpc := cut_var (Bs := []) hqi (fun x hx => by cases hx) (fun x hx => by cases hx) HFE.out rfl HFM.out (takeQ_any 12 Aq cq (qa k) X19 (HLL.out.below HB.out) hqi)
      simp only [mv] at hpc
      clear hqa hqi hqo
      generalize cutL 12 (qa k) 0 = lt at *
      go_wp2_with fail; refine hpc.mono ?_; rintro e w6 ⟨A25, c25, rfl, -, -, b6⟩
      clear y0 y1 hpc
      have hb25 := Joins.below_alloc1 w6 (.cells #[.int .i64 12, .slice A25 lt.length c25] 31)
      have hb26 := Joins.below_alloc1 (w6.alloc (.cells #[.int .i64 12, .slice A25 lt.length c25] 31)) (.cells #[.bool ef, .int .i64 nf, .int .i64 sf, .int .i64 jf, .int .i64 qf, .int .i64 kf, .string df] 27)
      have hG := b6.trans ((hb25.trans (hb26.mono hb25.size)).mono b6.size)
      have H26 : Hid (MsgAt _ _ ⟨ef, nf, sf, jf, qf, kf, df⟩) := Lib.hid (MsgAt.new (w6.alloc (.cells #[.int .i64 12, .slice A25 lt.length c25] 31)) ⟨ef, nf, sf, jf, qf, kf, df⟩)
      have HVA1 := Lib.hid (QVar.on HVA.out hG); clear HVA; have HVA := HVA1; clear HVA1
      have HVB1 := Lib.hid (QVar.on HVB.out hG); clear HVB; have HVB := HVB1; clear HVB1
      have H201 := Lib.hid (QVar.on H20.out hG); clear H20; have H20 := H201; clear H201
      have H211 := Lib.hid (MsgAt.on H21.out hG); clear H21; have H21 := H211; clear H211
      have H231 := Lib.hid (MsgAt.on H23.out hG); clear H23; have H23 := H231; clear H231
      have HB1 := Lib.hid (HB.out.trans (hG.mono HB.out.size)); clear HB; have HB := HB1; clear HB1
      simp only [mc, World.size_alloc] at H26 H20 H21 H23 HVA HVB HB
      clear hb25 hb26 hG b6
      go_upto_region 20 with (fail)
      generalize hX20 : (w6.alloc (.cells #[.int .i64 12, .slice A25 lt.length c25] 31)).alloc (.cells #[.bool ef, .int .i64 nf, .int .i64 sf, .int .i64 jf, .int .i64 qf, .int .i64 kf, .string df] 27) = X20 at *
      clear hX20
      generalize w6.heap.size = b25 at *
      have hss := sameQ_one 12 (qa k)
      have HSS := Lib.hid hss
      have hEG := fun x y w => eqM_guard .eql x y ⟨ef, nf, sf, jf, qf, kf, df⟩ ⟨ef, nf, sf, jf, qf, kf, df⟩ w
      have hNE := eqlM ⟨ef, nf, sf, jf, qf, kf, df⟩ ⟨ef, nf, sf, jf, qf, kf, df⟩
      rw [(sameM_iff _ _).2 rfl] at hNE
      simp only [mv] at hEG hNE
      have HCE := Lib.hid (And.intro hEG hNE)
      have HKK := HM99
      clear hss hEG hNE
      have H0' := H0.out
      rcases H0' with ⟨hk0, he0⟩ | ⟨hk0, he0⟩
      · have hk0I : (0 : Int) < (k : Int) := by omega
        have hk0J : decide ((0 : Int) < (k : Int)) = true := decide_eq_true hk0I
        subst he0
        clear hk0
        obtain ⟨Aq, cq, hqa, hqi, -⟩ := HVA.out
        obtain ⟨Ab, cb, hra, hri, -⟩ := HVB.out
        obtain ⟨t0, t1⟩ := hqa.cells
        obtain ⟨u0, u1⟩ := hra.cells
        have hsm := sameQ_any 12 12 Aq Ab cq cb (qa k) (qa k) X20 hqi hri
        rw [HSS.out] at hsm
        clear hqa hqi hra hri
        go_wp2_with fail; refine hsm.mono ?_; rintro e w7 ⟨rfl, hG⟩
        clear hsm t0 t1 u0 u1
        have HVA1 := Lib.hid (QVar.on HVA.out hG); clear HVA; have HVA := HVA1; clear HVA1
        have HVB1 := Lib.hid (QVar.on HVB.out hG); clear HVB; have HVB := HVB1; clear HVB1
        have H201 := Lib.hid (QVar.on H20.out hG); clear H20; have H20 := H201; clear H201
        have H211 := Lib.hid (MsgAt.on H21.out hG); clear H21; have H21 := H211; clear H211
        have H231 := Lib.hid (MsgAt.on H23.out hG); clear H23; have H23 := H231; clear H231
        have H261 := Lib.hid (MsgAt.on H26.out hG); clear H26; have H26 := H261; clear H261
        have HB1 := Lib.hid (HB.out.trans (hG.mono HB.out.size)); clear HB; have HB := HB1; clear HB1
        clear hG
        obtain ⟨Aq, cq, hqa, hqi, -⟩ := HVA.out
        obtain ⟨Ad, cd, hra, hri, -⟩ := H20.out
        obtain ⟨t0, t1⟩ := hqa.cells
        obtain ⟨u0, u1⟩ := hra.cells
        have hkk : ((k1 : Int) == 99) = true := by have h99 : k1 = 99 := HKK.out; rw [h99]; rfl
        obtain ⟨z0, z1, z2, z3, z4, z5, z6⟩ := MsgAt.cells H21.out
        simp only at z0 z1 z2 z3 z4 z5 z6
        have hsm := sameQ_any 12 12 Ad Aq cd cq (qa k) (qa k) w7 hri hqi
        rw [HSS.out] at hsm
        clear hqa hqi hra hri
        go_wp2_with fail; refine hsm.mono ?_; rintro e w8 ⟨rfl, hG⟩
        clear hsm t0 t1 u0 u1 z0 z1 z2 z3 z4 z5 z6 hkk
        have HVA1 := Lib.hid (QVar.on HVA.out hG); clear HVA; have HVA := HVA1; clear HVA1
        have HVB1 := Lib.hid (QVar.on HVB.out hG); clear HVB; have HVB := HVB1; clear HVB1
        have H201 := Lib.hid (QVar.on H20.out hG); clear H20; have H20 := H201; clear H201
        have H211 := Lib.hid (MsgAt.on H21.out hG); clear H21; have H21 := H211; clear H211
        have H231 := Lib.hid (MsgAt.on H23.out hG); clear H23; have H23 := H231; clear H231
        have H261 := Lib.hid (MsgAt.on H26.out hG); clear H26; have H26 := H261; clear H261
        have HB1 := Lib.hid (HB.out.trans (hG.mono HB.out.size)); clear HB; have HB := HB1; clear HB1
        clear hG
        obtain ⟨x0, x1, x2, x3, x4, x5, x6⟩ := MsgAt.cells H23.out
        obtain ⟨y0, y1, y2, y3, y4, y5, y6⟩ := MsgAt.cells H26.out
        simp only at x0 x1 x2 x3 x4 x5 x6 y0 y1 y2 y3 y4 y5 y6
        obtain ⟨hEG, hNE⟩ := HCE.out
        go_wp2_with fail
        go_ret
        exact ⟨rfl, HB.out⟩
      · have hk0I : ¬ (0 : Int) < (k : Int) := by omega
        have hk0J : decide ((0 : Int) < (k : Int)) = false := decide_eq_false hk0I
        subst he0
        clear hk0
        obtain ⟨Aq, cq, hqa, hqi, -⟩ := HVA.out
        obtain ⟨Ab, cb, hra, hri, -⟩ := HVB.out
        obtain ⟨t0, t1⟩ := hqa.cells
        obtain ⟨u0, u1⟩ := hra.cells
        have hsm := sameQ_any 12 12 Aq Ab cq cb (qa k) (qa k) X20 hqi hri
        rw [HSS.out] at hsm
        clear hqa hqi hra hri
        go_wp2_with fail; refine hsm.mono ?_; rintro e w7 ⟨rfl, hG⟩
        clear hsm t0 t1 u0 u1
        have HVA1 := Lib.hid (QVar.on HVA.out hG); clear HVA; have HVA := HVA1; clear HVA1
        have HVB1 := Lib.hid (QVar.on HVB.out hG); clear HVB; have HVB := HVB1; clear HVB1
        have H201 := Lib.hid (QVar.on H20.out hG); clear H20; have H20 := H201; clear H201
        have H211 := Lib.hid (MsgAt.on H21.out hG); clear H21; have H21 := H211; clear H211
        have H231 := Lib.hid (MsgAt.on H23.out hG); clear H23; have H23 := H231; clear H231
        have H261 := Lib.hid (MsgAt.on H26.out hG); clear H26; have H26 := H261; clear H261
        have HB1 := Lib.hid (HB.out.trans (hG.mono HB.out.size)); clear HB; have HB := HB1; clear HB1
        clear hG
        obtain ⟨Aq, cq, hqa, hqi, -⟩ := HVA.out
        obtain ⟨Ad, cd, hra, hri, -⟩ := H20.out
        obtain ⟨t0, t1⟩ := hqa.cells
        obtain ⟨u0, u1⟩ := hra.cells
        have hkk : ((k1 : Int) == 99) = true := by have h99 : k1 = 99 := HKK.out; rw [h99]; rfl
        obtain ⟨z0, z1, z2, z3, z4, z5, z6⟩ := MsgAt.cells H21.out
        simp only at z0 z1 z2 z3 z4 z5 z6
        have hsm := sameQ_any 12 12 Ad Aq cd cq (qa k) (qa k) w7 hri hqi
        rw [HSS.out] at hsm
        clear hqa hqi hra hri
        go_wp2_with fail; refine hsm.mono ?_; rintro e w8 ⟨rfl, hG⟩
        clear hsm t0 t1 u0 u1 z0 z1 z2 z3 z4 z5 z6 hkk
        have HVA1 := Lib.hid (QVar.on HVA.out hG); clear HVA; have HVA := HVA1; clear HVA1
        have HVB1 := Lib.hid (QVar.on HVB.out hG); clear HVB; have HVB := HVB1; clear HVB1
        have H201 := Lib.hid (QVar.on H20.out hG); clear H20; have H20 := H201; clear H201
        have H211 := Lib.hid (MsgAt.on H21.out hG); clear H21; have H21 := H211; clear H211
        have H231 := Lib.hid (MsgAt.on H23.out hG); clear H23; have H23 := H231; clear H231
        have H261 := Lib.hid (MsgAt.on H26.out hG); clear H26; have H26 := H261; clear H261
        have HB1 := Lib.hid (HB.out.trans (hG.mono HB.out.size)); clear HB; have HB := HB1; clear HB1
        clear hG
        obtain ⟨x0, x1, x2, x3, x4, x5, x6⟩ := MsgAt.cells H23.out
        obtain ⟨y0, y1, y2, y3, y4, y5, y6⟩ := MsgAt.cells H26.out
        simp only at x0 x1 x2 x3 x4 x5 x6 y0 y1 y2 y3 y4 y5 y6
        obtain ⟨hEG, hNE⟩ := HCE.out
        go_wp2_with fail
        go_ret
        exact ⟨rfl, HB.out⟩

end Go.Proofs.YtmikcgofhlbimaaDoor


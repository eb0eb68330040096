/-
  The time that a spot is, by the document.
-/
import Derived.Test.YtmklabdfalkldaaSchRefA
namespace Go.Proofs.Ytmklabdfalkldaa
open Go.RowKit

theorem time_out {l : Pl} {c : Int} {s : Spot} (h : s.cyc < 0 ∨ 1099511627776 < s.cyc ∨ s.rnd < 0 ∨ c ≤ s.rnd ∨ s.slt < 0 ∨ (l.length : Int) ≤ s.slt) : timeE l c s = 1 ∧ timeV l c s = 0 := time_no (by
  rw [← Bool.not_eq_true, inB_iff]
  unfold maxT
  omega)
theorem time_tick {l : Pl} {c : Int} {s : Spot} {p : Int × Int} (hp : l[s.slt.toNat]? = some p) (h : s.tck < 0 ∨ p.2 ≤ s.tck) : timeE l c s = 1 ∧ timeV l c s = 0 := time_no (by
  have e : l.getD s.slt.toNat (0, 0) = p := by simp [hp]
  rw [← Bool.not_eq_true, inB_iff, e]
  omega)
theorem cyc_below {a c b S r : Int} (hS : 2 ≤ S) (hc : 1 ≤ c) (hb : 0 ≤ b) (hr : 0 ≤ r) (h : (a * c + b) * S + r ≤ 1099511627776) : a ≤ 1099511627776 / (c * S) := by
  have hp : 0 < c * S := Int.mul_pos (by omega) (by omega)
  rw [Int.le_ediv_iff_mul_le hp]
  have e : (a * c + b) * S = a * (c * S) + b * S := by rw [Int.add_mul, Int.mul_assoc]
  have : 0 ≤ b * S := Int.mul_nonneg hb (by omega)
  omega

set_option maxRecDepth 100000 in
set_option maxHeartbeats 4000000 in
theorem refTime_any (A : Option Addr) (cp : Nat) (c : Int) (l : Pl) (hlm : l.length ≤ maxLen) (s : Spot) (w : World) (hS : Sls w w.heap.size A l) :
    Calls Try.prog 23 #[pv A l.length cp c, sv s] w fun e w' => e = .returned (.tuple #[.int .i64 (timeV l c s), .int .i64 (timeE l c s)]) ∧ Below w.heap.size w w' := by
  have hB := Joins.below_alloc2 w (.cells #[.slice A l.length cp, .int .i64 c] 25) (.cells #[.int .i64 s.cyc, .int .i64 s.rnd, .int .i64 s.slt, .int .i64 s.tck] 27)
  have hP := (PlAt.new w A l.length cp c).on (Joins.below_alloc1 _ (.cells #[.int .i64 s.cyc, .int .i64 s.rnd, .int .i64 s.slt, .int .i64 s.tck] 27))
  have hZ := SpAt.new (w.alloc (.cells #[.slice A l.length cp, .int .i64 c] 25)) s
  rw [World.size_alloc] at hZ
  have hS0 := (hS.below hB (Nat.le_refl _)).more hB.size
  have cr := refRight_any A cp c l hlm _ hS0
  have CR := Lib.hid (fun W h => refRound_any A cp c l hlm W h)
  unfold maxLen at hlm
  have HB := Lib.hid hB; clear hB hS
  obtain ⟨y0, y1⟩ := hP.cells
  cases hR : rightS l c
  · obtain ⟨ev, ee⟩ := time_no (l := l) (c := c) (s := s) (by rw [inB_ins, hR]; rfl)
    rw [ev, ee]
    clear ev ee
    rw [hR] at cr
    go_enter Try.func23, Try.ntmps23
    go_wp2_with fail
    refine cr.mono ?_; rintro e w1 ⟨rfl, b1⟩
    have HB1 := Lib.hid (HB.out.trans (b1.mono HB.out.size))
    clear y0 y1 b1
    go_wp2_with fail
    go_ret2
    exact ⟨rfl, HB1.out⟩
  · rw [hR] at cr
    rw [roundS_of hR] at CR
    have HS0 := Lib.hid hS0; clear hS0
    have HPP := Lib.hid hP; clear hP
    have HZ := Lib.hid hZ; clear hZ
    have HOUT := Lib.hid (fun h => time_out (l := l) (c := c) (s := s) h)
    have HTK := Lib.hid (fun p hp h => time_tick (l := l) (c := c) (s := s) (p := p) hp h)
    have HVB := Lib.hid (fun h => valS_bounds (l := l) (c := c) (s := s) h)
    have HTL := Lib.hid (fun h => time_late (l := l) (c := c) (s := s) h)
    have HTO := Lib.hid (fun hin h => time_ok (l := l) (c := c) (s := s) hin h)
    have HIN : Hid (inB l c s = true ↔ _) := Lib.hid (inB_iff l c s)
    have HVS : Hid (valS l c s = (s.cyc * c + s.rnd) * sumS l + aheadS l s.slt.toNat + s.tck) := Lib.hid rfl
    have hl2 := rightS_len hR
    have hcy := rightS_cyc hR
    have hsum := rightS_sum hR
    have HT := Lib.hid (rightS_ticked hR)
    have HRR := Lib.hid hR; clear hR
    generalize timeV l c s = TV at *
    generalize timeE l c s = TE at *
    generalize valS l c s = VV at *
    generalize hS' : sumS l = S at *
    have HSS := Lib.hid hS'; clear hS'
    obtain ⟨a1, a2, a3, a4⟩ := s
    simp only at *
    generalize hW : (w.alloc (.cells #[.slice A l.length cp, .int .i64 c] 25)).alloc (.cells #[.int .i64 a1, .int .i64 a2, .int .i64 a3, .int .i64 a4] 27) = W at *
    generalize hn : l.length = n at *
    have HN := Lib.hid hn; clear hn
    generalize hg : w.heap.size = b at *
    go_enter Try.func23, Try.ntmps23
    go_wp2_with fail
    refine cr.mono ?_; rintro e w1 ⟨rfl, b1⟩
    have HS1 := Lib.hid ((HS0.out.below b1 (Nat.le_refl _)).more b1.size)
    have HP1 := Lib.hid (HPP.out.on b1)
    have HZ1 := Lib.hid (HZ.out.on b1)
    have HB1 := Lib.hid (HB.out.trans (b1.mono (by rw [← hg]; exact HB.out.size)))
    clear y0 y1 b1 hW cr HS0 HPP HZ HB
    obtain ⟨y0, y1⟩ := HP1.out.cells
    obtain ⟨z0, z1, z2, z3⟩ := HZ1.out.cells
    by_cases g1 : a1 < 0
    · obtain ⟨rfl, rfl⟩ := HOUT.out (.inl g1)
      go_wp2_with fail
      go_ret2
      exact ⟨rfl, HB1.out⟩
    by_cases g2 : 1099511627776 < a1
    · obtain ⟨rfl, rfl⟩ := HOUT.out (.inr (.inl g2))
      go_wp2_with fail
      go_ret2
      exact ⟨rfl, HB1.out⟩
    by_cases g3 : a2 < 0
    · obtain ⟨rfl, rfl⟩ := HOUT.out (.inr (.inr (.inl g3)))
      go_wp2_with fail
      go_ret2
      exact ⟨rfl, HB1.out⟩
    by_cases g4 : c ≤ a2
    · obtain ⟨rfl, rfl⟩ := HOUT.out (.inr (.inr (.inr (.inl (by omega)))))
      go_wp2_with fail
      go_ret2
      exact ⟨rfl, HB1.out⟩
    by_cases g5 : a3 < 0
    · obtain ⟨rfl, rfl⟩ := HOUT.out (.inr (.inr (.inr (.inr (.inl g5)))))
      go_wp2_with fail
      go_ret2
      exact ⟨rfl, HB1.out⟩
    by_cases g6 : (n : Int) ≤ a3
    · obtain ⟨rfl, rfl⟩ := HOUT.out (.inr (.inr (.inr (.inr (.inr (by omega))))))
      go_wp2_with fail
      go_ret2
      exact ⟨rfl, HB1.out⟩
    clear HOUT
    obtain ⟨k, rfl⟩ : ∃ k : Nat, a3 = (k : Int) := ⟨a3.toNat, by omega⟩
    have hkn : k < n := by omega
    obtain ⟨p, hp⟩ : ∃ p, l[k]? = some p := ⟨_, List.getElem?_eq_getElem (by have := HN.out; omega)⟩
    have hTK := HTK.out p (by simpa using hp)
    have HTK := Lib.hid hTK; clear hTK
    have hpt := HT.out p (List.mem_of_getElem? hp)
    have HPT := Lib.hid hpt
    have HP' : Hid (inB l c ⟨a1, a2, (k : Int), a4⟩ = true ↔ _) := HIN
    have HINB : Hid (0 ≤ a4 → a4 < p.2 → inB l c ⟨a1, a2, (k : Int), a4⟩ = true) := Lib.hid (fun h1 h2 => HIN.out.2 ⟨HRR.out, ⟨by omega, by unfold maxT; omega⟩, ⟨by omega, by omega⟩, ⟨by omega, by have := HN.out; omega⟩, h1, by simp only [Int.toNat_natCast]; rw [List.getD_eq_getElem?_getD, hp]; exact h2⟩)
    clear HIN HP'
    obtain ⟨ad, rfl, hadb, hcc⟩ := HS1.out (by have := HN.out; omega)
    obtain ⟨x0, x1⟩ := hcc k p hp
    have HCC := Lib.hid hcc
    have HADB := Lib.hid hadb
    have HPK := Lib.hid hp
    clear hcc hadb hp
    obtain ⟨p1, p2⟩ := p
    simp only at *
    have hkI : (k : Int) < (n : Int) := by omega
    by_cases g7 : a4 < 0
    · obtain ⟨rfl, rfl⟩ := HTK.out (.inl g7)
      go_wp2_with fail
      go_quiet (fail)
      go_wp2_with fail
      go_ret2
      exact ⟨rfl, below_drewN HB1.out _⟩
    by_cases g8 : p2 ≤ a4
    · obtain ⟨rfl, rfl⟩ := HTK.out (.inr g8)
      go_wp2_with fail
      go_quiet (fail)
      go_wp2_with fail
      go_ret2
      exact ⟨rfl, below_drewN HB1.out _⟩
    have hin := HINB.out (by omega) (by omega)
    obtain ⟨v1, v2, v3, v4, v5⟩ := HVB.out hin
    have HTO2 := Lib.hid (HTO.out hin)
    clear HTK HINB HVB hin HTO
    go_wp2_with fail
    go_quiet (fail)
    have HS2 : Hid (Sls (w1.drewN nq) (w1.drewN nq).heap.size (some ad) l) := HS1
    have HP2 : Hid (PlAt (w1.drewN nq) b (some ad) n cp c) := HP1
    have HZ2 : Hid (SpAt (w1.drewN nq) (b + 1) ⟨a1, a2, k, a4⟩) := HZ1
    have HB2 : Hid (Below b w (w1.drewN nq)) := Lib.hid (below_drewN HB1.out _)
    have HAD2 : Hid (ad.block < (w1.drewN nq).heap.size) := HADB
    have HC2 : Hid (∀ j s, l[j]? = some s → At2 (w1.drewN nq) (ad.add (j * 2)) s) := HCC
    clear HS1 HP1 HZ1 HB1 HCC HADB y0 y1 z0 z1 z2 z3 x0 x1
    generalize w1.drewN nq = w2 at *
    have hcm : 0 ≤ a1 * c := Int.mul_nonneg (by omega) (by omega)
    have e65 : IntKind.i64.wrap (a1 * c) = a1 * c := IntWalk.i64_in _ (by omega)
    have e68 : IntKind.i64.wrap (a1 * c + a2) = a1 * c + a2 := IntWalk.i64_in _ (by omega)
    have hP : c * S ≤ 1024000 := by
      have := Int.mul_le_mul hcy.2 hsum.2.1 (by omega) (by omega)
      omega
    have hP0 : 0 < c * S := Int.mul_pos (by omega) (by omega)
    have e99 : IntKind.i64.wrap (c * S) = c * S := IntWalk.i64_in _ (by omega)
    have HCB := Lib.hid (fun r hr h => cyc_below (a := a1) (c := c) (b := a2) (S := S) (r := r) hsum.1 hcy.1 (by omega) hr h)
    have hZ0 : 0 ≤ 1099511627776 / (c * S) := Int.ediv_nonneg (by omega) (by omega)
    have hZ1 : 1099511627776 / (c * S) ≤ 1099511627776 := Int.ediv_le_self _ (by omega)
    have e100 : IntKind.i64.wrap ((1099511627776 : Int).tdiv (c * S)) = 1099511627776 / (c * S) := by
      rw [Int.tdiv_eq_ediv_of_nonneg (by omega)]
      exact IntWalk.i64_in _ (by omega)
    generalize hPS : c * S = P at *
    have HPS := Lib.hid hPS; clear hPS
    have hPz : ¬ P = 0 := by omega
    generalize 1099511627776 / P = Z at *
    have HE100 := Lib.hid e100; clear e100
    have HPZ := Lib.hid hPz; clear hPz
    generalize hQ : a1 * c + a2 = Q at *
    have HQ := Lib.hid hQ; clear hQ
    generalize hQS : Q * S = QS at *
    have HQS := Lib.hid hQS; clear hQS
    have e71 : IntKind.i64.wrap QS = QS := IntWalk.i64_in _ (by omega)
    have HE65 := Lib.hid e65
    have HE68 := Lib.hid e68
    have HE71 := Lib.hid e71
    have HE99 := Lib.hid e99
    clear e65 e68 e71 e99
    go_wp2_with fail
    have HV : ∃ Vp : Nat → (Nat → Value) → World → Prop, Vp = (fun ix u wv => match ix with
      | 0 => u 0 = .pointer (some ⟨b + 1, 0, none⟩)
      | 1 => u 1 = .int .i64 a1
      | 2 => u 2 = .pointer (some ⟨b, 1, none⟩)
      | 3 => u 3 = .int .i64 c
      | 4 => u 4 = .int .i64 (a1 * c)
      | 5 => u 5 = .pointer (some ⟨b + 1, 1, none⟩)
      | 6 => u 6 = .int .i64 a2
      | 7 => u 7 = .int .i64 Q
      | 8 => u 8 = .agg #[.slice (some ad) n cp, .int .i64 c]
      | 9 => u 9 = .int .i64 S
      | 10 => u 10 = .int .i64 QS
      | 11 => u 11 = .int .i64 QS
      | _ => True) := ⟨_, rfl⟩
    obtain ⟨Vp, hVdef⟩ := HV
    have Vp0 : ∀ u wv, Vp 0 u wv = (u 0 = .pointer (some ⟨b + 1, 0, none⟩)) := fun u wv => by subst hVdef; rfl
    have Vp1 : ∀ u wv, Vp 1 u wv = (u 1 = .int .i64 a1) := fun u wv => by subst hVdef; rfl
    have Vp2 : ∀ u wv, Vp 2 u wv = (u 2 = .pointer (some ⟨b, 1, none⟩)) := fun u wv => by subst hVdef; rfl
    have Vp3 : ∀ u wv, Vp 3 u wv = (u 3 = .int .i64 c) := fun u wv => by subst hVdef; rfl
    have Vp4 : ∀ u wv, Vp 4 u wv = (u 4 = .int .i64 (a1 * c)) := fun u wv => by subst hVdef; rfl
    have Vp5 : ∀ u wv, Vp 5 u wv = (u 5 = .pointer (some ⟨b + 1, 1, none⟩)) := fun u wv => by subst hVdef; rfl
    have Vp6 : ∀ u wv, Vp 6 u wv = (u 6 = .int .i64 a2) := fun u wv => by subst hVdef; rfl
    have Vp7 : ∀ u wv, Vp 7 u wv = (u 7 = .int .i64 Q) := fun u wv => by subst hVdef; rfl
    have Vp8 : ∀ u wv, Vp 8 u wv = (u 8 = .agg #[.slice (some ad) n cp, .int .i64 c]) := fun u wv => by subst hVdef; rfl
    have Vp9 : ∀ u wv, Vp 9 u wv = (u 9 = .int .i64 S) := fun u wv => by subst hVdef; rfl
    have Vp10 : ∀ u wv, Vp 10 u wv = (u 10 = .int .i64 QS) := fun u wv => by subst hVdef; rfl
    have Vp11 : ∀ u wv, Vp 11 u wv = (u 11 = .int .i64 QS) := fun u wv => by subst hVdef; rfl
    have HVD := Lib.hid hVdef
    clear hVdef
    refine region_each (V := Vp) (drop := fun _ _ => false) (G := fun wv => Below w2.heap.size w2 wv) (Rel := fun jx wv wv' => Below wv.heap.size wv wv') (by kernel_rfl) (by kernel_rfl) (Below.refl _ _).drew ?hmonoc1 ?hdepc1 ⟨?s0_c1, ?s1_c1, ?s2_c1, ?s3_c1, ?s4_c1, ?s5_c1, ?s6_c1, ?s7_c1, ?s8_c1, ?s9_c1, ?s10_c1, ?s11_c1, trivial⟩ ?behindc1
    case hmonoc1 =>
      intro ix jx u wv wv' hij hw hd hr
      rw [HVD.out]
      dsimp only
      split <;> intro h <;> first | exact trivial | exact h
    case hdepc1 =>
      intro ix u u' wv h1 h2
      rw [HVD.out]
      dsimp only
      split <;> intro h <;> first | exact trivial | (rw [← h1]; exact h)
    case s0_c1 =>
      refine owe rfl fun a wx val hG hV hN hO K hK => ?_
      have e3 : a.tmps[3]? = some (.pointer (some ⟨b + 1, 0, none⟩)) := (hO 3 (by kernel_rfl)).trans (by rfl)
      clear hV hN hO
      go_simp
      exact hK.out _ _ (by rw [Vp0, upd_at] <;> (congr 1 <;> omega)) (Below.refl _ _) hG
    case s1_c1 =>
      refine owe rfl fun a wx val hG hV hN hO K hK => ?_
      have e61 := hN 0 61 (by kernel_rfl) (by kernel_rfl) (by simp)
      have f61 := hV 0 (by kernel_rfl) (by kernel_rfl)
      rw [Vp0] at f61; rw [f61] at e61; clear f61
      clear hV hN hO
      obtain ⟨y0, y1⟩ := (HP2.out.on hG).cells; obtain ⟨z0, z1, z2, z3⟩ := (HZ2.out.on hG).cells
      go_simp
      exact hK.out _ _ (by rw [Vp1, upd_at] <;> (congr 1 <;> omega)) (Below.refl _ _) hG
    case s2_c1 =>
      refine owe rfl fun a wx val hG hV hN hO K hK => ?_
      have e2 : a.tmps[2]? = some (.pointer (some ⟨b, 0, none⟩)) := (hO 2 (by kernel_rfl)).trans (by rfl)
      clear hV hN hO
      go_simp
      exact hK.out _ _ (by rw [Vp2, upd_at] <;> (congr 1 <;> omega)) (Below.refl _ _) hG
    case s3_c1 =>
      refine owe rfl fun a wx val hG hV hN hO K hK => ?_
      have e63 := hN 2 63 (by kernel_rfl) (by kernel_rfl) (by simp)
      have f63 := hV 2 (by kernel_rfl) (by kernel_rfl)
      rw [Vp2] at f63; rw [f63] at e63; clear f63
      clear hV hN hO
      obtain ⟨y0, y1⟩ := (HP2.out.on hG).cells; obtain ⟨z0, z1, z2, z3⟩ := (HZ2.out.on hG).cells
      go_simp
      exact hK.out _ _ (by rw [Vp3, upd_at] <;> (congr 1 <;> omega)) (Below.refl _ _) hG
    case s4_c1 =>
      refine owe rfl fun a wx val hG hV hN hO K hK => ?_
      have e62 := hN 1 62 (by kernel_rfl) (by kernel_rfl) (by simp)
      have f62 := hV 1 (by kernel_rfl) (by kernel_rfl)
      rw [Vp1] at f62; rw [f62] at e62; clear f62
      have e64 := hN 3 64 (by kernel_rfl) (by kernel_rfl) (by simp)
      have f64 := hV 3 (by kernel_rfl) (by kernel_rfl)
      rw [Vp3] at f64; rw [f64] at e64; clear f64
      clear hV hN hO
      have q0 := HE65.out
      go_simp
      exact hK.out _ _ (by rw [Vp4, upd_at] <;> (congr 1 <;> omega)) (Below.refl _ _) hG
    case s5_c1 =>
      refine owe rfl fun a wx val hG hV hN hO K hK => ?_
      have e3 : a.tmps[3]? = some (.pointer (some ⟨b + 1, 0, none⟩)) := (hO 3 (by kernel_rfl)).trans (by rfl)
      clear hV hN hO
      go_simp
      exact hK.out _ _ (by rw [Vp5, upd_at] <;> (congr 1 <;> omega)) (Below.refl _ _) hG
    case s6_c1 =>
      refine owe rfl fun a wx val hG hV hN hO K hK => ?_
      have e66 := hN 5 66 (by kernel_rfl) (by kernel_rfl) (by simp)
      have f66 := hV 5 (by kernel_rfl) (by kernel_rfl)
      rw [Vp5] at f66; rw [f66] at e66; clear f66
      clear hV hN hO
      obtain ⟨y0, y1⟩ := (HP2.out.on hG).cells; obtain ⟨z0, z1, z2, z3⟩ := (HZ2.out.on hG).cells
      go_simp
      exact hK.out _ _ (by rw [Vp6, upd_at] <;> (congr 1 <;> omega)) (Below.refl _ _) hG
    case s7_c1 =>
      refine owe rfl fun a wx val hG hV hN hO K hK => ?_
      have e65 := hN 4 65 (by kernel_rfl) (by kernel_rfl) (by simp)
      have f65 := hV 4 (by kernel_rfl) (by kernel_rfl)
      rw [Vp4] at f65; rw [f65] at e65; clear f65
      have e67 := hN 6 67 (by kernel_rfl) (by kernel_rfl) (by simp)
      have f67 := hV 6 (by kernel_rfl) (by kernel_rfl)
      rw [Vp6] at f67; rw [f67] at e67; clear f67
      clear hV hN hO
      have q0 := HE68.out
      have q1 := HQ.out
      go_simp
      exact hK.out _ _ (by rw [Vp7, upd_at] <;> (congr 1 <;> omega)) (Below.refl _ _) hG
    case s8_c1 =>
      refine owe rfl fun a wx val hG hV hN hO K hK => ?_
      have e2 : a.tmps[2]? = some (.pointer (some ⟨b, 0, none⟩)) := (hO 2 (by kernel_rfl)).trans (by rfl)
      clear hV hN hO
      obtain ⟨y0, y1⟩ := (HP2.out.on hG).cells; obtain ⟨z0, z1, z2, z3⟩ := (HZ2.out.on hG).cells
      go_simp
      exact hK.out _ _ (by rw [Vp8, upd_at] <;> (congr 1 <;> omega)) (Below.refl _ _) hG
    case s9_c1 =>
      refine owe rfl fun a wx val hG hV hN hO K hK => ?_
      have e69 := hN 8 69 (by kernel_rfl) (by kernel_rfl) (by simp)
      have f69 := hV 8 (by kernel_rfl) (by kernel_rfl)
      rw [Vp8] at f69; rw [f69] at e69; clear f69
      clear hV hN hO
      go_simp
      refine (CR.out _ ((HS2.out.below hG (Nat.le_refl _)).more hG.size)).mono ?_
      rintro e w11 ⟨rfl, hb⟩
      exact hK.out _ _ (by rw [Vp9, upd_at]) hb (hG.trans (hb.mono hG.size))
    case s10_c1 =>
      refine owe rfl fun a wx val hG hV hN hO K hK => ?_
      have e68 := hN 7 68 (by kernel_rfl) (by kernel_rfl) (by simp)
      have f68 := hV 7 (by kernel_rfl) (by kernel_rfl)
      rw [Vp7] at f68; rw [f68] at e68; clear f68
      have e70 := hN 9 70 (by kernel_rfl) (by kernel_rfl) (by simp)
      have f70 := hV 9 (by kernel_rfl) (by kernel_rfl)
      rw [Vp9] at f70; rw [f70] at e70; clear f70
      clear hV hN hO
      have q0 := HE71.out
      have q1 := HQS.out
      go_simp
      exact hK.out _ _ (by rw [Vp10, upd_at] <;> (congr 1 <;> omega)) (Below.refl _ _) hG
    case s11_c1 =>
      refine owe rfl fun a wx val hG hV hN hO K hK => ?_
      have e71 := hN 10 71 (by kernel_rfl) (by kernel_rfl) (by simp)
      have f71 := hV 10 (by kernel_rfl) (by kernel_rfl)
      rw [Vp10] at f71; rw [f71] at e71; clear f71
      clear hV hN hO
      go_simp
      exact hK.out _ _ (by rw [Vp11, upd_at] <;> (congr 1 <;> omega)) (Below.refl _ _) hG
    intro val wx hG hV
    have f0 := hV 0 (by simp) (fun _ _ => by rfl)
    rw [Vp0] at f0
    have f1 := hV 1 (by simp) (fun _ _ => by rfl)
    rw [Vp1] at f1
    have f2 := hV 2 (by simp) (fun _ _ => by rfl)
    rw [Vp2] at f2
    have f3 := hV 3 (by simp) (fun _ _ => by rfl)
    rw [Vp3] at f3
    have f4 := hV 4 (by simp) (fun _ _ => by rfl)
    rw [Vp4] at f4
    have f5 := hV 5 (by simp) (fun _ _ => by rfl)
    rw [Vp5] at f5
    have f6 := hV 6 (by simp) (fun _ _ => by rfl)
    rw [Vp6] at f6
    have f7 := hV 7 (by simp) (fun _ _ => by rfl)
    rw [Vp7] at f7
    have f8 := hV 8 (by simp) (fun _ _ => by rfl)
    rw [Vp8] at f8
    have f9 := hV 9 (by simp) (fun _ _ => by rfl)
    rw [Vp9] at f9
    have f10 := hV 10 (by simp) (fun _ _ => by rfl)
    rw [Vp10] at f10
    have f11 := hV 11 (by simp) (fun _ _ => by rfl)
    rw [Vp11] at f11
    clear hV Vp0 Vp1 Vp2 Vp3 Vp4 Vp5 Vp6 Vp7 Vp8 Vp9 Vp10 Vp11
    simp only [putAll, Act.put, List.setIfInBounds_toArray, List.set_cons_zero, List.set_cons_succ]
    generalize val 0 = z0 at *; (subst f0)
    generalize val 1 = z1 at *; (subst f1)
    generalize val 2 = z2 at *; (subst f2)
    generalize val 3 = z3 at *; (subst f3)
    generalize val 4 = z4 at *; (subst f4)
    generalize val 5 = z5 at *; (subst f5)
    generalize val 6 = z6 at *; (subst f6)
    generalize val 7 = z7 at *; (subst f7)
    generalize val 8 = z8 at *; (subst f8)
    generalize val 9 = z9 at *; (subst f9)
    generalize val 10 = z10 at *; (subst f10)
    generalize val 11 = z11 at *; (subst f11)
    clear HVD
    have HS3 := Lib.hid ((HS2.out.below hG (Nat.le_refl _)).more hG.size)
    have HP3 := Lib.hid (HP2.out.on hG)
    have HZ3 := Lib.hid (HZ2.out.on hG)
    have HB3 := Lib.hid (HB2.out.trans (hG.mono (by rw [← hg]; exact HB2.out.size)))
    have HC3 := Lib.hid (fun j s (hs : l[j]? = some s) => (HC2.out j s hs).keep (w' := wx) (fun q hq => hG.cell (by rw [hq, adb]; exact HAD2.out)))
    clear hG HS2 HP2 HZ2 HB2 HC2
    obtain ⟨y0, y1⟩ := HP3.out.cells
    obtain ⟨z0, z1, z2, z3⟩ := HZ3.out.cells
    go_wp2_with fail
    go_loopw [6, 7] (fun v ix wr => wx = wr ∧ ∃ i : Nat, i ≤ k ∧ ix = .int .i64 (i : Int) ∧ v = .int .i64 (QS + aheadS l i)) (fun _ ix _ => k - (intOf ix).toNat)
    case atStart => exact ⟨rfl, 0, by omega, rfl, by rw [aheadS_zero, Int.add_zero]⟩
    case round =>
      obtain ⟨rfl, i, hi, rfl, rfl⟩ := hrel
      have hab := aheadS_bounds HT.out i (by have := HN.out; omega)
      by_cases hlt : i < k
      · have hiI : (i : Int) < (k : Int) := by omega
        have hin : (i : Int) < (n : Int) := by omega
        obtain ⟨s, hs⟩ : ∃ s, l[i]? = some s := ⟨_, List.getElem?_eq_getElem (by have := HN.out; omega)⟩
        obtain ⟨x0, x1⟩ := HC3.out i s hs
        have hst : 1 ≤ s.2 ∧ s.2 ≤ 1000 := HT.out _ (List.mem_of_getElem? hs)
        have HNX := Lib.hid (aheadS_succ l i s hs)
        clear hs
        obtain ⟨s1, s2⟩ := s
        simp only at *
        generalize aheadS l i = N0 at *
        have ew : IntKind.i64.wrap (QS + N0 + s2) = QS + N0 + s2 := IntWalk.i64_in _ (by omega)
        have HNY := Lib.hid (show QS + N0 + s2 = QS + aheadS l (i + 1) by have := HNX.out; omega)
        go_wp2_with fail
        go_roundw
        case rel => exact ⟨trivial, i + 1, by omega, by go_num, by rw [HNY.out]⟩
        case measure => simp [intOf]; omega
      · have hiI : ¬ (i : Int) < (k : Int) := by omega
        have ei : i = k := by omega
        subst ei
        have hvs : QS + aheadS l i + a4 = VV := by
          have h1 := HVS.out
          try simp only [Int.toNat_natCast] at h1
          omega
        have hp2 : 1 ≤ p2 ∧ p2 ≤ 1000 := HPT.out
        generalize hN0 : aheadS l i = N0 at *
        have ew : IntKind.i64.wrap (QS + N0 + a4) = VV := by rw [hvs]; exact IntWalk.i64_in _ (by omega)
        have HLT : Hid (¬ 1099511627776 < VV → ¬ Z < a1) := Lib.hid (fun h => by
          have := HCB.out (N0 + a4) (by omega) (by omega)
          omega)
        clear hN0 hvs
        by_cases hlate : 1099511627776 < VV
        · obtain ⟨rfl, rfl⟩ := HTL.out hlate
          go_wp2_with fail
          have HV : ∃ Vp : Nat → (Nat → Value) → World → Prop, Vp = (fun ix u wv => match ix with
            | 0 => u 0 = .int .i64 VV
            | 1 => u 1 = .bool true
            | 2 => u 2 = .bool true
            | 3 => u 3 = if false = true then .pointer (some ⟨b + 1, 0, none⟩) else undef
            | 4 => u 4 = if false = true then .int .i64 a1 else undef
            | 5 => u 5 = if false = true then .pointer (some ⟨b, 1, none⟩) else undef
            | 6 => u 6 = if false = true then .int .i64 c else undef
            | 7 => u 7 = if false = true then .agg #[.slice (some ad) n cp, .int .i64 c] else undef
            | 8 => u 8 = if false = true then .int .i64 S else undef
            | 9 => u 9 = if false = true then .int .i64 P else undef
            | 10 => u 10 = if false = true then .int .i64 Z else undef
            | 11 => u 11 = if false = true then .bool false else undef
            | 12 => u 12 = .bool true
            | _ => True) := ⟨_, rfl⟩
          obtain ⟨Vp, hVdef⟩ := HV
          have Vp0 : ∀ u wv, Vp 0 u wv = (u 0 = .int .i64 VV) := fun u wv => by subst hVdef; rfl
          have Vp1 : ∀ u wv, Vp 1 u wv = (u 1 = .bool true) := fun u wv => by subst hVdef; rfl
          have Vp2 : ∀ u wv, Vp 2 u wv = (u 2 = .bool true) := fun u wv => by subst hVdef; rfl
          have Vp3 : ∀ u wv, Vp 3 u wv = (u 3 = if false = true then .pointer (some ⟨b + 1, 0, none⟩) else undef) := fun u wv => by subst hVdef; rfl
          have Vp4 : ∀ u wv, Vp 4 u wv = (u 4 = if false = true then .int .i64 a1 else undef) := fun u wv => by subst hVdef; rfl
          have Vp5 : ∀ u wv, Vp 5 u wv = (u 5 = if false = true then .pointer (some ⟨b, 1, none⟩) else undef) := fun u wv => by subst hVdef; rfl
          have Vp6 : ∀ u wv, Vp 6 u wv = (u 6 = if false = true then .int .i64 c else undef) := fun u wv => by subst hVdef; rfl
          have Vp7 : ∀ u wv, Vp 7 u wv = (u 7 = if false = true then .agg #[.slice (some ad) n cp, .int .i64 c] else undef) := fun u wv => by subst hVdef; rfl
          have Vp8 : ∀ u wv, Vp 8 u wv = (u 8 = if false = true then .int .i64 S else undef) := fun u wv => by subst hVdef; rfl
          have Vp9 : ∀ u wv, Vp 9 u wv = (u 9 = if false = true then .int .i64 P else undef) := fun u wv => by subst hVdef; rfl
          have Vp10 : ∀ u wv, Vp 10 u wv = (u 10 = if false = true then .int .i64 Z else undef) := fun u wv => by subst hVdef; rfl
          have Vp11 : ∀ u wv, Vp 11 u wv = (u 11 = if false = true then .bool false else undef) := fun u wv => by subst hVdef; rfl
          have Vp12 : ∀ u wv, Vp 12 u wv = (u 12 = .bool true) := fun u wv => by subst hVdef; rfl
          have HVD := Lib.hid hVdef
          clear hVdef
          refine region_each (V := Vp) (drop := fun _ _ => false) (G := fun wv => Below wx.heap.size wx wv) (Rel := fun jx wv wv' => Below wv.heap.size wv wv') (by kernel_rfl) (by kernel_rfl) (Below.refl _ _).drew ?hmonoc2 ?hdepc2 ⟨?s0_c2, ?s1_c2, ?s2_c2, ?s3_c2, ?s4_c2, ?s5_c2, ?s6_c2, ?s7_c2, ?s8_c2, ?s9_c2, ?s10_c2, ?s11_c2, ?s12_c2, trivial⟩ ?behindc2
          case hmonoc2 =>
            intro ix jx u wv wv' hij hw hd hr
            rw [HVD.out]
            dsimp only
            split <;> intro h <;> first | exact trivial | exact h
          case hdepc2 =>
            intro ix u u' wv h1 h2
            rw [HVD.out]
            dsimp only
            split <;> intro h <;> first | exact trivial | (rw [← h1]; exact h)
          case s0_c2 =>
            refine owe rfl fun a wx val hG hV hN hO K hK => ?_
            have e6 : a.tmps[6]? = some (.int .i64 VV) := (hO 6 (by kernel_rfl)).trans (by rfl)
            clear hV hN hO
            go_simp
            exact hK.out _ _ (by rw [Vp0, upd_at] <;> (congr 1 <;> omega)) (Below.refl _ _) hG
          case s1_c2 =>
            refine owe rfl fun a wx val hG hV hN hO K hK => ?_
            have e90 := hN 0 90 (by kernel_rfl) (by kernel_rfl) (by simp)
            have f90 := hV 0 (by kernel_rfl) (by kernel_rfl)
            rw [Vp0] at f90; rw [f90] at e90; clear f90
            clear hV hN hO
            go_simp
            exact hK.out _ _ (by rw [Vp1, upd_at] <;> (congr 1 <;> omega)) (Below.refl _ _) hG
          case s2_c2 =>
            refine owe rfl fun a wx val hG hV hN hO K hK => ?_
            have e91 := hN 1 91 (by kernel_rfl) (by kernel_rfl) (by simp)
            have f91 := hV 1 (by kernel_rfl) (by kernel_rfl)
            rw [Vp1] at f91; rw [f91] at e91; clear f91
            clear hV hN hO
            go_simp
            exact hK.out _ _ (by rw [Vp2, upd_at] <;> (congr 1 <;> omega)) (Below.refl _ _) hG
          case s3_c2 =>
            refine owe_cond (g := 2) (t := 92) (b := false) (c := true) (d := true) false (by first | rfl | simp) rfl (by kernel_rfl) (by kernel_rfl) (by kernel_rfl) (by simp) (fun val w h => by rw [Vp2] at h; first | exact h | simpa using h) (fun hd a wx val hG hV hN hO K hK => ?_) (fun hd val w => by first | exact absurd hd (by decide) | rw [Vp3, upd_at, if_neg (by rw [hd]; decide)])
            exact absurd hd (by decide)
          case s4_c2 =>
            refine owe_cond (g := 2) (t := 92) (b := false) (c := true) (d := true) false (by first | rfl | simp) rfl (by kernel_rfl) (by kernel_rfl) (by kernel_rfl) (by simp) (fun val w h => by rw [Vp2] at h; first | exact h | simpa using h) (fun hd a wx val hG hV hN hO K hK => ?_) (fun hd val w => by first | exact absurd hd (by decide) | rw [Vp4, upd_at, if_neg (by rw [hd]; decide)])
            exact absurd hd (by decide)
          case s5_c2 =>
            refine owe_cond (g := 2) (t := 92) (b := false) (c := true) (d := true) false (by first | rfl | simp) rfl (by kernel_rfl) (by kernel_rfl) (by kernel_rfl) (by simp) (fun val w h => by rw [Vp2] at h; first | exact h | simpa using h) (fun hd a wx val hG hV hN hO K hK => ?_) (fun hd val w => by first | exact absurd hd (by decide) | rw [Vp5, upd_at, if_neg (by rw [hd]; decide)])
            exact absurd hd (by decide)
          case s6_c2 =>
            refine owe_cond (g := 2) (t := 92) (b := false) (c := true) (d := true) false (by first | rfl | simp) rfl (by kernel_rfl) (by kernel_rfl) (by kernel_rfl) (by simp) (fun val w h => by rw [Vp2] at h; first | exact h | simpa using h) (fun hd a wx val hG hV hN hO K hK => ?_) (fun hd val w => by first | exact absurd hd (by decide) | rw [Vp6, upd_at, if_neg (by rw [hd]; decide)])
            exact absurd hd (by decide)
          case s7_c2 =>
            refine owe_cond (g := 2) (t := 92) (b := false) (c := true) (d := true) false (by first | rfl | simp) rfl (by kernel_rfl) (by kernel_rfl) (by kernel_rfl) (by simp) (fun val w h => by rw [Vp2] at h; first | exact h | simpa using h) (fun hd a wx val hG hV hN hO K hK => ?_) (fun hd val w => by first | exact absurd hd (by decide) | rw [Vp7, upd_at, if_neg (by rw [hd]; decide)])
            exact absurd hd (by decide)
          case s8_c2 =>
            refine owe_cond (g := 2) (t := 92) (b := false) (c := true) (d := true) false (by first | rfl | simp) rfl (by kernel_rfl) (by kernel_rfl) (by kernel_rfl) (by simp) (fun val w h => by rw [Vp2] at h; first | exact h | simpa using h) (fun hd a wx val hG hV hN hO K hK => ?_) (fun hd val w => by first | exact absurd hd (by decide) | rw [Vp8, upd_at, if_neg (by rw [hd]; decide)])
            exact absurd hd (by decide)
          case s9_c2 =>
            refine owe_cond (g := 2) (t := 92) (b := false) (c := true) (d := true) false (by first | rfl | simp) rfl (by kernel_rfl) (by kernel_rfl) (by kernel_rfl) (by simp) (fun val w h => by rw [Vp2] at h; first | exact h | simpa using h) (fun hd a wx val hG hV hN hO K hK => ?_) (fun hd val w => by first | exact absurd hd (by decide) | rw [Vp9, upd_at, if_neg (by rw [hd]; decide)])
            exact absurd hd (by decide)
          case s10_c2 =>
            refine owe_cond (g := 2) (t := 92) (b := false) (c := true) (d := true) false (by first | rfl | simp) rfl (by kernel_rfl) (by kernel_rfl) (by kernel_rfl) (by simp) (fun val w h => by rw [Vp2] at h; first | exact h | simpa using h) (fun hd a wx val hG hV hN hO K hK => ?_) (fun hd val w => by first | exact absurd hd (by decide) | rw [Vp10, upd_at, if_neg (by rw [hd]; decide)])
            exact absurd hd (by decide)
          case s11_c2 =>
            refine owe_cond (g := 2) (t := 92) (b := false) (c := true) (d := true) false (by first | rfl | simp) rfl (by kernel_rfl) (by kernel_rfl) (by kernel_rfl) (by simp) (fun val w h => by rw [Vp2] at h; first | exact h | simpa using h) (fun hd a wx val hG hV hN hO K hK => ?_) (fun hd val w => by first | exact absurd hd (by decide) | rw [Vp11, upd_at, if_neg (by rw [hd]; decide)])
            exact absurd hd (by decide)
          case s12_c2 =>
            refine owe rfl fun a wx val hG hV hN hO K hK => ?_
            have e92 := hN 2 92 (by kernel_rfl) (by kernel_rfl) (by simp)
            have f92 := hV 2 (by kernel_rfl) (by kernel_rfl)
            rw [Vp2] at f92; rw [f92] at e92; clear f92
            have e101 := hN 11 101 (by kernel_rfl) (by kernel_rfl) (by simp)
            have f101 := hV 11 (by kernel_rfl) (by kernel_rfl)
            rw [Vp11] at f101; rw [f101] at e101; clear f101
            clear hV hN hO
            cases hcc : true
            · rw [hcc] at e92
              rw [if_pos (by first | exact hcc | (rw [hcc]; rfl) | simp [hcc])] at e101
              go_simp
              exact hK.out _ _ (by rw [Vp12, upd_at] <;> simp [hcc]) (Below.refl _ _) hG
            · rw [hcc] at e92
              rw [if_neg (by first | (rw [hcc]; decide) | simp [hcc])] at e101
              go_simp
              exact hK.out _ _ (by rw [Vp12, upd_at] <;> simp [hcc]) (Below.refl _ _) hG
          intro val wx hG hV
          have f0 := hV 0 (by simp) (fun _ _ => by rfl)
          rw [Vp0] at f0
          have f1 := hV 1 (by simp) (fun _ _ => by rfl)
          rw [Vp1] at f1
          have f2 := hV 2 (by simp) (fun _ _ => by rfl)
          rw [Vp2] at f2
          have f3 := hV 3 (by simp) (fun _ _ => by rfl)
          rw [Vp3] at f3
          have f4 := hV 4 (by simp) (fun _ _ => by rfl)
          rw [Vp4] at f4
          have f5 := hV 5 (by simp) (fun _ _ => by rfl)
          rw [Vp5] at f5
          have f6 := hV 6 (by simp) (fun _ _ => by rfl)
          rw [Vp6] at f6
          have f7 := hV 7 (by simp) (fun _ _ => by rfl)
          rw [Vp7] at f7
          have f8 := hV 8 (by simp) (fun _ _ => by rfl)
          rw [Vp8] at f8
          have f9 := hV 9 (by simp) (fun _ _ => by rfl)
          rw [Vp9] at f9
          have f10 := hV 10 (by simp) (fun _ _ => by rfl)
          rw [Vp10] at f10
          have f11 := hV 11 (by simp) (fun _ _ => by rfl)
          rw [Vp11] at f11
          have f12 := hV 12 (by simp) (fun _ _ => by rfl)
          rw [Vp12] at f12
          clear hV Vp0 Vp1 Vp2 Vp3 Vp4 Vp5 Vp6 Vp7 Vp8 Vp9 Vp10 Vp11 Vp12
          simp only [putAll, Act.put, List.setIfInBounds_toArray, List.set_cons_zero, List.set_cons_succ]
          generalize val 0 = z0 at *; (subst f0)
          generalize val 1 = z1 at *; (subst f1)
          generalize val 2 = z2 at *; (subst f2)
          generalize val 3 = z3 at *; clear f3
          generalize val 4 = z4 at *; clear f4
          generalize val 5 = z5 at *; clear f5
          generalize val 6 = z6 at *; clear f6
          generalize val 7 = z7 at *; clear f7
          generalize val 8 = z8 at *; clear f8
          generalize val 9 = z9 at *; clear f9
          generalize val 10 = z10 at *; clear f10
          generalize val 11 = z11 at *; clear f11
          generalize val 12 = z12 at *; (subst f12)
          clear HVD
          go_wp2_with fail
          go_ret2
          exact ⟨rfl, HB3.out.trans (hG.mono (by rw [← hg]; exact HB3.out.size))⟩
        · obtain ⟨rfl, htv⟩ := HTO2.out (by omega)
          obtain rfl := htv.symm
          have hlt := HLT.out hlate
          go_wp2_with fail
          have HV : ∃ Vp : Nat → (Nat → Value) → World → Prop, Vp = (fun ix u wv => match ix with
            | 0 => u 0 = .int .i64 VV
            | 1 => u 1 = .bool false
            | 2 => u 2 = .bool false
            | 3 => u 3 = .pointer (some ⟨b + 1, 0, none⟩)
            | 4 => u 4 = .int .i64 a1
            | 5 => u 5 = .pointer (some ⟨b, 1, none⟩)
            | 6 => u 6 = .int .i64 c
            | 7 => u 7 = .agg #[.slice (some ad) n cp, .int .i64 c]
            | 8 => u 8 = .int .i64 S
            | 9 => u 9 = .int .i64 P
            | 10 => u 10 = .int .i64 Z
            | 11 => u 11 = .bool false
            | 12 => u 12 = .bool false
            | _ => True) := ⟨_, rfl⟩
          obtain ⟨Vp, hVdef⟩ := HV
          have Vp0 : ∀ u wv, Vp 0 u wv = (u 0 = .int .i64 VV) := fun u wv => by subst hVdef; rfl
          have Vp1 : ∀ u wv, Vp 1 u wv = (u 1 = .bool false) := fun u wv => by subst hVdef; rfl
          have Vp2 : ∀ u wv, Vp 2 u wv = (u 2 = .bool false) := fun u wv => by subst hVdef; rfl
          have Vp3 : ∀ u wv, Vp 3 u wv = (u 3 = .pointer (some ⟨b + 1, 0, none⟩)) := fun u wv => by subst hVdef; rfl
          have Vp4 : ∀ u wv, Vp 4 u wv = (u 4 = .int .i64 a1) := fun u wv => by subst hVdef; rfl
          have Vp5 : ∀ u wv, Vp 5 u wv = (u 5 = .pointer (some ⟨b, 1, none⟩)) := fun u wv => by subst hVdef; rfl
          have Vp6 : ∀ u wv, Vp 6 u wv = (u 6 = .int .i64 c) := fun u wv => by subst hVdef; rfl
          have Vp7 : ∀ u wv, Vp 7 u wv = (u 7 = .agg #[.slice (some ad) n cp, .int .i64 c]) := fun u wv => by subst hVdef; rfl
          have Vp8 : ∀ u wv, Vp 8 u wv = (u 8 = .int .i64 S) := fun u wv => by subst hVdef; rfl
          have Vp9 : ∀ u wv, Vp 9 u wv = (u 9 = .int .i64 P) := fun u wv => by subst hVdef; rfl
          have Vp10 : ∀ u wv, Vp 10 u wv = (u 10 = .int .i64 Z) := fun u wv => by subst hVdef; rfl
          have Vp11 : ∀ u wv, Vp 11 u wv = (u 11 = .bool false) := fun u wv => by subst hVdef; rfl
          have Vp12 : ∀ u wv, Vp 12 u wv = (u 12 = .bool false) := fun u wv => by subst hVdef; rfl
          have HVD := Lib.hid hVdef
          clear hVdef
          refine region_each (V := Vp) (drop := fun _ _ => false) (G := fun wv => Below wx.heap.size wx wv) (Rel := fun jx wv wv' => Below wv.heap.size wv wv') (by kernel_rfl) (by kernel_rfl) (Below.refl _ _).drew ?hmonoc3 ?hdepc3 ⟨?s0_c3, ?s1_c3, ?s2_c3, ?s3_c3, ?s4_c3, ?s5_c3, ?s6_c3, ?s7_c3, ?s8_c3, ?s9_c3, ?s10_c3, ?s11_c3, ?s12_c3, trivial⟩ ?behindc3
          case hmonoc3 =>
            intro ix jx u wv wv' hij hw hd hr
            rw [HVD.out]
            dsimp only
            split <;> intro h <;> first | exact trivial | exact h
          case hdepc3 =>
            intro ix u u' wv h1 h2
            rw [HVD.out]
            dsimp only
            split <;> intro h <;> first | exact trivial | (rw [← h1]; exact h)
          case s0_c3 =>
            refine owe rfl fun a wx val hG hV hN hO K hK => ?_
            have e6 : a.tmps[6]? = some (.int .i64 VV) := (hO 6 (by kernel_rfl)).trans (by rfl)
            clear hV hN hO
            go_simp
            exact hK.out _ _ (by rw [Vp0, upd_at] <;> (congr 1 <;> omega)) (Below.refl _ _) hG
          case s1_c3 =>
            refine owe rfl fun a wx val hG hV hN hO K hK => ?_
            have e90 := hN 0 90 (by kernel_rfl) (by kernel_rfl) (by simp)
            have f90 := hV 0 (by kernel_rfl) (by kernel_rfl)
            rw [Vp0] at f90; rw [f90] at e90; clear f90
            clear hV hN hO
            have q9 : decide (1099511627776 < VV) = false := decide_eq_false (by omega)
            go_simp
            exact hK.out _ _ (by rw [Vp1, upd_at] <;> (congr 1 <;> omega)) (Below.refl _ _) hG
          case s2_c3 =>
            refine owe rfl fun a wx val hG hV hN hO K hK => ?_
            have e91 := hN 1 91 (by kernel_rfl) (by kernel_rfl) (by simp)
            have f91 := hV 1 (by kernel_rfl) (by kernel_rfl)
            rw [Vp1] at f91; rw [f91] at e91; clear f91
            clear hV hN hO
            go_simp
            exact hK.out _ _ (by rw [Vp2, upd_at] <;> (congr 1 <;> omega)) (Below.refl _ _) hG
          case s3_c3 =>
            refine owe_cond (g := 2) (t := 92) (b := false) (c := false) (d := true) true (by first | rfl | simp) rfl (by kernel_rfl) (by kernel_rfl) (by kernel_rfl) (by simp) (fun val w h => by rw [Vp2] at h; first | exact h | simpa using h) (fun hd a wx val hG hV hN hO K hK => ?_) (fun hd val w => by first | exact absurd hd (by decide) | rw [Vp3, upd_at, if_neg (by rw [hd]; decide)])
            have e3 : a.tmps[3]? = some (.pointer (some ⟨b + 1, 0, none⟩)) := (hO 3 (by kernel_rfl)).trans (by rfl)
            clear hV hN hO
            go_simp
            exact hK.out _ _ (by rw [Vp3, upd_at] <;> (congr 1 <;> omega)) (Below.refl _ _) hG
          case s4_c3 =>
            refine owe_cond (g := 2) (t := 92) (b := false) (c := false) (d := true) true (by first | rfl | simp) rfl (by kernel_rfl) (by kernel_rfl) (by kernel_rfl) (by simp) (fun val w h => by rw [Vp2] at h; first | exact h | simpa using h) (fun hd a wx val hG hV hN hO K hK => ?_) (fun hd val w => by first | exact absurd hd (by decide) | rw [Vp4, upd_at, if_neg (by rw [hd]; decide)])
            have e93 := hN 3 93 (by kernel_rfl) (by kernel_rfl) (by simp)
            have f93 := hV 3 (by kernel_rfl) (by kernel_rfl)
            rw [Vp3] at f93; rw [f93] at e93; clear f93
            clear hV hN hO
            obtain ⟨y0, y1⟩ := (HP3.out.on hG).cells; obtain ⟨z0, z1, z2, z3⟩ := (HZ3.out.on hG).cells
            go_simp
            exact hK.out _ _ (by rw [Vp4, upd_at] <;> (congr 1 <;> omega)) (Below.refl _ _) hG
          case s5_c3 =>
            refine owe_cond (g := 2) (t := 92) (b := false) (c := false) (d := true) true (by first | rfl | simp) rfl (by kernel_rfl) (by kernel_rfl) (by kernel_rfl) (by simp) (fun val w h => by rw [Vp2] at h; first | exact h | simpa using h) (fun hd a wx val hG hV hN hO K hK => ?_) (fun hd val w => by first | exact absurd hd (by decide) | rw [Vp5, upd_at, if_neg (by rw [hd]; decide)])
            have e2 : a.tmps[2]? = some (.pointer (some ⟨b, 0, none⟩)) := (hO 2 (by kernel_rfl)).trans (by rfl)
            clear hV hN hO
            go_simp
            exact hK.out _ _ (by rw [Vp5, upd_at] <;> (congr 1 <;> omega)) (Below.refl _ _) hG
          case s6_c3 =>
            refine owe_cond (g := 2) (t := 92) (b := false) (c := false) (d := true) true (by first | rfl | simp) rfl (by kernel_rfl) (by kernel_rfl) (by kernel_rfl) (by simp) (fun val w h => by rw [Vp2] at h; first | exact h | simpa using h) (fun hd a wx val hG hV hN hO K hK => ?_) (fun hd val w => by first | exact absurd hd (by decide) | rw [Vp6, upd_at, if_neg (by rw [hd]; decide)])
            have e95 := hN 5 95 (by kernel_rfl) (by kernel_rfl) (by simp)
            have f95 := hV 5 (by kernel_rfl) (by kernel_rfl)
            rw [Vp5] at f95; rw [f95] at e95; clear f95
            clear hV hN hO
            obtain ⟨y0, y1⟩ := (HP3.out.on hG).cells; obtain ⟨z0, z1, z2, z3⟩ := (HZ3.out.on hG).cells
            go_simp
            exact hK.out _ _ (by rw [Vp6, upd_at] <;> (congr 1 <;> omega)) (Below.refl _ _) hG
          case s7_c3 =>
            refine owe_cond (g := 2) (t := 92) (b := false) (c := false) (d := true) true (by first | rfl | simp) rfl (by kernel_rfl) (by kernel_rfl) (by kernel_rfl) (by simp) (fun val w h => by rw [Vp2] at h; first | exact h | simpa using h) (fun hd a wx val hG hV hN hO K hK => ?_) (fun hd val w => by first | exact absurd hd (by decide) | rw [Vp7, upd_at, if_neg (by rw [hd]; decide)])
            have e2 : a.tmps[2]? = some (.pointer (some ⟨b, 0, none⟩)) := (hO 2 (by kernel_rfl)).trans (by rfl)
            clear hV hN hO
            obtain ⟨y0, y1⟩ := (HP3.out.on hG).cells; obtain ⟨z0, z1, z2, z3⟩ := (HZ3.out.on hG).cells
            go_simp
            exact hK.out _ _ (by rw [Vp7, upd_at] <;> (congr 1 <;> omega)) (Below.refl _ _) hG
          case s8_c3 =>
            refine owe_cond (g := 2) (t := 92) (b := false) (c := false) (d := true) true (by first | rfl | simp) rfl (by kernel_rfl) (by kernel_rfl) (by kernel_rfl) (by simp) (fun val w h => by rw [Vp2] at h; first | exact h | simpa using h) (fun hd a wx val hG hV hN hO K hK => ?_) (fun hd val w => by first | exact absurd hd (by decide) | rw [Vp8, upd_at, if_neg (by rw [hd]; decide)])
            have e97 := hN 7 97 (by kernel_rfl) (by kernel_rfl) (by simp)
            have f97 := hV 7 (by kernel_rfl) (by kernel_rfl)
            rw [Vp7] at f97; rw [f97] at e97; clear f97
            clear hV hN hO
            go_simp
            refine (CR.out _ ((HS3.out.below hG (Nat.le_refl _)).more hG.size)).mono ?_
            rintro e w11 ⟨rfl, hb⟩
            exact hK.out _ _ (by rw [Vp8, upd_at]) hb (hG.trans (hb.mono hG.size))
          case s9_c3 =>
            refine owe_cond (g := 2) (t := 92) (b := false) (c := false) (d := true) true (by first | rfl | simp) rfl (by kernel_rfl) (by kernel_rfl) (by kernel_rfl) (by simp) (fun val w h => by rw [Vp2] at h; first | exact h | simpa using h) (fun hd a wx val hG hV hN hO K hK => ?_) (fun hd val w => by first | exact absurd hd (by decide) | rw [Vp9, upd_at, if_neg (by rw [hd]; decide)])
            have e96 := hN 6 96 (by kernel_rfl) (by kernel_rfl) (by simp)
            have f96 := hV 6 (by kernel_rfl) (by kernel_rfl)
            rw [Vp6] at f96; rw [f96] at e96; clear f96
            have e98 := hN 8 98 (by kernel_rfl) (by kernel_rfl) (by simp)
            have f98 := hV 8 (by kernel_rfl) (by kernel_rfl)
            rw [Vp8] at f98; rw [f98] at e98; clear f98
            clear hV hN hO
            have q1 := HPS.out
            have q0 := HE99.out
            go_simp
            exact hK.out _ _ (by rw [Vp9, upd_at] <;> (congr 1 <;> omega)) (Below.refl _ _) hG
          case s10_c3 =>
            refine owe_cond (g := 2) (t := 92) (b := false) (c := false) (d := true) true (by first | rfl | simp) rfl (by kernel_rfl) (by kernel_rfl) (by kernel_rfl) (by simp) (fun val w h => by rw [Vp2] at h; first | exact h | simpa using h) (fun hd a wx val hG hV hN hO K hK => ?_) (fun hd val w => by first | exact absurd hd (by decide) | rw [Vp10, upd_at, if_neg (by rw [hd]; decide)])
            have e99 := hN 9 99 (by kernel_rfl) (by kernel_rfl) (by simp)
            have f99 := hV 9 (by kernel_rfl) (by kernel_rfl)
            rw [Vp9] at f99; rw [f99] at e99; clear f99
            clear hV hN hO
            have q0 := HE100.out
            have q1 := HPZ.out
            go_simp
            exact hK.out _ _ (by rw [Vp10, upd_at] <;> (congr 1 <;> omega)) (Below.refl _ _) hG
          case s11_c3 =>
            refine owe_cond (g := 2) (t := 92) (b := false) (c := false) (d := true) true (by first | rfl | simp) rfl (by kernel_rfl) (by kernel_rfl) (by kernel_rfl) (by simp) (fun val w h => by rw [Vp2] at h; first | exact h | simpa using h) (fun hd a wx val hG hV hN hO K hK => ?_) (fun hd val w => by first | exact absurd hd (by decide) | rw [Vp11, upd_at, if_neg (by rw [hd]; decide)])
            have e94 := hN 4 94 (by kernel_rfl) (by kernel_rfl) (by simp)
            have f94 := hV 4 (by kernel_rfl) (by kernel_rfl)
            rw [Vp4] at f94; rw [f94] at e94; clear f94
            have e100 := hN 10 100 (by kernel_rfl) (by kernel_rfl) (by simp)
            have f100 := hV 10 (by kernel_rfl) (by kernel_rfl)
            rw [Vp10] at f100; rw [f100] at e100; clear f100
            clear hV hN hO
            have q9 : decide (Z < a1) = false := decide_eq_false (by omega)
            go_simp
            exact hK.out _ _ (by rw [Vp11, upd_at] <;> (congr 1 <;> omega)) (Below.refl _ _) hG
          case s12_c3 =>
            refine owe rfl fun a wx val hG hV hN hO K hK => ?_
            have e92 := hN 2 92 (by kernel_rfl) (by kernel_rfl) (by simp)
            have f92 := hV 2 (by kernel_rfl) (by kernel_rfl)
            rw [Vp2] at f92; rw [f92] at e92; clear f92
            have e101 := hN 11 101 (by kernel_rfl) (by kernel_rfl) (by simp)
            have f101 := hV 11 (by kernel_rfl) (by kernel_rfl)
            rw [Vp11] at f101; rw [f101] at e101; clear f101
            clear hV hN hO
            cases hcc : false
            · rw [hcc] at e92
              go_simp
              exact hK.out _ _ (by rw [Vp12, upd_at] <;> simp [hcc]) (Below.refl _ _) hG
            · rw [hcc] at e92
              go_simp
              exact hK.out _ _ (by rw [Vp12, upd_at] <;> simp [hcc]) (Below.refl _ _) hG
          intro val wx hG hV
          have f0 := hV 0 (by simp) (fun _ _ => by rfl)
          rw [Vp0] at f0
          have f1 := hV 1 (by simp) (fun _ _ => by rfl)
          rw [Vp1] at f1
          have f2 := hV 2 (by simp) (fun _ _ => by rfl)
          rw [Vp2] at f2
          have f3 := hV 3 (by simp) (fun _ _ => by rfl)
          rw [Vp3] at f3
          have f4 := hV 4 (by simp) (fun _ _ => by rfl)
          rw [Vp4] at f4
          have f5 := hV 5 (by simp) (fun _ _ => by rfl)
          rw [Vp5] at f5
          have f6 := hV 6 (by simp) (fun _ _ => by rfl)
          rw [Vp6] at f6
          have f7 := hV 7 (by simp) (fun _ _ => by rfl)
          rw [Vp7] at f7
          have f8 := hV 8 (by simp) (fun _ _ => by rfl)
          rw [Vp8] at f8
          have f9 := hV 9 (by simp) (fun _ _ => by rfl)
          rw [Vp9] at f9
          have f10 := hV 10 (by simp) (fun _ _ => by rfl)
          rw [Vp10] at f10
          have f11 := hV 11 (by simp) (fun _ _ => by rfl)
          rw [Vp11] at f11
          have f12 := hV 12 (by simp) (fun _ _ => by rfl)
          rw [Vp12] at f12
          clear hV Vp0 Vp1 Vp2 Vp3 Vp4 Vp5 Vp6 Vp7 Vp8 Vp9 Vp10 Vp11 Vp12
          simp only [putAll, Act.put, List.setIfInBounds_toArray, List.set_cons_zero, List.set_cons_succ]
          generalize val 0 = z0 at *; (subst f0)
          generalize val 1 = z1 at *; (subst f1)
          generalize val 2 = z2 at *; (subst f2)
          generalize val 3 = z3 at *; (subst f3)
          generalize val 4 = z4 at *; (subst f4)
          generalize val 5 = z5 at *; (subst f5)
          generalize val 6 = z6 at *; (subst f6)
          generalize val 7 = z7 at *; (subst f7)
          generalize val 8 = z8 at *; (subst f8)
          generalize val 9 = z9 at *; (subst f9)
          generalize val 10 = z10 at *; (subst f10)
          generalize val 11 = z11 at *; (subst f11)
          generalize val 12 = z12 at *; (subst f12)
          clear HVD
          go_wp2_with fail
          go_ret2
          exact ⟨rfl, HB3.out.trans (hG.mono (by rw [← hg]; exact HB3.out.size))⟩
end Go.Proofs.Ytmklabdfalkldaa

/-
  The walk of the law IdentOrder: At undoes Key, and Parse Print; of unlike right identifiers one alone is less.
-/
import Derived.Test.YtnngkpcikmbnmaaDoorIdentAmong
import Derived.WalkArith
import Derived.Deep.DeepCutAuto
namespace Go.Proofs.YtnngkpcikmbnmaaDoor
open Go.RowKit

theorem wide_inj (a b : Int) (h : keyI true a = keyI true b) : a = b := by
  have h2 : 524288 * (a / 262144) + 262144 + a % 262144 = 524288 * (b / 262144) + 262144 + b % 262144 := h
  omega

/-- At undoes Key. -/
theorem at_key {b : Bool} {n : Int} (h : rightI b n = true) : atRB (keyI b n) = b ∧ atRN (keyI b n) = n ∧ atRE (keyI b n) = 0 := by
  have hr := right_range h
  have hb : atB (keyI b n) = b := by
    unfold atB
    cases b
    · exact decide_eq_false (by show ¬ 262144 ≤ 524288 * n % 524288; omega)
    · exact decide_eq_true (by show 262144 ≤ (524288 * (n / 262144) + 262144 + n % 262144) % 524288; omega)
  have hn : atN (keyI b n) = n := by
    unfold atN
    rw [hb]
    cases b
    · show 524288 * n / 524288 = n
      omega
    · show (524288 * (n / 262144) + 262144 + n % 262144) / 524288 * 262144 + (524288 * (n / 262144) + 262144 + n % 262144) % 262144 = n
      omega
  have hok : atOk (keyI b n) = true := by
    unfold atOk
    rw [hb, hn, h, Bool.true_and]
    exact beq_self_eq_true _
  refine ⟨?_, ?_, ?_⟩
  · unfold atRB; rw [hok, hb]; rfl
  · unfold atRN; rw [hok, hn]; rfl
  · unfold atRE; rw [hok]; rfl

theorem octet_nat (x : Int) : ((octet x).toNat : Int) = x % 256 := by
  unfold octet
  have h1 : 0 ≤ x % 256 := by omega
  have h2 : x % 256 < 256 := by omega
  rw [UInt8.toNat_ofNat']
  omega

/-- Parse undoes Print. -/
theorem ps_print {b : Bool} {n : Int} (h : rightI b n = true) : psRB (printI b n) = b ∧ psRN (printI b n) = n ∧ psE (printI b n) = 0 ∧ (printI b n).length = 4 := by
  have hr := right_range h
  have hl := lim_range b
  have hp : printI b n = four (numI b n) := by unfold printI; rw [h]; rfl
  have hlen : (printI b n).length = 4 := by rw [hp]; rfl
  have hnum : numL (printI b n) = numI b n := by
    rw [hp, numL_four _ rfl]
    show 16777216 * ((octet (numI b n / 16777216)).toNat : Int) + 65536 * ((octet (numI b n / 65536)).toNat : Int) + 256 * ((octet (numI b n / 256)).toNat : Int) + ((octet (numI b n)).toNat : Int) = numI b n
    rw [octet_nat, octet_nat, octet_nat, octet_nat]
    have : 0 ≤ numI b n ∧ numI b n < 4294967296 := by
      cases b
      · show 0 ≤ n ∧ n < 4294967296
        omega
      · show 0 ≤ n + 2147483648 ∧ n + 2147483648 < 4294967296
        omega
    omega
  have hb : psB (printI b n) = b := by
    unfold psB
    rw [hnum]
    cases b
    · exact decide_eq_false (by show ¬ 2147483648 ≤ n; omega)
    · exact decide_eq_true (by show 2147483648 ≤ n + 2147483648; omega)
  have hn : psN (printI b n) = n := by
    unfold psN
    rw [hnum]
    cases b
    · show n % 2147483648 = n
      omega
    · show (n + 2147483648) % 2147483648 = n
      omega
  have hok : psOk (printI b n) = true := by
    unfold psOk
    rw [hb, hn, h, hlen]; rfl
  refine ⟨?_, ?_, ?_, hlen⟩
  · unfold psRB; rw [hok, hb]; rfl
  · unfold psRN; rw [hok, hn]; rfl
  · unfold psE; rw [hlen, hok]; rfl

/-- The base of an identifier. -/
def baseI (b : Bool) (n : Int) : Int := if b = true then n / 262144 else n

theorem key_base {b : Bool} {n : Int} (h : rightI b n = true) : 524288 * baseI b n ≤ keyI b n ∧ keyI b n < 524288 * baseI b n + 524288 ∧ (b = false → keyI b n = 524288 * baseI b n) ∧ (b = true → 524288 * baseI b n < keyI b n) := by
  have hr := right_range h
  cases b
  · show 524288 * n ≤ 524288 * n ∧ 524288 * n < 524288 * n + 524288 ∧ (false = false → 524288 * n = 524288 * n) ∧ (false = true → _)
    exact ⟨by omega, by omega, fun _ => rfl, fun h => by cases h⟩
  · show 524288 * (n / 262144) ≤ 524288 * (n / 262144) + 262144 + n % 262144 ∧ 524288 * (n / 262144) + 262144 + n % 262144 < 524288 * (n / 262144) + 524288 ∧ (true = false → _) ∧ (true = true → 524288 * (n / 262144) < 524288 * (n / 262144) + 262144 + n % 262144)
    exact ⟨by omega, by omega, (fun h => by cases h), (fun _ => by omega)⟩
theorem key_inj {b c : Bool} {n m : Int} (h : keyI b n = keyI c m) : b = c ∧ n = m := by
  cases b <;> cases c
  · have h : 524288 * n = 524288 * m := h
    exact ⟨rfl, by omega⟩
  · have h : 524288 * n = 524288 * (m / 262144) + 262144 + m % 262144 := h
    omega
  · have h : 524288 * (n / 262144) + 262144 + n % 262144 = 524288 * m := h
    omega
  · exact ⟨rfl, wide_inj n m h⟩

/-- What the order of two right ones comes to. -/
theorem order_facts {b c : Bool} {n m : Int} (h1 : rightI b n = true) (h2 : rightI c m = true) (lab lba : Bool) (e1 : lab = lessI b n c m) (e2 : lba = lessI c m b n) :
    (lab = true → lba = false ∧ (b == c && n == m) = false) ∧ (lab = false → lba = true → (b == c && n == m) = false) ∧ (lab = false → lba = false → (b == c && n == m) = true) ∧
    (baseI b n < baseI c m → lab = true) ∧ (baseI b n = baseI c m → b = false → c = true → lab = true) := by
  rw [lessI_right h1 h2] at e1
  rw [lessI_right h2 h1] at e2
  have k1 := key_base h1
  have k2 := key_base h2
  have hne : keyI b n ≠ keyI c m → (b == c && n == m) = false := by
    intro h
    cases hb : (b == c && n == m) with
    | false => rfl
    | true =>
      rw [Bool.and_eq_true, beq_iff_eq, beq_iff_eq] at hb
      exact absurd (by rw [hb.1, hb.2]) h
  subst e1 e2
  refine ⟨fun h => ?_, fun h g => ?_, fun h g => ?_, fun h => ?_, fun h hb hc => ?_⟩
  · have h := of_decide_eq_true h
    exact ⟨decide_eq_false (by omega), hne (by omega)⟩
  · have g := of_decide_eq_true g
    exact hne (by omega)
  · have h := of_decide_eq_false h
    have g := of_decide_eq_false g
    obtain ⟨e1, e2⟩ := key_inj (show keyI b n = keyI c m by omega)
    rw [e1, e2]; simp
  · exact decide_eq_true (by omega)
  · have g1 := k1.2.2.1 hb
    have g2 := k2.2.2.2 hc
    exact decide_eq_true (by omega)

set_option maxHeartbeats 20000000 in
set_option maxRecDepth 100000 in
theorem identOrder_walk (a0 a1 : Int) (a2 a3 : Bool) (w0 : (Lit.int .i64 a0).wf = true) (w1 : (Lit.int .i64 a1).wf = true) (w : World) (L : Laid w) :
    Calls Tryd.prog 5 #[.int .i64 a0, .int .i64 a1, .bool a2, .bool a3] w fun e w' => e = .returned (.bool true) ∧ Below w.heap.size w w' := by
  have k1 := fun w => ident_any a0 w0 a2 w
  have k2 := fun w => ident_any a1 w1 a3 w
  have r1 := idN_right a0 a2
  have r2 := idN_right a1 a3
  generalize idN a0 a2 = A at k1 r1
  generalize idN a1 a3 = B at k2 r2
  have k3 := fun w L => key_any a2 A w L
  rw [keyV_right r1, keyE_right r1] at k3
  have kr := keyI_range r1
  have hk : (Lit.int .i64 (keyI a2 A)).wf = true := WalkArith.wf_i64 (by omega)
  have k4 := fun w L => at_any (keyI a2 A) hk w L
  unfold AtPost at k4
  obtain ⟨t1, t2, t3⟩ := at_key r1
  rw [t1, t2, t3] at k4
  have k5 := fun w L => print_any a2 A w L
  rw [keyE_right r1] at k5
  obtain ⟨p1, p2, p3, p4⟩ := ps_print r1
  have k6 := fun w L => parse_any (txt (printI a2 A)) w L (by rw [txt_size, p4]; decide)
  unfold ParsePost at k6
  rw [txt_data, p1, p2, p3] at k6
  generalize txt (printI a2 A) = S at k5 k6
  clear t1 t2 t3 p1 p2 p3 p4 hk kr
  generalize keyI a2 A = K at k3 k4
  obtain ⟨lab, e1⟩ : ∃ x, x = lessI a2 A a3 B := ⟨_, rfl⟩
  obtain ⟨lba, e2⟩ : ∃ x, x = lessI a3 B a2 A := ⟨_, rfl⟩
  have hf := order_facts r1 r2 lab lba e1 e2
  have k7 := fun w L => less_any a2 A a3 B w L
  have k8 := fun w L => less_any a3 B a2 A w L
  rw [← e1] at k7
  rw [← e2] at k8
  clear e1 e2
  have g1 := right_range r1
  have g2 := right_range r2
  have g3 := lim_range a2
  have g4 := lim_range a3
  obtain ⟨gA0, gA1⟩ : 0 ≤ A ∧ A ≤ 536870911 := by omega
  obtain ⟨gB0, gB1⟩ : 0 ≤ B ∧ B ≤ 536870911 := by omega
  clear g1 g2 g3 g4 r1 r2 w0 w1
  have hE1 : (!(a2 == a2 && A == A)) = false := by simp
  have HNE := Lib.hid (fun w => neq_agg a2 a2 A A w)
  obtain ⟨f1, f2, f3, f4, f5⟩ := hf
  have K1 := Lib.hid k1; clear k1
  have K2 := Lib.hid k2; clear k2
  have K3 := Lib.hid k3; clear k3
  have K4 := Lib.hid k4; clear k4
  have K5 := Lib.hid k5; clear k5
  have K6 := Lib.hid k6; clear k6
  have K7 := Lib.hid k7; clear k7
  have K8 := Lib.hid k8; clear k8
  have F1 := Lib.hid f1; clear f1
  have F2 := Lib.hid f2; clear f2
  have F3 := Lib.hid f3; clear f3
  have F4 := Lib.hid f4; clear f4
  have F5 := Lib.hid f5; clear f5
  have hne : ∀ w, (binOp .neq 23 (.agg #[.bool a2, .int .i64 A]) (.agg #[.bool a2, .int .i64 A])).run Tryd.prog w = .ok (.bool false) w := fun w => by rw [HNE.out w, hE1]
  clear hE1 HNE
  have hge := fun x y w => eq_guard .neq x y a2 a2 A A w
  go_enter Tryd.func5, Tryd.ntmps5
  go_wp2_with fail
  refine (awake_any _ L).mono ?_
  rintro e w0 ⟨rfl, hW⟩
  have L0 := L.below hW
  go_wp2_with fail
  refine (K1.out _).mono ?_
  rintro e w1 ⟨rfl, hb1⟩
  replace L0 := L0.below hb1
  replace hW := below_trans hW hb1
  clear hb1
  go_wp2_with fail
  refine (K2.out _).mono ?_
  rintro e w2 ⟨rfl, hb2⟩
  have XA := ((Two.new _ a2 A _)).below hb2
  replace L0 := (L0.alloc _).below hb2
  replace hW := below_trans (below_new hW _) hb2
  clear hb2
  obtain ⟨sXA, qXA0, qXA1⟩ := id XA
  go_wp2_with fail
  refine (K3.out _ (L0.alloc _)).mono ?_
  rintro e w3 ⟨rfl, hb3⟩
  clear qXA0 qXA1 sXA
  replace XA := ((XA.alloc _)).below hb3
  have XB := ((Two.new _ a3 B _)).below hb3
  replace L0 := (L0.alloc _).below hb3
  replace hW := below_trans (below_new hW _) hb3
  clear hb3
  obtain ⟨sXA, qXA0, qXA1⟩ := id XA
  obtain ⟨sXB, qXB0, qXB1⟩ := id XB
  go_wp2_with fail
  refine (K4.out _ L0).mono ?_
  rintro e w4 ⟨rfl, hb4⟩
  clear qXA0 qXA1 qXB0 qXB1 sXA sXB
  replace XA := (XA).below hb4
  replace XB := (XB).below hb4
  replace L0 := L0.below hb4
  replace hW := below_trans hW hb4
  clear hb4
  obtain ⟨sXA, qXA0, qXA1⟩ := id XA
  obtain ⟨sXB, qXB0, qXB1⟩ := id XB
  go_wp2_with fail
  refine (K5.out _ (L0.alloc _)).mono ?_
  rintro e w5 ⟨rfl, hb5⟩
  clear qXA0 qXA1 qXB0 qXB1 sXA sXB
  replace XA := ((XA.alloc _)).below hb5
  replace XB := ((XB.alloc _)).below hb5
  have XC := ((Two.new _ a2 A _)).below hb5
  replace L0 := (L0.alloc _).below hb5
  replace hW := below_trans (below_new hW _) hb5
  clear hb5
  obtain ⟨sXA, qXA0, qXA1⟩ := id XA
  obtain ⟨sXB, qXB0, qXB1⟩ := id XB
  obtain ⟨sXC, qXC0, qXC1⟩ := id XC
  go_wp2_with fail
  refine (K6.out _ L0).mono ?_
  rintro e w6 ⟨rfl, hb6⟩
  clear qXA0 qXA1 qXB0 qXB1 qXC0 qXC1 sXA sXB sXC
  replace XA := (XA).below hb6
  replace XB := (XB).below hb6
  replace XC := (XC).below hb6
  replace L0 := L0.below hb6
  replace hW := below_trans hW hb6
  clear hb6
  obtain ⟨sXA, qXA0, qXA1⟩ := id XA
  obtain ⟨sXB, qXB0, qXB1⟩ := id XB
  obtain ⟨sXC, qXC0, qXC1⟩ := id XC
  have hz := L0
  replace XA := XA.alloc (.cells #[.bool a2, .int .i64 A] 23)
  replace XB := XB.alloc (.cells #[.bool a2, .int .i64 A] 23)
  replace L0 := L0.alloc (.cells #[.bool a2, .int .i64 A] 23)
  replace hW := below_new hW (.cells #[.bool a2, .int .i64 A] 23)
  go_upto_if 76 with fail
  generalize w6.alloc (.cells #[.bool a2, .int .i64 A] 23) = WE at *
  clear qXA0 qXA1 qXB0 qXB1 qXC0 qXC1 sXA sXB sXC XC hne hge
  obtain ⟨sa, qa0, qa1⟩ := id XA
  obtain ⟨sb, qb0, qb1⟩ := id XB
  go_cut [20] (fun s wx => s = .int .i64 (baseI a2 A) ∧ wx = WE)
  case first =>
    cases a2
    · go_wp2_with fail
      go_meet
      exact ⟨rfl, rfl⟩
    · go_wp2_with fail
      go_meet
      exact ⟨rfl, rfl⟩
  case rest =>
    obtain ⟨rfl, rfl⟩ := hcut
    go_upto_if 83 with fail
    go_cut [21] (fun s wx => s = .int .i64 (baseI a3 B) ∧ wx = wc)
    case first =>
      cases a3
      · go_wp2_with fail
        go_meet
        exact ⟨rfl, rfl⟩
      · go_wp2_with fail
        go_meet
        exact ⟨rfl, rfl⟩
    case rest =>
      obtain ⟨rfl, hwx⟩ := hcut
      subst hwx
      generalize baseI a2 A = P at *
      generalize baseI a3 B = Q at *
      clear K1 K2 K3 K4 K5 K6 hz
      go_upto_region 16 with fail
      go_cut [115] (fun s wx => s = .bool false ∧ Below wc.heap.size wc wx)
      case first =>
        by_cases h1 : P < Q
        · have d1 : decide (P < Q) = true := decide_eq_true h1
          have d2 : (P == Q) = false := beq_eq_false_iff_ne.2 (by omega)
          obtain rfl := F4.out h1
          clear F1 F2 F3 F4 F5
          go_wp2_with fail
          refine (K7.out _ L0).mono ?_
          rintro e v7 ⟨rfl, hb⟩
          go_wp2_with fail
          go_meet
          exact ⟨rfl, hb⟩
        · have d1 : decide (P < Q) = false := decide_eq_false h1
          by_cases h2 : P = Q
          · have d2 : (P == Q) = true := beq_iff_eq.2 h2
            have F6 := Lib.hid (F5.out h2)
            subst h2
            clear F1 F2 F3 F4 F5
            cases a2
            · cases a3
              · clear F6
                go_wp2_with fail
                go_meet
                exact ⟨rfl, Below.refl _ _⟩
              · obtain rfl : lab = true := F6.out rfl rfl
                clear F6
                go_wp2_with fail
                refine (K7.out _ L0).mono ?_
                rintro e v7 ⟨rfl, hb⟩
                go_wp2_with fail
                go_meet
                exact ⟨rfl, hb⟩
            · clear F6
              go_wp2_with fail
              go_meet
              exact ⟨rfl, Below.refl _ _⟩
          · have d2 : (P == Q) = false := beq_eq_false_iff_ne.2 h2
            clear F1 F2 F3 F4 F5
            go_wp2_with fail
            go_meet
            exact ⟨rfl, Below.refl _ _⟩
      case rest =>
        obtain ⟨rfl, hbx⟩ := hcut
        have YA := XA.below hbx
        have YB := XB.below hbx
        have LE := L0.below hbx
        replace hW := below_trans hW hbx
        clear XA XB L0 hbx F4 F5 sa sb qa0 qa1 qb0 qb1 gA0 gA1 gB0 gB1 L
        have HST : Hid (∀ w', Below wc.heap.size wc w' → (w'.cell? ⟨w1.heap.size, 0, none⟩ = some (.bool a2) ∧ w'.cell? ⟨w1.heap.size, 1, none⟩ = some (.int .i64 A) ∧ w'.cell? ⟨w2.heap.size, 0, none⟩ = some (.bool a3) ∧ w'.cell? ⟨w2.heap.size, 1, none⟩ = some (.int .i64 B) ∧ Below wc.heap.size wc w')) := by
          apply Lib.hid
          intro w' hb
          exact ⟨(YA.below hb).2.1, (YA.below hb).2.2, (YB.below hb).2.1, (YB.below hb).2.2, hb⟩
        have HSL : Hid (∀ w', (w'.cell? ⟨w1.heap.size, 0, none⟩ = some (.bool a2) ∧ w'.cell? ⟨w1.heap.size, 1, none⟩ = some (.int .i64 A) ∧ w'.cell? ⟨w2.heap.size, 0, none⟩ = some (.bool a3) ∧ w'.cell? ⟨w2.heap.size, 1, none⟩ = some (.int .i64 B) ∧ Below wc.heap.size wc w') → Below wc.heap.size wc w') := Lib.hid fun w' h => h.2.2.2.2
        have HST2 : Hid (∀ w' w'', (w'.cell? ⟨w1.heap.size, 0, none⟩ = some (.bool a2) ∧ w'.cell? ⟨w1.heap.size, 1, none⟩ = some (.int .i64 A) ∧ w'.cell? ⟨w2.heap.size, 0, none⟩ = some (.bool a3) ∧ w'.cell? ⟨w2.heap.size, 1, none⟩ = some (.int .i64 B) ∧ Below wc.heap.size wc w') → Below w'.heap.size w' w'' → (w''.cell? ⟨w1.heap.size, 0, none⟩ = some (.bool a2) ∧ w''.cell? ⟨w1.heap.size, 1, none⟩ = some (.int .i64 A) ∧ w''.cell? ⟨w2.heap.size, 0, none⟩ = some (.bool a3) ∧ w''.cell? ⟨w2.heap.size, 1, none⟩ = some (.int .i64 B) ∧ Below wc.heap.size wc w'')) := Lib.hid fun w' w'' h hb => HST.out w'' (below_trans (HSL.out w' h) hb)
        have HLD : Hid (∀ w', (w'.cell? ⟨w1.heap.size, 0, none⟩ = some (.bool a2) ∧ w'.cell? ⟨w1.heap.size, 1, none⟩ = some (.int .i64 A) ∧ w'.cell? ⟨w2.heap.size, 0, none⟩ = some (.bool a3) ∧ w'.cell? ⟨w2.heap.size, 1, none⟩ = some (.int .i64 B) ∧ Below wc.heap.size wc w') → Laid w') := Lib.hid fun w' h => LE.below (HSL.out w' h)
        clear YA YB LE
        go_wp2_with fail
        cases lab
        · cases lba
          · have HE := Lib.hid (F3.out rfl rfl)
            clear F1 F2 F3
            have hEG := fun x y w => eq_guard .neq x y a2 a3 A B w
            have hEQ : ∀ w, (binOp .neq 23 (.agg #[.bool a2, .int .i64 A]) (.agg #[.bool a3, .int .i64 B])).run Tryd.prog w = .ok (.bool false) w := fun w => by rw [neq_agg, HE.out]; rfl
            clear HE
            refine wp_region_held_drew (S := fun w' => w'.cell? ⟨w1.heap.size, 0, none⟩ = some (.bool a2) ∧ w'.cell? ⟨w1.heap.size, 1, none⟩ = some (.int .i64 A) ∧ w'.cell? ⟨w2.heap.size, 0, none⟩ = some (.bool a3) ∧ w'.cell? ⟨w2.heap.size, 1, none⟩ = some (.int .i64 B) ∧ Below wc.heap.size wc w') (by kernel_rfl) ?_ (fun hHeld => ?_)
            · exact HST.out _ (Below.refl _ _).drew
            refine wpAnyH_take (i := 0) (oi := ({ dst := some 116, op := Op.move (Operand.tmp 9), type := 4, pos := "law.go:97", after := #[], guard := none } : Oper)) (v := ?v1) rfl (by kernel_rfl) (by kernel_rfl) (by kernel_rfl) (fun _ _ _ h => h) (Or.inl ⟨by rfl, ?hy1⟩) (by assumption) ?rest1
            case hy1 => (intro w hSw; (try dsimp only at hSw); go_simp; try with_reducible rfl)
            simp only [Act.put, List.setIfInBounds_toArray, List.set_cons_zero, List.set_cons_succ]
            refine wpAnyH_take (i := 1) (oi := ({ dst := some 117, op := Op.move (Operand.tmp 116), type := 4, pos := "law.go:97", after := #[{ on := 0, ground := Ground.data }], guard := none } : Oper)) (v := ?v2) rfl (by kernel_rfl) (by kernel_rfl) (by kernel_rfl) (fun _ _ _ h => h) (Or.inl ⟨by rfl, ?hy2⟩) (by assumption) ?rest2
            case hy2 => (intro w hSw; (try dsimp only at hSw); go_simp; try with_reducible rfl)
            simp only [Act.put, List.setIfInBounds_toArray, List.set_cons_zero, List.set_cons_succ]
            refine wpAnyH_take (i := 2) (oi := ({ dst := some 118, op := Op.load 23 (Operand.tmp 10), type := 23, pos := "law.go:97", after := #[{ on := 1, ground := Ground.guard }], guard := some (1, true) } : Oper)) (v := ?v3) rfl (by kernel_rfl) (by kernel_rfl) (by kernel_rfl) (fun _ _ _ h => h) (Or.inl ⟨by rfl, ?hy3⟩) (by assumption) ?rest3
            case hy3 => (intro w hSw; (try dsimp only at hSw); go_simp; try with_reducible rfl)
            simp only [Act.put, List.setIfInBounds_toArray, List.set_cons_zero, List.set_cons_succ]
            refine wpAnyH_take (i := 3) (oi := ({ dst := some 119, op := Op.load 23 (Operand.tmp 11), type := 23, pos := "law.go:97", after := #[{ on := 1, ground := Ground.guard }], guard := some (1, true) } : Oper)) (v := ?v4) rfl (by kernel_rfl) (by kernel_rfl) (by kernel_rfl) (fun _ _ _ h => h) (Or.inl ⟨by rfl, ?hy4⟩) (by assumption) ?rest4
            case hy4 => (intro w hSw; (try dsimp only at hSw); go_simp; try with_reducible rfl)
            simp only [Act.put, List.setIfInBounds_toArray, List.set_cons_zero, List.set_cons_succ]
            refine wpAnyH_take (i := 10) (oi := ({ dst := some 126, op := Op.load 23 (Operand.tmp 10), type := 23, pos := "law.go:97", after := #[{ on := 1, ground := Ground.guard }], guard := some (1, true) } : Oper)) (v := ?v5) rfl (by kernel_rfl) (by kernel_rfl) (by kernel_rfl) (fun _ _ _ h => h) (Or.inl ⟨by rfl, ?hy5⟩) (by assumption) ?rest5
            case hy5 => (intro w hSw; (try dsimp only at hSw); go_simp; try with_reducible rfl)
            simp only [Act.put, List.setIfInBounds_toArray, List.set_cons_zero, List.set_cons_succ]
            refine wpAnyH_take (i := 11) (oi := ({ dst := some 127, op := Op.load 23 (Operand.tmp 11), type := 23, pos := "law.go:97", after := #[{ on := 1, ground := Ground.guard }], guard := some (1, true) } : Oper)) (v := ?v6) rfl (by kernel_rfl) (by kernel_rfl) (by kernel_rfl) (fun _ _ _ h => h) (Or.inl ⟨by rfl, ?hy6⟩) (by assumption) ?rest6
            case hy6 => (intro w hSw; (try dsimp only at hSw); go_simp; try with_reducible rfl)
            simp only [Act.put, List.setIfInBounds_toArray, List.set_cons_zero, List.set_cons_succ]
            refine wpAnyH_take (i := 12) (oi := ({ dst := some 128, op := Op.binOp BinOp.neq 23 (Operand.tmp 126) (Operand.tmp 127) 23, type := 4, pos := "law.go:97", after := #[{ on := 10, ground := Ground.data }, { on := 11, ground := Ground.data }, { on := 1, ground := Ground.guard }], guard := some (1, true) } : Oper)) (v := ?v7) rfl (by kernel_rfl) (by kernel_rfl) (by kernel_rfl) (fun _ _ _ h => h) (Or.inl ⟨by rfl, ?hy7⟩) (by assumption) ?rest7
            case hy7 => (intro w hSw; (try dsimp only at hSw); go_simp; try with_reducible rfl)
            simp only [Act.put, List.setIfInBounds_toArray, List.set_cons_zero, List.set_cons_succ]
            refine wpAnyH_ready (rs := [4]) (by kernel_rfl) (by simp) ?_
            refine AllReadyH.cons (o := ({ dst := some 120, op := Op.call { callee := Callee.value (Operand.func 18), args := #[Operand.tmp 118, Operand.tmp 119], argTypes := #[23, 23] }, type := 4, pos := "law.go:97", after := #[{ on := 2, ground := Ground.data }, { on := 3, ground := Ground.data }, { on := 1, ground := Ground.chain }, { on := 1, ground := Ground.guard }], guard := some (1, true) } : Oper)) rfl (fun K hK => ?_) AllReadyH.nil
            go_simp
            (go_at_call_of 18 (Value.agg #[.bool a2, .int .i64 A]); refine (K7.out _ (HLD.out _ (by assumption))).mono ?_; rintro e v4 ⟨rfl, hb4⟩)
            refine hK.out _ _ ?_ (fun hHeld => ?_)
            · exact HST2.out _ _ (by assumption) (by assumption)
            clear hK K
            try simp only [Act.put, List.setIfInBounds_toArray, List.set_cons_zero, List.set_cons_succ]
            refine wpAnyH_take (i := 5) (oi := ({ dst := some 121, op := Op.move (Operand.tmp 120), type := 4, pos := "law.go:97", after := #[{ on := 4, ground := Ground.data }, { on := 4, ground := Ground.chain }, { on := 1, ground := Ground.guard }], guard := some (1, true) } : Oper)) (v := ?v8) rfl (by kernel_rfl) (by kernel_rfl) (by kernel_rfl) (fun _ _ _ h => h) (Or.inl ⟨by rfl, ?hy8⟩) (by assumption) ?rest8
            case hy8 => (intro w hSw; (try dsimp only at hSw); go_simp; try with_reducible rfl)
            simp only [Act.put, List.setIfInBounds_toArray, List.set_cons_zero, List.set_cons_succ]
            refine wpAnyH_take (i := 6) (oi := ({ dst := some 122, op := Op.load 23 (Operand.tmp 11), type := 23, pos := "law.go:97", after := #[{ on := 5, ground := Ground.guard }], guard := some (5, false) } : Oper)) (v := ?v9) rfl (by kernel_rfl) (by kernel_rfl) (by kernel_rfl) (fun _ _ _ h => h) (Or.inl ⟨by rfl, ?hy9⟩) (by assumption) ?rest9
            case hy9 => (intro w hSw; (try dsimp only at hSw); go_simp; try with_reducible rfl)
            simp only [Act.put, List.setIfInBounds_toArray, List.set_cons_zero, List.set_cons_succ]
            refine wpAnyH_take (i := 7) (oi := ({ dst := some 123, op := Op.load 23 (Operand.tmp 10), type := 23, pos := "law.go:97", after := #[{ on := 5, ground := Ground.guard }], guard := some (5, false) } : Oper)) (v := ?v10) rfl (by kernel_rfl) (by kernel_rfl) (by kernel_rfl) (fun _ _ _ h => h) (Or.inl ⟨by rfl, ?hy10⟩) (by assumption) ?rest10
            case hy10 => (intro w hSw; (try dsimp only at hSw); go_simp; try with_reducible rfl)
            simp only [Act.put, List.setIfInBounds_toArray, List.set_cons_zero, List.set_cons_succ]
            refine wpAnyH_ready (rs := [8]) (by kernel_rfl) (by simp) ?_
            refine AllReadyH.cons (o := ({ dst := some 124, op := Op.call { callee := Callee.value (Operand.func 18), args := #[Operand.tmp 122, Operand.tmp 123], argTypes := #[23, 23] }, type := 4, pos := "law.go:97", after := #[{ on := 6, ground := Ground.data }, { on := 7, ground := Ground.data }, { on := 5, ground := Ground.chain }, { on := 5, ground := Ground.guard }], guard := some (5, false) } : Oper)) rfl (fun K hK => ?_) AllReadyH.nil
            go_simp
            (go_at_call_of 18 (Value.agg #[.bool a3, .int .i64 B]); refine (K8.out _ (HLD.out _ (by assumption))).mono ?_; rintro e v8 ⟨rfl, hb8⟩)
            refine hK.out _ _ ?_ (fun hHeld => ?_)
            · exact HST2.out _ _ (by assumption) (by assumption)
            clear hK K
            try simp only [Act.put, List.setIfInBounds_toArray, List.set_cons_zero, List.set_cons_succ]
            refine wpAnyH_take (i := 9) (oi := ({ dst := some 125, op := Op.pick (Operand.tmp 121) (Operand.const (Value.bool true)) (Operand.tmp 124), type := 4, pos := "law.go:97", after := #[{ on := 5, ground := Ground.data }, { on := 8, ground := Ground.data }, { on := 1, ground := Ground.guard }], guard := some (1, true) } : Oper)) (v := ?v11) rfl (by kernel_rfl) (by kernel_rfl) (by kernel_rfl) (fun _ _ _ h => h) (Or.inl ⟨by rfl, ?hy11⟩) (by assumption) ?rest11
            case hy11 => (intro w hSw; (try dsimp only at hSw); go_simp; try with_reducible rfl)
            simp only [Act.put, List.setIfInBounds_toArray, List.set_cons_zero, List.set_cons_succ]
            refine wpAnyH_take (i := 13) (oi := ({ dst := some 129, op := Op.binOp BinOp.eql 4 (Operand.tmp 125) (Operand.tmp 128) 4, type := 4, pos := "law.go:97", after := #[{ on := 9, ground := Ground.data }, { on := 12, ground := Ground.data }, { on := 1, ground := Ground.guard }], guard := some (1, true) } : Oper)) (v := ?v12) rfl (by kernel_rfl) (by kernel_rfl) (by kernel_rfl) (fun _ _ _ h => h) (Or.inl ⟨by rfl, ?hy12⟩) (by assumption) ?rest12
            case hy12 => (intro w hSw; (try dsimp only at hSw); go_simp; try with_reducible rfl)
            simp only [Act.put, List.setIfInBounds_toArray, List.set_cons_zero, List.set_cons_succ]
            refine wpAnyH_take (i := 14) (oi := ({ dst := some 130, op := Op.pick (Operand.tmp 117) (Operand.tmp 129) (Operand.const (Value.bool false)), type := 4, pos := "law.go:97", after := #[{ on := 1, ground := Ground.data }, { on := 13, ground := Ground.data }], guard := none } : Oper)) (v := ?v13) rfl (by kernel_rfl) (by kernel_rfl) (by kernel_rfl) (fun _ _ _ h => h) (Or.inl ⟨by rfl, ?hy13⟩) (by assumption) ?rest13
            case hy13 => (intro w hSw; (try dsimp only at hSw); go_simp; try with_reducible rfl)
            simp only [Act.put, List.setIfInBounds_toArray, List.set_cons_zero, List.set_cons_succ]
            refine wpAnyH_take (i := 15) (oi := ({ dst := some 131, op := Op.move (Operand.tmp 130), type := 4, pos := "law.go:97", after := #[{ on := 14, ground := Ground.data }, { on := 8, ground := Ground.chain }], guard := none } : Oper)) (v := ?v14) rfl (by kernel_rfl) (by kernel_rfl) (by kernel_rfl) (fun _ _ _ h => h) (Or.inl ⟨by rfl, ?hy14⟩) (by assumption) ?rest14
            case hy14 => (intro w hSw; (try dsimp only at hSw); go_simp; try with_reducible rfl)
            simp only [Act.put, List.setIfInBounds_toArray, List.set_cons_zero, List.set_cons_succ]
            refine wpAnyH_take (i := 16) (oi := ({ dst := some 132, op := Op.load 23 (Operand.tmp 10), type := 23, pos := "law.go:97", after := #[{ on := 15, ground := Ground.guard }], guard := some (15, true) } : Oper)) (v := ?v15) rfl (by kernel_rfl) (by kernel_rfl) (by kernel_rfl) (fun _ _ _ h => h) (Or.inl ⟨by rfl, ?hy15⟩) (by assumption) ?rest15
            case hy15 => (intro w hSw; (try dsimp only at hSw); go_simp; try with_reducible rfl)
            simp only [Act.put, List.setIfInBounds_toArray, List.set_cons_zero, List.set_cons_succ]
            refine wpAnyH_take (i := 17) (oi := ({ dst := some 133, op := Op.load 23 (Operand.tmp 11), type := 23, pos := "law.go:97", after := #[{ on := 15, ground := Ground.guard }], guard := some (15, true) } : Oper)) (v := ?v16) rfl (by kernel_rfl) (by kernel_rfl) (by kernel_rfl) (fun _ _ _ h => h) (Or.inl ⟨by rfl, ?hy16⟩) (by assumption) ?rest16
            case hy16 => (intro w hSw; (try dsimp only at hSw); go_simp; try with_reducible rfl)
            simp only [Act.put, List.setIfInBounds_toArray, List.set_cons_zero, List.set_cons_succ]
            refine wpAnyH_ready (rs := [18]) (by kernel_rfl) (by simp) ?_
            refine AllReadyH.cons (o := ({ dst := some 134, op := Op.call { callee := Callee.value (Operand.func 18), args := #[Operand.tmp 132, Operand.tmp 133], argTypes := #[23, 23] }, type := 4, pos := "law.go:97", after := #[{ on := 16, ground := Ground.data }, { on := 17, ground := Ground.data }, { on := 15, ground := Ground.chain }, { on := 15, ground := Ground.guard }], guard := some (15, true) } : Oper)) rfl (fun K hK => ?_) AllReadyH.nil
            go_simp
            (go_at_call_of 18 (Value.agg #[.bool a2, .int .i64 A]); refine (K7.out _ (HLD.out _ (by assumption))).mono ?_; rintro e v18 ⟨rfl, hb18⟩)
            refine hK.out _ _ ?_ (fun hHeld => ?_)
            · exact HST2.out _ _ (by assumption) (by assumption)
            clear hK K
            try simp only [Act.put, List.setIfInBounds_toArray, List.set_cons_zero, List.set_cons_succ]
            refine wpAnyH_take (i := 19) (oi := ({ dst := some 135, op := Op.move (Operand.tmp 134), type := 4, pos := "law.go:97", after := #[{ on := 18, ground := Ground.data }, { on := 18, ground := Ground.chain }, { on := 15, ground := Ground.guard }], guard := some (15, true) } : Oper)) (v := ?v17) rfl (by kernel_rfl) (by kernel_rfl) (by kernel_rfl) (fun _ _ _ h => h) (Or.inl ⟨by rfl, ?hy17⟩) (by assumption) ?rest17
            case hy17 => (intro w hSw; (try dsimp only at hSw); go_simp; try with_reducible rfl)
            simp only [Act.put, List.setIfInBounds_toArray, List.set_cons_zero, List.set_cons_succ]
            refine wpAnyH_take (i := 20) (oi := ({ dst := some 136, op := Op.load 23 (Operand.tmp 11), type := 23, pos := "law.go:97", after := #[{ on := 19, ground := Ground.guard }], guard := some (19, true) } : Oper)) (v := undef) rfl (by kernel_rfl) (by kernel_rfl) (by kernel_rfl) (fun _ _ _ h => h) (Or.inr ⟨by rfl, rfl⟩) (by assumption) ?_
            simp only [Act.put, List.setIfInBounds_toArray, List.set_cons_zero, List.set_cons_succ]
            refine wpAnyH_take (i := 21) (oi := ({ dst := some 137, op := Op.load 23 (Operand.tmp 10), type := 23, pos := "law.go:97", after := #[{ on := 19, ground := Ground.guard }], guard := some (19, true) } : Oper)) (v := undef) rfl (by kernel_rfl) (by kernel_rfl) (by kernel_rfl) (fun _ _ _ h => h) (Or.inr ⟨by rfl, rfl⟩) (by assumption) ?_
            simp only [Act.put, List.setIfInBounds_toArray, List.set_cons_zero, List.set_cons_succ]
            refine wpAnyH_take (i := 22) (oi := ({ dst := some 138, op := Op.call { callee := Callee.value (Operand.func 18), args := #[Operand.tmp 136, Operand.tmp 137], argTypes := #[23, 23] }, type := 4, pos := "law.go:97", after := #[{ on := 20, ground := Ground.data }, { on := 21, ground := Ground.data }, { on := 19, ground := Ground.chain }, { on := 19, ground := Ground.guard }], guard := some (19, true) } : Oper)) (v := undef) rfl (by kernel_rfl) (by kernel_rfl) (by kernel_rfl) (fun _ _ _ h => h) (Or.inr ⟨by rfl, rfl⟩) (by assumption) ?_
            simp only [Act.put, List.setIfInBounds_toArray, List.set_cons_zero, List.set_cons_succ]
            refine wpAnyH_take (i := 23) (oi := ({ dst := some 139, op := Op.pick (Operand.tmp 135) (Operand.tmp 138) (Operand.const (Value.bool false)), type := 4, pos := "law.go:97", after := #[{ on := 19, ground := Ground.data }, { on := 22, ground := Ground.data }, { on := 15, ground := Ground.guard }], guard := some (15, true) } : Oper)) (v := ?v18) rfl (by kernel_rfl) (by kernel_rfl) (by kernel_rfl) (fun _ _ _ h => h) (Or.inl ⟨by rfl, ?hy18⟩) (by assumption) ?rest18
            case hy18 => (intro w hSw; (try dsimp only at hSw); go_simp; try with_reducible rfl)
            simp only [Act.put, List.setIfInBounds_toArray, List.set_cons_zero, List.set_cons_succ]
            refine wpAnyH_take (i := 24) (oi := ({ dst := some 140, op := Op.unOp UnOp.not 4 (Operand.tmp 139), type := 4, pos := "law.go:97", after := #[{ on := 23, ground := Ground.data }, { on := 15, ground := Ground.guard }], guard := some (15, true) } : Oper)) (v := ?v19) rfl (by kernel_rfl) (by kernel_rfl) (by kernel_rfl) (fun _ _ _ h => h) (Or.inl ⟨by rfl, ?hy19⟩) (by assumption) ?rest19
            case hy19 => (intro w hSw; (try dsimp only at hSw); go_simp; try with_reducible rfl)
            simp only [Act.put, List.setIfInBounds_toArray, List.set_cons_zero, List.set_cons_succ]
            refine wpAnyH_take (i := 25) (oi := ({ dst := some 141, op := Op.pick (Operand.tmp 131) (Operand.tmp 140) (Operand.const (Value.bool false)), type := 4, pos := "law.go:97", after := #[{ on := 15, ground := Ground.data }, { on := 24, ground := Ground.data }], guard := none } : Oper)) (v := ?v20) rfl (by kernel_rfl) (by kernel_rfl) (by kernel_rfl) (fun _ _ _ h => h) (Or.inl ⟨by rfl, ?hy20⟩) (by assumption) ?rest20
            case hy20 => (intro w hSw; (try dsimp only at hSw); go_simp; try with_reducible rfl)
            simp only [Act.put, List.setIfInBounds_toArray, List.set_cons_zero, List.set_cons_succ]
            refine wpAnyH_take (i := 26) (oi := ({ dst := some 8, op := Op.assign (Operand.tmp 141), type := 4, pos := "law.go:97", after := #[{ on := 25, ground := Ground.data }, { on := 22, ground := Ground.chain }, { on := 0, ground := Ground.phase }, { on := 1, ground := Ground.phase }, { on := 2, ground := Ground.phase }, { on := 3, ground := Ground.phase }, { on := 4, ground := Ground.phase }, { on := 5, ground := Ground.phase }, { on := 6, ground := Ground.phase }, { on := 7, ground := Ground.phase }, { on := 8, ground := Ground.phase }, { on := 9, ground := Ground.phase }, { on := 10, ground := Ground.phase }, { on := 11, ground := Ground.phase }, { on := 12, ground := Ground.phase }, { on := 13, ground := Ground.phase }, { on := 14, ground := Ground.phase }, { on := 15, ground := Ground.phase }, { on := 16, ground := Ground.phase }, { on := 17, ground := Ground.phase }, { on := 18, ground := Ground.phase }, { on := 19, ground := Ground.phase }, { on := 20, ground := Ground.phase }, { on := 21, ground := Ground.phase }, { on := 22, ground := Ground.phase }, { on := 23, ground := Ground.phase }, { on := 24, ground := Ground.phase }, { on := 25, ground := Ground.phase }], guard := none } : Oper)) (v := ?v21) rfl (by kernel_rfl) (by kernel_rfl) (by kernel_rfl) (fun _ _ _ h => h) (Or.inl ⟨by rfl, ?hy21⟩) (by assumption) ?rest21
            case hy21 => (intro w hSw; (try dsimp only at hSw); go_simp; try with_reducible rfl)
            simp only [Act.put, List.setIfInBounds_toArray, List.set_cons_zero, List.set_cons_succ]
            refine wpAnyH_done (by kernel_rfl) ?_ _
            go_wp2_with fail
            go_ret
            exact ⟨rfl, below_trans hW (HSL.out _ (by assumption))⟩
          · have HE := Lib.hid (F2.out rfl rfl)
            clear F1 F2 F3
            have hEG := fun x y w => eq_guard .neq x y a2 a3 A B w
            have hEQ : ∀ w, (binOp .neq 23 (.agg #[.bool a2, .int .i64 A]) (.agg #[.bool a3, .int .i64 B])).run Tryd.prog w = .ok (.bool true) w := fun w => by rw [neq_agg, HE.out]; rfl
            clear HE
            refine wp_region_held_drew (S := fun w' => w'.cell? ⟨w1.heap.size, 0, none⟩ = some (.bool a2) ∧ w'.cell? ⟨w1.heap.size, 1, none⟩ = some (.int .i64 A) ∧ w'.cell? ⟨w2.heap.size, 0, none⟩ = some (.bool a3) ∧ w'.cell? ⟨w2.heap.size, 1, none⟩ = some (.int .i64 B) ∧ Below wc.heap.size wc w') (by kernel_rfl) ?_ (fun hHeld => ?_)
            · exact HST.out _ (Below.refl _ _).drew
            refine wpAnyH_take (i := 0) (oi := ({ dst := some 116, op := Op.move (Operand.tmp 9), type := 4, pos := "law.go:97", after := #[], guard := none } : Oper)) (v := ?v22) rfl (by kernel_rfl) (by kernel_rfl) (by kernel_rfl) (fun _ _ _ h => h) (Or.inl ⟨by rfl, ?hy22⟩) (by assumption) ?rest22
            case hy22 => (intro w hSw; (try dsimp only at hSw); go_simp; try with_reducible rfl)
            simp only [Act.put, List.setIfInBounds_toArray, List.set_cons_zero, List.set_cons_succ]
            refine wpAnyH_take (i := 1) (oi := ({ dst := some 117, op := Op.move (Operand.tmp 116), type := 4, pos := "law.go:97", after := #[{ on := 0, ground := Ground.data }], guard := none } : Oper)) (v := ?v23) rfl (by kernel_rfl) (by kernel_rfl) (by kernel_rfl) (fun _ _ _ h => h) (Or.inl ⟨by rfl, ?hy23⟩) (by assumption) ?rest23
            case hy23 => (intro w hSw; (try dsimp only at hSw); go_simp; try with_reducible rfl)
            simp only [Act.put, List.setIfInBounds_toArray, List.set_cons_zero, List.set_cons_succ]
            refine wpAnyH_take (i := 2) (oi := ({ dst := some 118, op := Op.load 23 (Operand.tmp 10), type := 23, pos := "law.go:97", after := #[{ on := 1, ground := Ground.guard }], guard := some (1, true) } : Oper)) (v := ?v24) rfl (by kernel_rfl) (by kernel_rfl) (by kernel_rfl) (fun _ _ _ h => h) (Or.inl ⟨by rfl, ?hy24⟩) (by assumption) ?rest24
            case hy24 => (intro w hSw; (try dsimp only at hSw); go_simp; try with_reducible rfl)
            simp only [Act.put, List.setIfInBounds_toArray, List.set_cons_zero, List.set_cons_succ]
            refine wpAnyH_take (i := 3) (oi := ({ dst := some 119, op := Op.load 23 (Operand.tmp 11), type := 23, pos := "law.go:97", after := #[{ on := 1, ground := Ground.guard }], guard := some (1, true) } : Oper)) (v := ?v25) rfl (by kernel_rfl) (by kernel_rfl) (by kernel_rfl) (fun _ _ _ h => h) (Or.inl ⟨by rfl, ?hy25⟩) (by assumption) ?rest25
            case hy25 => (intro w hSw; (try dsimp only at hSw); go_simp; try with_reducible rfl)
            simp only [Act.put, List.setIfInBounds_toArray, List.set_cons_zero, List.set_cons_succ]
            refine wpAnyH_take (i := 10) (oi := ({ dst := some 126, op := Op.load 23 (Operand.tmp 10), type := 23, pos := "law.go:97", after := #[{ on := 1, ground := Ground.guard }], guard := some (1, true) } : Oper)) (v := ?v26) rfl (by kernel_rfl) (by kernel_rfl) (by kernel_rfl) (fun _ _ _ h => h) (Or.inl ⟨by rfl, ?hy26⟩) (by assumption) ?rest26
            case hy26 => (intro w hSw; (try dsimp only at hSw); go_simp; try with_reducible rfl)
            simp only [Act.put, List.setIfInBounds_toArray, List.set_cons_zero, List.set_cons_succ]
            refine wpAnyH_take (i := 11) (oi := ({ dst := some 127, op := Op.load 23 (Operand.tmp 11), type := 23, pos := "law.go:97", after := #[{ on := 1, ground := Ground.guard }], guard := some (1, true) } : Oper)) (v := ?v27) rfl (by kernel_rfl) (by kernel_rfl) (by kernel_rfl) (fun _ _ _ h => h) (Or.inl ⟨by rfl, ?hy27⟩) (by assumption) ?rest27
            case hy27 => (intro w hSw; (try dsimp only at hSw); go_simp; try with_reducible rfl)
            simp only [Act.put, List.setIfInBounds_toArray, List.set_cons_zero, List.set_cons_succ]
            refine wpAnyH_take (i := 12) (oi := ({ dst := some 128, op := Op.binOp BinOp.neq 23 (Operand.tmp 126) (Operand.tmp 127) 23, type := 4, pos := "law.go:97", after := #[{ on := 10, ground := Ground.data }, { on := 11, ground := Ground.data }, { on := 1, ground := Ground.guard }], guard := some (1, true) } : Oper)) (v := ?v28) rfl (by kernel_rfl) (by kernel_rfl) (by kernel_rfl) (fun _ _ _ h => h) (Or.inl ⟨by rfl, ?hy28⟩) (by assumption) ?rest28
            case hy28 => (intro w hSw; (try dsimp only at hSw); go_simp; try with_reducible rfl)
            simp only [Act.put, List.setIfInBounds_toArray, List.set_cons_zero, List.set_cons_succ]
            refine wpAnyH_ready (rs := [4]) (by kernel_rfl) (by simp) ?_
            refine AllReadyH.cons (o := ({ dst := some 120, op := Op.call { callee := Callee.value (Operand.func 18), args := #[Operand.tmp 118, Operand.tmp 119], argTypes := #[23, 23] }, type := 4, pos := "law.go:97", after := #[{ on := 2, ground := Ground.data }, { on := 3, ground := Ground.data }, { on := 1, ground := Ground.chain }, { on := 1, ground := Ground.guard }], guard := some (1, true) } : Oper)) rfl (fun K hK => ?_) AllReadyH.nil
            go_simp
            (go_at_call_of 18 (Value.agg #[.bool a2, .int .i64 A]); refine (K7.out _ (HLD.out _ (by assumption))).mono ?_; rintro e v4 ⟨rfl, hb4⟩)
            refine hK.out _ _ ?_ (fun hHeld => ?_)
            · exact HST2.out _ _ (by assumption) (by assumption)
            clear hK K
            try simp only [Act.put, List.setIfInBounds_toArray, List.set_cons_zero, List.set_cons_succ]
            refine wpAnyH_take (i := 5) (oi := ({ dst := some 121, op := Op.move (Operand.tmp 120), type := 4, pos := "law.go:97", after := #[{ on := 4, ground := Ground.data }, { on := 4, ground := Ground.chain }, { on := 1, ground := Ground.guard }], guard := some (1, true) } : Oper)) (v := ?v29) rfl (by kernel_rfl) (by kernel_rfl) (by kernel_rfl) (fun _ _ _ h => h) (Or.inl ⟨by rfl, ?hy29⟩) (by assumption) ?rest29
            case hy29 => (intro w hSw; (try dsimp only at hSw); go_simp; try with_reducible rfl)
            simp only [Act.put, List.setIfInBounds_toArray, List.set_cons_zero, List.set_cons_succ]
            refine wpAnyH_take (i := 6) (oi := ({ dst := some 122, op := Op.load 23 (Operand.tmp 11), type := 23, pos := "law.go:97", after := #[{ on := 5, ground := Ground.guard }], guard := some (5, false) } : Oper)) (v := ?v30) rfl (by kernel_rfl) (by kernel_rfl) (by kernel_rfl) (fun _ _ _ h => h) (Or.inl ⟨by rfl, ?hy30⟩) (by assumption) ?rest30
            case hy30 => (intro w hSw; (try dsimp only at hSw); go_simp; try with_reducible rfl)
            simp only [Act.put, List.setIfInBounds_toArray, List.set_cons_zero, List.set_cons_succ]
            refine wpAnyH_take (i := 7) (oi := ({ dst := some 123, op := Op.load 23 (Operand.tmp 10), type := 23, pos := "law.go:97", after := #[{ on := 5, ground := Ground.guard }], guard := some (5, false) } : Oper)) (v := ?v31) rfl (by kernel_rfl) (by kernel_rfl) (by kernel_rfl) (fun _ _ _ h => h) (Or.inl ⟨by rfl, ?hy31⟩) (by assumption) ?rest31
            case hy31 => (intro w hSw; (try dsimp only at hSw); go_simp; try with_reducible rfl)
            simp only [Act.put, List.setIfInBounds_toArray, List.set_cons_zero, List.set_cons_succ]
            refine wpAnyH_ready (rs := [8]) (by kernel_rfl) (by simp) ?_
            refine AllReadyH.cons (o := ({ dst := some 124, op := Op.call { callee := Callee.value (Operand.func 18), args := #[Operand.tmp 122, Operand.tmp 123], argTypes := #[23, 23] }, type := 4, pos := "law.go:97", after := #[{ on := 6, ground := Ground.data }, { on := 7, ground := Ground.data }, { on := 5, ground := Ground.chain }, { on := 5, ground := Ground.guard }], guard := some (5, false) } : Oper)) rfl (fun K hK => ?_) AllReadyH.nil
            go_simp
            (go_at_call_of 18 (Value.agg #[.bool a3, .int .i64 B]); refine (K8.out _ (HLD.out _ (by assumption))).mono ?_; rintro e v8 ⟨rfl, hb8⟩)
            refine hK.out _ _ ?_ (fun hHeld => ?_)
            · exact HST2.out _ _ (by assumption) (by assumption)
            clear hK K
            try simp only [Act.put, List.setIfInBounds_toArray, List.set_cons_zero, List.set_cons_succ]
            refine wpAnyH_take (i := 9) (oi := ({ dst := some 125, op := Op.pick (Operand.tmp 121) (Operand.const (Value.bool true)) (Operand.tmp 124), type := 4, pos := "law.go:97", after := #[{ on := 5, ground := Ground.data }, { on := 8, ground := Ground.data }, { on := 1, ground := Ground.guard }], guard := some (1, true) } : Oper)) (v := ?v32) rfl (by kernel_rfl) (by kernel_rfl) (by kernel_rfl) (fun _ _ _ h => h) (Or.inl ⟨by rfl, ?hy32⟩) (by assumption) ?rest32
            case hy32 => (intro w hSw; (try dsimp only at hSw); go_simp; try with_reducible rfl)
            simp only [Act.put, List.setIfInBounds_toArray, List.set_cons_zero, List.set_cons_succ]
            refine wpAnyH_take (i := 13) (oi := ({ dst := some 129, op := Op.binOp BinOp.eql 4 (Operand.tmp 125) (Operand.tmp 128) 4, type := 4, pos := "law.go:97", after := #[{ on := 9, ground := Ground.data }, { on := 12, ground := Ground.data }, { on := 1, ground := Ground.guard }], guard := some (1, true) } : Oper)) (v := ?v33) rfl (by kernel_rfl) (by kernel_rfl) (by kernel_rfl) (fun _ _ _ h => h) (Or.inl ⟨by rfl, ?hy33⟩) (by assumption) ?rest33
            case hy33 => (intro w hSw; (try dsimp only at hSw); go_simp; try with_reducible rfl)
            simp only [Act.put, List.setIfInBounds_toArray, List.set_cons_zero, List.set_cons_succ]
            refine wpAnyH_take (i := 14) (oi := ({ dst := some 130, op := Op.pick (Operand.tmp 117) (Operand.tmp 129) (Operand.const (Value.bool false)), type := 4, pos := "law.go:97", after := #[{ on := 1, ground := Ground.data }, { on := 13, ground := Ground.data }], guard := none } : Oper)) (v := ?v34) rfl (by kernel_rfl) (by kernel_rfl) (by kernel_rfl) (fun _ _ _ h => h) (Or.inl ⟨by rfl, ?hy34⟩) (by assumption) ?rest34
            case hy34 => (intro w hSw; (try dsimp only at hSw); go_simp; try with_reducible rfl)
            simp only [Act.put, List.setIfInBounds_toArray, List.set_cons_zero, List.set_cons_succ]
            refine wpAnyH_take (i := 15) (oi := ({ dst := some 131, op := Op.move (Operand.tmp 130), type := 4, pos := "law.go:97", after := #[{ on := 14, ground := Ground.data }, { on := 8, ground := Ground.chain }], guard := none } : Oper)) (v := ?v35) rfl (by kernel_rfl) (by kernel_rfl) (by kernel_rfl) (fun _ _ _ h => h) (Or.inl ⟨by rfl, ?hy35⟩) (by assumption) ?rest35
            case hy35 => (intro w hSw; (try dsimp only at hSw); go_simp; try with_reducible rfl)
            simp only [Act.put, List.setIfInBounds_toArray, List.set_cons_zero, List.set_cons_succ]
            refine wpAnyH_take (i := 16) (oi := ({ dst := some 132, op := Op.load 23 (Operand.tmp 10), type := 23, pos := "law.go:97", after := #[{ on := 15, ground := Ground.guard }], guard := some (15, true) } : Oper)) (v := ?v36) rfl (by kernel_rfl) (by kernel_rfl) (by kernel_rfl) (fun _ _ _ h => h) (Or.inl ⟨by rfl, ?hy36⟩) (by assumption) ?rest36
            case hy36 => (intro w hSw; (try dsimp only at hSw); go_simp; try with_reducible rfl)
            simp only [Act.put, List.setIfInBounds_toArray, List.set_cons_zero, List.set_cons_succ]
            refine wpAnyH_take (i := 17) (oi := ({ dst := some 133, op := Op.load 23 (Operand.tmp 11), type := 23, pos := "law.go:97", after := #[{ on := 15, ground := Ground.guard }], guard := some (15, true) } : Oper)) (v := ?v37) rfl (by kernel_rfl) (by kernel_rfl) (by kernel_rfl) (fun _ _ _ h => h) (Or.inl ⟨by rfl, ?hy37⟩) (by assumption) ?rest37
            case hy37 => (intro w hSw; (try dsimp only at hSw); go_simp; try with_reducible rfl)
            simp only [Act.put, List.setIfInBounds_toArray, List.set_cons_zero, List.set_cons_succ]
            refine wpAnyH_ready (rs := [18]) (by kernel_rfl) (by simp) ?_
            refine AllReadyH.cons (o := ({ dst := some 134, op := Op.call { callee := Callee.value (Operand.func 18), args := #[Operand.tmp 132, Operand.tmp 133], argTypes := #[23, 23] }, type := 4, pos := "law.go:97", after := #[{ on := 16, ground := Ground.data }, { on := 17, ground := Ground.data }, { on := 15, ground := Ground.chain }, { on := 15, ground := Ground.guard }], guard := some (15, true) } : Oper)) rfl (fun K hK => ?_) AllReadyH.nil
            go_simp
            (go_at_call_of 18 (Value.agg #[.bool a2, .int .i64 A]); refine (K7.out _ (HLD.out _ (by assumption))).mono ?_; rintro e v18 ⟨rfl, hb18⟩)
            refine hK.out _ _ ?_ (fun hHeld => ?_)
            · exact HST2.out _ _ (by assumption) (by assumption)
            clear hK K
            try simp only [Act.put, List.setIfInBounds_toArray, List.set_cons_zero, List.set_cons_succ]
            refine wpAnyH_take (i := 19) (oi := ({ dst := some 135, op := Op.move (Operand.tmp 134), type := 4, pos := "law.go:97", after := #[{ on := 18, ground := Ground.data }, { on := 18, ground := Ground.chain }, { on := 15, ground := Ground.guard }], guard := some (15, true) } : Oper)) (v := ?v38) rfl (by kernel_rfl) (by kernel_rfl) (by kernel_rfl) (fun _ _ _ h => h) (Or.inl ⟨by rfl, ?hy38⟩) (by assumption) ?rest38
            case hy38 => (intro w hSw; (try dsimp only at hSw); go_simp; try with_reducible rfl)
            simp only [Act.put, List.setIfInBounds_toArray, List.set_cons_zero, List.set_cons_succ]
            refine wpAnyH_take (i := 20) (oi := ({ dst := some 136, op := Op.load 23 (Operand.tmp 11), type := 23, pos := "law.go:97", after := #[{ on := 19, ground := Ground.guard }], guard := some (19, true) } : Oper)) (v := undef) rfl (by kernel_rfl) (by kernel_rfl) (by kernel_rfl) (fun _ _ _ h => h) (Or.inr ⟨by rfl, rfl⟩) (by assumption) ?_
            simp only [Act.put, List.setIfInBounds_toArray, List.set_cons_zero, List.set_cons_succ]
            refine wpAnyH_take (i := 21) (oi := ({ dst := some 137, op := Op.load 23 (Operand.tmp 10), type := 23, pos := "law.go:97", after := #[{ on := 19, ground := Ground.guard }], guard := some (19, true) } : Oper)) (v := undef) rfl (by kernel_rfl) (by kernel_rfl) (by kernel_rfl) (fun _ _ _ h => h) (Or.inr ⟨by rfl, rfl⟩) (by assumption) ?_
            simp only [Act.put, List.setIfInBounds_toArray, List.set_cons_zero, List.set_cons_succ]
            refine wpAnyH_take (i := 22) (oi := ({ dst := some 138, op := Op.call { callee := Callee.value (Operand.func 18), args := #[Operand.tmp 136, Operand.tmp 137], argTypes := #[23, 23] }, type := 4, pos := "law.go:97", after := #[{ on := 20, ground := Ground.data }, { on := 21, ground := Ground.data }, { on := 19, ground := Ground.chain }, { on := 19, ground := Ground.guard }], guard := some (19, true) } : Oper)) (v := undef) rfl (by kernel_rfl) (by kernel_rfl) (by kernel_rfl) (fun _ _ _ h => h) (Or.inr ⟨by rfl, rfl⟩) (by assumption) ?_
            simp only [Act.put, List.setIfInBounds_toArray, List.set_cons_zero, List.set_cons_succ]
            refine wpAnyH_take (i := 23) (oi := ({ dst := some 139, op := Op.pick (Operand.tmp 135) (Operand.tmp 138) (Operand.const (Value.bool false)), type := 4, pos := "law.go:97", after := #[{ on := 19, ground := Ground.data }, { on := 22, ground := Ground.data }, { on := 15, ground := Ground.guard }], guard := some (15, true) } : Oper)) (v := ?v39) rfl (by kernel_rfl) (by kernel_rfl) (by kernel_rfl) (fun _ _ _ h => h) (Or.inl ⟨by rfl, ?hy39⟩) (by assumption) ?rest39
            case hy39 => (intro w hSw; (try dsimp only at hSw); go_simp; try with_reducible rfl)
            simp only [Act.put, List.setIfInBounds_toArray, List.set_cons_zero, List.set_cons_succ]
            refine wpAnyH_take (i := 24) (oi := ({ dst := some 140, op := Op.unOp UnOp.not 4 (Operand.tmp 139), type := 4, pos := "law.go:97", after := #[{ on := 23, ground := Ground.data }, { on := 15, ground := Ground.guard }], guard := some (15, true) } : Oper)) (v := ?v40) rfl (by kernel_rfl) (by kernel_rfl) (by kernel_rfl) (fun _ _ _ h => h) (Or.inl ⟨by rfl, ?hy40⟩) (by assumption) ?rest40
            case hy40 => (intro w hSw; (try dsimp only at hSw); go_simp; try with_reducible rfl)
            simp only [Act.put, List.setIfInBounds_toArray, List.set_cons_zero, List.set_cons_succ]
            refine wpAnyH_take (i := 25) (oi := ({ dst := some 141, op := Op.pick (Operand.tmp 131) (Operand.tmp 140) (Operand.const (Value.bool false)), type := 4, pos := "law.go:97", after := #[{ on := 15, ground := Ground.data }, { on := 24, ground := Ground.data }], guard := none } : Oper)) (v := ?v41) rfl (by kernel_rfl) (by kernel_rfl) (by kernel_rfl) (fun _ _ _ h => h) (Or.inl ⟨by rfl, ?hy41⟩) (by assumption) ?rest41
            case hy41 => (intro w hSw; (try dsimp only at hSw); go_simp; try with_reducible rfl)
            simp only [Act.put, List.setIfInBounds_toArray, List.set_cons_zero, List.set_cons_succ]
            refine wpAnyH_take (i := 26) (oi := ({ dst := some 8, op := Op.assign (Operand.tmp 141), type := 4, pos := "law.go:97", after := #[{ on := 25, ground := Ground.data }, { on := 22, ground := Ground.chain }, { on := 0, ground := Ground.phase }, { on := 1, ground := Ground.phase }, { on := 2, ground := Ground.phase }, { on := 3, ground := Ground.phase }, { on := 4, ground := Ground.phase }, { on := 5, ground := Ground.phase }, { on := 6, ground := Ground.phase }, { on := 7, ground := Ground.phase }, { on := 8, ground := Ground.phase }, { on := 9, ground := Ground.phase }, { on := 10, ground := Ground.phase }, { on := 11, ground := Ground.phase }, { on := 12, ground := Ground.phase }, { on := 13, ground := Ground.phase }, { on := 14, ground := Ground.phase }, { on := 15, ground := Ground.phase }, { on := 16, ground := Ground.phase }, { on := 17, ground := Ground.phase }, { on := 18, ground := Ground.phase }, { on := 19, ground := Ground.phase }, { on := 20, ground := Ground.phase }, { on := 21, ground := Ground.phase }, { on := 22, ground := Ground.phase }, { on := 23, ground := Ground.phase }, { on := 24, ground := Ground.phase }, { on := 25, ground := Ground.phase }], guard := none } : Oper)) (v := ?v42) rfl (by kernel_rfl) (by kernel_rfl) (by kernel_rfl) (fun _ _ _ h => h) (Or.inl ⟨by rfl, ?hy42⟩) (by assumption) ?rest42
            case hy42 => (intro w hSw; (try dsimp only at hSw); go_simp; try with_reducible rfl)
            simp only [Act.put, List.setIfInBounds_toArray, List.set_cons_zero, List.set_cons_succ]
            refine wpAnyH_done (by kernel_rfl) ?_ _
            go_wp2_with fail
            go_ret
            exact ⟨rfl, below_trans hW (HSL.out _ (by assumption))⟩
        · obtain ⟨rfl, hE⟩ := F1.out rfl
          have HE := Lib.hid hE
          clear hE F1 F2 F3
          have hEG := fun x y w => eq_guard .neq x y a2 a3 A B w
          have hEQ : ∀ w, (binOp .neq 23 (.agg #[.bool a2, .int .i64 A]) (.agg #[.bool a3, .int .i64 B])).run Tryd.prog w = .ok (.bool true) w := fun w => by rw [neq_agg, HE.out]; rfl
          clear HE
          refine wp_region_held_drew (S := fun w' => w'.cell? ⟨w1.heap.size, 0, none⟩ = some (.bool a2) ∧ w'.cell? ⟨w1.heap.size, 1, none⟩ = some (.int .i64 A) ∧ w'.cell? ⟨w2.heap.size, 0, none⟩ = some (.bool a3) ∧ w'.cell? ⟨w2.heap.size, 1, none⟩ = some (.int .i64 B) ∧ Below wc.heap.size wc w') (by kernel_rfl) ?_ (fun hHeld => ?_)
          · exact HST.out _ (Below.refl _ _).drew
          refine wpAnyH_take (i := 0) (oi := ({ dst := some 116, op := Op.move (Operand.tmp 9), type := 4, pos := "law.go:97", after := #[], guard := none } : Oper)) (v := ?v43) rfl (by kernel_rfl) (by kernel_rfl) (by kernel_rfl) (fun _ _ _ h => h) (Or.inl ⟨by rfl, ?hy43⟩) (by assumption) ?rest43
          case hy43 => (intro w hSw; (try dsimp only at hSw); go_simp; try with_reducible rfl)
          simp only [Act.put, List.setIfInBounds_toArray, List.set_cons_zero, List.set_cons_succ]
          refine wpAnyH_take (i := 1) (oi := ({ dst := some 117, op := Op.move (Operand.tmp 116), type := 4, pos := "law.go:97", after := #[{ on := 0, ground := Ground.data }], guard := none } : Oper)) (v := ?v44) rfl (by kernel_rfl) (by kernel_rfl) (by kernel_rfl) (fun _ _ _ h => h) (Or.inl ⟨by rfl, ?hy44⟩) (by assumption) ?rest44
          case hy44 => (intro w hSw; (try dsimp only at hSw); go_simp; try with_reducible rfl)
          simp only [Act.put, List.setIfInBounds_toArray, List.set_cons_zero, List.set_cons_succ]
          refine wpAnyH_take (i := 2) (oi := ({ dst := some 118, op := Op.load 23 (Operand.tmp 10), type := 23, pos := "law.go:97", after := #[{ on := 1, ground := Ground.guard }], guard := some (1, true) } : Oper)) (v := ?v45) rfl (by kernel_rfl) (by kernel_rfl) (by kernel_rfl) (fun _ _ _ h => h) (Or.inl ⟨by rfl, ?hy45⟩) (by assumption) ?rest45
          case hy45 => (intro w hSw; (try dsimp only at hSw); go_simp; try with_reducible rfl)
          simp only [Act.put, List.setIfInBounds_toArray, List.set_cons_zero, List.set_cons_succ]
          refine wpAnyH_take (i := 3) (oi := ({ dst := some 119, op := Op.load 23 (Operand.tmp 11), type := 23, pos := "law.go:97", after := #[{ on := 1, ground := Ground.guard }], guard := some (1, true) } : Oper)) (v := ?v46) rfl (by kernel_rfl) (by kernel_rfl) (by kernel_rfl) (fun _ _ _ h => h) (Or.inl ⟨by rfl, ?hy46⟩) (by assumption) ?rest46
          case hy46 => (intro w hSw; (try dsimp only at hSw); go_simp; try with_reducible rfl)
          simp only [Act.put, List.setIfInBounds_toArray, List.set_cons_zero, List.set_cons_succ]
          refine wpAnyH_take (i := 10) (oi := ({ dst := some 126, op := Op.load 23 (Operand.tmp 10), type := 23, pos := "law.go:97", after := #[{ on := 1, ground := Ground.guard }], guard := some (1, true) } : Oper)) (v := ?v47) rfl (by kernel_rfl) (by kernel_rfl) (by kernel_rfl) (fun _ _ _ h => h) (Or.inl ⟨by rfl, ?hy47⟩) (by assumption) ?rest47
          case hy47 => (intro w hSw; (try dsimp only at hSw); go_simp; try with_reducible rfl)
          simp only [Act.put, List.setIfInBounds_toArray, List.set_cons_zero, List.set_cons_succ]
          refine wpAnyH_take (i := 11) (oi := ({ dst := some 127, op := Op.load 23 (Operand.tmp 11), type := 23, pos := "law.go:97", after := #[{ on := 1, ground := Ground.guard }], guard := some (1, true) } : Oper)) (v := ?v48) rfl (by kernel_rfl) (by kernel_rfl) (by kernel_rfl) (fun _ _ _ h => h) (Or.inl ⟨by rfl, ?hy48⟩) (by assumption) ?rest48
          case hy48 => (intro w hSw; (try dsimp only at hSw); go_simp; try with_reducible rfl)
          simp only [Act.put, List.setIfInBounds_toArray, List.set_cons_zero, List.set_cons_succ]
          refine wpAnyH_take (i := 12) (oi := ({ dst := some 128, op := Op.binOp BinOp.neq 23 (Operand.tmp 126) (Operand.tmp 127) 23, type := 4, pos := "law.go:97", after := #[{ on := 10, ground := Ground.data }, { on := 11, ground := Ground.data }, { on := 1, ground := Ground.guard }], guard := some (1, true) } : Oper)) (v := ?v49) rfl (by kernel_rfl) (by kernel_rfl) (by kernel_rfl) (fun _ _ _ h => h) (Or.inl ⟨by rfl, ?hy49⟩) (by assumption) ?rest49
          case hy49 => (intro w hSw; (try dsimp only at hSw); go_simp; try with_reducible rfl)
          simp only [Act.put, List.setIfInBounds_toArray, List.set_cons_zero, List.set_cons_succ]
          refine wpAnyH_ready (rs := [4]) (by kernel_rfl) (by simp) ?_
          refine AllReadyH.cons (o := ({ dst := some 120, op := Op.call { callee := Callee.value (Operand.func 18), args := #[Operand.tmp 118, Operand.tmp 119], argTypes := #[23, 23] }, type := 4, pos := "law.go:97", after := #[{ on := 2, ground := Ground.data }, { on := 3, ground := Ground.data }, { on := 1, ground := Ground.chain }, { on := 1, ground := Ground.guard }], guard := some (1, true) } : Oper)) rfl (fun K hK => ?_) AllReadyH.nil
          go_simp
          (go_at_call_of 18 (Value.agg #[.bool a2, .int .i64 A]); refine (K7.out _ (HLD.out _ (by assumption))).mono ?_; rintro e v4 ⟨rfl, hb4⟩)
          refine hK.out _ _ ?_ (fun hHeld => ?_)
          · exact HST2.out _ _ (by assumption) (by assumption)
          clear hK K
          try simp only [Act.put, List.setIfInBounds_toArray, List.set_cons_zero, List.set_cons_succ]
          refine wpAnyH_take (i := 5) (oi := ({ dst := some 121, op := Op.move (Operand.tmp 120), type := 4, pos := "law.go:97", after := #[{ on := 4, ground := Ground.data }, { on := 4, ground := Ground.chain }, { on := 1, ground := Ground.guard }], guard := some (1, true) } : Oper)) (v := ?v50) rfl (by kernel_rfl) (by kernel_rfl) (by kernel_rfl) (fun _ _ _ h => h) (Or.inl ⟨by rfl, ?hy50⟩) (by assumption) ?rest50
          case hy50 => (intro w hSw; (try dsimp only at hSw); go_simp; try with_reducible rfl)
          simp only [Act.put, List.setIfInBounds_toArray, List.set_cons_zero, List.set_cons_succ]
          refine wpAnyH_take (i := 6) (oi := ({ dst := some 122, op := Op.load 23 (Operand.tmp 11), type := 23, pos := "law.go:97", after := #[{ on := 5, ground := Ground.guard }], guard := some (5, false) } : Oper)) (v := undef) rfl (by kernel_rfl) (by kernel_rfl) (by kernel_rfl) (fun _ _ _ h => h) (Or.inr ⟨by rfl, rfl⟩) (by assumption) ?_
          simp only [Act.put, List.setIfInBounds_toArray, List.set_cons_zero, List.set_cons_succ]
          refine wpAnyH_take (i := 7) (oi := ({ dst := some 123, op := Op.load 23 (Operand.tmp 10), type := 23, pos := "law.go:97", after := #[{ on := 5, ground := Ground.guard }], guard := some (5, false) } : Oper)) (v := undef) rfl (by kernel_rfl) (by kernel_rfl) (by kernel_rfl) (fun _ _ _ h => h) (Or.inr ⟨by rfl, rfl⟩) (by assumption) ?_
          simp only [Act.put, List.setIfInBounds_toArray, List.set_cons_zero, List.set_cons_succ]
          refine wpAnyH_take (i := 8) (oi := ({ dst := some 124, op := Op.call { callee := Callee.value (Operand.func 18), args := #[Operand.tmp 122, Operand.tmp 123], argTypes := #[23, 23] }, type := 4, pos := "law.go:97", after := #[{ on := 6, ground := Ground.data }, { on := 7, ground := Ground.data }, { on := 5, ground := Ground.chain }, { on := 5, ground := Ground.guard }], guard := some (5, false) } : Oper)) (v := undef) rfl (by kernel_rfl) (by kernel_rfl) (by kernel_rfl) (fun _ _ _ h => h) (Or.inr ⟨by rfl, rfl⟩) (by assumption) ?_
          simp only [Act.put, List.setIfInBounds_toArray, List.set_cons_zero, List.set_cons_succ]
          refine wpAnyH_take (i := 9) (oi := ({ dst := some 125, op := Op.pick (Operand.tmp 121) (Operand.const (Value.bool true)) (Operand.tmp 124), type := 4, pos := "law.go:97", after := #[{ on := 5, ground := Ground.data }, { on := 8, ground := Ground.data }, { on := 1, ground := Ground.guard }], guard := some (1, true) } : Oper)) (v := ?v51) rfl (by kernel_rfl) (by kernel_rfl) (by kernel_rfl) (fun _ _ _ h => h) (Or.inl ⟨by rfl, ?hy51⟩) (by assumption) ?rest51
          case hy51 => (intro w hSw; (try dsimp only at hSw); go_simp; try with_reducible rfl)
          simp only [Act.put, List.setIfInBounds_toArray, List.set_cons_zero, List.set_cons_succ]
          refine wpAnyH_take (i := 13) (oi := ({ dst := some 129, op := Op.binOp BinOp.eql 4 (Operand.tmp 125) (Operand.tmp 128) 4, type := 4, pos := "law.go:97", after := #[{ on := 9, ground := Ground.data }, { on := 12, ground := Ground.data }, { on := 1, ground := Ground.guard }], guard := some (1, true) } : Oper)) (v := ?v52) rfl (by kernel_rfl) (by kernel_rfl) (by kernel_rfl) (fun _ _ _ h => h) (Or.inl ⟨by rfl, ?hy52⟩) (by assumption) ?rest52
          case hy52 => (intro w hSw; (try dsimp only at hSw); go_simp; try with_reducible rfl)
          simp only [Act.put, List.setIfInBounds_toArray, List.set_cons_zero, List.set_cons_succ]
          refine wpAnyH_take (i := 14) (oi := ({ dst := some 130, op := Op.pick (Operand.tmp 117) (Operand.tmp 129) (Operand.const (Value.bool false)), type := 4, pos := "law.go:97", after := #[{ on := 1, ground := Ground.data }, { on := 13, ground := Ground.data }], guard := none } : Oper)) (v := ?v53) rfl (by kernel_rfl) (by kernel_rfl) (by kernel_rfl) (fun _ _ _ h => h) (Or.inl ⟨by rfl, ?hy53⟩) (by assumption) ?rest53
          case hy53 => (intro w hSw; (try dsimp only at hSw); go_simp; try with_reducible rfl)
          simp only [Act.put, List.setIfInBounds_toArray, List.set_cons_zero, List.set_cons_succ]
          refine wpAnyH_take (i := 15) (oi := ({ dst := some 131, op := Op.move (Operand.tmp 130), type := 4, pos := "law.go:97", after := #[{ on := 14, ground := Ground.data }, { on := 8, ground := Ground.chain }], guard := none } : Oper)) (v := ?v54) rfl (by kernel_rfl) (by kernel_rfl) (by kernel_rfl) (fun _ _ _ h => h) (Or.inl ⟨by rfl, ?hy54⟩) (by assumption) ?rest54
          case hy54 => (intro w hSw; (try dsimp only at hSw); go_simp; try with_reducible rfl)
          simp only [Act.put, List.setIfInBounds_toArray, List.set_cons_zero, List.set_cons_succ]
          refine wpAnyH_take (i := 16) (oi := ({ dst := some 132, op := Op.load 23 (Operand.tmp 10), type := 23, pos := "law.go:97", after := #[{ on := 15, ground := Ground.guard }], guard := some (15, true) } : Oper)) (v := ?v55) rfl (by kernel_rfl) (by kernel_rfl) (by kernel_rfl) (fun _ _ _ h => h) (Or.inl ⟨by rfl, ?hy55⟩) (by assumption) ?rest55
          case hy55 => (intro w hSw; (try dsimp only at hSw); go_simp; try with_reducible rfl)
          simp only [Act.put, List.setIfInBounds_toArray, List.set_cons_zero, List.set_cons_succ]
          refine wpAnyH_take (i := 17) (oi := ({ dst := some 133, op := Op.load 23 (Operand.tmp 11), type := 23, pos := "law.go:97", after := #[{ on := 15, ground := Ground.guard }], guard := some (15, true) } : Oper)) (v := ?v56) rfl (by kernel_rfl) (by kernel_rfl) (by kernel_rfl) (fun _ _ _ h => h) (Or.inl ⟨by rfl, ?hy56⟩) (by assumption) ?rest56
          case hy56 => (intro w hSw; (try dsimp only at hSw); go_simp; try with_reducible rfl)
          simp only [Act.put, List.setIfInBounds_toArray, List.set_cons_zero, List.set_cons_succ]
          refine wpAnyH_ready (rs := [18]) (by kernel_rfl) (by simp) ?_
          refine AllReadyH.cons (o := ({ dst := some 134, op := Op.call { callee := Callee.value (Operand.func 18), args := #[Operand.tmp 132, Operand.tmp 133], argTypes := #[23, 23] }, type := 4, pos := "law.go:97", after := #[{ on := 16, ground := Ground.data }, { on := 17, ground := Ground.data }, { on := 15, ground := Ground.chain }, { on := 15, ground := Ground.guard }], guard := some (15, true) } : Oper)) rfl (fun K hK => ?_) AllReadyH.nil
          go_simp
          (go_at_call_of 18 (Value.agg #[.bool a2, .int .i64 A]); refine (K7.out _ (HLD.out _ (by assumption))).mono ?_; rintro e v18 ⟨rfl, hb18⟩)
          refine hK.out _ _ ?_ (fun hHeld => ?_)
          · exact HST2.out _ _ (by assumption) (by assumption)
          clear hK K
          try simp only [Act.put, List.setIfInBounds_toArray, List.set_cons_zero, List.set_cons_succ]
          refine wpAnyH_take (i := 19) (oi := ({ dst := some 135, op := Op.move (Operand.tmp 134), type := 4, pos := "law.go:97", after := #[{ on := 18, ground := Ground.data }, { on := 18, ground := Ground.chain }, { on := 15, ground := Ground.guard }], guard := some (15, true) } : Oper)) (v := ?v57) rfl (by kernel_rfl) (by kernel_rfl) (by kernel_rfl) (fun _ _ _ h => h) (Or.inl ⟨by rfl, ?hy57⟩) (by assumption) ?rest57
          case hy57 => (intro w hSw; (try dsimp only at hSw); go_simp; try with_reducible rfl)
          simp only [Act.put, List.setIfInBounds_toArray, List.set_cons_zero, List.set_cons_succ]
          refine wpAnyH_take (i := 20) (oi := ({ dst := some 136, op := Op.load 23 (Operand.tmp 11), type := 23, pos := "law.go:97", after := #[{ on := 19, ground := Ground.guard }], guard := some (19, true) } : Oper)) (v := ?v58) rfl (by kernel_rfl) (by kernel_rfl) (by kernel_rfl) (fun _ _ _ h => h) (Or.inl ⟨by rfl, ?hy58⟩) (by assumption) ?rest58
          case hy58 => (intro w hSw; (try dsimp only at hSw); go_simp; try with_reducible rfl)
          simp only [Act.put, List.setIfInBounds_toArray, List.set_cons_zero, List.set_cons_succ]
          refine wpAnyH_take (i := 21) (oi := ({ dst := some 137, op := Op.load 23 (Operand.tmp 10), type := 23, pos := "law.go:97", after := #[{ on := 19, ground := Ground.guard }], guard := some (19, true) } : Oper)) (v := ?v59) rfl (by kernel_rfl) (by kernel_rfl) (by kernel_rfl) (fun _ _ _ h => h) (Or.inl ⟨by rfl, ?hy59⟩) (by assumption) ?rest59
          case hy59 => (intro w hSw; (try dsimp only at hSw); go_simp; try with_reducible rfl)
          simp only [Act.put, List.setIfInBounds_toArray, List.set_cons_zero, List.set_cons_succ]
          refine wpAnyH_ready (rs := [22]) (by kernel_rfl) (by simp) ?_
          refine AllReadyH.cons (o := ({ dst := some 138, op := Op.call { callee := Callee.value (Operand.func 18), args := #[Operand.tmp 136, Operand.tmp 137], argTypes := #[23, 23] }, type := 4, pos := "law.go:97", after := #[{ on := 20, ground := Ground.data }, { on := 21, ground := Ground.data }, { on := 19, ground := Ground.chain }, { on := 19, ground := Ground.guard }], guard := some (19, true) } : Oper)) rfl (fun K hK => ?_) AllReadyH.nil
          go_simp
          (go_at_call_of 18 (Value.agg #[.bool a3, .int .i64 B]); refine (K8.out _ (HLD.out _ (by assumption))).mono ?_; rintro e v22 ⟨rfl, hb22⟩)
          refine hK.out _ _ ?_ (fun hHeld => ?_)
          · exact HST2.out _ _ (by assumption) (by assumption)
          clear hK K
          try simp only [Act.put, List.setIfInBounds_toArray, List.set_cons_zero, List.set_cons_succ]
          refine wpAnyH_take (i := 23) (oi := ({ dst := some 139, op := Op.pick (Operand.tmp 135) (Operand.tmp 138) (Operand.const (Value.bool false)), type := 4, pos := "law.go:97", after := #[{ on := 19, ground := Ground.data }, { on := 22, ground := Ground.data }, { on := 15, ground := Ground.guard }], guard := some (15, true) } : Oper)) (v := ?v60) rfl (by kernel_rfl) (by kernel_rfl) (by kernel_rfl) (fun _ _ _ h => h) (Or.inl ⟨by rfl, ?hy60⟩) (by assumption) ?rest60
          case hy60 => (intro w hSw; (try dsimp only at hSw); go_simp; try with_reducible rfl)
          simp only [Act.put, List.setIfInBounds_toArray, List.set_cons_zero, List.set_cons_succ]
          refine wpAnyH_take (i := 24) (oi := ({ dst := some 140, op := Op.unOp UnOp.not 4 (Operand.tmp 139), type := 4, pos := "law.go:97", after := #[{ on := 23, ground := Ground.data }, { on := 15, ground := Ground.guard }], guard := some (15, true) } : Oper)) (v := ?v61) rfl (by kernel_rfl) (by kernel_rfl) (by kernel_rfl) (fun _ _ _ h => h) (Or.inl ⟨by rfl, ?hy61⟩) (by assumption) ?rest61
          case hy61 => (intro w hSw; (try dsimp only at hSw); go_simp; try with_reducible rfl)
          simp only [Act.put, List.setIfInBounds_toArray, List.set_cons_zero, List.set_cons_succ]
          refine wpAnyH_take (i := 25) (oi := ({ dst := some 141, op := Op.pick (Operand.tmp 131) (Operand.tmp 140) (Operand.const (Value.bool false)), type := 4, pos := "law.go:97", after := #[{ on := 15, ground := Ground.data }, { on := 24, ground := Ground.data }], guard := none } : Oper)) (v := ?v62) rfl (by kernel_rfl) (by kernel_rfl) (by kernel_rfl) (fun _ _ _ h => h) (Or.inl ⟨by rfl, ?hy62⟩) (by assumption) ?rest62
          case hy62 => (intro w hSw; (try dsimp only at hSw); go_simp; try with_reducible rfl)
          simp only [Act.put, List.setIfInBounds_toArray, List.set_cons_zero, List.set_cons_succ]
          refine wpAnyH_take (i := 26) (oi := ({ dst := some 8, op := Op.assign (Operand.tmp 141), type := 4, pos := "law.go:97", after := #[{ on := 25, ground := Ground.data }, { on := 22, ground := Ground.chain }, { on := 0, ground := Ground.phase }, { on := 1, ground := Ground.phase }, { on := 2, ground := Ground.phase }, { on := 3, ground := Ground.phase }, { on := 4, ground := Ground.phase }, { on := 5, ground := Ground.phase }, { on := 6, ground := Ground.phase }, { on := 7, ground := Ground.phase }, { on := 8, ground := Ground.phase }, { on := 9, ground := Ground.phase }, { on := 10, ground := Ground.phase }, { on := 11, ground := Ground.phase }, { on := 12, ground := Ground.phase }, { on := 13, ground := Ground.phase }, { on := 14, ground := Ground.phase }, { on := 15, ground := Ground.phase }, { on := 16, ground := Ground.phase }, { on := 17, ground := Ground.phase }, { on := 18, ground := Ground.phase }, { on := 19, ground := Ground.phase }, { on := 20, ground := Ground.phase }, { on := 21, ground := Ground.phase }, { on := 22, ground := Ground.phase }, { on := 23, ground := Ground.phase }, { on := 24, ground := Ground.phase }, { on := 25, ground := Ground.phase }], guard := none } : Oper)) (v := ?v63) rfl (by kernel_rfl) (by kernel_rfl) (by kernel_rfl) (fun _ _ _ h => h) (Or.inl ⟨by rfl, ?hy63⟩) (by assumption) ?rest63
          case hy63 => (intro w hSw; (try dsimp only at hSw); go_simp; try with_reducible rfl)
          simp only [Act.put, List.setIfInBounds_toArray, List.set_cons_zero, List.set_cons_succ]
          refine wpAnyH_done (by kernel_rfl) ?_ _
          go_wp2_with fail
          go_ret
          exact ⟨rfl, below_trans hW (HSL.out _ (by assumption))⟩

end Go.Proofs.YtnngkpcikmbnmaaDoor

/-
  The law CliqueAges.
-/
import Derived.Test.YtplnmkeopdmanaaCliAliveL
import Derived.Deep.DeepCutAuto
namespace Go.Proofs.Ytplnmkeopdmanaa
open Go.RowKit

/-- Cells of numbers from a place on. -/
def Cl (W : World) (ad : Addr) (l : List Int) : Prop := ∀ j x, l[j]? = some x → W.cell? (ad.add j) = some (.int .i64 x)
theorem Cl.on {W W' : World} {ad : Addr} {l : List Int} (h : Cl W ad l) (hb : Below W.heap.size W W') : Cl W' ad l := fun j x hx => by
  have h0 := World.block_lt_of_cell? W _ (h j x hx)
  exact (hb.cell h0).trans (h j x hx)
theorem Cl.row {W : World} {ad : Addr} {l : List Int} (h : Cl W ad l) : Row W W.heap.size (some ad) l := fun hn => by
  refine ⟨ad, rfl, ?_, h⟩
  have h0 := World.block_lt_of_cell? W _ (h 0 _ (List.getElem?_eq_getElem hn))
  rwa [adb] at h0
theorem Cl.new (W : World) (l : List Int) (h : 0 < l.length) : Cl (W.alloc (.cells (l.map (Value.int .i64)).toArray 3)) ⟨W.heap.size, 0, none⟩ l := by
  obtain ⟨ad, e, _, hc⟩ := Row.new W l h
  obtain rfl := Option.some.inj e
  exact hc
theorem Cl.far {W : World} {ad : Addr} {l : List Int} (h : Cl W ad l) {b : Nat} (hne : ad.block ≠ b) (i : Nat) (v : Value) : Cl (W.setCell ⟨b, i, none⟩ v) ad l := fun j x hx =>
  (World.cell?_of_block (Below.heap_setCell W ⟨b, i, none⟩ v (ad.add j).block (by rw [adb]; exact hne))).trans (h j x hx)
theorem Cl.drewN {W : World} {ad : Addr} {l : List Int} (h : Cl W ad l) (n : Nat) : Cl (W.drewN n) ad l := h.on (below_drewN (Below.refl _ _) n)
/-- The array of numbers. -/
def NumAt (W : World) (g : Nat) (L : List Int) : Prop := W.heap[g]? = some (.cells (L.map (Value.int .i64)).toArray 31 (0, 0))
theorem NumAt.on {W W' : World} {g : Nat} {L : List Int} (h : NumAt W g L) (hb : Below W.heap.size W W') : NumAt W' g L := (hb.block g (Array.getElem?_eq_some_iff.1 h).1).trans h
theorem NumAt.lt {W : World} {g : Nat} {L : List Int} (h : NumAt W g L) : g < W.heap.size := (Array.getElem?_eq_some_iff.1 h).1
theorem NumAt.cell {W : World} {g : Nat} {L : List Int} (h : NumAt W g L) {k : Nat} {x : Int} (hx : L[k]? = some x) : W.cell? ⟨g, k, none⟩ = some (.int .i64 x) := by
  rw [cell_of h k]
  simp [hx]
theorem NumAt.frozen {W : World} {g : Nat} {L : List Int} (h : NumAt W g L) (i : Nat) : W.frozen? ⟨g, i, none⟩ = false := by simp [World.frozen?, show W.heap[g]? = _ from h]
theorem NumAt.set {W : World} {g : Nat} {L : List Int} (h : NumAt W g L) (k : Nat) (x : Int) : NumAt (W.setCell ⟨g, k, none⟩ (.int .i64 x)) g (L.set k x) := by
  have := set_blk h k (.int .i64 x)
  unfold NumAt
  rw [this]
  congr 2
  rw [List.map_set]
  simp
theorem below_set {B : Nat} {a w : World} (h : Below B a w) {b : Nat} (hB : B ≤ b) (i : Nat) (v : Value) : Below B a (w.setCell ⟨b, i, none⟩ v) := h.setCell (p := ⟨b, i, none⟩) hB v

/-- What the laws' Ages tells: cells of its own. -/
theorem agesC_any (h : Int) (ad : Addr) (c : Nat) (l : List Int) (h0 : 0 < l.length) (hl : l.length ≤ 16) (w : World) (hr : Cl w ad l) :
    Calls Try.prog 16 #[.int .i64 h, .slice (some ad) l.length c] w fun e w' => ∃ ad' c', e = .returned (.slice (some ad') l.length c') ∧ Cl w' ad' (agesL h (placed l)) ∧ w.heap.size ≤ ad'.block ∧ Below w.heap.size w w' := by
  have h9 := ages_any h (some ad) c l (by unfold maxLen; omega) w hr.row
  rw [List.take_of_length_le hl] at h9
  refine h9.mono ?_
  rintro e w' ⟨u, rfl, hu, hb⟩
  rcases hu.2 with ⟨rfl, hn⟩ | ⟨g, cap, cur, rfl, hg, hh, hn, hm, hs, ht⟩
  · rw [ages_len] at hn; omega
  · refine ⟨⟨g, 0, none⟩, cap, by rw [ages_len], fun j x hx => ?_, hg, hb⟩
    have hj : ((agesL h (placed l)).map (Value.int .i64))[j]? = some (.int .i64 x) := by rw [List.getElem?_map, hx]; rfl
    exact hu.cells (g := g) rfl j _ hj

/-- The array, in the midst of a round. -/
def mixL (M L : List Int) (k : Nat) : List Int := M.take k ++ L.drop k
theorem mix_at (M L : List Int) (k : Nat) (hM : k ≤ M.length) (x : Int) (hx : L[k]? = some x) : (mixL M L k)[k]? = some x := by
  unfold mixL
  rw [List.getElem?_append_right (by rw [List.length_take]; omega), List.length_take, Nat.min_eq_left hM, Nat.sub_self, List.getElem?_drop, Nat.add_zero, hx]
theorem mix_set (M L : List Int) (k : Nat) (x y : Int) (hx : L[k]? = some x) (hy : M[k]? = some y) : (mixL M L k).set k y = mixL M L (k + 1) := by
  obtain ⟨hk, he⟩ := List.getElem?_eq_some_iff.1 hx
  obtain ⟨hk2, he2⟩ := List.getElem?_eq_some_iff.1 hy
  unfold mixL
  rw [List.set_append_right _ _ (by rw [List.length_take]; omega), List.length_take, Nat.min_eq_left (by omega), Nat.sub_self, List.drop_eq_getElem_cons hk, List.set_cons_zero, List.take_succ_eq_append_getElem hk2, he2, List.append_assoc]
  rfl
theorem mix_zero (M L : List Int) : mixL M L 0 = L := by unfold mixL; simp
theorem mix_end (M L : List Int) (hM : M.length = 16) (hL : L.length = 16) : mixL M L 16 = M := by
  unfold mixL
  rw [List.take_of_length_le (by omega), List.drop_of_length_le (by omega), List.append_nil]
theorem has_alive (p : Int) (l : List Int) (hl : l.length ≤ 16) (k : Nat) (x : Int) (hx : l[k]? = some x) (h0 : 0 ≤ x) : hasB (aliveI p (placed l)) k = decide (x ≤ p) := by
  obtain ⟨hk, he⟩ := List.getElem?_eq_some_iff.1 hx
  rw [hasB_nat _ k (by omega), alive_bits p l hl k (by omega), List.getD_eq_getElem?_getD, hx]
  have : decide (k < l.length) = true := by simpa using hk
  rw [this, Bool.true_and]
  unfold inB
  have h1 : decide (0 ≤ x) = true := by simpa using h0
  show (decide (0 ≤ x) && decide (x ≤ p)) = _
  rw [h1, Bool.true_and]
theorem ages_at2 (v : Int) (L : List Int) (k : Nat) (x : Int) (hx : L[k]? = some x) (h0 : 0 ≤ x) (h1 : x ≤ 100) : (agesL v (placed L))[k]? = some (if hasB v k then 0 else x + 1) := by
  obtain ⟨hk, he⟩ := List.getElem?_eq_some_iff.1 hx
  have := placed_at L k x hx
  unfold agesL
  rw [List.getElem?_map, this]
  show some (if hasB v k then 0 else olderI x) = _
  rw [olderI_small x h0 (by omega)]
theorem ages_small (v : Int) (L : List Int) (n : Int) (hn : 0 ≤ n ∧ n ≤ 100) (h : ∀ x ∈ L, 0 ≤ x ∧ x ≤ n) : ∀ x ∈ agesL v (placed L), 0 ≤ x ∧ x ≤ n + 1 := by
  intro x hx
  obtain ⟨k, hk⟩ := List.getElem?_of_mem hx
  have hlt : k < L.length := by have := (List.getElem?_eq_some_iff.1 hk).1; rwa [ages_len] at this
  have hy := List.getElem?_eq_getElem hlt
  have hb := h _ (List.getElem_mem hlt)
  rw [ages_at2 v L k _ hy hb.1 (by omega)] at hk
  have := Option.some.inj hk
  subst this
  split <;> omega

set_option maxRecDepth 100000 in
set_option maxHeartbeats 4000000 in
theorem cliqueAges_walk (A : Option Addr) (c : Nat) (l : List Int) (a1 : Int) (w1 : (Lit.int .i64 a1).wf = true) (w : World) (f : IntsOk w A c l) :
    Calls Try.prog 4 #[.slice A l.length c, .int .i64 a1] w fun e w' => e = .returned (.bool true) ∧ Below w.heap.size w w' := by
  have hlm : l.length ≤ maxLen := by have := f.len; omega
  unfold maxLen at hlm
  have FR := Lib.hid f.row
  have FW := Lib.hid f.wf
  clear f
  have AW := Lib.hid (fun W => awake_any W)
  have p1 := Lib.hid (fun W => pick_any a1 10 w1 (by omega) W)
  have mk : ∀ W : World, (Instr.makeSlice 30 (.int .i64 16) (.int .i64 16)).run Try.prog W = .ok (.slice (some ⟨W.heap.size, 0, none⟩) 16 16) (W.alloc (.cells ((List.replicate 16 (0 : Int)).map (Value.int .i64)).toArray 3)) := fun W => make_ints 16 (by omega) W
  generalize pickI a1 10 = m at *
  go_enter Try.func4, Try.ntmps4
  go_wp2_with fail
  (with_reducible refine (AW.out _).mono ?_); rintro e v1 ⟨rfl, hb⟩
  have HB := Lib.hid hb; clear hb
  go_wp2_with fail
  (with_reducible refine (p1.out _).mono ?_); rintro e u1 ⟨rfl, rfl⟩
  go_wp2_with fail
  clear mk
  have hc0 : Cl (v1.alloc (.cells #[.int .i64 0, .int .i64 0, .int .i64 0, .int .i64 0, .int .i64 0, .int .i64 0, .int .i64 0, .int .i64 0, .int .i64 0, .int .i64 0, .int .i64 0, .int .i64 0, .int .i64 0, .int .i64 0, .int .i64 0, .int .i64 0] 3)) ⟨v1.heap.size, 0, none⟩ (List.replicate 16 0) := Cl.new v1 (List.replicate 16 0) (by simp)
  have hb1 := Joins.below_alloc1 v1 (.cells #[.int .i64 0, .int .i64 0, .int .i64 0, .int .i64 0, .int .i64 0, .int .i64 0, .int .i64 0, .int .i64 0, .int .i64 0, .int .i64 0, .int .i64 0, .int .i64 0, .int .i64 0, .int .i64 0, .int .i64 0, .int .i64 0] 3)
  have hb2 := Joins.below_alloc1 (v1.alloc (.cells #[.int .i64 0, .int .i64 0, .int .i64 0, .int .i64 0, .int .i64 0, .int .i64 0, .int .i64 0, .int .i64 0, .int .i64 0, .int .i64 0, .int .i64 0, .int .i64 0, .int .i64 0, .int .i64 0, .int .i64 0, .int .i64 0] 3)) (.cells #[.int .i64 0, .int .i64 0, .int .i64 0, .int .i64 0, .int .i64 0, .int .i64 0, .int .i64 0, .int .i64 0, .int .i64 0, .int .i64 0, .int .i64 0, .int .i64 0, .int .i64 0, .int .i64 0, .int .i64 0, .int .i64 0] 31)
  have hn0 : NumAt ((v1.alloc (.cells #[.int .i64 0, .int .i64 0, .int .i64 0, .int .i64 0, .int .i64 0, .int .i64 0, .int .i64 0, .int .i64 0, .int .i64 0, .int .i64 0, .int .i64 0, .int .i64 0, .int .i64 0, .int .i64 0, .int .i64 0, .int .i64 0] 3)).alloc (.cells #[.int .i64 0, .int .i64 0, .int .i64 0, .int .i64 0, .int .i64 0, .int .i64 0, .int .i64 0, .int .i64 0, .int .i64 0, .int .i64 0, .int .i64 0, .int .i64 0, .int .i64 0, .int .i64 0, .int .i64 0, .int .i64 0] 31)) (v1.heap.size + 1) (List.replicate 16 0) := by
    have h := heap_new (v1.alloc (.cells #[.int .i64 0, .int .i64 0, .int .i64 0, .int .i64 0, .int .i64 0, .int .i64 0, .int .i64 0, .int .i64 0, .int .i64 0, .int .i64 0, .int .i64 0, .int .i64 0, .int .i64 0, .int .i64 0, .int .i64 0, .int .i64 0] 3)) (.cells #[.int .i64 0, .int .i64 0, .int .i64 0, .int .i64 0, .int .i64 0, .int .i64 0, .int .i64 0, .int .i64 0, .int .i64 0, .int .i64 0, .int .i64 0, .int .i64 0, .int .i64 0, .int .i64 0, .int .i64 0, .int .i64 0] 31)
    rw [World.size_alloc] at h
    exact h
  have HC := Lib.hid (hc0.on hb2)
  have HN := Lib.hid hn0
  have HLB : Hid (w.heap.size ≤ v1.heap.size + 1) := Lib.hid (by have := HB.out.size; omega)
  replace HB := Lib.hid ((HB.out.trans (hb1.mono HB.out.size)).trans (hb2.mono (HB.out.trans (hb1.mono HB.out.size)).size))
  have HNE : Hid ((⟨v1.heap.size, 0, none⟩ : Addr).block ≠ v1.heap.size + 1) := Lib.hid (by show v1.heap.size ≠ v1.heap.size + 1; omega)
  clear hc0 hb1 hb2 hn0
  generalize (v1.alloc (.cells #[.int .i64 0, .int .i64 0, .int .i64 0, .int .i64 0, .int .i64 0, .int .i64 0, .int .i64 0, .int .i64 0, .int .i64 0, .int .i64 0, .int .i64 0, .int .i64 0, .int .i64 0, .int .i64 0, .int .i64 0, .int .i64 0] 3)).alloc (.cells #[.int .i64 0, .int .i64 0, .int .i64 0, .int .i64 0, .int .i64 0, .int .i64 0, .int .i64 0, .int .i64 0, .int .i64 0, .int .i64 0, .int .i64 0, .int .i64 0, .int .i64 0, .int .i64 0, .int .i64 0, .int .i64 0] 31) = V at *
  generalize (⟨v1.heap.size, 0, none⟩ : Addr) = ad0 at *
  generalize v1.heap.size + 1 = LB at *
  go_loopw [7, 9] (fun s7 s9 wr => ∃ (i : Nat) (ad : Addr) (c' : Nat) (L : List Int), i ≤ l.length ∧ i ≤ 40 ∧ s9 = .int .i64 i ∧ s7 = .slice (some ad) 16 c' ∧ L.length = 16 ∧ (∀ x ∈ L, 0 ≤ x ∧ x ≤ i) ∧ Cl wr ad L ∧ ad.block ≠ LB ∧ NumAt wr LB L ∧ Below w.heap.size w wr) (fun _ s9 _ => 40 - (intOf s9).toNat)
  case atStart => exact ⟨0, ad0, 16, List.replicate 16 0, by omega, by omega, rfl, rfl, by simp, fun x hx => by rw [(List.mem_replicate.1 hx).2]; omega, HC.out, HNE.out, HN.out, HB.out⟩
  case round =>
    obtain ⟨i, ad, c', L, hi, hi40, rfl, rfl, hL, hLx, hc, hne, hn, hb⟩ := hrel
    clear HC HN HB HNE
    have HB := Lib.hid hb; clear hb
    by_cases hlt : i < l.length ∧ i < 40
    · obtain ⟨hlt1, hlt2⟩ := hlt
      have i1 : (i : Int) < (l.length : Int) := by omega
      have i2 : (i : Int) < 40 := by omega
      obtain ⟨y, hy⟩ : ∃ y, l[i]? = some y := ⟨_, List.getElem?_eq_getElem hlt1⟩
      obtain ⟨ad9, rfl, hadb, hcc⟩ := (FR.out.below HB.out (Nat.le_refl _)) (by omega)
      have y0 := hcc i y hy
      have py := Lib.hid (fun W => pick_any y 65536 (FW.out _ (List.mem_of_getElem? hy)) (by omega) W)
      generalize pickI y 65536 = v at *
      have HC := Lib.hid hc; have HN := Lib.hid hn; have HNE := Lib.hid hne
      have HLX := Lib.hid hLx
      have HL := Lib.hid hL
      have kg := fun W (hr : Cl W ad L) => agesC_any v ad c' L (by omega) (by omega) W hr
      rw [hL] at kg
      have KG := Lib.hid kg
      have HM : Hid (∀ x ∈ agesL v (placed L), 0 ≤ x ∧ x ≤ ((i : Int) + 1)) := Lib.hid (ages_small v L i (by omega) hLx)
      have HML : Hid ((agesL v (placed L)).length = 16) := Lib.hid (by rw [ages_len, hL])
      clear hcc hy hc hn hne hLx hL kg
      go_wp2_with fail
      (with_reducible refine (py.out _).mono ?_); rintro e u1 ⟨rfl, rfl⟩
      go_wp2_with fail
      (with_reducible refine (KG.out _ HC.out).mono ?_); rintro e u2 ⟨ad2, c2, rfl, hc2, hg2, hb⟩
      have hlt9 := HN.out.lt
      replace HN := Lib.hid (HN.out.on hb)
      replace HB := Lib.hid (HB.out.trans (hb.mono HB.out.size))
      replace HNE : Hid (ad2.block ≠ LB) := Lib.hid (by omega)
      clear hlt9
      replace HC := Lib.hid hc2
      clear hb hc2 hg2 y0
      obtain ⟨M, hM⟩ : ∃ M, M = agesL v (placed L) := ⟨_, rfl⟩
      rw [← hM] at HC HM HML
      have hM16 : M.length = 16 := HML.out
      have ka := fun W hr => alive16_any m (some ad2) c2 M (by omega) W hr
      rw [hM16] at ka
      have KA := Lib.hid ka; clear ka
      have HMM := Lib.hid hM; clear hM hM16
      go_wp2_with fail
      (with_reducible refine (KA.out _ HC.out.row).mono ?_); rintro e u3 ⟨rfl, hb⟩
      replace HN := Lib.hid (HN.out.on hb)
      replace HC := Lib.hid (HC.out.on hb)
      replace HB := Lib.hid (HB.out.trans (hb.mono HB.out.size))
      clear hb
--inner
      go_wp2_with fail
      clear KG KA
      generalize hAM : aliveI m (placed M) = AM at *
      have HAM := Lib.hid hAM; clear hAM
      go_loopw [12] (fun s12 wq => ∃ k : Nat, k ≤ 16 ∧ s12 = .int .i64 k ∧ Cl wq ad2 M ∧ NumAt wq LB (mixL M L k) ∧ Below w.heap.size w wq) (fun s12 _ => 16 - (intOf s12).toNat)
      case atStart => exact ⟨0, by omega, rfl, HC.out, by rw [mix_zero]; exact HN.out, HB.out⟩
      case round =>
        obtain ⟨k, hk, rfl, hc, hn, hb⟩ := hrel
        clear HC HN HB
        have HC := Lib.hid hc; have HN := Lib.hid hn; have HB := Lib.hid hb
        clear hc hn hb
        by_cases hk16 : k < 16
        · have j1 : (k : Int) < 16 := by omega
          obtain ⟨x, hx⟩ : ∃ x, L[k]? = some x := ⟨_, List.getElem?_eq_getElem (by rw [HL.out]; exact hk16)⟩
          have hx01 := HLX.out x (List.mem_of_getElem? hx)
          have hy := ages_at2 v L k x hx hx01.1 (by omega)
          rw [← HMM.out] at hy
          have hmx := mix_at M L k (by rw [HML.out]; exact hk) x hx
          have hcl := NumAt.cell HN.out hmx
          have hfr := HN.out.frozen
          have g1 : IntKind.i64.wrap (x + 1) = x + 1 := IntWalk.i64_in _ (by omega)
          have kv := fun W => refHas_any v k W
          have HKL : Hid (k < (mixL M L k).length) := Lib.hid (List.getElem?_eq_some_iff.1 hmx).1
          cases hhs : hasB v k
          · rw [hhs, if_neg (by simp)] at hy
            rw [hhs] at kv
            have KV := Lib.hid kv
            have hha := has_alive m M (by rw [HML.out]; omega) k (x + 1) hy (by omega)
            rw [HAM.out] at hha
            have HSET := Lib.hid (mix_set M L k x (x + 1) hx hy)
            have HY := Lib.hid hy
            clear hhs kv hx hy hmx
            go_wp2_with fail
            have HN1 := Lib.hid (NumAt.set HN.out k (x + 1))
            have HB1 := Lib.hid (below_set HB.out HLB.out k (.int .i64 (x + 1)))
            have HC1 := Lib.hid (HC.out.far HNE.out k (.int .i64 (x + 1)))
            generalize wr.setCell ⟨LB, k, none⟩ (.int .i64 (x + 1)) = X1 at *
            clear hcl hfr HC HN HB
            (with_reducible refine (KV.out _).mono ?_); rintro e x1 ⟨rfl, rfl⟩
            have HN2 : Hid (NumAt X1 LB (mixL M L (k + 1))) := Lib.hid (by have h := HN1.out; rw [HSET.out] at h; exact h)
            have HB2 := HB1; have HC2 := HC1
            clear HN1 HB1 HC1
            go_upto_region 19 with fail
            generalize X1 = X2 at *
            have hlast := NumAt.cell HN2.out (k := k) (x := (x + 1)) (by rw [← HSET.out, List.getElem?_set_self HKL.out])
            have hage := HC2.out k (x + 1) HY.out
            by_cases hle : (x + 1) ≤ m
            · rw [decide_eq_true hle] at hha
              have KA := Lib.hid (fun W => refHas_any AM k W)
              rw [hha] at KA
              clear hha
              go_quiet ((go_at_call 13; exact Calls.quiet_of_same (turned (KA.out _))))
              go_wp2_with fail
              go_roundw
              case rel => exact ⟨k + 1, by omega, by go_num, HC2.out.drewN _, HN2.out.on (below_drewN (Below.refl _ _) _), below_drewN HB2.out _⟩
              case measure => simp [intOf]; omega
            · rw [decide_eq_false hle] at hha
              have KA := Lib.hid (fun W => refHas_any AM k W)
              rw [hha] at KA
              clear hha
              go_quiet ((go_at_call 13; exact Calls.quiet_of_same (turned (KA.out _))))
              go_wp2_with fail
              go_roundw
              case rel => exact ⟨k + 1, by omega, by go_num, HC2.out.drewN _, HN2.out.on (below_drewN (Below.refl _ _) _), below_drewN HB2.out _⟩
              case measure => simp [intOf]; omega
          · rw [hhs, if_pos rfl] at hy
            rw [hhs] at kv
            have KV := Lib.hid kv
            have hha := has_alive m M (by rw [HML.out]; omega) k 0 hy (by omega)
            rw [HAM.out] at hha
            have HSET := Lib.hid (mix_set M L k x 0 hx hy)
            have HY := Lib.hid hy
            clear hhs kv hx hy hmx
            go_wp2_with fail
            have HN1 := Lib.hid (NumAt.set HN.out k (x + 1))
            have HB1 := Lib.hid (below_set HB.out HLB.out k (.int .i64 (x + 1)))
            have HC1 := Lib.hid (HC.out.far HNE.out k (.int .i64 (x + 1)))
            generalize wr.setCell ⟨LB, k, none⟩ (.int .i64 (x + 1)) = X1 at *
            clear hcl hfr HC HN HB
            (with_reducible refine (KV.out _).mono ?_); rintro e x1 ⟨rfl, rfl⟩
            have hfr := HN1.out.frozen
            have hcl := NumAt.cell HN1.out (k := k) (x := x + 1) (by rw [List.getElem?_set_self HKL.out])
            have HN2 : Hid (NumAt (X1.setCell ⟨LB, k, none⟩ (.int .i64 0)) LB (mixL M L (k + 1))) := Lib.hid (by have h := NumAt.set HN1.out k 0; rw [List.set_set, HSET.out] at h; exact h)
            have HB2 := Lib.hid (below_set HB1.out HLB.out k (.int .i64 0))
            have HC2 := Lib.hid (HC1.out.far HNE.out k (.int .i64 0))
            go_upto_region 19 with fail
            generalize X1.setCell ⟨LB, k, none⟩ (.int .i64 0) = X2 at *
            clear hcl hfr HN1 HB1 HC1
            have hlast := NumAt.cell HN2.out (k := k) (x := 0) (by rw [← HSET.out, List.getElem?_set_self HKL.out])
            have hage := HC2.out k 0 HY.out
            by_cases hle : 0 ≤ m
            · rw [decide_eq_true hle] at hha
              have KA := Lib.hid (fun W => refHas_any AM k W)
              rw [hha] at KA
              clear hha
              go_quiet ((go_at_call 13; exact Calls.quiet_of_same (turned (KA.out _))))
              go_wp2_with fail
              go_roundw
              case rel => exact ⟨k + 1, by omega, by go_num, HC2.out.drewN _, HN2.out.on (below_drewN (Below.refl _ _) _), below_drewN HB2.out _⟩
              case measure => simp [intOf]; omega
            · rw [decide_eq_false hle] at hha
              have KA := Lib.hid (fun W => refHas_any AM k W)
              rw [hha] at KA
              clear hha
              go_quiet ((go_at_call 13; exact Calls.quiet_of_same (turned (KA.out _))))
              go_wp2_with fail
              go_roundw
              case rel => exact ⟨k + 1, by omega, by go_num, HC2.out.drewN _, HN2.out.on (below_drewN (Below.refl _ _) _), below_drewN HB2.out _⟩
              case measure => simp [intOf]; omega
        · have j1 : ¬ (k : Int) < 16 := by omega
          have ek : k = 16 := by omega
          have HN2 : Hid (NumAt wr LB M) := Lib.hid (by have h := HN.out; rw [ek, mix_end M L HML.out HL.out] at h; exact h)
          clear ek HN
          go_wp2_with fail
          go_roundw
          case rel => exact ⟨i + 1, ad2, c2, M, by omega, by omega, by go_num, rfl, HML.out, fun x hx => by have := HM.out x hx; omega, HC.out, HNE.out, HN2.out, HB.out⟩
          case measure => simp [intOf]; omega
--outer
    · by_cases hlt1 : i < l.length
      · have i1 : (i : Int) < (l.length : Int) := by omega
        have i2 : ¬ (i : Int) < 40 := by omega
        go_wp2_with fail
        go_ret
        exact ⟨rfl, HB.out⟩
      · have i1 : ¬ (i : Int) < (l.length : Int) := by omega
        go_wp2_with fail
        go_ret
        exact ⟨rfl, HB.out⟩

end Go.Proofs.Ytplnmkeopdmanaa

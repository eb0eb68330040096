/-
  A law's own devs, and awake.
-/
import Derived.Test.YtllbhbekpnmlnaaClkRefM
import Derived.OpenShut
namespace Go.Proofs.Ytllbhbekpnmlnaa
open Go.RowKit

def devI (b c : Int) : Int := pickI c (2 * b + 1) - b
def devsI (l : List Int) (n : Nat) (b : Int) : List Int := (l.take n).map (devI b)
theorem devI_range (b c : Int) (hb : 0 ≤ b) : -b ≤ devI b c ∧ devI b c ≤ b := by
  have := pickI_range c (2 * b + 1) (by omega)
  unfold devI
  omega
theorem devsI_length (l : List Int) (n : Nat) (b : Int) : (devsI l n b).length = min n l.length := by unfold devsI; rw [List.length_map, List.length_take]
theorem devsI_range {l : List Int} {n : Nat} {b : Int} (hb : 0 ≤ b) : ∀ y ∈ devsI l n b, -b ≤ y ∧ y ≤ b := by
  intro y hy
  obtain ⟨c, _, rfl⟩ := List.mem_map.1 hy
  exact devI_range b c hb
theorem devsI_succ (l : List Int) (k : Nat) (b x : Int) (h : l[k]? = some x) : devsI l (k + 1) b = devsI l k b ++ [devI b x] := by
  obtain ⟨hk, e⟩ := List.getElem?_eq_some_iff.1 h
  unfold devsI
  rw [List.take_succ_eq_append_getElem hk, e, List.map_append]
  rfl
theorem devsI_full (l : List Int) (n : Nat) (b : Int) (h : l.length ≤ n) : devsI l n b = devsI l l.length b := by
  unfold devsI
  rw [List.take_of_length_le h, List.take_length]

set_option maxRecDepth 100000 in
set_option maxHeartbeats 1000000 in
theorem devs_any (A : Option Addr) (c : Nat) (l : List Int) (n : Nat) (b : Int) (hn : n ≤ 100) (hb : 0 ≤ b ∧ b ≤ 1073741824) (w0 w : World) (f : IntsOk w0 A c l) (hw : Below w0.heap.size w0 w) :
    Calls Try.prog 22 #[.slice A l.length c, .int .i64 (n : Int), .int .i64 b] w fun e w' => ∃ u, e = .returned u ∧ Own w' w.heap.size u (devsI l n b) ∧ Below w.heap.size w w' := by
  obtain ⟨i0, hi, hz0, hz1, hz2⟩ := info_parts int_info
  obtain ⟨b0, b1⟩ := hb
  have hlm := f.len
  unfold maxLen at hlm
  have hr := f.row.on hw
  have HF := Lib.hid f.wf
  have HO0 := Lib.hid (Own.nil w w.heap.size)
  clear f hw
  go_enter Try.func22, Try.ntmps22
  go_wp2_with fail
  go_loopw [7, 8] (fun u i wr => ∃ k : Nat, k ≤ l.length ∧ k ≤ n ∧ i = .int .i64 k ∧ Own wr w.heap.size u (devsI l k b) ∧ Below w.heap.size w wr) (fun _ i _ => l.length - (intOf i).toNat)
  case atStart => exact ⟨0, by omega, by omega, rfl, HO0.out, Below.refl _ _⟩
  case round =>
    obtain ⟨k, hk, hkn, rfl, ho, hb⟩ := hrel
    have HO := Lib.hid ho; clear ho HO0
    have HB := Lib.hid hb; clear hb
    by_cases hlt : k < l.length
    · have hkI : (k : Int) < (l.length : Int) := by omega
      by_cases hlt2 : k < n
      · have hkI2 : (k : Int) < (n : Int) := by omega
        have hkd : decide (k < n) = true := by rw [decide_eq_true_iff]; exact hlt2
        obtain ⟨x, hx⟩ : ∃ x, l[k]? = some x := ⟨_, List.getElem?_eq_getElem hlt⟩
        obtain ⟨ad, rfl, hbk, hc⟩ := (hr.below HB.out (Nat.le_refl _)) (by omega)
        have hck := hc k x hx
        have HT := Lib.hid (devsI_succ l k b x hx)
        have cp := Lib.hid (fun W => pick_any x (2 * b + 1) (HF.out x (List.mem_of_getElem? hx)) (by omega) W)
        have hrow : wr.ownsRow w.heap.size 3 1 _ (devsI l k b).length ((devsI l k b).map (Value.int .i64)) := HO.out
        have hdl : (devsI l k b).length ≤ 100 := by rw [devsI_length]; omega
        have hpr := pickI_range x (2 * b + 1) (by omega)
        obtain ⟨pk, hpk⟩ : ∃ q, pickI x (2 * b + 1) = q := ⟨_, rfl⟩
        rw [hpk] at cp hpr
        have HPK : Hid (devI b x = pk - b) := Lib.hid (by unfold devI; rw [hpk])
        have hsz := HB.out.size
        clear hc hx hpk
        go_wp2_with fail; (with_reducible refine (cp.out _).mono ?_); rintro e w1 ⟨rfl, rfl⟩
        go_wp2_with (at_builtin; refine wpList_append_own _ rfl _ _ 22 rfl w.heap.size 3 i0 (.int .i64 0) 1 8 Try.underlying22 hi hz0 hz1 hz2 rfl (by decide) _ _ _ rfl (hrow.alloc _) ⟨wr.heap.size, 0, none⟩ 1 1 [.int .i64 (pk - b)] rfl rfl (cell_one_new _ _ _) (by simp [Value.oneCell']) (by simp only [maxLen]; omega) (by omega) (by simp; omega) ?_; intro v' w3 hown' hgrow3 hnil3; have HB3 := Lib.hid ((HB.out.alloc hsz (.cells #[.int .i64 (pk - b)] 3)).grown hgrow3 (by simp; omega) (fun g e' => (hrow.lt g e').1)); have HO3 : Hid (Own w3 w.heap.size v' (devsI l k b ++ [pk - b])) := Lib.hid (by unfold Own; rw [List.length_append, List.map_append]; exact hown'); clear hown' hgrow3 hnil3)
        go_roundw
        case rel => exact ⟨k + 1, by omega, by omega, by go_num, by rw [HT.out, HPK.out]; exact HO3.out, HB3.out⟩
        case measure => simp [intOf]; omega
      · have ek : k = n := by omega
        have hkd : decide (k < n) = false := by rw [decide_eq_false_iff_not]; exact hlt2
        have HO2 := HO.out
        rw [ek] at HO2
        have HO3 := Lib.hid HO2
        clear HO2 ek
        go_wp2_with fail
        go_ret
        exact ⟨_, rfl, HO3.out, HB.out⟩
    · have ek : k = l.length := by omega
      have HO2 := HO.out
      rw [ek, ← devsI_full l n b (by omega)] at HO2
      have HO3 := Lib.hid HO2
      have hkI : ¬ (k : Int) < (l.length : Int) := by omega
      have hkd : decide (k < l.length) = false := by rw [decide_eq_false_iff_not]; omega
      clear HO2 ek
      go_wp2_with fail
      go_ret
      exact ⟨_, rfl, HO3.out, HB.out⟩

end Go.Proofs.Ytllbhbekpnmlnaa

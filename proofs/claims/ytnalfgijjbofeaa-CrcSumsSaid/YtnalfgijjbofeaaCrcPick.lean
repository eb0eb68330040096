/-
  What the statements' own helpers of layer 1 do: pick and awake.
-/
import Derived.Test.YtnalfgijjbofeaaCrcBurst
import Derived.OpenShut
namespace Go.Proofs.Ytnalfgijjbofeaa
open Go.RowKit

/-- Which of n things a raw number speaks of. -/
def pickI (c n : Int) : Int := (if c < 0 then -(c + 1) else c) % n
theorem pickI_range (c n : Int) (hn : 0 < n) : 0 ≤ pickI c n ∧ pickI c n < n := ⟨Int.emod_nonneg _ (by omega), Int.emod_lt_of_pos _ hn⟩

theorem wrap64_in (n : Int) (h1 : -9223372036854775808 ≤ n) (h2 : n ≤ 9223372036854775807) : wrap64 n = n := by
  unfold wrap64
  omega

theorem pick_neg_value (c n : Int) (hc : (Lit.int .i64 c).wf = true) (h : c < 0) : (wrap64 (-wrap64 (c + 1))).tmod n = pickI c n := by
  have hb := bounds_i64 hc
  rw [wrap64_in (c + 1) (by omega) (by omega), wrap64_in _ (by omega) (by omega), Int.tmod_eq_emod_of_nonneg (by omega)]
  unfold pickI
  rw [if_pos h]

theorem pick_pos_value (c n : Int) (h : ¬ c < 0) : c % n = pickI c n := by
  unfold pickI
  rw [if_neg h]

theorem pick_any (c n : Int) (hc : (Lit.int .i64 c).wf = true) (hn : 0 < n) (w : World) :
    Calls Try.prog 20 #[.int .i64 c, .int .i64 n] w fun e w' => e = .returned (.int .i64 (pickI c n)) ∧ w = w' := by
  by_cases h : c < 0
  · have hv := Lib.hid (pick_neg_value c n hc h)
    have HC := Lib.hid hc; clear hc
    go_enter Try.func20, Try.ntmps20
    go_wp2
    go_ret
    exact ⟨congrArg (fun n => Ending.returned (.int .i64 n)) hv.out, rfl⟩
  · have hv := Lib.hid (pick_pos_value c n h)
    have h0 : 0 ≤ c := by omega
    have HC := Lib.hid hc; clear hc
    go_enter Try.func20, Try.ntmps20
    go_wp2
    go_ret
    exact ⟨congrArg (fun n => Ending.returned (.int .i64 n)) hv.out, rfl⟩

/-- A text's first three hundred bytes. -/
theorem cut_text (s : ByteArray) : ∃ X : ByteArray, X.size ≤ 300 ∧ X.data.toList = s.data.toList.take 300 ∧
    ∀ w, (Instr.slice 9 (.string s) none (some (.int .i64 (min (s.size : Int) 300))) none).run Try.prog w = .ok (.string X) w := by
  refine ⟨txt (s.data.toList.take (min s.size 300)), ?_, ?_, fun w => run_front s _ (min s.size 300) (by omega) (by omega) w⟩
  · rw [txt_size, List.length_take]; omega
  · rw [txt_data]
    rcases Nat.lt_or_ge 300 s.size with h | h
    · rw [Nat.min_eq_right (by omega)]
    · rw [Nat.min_eq_left (by omega), List.take_of_length_le (by rw [Lib.size_eq]; exact Nat.le_refl _), List.take_of_length_le (by rw [← Lib.size_eq]; exact h)]

theorem turned {P : Program} {f : FuncId} {args : Array Value} {W : World} {v : Value} (h : Calls P f args W fun e w' => e = .returned v ∧ W = w') : Calls P f args W fun e w' => e = .returned v ∧ w' = W :=
  h.mono fun _ _ ⟨a, b⟩ => ⟨a, b.symm⟩

theorem reg_next (r : Int) : reg (wrap64 (r + 65536)) = reg r := by
  apply BitVec.eq_of_toNat_eq
  have h1 := reg_toNat (wrap64 (r + 65536))
  have h2 := reg_toNat r
  unfold wrap64 at *
  omega

def txText : ByteArray := ⟨#[116, 101, 120, 116]⟩
def txClosed : ByteArray := ⟨#[116, 101, 120, 116, 195, 60]⟩
def txEmpty : ByteArray := ⟨#[]⟩
def txNine : ByteArray := ⟨#[49, 50, 51, 52, 53, 54, 55, 56, 57]⟩
def txA : ByteArray := ⟨#[97]⟩
def txGrave : ByteArray := ⟨#[96]⟩
theorem v1 : txt (Crc16.close txText.data.toList) = txClosed := by
  have : Crc16.close txText.data.toList = txClosed.data.toList := by decide +kernel
  rw [this]; rfl
theorem v2 : opened txClosed.data.toList = txText.data.toList ∧ isClosed txClosed.data.toList = true := by decide +kernel
theorem v3 : opened txText.data.toList = [] ∧ isClosed txText.data.toList = false := by decide +kernel
theorem v4 : (Crc16.sum txEmpty.data.toList).toNat = 65535 := by decide +kernel
theorem v5 : (Crc16.sum txNine.data.toList).toNat = 10673 := by decide +kernel
theorem v6 : burstI txA.data.toList 7 32768 = txGrave.data.toList := by decide +kernel
theorem v7 : burstI txA.data.toList 8 65535 = txA.data.toList := by decide +kernel

set_option maxHeartbeats 1000000 in
theorem awake_any (w : World) :
    Calls Try.prog 10 #[] w fun e w' => e = .returned (.bool true) ∧ Below w.heap.size w w' := by
  have k1 : ((txt txText.data.toList).toList == [116, 101, 120, 116]) = true := by rw [txt_toList]; rfl
  have k2 : ((txt txGrave.data.toList).toList == [96]) = true := by rw [txt_toList]; rfl
  have k3 : ((txt txA.data.toList).toList == [97]) = true := by rw [txt_toList]; rfl
  go_enter Try.func10, Try.ntmps10
  go_wp2_with fail
  refine (close_any txText _ (by decide +kernel)).mono ?_
  rintro e w1 ⟨rfl, hb1⟩
  rw [v1]
  unfold txClosed
  go_wp2_with fail
  refine (open_any txClosed _ (by decide +kernel)).mono ?_
  rintro e w2 ⟨rfl, hb2⟩
  rw [v2.1, v2.2]
  go_wp2_with fail
  refine (open_any txText _ (by decide +kernel)).mono ?_
  rintro e w3 ⟨rfl, hb3⟩
  rw [v3.1, v3.2]
  go_wp2_with fail
  refine (new_any _).mono ?_
  rintro e w4 ⟨rfl, rfl⟩
  go_wp2_with fail
  refine (sum_any txEmpty _ (by decide +kernel)).mono ?_
  rintro e w5 ⟨rfl, rfl⟩
  rw [v4]
  go_wp2_with fail
  refine (sum_any txNine _ (by decide +kernel)).mono ?_
  rintro e w6 ⟨rfl, rfl⟩
  rw [v5]
  go_wp2_with fail
  refine (burst_any txA 7 32768 _ (by decide +kernel)).mono ?_
  rintro e w7 ⟨rfl, hb7⟩
  rw [v6]
  go_wp2_with fail
  refine (burst_any txA 8 65535 _ (by decide +kernel)).mono ?_
  rintro e w8 ⟨rfl, hb8⟩
  rw [v7]
  go_wp2_with fail
  go_ret
  have z1 := hb1.size
  have z2 := hb2.size
  have z3 := hb3.size
  have z7 := hb7.size
  exact ⟨rfl, (((hb1.trans (hb2.mono (by omega))).trans (hb3.mono (by omega))).trans (hb7.mono (by omega))).trans (hb8.mono (by omega))⟩

end Go.Proofs.Ytnalfgijjbofeaa

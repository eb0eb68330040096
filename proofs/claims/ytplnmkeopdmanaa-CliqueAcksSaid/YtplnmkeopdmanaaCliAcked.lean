/-
  How many have heard a node: the program's Acked and Clear.
-/
import Derived.Test.YtplnmkeopdmanaaCliAges
namespace Go.Proofs.Ytplnmkeopdmanaa
open Go.RowKit

def ackN (n : Int) (l : List Int) : Nat := l.countP fun v => hasB v n
theorem ack_le (n : Int) (l : List Int) : ackN n l ≤ l.length := List.countP_le_length
theorem ack_take (n : Int) (l : List Int) (k : Nat) (x : Int) (hx : l[k]? = some x) : ackN n (l.take (k + 1)) = ackN n (l.take k) + (hasB x n).toNat := by
  obtain ⟨hk, he⟩ := List.getElem?_eq_some_iff.1 hx
  unfold ackN
  rw [List.take_succ_eq_append_getElem hk, he, List.countP_append]
  cases h : hasB x n <;> simp [h]
set_option maxHeartbeats 400000 in
theorem acked_any (n : Int) (A : Option Addr) (c B : Nat) (l : List Int) (w : World) (h : Row w B A l) (hl : l.length ≤ maxLen) :
    Calls Try.prog 20 #[.int .i64 n, .slice A l.length c] w fun e w' => e = .returned (.int .i64 (ackN n l : Nat)) ∧ w = w' := by
  unfold maxLen at hl
  go_enter Try.func20, Try.ntmps20
  go_wp2
  go_loop [5, 10] (fun v i => ∃ k : Nat, k ≤ l.length ∧ i = .int .i64 k ∧ v = .int .i64 (ackN n (l.take k) : Nat)) (fun _ i => l.length - (intOf i).toNat)
  case atStart => exact ⟨0, by omega, rfl, rfl⟩
  case round =>
    obtain ⟨k, hk, rfl, rfl⟩ := hrel
    by_cases hlt : k < l.length
    · obtain ⟨x, hx⟩ : ∃ x, l[k]? = some x := ⟨_, List.getElem?_eq_getElem hlt⟩
      obtain ⟨ad, rfl, hb, hc⟩ := h (by omega)
      have hck := hc k x hx
      have HT := Lib.hid (ack_take n l k x hx)
      have hle : ackN n (l.take k) ≤ k := Nat.le_trans (ack_le _ _) (by rw [List.length_take]; omega)
      have hh := fun w => has_any x n w
      clear hc hx
      generalize ackN n (l.take k) = a at *
      cases hb : hasB x n
      · rw [hb] at hh HT
        clear hb
        go_wp2_with fail; refine (hh _).mono ?_; rintro e w1 ⟨rfl, rfl⟩
        clear hh
        go_wp2
        go_round
        case rel => exact ⟨k + 1, by omega, by go_num, by rw [HT.out]; rfl⟩
        case measure => simp [intOf]; omega
      · rw [hb] at hh HT
        clear hb
        go_wp2_with fail; refine (hh _).mono ?_; rintro e w1 ⟨rfl, rfl⟩
        clear hh
        go_wp2
        go_round
        case rel => exact ⟨k + 1, by omega, by go_num, by rw [HT.out]; go_num⟩
        case measure => simp [intOf]; omega
    · have ek : k = l.length := by omega
      subst ek
      go_wp2
      go_ret
      exact ⟨ret_i (by simp), rfl⟩

def clearB (n m : Int) (l : List Int) : Bool := nodeB n && inB 1 16 m && decide (m < 2 * ((ackN n l : Int) + 1))
theorem clear_any (n m : Int) (A : Option Addr) (c B : Nat) (l : List Int) (w : World) (h : Row w B A l) (hl : l.length ≤ 1000) :
    Calls Try.prog 19 #[.int .i64 n, .int .i64 m, .slice A l.length c] w fun e w' => e = .returned (.bool (clearB n m l)) ∧ w = w' := by
  have c1 := fun W => isNode_any n W
  have c2 := fun W => within_any 1 16 m W
  have c3 := Lib.hid (fun W h => acked_any n A c B l W h (by unfold maxLen; omega))
  have hA := ack_le n l
  have HD : Hid (clearB n m l = (nodeB n && inB 1 16 m && decide (m < 2 * ((ackN n l : Int) + 1)))) := Lib.hid rfl
  generalize ackN n l = a at *
  generalize clearB n m l = R at *
  have ha : a ≤ 1000 := by omega
  clear hA
  cases h1 : nodeB n
  · rw [h1] at c1 HD
    clear h1
    go_enter Try.func19, Try.ntmps19
    go_wp2_with fail; refine (c1 _).mono ?_; rintro e w1 ⟨rfl, rfl⟩
    go_wp2_with fail
    go_ret
    exact ⟨ret_b HD.out.symm, rfl⟩
  · rw [h1] at c1 HD
    clear h1
    cases h2 : inB 1 16 m
    · rw [h2] at c2 HD
      clear h2
      go_enter Try.func19, Try.ntmps19
      go_wp2_with fail; refine (c1 _).mono ?_; rintro e w1 ⟨rfl, rfl⟩
      go_wp2_with fail; refine (c2 _).mono ?_; rintro e w1 ⟨rfl, rfl⟩
      go_wp2_with fail
      go_ret
      exact ⟨ret_b HD.out.symm, rfl⟩
    · rw [h2] at c2 HD
      clear h2
      have g1 : IntKind.i64.wrap ((a : Int) + 1) = (a : Int) + 1 := IntWalk.i64_in _ (by omega)
      have g2 : IntKind.i64.wrap (2 * ((a : Int) + 1)) = 2 * ((a : Int) + 1) := IntWalk.i64_in _ (by omega)
      go_enter Try.func19, Try.ntmps19
      go_wp2_with fail; refine (c1 _).mono ?_; rintro e w1 ⟨rfl, rfl⟩
      go_wp2_with fail; refine (c2 _).mono ?_; rintro e w1 ⟨rfl, rfl⟩
      go_wp2_with fail; refine (c3.out _ h).mono ?_; rintro e w1 ⟨rfl, rfl⟩
      go_wp2_with fail
      go_ret
      exact ⟨ret_b (by rw [HD.out]; simp), rfl⟩

end Go.Proofs.Ytplnmkeopdmanaa

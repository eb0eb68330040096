/-
  The nodes of a vector, told one by one: what vec.nodes hands back.
-/
import Derived.Test.YtmklabdfalkldaaVecFns
import Derived.RangeFuncBox
import Derived.RangeFuncLeaves
import Derived.Shelf.Abstract
import Derived.OwnWalkIn
import Derived.TacticsInMore
import Derived.LoopNIn
import Derived.LoopIn
import Derived.Maps.AppendAt
namespace Go.Proofs.Ytmklabdfalkldaa
open Go.RowKit Go.Shelf
attribute [local go_sem] Oper.semAt_some

theorem has_in (m : Nat) (v n : Int) (w : World) : CallsIn Fence.wide m Try.prog 48 #[.int .i64 v, .int .i64 n] w fun e w' => e = .returned (.bool (hasB v n)) ∧ w = w' := callsIn_wide.2 (has_any v n w)

theorem nodes_in (m : Nat) (v : Int) (w : World) : CallsIn Fence.wide m Try.prog 42 #[.int .i64 v] w fun e w' => e = .returned (.func (.func 47) #[] #[.pointer (some ⟨w.heap.size, 0, none⟩)]) ∧ w' = w.alloc (.cells #[.int .i64 v] 3) := by
  refine callsIn_wide.2 ?_
  go_enter Try.func42, Try.ntmps42
  go_wp2
  go_ret
  exact ⟨rfl, rfl⟩

theorem hasB_nat (v : Int) (k : Nat) (h : k < 16) : hasB v (k : Int) = (md v).testBit k := by
  unfold hasB
  rw [nodeB_nat k h, Int.toNat_natCast, Bool.true_and]

/-- One block lies as it lay. -/
def Keeps (b : Nat) (A B : World) : Prop := B.heap[b]? = A.heap[b]?
theorem Keeps.refl (b : Nat) (A : World) : Keeps b A A := rfl
theorem Keeps.trans {b : Nat} {A B C : World} (h : Keeps b A B) (k : Keeps b B C) : Keeps b A C := Eq.trans k h
theorem Keeps.cell {b : Nat} {A B : World} (h : Keeps b A B) : B.cell? ⟨b, 0, none⟩ = A.cell? ⟨b, 0, none⟩ := World.cell?_of_block h
theorem Keeps.setCell {b : Nat} {W : World} {p : Addr} (v : Value) (h : b ≠ p.block) : Keeps b W (W.setCell p v) := Below.heap_setCell W p v b h
theorem Keeps.past {b n : Nat} (hb : b < n) (W : World) (l : Nat) (o o' : Obj) (hl : n ≤ l) (h : W.heap[l]? = some o) (_ : o.isCells = false) (_ : o.isWalk = false) : Keeps b W (W.putObj l o') := by
  have hl2 := (Array.getElem?_eq_some_iff.1 h).1
  refine (grownBy_putObj' W l o').block b (by omega) fun e => ?_
  injection e with e
  omega

set_option maxRecDepth 100000 in
set_option maxHeartbeats 1000000 in
theorem each_in (m : Nat) (hm : 1 ≤ m) (l Bn : Nat) (v : Int) (J Jx : List Int → World → Prop)
    (hY : ∀ pre x W, J pre W → pre.length < (listI v).length → YieldAt Fence.wide (m - 1) Try.prog l #[.int .i64 x] W fun e W' =>
      (e = .returned (.bool true) ∧ J (pre ++ [x]) W' ∧ Keeps Bn W W') ∨ (e = .returned (.bool false) ∧ Jx (pre ++ [x]) W'))
    (W : World) (hBn : W.cell? ⟨Bn, 0, none⟩ = some (.int .i64 v)) (h0 : J [] W) :
    CallsIn Fence.wide m Try.prog 47 #[.func (.yield l) #[] #[], .pointer (some ⟨Bn, 0, none⟩)] W fun e W' => (∃ u, e = .returned u) ∧
      ((∃ ys, ys = listI v ∧ J ys W') ∨ (∃ pre, pre <+: listI v ∧ Jx pre W')) := by
  refine callsIn_of_wp Try.func47 rfl trivial ?_ rfl
  simp only [Try.ntmps47, List.size_toArray, List.length_cons, List.length_nil, Nat.reduceAdd, Nat.reduceSub, Array.replicate_succ, Array.replicate_zero, List.push_toArray, List.append_toArray, List.nil_append, List.cons_append]
  gi_wp2
  gi_loopw [4] (fun i wr => ∃ k : Nat, k ≤ 16 ∧ i = .int .i64 k ∧ J (below (md v) k) wr ∧ wr.cell? ⟨Bn, 0, none⟩ = some (.int .i64 v))
    (fun i _ => 16 - (intOf i).toNat)
  case atStart => exact ⟨0, by omega, rfl, h0, hBn⟩
  case round =>
    obtain ⟨k, hk, rfl, hJ, hc⟩ := hrel
    by_cases hlt : k < 16
    · have hh := fun w => has_in (m - 1) v k w
      rw [hasB_nat v k hlt] at hh
      cases hb : (md v).testBit k
      · rw [hb] at hh
        have hs := below_miss (md v) k hb
        have HS := Lib.hid hs; clear hs
        clear hb
        gi_wp2_with fail
        refine ⟨trivial, (hh _).mono ?_⟩
        rintro e w1 ⟨rfl, rfl⟩
        clear hh
        gi_wp2_with fail
        refine ⟨fun _ h => (by cases h), ?_⟩
        gi_wp2
        go_roundw
        case rel => exact ⟨k + 1, by omega, by go_num, by rw [HS.out]; exact hJ, hc⟩
        case measure => simp [intOf]; omega
      · rw [hb] at hh
        have hs := below_hit (md v) k hb
        have HS := Lib.hid hs; clear hs
        have hp := below_pre (md v) (k + 1) 16 (by omega)
        obtain ⟨fn, tmps, assign, body, hy, hR⟩ := hY (below (md v) k) k wr hJ (below_room (md v) k hlt hb)
        clear hb
        gi_wp2_with fail
        refine ⟨trivial, (hh _).mono ?_⟩
        rintro e w1 ⟨rfl, rfl⟩
        clear hh
        gi_wp2
        refine hR.mono ?_
        rintro e W3 (⟨rfl, hJ3, hk3⟩ | ⟨rfl, hJx3⟩)
        · have hc3 := hk3.cell.trans hc
          gi_wp2
          go_roundw
          case rel => exact ⟨k + 1, by omega, by go_num, by rw [HS.out]; exact hJ3, hc3⟩
          case measure => simp [intOf]; omega
        · gi_wp2
          refine bodyPost_ret (results_none rfl _ _ _) rfl ?_
          exact ⟨⟨_, rfl⟩, .inr ⟨_, by rw [← HS.out]; exact hp, hJx3⟩⟩
    · have ek : k = 16 := by omega
      subst ek
      gi_wp2
      go_end0
      exact ⟨⟨_, rfl⟩, .inl ⟨_, rfl, hJ⟩⟩

/-- What vec.nodes hands back tells the vector's nodes, rising. -/
theorem nodes_stop (m : Nat) (hm : 1 ≤ m) (Bn : Nat) (v : Int) (w : World) (hBn : Bn < w.heap.size) (hc : w.cell? ⟨Bn, 0, none⟩ = some (.int .i64 v)) :
    SeqStopsK Fence.wide m Try.prog 47 #[.pointer (some ⟨Bn, 0, none⟩)] (fun x : Int => #[Value.int .i64 x]) (Keeps Bn) (fun ys => ys = listI v) (fun pre => pre <+: listI v) (listI v).length w := fun l J Jx W hW _ _ hY h0 =>
  each_in m hm l Bn v J Jx hY W ((hW.cell (p := ⟨Bn, 0, none⟩) hBn).trans hc) h0

end Go.Proofs.Ytmklabdfalkldaa

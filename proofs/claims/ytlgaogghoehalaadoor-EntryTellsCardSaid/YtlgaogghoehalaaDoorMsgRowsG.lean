/-
  The law MsgRows, walked.
-/
import Derived.Test.YtlgaogghoehalaaDoorMsgRawLG

namespace Go.Proofs.YtlgaogghoehalaaDoor
open Go.RowKit

/-- Messages' bytes, one behind the other. -/
def catL (ms : List Msg) : List UInt8 := ms.flatMap encL
theorem catL_snoc (ms : List Msg) (m : Msg) : catL (ms ++ [m]) = catL ms ++ encL m := by
  unfold catL; rw [List.flatMap_append]; simp
theorem catL_length (ms : List Msg) (h : ∀ m ∈ ms, rightM m = true) : (catL ms).length ≤ 20 * ms.length := by
  induction ms with
  | nil => simp [catL]
  | cons m ms ih =>
    have h1 := encL_length (h m (by simp))
    have h2 := rightM_data (h m (by simp))
    have h3 := ih fun x hx => h x (by simp [hx])
    show (encL m ++ catL ms).length ≤ 20 * (ms.length + 1)
    rw [List.length_append]
    omega
theorem rows_right (d : ByteArray) (l : List Raw) : ∀ m ∈ l.map (rmsg d), rightM m = true := fun m hm => by
  obtain ⟨r, _, rfl⟩ := List.mem_map.1 hm
  exact rmsg_right d r
theorem catL_drop (ms : List Msg) (k : Nat) (m : Msg) (h : ms[k]? = some m) : catL (ms.drop k) = encL m ++ catL (ms.drop (k + 1)) := by
  obtain ⟨hk, he⟩ := List.getElem?_eq_some_iff.1 h
  rw [List.drop_eq_getElem_cons hk, he]; rfl
set_option maxRecDepth 100000 in
theorem dec_cut {m : Msg} (h : rightM m = true) (p : Nat) (hp : p < (encL m).length) : decE ((encL m).take p) = 3 := by
  have hl := encL_length h
  have hd := rightM_data h
  unfold decE
  by_cases h12 : p < 12
  · rw [if_pos (by rw [List.length_take]; omega)]
  · have hN : decN ((encL m).take p) = m.data.size := by
      unfold decN
      rw [List.getD_eq_getElem?_getD, List.getElem?_take_of_lt (by omega), ← List.getD_eq_getElem?_getD]
      obtain ⟨a, b, c, d, _, e⟩ := enc_shape h
      have : (encL m).getD 11 0 = octet m.data.size := by rw [e]; rfl
      rw [this]
      have := octet_nat m.data.size
      omega
    rw [if_neg (by rw [List.length_take]; omega), hN, if_neg (by omega), if_pos (by rw [List.length_take]; omega)]

end Go.Proofs.YtlgaogghoehalaaDoor

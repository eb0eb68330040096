/-
  The walk of the law CrcClosed: what is closed twice is opened to what is closed once; another last byte is told.
-/
import Derived.Test.YtnalfgijjbofeaaCrcBits
import Derived.IntWalk
namespace Go.Proofs.Ytnalfgijjbofeaa
open Go.RowKit

theorem one_byte (w : World) (a : Int) : (convert 34 9 (.slice (some ⟨w.heap.size, 0, none⟩) 1 1)).run Try.prog (w.alloc (.cells #[.int .u8 a] 5)) = .ok (.string (txt [UInt8.ofNat a.toNat])) (w.alloc (.cells #[.int .u8 a] 5)) := by
  refine run_convert_bytes_arg (P := Try.prog) _ 34 5 Try.underlying34 Try.underlying5 w.heap.size 0 1 1 [a] rfl ?_ 9 Try.underlying9
  intro i hi
  have : i = 0 := by omega
  subst this
  simp [go_sem]

theorem one_byte_drewN (w : World) (n : Nat) (a : Int) : (convert 34 9 (.slice (some ⟨w.heap.size, 0, none⟩) 1 1)).run Try.prog ((w.drewN n).alloc (.cells #[.int .u8 a] 5)) = .ok (.string (txt [UInt8.ofNat a.toNat])) ((w.drewN n).alloc (.cells #[.int .u8 a] 5)) :=
  one_byte (w.drewN n) a

theorem run_at (s : ByteArray) (e : Int) (n : Nat) (he : e = (n : Int)) (hn : n < s.size) (w : World) :
    (Instr.index 9 (.string s) (.int .i64 e)).run Try.prog w = .ok (.int .u8 (((s.data.toList.getD n 0).toNat : Nat) : Int)) w := by
  subst he
  rw [← byte_at s n hn]
  rw [run_index_string w 9 s .i64 (n : Int) Try.underlying9]
  rw [dif_pos ⟨by omega, by omega⟩]
  rfl

/-- Another last byte. -/
theorem last_told (l : List UInt8) (c : UInt8) (hn : 1 ≤ l.length) (hc : isClosed l = true) (h : c ≠ l.getD (l.length - 1) 0) : isClosed (l.take (l.length - 1) ++ [c]) = false := by
  cases hb : isClosed (l.take (l.length - 1) ++ [c]) with
  | false => rfl
  | true =>
    exfalso
    have s1 := sum_of_closed _ hc
    have s2 := sum_of_closed _ hb
    have hlen : (l.take (l.length - 1) ++ [c]).length = l.length := by simp; omega
    have e := Crc16.told (l.take (l.length - 1) ++ [c]) l hlen (8 * (l.length - 1)) (fun j hj => by
      rw [Crc16.bitsOf_get, Crc16.bitsOf_get]
      rcases hj with hj | hj
      · rw [List.getElem?_append_left (by simp; omega), List.getElem?_take, if_pos (by omega)]
      · rw [List.getElem?_eq_none (by omega), List.getElem?_eq_none (by omega)]) 65535#16 (s2.trans s1.symm)
    apply h
    have e2 := congrArg (fun t => t.getD (l.length - 1) 0) e
    have e3 : (l.take (l.length - 1) ++ [c]).getD (l.length - 1) 0 = c := by
      rw [List.getD, List.getElem?_append_right (by simp)]
      have : (l.length - 1) - (l.take (l.length - 1)).length = 0 := by simp
      rw [this]
      rfl
    exact e3.symm.trans e2

theorem xor_ne (c b : UInt8) (hb : b ≠ 0) : c ^^^ b ≠ c := by
  intro h
  apply hb
  have : c ^^^ (c ^^^ b) = c ^^^ c := by rw [h]
  rw [← UInt8.xor_assoc, UInt8.xor_self, UInt8.zero_xor] at this
  exact this

set_option maxHeartbeats 1000000 in
set_option maxRecDepth 100000 in
theorem crcClosed_walk (a0 : ByteArray) (a1 : Int) (_w0 : a0.size ≤ 140737488351232) (w1 : (Lit.int .i64 a1).wf = true) (w : World) :
    Calls Try.prog 7 #[.string a0, .int .i64 a1] w fun e w' => e = .returned (.bool true) ∧ Below w.heap.size w w' := by
  obtain ⟨X, hX, _, kx⟩ := cut_text a0
  obtain ⟨Y, hY⟩ : ∃ Y, Y = txt (Crc16.close X.data.toList) := ⟨_, rfl⟩
  have hYl : Y.data.toList = Crc16.close X.data.toList := by rw [hY]; rfl
  have hYs : Y.size = X.size + 2 := by rw [Lib.size_eq, hYl, close_length, ← Lib.size_eq]
  have c1 := fun w => close_any X w (by omega)
  rw [← hY] at c1
  obtain ⟨U, hU⟩ : ∃ U, U = txt (Crc16.close Y.data.toList) := ⟨_, rfl⟩
  have hUl : U.data.toList = Crc16.close Y.data.toList := by rw [hU]; rfl
  have hUs : U.size = Y.size + 2 := by rw [Lib.size_eq, hUl, close_length, ← Lib.size_eq]
  have c2 := fun w => close_any Y w (by omega)
  rw [← hU] at c2
  have c3 := fun w => open_any U w (by omega)
  rw [hUl, opened_close, isClosed_close, ← txt_of] at c3
  have pb := pickI_range a1 255 (by omega)
  obtain ⟨B, hB⟩ : ∃ B : Nat, pickI a1 255 = (B : Int) := ⟨(pickI a1 255).toNat, by omega⟩
  have c4 := fun w => pick_any a1 255 w1 (by omega) w
  rw [hB] at c4 pb
  have pb2 := pb.2
  clear hB pb w1
  have ki := run_at Y ((Y.size : Int) - 1) (Y.size - 1) (by omega) (by omega)
  obtain ⟨c, hc⟩ : ∃ c, c = Y.data.toList.getD (Y.size - 1) 0 := ⟨_, rfl⟩
  rw [← hc] at ki
  have hx := u8_xor_nat c.toNat (1 + B) c.toNat_lt (by omega)
  have hx2 : (c ^^^ UInt8.ofNat (1 + B)).toNat = c.toNat ^^^ (1 + B) := by
    rw [UInt8.toNat_xor, UInt8.toNat_ofNat', Nat.mod_eq_of_lt (by omega)]
  have hne : c ^^^ UInt8.ofNat (1 + B) ≠ c := by
    apply xor_ne
    intro h
    have := congrArg UInt8.toNat h
    rw [UInt8.toNat_ofNat', Nat.mod_eq_of_lt (by omega)] at this
    simp at this
  rw [← hx2] at hx
  obtain ⟨d, hd⟩ : ∃ d, d = c ^^^ UInt8.ofNat (1 + B) := ⟨_, rfl⟩
  rw [← hd] at hx hne
  rw [show ((1 + B : Nat) : Int) = 1 + (B : Int) from by omega] at hx
  have kf := run_front Y ((Y.size : Int) - 1) (Y.size - 1) (by omega) (by omega)
  have kg := fun w n => one_byte_drewN w n (d.toNat : Int)
  have ed : UInt8.ofNat ((d.toNat : Int)).toNat = d := by simp
  rw [ed] at kg
  obtain ⟨F, hF⟩ : ∃ F, F = txt (Y.data.toList.take (Y.size - 1)) := ⟨_, rfl⟩
  rw [← hF] at kf
  obtain ⟨V, hV⟩ : ∃ V, V = txt (Y.data.toList.take (Y.size - 1) ++ [d]) := ⟨_, rfl⟩
  have kv : F ++ txt [d] = V := by rw [hF, hV]; apply ByteArray.ext; simp [txt]
  have hFs : F.size ≤ 302 := by rw [hF, txt_size, List.length_take]; omega
  have hn : ¬ 9223372036854775807 < F.size + (txt [d]).size := by rw [txt_size, List.length_singleton]; omega
  have hVs : V.size < 2000 := by rw [hV, txt_size, List.length_append, List.length_take, List.length_singleton]; omega
  have c5 := fun w => open_any V w hVs
  have hVc : isClosed V.data.toList = false := by
    rw [hV, txt_data]
    have := last_told Y.data.toList d (by rw [← Lib.size_eq]; omega) (by rw [hYl]; exact isClosed_close _) (by rw [← Lib.size_eq, ← hc]; exact hne)
    rwa [← Lib.size_eq] at this
  rw [hVc] at c5
  generalize opened V.data.toList = O at c5
  have k2 : ((Y.size : Int) != (X.size : Int) + 2) = false := by rw [bne_eq_false_iff_eq]; omega
  have hYb : Y.size ≤ 302 := by omega
  have hYb2 : 2 ≤ Y.size := by omega
  have hi0 : (0 : Int) ≤ (Y.size : Int) - 1 := by omega
  have hi2 : (1 : Int) ≤ (Y.size : Int) := by omega
  have hi3 : 1 ≤ Y.size := by omega
  have hi4 : 0 < Y.size := by omega
  have hi1 : (Y.size : Int) - 1 ≤ (Y.size : Int) := by omega
  generalize txt [d] = G at kg kv hn
  clear hY hYl hYs hU hUl hUs hc hx2 hne hd ed hF hV hVs hVc hFs
  have KF := Lib.hid kf; clear kf
  have KG := Lib.hid kg; clear kg
  have C1 := Lib.hid c1; clear c1
  have C2 := Lib.hid c2; clear c2
  have C3 := Lib.hid c3; clear c3
  have C4 := Lib.hid c4; clear c4
  have C5 := Lib.hid c5; clear c5
  go_enter Try.func7, Try.ntmps7
  go_wp2_with fail
  refine (awake_any _).mono ?_
  rintro e w1 ⟨rfl, hb1⟩
  go_wp2_with fail
  refine (C1.out _).mono ?_
  rintro e w2 ⟨rfl, hb2⟩
  go_wp2_with fail
  refine (C2.out _).mono ?_
  rintro e w3 ⟨rfl, hb3⟩
  go_wp2_with fail
  refine (C3.out _).mono ?_
  rintro e w4 ⟨rfl, hb4⟩
  go_wp2_with fail
  go_quiet ((go_at_call 20; exact Calls.quiet_of_same (turned (C4.out _))))
  go_wp2_with fail
  have hw1 : IntKind.i64.wrap ((Y.size : Int) - 1) = (Y.size : Int) - 1 := IntWalk.i64_in _ (by omega)
  have kf := KF.out
  have kg := KG.out
  go_region_with (go_at_call 18; refine (C5.out _).mono ?_; rintro e w5 ⟨rfl, hb5⟩)
  all_goals
    go_wp2_with fail
    refine (C1.out _).mono ?_
    rintro e w6 ⟨rfl, hb6⟩
    go_wp2_with fail
    go_ret
    have z1 := hb1.size
    have z2 := hb2.size
    have z3 := hb3.size
    have z4 := hb4.size
    have y4 : Below w.heap.size w w4 := ((hb1.trans (hb2.mono (by omega))).trans (hb3.mono (by omega))).trans (hb4.mono (by omega))
    have y5 := (below_drewN y4 (nq + 1)).alloc (show w.heap.size ≤ w4.heap.size by omega) (.cells #[.int .u8 (d.toNat : Int)] 5)
    have z5 := hb5.size
    have z6 := y5.size
    exact ⟨rfl, (y5.trans (hb5.mono z6)).trans (hb6.mono (by omega))⟩

end Go.Proofs.Ytnalfgijjbofeaa

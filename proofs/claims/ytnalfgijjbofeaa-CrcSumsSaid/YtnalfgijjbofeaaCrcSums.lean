/-
  The walk of the law CrcSums: the sum of the exclusive or of two texts is told by theirs.
-/
import Derived.Test.YtnalfgijjbofeaaCrcClosed
import Derived.Deep.AppendLies
import Derived.Lib.SmallJoins
import Derived.OwnWalk
import Derived.Deep.DeepCutAuto
import Derived.Deep.DrawnRows
namespace Go.Proofs.Ytnalfgijjbofeaa
open Go.RowKit

/-- A text's bytes as cells. -/
def byteCells (l : List UInt8) : List Value := l.map fun b => Value.int .u8 (b.toNat : Int)
theorem byteCells_length (l : List UInt8) : (byteCells l).length = l.length := by simp [byteCells]
theorem byteCells_get (l : List UInt8) (i : Nat) (h : i < l.length) : (byteCells l)[i]? = some (.int .u8 ((l.getD i 0).toNat : Int)) := by
  simp [byteCells, List.getD, List.getElem?_eq_getElem h]

theorem cells_text (W : World) (g len cap : Nat) (l : List UInt8) (hl : l.length = len) (h : ∀ i, i < len → W.cell? ⟨g, i, none⟩ = (byteCells l)[i]?) :
    (convert 34 9 (.slice (some ⟨g, 0, none⟩) len cap)).run Try.prog W = .ok (.string (txt l)) W := by
  have h1 := run_convert_bytes_arg (P := Try.prog) W 34 5 Try.underlying34 Try.underlying5 g 0 len cap (l.map fun b => (b.toNat : Int)) (by rw [List.length_map, hl]) (by
    intro i hi
    rw [Nat.zero_add, h i hi, byteCells_get l i (by omega)]
    simp [List.getD]
    cases l[i]? <;> rfl) 9 Try.underlying9
  rw [h1]
  have e : strOfNums (l.map fun b => (b.toNat : Int)) = txt l := by
    unfold strOfNums txt
    rw [List.map_map]
    have : ((fun n : Int => UInt8.ofNat n.toNat) ∘ fun b : UInt8 => (b.toNat : Int)) = id := by
      funext b
      simp
    rw [this, List.map_id]
  rw [e]

theorem own_text (W : World) (base n : Nat) (v : Value) (l : List UInt8) (h : W.ownsRow base 5 1 v n (byteCells l)) :
    (convert 34 9 v).run Try.prog W = .ok (.string (txt l)) W := by
  have hl := h.1
  rw [byteCells_length] at hl
  rcases Joins.ownsRow_forms h with ⟨rfl, h0⟩ | ⟨g, cap, rfl⟩
  · have : l = [] := List.eq_nil_of_length_eq_zero (by omega)
    subst this
    exact run_convert_bytes_nil W 34 5 Try.underlying34 Try.underlying5 0 0 9 Try.underlying9
  · exact cells_text W g n cap l (by omega) (fun i hi => h.cellAt i (by omega))

theorem info8 : (Try.prog.info? 5).map (fun i => (i.zero, i.size, i.bytes)) = some (some (.int .u8 0), 1, 1) := by kernel_rfl

theorem make_zeros (n : Nat) (hn : n ≤ 300) : ∃ M : Array Value, M.toList = byteCells (List.replicate n 0) ∧
    ∀ W, (Instr.makeSlice 34 (.int .i64 (n : Int)) (.int .i64 (n : Int))).run Try.prog W = .ok (.slice (some ⟨W.heap.size, 0, none⟩) n n) (W.alloc (.cells M 5)) := by
  obtain ⟨i0, hi, hz0, hz1, hz2⟩ := info_parts info8
  refine ⟨madeCells (Value.int .u8 0).cells (((n : Nat) : Int).toNat * i0.size), ?_, fun W => ?_⟩
  · rw [hz1, Int.toNat_natCast, Nat.mul_one]
    show (madeCells #[Value.int .u8 0] n).toList = _
    rw [toList_madeCells_one]
    simp [byteCells]
  · have h := run_make (P := Try.prog) W 34 5 i0 (.int .u8 0) Try.underlying34 hi hz0 .i64 .i64 (n : Int) (n : Int) (by omega) (by omega) (by rw [hz2]; omega) (by omega)
    simpa using h

theorem made_text (W : World) (M : Array Value) (n : Nat) (hM : M.toList = byteCells (List.replicate n 0)) :
    (convert 34 9 (.slice (some ⟨W.heap.size, 0, none⟩) n n)).run Try.prog (W.alloc (.cells M 5)) = .ok (.string (txt (List.replicate n 0))) (W.alloc (.cells M 5)) := by
  refine cells_text _ _ _ _ _ (by simp) (fun i hi => ?_)
  rw [cell_of_row _ _ _ M 5 (0, 0) (heap_alloc_new W _), ← hM]
  simp

/-- The exclusive or, byte by byte. -/
def both (a b : List UInt8) : List UInt8 := List.zipWith (· ^^^ ·) a b
theorem both_take (a b : List UInt8) (k : Nat) (ha : k < a.length) (hb : k < b.length) : both (a.take (k + 1)) (b.take (k + 1)) = both (a.take k) (b.take k) ++ [a.getD k 0 ^^^ b.getD k 0] := by
  unfold both
  rw [List.take_succ_eq_append_getElem ha, List.take_succ_eq_append_getElem hb, List.zipWith_append (by simp; omega)]
  simp [List.getD, List.getElem?_eq_getElem ha, List.getElem?_eq_getElem hb]

/-- An operation under a name of its own. -/
def opText : Oper := { dst := some 46, op := Op.convert 34 9 (Operand.tmp 45), type := 9, pos := "law.go:74", after := #[{ on := 15, ground := Ground.data }, { on := 1, ground := Ground.guard }], guard := some (1, true) }
theorem opText_eq : opText = { dst := some 46, op := Op.convert 34 9 (Operand.tmp 45), type := 9, pos := "law.go:74", after := #[{ on := 15, ground := Ground.data }, { on := 1, ground := Ground.guard }], guard := some (1, true) } := rfl
attribute [local go_sem] opText_eq

set_option maxHeartbeats 8000000 in
set_option maxRecDepth 100000 in
theorem crcSums_walk (a0 a1 : ByteArray) (w0 : a0.size ≤ 140737488351232) (w1 : a1.size ≤ 140737488351232) (w : World) :
    Calls Try.prog 6 #[.string a0, .string a1] w fun e w' => e = .returned (.bool true) ∧ Below w.heap.size w w' := by
  obtain ⟨i0, hi0, hz0, hz1, hz2⟩ := info_parts info8
  go_enter Try.func6, Try.ntmps6
  go_wp2_with fail
  refine (awake_any _).mono ?_
  rintro e w1 ⟨rfl, hb1⟩
  obtain ⟨n, hn⟩ : ∃ n : Nat, n = min (min a0.size a1.size) 300 := ⟨_, rfl⟩
  have HN := Lib.hid hn; clear hn
  go_upto_region 2 with fail
  go_cut [6] (fun s6 wx => s6 = .int .i64 (n : Int) ∧ wx = w1)
  case first =>
    go_wp2_with fail
    all_goals
      go_meet
      refine ⟨congrArg (Value.int IntKind.i64) ?_, rfl⟩
      have := HN.out
      omega
  case rest =>
    obtain ⟨rfl, rfl⟩ := hcut
    go_wp2_with fail
    obtain ⟨A, hA⟩ : ∃ A, A = a0.data.toList := ⟨_, rfl⟩
    obtain ⟨B, hB⟩ : ∃ B, B = a1.data.toList := ⟨_, rfl⟩
    have hAs : A.length = a0.size := by rw [hA, ← Lib.size_eq]
    have hBs : B.length = a1.size := by rw [hB, ← Lib.size_eq]
    have HA := Lib.hid hA; clear hA
    have HB := Lib.hid hB; clear hB
    have HAS := Lib.hid hAs; clear hAs
    have HBS := Lib.hid hBs; clear hBs
    have hn3 : n ≤ 300 := by have := HN.out; omega
    have hna : n ≤ a0.size := by have := HN.out; omega
    have hnb : n ≤ a1.size := by have := HN.out; omega
    go_loopw [7, 8] (fun v i wr => ∃ k : Nat, k ≤ n ∧ i = .int .i64 k ∧ wr.ownsRow wc.heap.size 5 1 v k (byteCells (both (A.take k) (B.take k))) ∧ Below w.heap.size w wr ∧ wc.heap.size ≤ wr.heap.size) (fun _ i _ => n - (intOf i).toNat)
    case atStart => exact ⟨0, by omega, rfl, World.ownsRow_nil _ _ _ _, hb1, Nat.le_refl _⟩
    case round =>
      obtain ⟨k, hk, rfl, hown, hBel, hSz⟩ := hrel
      have HBel := Lib.hid hBel; clear hBel
      by_cases hlt : k < n
      · have i0a : (0 : Int) ≤ (k : Int) := by omega
        have i1a : (k : Int) < (a0.size : Int) := by omega
        have i1b : (k : Int) < (a1.size : Int) := by omega
        have j1a : k < a0.size := by omega
        have j1b : k < a1.size := by omega
        have ka := run_at a0 (k : Int) k rfl j1a
        have kb := run_at a1 (k : Int) k rfl j1b
        rw [← HA.out] at ka
        rw [← HB.out] at kb
        obtain ⟨p, hp⟩ : ∃ p, p = A.getD k 0 := ⟨_, rfl⟩
        obtain ⟨q, hq⟩ : ∃ q, q = B.getD k 0 := ⟨_, rfl⟩
        rw [← hp] at ka
        rw [← hq] at kb
        have hx := u8_xor_nat p.toNat q.toNat p.toNat_lt q.toNat_lt
        rw [← UInt8.toNat_xor] at hx
        obtain ⟨d, hd⟩ : ∃ d, d = p ^^^ q := ⟨_, rfl⟩
        rw [← hd] at hx
        have hnext : byteCells (both (A.take (k + 1)) (B.take (k + 1))) = byteCells (both (A.take k) (B.take k)) ++ [.int .u8 (d.toNat : Int)] := by
          rw [both_take A B k (by rw [HAS.out]; exact j1a) (by rw [HBS.out]; exact j1b), hd, hp, hq]
          simp [byteCells]
        clear hp hq
        have HNX := Lib.hid hnext; clear hnext
        have HD := Lib.hid hd; clear hd
        generalize hxs : byteCells (both (A.take k) (B.take k)) = xs at hown
        have HXS := Lib.hid hxs; clear hxs
        have HOWN := Lib.hid hown; clear hown
        go_wp2_with fail
        go_region_held3 (fun _ => True) (trivial) ((refine step_append_lies _ (by rfl) _ _ _ (by rfl) wc.heap.size 5 i0 _ 1 1 Try.underlying34 hi0 hz0 hz1 hz2 rfl (by omega) u7 k xs (by rfl) ((HOWN.out.alloc _).drew) ⟨wr.heap.size, 0, none⟩ 1 1 [.int .u8 (d.toNat : Int)] (by rfl) (by rfl) (World.news_of_block (cs := #[.int .u8 (d.toNat : Int)]) (t := 5) (fr := (0, 0)) (heap_alloc_new wr _)) (by simp [Value.oneCell']) (by omega) (by unfold maxLen; omega) (by omega) (by simp; omega) (wr.heap.size + 1) (by simp) ?_; intro gg cap w2 hown2 hgrow hat hlt2))
        go_wp2_with fail
        all_goals
          go_roundw
          case rel =>
            refine ⟨k + 1, by omega, by go_num, ?_, ?_, ?_⟩
            · rw [HNX.out, HXS.out]; exact hown2
            · exact (((HBel.out.alloc (by have := hb1.size; omega) _).drew).grown hgrow (by have := hb1.size; show w.heap.size ≤ (wr.alloc _).heap.size; simp; omega) (fun b hb => by have := (HOWN.out.lt b hb).1; have := hb1.size; omega))
            · have := hgrow.size
              simp at this
              omega
          case measure => simp [intOf]; omega
      · have hkn : k = n := by omega
        subst hkn
        clear hk hlt
        have hconv : ∀ w', World.ownsRow w' wc.heap.size 5 1 u7 k (byteCells (both (A.take k) (B.take k))) → (convert 34 9 u7).run Try.prog w' = .ok (.string (txt (both (A.take k) (B.take k)))) w' := fun w' h => own_text w' _ _ _ _ h
        have kf := run_front a0 (k : Int) k rfl hna
        have kg := run_front a1 (k : Int) k rfl hnb
        rw [← HA.out] at kf
        rw [← HB.out] at kg
        obtain ⟨M, hM, hmk⟩ := make_zeros k hn3
        have hmt := fun W => made_text W M k hM
        have hmt2 : ∀ W : World, (convert 34 9 (.slice (some ⟨W.heap.size, 0, none⟩) k k)).run Try.prog ((W.alloc (.cells M 5)).drew) = .ok (.string (txt (List.replicate k 0))) ((W.alloc (.cells M 5)).drew) := fun W => by
          have h := made_text W.drew M k hM
          exact h
        clear hM
        have hla : (A.take k).length = k := by rw [List.length_take, HAS.out]; omega
        have hlb : (B.take k).length = k := by rw [List.length_take, HBS.out]; omega
        have hsb := Crc16.sum_both (A.take k) (B.take k) (by rw [hla, hlb])
        rw [hla] at hsb
        have hlD : (both (A.take k) (B.take k)).length ≤ 300 := by unfold both; rw [List.length_zipWith]; omega
        have s0 := fun w => sum_any (txt (both (A.take k) (B.take k))) w (by rw [txt_size]; unfold maxLen; omega)
        have s1 := fun w => sum_any (txt (A.take k)) w (by rw [txt_size]; unfold maxLen; omega)
        have s2 := fun w => sum_any (txt (B.take k)) w (by rw [txt_size]; unfold maxLen; omega)
        have s3 := fun w => sum_any (txt (List.replicate k 0)) w (by rw [txt_size, List.length_replicate]; unfold maxLen; omega)
        rw [txt_data] at s0 s1 s2 s3
        have b1 := (Crc16.sum (A.take k)).isLt
        have b2 := (Crc16.sum (B.take k)).isLt
        have b3 := (Crc16.sum (List.replicate k 0)).isLt
        have x1 := i64_xor_nat (Crc16.sum (A.take k)).toNat (Crc16.sum (B.take k)).toNat (by omega) (by omega)
        rw [← BitVec.toNat_xor] at x1
        have b4 := (Crc16.sum (A.take k) ^^^ Crc16.sum (B.take k)).isLt
        have x2 := i64_xor_nat (Crc16.sum (A.take k) ^^^ Crc16.sum (B.take k)).toNat (Crc16.sum (List.replicate k 0)).toNat (by omega) (by omega)
        rw [← BitVec.toNat_xor, ← hsb] at x2
        have hbo : Crc16.sum (List.zipWith (· ^^^ ·) (A.take k) (B.take k)) = Crc16.sum (both (A.take k) (B.take k)) := rfl
        rw [hbo] at x2
        clear hsb hbo b1 b2 b3 b4 hla hlb hlD
        generalize (Crc16.sum (A.take k) ^^^ Crc16.sum (B.take k)).toNat = S12 at x1 x2
        generalize (Crc16.sum (both (A.take k) (B.take k))).toNat = S0 at s0 x2
        generalize (Crc16.sum (A.take k)).toNat = S1 at s1 x1
        generalize (Crc16.sum (B.take k)).toNat = S2 at s2 x1
        generalize (Crc16.sum (List.replicate k 0)).toNat = S3 at s3 x2
        generalize txt (both (A.take k) (B.take k)) = T0 at s0 hconv
        generalize txt (A.take k) = T1 at s1 kf
        generalize txt (B.take k) = T2 at s2 kg
        generalize txt (List.replicate k 0) = T3 at s3 hmt hmt2
        generalize byteCells (both (A.take k) (B.take k)) = xs at hown hconv
        have D0 := Lib.hid s0; clear s0
        have D1 := Lib.hid s1; clear s1
        have D2 := Lib.hid s2; clear s2
        have D3 := Lib.hid s3; clear s3
        have hk0 : (0 : Int) ≤ (k : Int) := by omega
        have hk1 : (k : Int) ≤ (a0.size : Int) := by omega
        have hk2 : (k : Int) ≤ (a1.size : Int) := by omega
        go_wp2_with fail
        rw [← opText_eq]
        go_region_held3 (fun w' => World.ownsRow w' wc.heap.size 5 1 u7 k xs) (first | assumption | exact World.ownsRow.alloc (by assumption) _) (first | (go_at_call_of 13 (Value.string T0); refine (D0.out _).mono ?_; rintro e w2 ⟨rfl, rfl⟩) | (go_at_call_of 13 (Value.string T1); refine (D1.out _).mono ?_; rintro e w2 ⟨rfl, rfl⟩) | (go_at_call_of 13 (Value.string T2); refine (D2.out _).mono ?_; rintro e w2 ⟨rfl, rfl⟩) | (go_at_call_of 13 (Value.string T3); refine (D3.out _).mono ?_; rintro e w2 ⟨rfl, rfl⟩))
        all_goals
          go_wp2_with fail
          go_ret
          exact ⟨rfl, (HBel.out.alloc (by have := hb1.size; omega) _).drew⟩

end Go.Proofs.Ytnalfgijjbofeaa

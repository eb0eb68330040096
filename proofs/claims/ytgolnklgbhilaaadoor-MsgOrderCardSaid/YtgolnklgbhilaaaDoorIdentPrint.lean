/-
  Bytes of identifiers: what ident.Print does, and the document's.
-/
import Derived.Test.YtgolnklgbhilaaaDoorIdentLess
namespace Go.Proofs.YtgolnklgbhilaaaDoor
open Go.RowKit

/-- The number that stands in the bytes. -/
def numI (b : Bool) (n : Int) : Int := if b = true then n + 2147483648 else n
def octet (n : Int) : UInt8 := UInt8.ofNat (n % 256).toNat
def four (n : Int) : List UInt8 := [octet (n / 16777216), octet (n / 65536), octet (n / 256), octet n]
def printI (b : Bool) (n : Int) : List UInt8 := if rightI b n = true then four (numI b n) else []

theorem octet_small (n : Int) (h : 0 ≤ n) : UInt8.ofNat n.toNat = octet n := by
  unfold octet
  apply UInt8.toNat_inj.1
  simp
  omega
theorem octet_of (x y : Int) (h0 : 0 ≤ x) (h : x % 256 = y % 256) : UInt8.ofNat x.toNat = octet y := by
  rw [octet_small x h0]
  unfold octet
  rw [h]
theorem list4 {a b c d a' b' c' d' : UInt8} (h1 : a = a') (h2 : b = b') (h3 : c = c') (h4 : d = d') : [a, b, c, d] = [a', b', c', d'] := by rw [h1, h2, h3, h4]

theorem four_bytes (w : World) (a b c d : Int) : (convert 35 9 (.slice (some ⟨w.heap.size, 0, none⟩) 4 4)).run Tryd.prog (w.alloc (.cells #[.int .u8 a, .int .u8 b, .int .u8 c, .int .u8 d] 5)) = .ok (.string (txt [UInt8.ofNat a.toNat, UInt8.ofNat b.toNat, UInt8.ofNat c.toNat, UInt8.ofNat d.toNat])) (w.alloc (.cells #[.int .u8 a, .int .u8 b, .int .u8 c, .int .u8 d] 5)) := by
  refine run_convert_bytes_arg (P := Tryd.prog) _ 35 5 Tryd.underlying35 Tryd.underlying5 w.heap.size 0 4 4 [a, b, c, d] rfl ?_ 9 Tryd.underlying9
  intro i hi
  have : i = 0 ∨ i = 1 ∨ i = 2 ∨ i = 3 := by omega
  rcases this with rfl | rfl | rfl | rfl <;> simp [go_sem]

theorem print_any (b : Bool) (n : Int) (w : World) (L : Laid w) :
    Calls Tryd.prog 42 #[.agg #[.bool b, .int .i64 n]] w fun e w' => e = .returned (.tuple #[.string (txt (printI b n)), .int .i64 (keyE b n)]) ∧ Below w.heap.size w w' := by
  cases h : rightI b n
  · have hc := fun w L => right_any b n w L
    rw [h] at hc
    have ev : printI b n = [] := by unfold printI; rw [h]; rfl
    rw [ev, keyE_wrong h]
    clear ev
    have HC := Lib.hid hc; clear hc
    have H := Lib.hid h; clear h
    go_enter Tryd.func42, Tryd.ntmps42
    go_wp2_with fail
    refine (HC.out _ (L.alloc _)).mono ?_
    rintro e w1 ⟨rfl, hb⟩
    go_wp2_with fail
    go_ret2
    exact ⟨rfl, (Joins.below_alloc1 _ _).trans (hb.mono (by simp))⟩
  · have hc := fun w L => right_any b n w L
    rw [h] at hc
    have ev : printI b n = four (numI b n) := by unfold printI; rw [h]; rfl
    rw [ev, keyE_right h]
    clear ev
    have HC := Lib.hid hc; clear hc
    have hr := right_range h
    have H := Lib.hid h; clear h
    obtain ⟨h0, h1⟩ := hr
    cases b
    · rw [lim_false] at h1
      go_enter Tryd.func42, Tryd.ntmps42
      go_wp2_with fail
      refine (HC.out _ (L.alloc _)).mono ?_
      rintro e w1 ⟨rfl, hb⟩
      obtain ⟨hc, hf⟩ := bcell hb
      have h4 := four_bytes
      go_wp2_with fail
      go_ret2
      refine ⟨congrArg (fun l => Ending.returned (.tuple #[.string (txt l), .int .i64 0])) ?_, ((Joins.below_alloc1 _ _).trans (hb.mono (by simp))).alloc (by have := hb.size; simp at this; omega) _⟩
      unfold four
      show _ = [octet (n / 16777216), octet (n / 65536), octet (n / 256), octet (n)]
      exact list4 (octet_of _ _ (by omega) (by omega)) (octet_of _ _ (by omega) (by omega)) (octet_of _ _ (by omega) (by omega)) (octet_of _ _ (by omega) (by omega))
    · rw [lim_true] at h1
      have hor := i64_or_bit31 n h0 (by omega)
      go_enter Tryd.func42, Tryd.ntmps42
      go_wp2_with fail
      refine (HC.out _ (L.alloc _)).mono ?_
      rintro e w1 ⟨rfl, hb⟩
      obtain ⟨hc, hf⟩ := bcell hb
      have h4 := four_bytes
      go_wp2_with fail
      go_ret2
      refine ⟨congrArg (fun l => Ending.returned (.tuple #[.string (txt l), .int .i64 0])) ?_, ((Joins.below_alloc1 _ _).trans (hb.mono (by simp))).alloc (by have := hb.size; simp at this; omega) _⟩
      unfold four
      show _ = [octet ((n + 2147483648) / 16777216), octet ((n + 2147483648) / 65536), octet ((n + 2147483648) / 256), octet ((n + 2147483648))]
      exact list4 (octet_of _ _ (by omega) (by omega)) (octet_of _ _ (by omega) (by omega)) (octet_of _ _ (by omega) (by omega)) (octet_of _ _ (by omega) (by omega))

theorem refPrint_any (b : Bool) (n : Int) (w : World) :
    Calls Tryd.prog 26 #[.agg #[.bool b, .int .i64 n]] w fun e w' => e = .returned (.tuple #[.string (txt (printI b n)), .int .i64 (keyE b n)]) ∧ Below w.heap.size w w' := by
  cases h : rightI b n
  · have hc := fun w => refRight_any b n w
    rw [h] at hc
    have ev : printI b n = [] := by unfold printI; rw [h]; rfl
    rw [ev, keyE_wrong h]
    clear ev
    have HC := Lib.hid hc; clear hc
    have H := Lib.hid h; clear h
    go_enter Tryd.func26, Tryd.ntmps26
    go_wp2_with fail
    refine (HC.out _).mono ?_
    rintro e w1 ⟨rfl, hb⟩
    go_wp2_with fail
    go_ret2
    exact ⟨rfl, (Joins.below_alloc1 _ _).trans (hb.mono (by simp))⟩
  · have hc := fun w => refRight_any b n w
    rw [h] at hc
    have ev : printI b n = four (numI b n) := by unfold printI; rw [h]; rfl
    rw [ev, keyE_right h]
    clear ev
    have HC := Lib.hid hc; clear hc
    have hr := right_range h
    have H := Lib.hid h; clear h
    obtain ⟨h0, h1⟩ := hr
    cases b
    · rw [lim_false] at h1
      go_enter Tryd.func26, Tryd.ntmps26
      go_wp2_with fail
      refine (HC.out _).mono ?_
      rintro e w1 ⟨rfl, hb⟩
      obtain ⟨hc, hf⟩ := bcell hb
      have h4 := four_bytes
      go_wp2_with fail
      go_ret2
      refine ⟨congrArg (fun l => Ending.returned (.tuple #[.string (txt l), .int .i64 0])) ?_, ((Joins.below_alloc1 _ _).trans (hb.mono (by simp))).alloc (by have := hb.size; simp at this; omega) _⟩
      unfold four
      show _ = [octet (n / 16777216), octet (n / 65536), octet (n / 256), octet (n)]
      exact list4 (octet_of _ _ (by omega) (by omega)) (octet_of _ _ (by omega) (by omega)) (octet_of _ _ (by omega) (by omega)) (octet_of _ _ (by omega) (by omega))
    · rw [lim_true] at h1
      go_enter Tryd.func26, Tryd.ntmps26
      go_wp2_with fail
      refine (HC.out _).mono ?_
      rintro e w1 ⟨rfl, hb⟩
      obtain ⟨hc, hf⟩ := bcell hb
      have h4 := four_bytes
      go_wp2_with fail
      go_ret2
      refine ⟨congrArg (fun l => Ending.returned (.tuple #[.string (txt l), .int .i64 0])) ?_, ((Joins.below_alloc1 _ _).trans (hb.mono (by simp))).alloc (by have := hb.size; simp at this; omega) _⟩
      unfold four
      show _ = [octet ((n + 2147483648) / 16777216), octet ((n + 2147483648) / 65536), octet ((n + 2147483648) / 256), octet ((n + 2147483648))]
      exact list4 (octet_of _ _ (by omega) (by omega)) (octet_of _ _ (by omega) (by omega)) (octet_of _ _ (by omega) (by omega)) (octet_of _ _ (by omega) (by omega))

end Go.Proofs.YtgolnklgbhilaaaDoor

/-
  What the program's Lost and Offer tell.
-/
import Derived.Test.YtehajmockicilaaDoorFifCall
namespace Go.Proofs.YtehajmockicilaaDoor
open Go Go.RowKit

theorem QTold.put3A {A0 : Option Addr} {S b : Nat} {w : World} {l : List Msg} {A : Option Addr} {c : Nat} (h : QTold A0 S w l A c) (h0 : ∀ ad, A0 = some ad → ad.block ≠ b) (hb : b < S) (x y z : Value) : QTold A0 S (set3 w b x y z) l A c :=
  h.keep (fun ad e => far3 w x y z (h0 ad e)) (fun k hk => far3 w x y z (by omega)) (Nat.le_of_eq (size3 _ _ _ _ _).symm)
theorem QTold.put7A {A0 : Option Addr} {S b : Nat} {w : World} {l : List Msg} {A : Option Addr} {c : Nat} (h : QTold A0 S w l A c) (h0 : ∀ ad, A0 = some ad → ad.block ≠ b) (hb : b < S) (m : Msg) : QTold A0 S (set7 w b m) l A c :=
  h.keep (fun ad e => set7_far w (h0 ad e) m) (fun k hk => set7_far w (by omega) m) (Nat.le_of_eq (set7_size _ _ _).symm)

set_option maxRecDepth 100000 in
set_option maxHeartbeats 4000000 in
theorem lostFi_any (LQ T : Int) (A : Option Addr) (c : Nat) (l : List Msg) (w : World) (LL : Laid w) (hq : QIn w A c l) :
    Calls Tryd.prog 19 #[fiv LQ T A l.length c] w (FiPost A LQ (lostFiT LQ T l) l (lostFiN LQ T l) (lostFiE LQ T l) w) := by
  have q1 := FiAt.new w LQ T A l.length c
  have b1 := Joins.below_alloc1 w (.cells #[.int .i64 LQ, .int .i64 T, .slice A l.length c] 30)
  have q2 := FiAt.new (w.alloc (.cells #[.int .i64 LQ, .int .i64 T, .slice A l.length c] 30)) 0 0 none 0 0
  have b2 := Joins.below_alloc1 (w.alloc (.cells #[.int .i64 LQ, .int .i64 T, .slice A l.length c] 30)) (.cells #[.int .i64 0, .int .i64 0, .slice none 0 0] 30)
  rw [World.size_alloc] at q2
  have q1' := q1.on b2
  have hB := b1.trans (b2.mono b1.size)
  have hsz : ((w.alloc (.cells #[.int .i64 LQ, .int .i64 T, .slice A l.length c] 30)).alloc (.cells #[.int .i64 0, .int .i64 0, .slice none 0 0] 30)).heap.size = w.heap.size + 2 := by simp only [World.size_alloc]
  have hq2 := hq.on hB
  obtain ⟨y0, y1, y2⟩ := q1'.cells
  have HQ2 := Lib.hid q2
  have HB := Lib.hid hB
  have HSZ := Lib.hid hsz
  have HLO := Lib.hid hq.low
  have CA := Lib.hid (ansForget_any LQ T A c l ⟨false, 0, 0, 0, 0, 0, ⟨#[]⟩⟩ none 0 [] _ (LL.below hB) hq2)
  clear q1 b1 b2 hq q1' q2 hB hsz hq2 LL
  generalize lostFiT LQ T l = N at *
  generalize lostFiN LQ T l = H at *
  generalize lostFiE LQ T l = E at *
  go_enter Tryd.func19, Tryd.ntmps19
  go_wp2_with fail
  generalize (w.alloc (.cells #[.int .i64 LQ, .int .i64 T, .slice A l.length c] 30)).alloc (.cells #[.int .i64 0, .int .i64 0, .slice none 0 0] 30) = X at *
  refine CA.out.mono ?_; rintro e w3 ⟨A5, c5, rfl, ht5, b3⟩
  have hq2 := HQ2.out.on b3
  obtain ⟨z0, z1, z2⟩ := hq2.cells
  have zf := hq2.frozen
  have HR := Lib.hid (hq2.set LQ N A5 l.length c5)
  have HBR := Lib.hid (below_set3 (HB.out.trans (b3.mono HB.out.size)) (b := w.heap.size + 1) (by omega) (.int .i64 LQ) (.int .i64 N) (.slice A5 l.length c5))
  have HTR := Lib.hid ((ht5.put3A (b := w.heap.size + 1) (fun ad e => by have := HLO.out ad e; omega) (by rw [HSZ.out]; omega) (.int .i64 LQ) (.int .i64 N) (.slice A5 l.length c5)).less (S' := w.heap.size) (by rw [HSZ.out]; omega))
  clear hq2 y0 y1 y2 CA b3 ht5 HSZ
  go_wp2_with fail
  exact bodyPost_ret (fii_res Tryd.results19 HR.out rfl rfl rfl) rfl ⟨_, _, rfl, HTR.out, HBR.out⟩

set_option maxRecDepth 100000 in
set_option maxHeartbeats 4000000 in
theorem offer_any (LQ T : Int) (A : Option Addr) (c : Nat) (l : List Msg) (m : Msg) (AF : Option Addr) (cf : Nat) (fs : List (Bool × Int × Int)) (w : World) (LL : Laid w) (hq : QIn w A c l) (hd : m.data.size ≤ 140737488351232) (hf : LieIn w AF fs) (hfl : fs.length ≤ 281474976710656) :
    Calls Tryd.prog 25 #[fiv LQ T A l.length c, mv m, .slice AF fs.length cf] w (FiPost A LQ (offFiT LQ T l m (anyI m.ext m.n fs)) (offFiL LQ T l m (anyI m.ext m.n fs)) (offFiH LQ T l m (anyI m.ext m.n fs)) (offFiE LQ T l m) w) := by
  have q1 := FiAt.new w LQ T A l.length c
  have b1 := Joins.below_alloc1 w (.cells #[.int .i64 LQ, .int .i64 T, .slice A l.length c] 30)
  have q2 := MsgAt.new (w.alloc (.cells #[.int .i64 LQ, .int .i64 T, .slice A l.length c] 30)) m
  have b2 := Joins.below_alloc1 (w.alloc (.cells #[.int .i64 LQ, .int .i64 T, .slice A l.length c] 30)) (.cells (mc m) 26)
  have q3 := FiAt.new ((w.alloc (.cells #[.int .i64 LQ, .int .i64 T, .slice A l.length c] 30)).alloc (.cells (mc m) 26)) 0 0 none 0 0
  have b3 := Joins.below_alloc1 ((w.alloc (.cells #[.int .i64 LQ, .int .i64 T, .slice A l.length c] 30)).alloc (.cells (mc m) 26)) (.cells #[.int .i64 0, .int .i64 0, .slice none 0 0] 30)
  rw [World.size_alloc] at q2
  rw [World.size_alloc, World.size_alloc] at q3
  have b23 := b2.trans (b3.mono b2.size)
  have q1' := q1.on b23
  have q2' := MsgAt.on q2 b3
  have hB := b1.trans (b23.mono b1.size)
  have hsz : (((w.alloc (.cells #[.int .i64 LQ, .int .i64 T, .slice A l.length c] 30)).alloc (.cells (mc m) 26)).alloc (.cells #[.int .i64 0, .int .i64 0, .slice none 0 0] 30)).heap.size = w.heap.size + 3 := by simp only [World.size_alloc]
  obtain ⟨y0, y1, y2⟩ := q1'.cells
  obtain ⟨x0, x1, x2, x3, x4, x5, x6⟩ := q2'.cells
  have HQ2 : Hid (FiAt _ (w.heap.size + 2) 0 0 none 0 0) := Lib.hid q3
  have HB := Lib.hid hB
  have HSZ := Lib.hid hsz
  have HLO := Lib.hid hq.low
  have CA := Lib.hid (ansOffer_any LQ T A c l m AF cf fs _ (LL.below hB) (hq.on hB) hd (hf.below hB) hfl)
  clear q1 q2 b1 b2 b3 b23 hq q1' q2' q3 hB hsz LL hd hf hfl
  generalize offFiT LQ T l m (anyI m.ext m.n fs) = N at *
  generalize offFiL LQ T l m (anyI m.ext m.n fs) = l' at *
  generalize offFiH LQ T l m (anyI m.ext m.n fs) = H at *
  generalize offFiE LQ T l m = E at *
  obtain ⟨e1, n1, s1, i1, q1, k1, d1⟩ := m
  simp only [mc, kpv, kpc] at *
  go_enter Tryd.func25, Tryd.ntmps25
  go_wp2_with fail
  generalize ((w.alloc (.cells #[.int .i64 LQ, .int .i64 T, .slice A l.length c] 30)).alloc (.cells #[.bool e1, .int .i64 n1, .int .i64 s1, .int .i64 i1, .int .i64 q1, .int .i64 k1, .string d1] 26)).alloc (.cells #[.int .i64 0, .int .i64 0, .slice none 0 0] 30) = X at *
  refine CA.out.mono ?_; rintro e w3 ⟨A5, c5, rfl, ht5, b3⟩
  have hq2 := HQ2.out.on b3
  obtain ⟨z0, z1, z2⟩ := hq2.cells
  have zf := hq2.frozen
  have HR := Lib.hid (hq2.set LQ N A5 l'.length c5)
  have HBR := Lib.hid (below_set3 (HB.out.trans (b3.mono HB.out.size)) (b := w.heap.size + 2) (by omega) (.int .i64 LQ) (.int .i64 N) (.slice A5 l'.length c5))
  have HTR := Lib.hid ((ht5.put3A (b := w.heap.size + 2) (fun ad e => by have := HLO.out ad e; omega) (by rw [HSZ.out]; omega) (.int .i64 LQ) (.int .i64 N) (.slice A5 l'.length c5)).less (S' := w.heap.size) (by rw [HSZ.out]; omega))
  clear hq2 y0 y1 y2 x0 x1 x2 x3 x4 x5 x6 CA b3 ht5 HSZ
  go_wp2_with fail
  exact bodyPost_ret (fii_res Tryd.results25 HR.out rfl rfl rfl) rfl ⟨_, _, rfl, HTR.out, HBR.out⟩

end Go.Proofs.YtehajmockicilaaDoor

/-
  Texts split: the program's.
-/
import Derived.Test.YtggeojjiongbbaaFragIter
import Derived.Test.YtggeojjiongbbaaFragSmall
import Derived.RangeFuncNested
namespace Go.Proofs.Ytggeojjiongbbaa
open Go.RowKit Go.Shelf
attribute [local go_sem] Oper.semAt_some

/-- 'l = append(l, n)' where the list's own row lies past the boxes. -/
theorem appended_past {W w1 : World} {n₀ n₁ B : Nat} {t e : TypeId} {size : Nat} {v v' : Value} {k m : Nat} {xs ys : List Value} {tmp : Obj}
    (hv : Boxed W B t v) (hB : B < n₁) (hrow : W.ownsRow n₁ e size v k xs) (hn₁ : n₁ ≤ W.heap.size) (hn₀ : n₀ ≤ B)
    (hown' : w1.ownsRow n₁ e size v' m ys) (hgrow : (W.alloc tmp).grownBy w1 v.ownBlock) :
    Boxed w1 B t v ∧ Boxed (w1.setCell ⟨B, 0, none⟩ v') B t v' ∧ (w1.setCell ⟨B, 0, none⟩ v').ownsRow n₁ e size v' m ys ∧ KeepsOthers W (w1.setCell ⟨B, 0, none⟩ v') ∧ Below n₀ W (w1.setCell ⟨B, 0, none⟩ v') ∧
      ∀ g, g < n₁ → g ≠ B → (w1.setCell ⟨B, 0, none⟩ v').heap[g]? = W.heap[g]? := by
  have hb := (hrow.alloc tmp).lt
  have far : ∀ g, g < n₁ → some g ≠ v.ownBlock := fun g hg e' => by
    have := (hb g e'.symm).1
    omega
  have hb' := hown'.lt
  have far' : ∀ g, g < n₁ → some g ≠ v'.ownBlock := fun g hg e' => by
    have := (hb' g e'.symm).1
    omega
  have hv1 : Boxed w1 B t v := (hv.alloc tmp).kept hgrow (far B hB)
  refine ⟨hv1, hv1.set v', hown'.kept (grownBy_setCell' w1 B v') (.inr (far' B hB).symm), ?_, ?_, ?_⟩
  · refine ((KeepsOthers.alloc W tmp).trans (KeepsOthers.of_grownBy hgrow fun j o ej hj => ?_)).trans (KeepsOthers.setCell _ _ _)
    rcases (hrow.alloc tmp).2 with ⟨rfl, _⟩ | ⟨g, cap, cur, rfl, _, hgb, _⟩
    · simp [Value.ownBlock] at ej
    · obtain rfl : g = j := by simpa [Value.ownBlock] using ej
      rw [hgb] at hj; cases hj; rfl
  · refine (((Below.refl n₀ W).alloc (by omega) tmp).grown hgrow (by simp; omega) fun j ej => ?_).setCell (p := ⟨B, 0, none⟩) hn₀ v'
    have := (hb j ej).1
    omega
  · intro g hg hne
    have h1 : (W.alloc tmp).heap[g]? = W.heap[g]? := Below.heap_alloc W tmp g (by omega)
    have h2 : w1.heap[g]? = (W.alloc tmp).heap[g]? := hgrow.block g (by simp; omega) (far g hg)
    exact ((Below.heap_setCell w1 ⟨B, 0, none⟩ v' g hne).trans h2).trans h1
theorem piece_new (w : World) (x : Pc) : ∀ j u, (pcl' x)[j]? = some u → (w.alloc (.cells (pcl x) 23)).cell? ((⟨w.heap.size, 0, none⟩ : Addr).add j) = some u := by
  intro j u hj
  have e : (⟨w.heap.size, 0, none⟩ : Addr).add j = ⟨w.heap.size, j, none⟩ := by unfold Addr.add; split <;> simp_all
  rw [e, cell_of (heap_alloc_new w _) j]
  have e2 : (pcl x)[j]? = (pcl' x)[j]? := by simp [pcl, pcl']
  rw [e2]; exact hj
theorem pieces_stop (m : Nat) (hm : 1 ≤ m) (b : Nat) (q : Int) (s : ByteArray) (n : Nat) (hz : 1 ≤ s.size ∧ s.size ≤ 20) (hn : 1 ≤ n ∧ n ≤ 16) (w : World) (hB : Boxes w b q s n) :
    SeqStopsK Fence.wide m Try.prog 45 #[.pointer (some ⟨b + 1, 0, none⟩), .pointer (some ⟨b + 2, 0, none⟩), .pointer (some ⟨b, 0, none⟩)] (fun x : Pc => #[pv x]) (Keeps b) (fun ys => ys = splitL q s n) (fun _ => True) (countP s.size n) w := fun l J Jx W hW hJ _ hY h0 =>
  pieces_each m hm l b q s n hz hn J Jx W hJ hY (hB.on hW) h0

set_option maxRecDepth 100000 in
set_option maxHeartbeats 4000000 in
theorem splitS_in (m : Nat) (hm : 4 ≤ m) (q : Int) (s : ByteArray) (n : Nat) (hsp : splitB q s.size n = true) (w : World) :
    CallsIn Fence.wide m Try.prog 12 #[.int .i64 q, .string s, .int .i64 n] w fun e W' =>
      ∃ u, e = .returned (.tuple #[u, .int .i64 0]) ∧ OwnP W' w.heap.size u (splitL q s n) ∧ Below w.heap.size w W' := by
  have h1 : 1 ≤ m := by omega
  obtain ⟨⟨a, b⟩, ⟨z1, z2⟩, n1, n2⟩ := (splitB_iff _ _ _).1 hsp
  obtain ⟨i0, hii, hz0, hz1, hz2⟩ := info_parts pc_info
  have c1 := fun W => (callsIn_wide (n := m - 1)).2 (upTo_any 65535 q W)
  have c2 := fun W => (callsIn_wide (n := m - 1)).2 (upTo_any 20 s.size W)
  have c3 := fun W => (callsIn_wide (n := m - 1)).2 (upTo_any 16 n W)
  rw [show uptoB 65535 q = true by unfold uptoB; simp [a, b]] at c1
  rw [show uptoB 20 s.size = true by unfold uptoB; simp; omega] at c2
  rw [show uptoB 16 n = true by unfold uptoB; simp; omega] at c3
  clear hsp
  have hzz : (s.size : Int) ≤ 20 := by omega
  refine callsIn_of_wp_marks Try.func12 rfl trivial ?_ rfl
  simp only [Try.ntmps12, List.size_toArray, List.length_cons, List.length_nil, Nat.reduceAdd, Nat.reduceSub, Array.replicate_succ, Array.replicate_zero, List.push_toArray, List.append_toArray, List.nil_append, List.cons_append]
  gi_wp2_with fail
  refine ⟨trivial, (c1 _).mono ?_⟩
  rintro e w' ⟨rfl, rfl⟩
  gi_wp2_with fail
  refine ⟨trivial, (c2 _).mono ?_⟩
  rintro e w' ⟨rfl, rfl⟩
  gi_wp2_with fail
  refine ⟨trivial, (c3 _).mono ?_⟩
  rintro e w' ⟨rfl, rfl⟩
  clear c1 c2 c3
  gi_wp2_with fail
  refine ⟨trivial, (pieces_in (m - 1) _ _ _ _).mono ?_⟩
  rintro e w' ⟨rfl, rfl⟩
  gi_wp2_with fail
  have hb1 : Boxed (w.alloc (.cells #[.slice none 0 0] 30)) w.heap.size 30 (.slice none 0 0) := Boxed.new w _ _
  generalize hW1 : w.alloc (.cells #[.slice none 0 0] 30) = X1 at *
  have hs1 : X1.heap.size = w.heap.size + 1 := by rw [← hW1]; simp
  have hB1 : Below w.heap.size w X1 := by rw [← hW1]; exact Joins.below_alloc1 w _
  clear hW1
  have d0 := Boxed.new X1 3 (.int .i64 q)
  have d1 := Boxed.new (X1.alloc (.cells #[.int .i64 q] 3)) 9 (.string s)
  have d2 := Boxed.new ((X1.alloc (.cells #[.int .i64 q] 3)).alloc (.cells #[.string s] 9)) 3 (.int .i64 n)
  have d0' := (d0.alloc (.cells #[.string s] 9)).alloc (.cells #[.int .i64 n] 3)
  have d1' := d1.alloc (.cells #[.int .i64 n] 3)
  have hb4 := ((hb1.alloc (.cells #[.int .i64 q] 3)).alloc (.cells #[.string s] 9)).alloc (.cells #[.int .i64 n] 3)
  simp only [World.size_alloc, hs1] at d0' d1' d2 hb4
  have hB4 : Below w.heap.size w (((X1.alloc (.cells #[.int .i64 q] 3)).alloc (.cells #[.string s] 9)).alloc (.cells #[.int .i64 n] 3)) := ((hB1.alloc (by omega) _).alloc (by simp; omega) _).alloc (by simp; omega) _
  have hs4 : (((X1.alloc (.cells #[.int .i64 q] 3)).alloc (.cells #[.string s] 9)).alloc (.cells #[.int .i64 n] 3)).heap.size = w.heap.size + 4 := by simp; omega
  have hBX : Boxes (((X1.alloc (.cells #[.int .i64 q] 3)).alloc (.cells #[.string s] 9)).alloc (.cells #[.int .i64 n] 3)) (w.heap.size + 1) q s n := ⟨d0', d1', d2⟩
  generalize (((X1.alloc (.cells #[.int .i64 q] 3)).alloc (.cells #[.string s] 9)).alloc (.cells #[.int .i64 n] 3)) = X4 at *
  clear d0 d1 d2 d0' d1' hb1 hB1 hs1
  have hI : OwnFrom X4.heap.size (fun (pre : List Pc) W => (∃ u, Boxed W w.heap.size 30 u ∧ W.ownsRow (w.heap.size + 4) 23 4 u pre.length (lclP pre) ∧ True) ∧ Below w.heap.size w W ∧ w.heap.size + 4 ≤ W.heap.size) :=
    OwnFrom.and (Own.from (holdsRow_own (w.heap.size + 4) w.heap.size 30 23 4 (fun pre : List Pc => pre.length) lclP (fun _ _ => True)) _) (OwnFrom.and (ownFrom_below (Nat.le_refl _) (by omega)) (fun s A B row hs hg hr => Nat.le_trans hs hg.size))
  have hcnt := countP_le s.size n z1 (by omega)
  have HS4 := Lib.hid hs4
  refine wpIn_rangeFunc_ownH rfl h1 (gf := 45) (lb := #[.pointer (some ⟨w.heap.size + 1 + 1, 0, none⟩), .pointer (some ⟨w.heap.size + 1 + 2, 0, none⟩), .pointer (some ⟨w.heap.size + 1, 0, none⟩)]) rfl trivial (enters_of Try.func45 (by kernel_rfl) rfl)
    (pieces_stop (m - 1) (by omega) (w.heap.size + 1) q s n ⟨z1, z2⟩ ⟨by omega, by omega⟩ _ hBX) Keeps.trans (Keeps.past (by omega)) (Below.refl _ _) (fun _ => rfl)
    (fun pre W => (∃ u, Boxed W w.heap.size 30 u ∧ W.ownsRow (w.heap.size + 4) 23 4 u pre.length (lclP pre) ∧ True) ∧ Below w.heap.size w W ∧ w.heap.size + 4 ≤ W.heap.size)
    (fun _ _ _ => False) hI (fun _ _ _ _ _ hs _ _ => hs)
    ⟨⟨_, hb4, World.ownsRow_nil _ _ _ _, trivial⟩, hB4, by omega⟩
    (fun x a' W => ∃ g, w.heap.size + 4 ≤ g ∧ PcAt W g x ∧ a' = { tmps := #[.int .i64 q, .string s, .int .i64 n, undef, undef, undef, .slice none 0 0, .int .i64 0, .pointer (some ⟨w.heap.size, 0, none⟩), .pointer (some ⟨g, 0, none⟩), .int .i64 q, .bool true, .bool false, .bool false, .string s, .int .i64 s.size, .bool true, .bool false, .bool false, .bool false, .int .i64 n, .bool true, .bool false, .bool false, .int .i64 q, .string s, .int .i64 n, .func (.func 45) #[] #[.pointer (some ⟨w.heap.size + 1 + 1, 0, none⟩), .pointer (some ⟨w.heap.size + 1 + 2, 0, none⟩), .pointer (some ⟨w.heap.size + 1, 0, none⟩)], pv x, undef, undef, undef, undef, undef], defers := [] })
    (fun x a' => ?own) ?assign ?body ?done ?stop
  case own =>
    rintro _ X Y row ⟨g, hg0, hp, ha⟩ hg hrow
    refine ⟨g, hg0, (hg.block g (Array.getElem?_eq_some_iff.1 hp).1 fun e' => ?_).trans hp, ha⟩
    obtain ⟨_, o, ho, hc⟩ := hrow g e'.symm
    rw [show X.heap[g]? = _ from hp] at ho; cases ho; cases hc
  case assign =>
    intro l pre x W K hi hK
    have hsz := hi.2.2
    have hi2 := hI.alloc (.cells (pcl x) 23) hi
    have hko := (KeepsOthers.alloc W (.cells (pcl x) 23)).from X4.heap.size
    have hkp : Keeps (w.heap.size + 1) W (W.alloc (.cells (pcl x) 23)) := ⟨Below.heap_alloc _ _ _ (by omega), Below.heap_alloc _ _ _ (by omega), Below.heap_alloc _ _ _ (by omega)⟩
    have hpn := PcAt.new W x
    have HK := Lib.hid (fun a' h => hK a' _ hko hkp hi2 h)
    clear hK hko hkp hi2 hi
    obtain ⟨x1, x2, x3, x4⟩ := x
    simp only [pv, pcl] at *
    gi_wp2
    refine HK.out _ ⟨W.heap.size, by omega, hpn, ?_⟩
    rfl
  case body =>
    rintro l pre x a' W - - ⟨⟨u, hv, hrow, _⟩, hB, hW2⟩ ⟨g, hg0, hp, rfl⟩ hlt
    have hc := hv.cell
    have hm := hp.cells
    have hmm := Lib.hid hlt; clear hlt
    obtain ⟨x1, x2, x3, x4⟩ := x
    simp only at hm
    obtain ⟨m0, m1, m2, m3⟩ := hm
    simp only [pv] at *
    gi_wp2_with (gi_at_builtin; refine wpListIn_append_own _ rfl _ _ 30 rfl (w.heap.size + 4) 23 i0 (pv zeroP) 4 40 Try.underlying30 hii hz0 hz1 hz2 rfl (by decide) _ _ _ rfl (hrow.alloc _) ⟨W.heap.size, 0, none⟩ 1 1 (pcl' ⟨x1, x2, x3, x4⟩) rfl rfl (piece_new W ⟨x1, x2, x3, x4⟩) (fun y hy => by simp [pcl'] at hy; rcases hy with rfl | rfl | rfl | rfl <;> rfl) (by simp only [maxLen]; have := hmm.out; omega) (by have := hmm.out; omega) (by simp; omega) ?_; intro v' w1 hown' hgrow _; obtain ⟨g', cap', rfl⟩ := ownsRow_succ hown'; obtain ⟨hv1, hv2, hr2, hk2, hb2, hkp⟩ := appended_past hv (by omega) hrow hW2 (Nat.le_refl _) hown' hgrow; have hc1 := hv1.cell; have hf1 := hv1.frozen)
    have hsz2 := hk2.size
    exact ⟨hk2.from _, ⟨hkp _ (by omega) (by omega), hkp _ (by omega) (by omega), hkp _ (by omega) (by omega)⟩, ⟨⟨_, hv2, by rw [List.length_append, lclP_append]; exact hr2, trivial⟩, hB.trans hb2, by omega⟩⟩
  case done =>
    rintro D ys W hD rfl ⟨⟨u, hv, hrow, _⟩, hB, _⟩ hK
    have hc := hv.cell
    gi_wp2
    refine ⟨by simp, .inl ⟨_, _, rfl, run_takeDeferred hK, ?_⟩⟩
    have h2 := ownsRow_putObj hrow (.deferred none) hK rfl
    refine ⟨_, results_tmp2 rfl _ _ _, u, rfl, ownsRow_base (show World.ownsRow _ _ _ _ _ _ _ from h2) (by omega), hB.trans (belowK_b (w := w) (Nat.le_refl _) W D _ _ (by omega) hK rfl rfl)⟩
  case stop =>
    rintro D c pre W _ _ h _
    exact h.elim

set_option maxHeartbeats 1000000 in
theorem splitP_any (q : Int) (s : ByteArray) (n : Int) (hs : s.size ≤ maxLen) (w : World) :
    Calls Try.prog 12 #[.int .i64 q, .string s, .int .i64 n] w (SplitPost q s n w) := by
  unfold maxLen at hs
  cases hsp : splitB q s.size n
  · have HF := Lib.hid hsp
    have hsp2 : splitB q s.size n = (uptoB 65535 q && (uptoB 20 s.size && uptoB 16 n)) := by
      unfold splitB uptoB smallB
      have e1 : decide (1 ≤ s.size) = decide ((1 : Int) ≤ s.size) := by rw [decide_eq_decide]; omega
      have e2 : decide (s.size ≤ 20) = decide ((s.size : Int) ≤ 20) := by rw [decide_eq_decide]; omega
      rw [e1, e2]
      simp only [Bool.and_assoc]
    rw [hsp] at hsp2
    clear hsp
    have c1 := fun W => upTo_any 65535 q W
    have c2 := fun W => upTo_any 20 s.size W
    have c3 := fun W => upTo_any 16 n W
    generalize uptoB 65535 q = B1 at *
    generalize uptoB 20 s.size = B2 at *
    generalize uptoB 16 n = B3 at *
    cases B1
    · clear hsp2
      go_enter Try.func12, Try.ntmps12
      go_wp2_with fail; refine (c1 _).mono ?_; rintro e w1 ⟨rfl, rfl⟩
      go_wp2_with fail
      go_ret2
      exact split_none HF.out (Below.refl _ _)
    · cases B2
      · clear hsp2
        go_enter Try.func12, Try.ntmps12
        go_wp2_with fail; refine (c1 _).mono ?_; rintro e w1 ⟨rfl, rfl⟩
        go_wp2_with fail; refine (c2 _).mono ?_; rintro e w1 ⟨rfl, rfl⟩
        go_wp2_with fail
        go_ret2
        exact split_none HF.out (Below.refl _ _)
      · have hb3 : B3 = false := by simpa using hsp2.symm
        subst hb3
        clear hsp2
        go_enter Try.func12, Try.ntmps12
        go_wp2_with fail; refine (c1 _).mono ?_; rintro e w1 ⟨rfl, rfl⟩
        go_wp2_with fail; refine (c2 _).mono ?_; rintro e w1 ⟨rfl, rfl⟩
        go_wp2_with fail; refine (c3 _).mono ?_; rintro e w1 ⟨rfl, rfl⟩
        go_wp2_with fail
        go_ret2
        exact split_none HF.out (Below.refl _ _)
  · obtain ⟨_, _, n1, n2⟩ := (splitB_iff _ _ _).1 hsp
    obtain ⟨k, rfl⟩ : ∃ k : Nat, n = k := ⟨n.toNat, by omega⟩
    refine (callsIn_wide.1 (splitS_in 4 (Nat.le_refl _) q s k hsp w)).mono ?_
    rintro e w' ⟨u, rfl, ho, hb⟩
    exact split_some hsp (by rw [Int.toNat_natCast]; exact ho) hb

end Go.Proofs.Ytggeojjiongbbaa

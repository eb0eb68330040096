/-
  How many rounds ago each node was heard: the program's Ages.
-/
import Derived.Test.YtplnmkeopdmanaaCliAlive
import Derived.Test.YtplnmkeopdmanaaOnceIn
namespace Go.Proofs.Ytplnmkeopdmanaa
open Go.RowKit Go.Shelf
attribute [local go_sem] Oper.semAt_some

def ageV (h : Int) (x : Pd) : Int := if hasB h x.1 then 0 else olderI x.2
def agesL (h : Int) (ps : List Pd) : List Int := ps.map (ageV h)
theorem ages_snoc (h : Int) (ps : List Pd) (x : Pd) : agesL h (ps ++ [x]) = agesL h ps ++ [ageV h x] := by unfold agesL; rw [List.map_append]; rfl
theorem ages_length (h : Int) (ps : List Pd) : (agesL h ps).length = ps.length := by unfold agesL; simp

theorem ownsRow_on {w w' : World} {B : Nat} {e : TypeId} {size n : Nat} {u : Value} {xs : List Value} (h : w.ownsRow B e size u n xs) (hb : Below w.heap.size w w') : w'.ownsRow B e size u n xs := by
  refine ⟨h.1, h.2.imp id ?_⟩
  rintro ⟨g, cap, cur, e1, e2, e3, e4⟩
  exact ⟨g, cap, cur, e1, e2, (hb.block g (Array.getElem?_eq_some_iff.1 e3).1).trans e3, e4⟩
theorem own_far {w w' : World} {B : Nat} {e : TypeId} {k n : Nat} {u : Value} {xs : List Value} (h : w.ownsRow B e k u n xs) (hk : ∀ g, u.ownBlock = some g → w'.heap[g]? = w.heap[g]?) : w'.ownsRow B e k u n xs := by
  refine ⟨h.1, h.2.imp id ?_⟩
  rintro ⟨g, cap, cur, rfl, e2, e3, e4⟩
  exact ⟨g, cap, cur, rfl, e2, (hk g rfl).trans e3, e4⟩
theorem KeepsOthers.of_below {W W' : World} (h : Below W.heap.size W W') : KeepsOthers W W' := ⟨h.size, fun k _ hk _ => (h.block k (Array.getElem?_eq_some_iff.1 hk).1).trans hk⟩
/-- What a round's region keeps: all blocks below M + 3, but M + 1. -/
def AgeW (M : Nat) (W wv : World) : Prop := (∀ k, k < M + 3 → k ≠ M + 1 → wv.heap[k]? = W.heap[k]?) ∧ Below M W wv ∧ KeepsOthers W wv ∧ M + 3 ≤ wv.heap.size
theorem AgeW.on {M : Nat} {W wv w' : World} (h : AgeW M W wv) (hb : Below wv.heap.size wv w') : AgeW M W w' :=
  ⟨fun k hk hn => (hb.block k (by have := h.2.2.2; omega)).trans (h.1 k hk hn), h.2.1.trans (hb.mono (by have := h.2.2.2; omega)), h.2.2.1.trans (KeepsOthers.of_below hb), Nat.le_trans h.2.2.2 hb.size⟩
theorem AgeW.grown {M : Nat} {W wv w' : World} (h : AgeW M W wv) {u : Value} {k : Nat} {xs : List Value} (ho : wv.ownsRow (M + 3) 3 1 u k xs) (hg : wv.grownBy w' u.ownBlock) : AgeW M W w' := by
  refine ⟨fun j hj hn => (hg.block j (by have := h.2.2.2; omega) fun e => ?_).trans (h.1 j hj hn), h.2.1.grown hg (by have := h.2.2.2; omega) (fun g e => ?_), h.2.2.1.trans (KeepsOthers.of_grownBy hg fun j _ ej hj => ?_), Nat.le_trans h.2.2.2 hg.size⟩
  · have := (ho.lt j e.symm).1; omega
  · have := (ho.lt g e).1; omega
  · rcases ho.2 with ⟨rfl, _⟩ | ⟨g, cap, cur, rfl, _, hgb, _⟩
    · simp [Value.ownBlock] at ej
    · obtain rfl : g = j := by simpa [Value.ownBlock] using ej
      rw [hgb] at hj; cases hj; rfl
theorem AgeW.set {M : Nat} {W wv : World} (h : AgeW M W wv) (v : Value) : AgeW M W (wv.setCell ⟨M + 1, 0, none⟩ v) :=
  ⟨fun k hk hn => (Below.heap_setCell _ _ _ _ (by show k ≠ M + 1; exact hn)).trans (h.1 k hk hn), h.2.1.setCell (p := ⟨M + 1, 0, none⟩) (by show M ≤ M + 1; omega) v, h.2.2.1.trans (KeepsOthers.setCell _ _ _), by rw [World.size_setCell]; exact h.2.2.2⟩
theorem wpIn_append_op {F : Fence} {n : Nat} {P : Program} (w : World) {o : Oper} {a : Act} {K : Act → World → Prop} {Q : Exit → Act → World → Prop}
    (s x : Operand) (t : TypeId) (hop : o.op = Op.call { callee := Callee.builtin Builtin.append, args := #[s, x], argTypes := #[t, t] })
    (base : Nat) (e : TypeId) (i : TypeInfo) (z : Value) (size bytes : Nat) (h1 : P.underlying t = some (.slice e)) (h2 : P.info? e = some i) (h3 : i.zero = some z) (h4 : i.size = size) (h5 : i.bytes = bytes) (h6 : z.cells.size = size) (h7 : 0 < size)
    (v : Value) (k : Nat) (xs : List Value) (hs : a.eval s = v) (hown : w.ownsRow base e size v k xs) (ad : Addr) (m c : Nat) (news : List Value) (hx : a.eval x = .slice (some ad) m c) (hn : news.length = m * size)
    (hc : ∀ j u, news[j]? = some u → w.cell? (ad.add j) = some u) (h1c : ∀ u ∈ news, u.oneCell' = true) (b1 : k + m ≤ maxLen) (b2 : (k + m) * bytes ≤ 140737488355328) (b3 : base ≤ w.heap.size)
    (hK : ∀ v' w', w'.ownsRow base e size v' (k + m) (xs ++ news) → w.grownBy w' v.ownBlock → K (a.put o.dst v') w') : o.wpIn F n P a w K Q := by
  obtain ⟨v', w', hrun, r1, r2, -⟩ := run_append_own (P := P) w base t o.type e i z size bytes h1 h2 h3 h4 h5 h6 h7 v k xs hown ad m c news hn hc h1c b1 b2 b3
  unfold Oper.wpIn
  refine ⟨?_, ?_⟩
  · simp [Oper.about, hop, resolve, Target.leads, Sem.run_pure]
  · rw [Oper.semAt_plain F _ _ (by rw [hop]; intro c hc'; cases hc')]
    simp [execOp, hop, resolve, invoke, builtin, hs, hx, hrun, Result.andThen]
    exact hK v' w' r1 r2
theorem one_cell_at {W : World} {g : Nat} {x : Value} {T : TypeId} (h : W.heap[g]? = some (.cells #[x] T (0, 0))) : ∀ j u, [x][j]? = some u → W.cell? ((⟨g, 0, none⟩ : Addr).add j) = some u := by
  intro j u hu
  have e : ((⟨g, 0, none⟩ : Addr).add j) = ⟨g, j, none⟩ := by unfold Addr.add; split <;> simp_all
  rw [e, cell_of h j]
  simpa using hu

set_option maxRecDepth 100000 in
set_option maxHeartbeats 2000000 in
theorem ages9_in (m : Nat) (hm : 4 ≤ m) (h : Int) (A : Option Addr) (c : Nat) (l : List Int) (hl : l.length ≤ maxLen) (w : World) (hr : Row w w.heap.size A l) :
    CallsIn Fence.wide m Try.prog 16 #[.int .i64 h, .slice A l.length c] w fun e W' => ∃ u, e = .returned u ∧ W'.ownsRow w.heap.size 3 1 u (agesL h (placed (l.take 16))).length ((agesL h (placed (l.take 16))).map (Value.int .i64)) ∧ Below w.heap.size w W' := by
  have h1 : 1 ≤ m := by omega
  obtain ⟨i0, hi0, hz0, hz1, hz2⟩ := info_parts int_info
  refine callsIn_of_wp_marks Try.func16 rfl trivial ?_ rfl
  simp only [Try.ntmps16, List.size_toArray, List.length_cons, List.length_nil, Nat.reduceAdd, Nat.reduceSub, Array.replicate_succ, Array.replicate_zero, List.push_toArray, List.append_toArray, List.nil_append, List.cons_append]
  gi_wp2_with fail
  refine ⟨trivial, (ages_in (m - 1) _ _ _ _).mono ?_⟩
  rintro e w' ⟨rfl, rfl⟩
  gi_wp2_with fail
  have hr2 : Row w w.heap.size A l := hr
  have bP := Boxed.new w 3 (.int .i64 h)
  have hB1 := Joins.below_alloc1 w (.cells #[.int .i64 h] 3)
  obtain ⟨X1, hX1⟩ : ∃ W, W = w.alloc (.cells #[.int .i64 h] 3) := ⟨_, rfl⟩
  have hs1 : X1.heap.size = w.heap.size + 1 := by rw [hX1, World.size_alloc]
  rw [← hX1] at bP hB1
  have bV := Boxed.new X1 30 (.slice none 0 0)
  have hb2 := Joins.below_alloc1 X1 (.cells #[.slice none 0 0] 30)
  have bP2 := bP.alloc (.cells #[.slice none 0 0] 30)
  obtain ⟨X2, hX2⟩ : ∃ W, W = X1.alloc (.cells #[.slice none 0 0] 30) := ⟨_, rfl⟩
  have hs2 : X2.heap.size = w.heap.size + 2 := by rw [hX2, World.size_alloc, hs1]
  rw [← hX2] at bV hb2 bP2
  rw [hs1] at bV
  have hB2 := hB1.trans (hb2.mono (by omega))
  have bP3 := bP2.alloc (.cells #[.slice A l.length c] 30)
  have bV3 := bV.alloc (.cells #[.slice A l.length c] 30)
  have bA := BxS.new X2 A l.length c
  have hb3 := Joins.below_alloc1 X2 (.cells #[.slice A l.length c] 30)
  have hB3 := hB2.trans (hb3.mono (by omega))
  rw [← hX1, ← hX2]
  obtain ⟨X3, hX3⟩ : ∃ W, W = X2.alloc (.cells #[.slice A l.length c] 30) := ⟨_, rfl⟩
  have hs3 : X3.heap.size = w.heap.size + 3 := by rw [hX3, World.size_alloc, hs2]
  rw [← hX3] at bP3 bV3 bA hB3 ⊢
  rw [hs2] at bA
  have hrow := hr.below hB3 (Nat.le_refl _)
  clear bP bV bP2 hB1 hb2 hb3 hB2 hX1 hX2 hX3 hs1 hs2 hr hr2 X1 X2
  refine wpIn_rangeFunc_ownG rfl h1 (gf := 34) (lb := #[.pointer (some ⟨w.heap.size + 2, 0, none⟩)]) rfl trivial (enters_of Try.func34 (by kernel_rfl) rfl)
    (each_stop (m - 1) (by omega) (w.heap.size + 2) w.heap.size A c l hl _ bA hrow (by omega)) KeepsP.trans (KeepsP.past (by omega) (by omega)) (Below.refl _ _) (fun _ => rfl)
    (fun pre W => (∃ u, Boxed W (w.heap.size + 1) 30 u ∧ W.ownsRow (w.heap.size + 3) 3 1 u (agesL h pre).length ((agesL h pre).map (Value.int .i64)) ∧ True) ∧ Boxed W w.heap.size 3 (.int .i64 h) ∧ Below w.heap.size w W ∧ w.heap.size + 3 ≤ W.heap.size)
    (fun _ _ _ => False)
    (OwnFrom.and (Own.from (holdsRow_own (w.heap.size + 3) (w.heap.size + 1) 30 3 1 (fun pre : List Pd => (agesL h pre).length) (fun pre => (agesL h pre).map (Value.int .i64)) (fun _ _ => True)) _) (OwnFrom.and (Own.from (boxed_own _ _ _) _) (OwnFrom.and (ownFrom_below (Nat.le_refl _) (by omega)) (fun s A B row hs hg hr => Nat.le_trans hs hg.size))))
    (fun _ _ _ _ _ hs _ _ => hs)
    ⟨⟨_, bV3, World.ownsRow_nil _ _ _ _, trivial⟩, bP3, hB3, by omega⟩
    (fun x => { tmps := #[.int .i64 h, .slice A l.length c, .pointer (some ⟨w.heap.size, 0, none⟩), undef, .slice none 0 0, .pointer (some ⟨w.heap.size + 1, 0, none⟩), .int .i64 (x.1 : Int), .int .i64 x.2, .slice A l.length c, .func (.func 34) #[] #[.pointer (some ⟨w.heap.size + 2, 0, none⟩)], .int .i64 (x.1 : Int), .int .i64 x.2, undef, undef, undef, undef, undef, undef, undef, undef, undef, undef, undef, undef], defers := [] }) ?assign ?body ?done ?stop
  case assign =>
    intro l x W K hK
    gi_wp2
    simpa using hK
  case body =>
    rintro r pre ⟨k, x⟩ W ⟨⟨u0, hv, hrw, _⟩, hp, hB, hW2⟩ hlt
    have hc := hv.cell
    have hpc := hp.cell
    have HS := Lib.hid (ages_snoc h pre (k, x))
    have hpl : (agesL h pre).length < 16 := by rw [ages_length]; have := List.length_take (i := 16) (l := l); omega
    have cw := fun W => CallsIn.inRound r (callsIn_wide (n := m - 1 - 1 - 1) |>.2 (has_any h k W))
    have ct := fun W => older_any x W
    have HP := Lib.hid hp
    have HB := Lib.hid hB
    clear hlt hp hB
    generalize hL : agesL h pre = L at *
    cases hii : hasB h k
    · have HX : Hid (ageV h (k, x) = olderI x) := Lib.hid (by unfold ageV; rw [hii]; rfl)
      rw [hii] at cw
      rw [HX.out] at HS
      clear hii
      generalize olderI x = X at *
      gi_wp2_with fail
      refine ⟨trivial, fun _ => by omega, (cw _).mono ?_⟩
      rintro e w1 ⟨rfl, rfl⟩
      clear cw
      gi_wp2_with fail
      have HV := Lib.hid hv
      have HROW := Lib.hid hrw
      have HHW : Hid (AgeW w.heap.size W W) := Lib.hid ⟨fun _ _ _ => rfl, Below.refl _ _, KeepsOthers.refl _, hW2⟩
      have HPL := Lib.hid hpl
      have CT := Lib.hid ct
      generalize hk9 : L.length = k9 at *
      have HLL := Lib.hid hk9
      generalize hXS : L.map (Value.int .i64) = XS at *
      have HXS := Lib.hid hXS
      clear hXS hk9 hv hrw hpl ct
      have HV : ∃ Vp : Nat → (Nat → Value) → World → Prop, Vp = (fun ix u wv => match ix with
        | 0 => u 0 = u0
        | 1 => u 1 = .int .i64 x
        | 2 => u 2 = .int .i64 X
        | 3 => ∃ g, u 3 = .slice (some ⟨g, 0, none⟩) 1 1 ∧ wv.heap[g]? = some (.cells #[.int .i64 X] 3 (0, 0))
        | 4 => ∃ g9 c9, u 4 = .slice (some ⟨g9, 0, none⟩) (k9 + 1) c9 ∧ wv.ownsRow (w.heap.size + 3) 3 1 (.slice (some ⟨g9, 0, none⟩) (k9 + 1) c9) (k9 + 1) (XS ++ [.int .i64 X])
        | 5 => ∃ g9 c9, Boxed wv (w.heap.size + 1) 30 (.slice (some ⟨g9, 0, none⟩) (k9 + 1) c9) ∧ wv.ownsRow (w.heap.size + 3) 3 1 (.slice (some ⟨g9, 0, none⟩) (k9 + 1) c9) (k9 + 1) (XS ++ [.int .i64 X])
        | _ => True) := ⟨_, rfl⟩
      obtain ⟨Vp, hVdef⟩ := HV
      have Vp0 : ∀ u wv, Vp 0 u wv = (u 0 = u0) := fun u wv => by subst hVdef; rfl
      have Vp1 : ∀ u wv, Vp 1 u wv = (u 1 = .int .i64 x) := fun u wv => by subst hVdef; rfl
      have Vp2 : ∀ u wv, Vp 2 u wv = (u 2 = .int .i64 X) := fun u wv => by subst hVdef; rfl
      have Vp3 : ∀ u wv, Vp 3 u wv = (∃ g, u 3 = .slice (some ⟨g, 0, none⟩) 1 1 ∧ wv.heap[g]? = some (.cells #[.int .i64 X] 3 (0, 0))) := fun u wv => by subst hVdef; rfl
      have Vp4 : ∀ u wv, Vp 4 u wv = (∃ g9 c9, u 4 = .slice (some ⟨g9, 0, none⟩) (k9 + 1) c9 ∧ wv.ownsRow (w.heap.size + 3) 3 1 (.slice (some ⟨g9, 0, none⟩) (k9 + 1) c9) (k9 + 1) (XS ++ [.int .i64 X])) := fun u wv => by subst hVdef; rfl
      have Vp5 : ∀ u wv, Vp 5 u wv = (∃ g9 c9, Boxed wv (w.heap.size + 1) 30 (.slice (some ⟨g9, 0, none⟩) (k9 + 1) c9) ∧ wv.ownsRow (w.heap.size + 3) 3 1 (.slice (some ⟨g9, 0, none⟩) (k9 + 1) c9) (k9 + 1) (XS ++ [.int .i64 X])) := fun u wv => by subst hVdef; rfl
      have HVD := Lib.hid hVdef
      clear hVdef
      refine region_phaseIn (hF := fun _ => trivial) (V := Vp) (drop := fun jx ix => (jx == 4 && ix == 3) || (jx == 5 && ix == 4) || (jx == 5 && ix == 3)) (G := fun L wv => (L 4 = false → wv.ownsRow (w.heap.size + 3) 3 1 u0 k9 XS) ∧ (L 5 = false → Boxed wv (w.heap.size + 1) 30 u0) ∧ AgeW w.heap.size W wv) (Rel := fun jx wv wv' => jx = 4 ∨ jx = 5 ∨ Below wv.heap.size wv wv') (by kernel_rfl) (by kernel_rfl) ⟨fun _ => ownsRow_on HROW.out (Below.refl _ _).drew, fun _ => (((Below.refl _ W).drew).block _ HV.out.lt).trans HV.out, HHW.out.on (Below.refl _ _).drew⟩ ?hmonop1 ?hdepp1 ⟨?s0_p1, ?s1_p1, ?s2_p1, ?s3_p1, ?s4_p1, ?s5_p1, trivial⟩ ?behindp1
      case hmonop1 =>
        intro ix jx u wv wv' hij hw hd hr
        rw [HVD.out]
        dsimp only
        split <;> intro h <;> first | exact trivial | exact h | (rcases hr with rfl | rfl | hb; (focus first | exact absurd rfl hij | (simp at hd; done) | (exact Bool.noConfusion (hw.symm.trans (show _ = true from by kernel_rfl)))); (focus first | exact absurd rfl hij | (simp at hd; done) | (exact Bool.noConfusion (hw.symm.trans (show _ = true from by kernel_rfl)))); (first | (obtain ⟨g, e, hg⟩ := h; exact ⟨g, e, (hb.block g (Array.getElem?_eq_some_iff.1 hg).1).trans hg⟩) | (obtain ⟨g9, c9, e, ho⟩ := h; exact ⟨g9, c9, (hb.block _ e.lt).trans e, ownsRow_on ho hb⟩) | (obtain ⟨g9, c9, e, ho⟩ := h; exact ⟨g9, c9, e, ownsRow_on ho hb⟩)))
      case hdepp1 =>
        intro ix u u' wv h1 h2
        rw [HVD.out]
        dsimp only
        split <;> intro h <;> first | exact trivial | (rw [← h1]; exact h) | exact h
      case s0_p1 =>
        refine owePIn rfl fun a wx val L hG hi hW hV hN hO K hK => ?_
        have e5 : a.tmps[5]? = some (.pointer (some ⟨w.heap.size + 1, 0, none⟩)) := (hO 5 (by kernel_rfl)).trans (by rfl)
        clear hV hN hO
        have y0 := (hG.2.1 (hW 5 (by kernel_rfl))).cell
        go_simp
        exact hK.out _ _ (by rw [Vp0, upd_at] <;> (congr 1 <;> omega)) (.inr (.inr (Below.refl _ _))) (⟨fun h => hG.1 (upL_false h), fun h => hG.2.1 (upL_false h), hG.2.2⟩)
      case s1_p1 =>
        refine owePIn rfl fun a wx val L hG hi hW hV hN hO K hK => ?_
        have e7 : a.tmps[7]? = some (.int .i64 x) := (hO 7 (by kernel_rfl)).trans (by rfl)
        clear hV hN hO
        go_simp
        exact hK.out _ _ (by rw [Vp1, upd_at] <;> (congr 1 <;> omega)) (.inr (.inr (Below.refl _ _))) (⟨fun h => hG.1 (upL_false h), fun h => hG.2.1 (upL_false h), hG.2.2⟩)
      case s2_p1 =>
        refine owePIn rfl fun a wx val L hG hi hW hV hN hO K hK => ?_
        have e19 := hN 1 19 (by kernel_rfl) (by kernel_rfl) (by simp)
        have f19 := hV 1 (by kernel_rfl) (by kernel_rfl)
        rw [Vp1] at f19; rw [f19] at e19; clear f19
        clear hV hN hO
        go_simp
        refine ⟨trivial, fun _ => by omega, (CallsIn.inRound r (callsIn_wide.2 (CT.out _))).mono ?_⟩
        rintro e w11 ⟨rfl, rfl⟩
        exact hK.out _ _ (by rw [Vp2, upd_at]) (.inr (.inr (Below.refl _ _))) (⟨fun h => hG.1 (upL_false h), fun h => hG.2.1 (upL_false h), hG.2.2⟩)
      case s3_p1 =>
        refine owePIn rfl fun a wx val L hG hi hW hV hN hO K hK => ?_
        have e20 := hN 2 20 (by kernel_rfl) (by kernel_rfl) (by simp)
        have f20 := hV 2 (by kernel_rfl) (by kernel_rfl)
        rw [Vp2] at f20; rw [f20] at e20; clear f20
        clear hV hN hO
        go_simp
        have hb := Joins.below_alloc1 wx (.cells #[.int .i64 X] 3)
        exact hK.out _ _ (by rw [Vp3, upd_at]; exact ⟨_, rfl, heap_new _ _⟩) (.inr (.inr hb)) (⟨fun h => ownsRow_on (hG.1 (upL_false h)) hb, fun h => (hb.block _ (hG.2.1 (upL_false h)).lt).trans (hG.2.1 (upL_false h)), hG.2.2.on hb⟩)
      case s4_p1 =>
        refine owePIn rfl fun a wx val L hG hi hW hV hN hO K hK => ?_
        have e18 := hN 0 18 (by kernel_rfl) (by kernel_rfl) (by simp)
        have f18 := hV 0 (by kernel_rfl) (by kernel_rfl)
        rw [Vp0] at f18; rw [f18] at e18; clear f18
        have e21 := hN 3 21 (by kernel_rfl) (by kernel_rfl) (by simp)
        have f21 := hV 3 (by kernel_rfl) (by kernel_rfl)
        rw [Vp3] at f21; obtain ⟨g, hv, hgg⟩ := f21; rw [hv] at e21
        clear hV hN hO
        have hOw := hG.1 hi
        have hbx := hG.2.1 (hW 5 (by kernel_rfl))
        refine wpIn_append_op wx (.tmp 18) (.tmp 21) 30 rfl (w.heap.size + 3) 3 i0 (.int .i64 0) 1 8 Try.underlying30 hi0 hz0 hz1 hz2 rfl (by decide) u0 k9 XS (by simp [Act.eval, e18]) hOw ⟨g, 0, none⟩ 1 1 [.int .i64 X] (by simp [Act.eval, e21]) rfl (one_cell_at hgg) (by simp [Value.oneCell']) (by have := HPL.out; unfold maxLen; omega) (by have := HPL.out; omega) hG.2.2.2.2.2 ?_
        intro u' w5 hown5 hg5
        obtain ⟨g9, c9, rfl⟩ := ownsRow_succ (k := k9) hown5
        exact hK.out _ _ (by rw [Vp4, upd_at]; exact ⟨g9, c9, rfl, hown5⟩) (.inl rfl) ⟨fun h => (upL_self h).elim, fun _ => (hg5.block _ hbx.lt fun e => by have := (hOw.lt _ e.symm).1; omega).trans hbx, hG.2.2.grown hOw hg5⟩
      case s5_p1 =>
        refine owePIn rfl fun a wx val L hG hi hW hV hN hO K hK => ?_
        have e5 : a.tmps[5]? = some (.pointer (some ⟨w.heap.size + 1, 0, none⟩)) := (hO 5 (by kernel_rfl)).trans (by rfl)
        have e22 := hN 4 22 (by kernel_rfl) (by kernel_rfl) (by simp)
        have f22 := hV 4 (by kernel_rfl) (by kernel_rfl)
        rw [Vp4] at f22; obtain ⟨g9, c9, hv, hoo⟩ := f22; rw [hv] at e22
        clear hV hN hO
        have hbx := hG.2.1 hi
        have y0 := hbx.cell
        have hf := hbx.frozen
        go_simp
        exact hK.out undef (wx.setCell ⟨w.heap.size + 1, 0, none⟩ (.slice (some ⟨g9, 0, none⟩) (k9 + 1) c9)) (by rw [Vp5]; exact ⟨g9, c9, hbx.set _, own_far hoo (fun g hg => Below.heap_setCell _ _ _ _ (by show g ≠ w.heap.size + 1; have := (hoo.lt g hg).1; omega))⟩) (.inr (.inl rfl)) ⟨fun h => own_far (hG.1 (upL_false h)) (fun g hg => Below.heap_setCell _ _ _ _ (by show g ≠ w.heap.size + 1; have := ((hG.1 (upL_false h)).lt g hg).1; omega)), fun h => (upL_self h).elim, hG.2.2.set _⟩
      intro val wx L hG hV
      have f0 := hV 0 (by simp) (fun _ _ => by simp)
      rw [Vp0] at f0
      have f1 := hV 1 (by simp) (fun _ _ => by simp)
      rw [Vp1] at f1
      have f2 := hV 2 (by simp) (fun _ _ => by simp)
      rw [Vp2] at f2
      have f5 := hV 5 (by simp) (fun _ _ => by simp)
      rw [Vp5] at f5
      clear hV Vp0 Vp1 Vp2 Vp3 Vp4 Vp5
      simp only [putAll, Act.put, List.setIfInBounds_toArray, List.set_cons_zero, List.set_cons_succ]
      generalize val 0 = z0 at *; (subst f0)
      generalize val 1 = z1 at *; (subst f1)
      generalize val 2 = z2 at *; (subst f2)
      generalize val 3 = z3 at *
      generalize val 4 = z4 at *
      clear HVD
      obtain ⟨g9, c9, hv2, hr2⟩ := f5
      gi_wp2_with fail
      exact ⟨hG.2.2.2.2.1.from _, ⟨hG.2.2.1 _ (by omega) (by omega), fun j hj => hG.2.2.1 _ (by omega) (by omega)⟩, ⟨⟨_, hv2, by rw [HS.out, List.length_append, List.map_append, HLL.out, HXS.out]; exact hr2, trivial⟩, Eq.trans (hG.2.2.1 w.heap.size (by omega) (by omega)) HP.out, HB.out.trans hG.2.2.2.1, hG.2.2.2.2.2⟩⟩
    · have HX : Hid (ageV h (k, x) = 0) := Lib.hid (by unfold ageV; rw [hii]; rfl)
      rw [hii] at cw
      rw [HX.out] at HS
      clear hii
      gi_wp2_with fail
      refine ⟨trivial, fun _ => by omega, (cw _).mono ?_⟩
      rintro e w1 ⟨rfl, rfl⟩
      clear cw ct
      gi_wp2_with (gi_at_builtin; refine wpListIn_append_own _ rfl _ _ 30 rfl (w.heap.size + 3) 3 i0 (.int .i64 0) 1 8 Try.underlying30 hi0 hz0 hz1 hz2 rfl (by decide) _ _ _ rfl (hrw.alloc _) ⟨W.heap.size, 0, none⟩ 1 1 [.int .i64 0] rfl rfl (cell_one_new _ _ _) (by simp [Value.oneCell']) (by simp only [maxLen]; omega) (by omega) (by simp; omega) ?_; intro v' w1 hown' hgrow _; obtain ⟨g', cap', rfl⟩ := ownsRow_succ hown'; obtain ⟨hv1, hv2, hr2, hk2, hb2, hkp⟩ := appended_past (n₀ := w.heap.size) hv (by omega) hrw hW2 (by omega) hown' hgrow; have hc1 := hv1.cell; have hf1 := hv1.frozen)
      have hsz2 := hk2.size
      exact ⟨hk2.from _, ⟨hkp _ (by omega) (by omega), fun j hj => hkp _ (by omega) (by omega)⟩, ⟨⟨_, hv2, by rw [HS.out]; simpa using hr2, trivial⟩, Eq.trans (hkp w.heap.size (by omega) (by omega)) HP.out, HB.out.trans hb2, by omega⟩⟩
  case done =>
    rintro D ys W hD rfl ⟨⟨u, hv, hrow, _⟩, -, hB, _⟩ hK
    have hc := hv.cell
    gi_wp2
    refine ⟨by simp, .inl ⟨_, _, rfl, run_takeDeferred hK, ?_⟩⟩
    have h2 := ownsRow_putObj hrow (.deferred none) hK rfl
    refine ⟨_, results_tmp rfl _ _ _, u, rfl, ⟨h2.1, h2.2.imp id ?_⟩, hB.trans (belowK_b (w := w) (Nat.le_refl _) W D _ _ (by omega) hK rfl rfl)⟩
    rintro ⟨g, cap, cur, e1, e2, e3⟩
    exact ⟨g, cap, cur, e1, by omega, e3⟩
  case stop =>
    rintro D c pre W _ _ h _
    exact h.elim

theorem ages_any (h : Int) (A : Option Addr) (c : Nat) (l : List Int) (hl : l.length ≤ maxLen) (w : World) (hr : Row w w.heap.size A l) :
    Calls Try.prog 16 #[.int .i64 h, .slice A l.length c] w fun e W' => ∃ u, e = .returned u ∧ W'.ownsRow w.heap.size 3 1 u (agesL h (placed (l.take 16))).length ((agesL h (placed (l.take 16))).map (Value.int .i64)) ∧ Below w.heap.size w W' := callsIn_wide.1 (ages9_in 4 (Nat.le_refl _) h A c l hl w hr)

end Go.Proofs.Ytplnmkeopdmanaa

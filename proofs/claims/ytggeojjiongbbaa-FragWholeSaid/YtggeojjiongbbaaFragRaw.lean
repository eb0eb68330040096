/-
  What was gathered of raw numbers, by the document.
-/
import Derived.Test.YtggeojjiongbbaaFragPick
import Derived.Test.YtggeojjiongbbaaFragPutR
namespace Go.Proofs.Ytggeojjiongbbaa
open Go.RowKit

/-- Raw rows as they lie in memory. -/
def At4R (w : World) (p : Addr) (r : Raw) : Prop :=
  w.cell? p = some (.int .i64 r.a) ∧ w.cell? ⟨p.block, p.off + 1, none⟩ = some (.int .i64 r.b) ∧ w.cell? ⟨p.block, p.off + 2, none⟩ = some (.int .i64 r.c) ∧ w.cell? ⟨p.block, p.off + 3, none⟩ = some (.int .i64 r.d)
def Raws (w : World) (B : Nat) (A : Option Addr) (l : List Raw) : Prop :=
  0 < l.length → ∃ ad, A = some ad ∧ ad.block < B ∧ ∀ j r, l[j]? = some r → At4R w (ad.add (j * 4)) r
theorem Raws.below {w w' : World} {B B' : Nat} {A : Option Addr} {l : List Raw} (h : Raws w B A l) (hb : Below B' w w') (hB : B ≤ B') : Raws w' B A l := fun hn => by
  obtain ⟨ad, e, hl, hc⟩ := h hn
  have k : ∀ q : Addr, q.block = ad.block → w'.cell? q = w.cell? q := fun q hq => hb.cell (by rw [hq]; omega)
  refine ⟨ad, e, hl, fun j r hr => ?_⟩
  obtain ⟨h0, h1, h2, h3⟩ := hc j r hr
  have hblk := adb ad (j * 4)
  exact ⟨(k _ hblk).trans h0, (k ⟨(ad.add (j * 4)).block, _, none⟩ hblk).trans h1, (k ⟨(ad.add (j * 4)).block, _, none⟩ hblk).trans h2, (k ⟨(ad.add (j * 4)).block, _, none⟩ hblk).trans h3⟩

def emptyG : Gt := ⟨0, 0, []⟩
def gatL (l : List Raw) : Gt := l.foldl (fun g r => putG g (rawI r) (rawP r)) emptyG
theorem gat_take {l : List Raw} {k : Nat} {r : Raw} (h : l[k]? = some r) : gatL (l.take (k + 1)) = putG (gatL (l.take k)) (rawI r) (rawP r) := by
  unfold gatL; rw [List.take_add_one, h, List.foldl_append]; rfl
/-- What was gathered may be. -/
theorem putAt_length (l : List ByteArray) (k : Nat) (d : ByteArray) : (putAt l k d).length = l.length := by
  unfold putAt; split <;> simp
theorem basis_length {g : Gt} {inc : Int} {p : Pc} (hp : rightP p = true) : ((basisL g inc p).length : Int) = p.of' := by
  obtain ⟨_, ⟨h1, _⟩, _⟩ := (rightP_iff p).1 hp
  unfold basisL
  split
  · rename_i h
    unfold keptB at h
    simp only [Bool.and_eq_true, decide_eq_true_eq] at h
    exact h.2.2
  · rw [blank_length]; omega
theorem full_iff (d : ByteArray) : fullB d = true ↔ 1 ≤ d.size := by
  unfold fullB
  rw [ByteArray.toList_eq]
  have e : d.size = d.data.size := rfl
  rw [e]
  cases h : d.data.toList with
  | nil =>
    have h2 : d.data.size = 0 := by rw [← Array.length_toList, h]; rfl
    simp [h2]
  | cons x t =>
    have h2 : d.data.size = t.length + 1 := by rw [← Array.length_toList, h]; rfl
    simp [h2]
theorem putAt_mem {l : List ByteArray} {k : Nat} {d x : ByteArray} (h : x ∈ putAt l k d) : x ∈ l ∨ x = d := by
  unfold putAt at h
  split at h
  · exact .inl h
  · exact List.mem_or_eq_of_mem_set h
theorem putAt_get {l : List ByteArray} {k : Nat} {d : ByteArray} (hk : k < l.length) : (putAt l k d)[k]? = some (if fullB (l.getD k ⟨#[]⟩) = true then l.getD k ⟨#[]⟩ else d) := by
  have e : l.getD k ⟨#[]⟩ = l[k] := by rw [List.getD_eq_getElem?_getD, List.getElem?_eq_getElem hk]; rfl
  unfold putAt
  split
  · rw [List.getElem?_eq_getElem hk, e]
  · rw [List.getElem?_set_self hk]
theorem putAt_any {l : List ByteArray} {k : Nat} {d : ByteArray} (hk : k < l.length) (hd : fullB d = true) : (putAt l k d).any fullB = true := by
  have h := putAt_get (d := d) hk
  refine List.any_eq_true.2 ⟨_, List.mem_of_getElem? h, ?_⟩
  split
  · assumption
  · exact hd
theorem mayB_of {i q : Int} {l : List ByteArray} (hi : smallB i = true) (hq : smallB q = true) (hl : l.length ≤ 20) (ha : ∀ d ∈ l, d.size ≤ 16) (hf : l.any fullB = true) : mayB i q l = true := by
  have h1 := (smallB_iff i).1 hi
  unfold mayB
  rw [if_neg (by omega), hi, hq, hf]
  simp only [Bool.and_eq_true, List.all_eq_true, decide_eq_true_eq, and_true]
  exact ⟨ha, by simp [hl]⟩
theorem basis_mem {g : Gt} {inc : Int} {p : Pc} {x : ByteArray} (h : x ∈ basisL g inc p) : x ∈ g.l ∨ x = ⟨#[]⟩ := by
  unfold basisL at h
  split at h
  · exact .inl h
  · exact .inr (List.eq_of_mem_replicate h)
theorem may_put {g : Gt} {inc : Int} {p : Pc} (hg : mayG g = true) (hp : rightP p = true) (hi : smallB inc = true) : mayG (putG g inc p) = true := by
  have ok : okG g inc p = true := by unfold okG; rw [hg, hp, hi]; rfl
  unfold putG
  rw [if_pos ok]
  split
  · exact hg
  · obtain ⟨h1, ⟨h2, h3⟩, ⟨h4, h5⟩, h6, h7⟩ := (rightP_iff p).1 hp
    have hlen := basis_length (g := g) (inc := inc) hp
    have hs : ∀ d ∈ g.l, d.size ≤ 16 := by
      rcases Nat.eq_zero_or_pos g.l.length with h0 | h0
      · intro d hd
        rw [List.eq_nil_of_length_eq_zero h0] at hd
        cases hd
      · exact (may_some hg h0).2
    refine mayB_of hi ((smallB_iff _).2 h1) (by rw [putAt_length]; omega) (fun d hd => ?_) (putAt_any (by omega) ((full_iff _).2 h6))
    rcases putAt_mem hd with h | h
    · rcases basis_mem h with h | h
      · exact hs d h
      · rw [h]; decide
    · rw [h]; exact h7
theorem gat_may (l : List Raw) : mayG (gatL l) = true := by
  suffices h : ∀ (l : List Raw) (g : Gt), mayG g = true → mayG (l.foldl (fun g r => putG g (rawI r) (rawP r)) g) = true from h l emptyG (by unfold mayG mayB emptyG; simp)
  intro l
  induction l with
  | nil => intro g h; exact h
  | cons r l ih =>
    intro g h
    exact ih _ (may_put h (raw_right r) ((smallB_iff _).2 (by have := raw_inc r; omega)))
theorem may_len {g : Gt} (h : mayG g = true) : g.l.length ≤ 20 ∧ ∀ d ∈ g.l, d.size ≤ 16 := by
  rcases Nat.eq_zero_or_pos g.l.length with h0 | h0
  · refine ⟨by omega, fun d hd => ?_⟩
    rw [List.eq_nil_of_length_eq_zero h0] at hd
    cases hd
  · exact may_some h h0
theorem raw_bytes (r : Raw) : (rawP r).bytes.size ≤ 16 := ((rightP_iff _).1 (raw_right r)).2.2.2.2
theorem put_ok {g : Gt} {inc : Int} {p : Pc} (hg : mayG g = true) (hp : rightP p = true) (hi : smallB inc = true) : putE g inc p = 0 := by
  have ok : okG g inc p = true := by unfold okG; rw [hg, hp, hi]; rfl
  unfold putE; rw [if_pos ok]

/-- Texts lie in no box of what was gathered. -/
theorem Strs.apart {w : World} {B b n c : Nat} {A X : Option Addr} {l : List ByteArray} {i q : Int} (h : Strs w B A l) (hg : GatAt w b i q (.slice X n c)) (hl : 0 < l.length) : ∀ ad, A = some ad → ad.block ≠ b := by
  intro ad e hb
  obtain ⟨ad', e', _, hc⟩ := h hl
  have : ad' = ad := Option.some.inj (e'.symm.trans e)
  subst this
  have h0 := hc 0 _ (List.getElem?_eq_getElem hl)
  have ea : ad'.add 0 = ad' := by unfold Addr.add; rfl
  rw [ea] at h0
  obtain ⟨blk, off, pth⟩ := ad'
  simp only at hb
  subst hb
  have hg' : w.heap[blk]? = _ := hg
  simp only [World.cell?, hg'] at h0
  match off, h0 with
  | 0, h0 => simp [gcl] at h0
  | 1, h0 => simp [gcl] at h0
  | 2, h0 => simp [gcl] at h0
  | n + 3, h0 => simp [gcl] at h0
theorem Strs.past {w w' : World} {B b n c : Nat} {A X : Option Addr} {l : List ByteArray} {i q : Int} (h : Strs w B A l) (hg : GatAt w b i q (.slice X n c)) (hgr : w.grownBy w' (some b)) : Strs w' B A l := fun hl => by
  have hne := h.apart hg hl
  obtain ⟨ad, e, hb, hc⟩ := h hl
  refine ⟨ad, e, hb, fun j d hd => ?_⟩
  have h0 := hc j d hd
  have hlt := World.block_lt_of_cell? w _ h0
  refine (World.cell?_of_block (hgr.block _ hlt fun e' => ?_)).trans h0
  rw [adb_s] at e'
  exact hne ad e (Option.some.inj e')

/-- What Gather hands back. -/
def GatherPost (g : Gt) (w : World) (e : Ending) (w' : World) : Prop := ∃ A c, e = .returned (gv g.i g.q (.slice A g.l.length c)) ∧ g.l.length ≤ c ∧ Strs w' w'.heap.size A g.l ∧ Below w.heap.size w w'
def GatherRel (l : List Raw) (w : World) (b2 b3 : Nat) (k : Nat) (wr : World) : Prop :=
  Below w.heap.size w wr ∧ GatAt wr b2 0 0 (.slice none 0 0) ∧ ∃ A c, GatAt wr b3 (gatL (l.take k)).i (gatL (l.take k)).q (.slice A (gatL (l.take k)).l.length c) ∧ (gatL (l.take k)).l.length ≤ c ∧ Strs wr wr.heap.size A (gatL (l.take k)).l

theorem gather_end {l : List Raw} {w wr : World} {k : Nat} {A1 : Option Addr} {c1 : Nat} (hb : Below w.heap.size w wr) (hg2 : GatAt wr w.heap.size 0 0 (.slice none 0 0)) (hcc : (gatL (l.take k)).l.length ≤ c1) (hst : Strs wr wr.heap.size A1 (gatL (l.take k)).l) (he : l.take k = l.take 10) :
    GatherPost (gatL (l.take 10)) w (.returned (gv (gatL (l.take k)).i (gatL (l.take k)).q (.slice A1 (gatL (l.take k)).l.length c1))) (put3 wr w.heap.size (gatL (l.take k)).i (gatL (l.take k)).q (.slice A1 (gatL (l.take k)).l.length c1)) := by
  rw [← he]
  have hg := put3_grown wr w.heap.size (gatL (l.take k)).i (gatL (l.take k)).q (.slice A1 (gatL (l.take k)).l.length c1)
  exact ⟨A1, c1, rfl, hcc, (hst.past hg2 hg).more hg.size, put3_below hb (Nat.le_refl _) _ _ _⟩

set_option maxRecDepth 100000 in
set_option maxHeartbeats 4000000 in
theorem gather_any (A : Option Addr) (c B : Nat) (l : List Raw) (w : World) (h : Raws w B A l) (hB : B ≤ w.heap.size) (hl : l.length ≤ maxLen) (hwf : ∀ r ∈ l, WfR r) :
    Calls Try.prog 22 #[.slice A l.length c] w (GatherPost (gatL (l.take 10)) w) := by
  unfold maxLen at hl
  obtain ⟨W1, h1⟩ : ∃ W1, w.alloc (.cells (gcl 0 0 (.slice none 0 0)) 46) = W1 := ⟨_, rfl⟩
  obtain ⟨W2, h2⟩ : ∃ W2, W1.alloc (.cells (gcl 0 0 (.slice none 0 0)) 46) = W2 := ⟨_, rfl⟩
  have g1 : GatAt W1 w.heap.size 0 0 (.slice none 0 0) := by rw [← h1]; exact GatAt.new w 0 0 _
  have b1 : Below w.heap.size w W1 := by rw [← h1]; exact Joins.below_alloc1 w _
  have g2 : GatAt W2 W1.heap.size 0 0 (.slice none 0 0) := by rw [← h2]; exact GatAt.new W1 0 0 _
  have b2 : Below W1.heap.size W1 W2 := by rw [← h2]; exact Joins.below_alloc1 W1 _
  have l1 := g1.lt
  have HREL : Hid (GatherRel l w w.heap.size W1.heap.size 0 W2) := Lib.hid ⟨b1.trans (b2.mono b1.size), g1.on b2, none, 0, g2, Nat.le_refl _, fun h => absurd h (by simp [gatL, emptyG])⟩
  have HWF := Lib.hid hwf; clear hwf
  have LX := Lib.hid l1
  have HH := Lib.hid h; clear h
  simp only [gcl] at h1 h2
  clear g1 b1 g2 b2 l1
  go_enter Try.func22, Try.ntmps22
  go_wp2_with fail
  clear h1 h2
  go_loopw [4] (fun ix wr => ∃ k : Nat, k ≤ l.length ∧ k ≤ 10 ∧ ix = .int .i64 k ∧ GatherRel l w w.heap.size W1.heap.size k wr) (fun ix _ => 10 - (intOf ix).toNat)
  case atStart => exact ⟨0, by omega, by omega, rfl, HREL.out⟩
  case round =>
    obtain ⟨k, hk, hk10, rfl, hb, hg2, A1, c1, hg3, hcc, hst⟩ := hrel
    have HB := Lib.hid hb
    have HG2 := Lib.hid hg2
    by_cases hlt : k < l.length
    · by_cases hlt2 : k < 10
      · obtain ⟨r, hr⟩ : ∃ r, l[k]? = some r := ⟨_, List.getElem?_eq_getElem hlt⟩
        obtain ⟨ad, rfl, _, hc⟩ := HH.out.below hb hB (by omega)
        obtain ⟨f0, f1, f2, f3⟩ := hc k r hr
        have HT := Lib.hid (gat_take hr)
        have cp := fun W => piece_any r (HWF.out r (List.mem_of_getElem? hr)) W
        have hmay := may_len (gat_may (l.take k))
        have cput := fun W h => refPut_any A1 c1 (gatL (l.take k)) (rawI r) (rawP r) W h (by omega) (by have := raw_bytes r; unfold maxLen; omega)
        have HM := Lib.hid hmay; clear hmay
        have HG3 := Lib.hid hg3
        have HCC := Lib.hid hcc
        have HST := Lib.hid hst
        have HPUT := Lib.hid cput
        clear hc hb hg2 hg3 hcc hst hr cput
        obtain ⟨ra, rb, rc, rd⟩ := r
        simp only [rv] at *
        have hk2 : (k : Int) < 10 := by omega
        go_wp2_with fail; refine (cp _).mono ?_; rintro e w3 ⟨rfl, b3⟩
        have HB3 := Lib.hid (HB.out.trans (b3.mono HB.out.size))
        have HG23 := Lib.hid (HG2.out.on b3)
        have HG33 := Lib.hid (HG3.out.on b3)
        have HST3 := Lib.hid ((HST.out.below b3 (Nat.le_refl _)).more b3.size)
        clear b3 f0 f1 f2 f3
        generalize hPG : putG (gatL (l.take k)) (rawI ⟨ra, rb, rc, rd⟩) (rawP ⟨ra, rb, rc, rd⟩) = PG at *
        generalize putE (gatL (l.take k)) (rawI ⟨ra, rb, rc, rd⟩) (rawP ⟨ra, rb, rc, rd⟩) = PE at *
        clear hPG
        generalize gatL (l.take k) = G at *
        generalize rawI ⟨ra, rb, rc, rd⟩ = I at *
        generalize rawP ⟨ra, rb, rc, rd⟩ = P at *
        obtain ⟨gi, gq, gl⟩ := G
        obtain ⟨ps, pa, po, pb⟩ := P
        obtain ⟨qi, qq, ql⟩ := PG
        simp only [pv, gv] at *
        obtain ⟨W4, h4⟩ : ∃ W4, w3.alloc (.cells #[.int .i64 ps, .int .i64 pa, .int .i64 po, .string pb] 23) = W4 := ⟨_, rfl⟩
        have b4 : Below w3.heap.size w3 W4 := by rw [← h4]; exact Joins.below_alloc1 w3 _
        have p4 : PcAt W4 w3.heap.size ⟨ps, pa, po, pb⟩ := by rw [← h4]; exact PcAt.new w3 ⟨ps, pa, po, pb⟩
        have HB4 := Lib.hid (HB3.out.trans (b4.mono HB3.out.size))
        have HG24 := Lib.hid (HG23.out.on b4)
        have HG34 := Lib.hid (HG33.out.on b4)
        have HST4 := Lib.hid ((HST3.out.below b4 (Nat.le_refl _)).more b4.size)
        obtain ⟨m0, m1, m2, m3⟩ := p4.cells
        simp only at m0 m1 m2 m3
        obtain ⟨⟨y0, y1, y2⟩, _⟩ := HG34.out.cells
        clear b4 p4
        go_wp2_with fail; refine (HPUT.out _ HST4.out).mono ?_; rintro e w5 ⟨A5, c5, rfl, hc5, hs5, b5⟩
        have HB5 := Lib.hid (HB4.out.trans (b5.mono HB4.out.size))
        have HG25 := Lib.hid (HG24.out.on b5)
        have HG35 := Lib.hid (HG34.out.on b5)
        have HS5 := Lib.hid hs5
        have HC5 := Lib.hid hc5
        clear b5 hs5 hc5 m0 m1 m2 m3 y0 y1 y2 h4
        obtain ⟨⟨y0, y1, y2⟩, hfz⟩ := HG35.out.cells
        have HREL2 : Hid (GatherRel l w w.heap.size W1.heap.size (k + 1) (put3 w5 W1.heap.size qi qq (.slice A5 ql.length c5))) := by
          apply Lib.hid
          have hg := put3_grown w5 W1.heap.size qi qq (.slice A5 ql.length c5)
          refine ⟨put3_below HB5.out (Nat.le_of_lt LX.out) _ _ _, HG25.out.grown hg (fun e => by injection e with e; have := LX.out; omega), A5, c5, ?_⟩
          rw [HT.out]
          refine ⟨put3_blk HG35.out _ _ _, HC5.out, ?_⟩
          exact (HS5.out.past HG35.out hg).more hg.size
        unfold put3 at HREL2
        go_wp2_with fail
        go_roundw
        case rel => exact ⟨k + 1, by omega, by omega, by go_num, HREL2.out⟩
        case measure => simp [intOf]; omega
      · have ek : k = 10 := by omega
        have hk2 : ¬ (k : Int) < 10 := by omega
        have HP := Lib.hid (gather_end hb hg2 hcc hst (by rw [ek]))
        have HC := Lib.hid (put3_blk hg2 (gatL (l.take k)).i (gatL (l.take k)).q (.slice A1 (gatL (l.take k)).l.length c1)).cells.1
        obtain ⟨⟨y0, y1, y2⟩, _⟩ := hg3.cells
        obtain ⟨⟨z0, z1, z2⟩, hfz⟩ := hg2.cells
        unfold put3 at HP HC
        clear hcc hst hb hg2 hg3
        generalize gatL (l.take k) = G at *
        obtain ⟨gi, gq, gl⟩ := G
        simp only [gv] at *
        go_wp2_with fail
        obtain ⟨s0, s1, s2⟩ := HC.out
        exact bodyPost_ret (v := gv gi gq (.slice A1 gl.length c1)) (by simp [results, Try.results22, go_sem, s0, s1, s2]) rfl HP.out
    · have ek : k = l.length := by omega
      have hk2 : ¬ (k : Int) < (l.length : Int) := by omega
      have HP := Lib.hid (gather_end hb hg2 hcc hst (by rw [ek, List.take_length, List.take_of_length_le (by omega)]))
      have HC := Lib.hid (put3_blk hg2 (gatL (l.take k)).i (gatL (l.take k)).q (.slice A1 (gatL (l.take k)).l.length c1)).cells.1
      obtain ⟨⟨y0, y1, y2⟩, _⟩ := hg3.cells
      obtain ⟨⟨z0, z1, z2⟩, hfz⟩ := hg2.cells
      unfold put3 at HP HC
      clear hcc hst hb hg2 hg3
      generalize gatL (l.take k) = G at *
      obtain ⟨gi, gq, gl⟩ := G
      simp only [gv] at *
      go_wp2_with fail
      obtain ⟨s0, s1, s2⟩ := HC.out
      exact bodyPost_ret (v := gv gi gq (.slice A1 gl.length c1)) (by simp [results, Try.results22, go_sem, s0, s1, s2]) rfl HP.out

end Go.Proofs.Ytggeojjiongbbaa

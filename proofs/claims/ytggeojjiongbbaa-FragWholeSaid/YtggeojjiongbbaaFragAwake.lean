/-
  What the statements' own helper awake does.
-/
import Derived.Test.YtggeojjiongbbaaFragRaw
import Derived.Test.YtggeojjiongbbaaOnce
import Derived.Test.YtggeojjiongbbaaFragWholeP
import Derived.Test.YtggeojjiongbbaaFragPutP
import Derived.Test.YtggeojjiongbbaaFragSplitP
import Derived.Test.YtggeojjiongbbaaFragDecP
import Derived.Test.YtggeojjiongbbaaFragEncP
namespace Go.Proofs.Ytggeojjiongbbaa
open Go.RowKit

def P0 : Pc := ⟨7, 0, 3, ⟨#[97, 98]⟩⟩
def P1 : Pc := ⟨7, 1, 3, ⟨#[99, 100]⟩⟩
def P2 : Pc := ⟨7, 2, 3, ⟨#[101]⟩⟩
def G1 : Gt := ⟨1, 7, [⟨#[]⟩, ⟨#[]⟩, ⟨#[101]⟩]⟩
def G2 : Gt := ⟨1, 7, [⟨#[97, 98]⟩, ⟨#[]⟩, ⟨#[101]⟩]⟩
def G3 : Gt := ⟨1, 7, [⟨#[97, 98]⟩, ⟨#[99, 100]⟩, ⟨#[101]⟩]⟩
theorem full_fun : fullB = fun d => decide (1 ≤ d.size) := funext fun d => by
  rw [Bool.eq_iff_iff, full_iff, decide_eq_true_eq]
theorem aw_split : splitR 7 ⟨#[97, 98, 99, 100, 101]⟩ 2 = [P0, P1, P2] ∧ splitE 7 ⟨#[97, 98, 99, 100, 101]⟩ 2 = 0 := ⟨by kernel_rfl, by kernel_rfl⟩
theorem aw_put1 : putG emptyG 1 P2 = G1 ∧ putE emptyG 1 P2 = 0 := by
  constructor
  · simp only [putG, okG, mayG, mayB, newerB, basisL, keptB, putAt, full_fun]; kernel_rfl
  · simp only [putE, okG, mayG, mayB, full_fun]; kernel_rfl
theorem aw_put2 : putG G1 1 P0 = G2 ∧ putE G1 1 P0 = 0 := by
  constructor
  · simp only [putG, okG, mayG, mayB, newerB, basisL, keptB, putAt, full_fun]; kernel_rfl
  · simp only [putE, okG, mayG, mayB, full_fun]; kernel_rfl
theorem aw_put3 : putG G2 1 P1 = G3 ∧ putE G2 1 P1 = 0 := by
  constructor
  · simp only [putG, okG, mayG, mayB, newerB, basisL, keptB, putAt, full_fun]; kernel_rfl
  · simp only [putE, okG, mayG, mayB, full_fun]; kernel_rfl
theorem aw_put4 : putG G3 0 P0 = G3 ∧ putE G3 0 P0 = 1 := by
  constructor
  · simp only [putG, okG, mayG, mayB, newerB, basisL, keptB, putAt, full_fun]; kernel_rfl
  · simp only [putE, okG, mayG, mayB, full_fun]; kernel_rfl
theorem aw_whole1 : wholeB G1.i G1.q G1.l = false ∧ wholeT G1.i G1.q G1.l = ⟨#[]⟩ := by
  constructor
  · simp only [wholeB, mayB, full_fun]; kernel_rfl
  · simp only [wholeT, wholeB, mayB, full_fun]; kernel_rfl
theorem aw_whole3 : wholeB G3.i G3.q G3.l = true ∧ wholeT G3.i G3.q G3.l = ⟨#[97, 98, 99, 100, 101]⟩ := by
  constructor
  · simp only [wholeB, mayB, full_fun]; kernel_rfl
  · simp only [wholeT, wholeB, mayB, full_fun]; kernel_rfl
theorem aw_may : mayB G3.i G3.q G3.l = true := by simp only [mayB, full_fun]; kernel_rfl
theorem aw_enc : encP P2 = ⟨#[0, 7, 2, 3, 1, 101]⟩ ∧ encPE P2 = 0 := ⟨by kernel_rfl, by kernel_rfl⟩
theorem aw_right : rightP P2 = true := by kernel_rfl
theorem aw_dec : decR [0, 7, 2, 3, 1, 101, 120] = P2 ∧ decRest [0, 7, 2, 3, 1, 101, 120] = ⟨#[120]⟩ ∧ decE [0, 7, 2, 3, 1, 101, 120] = 0 := ⟨by kernel_rfl, by kernel_rfl, by kernel_rfl⟩

/-- The three pieces, each where it lies. -/
def Lst (w : World) (ad : Addr) : Prop := At4 w ad P0 ∧ At4 w ⟨ad.block, ad.off + 4, none⟩ P1 ∧ At4 w ⟨ad.block, ad.off + 8, none⟩ P2
theorem lst_of {w : World} {B : Nat} {ad : Addr} (h : Pcs w B (some ad) [P0, P1, P2]) : Lst w ad := by
  obtain ⟨ad', e, _, hc⟩ := h (by decide)
  have : ad' = ad := (Option.some.inj e).symm
  subst this
  have h0 := hc 0 P0 rfl
  have h1 := hc 1 P1 rfl
  have h2 := hc 2 P2 rfl
  have e0 : ad'.add (0 * 4) = ad' := by unfold Addr.add; rfl
  rw [e0] at h0
  rw [addr_off ad' (1 * 4) (by decide)] at h1
  rw [addr_off ad' (2 * 4) (by decide)] at h2
  exact ⟨h0, h1, h2⟩
def HasG (w : World) (g : Nat) : Prop := ∃ (a b : Int) (T : Value), GatAt w g a b T
theorem hasG_on {w w' : World} {g : Nat} (h : HasG w g) (hb : Below w.heap.size w w') : HasG w' g := by
  obtain ⟨a, b, T, h⟩ := h
  exact ⟨a, b, T, h.on hb⟩
theorem hasG_put {w : World} {g g2 : Nat} (h : HasG w g) (h2 : HasG w g2) (i q : Int) (S : Value) : HasG (put3 w g i q S) g2 := by
  obtain ⟨a, b, T, h⟩ := h
  obtain ⟨a2, b2, T2, h2⟩ := h2
  by_cases e : g2 = g
  · subst e; exact ⟨_, _, _, put3_blk h i q S⟩
  · exact ⟨a2, b2, T2, h2.grown (put3_grown w g i q S) (fun e' => e (Option.some.inj e').symm)⟩
/-- What is known between two statements. -/
structure Aw (w0 w : World) (B : Nat) (ad : Addr) (b3 : Nat) (G : Gt) (A : Option Addr) (c : Nat) : Prop where
  bel : Below w0.heap.size w0 w
  hB : B ≤ w.heap.size
  hb3 : w0.heap.size ≤ b3
  pcs : Pcs w B (some ad) [P0, P1, P2]
  hbB : B ≤ b3
  gat : GatAt w b3 G.i G.q (.slice A G.l.length c)
  cap : G.l.length ≤ c
  str : Strs w w.heap.size A G.l
theorem Aw.on {w0 w w' : World} {B b3 c : Nat} {ad : Addr} {G : Gt} {A : Option Addr} (h : Aw w0 w B ad b3 G A c) (hb : Below w.heap.size w w') : Aw w0 w' B ad b3 G A c :=
  ⟨h.bel.trans (hb.mono h.bel.size), Nat.le_trans h.hB hb.size, h.hb3, h.pcs.below hb h.hB, h.hbB, h.gat.on hb, h.cap, (h.str.below hb (Nat.le_refl _)).more hb.size⟩
/-- Another one in the same box. -/
theorem Aw.put {w0 w w' : World} {B b3 c c' : Nat} {ad : Addr} {G G' : Gt} {A A' : Option Addr} (h : Aw w0 w B ad b3 G A c) (hb : Below w.heap.size w w') (hc : G'.l.length ≤ c') (hs : Strs w' w'.heap.size A' G'.l) : Aw w0 (put3 w' b3 G'.i G'.q (.slice A' G'.l.length c')) B ad b3 G' A' c' := by
  have h2 := h.on hb
  have hg := put3_grown w' b3 G'.i G'.q (.slice A' G'.l.length c')
  refine ⟨put3_below h2.bel h2.hb3 _ _ _, Nat.le_trans h2.hB hg.size, h2.hb3, ?_, h2.hbB, put3_blk h2.gat _ _ _, hc, (hs.past h2.gat hg).more hg.size⟩
  exact h2.pcs.keep fun p hp => World.cell?_of_block (hg.block p.block (by have := h2.hB; omega) (fun e => by injection e with e; have := h2.hbB; omega))

def AwPost (w0 : World) (B : Nat) (ad : Addr) (b3 : Nat) (G : Gt) (E : Int) (s : Value) (wx : World) : Prop := ∃ A c, s = .int .i64 E ∧ Aw w0 wx B ad b3 G A c
theorem aw_post {w0 w : World} {B b3 c : Nat} {ad : Addr} {G : Gt} {A : Option Addr} (h : Aw w0 w B ad b3 G A c) (E : Int) : AwPost w0 B ad b3 G E (.int .i64 E) w := ⟨A, c, rfl, h⟩

set_option maxRecDepth 100000 in
set_option maxHeartbeats 8000000 in
theorem awake_any (w : World) : Calls Try.prog 9 #[] w fun e w' => e = .returned (.bool true) ∧ Below w.heap.size w w' := by
  have c1 := fun W => splitP_any 7 ⟨#[97, 98, 99, 100, 101]⟩ 2 (by decide) W
  unfold SplitPost at c1
  rw [aw_split.1, aw_split.2] at c1
  have c2 := fun W => putP_any none 0 emptyG 1 P2 W (fun h => absurd h (by simp [emptyG])) (by decide) (by decide) (fun d hd => by cases hd) (by decide)
  rw [aw_put1.1, aw_put1.2] at c2
  have c3 := fun A c W h hc => wholeP_any A c G1.i G1.q G1.l W h (by decide) hc (by decide)
  rw [aw_whole1.1, aw_whole1.2] at c3
  have c4 := fun A c W h hc => putP_any A c G1 1 P0 W h (by decide) hc (by decide) (by decide)
  rw [aw_put2.1, aw_put2.2] at c4
  have c5 := fun A c W h hc => putP_any A c G2 1 P1 W h (by decide) hc (by decide) (by decide)
  rw [aw_put3.1, aw_put3.2] at c5
  have c6 := fun A c W h hc => wholeP_any A c G3.i G3.q G3.l W h (by decide) hc (by decide)
  rw [aw_whole3.1, aw_whole3.2] at c6
  have c7 := fun W => encP_any P2 (by decide) W
  rw [aw_enc.1, aw_enc.2] at c7
  have c8 := fun W => decP_any ⟨#[0, 7, 2, 3, 1, 101, 120]⟩ (by decide) W
  unfold DecPost at c8
  rw [show (⟨#[0, 7, 2, 3, 1, 101, 120]⟩ : ByteArray).data.toList = [0, 7, 2, 3, 1, 101, 120] from rfl, aw_dec.1, aw_dec.2.1, aw_dec.2.2] at c8
  have c9 := fun A c W h hc => putP_any A c G3 0 P0 W h (by decide) hc (by decide) (by decide)
  rw [aw_put4.1, aw_put4.2] at c9
  have c10 := fun A c W h => may_any A c G3.i G3.q G3.l W h (by decide) (by decide)
  rw [aw_may] at c10
  have c11 := fun W => rightP_any P2 (by decide) W
  rw [aw_right] at c11
  unfold GatRes at c2 c4 c5 c9
  have C2 := Lib.hid c2
  have C3 := Lib.hid c3
  have C4 := Lib.hid c4
  have C5 := Lib.hid c5
  have C6 := Lib.hid c6
  have C7 := Lib.hid c7
  have C8 := Lib.hid c8
  have C9 := Lib.hid c9
  have C10 := Lib.hid c10
  have C11 := Lib.hid c11
  clear c2 c3 c4 c5 c6 c7 c8 c9 c10 c11
  go_enter Try.func9, Try.ntmps9
  go_wp2_with fail; refine (c1 _).mono ?_; rintro e w1 ⟨As, cs, rfl, hps, b1⟩
  obtain ⟨ad, rfl, hlt, hcl⟩ := hps (by decide)
  have HB1 := Lib.hid b1
  have HPS := Lib.hid hps
  have hl3 : ([P0, P1, P2] : List Pc).length = 3 := rfl
  rw [hl3]
  obtain ⟨-, -, f0, f1, f2, f3⟩ := lst_of hps
  simp only [P2] at f0 f1 f2 f3
  clear hl3 c1 b1 hcl hps hlt
  go_wp2_with fail; refine (C2.out _).mono ?_; rintro e w2 ⟨A2, c2, rfl, hc2, hs2, b2⟩
  have hp2 := HPS.out.below b2 (Nat.le_refl _)
  have b3 := Joins.below_alloc1 w2 (.cells (gcl G1.i G1.q (.slice A2 G1.l.length c2)) 46)
  have haw : Aw w (w2.alloc (.cells (gcl G1.i G1.q (.slice A2 G1.l.length c2)) 46)) w1.heap.size ad w2.heap.size G1 A2 c2 :=
    ⟨(HB1.out.trans (b2.mono HB1.out.size)).trans (b3.mono (Nat.le_trans HB1.out.size b2.size)), Nat.le_trans b2.size b3.size, Nat.le_trans HB1.out.size b2.size, hp2.below b3 b2.size, b2.size, GatAt.new w2 _ _ _, hc2, (hs2.below b3 (Nat.le_refl _)).more b3.size⟩
  obtain ⟨W3, h3⟩ : ∃ W3, w2.alloc (.cells (gcl G1.i G1.q (.slice A2 G1.l.length c2)) 46) = W3 := ⟨_, rfl⟩
  rw [h3] at haw
  have HA3 := Lib.hid haw
  simp only [gcl] at h3
  clear hp2 b3 b2 hs2 hc2 f0 f1 f2 f3 haw
  obtain ⟨⟨y0, y1, y2⟩, _⟩ := HA3.out.gat.cells
  go_wp2_with fail; refine (C3.out _ _ _ HA3.out.str HA3.out.cap).mono ?_; rintro e w4 ⟨rfl, b4⟩
  have HA4 := Lib.hid (HA3.out.on b4)
  generalize w2.heap.size = b at *
  clear b4 y0 y1 y2 h3 HA3
  go_upto_region 6 with (fail)
  go_cut [7] (fun s wx => AwPost w w1.heap.size ad b G2 0 s wx)
  case first =>
    obtain ⟨⟨y0, y1, y2⟩, -⟩ := HA4.out.gat.cells
    obtain ⟨⟨f0, f1, f2, f3⟩, -, -⟩ := lst_of HA4.out.pcs
    simp only [P0] at f0 f1 f2 f3
    have HA4d : Hid (Aw w w4.drew w1.heap.size ad b G1 A2 c2) := Lib.hid (HA4.out.on (Below.refl _ _).drew)
    go_region_with ((refine (C4.out _ _ _ HA4d.out.str HA4d.out.cap).mono ?_; rintro e w5 ⟨A5, c5, rfl, hc5, hs5, b5⟩; have HA5 := Lib.hid (HA4d.out.put b5 hc5 hs5); obtain ⟨⟨z0, z1, z2⟩, hfz⟩ := (HA4d.out.gat.on b5).cells; clear b5 hc5 hs5))
    all_goals
      have hA := HA5.out
      unfold put3 at hA
      have hR := aw_post hA 0
      have HR := Lib.hid hR
      clear hA hR
      go_wp2_with fail
      go_meet
      exact HR.out
  case rest =>
  obtain ⟨A5, c5, rfl, haw5⟩ := hcut
  have HA5 := Lib.hid haw5
  clear haw5 HA4
  rename_i W5
  go_upto_region 7 with (fail)
  go_cut [8] (fun s wx => AwPost w w1.heap.size ad b G3 0 s wx)
  case first =>
    obtain ⟨⟨y0, y1, y2⟩, -⟩ := HA5.out.gat.cells
    obtain ⟨-, ⟨f0, f1, f2, f3⟩, -⟩ := lst_of HA5.out.pcs
    simp only [P1] at f0 f1 f2 f3
    have HA5d : Hid (Aw w (World.drew _) w1.heap.size ad b G2 A5 c5) := Lib.hid (HA5.out.on (Below.refl _ _).drew)
    go_region_with ((refine (C5.out _ _ _ HA5d.out.str HA5d.out.cap).mono ?_; rintro e w6 ⟨A6, c6, rfl, hc6, hs6, b6⟩; have HA6 := Lib.hid (HA5d.out.put b6 hc6 hs6); obtain ⟨⟨z0, z1, z2⟩, hfz⟩ := (HA5d.out.gat.on b6).cells; clear b6 hc6 hs6))
    all_goals
      have hA := HA6.out
      unfold put3 at hA
      have hR := aw_post hA 0
      have HR := Lib.hid hR
      clear hA hR
      go_wp2_with fail
      go_meet
      exact HR.out
  case rest =>
  obtain ⟨A6, c6, rfl, haw6⟩ := hcut
  have HA6 := Lib.hid haw6
  clear haw6 HA5
  obtain ⟨⟨y0, y1, y2⟩, -⟩ := HA6.out.gat.cells
  go_wp2_with fail; refine (C6.out _ _ _ HA6.out.str HA6.out.cap).mono ?_; rintro e w7 ⟨rfl, b7⟩
  have HA7 := Lib.hid (HA6.out.on b7)
  clear b7 y0 y1 y2
  obtain ⟨-, -, f0, f1, f2, f3⟩ := lst_of HA7.out.pcs
  simp only [P2] at f0 f1 f2 f3
  go_wp2_with fail; refine (C7.out _).mono ?_; rintro e w8 ⟨rfl, b8⟩
  have HA8 := Lib.hid (HA7.out.on b8)
  clear b8 f0 f1 f2 f3
  have hcat : (⟨#[0, 7, 2, 3, 1, 101]⟩ : ByteArray) ++ ⟨#[120]⟩ = ⟨#[0, 7, 2, 3, 1, 101, 120]⟩ := by kernel_rfl
  go_wp2_with fail; refine (C8.out _).mono ?_; rintro e w9 ⟨rfl, b9⟩
  have HA9 := Lib.hid (HA8.out.on b9)
  clear b9 hcat
  obtain ⟨W10, h10⟩ : ∃ W10, w9.alloc (.cells #[.int .i64 7, .int .i64 2, .int .i64 3, .string ⟨#[101]⟩] 23) = W10 := ⟨_, rfl⟩
  have b10 : Below w9.heap.size w9 W10 := by rw [← h10]; exact Joins.below_alloc1 w9 _
  have p10 : PcAt W10 w9.heap.size P2 := by rw [← h10]; exact PcAt.new w9 P2
  have HA10 := Lib.hid (HA9.out.on b10)
  have HP10 := Lib.hid p10
  clear b10 p10
  simp only [P2, pv]
  go_wp2_with fail
  generalize w9.heap.size = b9 at *
  clear h10 HA9 HA8 HA7 HA6
  have HV : ∃ V : Nat → (Nat → Value) → World → Prop, V = (fun ix u wv => match ix with
    | 0 => u 0 = .agg #[.int .i64 G3.i, .int .i64 G3.q, .slice A6 G3.l.length c6]
    | 1 => u 1 = .slice (some ad) 3 cs
    | 2 => u 2 = .pointer (some ad)
    | 3 => u 3 = .agg #[.int .i64 7, .int .i64 0, .int .i64 3, .string ⟨#[97, 98]⟩]
    | 4 => ∃ A c, u 4 = .tuple #[.agg #[.int .i64 G3.i, .int .i64 G3.q, .slice A G3.l.length c], .int .i64 1]
    | 5 => ∃ A c, u 5 = .tuple #[.agg #[.int .i64 G3.i, .int .i64 G3.q, .slice A G3.l.length c], .int .i64 1]
    | 6 => ∃ A c, u 6 = .agg #[.int .i64 G3.i, .int .i64 G3.q, .slice A G3.l.length c]
    | 7 => u 7 = .int .i64 1
    | 8 => ∃ g, u 8 = .pointer (some ⟨g, 0, none⟩) ∧ W10.heap.size ≤ g ∧ HasG wv g
    | 9 => True
    | 10 => u 10 = .int .i64 1
    | _ => True) := ⟨_, rfl⟩
  obtain ⟨V, hVdef⟩ := HV
  have V0 : ∀ u wv, V 0 u wv = (u 0 = .agg #[.int .i64 G3.i, .int .i64 G3.q, .slice A6 G3.l.length c6]) := fun u wv => by subst hVdef; rfl
  have V1 : ∀ u wv, V 1 u wv = (u 1 = .slice (some ad) 3 cs) := fun u wv => by subst hVdef; rfl
  have V2 : ∀ u wv, V 2 u wv = (u 2 = .pointer (some ad)) := fun u wv => by subst hVdef; rfl
  have V3 : ∀ u wv, V 3 u wv = (u 3 = .agg #[.int .i64 7, .int .i64 0, .int .i64 3, .string ⟨#[97, 98]⟩]) := fun u wv => by subst hVdef; rfl
  have V4 : ∀ u wv, V 4 u wv = (∃ A c, u 4 = .tuple #[.agg #[.int .i64 G3.i, .int .i64 G3.q, .slice A G3.l.length c], .int .i64 1]) := fun u wv => by subst hVdef; rfl
  have V5 : ∀ u wv, V 5 u wv = (∃ A c, u 5 = .tuple #[.agg #[.int .i64 G3.i, .int .i64 G3.q, .slice A G3.l.length c], .int .i64 1]) := fun u wv => by subst hVdef; rfl
  have V6 : ∀ u wv, V 6 u wv = (∃ A c, u 6 = .agg #[.int .i64 G3.i, .int .i64 G3.q, .slice A G3.l.length c]) := fun u wv => by subst hVdef; rfl
  have V7 : ∀ u wv, V 7 u wv = (u 7 = .int .i64 1) := fun u wv => by subst hVdef; rfl
  have V8 : ∀ u wv, V 8 u wv = (∃ g, u 8 = .pointer (some ⟨g, 0, none⟩) ∧ W10.heap.size ≤ g ∧ HasG wv g) := fun u wv => by subst hVdef; rfl
  have V9 : ∀ u wv, V 9 u wv = (True) := fun u wv => by subst hVdef; rfl
  have V10 : ∀ u wv, V 10 u wv = (u 10 = .int .i64 1) := fun u wv => by subst hVdef; rfl
  have HVD := Lib.hid hVdef
  clear hVdef
  refine region_each (V := V) (drop := fun _ _ => false) (G := fun wv => Below W10.heap.size W10 wv) (Rel := fun jx wv wv' => Below W10.heap.size wv wv' ∧ (∀ g, HasG wv g → HasG wv' g)) (by kernel_rfl) (by kernel_rfl) (Below.refl _ _).drew ?hmono1 ?hdep1 ⟨?s0_1, ?s1_1, ?s2_1, ?s3_1, ?s4_1, ?s5_1, ?s6_1, ?s7_1, ?s8_1, ?s9_1, ?s10_1, trivial⟩ ?behind1
  case hmono1 =>
    intro ix jx u wv wv' hij hw hd hr
    rw [HVD.out]
    dsimp only
    split <;> intro h <;> first | exact trivial | exact h | (obtain ⟨g, h1, h2, h3⟩ := h; exact ⟨g, h1, h2, hr.2 g h3⟩)
  case hdep1 =>
    intro ix u u' wv h1 h2
    rw [HVD.out]
    dsimp only
    split <;> intro h <;> first | exact trivial | (rw [← h1]; exact h) | (obtain ⟨g, e1, e2⟩ := h; exact ⟨g, h1 ▸ e1, e2⟩)
  case s0_1 =>
    refine owe rfl fun a wx val hG hV hN hO K hK => ?_
    have e3 : a.tmps[3]? = some (.pointer (some ⟨b, 0, none⟩)) := (hO 3 (by kernel_rfl)).trans (by rfl)
    clear hV hN hO
    obtain ⟨⟨y0, y1, y2⟩, -⟩ := (HA10.out.on hG).gat.cells
    obtain ⟨⟨f0, f1, f2, f3⟩, -, j0, j1, j2, j3⟩ := lst_of (HA10.out.on hG).pcs
    obtain ⟨m0, m1, m2, m3⟩ := (HP10.out.on hG).cells
    simp only [P0, P2] at f0 f1 f2 f3 j0 j1 j2 j3 m0 m1 m2 m3
    go_simp
    exact hK.out _ _ (by rw [V0, upd_at]) ⟨Below.refl _ _, fun _ h => h⟩ hG
  case s1_1 =>
    refine owe rfl fun a wx val hG hV hN hO K hK => ?_
    have e1 : a.tmps[1]? = some (.slice (some ad) 3 cs) := (hO 1 (by kernel_rfl)).trans (by rfl)
    clear hV hN hO
    go_simp
    exact hK.out _ _ (by rw [V1, upd_at]) ⟨Below.refl _ _, fun _ h => h⟩ hG
  case s2_1 =>
    refine owe rfl fun a wx val hG hV hN hO K hK => ?_
    have e75 := hN 1 75 (by kernel_rfl) (by kernel_rfl) (by simp)
    have f75 := hV 1 (by kernel_rfl) (by kernel_rfl)
    rw [V1] at f75
    rw [f75] at e75; clear f75
    clear hV hN hO
    go_simp
    exact hK.out _ _ (by rw [V2, upd_at]) ⟨Below.refl _ _, fun _ h => h⟩ hG
  case s3_1 =>
    refine owe rfl fun a wx val hG hV hN hO K hK => ?_
    have e76 := hN 2 76 (by kernel_rfl) (by kernel_rfl) (by simp)
    have f76 := hV 2 (by kernel_rfl) (by kernel_rfl)
    rw [V2] at f76
    rw [f76] at e76; clear f76
    clear hV hN hO
    obtain ⟨⟨y0, y1, y2⟩, -⟩ := (HA10.out.on hG).gat.cells
    obtain ⟨⟨f0, f1, f2, f3⟩, -, j0, j1, j2, j3⟩ := lst_of (HA10.out.on hG).pcs
    obtain ⟨m0, m1, m2, m3⟩ := (HP10.out.on hG).cells
    simp only [P0, P2] at f0 f1 f2 f3 j0 j1 j2 j3 m0 m1 m2 m3
    go_simp
    exact hK.out _ _ (by rw [V3, upd_at]) ⟨Below.refl _ _, fun _ h => h⟩ hG
  case s4_1 =>
    refine owe rfl fun a wx val hG hV hN hO K hK => ?_
    have e74 := hN 0 74 (by kernel_rfl) (by kernel_rfl) (by simp)
    have f74 := hV 0 (by kernel_rfl) (by kernel_rfl)
    rw [V0] at f74
    rw [f74] at e74; clear f74
    have e77 := hN 3 77 (by kernel_rfl) (by kernel_rfl) (by simp)
    have f77 := hV 3 (by kernel_rfl) (by kernel_rfl)
    rw [V3] at f77
    rw [f77] at e77; clear f77
    clear hV hN hO
    go_simp
    refine (C9.out A6 c6 _ (HA10.out.on hG).str (HA10.out.on hG).cap).mono ?_
    rintro e w11 ⟨A9, c9, rfl, -, -, hb⟩
    exact hK.out _ _ (by rw [V4, upd_at]; exact ⟨A9, c9, rfl⟩) ⟨hb.mono hG.size, fun g hg => hasG_on hg hb⟩ (hG.trans (hb.mono hG.size))
  case s5_1 =>
    refine owe rfl fun a wx val hG hV hN hO K hK => ?_
    have e78 := hN 4 78 (by kernel_rfl) (by kernel_rfl) (by simp)
    have f78 := hV 4 (by kernel_rfl) (by kernel_rfl)
    rw [V4] at f78
    obtain ⟨A9, c9, hv⟩ := f78; rw [hv] at e78; clear hv
    clear hV hN hO
    go_simp
    exact hK.out _ _ (by rw [V5, upd_at]; exact ⟨A9, c9, rfl⟩) ⟨Below.refl _ _, fun _ h => h⟩ hG
  case s6_1 =>
    refine owe rfl fun a wx val hG hV hN hO K hK => ?_
    have e73 := hN 5 73 (by kernel_rfl) (by kernel_rfl) (by simp)
    have f73 := hV 5 (by kernel_rfl) (by kernel_rfl)
    rw [V5] at f73
    obtain ⟨A9, c9, hv⟩ := f73; rw [hv] at e73; clear hv
    clear hV hN hO
    go_simp
    exact hK.out _ _ (by rw [V6, upd_at]; exact ⟨A9, c9, rfl⟩) ⟨Below.refl _ _, fun _ h => h⟩ hG
  case s7_1 =>
    refine owe rfl fun a wx val hG hV hN hO K hK => ?_
    have e73 := hN 5 73 (by kernel_rfl) (by kernel_rfl) (by simp)
    have f73 := hV 5 (by kernel_rfl) (by kernel_rfl)
    rw [V5] at f73
    obtain ⟨A9, c9, hv⟩ := f73; rw [hv] at e73; clear hv
    clear hV hN hO
    go_simp
    exact hK.out _ _ (by rw [V7, upd_at]) ⟨Below.refl _ _, fun _ h => h⟩ hG
  case s8_1 =>
    refine owe rfl fun a wx val hG hV hN hO K hK => ?_
    clear hV hN hO
    go_simp
    have hb := Joins.below_alloc1 wx (.cells #[.int .i64 0, .int .i64 0, .slice none 0 0] 46)
    exact hK.out _ _ (by rw [V8, upd_at]; exact ⟨_, rfl, hG.size, _, _, _, GatAt.new wx 0 0 (.slice none 0 0)⟩) ⟨hb.mono hG.size, fun g hg => hasG_on hg hb⟩ (hG.trans (hb.mono hG.size))
  case s9_1 =>
    refine owe rfl fun a wx val hG hV hN hO K hK => ?_
    have e16 := hN 8 16 (by kernel_rfl) (by kernel_rfl) (by simp)
    have f16 := hV 8 (by kernel_rfl) (by kernel_rfl)
    rw [V8] at f16
    obtain ⟨g, hv, hg, a9, b0, T9, hc⟩ := f16; rw [hv] at e16
    have e79 := hN 6 79 (by kernel_rfl) (by kernel_rfl) (by simp)
    have f79 := hV 6 (by kernel_rfl) (by kernel_rfl)
    rw [V6] at f79
    obtain ⟨A9, c9, hv⟩ := f79; rw [hv] at e79; clear hv
    clear hV hN hO
    obtain ⟨⟨z0, z1, z2⟩, hfz⟩ := hc.cells
    go_simp
    exact hK.out undef (put3 wx g G3.i G3.q (.slice A9 G3.l.length c9)) (by rw [V9]; trivial) ⟨put3_below (Below.refl _ _) hg _ _ _, fun g2 h2 => hasG_put ⟨_, _, _, hc⟩ h2 _ _ _⟩ (put3_below hG hg _ _ _)
  case s10_1 =>
    refine owe rfl fun a wx val hG hV hN hO K hK => ?_
    have e80 := hN 7 80 (by kernel_rfl) (by kernel_rfl) (by simp)
    have f80 := hV 7 (by kernel_rfl) (by kernel_rfl)
    rw [V7] at f80
    rw [f80] at e80; clear f80
    clear hV hN hO
    go_simp
    exact hK.out _ _ (by rw [V10, upd_at]) ⟨Below.refl _ _, fun _ h => h⟩ hG
  intro val wx hG hV
  have f0 := hV 0 (by simp) (fun _ _ => by rfl)
  rw [V0] at f0
  have f1 := hV 1 (by simp) (fun _ _ => by rfl)
  rw [V1] at f1
  have f2 := hV 2 (by simp) (fun _ _ => by rfl)
  rw [V2] at f2
  have f3 := hV 3 (by simp) (fun _ _ => by rfl)
  rw [V3] at f3
  have f4 := hV 4 (by simp) (fun _ _ => by rfl)
  rw [V4] at f4
  have f5 := hV 5 (by simp) (fun _ _ => by rfl)
  rw [V5] at f5
  have f6 := hV 6 (by simp) (fun _ _ => by rfl)
  rw [V6] at f6
  have f7 := hV 7 (by simp) (fun _ _ => by rfl)
  rw [V7] at f7
  have f8 := hV 8 (by simp) (fun _ _ => by rfl)
  rw [V8] at f8
  have f9 := hV 9 (by simp) (fun _ _ => by rfl)
  rw [V9] at f9
  have f10 := hV 10 (by simp) (fun _ _ => by rfl)
  rw [V10] at f10
  clear hV V0 V1 V2 V3 V4 V5 V6 V7 V8 V9 V10
  simp only [putAll, Act.put, List.setIfInBounds_toArray, List.set_cons_zero, List.set_cons_succ]
  generalize val 0 = z0 at *; (subst f0)
  generalize val 1 = z1 at *; (subst f1)
  generalize val 2 = z2 at *; (subst f2)
  generalize val 3 = z3 at *; (subst f3)
  generalize val 7 = z7 at *; (subst f7)
  generalize val 10 = z10 at *; (subst f10)
  have HA11 := Lib.hid (HA10.out.on hG)
  have HP11 := Lib.hid (HP10.out.on hG)
  clear f8 f4 f5 f6 f9 hG HA10 HP10
  generalize val 8 = z8 at *
  go_wp2_with fail
  dsimp only [List.append]
  have HV : ∃ V : Nat → (Nat → Value) → World → Prop, V = (fun ix u wv => match ix with
    | 0 => u 0 = .int .i64 0
    | 1 => u 1 = .bool true
    | 2 => u 2 = .bool true
    | 3 => u 3 = .slice (some ad) 3 cs
    | 4 => u 4 = .pointer (some ⟨ad.block, ad.off + 8, none⟩)
    | 5 => u 5 = .agg #[.int .i64 7, .int .i64 2, .int .i64 3, .string ⟨#[101]⟩]
    | 6 => u 6 = .agg #[.int .i64 7, .int .i64 2, .int .i64 3, .string ⟨#[101]⟩]
    | 7 => u 7 = .bool true
    | 8 => u 8 = .bool true
    | 9 => u 9 = .bool true
    | 10 => u 10 = .int .i64 0
    | 11 => u 11 = .bool true
    | 12 => u 12 = .bool true
    | 13 => u 13 = .bool true
    | 14 => u 14 = .bool false
    | 15 => u 15 = .bool true
    | 16 => u 16 = .bool true
    | 17 => u 17 = .bool true
    | 18 => u 18 = .int .i64 0
    | 19 => u 19 = .bool true
    | 20 => u 20 = .bool true
    | 21 => u 21 = .bool true
    | 22 => u 22 = .int .i64 0
    | 23 => u 23 = .bool true
    | 24 => u 24 = .bool true
    | 25 => u 25 = .bool true
    | 26 => u 26 = .string ⟨#[97, 98, 99, 100, 101]⟩
    | 27 => u 27 = .bool true
    | 28 => u 28 = .bool true
    | 29 => u 29 = .bool true
    | 30 => u 30 = .bool true
    | 31 => u 31 = .bool true
    | 32 => u 32 = .bool true
    | 33 => u 33 = .string ⟨#[0, 7, 2, 3, 1, 101]⟩
    | 34 => u 34 = .bool true
    | 35 => u 35 = .bool true
    | 36 => u 36 = .bool true
    | 37 => u 37 = .int .i64 0
    | 38 => u 38 = .bool true
    | 39 => u 39 = .bool true
    | 40 => u 40 = .bool true
    | 41 => u 41 = .agg #[.int .i64 7, .int .i64 2, .int .i64 3, .string ⟨#[101]⟩]
    | 42 => u 42 = .slice (some ad) 3 cs
    | 43 => u 43 = .pointer (some ⟨ad.block, ad.off + 8, none⟩)
    | 44 => u 44 = .agg #[.int .i64 7, .int .i64 2, .int .i64 3, .string ⟨#[101]⟩]
    | 45 => u 45 = .bool true
    | 46 => u 46 = .bool true
    | 47 => u 47 = .bool true
    | 48 => u 48 = .string ⟨#[120]⟩
    | 49 => u 49 = .bool true
    | 50 => u 50 = .bool true
    | 51 => u 51 = .bool true
    | 52 => u 52 = .int .i64 0
    | 53 => u 53 = .bool true
    | 54 => u 54 = .bool true
    | 55 => u 55 = .bool true
    | 56 => u 56 = .int .i64 1
    | 57 => u 57 = .bool true
    | 58 => u 58 = .bool true
    | 59 => u 59 = .bool true
    | 60 => u 60 = .agg #[.int .i64 G3.i, .int .i64 G3.q, .slice A6 G3.l.length c6]
    | 61 => u 61 = .bool true
    | 62 => u 62 = .bool true
    | 63 => u 63 = .bool true
    | 64 => u 64 = .agg #[.int .i64 7, .int .i64 2, .int .i64 3, .string ⟨#[101]⟩]
    | 65 => u 65 = .bool true
    | 66 => u 66 = .bool true
    | 67 => u 67 = .bool true
    | _ => True) := ⟨_, rfl⟩
  obtain ⟨V, hVdef⟩ := HV
  have V0 : ∀ u wv, V 0 u wv = (u 0 = .int .i64 0) := fun u wv => by subst hVdef; rfl
  have V1 : ∀ u wv, V 1 u wv = (u 1 = .bool true) := fun u wv => by subst hVdef; rfl
  have V2 : ∀ u wv, V 2 u wv = (u 2 = .bool true) := fun u wv => by subst hVdef; rfl
  have V3 : ∀ u wv, V 3 u wv = (u 3 = .slice (some ad) 3 cs) := fun u wv => by subst hVdef; rfl
  have V4 : ∀ u wv, V 4 u wv = (u 4 = .pointer (some ⟨ad.block, ad.off + 8, none⟩)) := fun u wv => by subst hVdef; rfl
  have V5 : ∀ u wv, V 5 u wv = (u 5 = .agg #[.int .i64 7, .int .i64 2, .int .i64 3, .string ⟨#[101]⟩]) := fun u wv => by subst hVdef; rfl
  have V6 : ∀ u wv, V 6 u wv = (u 6 = .agg #[.int .i64 7, .int .i64 2, .int .i64 3, .string ⟨#[101]⟩]) := fun u wv => by subst hVdef; rfl
  have V7 : ∀ u wv, V 7 u wv = (u 7 = .bool true) := fun u wv => by subst hVdef; rfl
  have V8 : ∀ u wv, V 8 u wv = (u 8 = .bool true) := fun u wv => by subst hVdef; rfl
  have V9 : ∀ u wv, V 9 u wv = (u 9 = .bool true) := fun u wv => by subst hVdef; rfl
  have V10 : ∀ u wv, V 10 u wv = (u 10 = .int .i64 0) := fun u wv => by subst hVdef; rfl
  have V11 : ∀ u wv, V 11 u wv = (u 11 = .bool true) := fun u wv => by subst hVdef; rfl
  have V12 : ∀ u wv, V 12 u wv = (u 12 = .bool true) := fun u wv => by subst hVdef; rfl
  have V13 : ∀ u wv, V 13 u wv = (u 13 = .bool true) := fun u wv => by subst hVdef; rfl
  have V14 : ∀ u wv, V 14 u wv = (u 14 = .bool false) := fun u wv => by subst hVdef; rfl
  have V15 : ∀ u wv, V 15 u wv = (u 15 = .bool true) := fun u wv => by subst hVdef; rfl
  have V16 : ∀ u wv, V 16 u wv = (u 16 = .bool true) := fun u wv => by subst hVdef; rfl
  have V17 : ∀ u wv, V 17 u wv = (u 17 = .bool true) := fun u wv => by subst hVdef; rfl
  have V18 : ∀ u wv, V 18 u wv = (u 18 = .int .i64 0) := fun u wv => by subst hVdef; rfl
  have V19 : ∀ u wv, V 19 u wv = (u 19 = .bool true) := fun u wv => by subst hVdef; rfl
  have V20 : ∀ u wv, V 20 u wv = (u 20 = .bool true) := fun u wv => by subst hVdef; rfl
  have V21 : ∀ u wv, V 21 u wv = (u 21 = .bool true) := fun u wv => by subst hVdef; rfl
  have V22 : ∀ u wv, V 22 u wv = (u 22 = .int .i64 0) := fun u wv => by subst hVdef; rfl
  have V23 : ∀ u wv, V 23 u wv = (u 23 = .bool true) := fun u wv => by subst hVdef; rfl
  have V24 : ∀ u wv, V 24 u wv = (u 24 = .bool true) := fun u wv => by subst hVdef; rfl
  have V25 : ∀ u wv, V 25 u wv = (u 25 = .bool true) := fun u wv => by subst hVdef; rfl
  have V26 : ∀ u wv, V 26 u wv = (u 26 = .string ⟨#[97, 98, 99, 100, 101]⟩) := fun u wv => by subst hVdef; rfl
  have V27 : ∀ u wv, V 27 u wv = (u 27 = .bool true) := fun u wv => by subst hVdef; rfl
  have V28 : ∀ u wv, V 28 u wv = (u 28 = .bool true) := fun u wv => by subst hVdef; rfl
  have V29 : ∀ u wv, V 29 u wv = (u 29 = .bool true) := fun u wv => by subst hVdef; rfl
  have V30 : ∀ u wv, V 30 u wv = (u 30 = .bool true) := fun u wv => by subst hVdef; rfl
  have V31 : ∀ u wv, V 31 u wv = (u 31 = .bool true) := fun u wv => by subst hVdef; rfl
  have V32 : ∀ u wv, V 32 u wv = (u 32 = .bool true) := fun u wv => by subst hVdef; rfl
  have V33 : ∀ u wv, V 33 u wv = (u 33 = .string ⟨#[0, 7, 2, 3, 1, 101]⟩) := fun u wv => by subst hVdef; rfl
  have V34 : ∀ u wv, V 34 u wv = (u 34 = .bool true) := fun u wv => by subst hVdef; rfl
  have V35 : ∀ u wv, V 35 u wv = (u 35 = .bool true) := fun u wv => by subst hVdef; rfl
  have V36 : ∀ u wv, V 36 u wv = (u 36 = .bool true) := fun u wv => by subst hVdef; rfl
  have V37 : ∀ u wv, V 37 u wv = (u 37 = .int .i64 0) := fun u wv => by subst hVdef; rfl
  have V38 : ∀ u wv, V 38 u wv = (u 38 = .bool true) := fun u wv => by subst hVdef; rfl
  have V39 : ∀ u wv, V 39 u wv = (u 39 = .bool true) := fun u wv => by subst hVdef; rfl
  have V40 : ∀ u wv, V 40 u wv = (u 40 = .bool true) := fun u wv => by subst hVdef; rfl
  have V41 : ∀ u wv, V 41 u wv = (u 41 = .agg #[.int .i64 7, .int .i64 2, .int .i64 3, .string ⟨#[101]⟩]) := fun u wv => by subst hVdef; rfl
  have V42 : ∀ u wv, V 42 u wv = (u 42 = .slice (some ad) 3 cs) := fun u wv => by subst hVdef; rfl
  have V43 : ∀ u wv, V 43 u wv = (u 43 = .pointer (some ⟨ad.block, ad.off + 8, none⟩)) := fun u wv => by subst hVdef; rfl
  have V44 : ∀ u wv, V 44 u wv = (u 44 = .agg #[.int .i64 7, .int .i64 2, .int .i64 3, .string ⟨#[101]⟩]) := fun u wv => by subst hVdef; rfl
  have V45 : ∀ u wv, V 45 u wv = (u 45 = .bool true) := fun u wv => by subst hVdef; rfl
  have V46 : ∀ u wv, V 46 u wv = (u 46 = .bool true) := fun u wv => by subst hVdef; rfl
  have V47 : ∀ u wv, V 47 u wv = (u 47 = .bool true) := fun u wv => by subst hVdef; rfl
  have V48 : ∀ u wv, V 48 u wv = (u 48 = .string ⟨#[120]⟩) := fun u wv => by subst hVdef; rfl
  have V49 : ∀ u wv, V 49 u wv = (u 49 = .bool true) := fun u wv => by subst hVdef; rfl
  have V50 : ∀ u wv, V 50 u wv = (u 50 = .bool true) := fun u wv => by subst hVdef; rfl
  have V51 : ∀ u wv, V 51 u wv = (u 51 = .bool true) := fun u wv => by subst hVdef; rfl
  have V52 : ∀ u wv, V 52 u wv = (u 52 = .int .i64 0) := fun u wv => by subst hVdef; rfl
  have V53 : ∀ u wv, V 53 u wv = (u 53 = .bool true) := fun u wv => by subst hVdef; rfl
  have V54 : ∀ u wv, V 54 u wv = (u 54 = .bool true) := fun u wv => by subst hVdef; rfl
  have V55 : ∀ u wv, V 55 u wv = (u 55 = .bool true) := fun u wv => by subst hVdef; rfl
  have V56 : ∀ u wv, V 56 u wv = (u 56 = .int .i64 1) := fun u wv => by subst hVdef; rfl
  have V57 : ∀ u wv, V 57 u wv = (u 57 = .bool true) := fun u wv => by subst hVdef; rfl
  have V58 : ∀ u wv, V 58 u wv = (u 58 = .bool true) := fun u wv => by subst hVdef; rfl
  have V59 : ∀ u wv, V 59 u wv = (u 59 = .bool true) := fun u wv => by subst hVdef; rfl
  have V60 : ∀ u wv, V 60 u wv = (u 60 = .agg #[.int .i64 G3.i, .int .i64 G3.q, .slice A6 G3.l.length c6]) := fun u wv => by subst hVdef; rfl
  have V61 : ∀ u wv, V 61 u wv = (u 61 = .bool true) := fun u wv => by subst hVdef; rfl
  have V62 : ∀ u wv, V 62 u wv = (u 62 = .bool true) := fun u wv => by subst hVdef; rfl
  have V63 : ∀ u wv, V 63 u wv = (u 63 = .bool true) := fun u wv => by subst hVdef; rfl
  have V64 : ∀ u wv, V 64 u wv = (u 64 = .agg #[.int .i64 7, .int .i64 2, .int .i64 3, .string ⟨#[101]⟩]) := fun u wv => by subst hVdef; rfl
  have V65 : ∀ u wv, V 65 u wv = (u 65 = .bool true) := fun u wv => by subst hVdef; rfl
  have V66 : ∀ u wv, V 66 u wv = (u 66 = .bool true) := fun u wv => by subst hVdef; rfl
  have V67 : ∀ u wv, V 67 u wv = (u 67 = .bool true) := fun u wv => by subst hVdef; rfl
  have HVD := Lib.hid hVdef
  clear hVdef
  refine region_each (V := V) (drop := fun _ _ => false) (G := fun wv => Below wx.heap.size wx wv) (Rel := fun jx wv wv' => Below wx.heap.size wv wv' ∧ (∀ g, HasG wv g → HasG wv' g)) (by kernel_rfl) (by kernel_rfl) (Below.refl _ _).drew ?hmono2 ?hdep2 ⟨?s0_2, ?s1_2, ?s2_2, ?s3_2, ?s4_2, ?s5_2, ?s6_2, ?s7_2, ?s8_2, ?s9_2, ?s10_2, ?s11_2, ?s12_2, ?s13_2, ?s14_2, ?s15_2, ?s16_2, ?s17_2, ?s18_2, ?s19_2, ?s20_2, ?s21_2, ?s22_2, ?s23_2, ?s24_2, ?s25_2, ?s26_2, ?s27_2, ?s28_2, ?s29_2, ?s30_2, ?s31_2, ?s32_2, ?s33_2, ?s34_2, ?s35_2, ?s36_2, ?s37_2, ?s38_2, ?s39_2, ?s40_2, ?s41_2, ?s42_2, ?s43_2, ?s44_2, ?s45_2, ?s46_2, ?s47_2, ?s48_2, ?s49_2, ?s50_2, ?s51_2, ?s52_2, ?s53_2, ?s54_2, ?s55_2, ?s56_2, ?s57_2, ?s58_2, ?s59_2, ?s60_2, ?s61_2, ?s62_2, ?s63_2, ?s64_2, ?s65_2, ?s66_2, ?s67_2, trivial⟩ ?behind2
  case hmono2 =>
    intro ix jx u wv wv' hij hw hd hr
    rw [HVD.out]
    dsimp only
    split <;> intro h <;> first | exact trivial | exact h | (obtain ⟨g, h1, h2, h3⟩ := h; exact ⟨g, h1, h2, hr.2 g h3⟩)
  case hdep2 =>
    intro ix u u' wv h1 h2
    rw [HVD.out]
    dsimp only
    split <;> intro h <;> first | exact trivial | (rw [← h1]; exact h) | (obtain ⟨g, e1, e2⟩ := h; exact ⟨g, h1 ▸ e1, e2⟩)
  case s0_2 =>
    refine owe rfl fun a wx val hG hV hN hO K hK => ?_
    have e2 : a.tmps[2]? = some (.int .i64 0) := (hO 2 (by kernel_rfl)).trans (by rfl)
    clear hV hN hO
    go_simp
    exact hK.out _ _ (by rw [V0, upd_at]) ⟨Below.refl _ _, fun _ h => h⟩ hG
  case s1_2 =>
    refine owe rfl fun a wx val hG hV hN hO K hK => ?_
    have e81 := hN 0 81 (by kernel_rfl) (by kernel_rfl) (by simp)
    have f81 := hV 0 (by kernel_rfl) (by kernel_rfl)
    rw [V0] at f81
    rw [f81] at e81; clear f81
    clear hV hN hO
    go_simp
    exact hK.out _ _ (by rw [V1, upd_at]) ⟨Below.refl _ _, fun _ h => h⟩ hG
  case s2_2 =>
    refine owe rfl fun a wx val hG hV hN hO K hK => ?_
    have e82 := hN 1 82 (by kernel_rfl) (by kernel_rfl) (by simp)
    have f82 := hV 1 (by kernel_rfl) (by kernel_rfl)
    rw [V1] at f82
    rw [f82] at e82; clear f82
    clear hV hN hO
    go_simp
    exact hK.out _ _ (by rw [V2, upd_at]) ⟨Below.refl _ _, fun _ h => h⟩ hG
  case s3_2 =>
    refine owe_if (g := 2) (t := 83) (b := true) rfl (by kernel_rfl) (by kernel_rfl) (by kernel_rfl) (by simp) (fun val w h => by rw [V2] at h; exact h) fun a wx val hG hV hN hO K hK => ?_
    have e1 : a.tmps[1]? = some (.slice (some ad) 3 cs) := (hO 1 (by kernel_rfl)).trans (by rfl)
    clear hV hN hO
    go_simp
    exact hK.out _ _ (by rw [V3, upd_at]) ⟨Below.refl _ _, fun _ h => h⟩ hG
  case s4_2 =>
    refine owe_if (g := 2) (t := 83) (b := true) rfl (by kernel_rfl) (by kernel_rfl) (by kernel_rfl) (by simp) (fun val w h => by rw [V2] at h; exact h) fun a wx val hG hV hN hO K hK => ?_
    have e84 := hN 3 84 (by kernel_rfl) (by kernel_rfl) (by simp)
    have f84 := hV 3 (by kernel_rfl) (by kernel_rfl)
    rw [V3] at f84
    rw [f84] at e84; clear f84
    clear hV hN hO
    go_simp
    exact hK.out _ _ (by rw [V4, upd_at]) ⟨Below.refl _ _, fun _ h => h⟩ hG
  case s5_2 =>
    refine owe_if (g := 2) (t := 83) (b := true) rfl (by kernel_rfl) (by kernel_rfl) (by kernel_rfl) (by simp) (fun val w h => by rw [V2] at h; exact h) fun a wx val hG hV hN hO K hK => ?_
    have e85 := hN 4 85 (by kernel_rfl) (by kernel_rfl) (by simp)
    have f85 := hV 4 (by kernel_rfl) (by kernel_rfl)
    rw [V4] at f85
    rw [f85] at e85; clear f85
    clear hV hN hO
    obtain ⟨⟨y0, y1, y2⟩, -⟩ := (HA11.out.on hG).gat.cells
    obtain ⟨⟨f0, f1, f2, f3⟩, -, j0, j1, j2, j3⟩ := lst_of (HA11.out.on hG).pcs
    obtain ⟨m0, m1, m2, m3⟩ := (HP11.out.on hG).cells
    simp only [P0, P2] at f0 f1 f2 f3 j0 j1 j2 j3 m0 m1 m2 m3
    go_simp
    exact hK.out _ _ (by rw [V5, upd_at]) ⟨Below.refl _ _, fun _ h => h⟩ hG
  case s6_2 =>
    refine owe_if (g := 2) (t := 83) (b := true) rfl (by kernel_rfl) (by kernel_rfl) (by kernel_rfl) (by simp) (fun val w h => by rw [V2] at h; exact h) fun a wx val hG hV hN hO K hK => ?_
    clear hV hN hO
    go_simp
    exact hK.out _ _ (by rw [V6, upd_at]) ⟨Below.refl _ _, fun _ h => h⟩ hG
  case s7_2 =>
    refine owe_if (g := 2) (t := 83) (b := true) rfl (by kernel_rfl) (by kernel_rfl) (by kernel_rfl) (by simp) (fun val w h => by rw [V2] at h; exact h) fun a wx val hG hV hN hO K hK => ?_
    have e86 := hN 5 86 (by kernel_rfl) (by kernel_rfl) (by simp)
    have f86 := hV 5 (by kernel_rfl) (by kernel_rfl)
    rw [V5] at f86
    rw [f86] at e86; clear f86
    have e87 := hN 6 87 (by kernel_rfl) (by kernel_rfl) (by simp)
    have f87 := hV 6 (by kernel_rfl) (by kernel_rfl)
    rw [V6] at f87
    rw [f87] at e87; clear f87
    clear hV hN hO
    have hEG := fun x y w => eqP_guard .eql x y P2 P2 w
    have hEQ := fun w => eqlP P2 P2 w
    rw [(sameP_iff P2 P2).2 rfl] at hEQ
    simp only [pv, P2] at hEG hEQ
    go_simp
    exact hK.out _ _ (by rw [V7, upd_at]) ⟨Below.refl _ _, fun _ h => h⟩ hG
  case s8_2 =>
    refine owe rfl fun a wx val hG hV hN hO K hK => ?_
    have e83 := hN 2 83 (by kernel_rfl) (by kernel_rfl) (by simp)
    have f83 := hV 2 (by kernel_rfl) (by kernel_rfl)
    rw [V2] at f83
    rw [f83] at e83; clear f83
    have e88 := hN 7 88 (by kernel_rfl) (by kernel_rfl) (by simp)
    have f88 := hV 7 (by kernel_rfl) (by kernel_rfl)
    rw [V7] at f88
    rw [f88] at e88; clear f88
    clear hV hN hO
    go_simp
    exact hK.out _ _ (by rw [V8, upd_at]) ⟨Below.refl _ _, fun _ h => h⟩ hG
  case s9_2 =>
    refine owe rfl fun a wx val hG hV hN hO K hK => ?_
    have e89 := hN 8 89 (by kernel_rfl) (by kernel_rfl) (by simp)
    have f89 := hV 8 (by kernel_rfl) (by kernel_rfl)
    rw [V8] at f89
    rw [f89] at e89; clear f89
    clear hV hN hO
    go_simp
    exact hK.out _ _ (by rw [V9, upd_at]) ⟨Below.refl _ _, fun _ h => h⟩ hG
  case s10_2 =>
    refine owe_if (g := 9) (t := 90) (b := true) rfl (by kernel_rfl) (by kernel_rfl) (by kernel_rfl) (by simp) (fun val w h => by rw [V9] at h; exact h) fun a wx val hG hV hN hO K hK => ?_
    have e4 : a.tmps[4]? = some (.int .i64 0) := (hO 4 (by kernel_rfl)).trans (by rfl)
    clear hV hN hO
    go_simp
    exact hK.out _ _ (by rw [V10, upd_at]) ⟨Below.refl _ _, fun _ h => h⟩ hG
  case s11_2 =>
    refine owe_if (g := 9) (t := 90) (b := true) rfl (by kernel_rfl) (by kernel_rfl) (by kernel_rfl) (by simp) (fun val w h => by rw [V9] at h; exact h) fun a wx val hG hV hN hO K hK => ?_
    have e91 := hN 10 91 (by kernel_rfl) (by kernel_rfl) (by simp)
    have f91 := hV 10 (by kernel_rfl) (by kernel_rfl)
    rw [V10] at f91
    rw [f91] at e91; clear f91
    clear hV hN hO
    go_simp
    exact hK.out _ _ (by rw [V11, upd_at]) ⟨Below.refl _ _, fun _ h => h⟩ hG
  case s12_2 =>
    refine owe rfl fun a wx val hG hV hN hO K hK => ?_
    have e90 := hN 9 90 (by kernel_rfl) (by kernel_rfl) (by simp)
    have f90 := hV 9 (by kernel_rfl) (by kernel_rfl)
    rw [V9] at f90
    rw [f90] at e90; clear f90
    have e92 := hN 11 92 (by kernel_rfl) (by kernel_rfl) (by simp)
    have f92 := hV 11 (by kernel_rfl) (by kernel_rfl)
    rw [V11] at f92
    rw [f92] at e92; clear f92
    clear hV hN hO
    go_simp
    exact hK.out _ _ (by rw [V12, upd_at]) ⟨Below.refl _ _, fun _ h => h⟩ hG
  case s13_2 =>
    refine owe rfl fun a wx val hG hV hN hO K hK => ?_
    have e93 := hN 12 93 (by kernel_rfl) (by kernel_rfl) (by simp)
    have f93 := hV 12 (by kernel_rfl) (by kernel_rfl)
    rw [V12] at f93
    rw [f93] at e93; clear f93
    clear hV hN hO
    go_simp
    exact hK.out _ _ (by rw [V13, upd_at]) ⟨Below.refl _ _, fun _ h => h⟩ hG
  case s14_2 =>
    refine owe_if (g := 13) (t := 94) (b := true) rfl (by kernel_rfl) (by kernel_rfl) (by kernel_rfl) (by simp) (fun val w h => by rw [V13] at h; exact h) fun a wx val hG hV hN hO K hK => ?_
    have e6 : a.tmps[6]? = some (.bool false) := (hO 6 (by kernel_rfl)).trans (by rfl)
    clear hV hN hO
    go_simp
    exact hK.out _ _ (by rw [V14, upd_at]) ⟨Below.refl _ _, fun _ h => h⟩ hG
  case s15_2 =>
    refine owe_if (g := 13) (t := 94) (b := true) rfl (by kernel_rfl) (by kernel_rfl) (by kernel_rfl) (by simp) (fun val w h => by rw [V13] at h; exact h) fun a wx val hG hV hN hO K hK => ?_
    have e95 := hN 14 95 (by kernel_rfl) (by kernel_rfl) (by simp)
    have f95 := hV 14 (by kernel_rfl) (by kernel_rfl)
    rw [V14] at f95
    rw [f95] at e95; clear f95
    clear hV hN hO
    go_simp
    exact hK.out _ _ (by rw [V15, upd_at]) ⟨Below.refl _ _, fun _ h => h⟩ hG
  case s16_2 =>
    refine owe rfl fun a wx val hG hV hN hO K hK => ?_
    have e94 := hN 13 94 (by kernel_rfl) (by kernel_rfl) (by simp)
    have f94 := hV 13 (by kernel_rfl) (by kernel_rfl)
    rw [V13] at f94
    rw [f94] at e94; clear f94
    have e96 := hN 15 96 (by kernel_rfl) (by kernel_rfl) (by simp)
    have f96 := hV 15 (by kernel_rfl) (by kernel_rfl)
    rw [V15] at f96
    rw [f96] at e96; clear f96
    clear hV hN hO
    go_simp
    exact hK.out _ _ (by rw [V16, upd_at]) ⟨Below.refl _ _, fun _ h => h⟩ hG
  case s17_2 =>
    refine owe rfl fun a wx val hG hV hN hO K hK => ?_
    have e97 := hN 16 97 (by kernel_rfl) (by kernel_rfl) (by simp)
    have f97 := hV 16 (by kernel_rfl) (by kernel_rfl)
    rw [V16] at f97
    rw [f97] at e97; clear f97
    clear hV hN hO
    go_simp
    exact hK.out _ _ (by rw [V17, upd_at]) ⟨Below.refl _ _, fun _ h => h⟩ hG
  case s18_2 =>
    refine owe_if (g := 17) (t := 98) (b := true) rfl (by kernel_rfl) (by kernel_rfl) (by kernel_rfl) (by simp) (fun val w h => by rw [V17] at h; exact h) fun a wx val hG hV hN hO K hK => ?_
    have e7 : a.tmps[7]? = some (.int .i64 0) := (hO 7 (by kernel_rfl)).trans (by rfl)
    clear hV hN hO
    go_simp
    exact hK.out _ _ (by rw [V18, upd_at]) ⟨Below.refl _ _, fun _ h => h⟩ hG
  case s19_2 =>
    refine owe_if (g := 17) (t := 98) (b := true) rfl (by kernel_rfl) (by kernel_rfl) (by kernel_rfl) (by simp) (fun val w h => by rw [V17] at h; exact h) fun a wx val hG hV hN hO K hK => ?_
    have e99 := hN 18 99 (by kernel_rfl) (by kernel_rfl) (by simp)
    have f99 := hV 18 (by kernel_rfl) (by kernel_rfl)
    rw [V18] at f99
    rw [f99] at e99; clear f99
    clear hV hN hO
    go_simp
    exact hK.out _ _ (by rw [V19, upd_at]) ⟨Below.refl _ _, fun _ h => h⟩ hG
  case s20_2 =>
    refine owe rfl fun a wx val hG hV hN hO K hK => ?_
    have e98 := hN 17 98 (by kernel_rfl) (by kernel_rfl) (by simp)
    have f98 := hV 17 (by kernel_rfl) (by kernel_rfl)
    rw [V17] at f98
    rw [f98] at e98; clear f98
    have e100 := hN 19 100 (by kernel_rfl) (by kernel_rfl) (by simp)
    have f100 := hV 19 (by kernel_rfl) (by kernel_rfl)
    rw [V19] at f100
    rw [f100] at e100; clear f100
    clear hV hN hO
    go_simp
    exact hK.out _ _ (by rw [V20, upd_at]) ⟨Below.refl _ _, fun _ h => h⟩ hG
  case s21_2 =>
    refine owe rfl fun a wx val hG hV hN hO K hK => ?_
    have e101 := hN 20 101 (by kernel_rfl) (by kernel_rfl) (by simp)
    have f101 := hV 20 (by kernel_rfl) (by kernel_rfl)
    rw [V20] at f101
    rw [f101] at e101; clear f101
    clear hV hN hO
    go_simp
    exact hK.out _ _ (by rw [V21, upd_at]) ⟨Below.refl _ _, fun _ h => h⟩ hG
  case s22_2 =>
    refine owe_if (g := 21) (t := 102) (b := true) rfl (by kernel_rfl) (by kernel_rfl) (by kernel_rfl) (by simp) (fun val w h => by rw [V21] at h; exact h) fun a wx val hG hV hN hO K hK => ?_
    have e8 : a.tmps[8]? = some (.int .i64 0) := (hO 8 (by kernel_rfl)).trans (by rfl)
    clear hV hN hO
    go_simp
    exact hK.out _ _ (by rw [V22, upd_at]) ⟨Below.refl _ _, fun _ h => h⟩ hG
  case s23_2 =>
    refine owe_if (g := 21) (t := 102) (b := true) rfl (by kernel_rfl) (by kernel_rfl) (by kernel_rfl) (by simp) (fun val w h => by rw [V21] at h; exact h) fun a wx val hG hV hN hO K hK => ?_
    have e103 := hN 22 103 (by kernel_rfl) (by kernel_rfl) (by simp)
    have f103 := hV 22 (by kernel_rfl) (by kernel_rfl)
    rw [V22] at f103
    rw [f103] at e103; clear f103
    clear hV hN hO
    go_simp
    exact hK.out _ _ (by rw [V23, upd_at]) ⟨Below.refl _ _, fun _ h => h⟩ hG
  case s24_2 =>
    refine owe rfl fun a wx val hG hV hN hO K hK => ?_
    have e102 := hN 21 102 (by kernel_rfl) (by kernel_rfl) (by simp)
    have f102 := hV 21 (by kernel_rfl) (by kernel_rfl)
    rw [V21] at f102
    rw [f102] at e102; clear f102
    have e104 := hN 23 104 (by kernel_rfl) (by kernel_rfl) (by simp)
    have f104 := hV 23 (by kernel_rfl) (by kernel_rfl)
    rw [V23] at f104
    rw [f104] at e104; clear f104
    clear hV hN hO
    go_simp
    exact hK.out _ _ (by rw [V24, upd_at]) ⟨Below.refl _ _, fun _ h => h⟩ hG
  case s25_2 =>
    refine owe rfl fun a wx val hG hV hN hO K hK => ?_
    have e105 := hN 24 105 (by kernel_rfl) (by kernel_rfl) (by simp)
    have f105 := hV 24 (by kernel_rfl) (by kernel_rfl)
    rw [V24] at f105
    rw [f105] at e105; clear f105
    clear hV hN hO
    go_simp
    exact hK.out _ _ (by rw [V25, upd_at]) ⟨Below.refl _ _, fun _ h => h⟩ hG
  case s26_2 =>
    refine owe_if (g := 25) (t := 106) (b := true) rfl (by kernel_rfl) (by kernel_rfl) (by kernel_rfl) (by simp) (fun val w h => by rw [V25] at h; exact h) fun a wx val hG hV hN hO K hK => ?_
    have e9 : a.tmps[9]? = some (.string ⟨#[97, 98, 99, 100, 101]⟩) := (hO 9 (by kernel_rfl)).trans (by rfl)
    clear hV hN hO
    go_simp
    exact hK.out _ _ (by rw [V26, upd_at]) ⟨Below.refl _ _, fun _ h => h⟩ hG
  case s27_2 =>
    refine owe_if (g := 25) (t := 106) (b := true) rfl (by kernel_rfl) (by kernel_rfl) (by kernel_rfl) (by simp) (fun val w h => by rw [V25] at h; exact h) fun a wx val hG hV hN hO K hK => ?_
    have e107 := hN 26 107 (by kernel_rfl) (by kernel_rfl) (by simp)
    have f107 := hV 26 (by kernel_rfl) (by kernel_rfl)
    rw [V26] at f107
    rw [f107] at e107; clear f107
    clear hV hN hO
    go_simp
    exact hK.out _ _ (by rw [V27, upd_at]) ⟨Below.refl _ _, fun _ h => h⟩ hG
  case s28_2 =>
    refine owe rfl fun a wx val hG hV hN hO K hK => ?_
    have e106 := hN 25 106 (by kernel_rfl) (by kernel_rfl) (by simp)
    have f106 := hV 25 (by kernel_rfl) (by kernel_rfl)
    rw [V25] at f106
    rw [f106] at e106; clear f106
    have e108 := hN 27 108 (by kernel_rfl) (by kernel_rfl) (by simp)
    have f108 := hV 27 (by kernel_rfl) (by kernel_rfl)
    rw [V27] at f108
    rw [f108] at e108; clear f108
    clear hV hN hO
    go_simp
    exact hK.out _ _ (by rw [V28, upd_at]) ⟨Below.refl _ _, fun _ h => h⟩ hG
  case s29_2 =>
    refine owe rfl fun a wx val hG hV hN hO K hK => ?_
    have e109 := hN 28 109 (by kernel_rfl) (by kernel_rfl) (by simp)
    have f109 := hV 28 (by kernel_rfl) (by kernel_rfl)
    rw [V28] at f109
    rw [f109] at e109; clear f109
    clear hV hN hO
    go_simp
    exact hK.out _ _ (by rw [V29, upd_at]) ⟨Below.refl _ _, fun _ h => h⟩ hG
  case s30_2 =>
    refine owe_if (g := 29) (t := 110) (b := true) rfl (by kernel_rfl) (by kernel_rfl) (by kernel_rfl) (by simp) (fun val w h => by rw [V29] at h; exact h) fun a wx val hG hV hN hO K hK => ?_
    have e10 : a.tmps[10]? = some (.bool true) := (hO 10 (by kernel_rfl)).trans (by rfl)
    clear hV hN hO
    go_simp
    exact hK.out _ _ (by rw [V30, upd_at]) ⟨Below.refl _ _, fun _ h => h⟩ hG
  case s31_2 =>
    refine owe rfl fun a wx val hG hV hN hO K hK => ?_
    have e110 := hN 29 110 (by kernel_rfl) (by kernel_rfl) (by simp)
    have f110 := hV 29 (by kernel_rfl) (by kernel_rfl)
    rw [V29] at f110
    rw [f110] at e110; clear f110
    have e111 := hN 30 111 (by kernel_rfl) (by kernel_rfl) (by simp)
    have f111 := hV 30 (by kernel_rfl) (by kernel_rfl)
    rw [V30] at f111
    rw [f111] at e111; clear f111
    clear hV hN hO
    go_simp
    exact hK.out _ _ (by rw [V31, upd_at]) ⟨Below.refl _ _, fun _ h => h⟩ hG
  case s32_2 =>
    refine owe rfl fun a wx val hG hV hN hO K hK => ?_
    have e112 := hN 31 112 (by kernel_rfl) (by kernel_rfl) (by simp)
    have f112 := hV 31 (by kernel_rfl) (by kernel_rfl)
    rw [V31] at f112
    rw [f112] at e112; clear f112
    clear hV hN hO
    go_simp
    exact hK.out _ _ (by rw [V32, upd_at]) ⟨Below.refl _ _, fun _ h => h⟩ hG
  case s33_2 =>
    refine owe_if (g := 32) (t := 113) (b := true) rfl (by kernel_rfl) (by kernel_rfl) (by kernel_rfl) (by simp) (fun val w h => by rw [V32] at h; exact h) fun a wx val hG hV hN hO K hK => ?_
    have e11 : a.tmps[11]? = some (.string ⟨#[0, 7, 2, 3, 1, 101]⟩) := (hO 11 (by kernel_rfl)).trans (by rfl)
    clear hV hN hO
    go_simp
    exact hK.out _ _ (by rw [V33, upd_at]) ⟨Below.refl _ _, fun _ h => h⟩ hG
  case s34_2 =>
    refine owe_if (g := 32) (t := 113) (b := true) rfl (by kernel_rfl) (by kernel_rfl) (by kernel_rfl) (by simp) (fun val w h => by rw [V32] at h; exact h) fun a wx val hG hV hN hO K hK => ?_
    have e114 := hN 33 114 (by kernel_rfl) (by kernel_rfl) (by simp)
    have f114 := hV 33 (by kernel_rfl) (by kernel_rfl)
    rw [V33] at f114
    rw [f114] at e114; clear f114
    clear hV hN hO
    go_simp
    exact hK.out _ _ (by rw [V34, upd_at]) ⟨Below.refl _ _, fun _ h => h⟩ hG
  case s35_2 =>
    refine owe rfl fun a wx val hG hV hN hO K hK => ?_
    have e113 := hN 32 113 (by kernel_rfl) (by kernel_rfl) (by simp)
    have f113 := hV 32 (by kernel_rfl) (by kernel_rfl)
    rw [V32] at f113
    rw [f113] at e113; clear f113
    have e115 := hN 34 115 (by kernel_rfl) (by kernel_rfl) (by simp)
    have f115 := hV 34 (by kernel_rfl) (by kernel_rfl)
    rw [V34] at f115
    rw [f115] at e115; clear f115
    clear hV hN hO
    go_simp
    exact hK.out _ _ (by rw [V35, upd_at]) ⟨Below.refl _ _, fun _ h => h⟩ hG
  case s36_2 =>
    refine owe rfl fun a wx val hG hV hN hO K hK => ?_
    have e116 := hN 35 116 (by kernel_rfl) (by kernel_rfl) (by simp)
    have f116 := hV 35 (by kernel_rfl) (by kernel_rfl)
    rw [V35] at f116
    rw [f116] at e116; clear f116
    clear hV hN hO
    go_simp
    exact hK.out _ _ (by rw [V36, upd_at]) ⟨Below.refl _ _, fun _ h => h⟩ hG
  case s37_2 =>
    refine owe_if (g := 36) (t := 117) (b := true) rfl (by kernel_rfl) (by kernel_rfl) (by kernel_rfl) (by simp) (fun val w h => by rw [V36] at h; exact h) fun a wx val hG hV hN hO K hK => ?_
    have e12 : a.tmps[12]? = some (.int .i64 0) := (hO 12 (by kernel_rfl)).trans (by rfl)
    clear hV hN hO
    go_simp
    exact hK.out _ _ (by rw [V37, upd_at]) ⟨Below.refl _ _, fun _ h => h⟩ hG
  case s38_2 =>
    refine owe_if (g := 36) (t := 117) (b := true) rfl (by kernel_rfl) (by kernel_rfl) (by kernel_rfl) (by simp) (fun val w h => by rw [V36] at h; exact h) fun a wx val hG hV hN hO K hK => ?_
    have e118 := hN 37 118 (by kernel_rfl) (by kernel_rfl) (by simp)
    have f118 := hV 37 (by kernel_rfl) (by kernel_rfl)
    rw [V37] at f118
    rw [f118] at e118; clear f118
    clear hV hN hO
    go_simp
    exact hK.out _ _ (by rw [V38, upd_at]) ⟨Below.refl _ _, fun _ h => h⟩ hG
  case s39_2 =>
    refine owe rfl fun a wx val hG hV hN hO K hK => ?_
    have e117 := hN 36 117 (by kernel_rfl) (by kernel_rfl) (by simp)
    have f117 := hV 36 (by kernel_rfl) (by kernel_rfl)
    rw [V36] at f117
    rw [f117] at e117; clear f117
    have e119 := hN 38 119 (by kernel_rfl) (by kernel_rfl) (by simp)
    have f119 := hV 38 (by kernel_rfl) (by kernel_rfl)
    rw [V38] at f119
    rw [f119] at e119; clear f119
    clear hV hN hO
    go_simp
    exact hK.out _ _ (by rw [V39, upd_at]) ⟨Below.refl _ _, fun _ h => h⟩ hG
  case s40_2 =>
    refine owe rfl fun a wx val hG hV hN hO K hK => ?_
    have e120 := hN 39 120 (by kernel_rfl) (by kernel_rfl) (by simp)
    have f120 := hV 39 (by kernel_rfl) (by kernel_rfl)
    rw [V39] at f120
    rw [f120] at e120; clear f120
    clear hV hN hO
    go_simp
    exact hK.out _ _ (by rw [V40, upd_at]) ⟨Below.refl _ _, fun _ h => h⟩ hG
  case s41_2 =>
    refine owe_if (g := 40) (t := 121) (b := true) rfl (by kernel_rfl) (by kernel_rfl) (by kernel_rfl) (by simp) (fun val w h => by rw [V40] at h; exact h) fun a wx val hG hV hN hO K hK => ?_
    have e13 : a.tmps[13]? = some (.pointer (some ⟨b9, 0, none⟩)) := (hO 13 (by kernel_rfl)).trans (by rfl)
    clear hV hN hO
    obtain ⟨⟨y0, y1, y2⟩, -⟩ := (HA11.out.on hG).gat.cells
    obtain ⟨⟨f0, f1, f2, f3⟩, -, j0, j1, j2, j3⟩ := lst_of (HA11.out.on hG).pcs
    obtain ⟨m0, m1, m2, m3⟩ := (HP11.out.on hG).cells
    simp only [P0, P2] at f0 f1 f2 f3 j0 j1 j2 j3 m0 m1 m2 m3
    go_simp
    exact hK.out _ _ (by rw [V41, upd_at]) ⟨Below.refl _ _, fun _ h => h⟩ hG
  case s42_2 =>
    refine owe_if (g := 40) (t := 121) (b := true) rfl (by kernel_rfl) (by kernel_rfl) (by kernel_rfl) (by simp) (fun val w h => by rw [V40] at h; exact h) fun a wx val hG hV hN hO K hK => ?_
    have e1 : a.tmps[1]? = some (.slice (some ad) 3 cs) := (hO 1 (by kernel_rfl)).trans (by rfl)
    clear hV hN hO
    go_simp
    exact hK.out _ _ (by rw [V42, upd_at]) ⟨Below.refl _ _, fun _ h => h⟩ hG
  case s43_2 =>
    refine owe_if (g := 40) (t := 121) (b := true) rfl (by kernel_rfl) (by kernel_rfl) (by kernel_rfl) (by simp) (fun val w h => by rw [V40] at h; exact h) fun a wx val hG hV hN hO K hK => ?_
    have e123 := hN 42 123 (by kernel_rfl) (by kernel_rfl) (by simp)
    have f123 := hV 42 (by kernel_rfl) (by kernel_rfl)
    rw [V42] at f123
    rw [f123] at e123; clear f123
    clear hV hN hO
    go_simp
    exact hK.out _ _ (by rw [V43, upd_at]) ⟨Below.refl _ _, fun _ h => h⟩ hG
  case s44_2 =>
    refine owe_if (g := 40) (t := 121) (b := true) rfl (by kernel_rfl) (by kernel_rfl) (by kernel_rfl) (by simp) (fun val w h => by rw [V40] at h; exact h) fun a wx val hG hV hN hO K hK => ?_
    have e124 := hN 43 124 (by kernel_rfl) (by kernel_rfl) (by simp)
    have f124 := hV 43 (by kernel_rfl) (by kernel_rfl)
    rw [V43] at f124
    rw [f124] at e124; clear f124
    clear hV hN hO
    obtain ⟨⟨y0, y1, y2⟩, -⟩ := (HA11.out.on hG).gat.cells
    obtain ⟨⟨f0, f1, f2, f3⟩, -, j0, j1, j2, j3⟩ := lst_of (HA11.out.on hG).pcs
    obtain ⟨m0, m1, m2, m3⟩ := (HP11.out.on hG).cells
    simp only [P0, P2] at f0 f1 f2 f3 j0 j1 j2 j3 m0 m1 m2 m3
    go_simp
    exact hK.out _ _ (by rw [V44, upd_at]) ⟨Below.refl _ _, fun _ h => h⟩ hG
  case s45_2 =>
    refine owe_if (g := 40) (t := 121) (b := true) rfl (by kernel_rfl) (by kernel_rfl) (by kernel_rfl) (by simp) (fun val w h => by rw [V40] at h; exact h) fun a wx val hG hV hN hO K hK => ?_
    have e122 := hN 41 122 (by kernel_rfl) (by kernel_rfl) (by simp)
    have f122 := hV 41 (by kernel_rfl) (by kernel_rfl)
    rw [V41] at f122
    rw [f122] at e122; clear f122
    have e125 := hN 44 125 (by kernel_rfl) (by kernel_rfl) (by simp)
    have f125 := hV 44 (by kernel_rfl) (by kernel_rfl)
    rw [V44] at f125
    rw [f125] at e125; clear f125
    clear hV hN hO
    have hEG := fun x y w => eqP_guard .eql x y P2 P2 w
    have hEQ := fun w => eqlP P2 P2 w
    rw [(sameP_iff P2 P2).2 rfl] at hEQ
    simp only [pv, P2] at hEG hEQ
    go_simp
    exact hK.out _ _ (by rw [V45, upd_at]) ⟨Below.refl _ _, fun _ h => h⟩ hG
  case s46_2 =>
    refine owe rfl fun a wx val hG hV hN hO K hK => ?_
    have e121 := hN 40 121 (by kernel_rfl) (by kernel_rfl) (by simp)
    have f121 := hV 40 (by kernel_rfl) (by kernel_rfl)
    rw [V40] at f121
    rw [f121] at e121; clear f121
    have e126 := hN 45 126 (by kernel_rfl) (by kernel_rfl) (by simp)
    have f126 := hV 45 (by kernel_rfl) (by kernel_rfl)
    rw [V45] at f126
    rw [f126] at e126; clear f126
    clear hV hN hO
    go_simp
    exact hK.out _ _ (by rw [V46, upd_at]) ⟨Below.refl _ _, fun _ h => h⟩ hG
  case s47_2 =>
    refine owe rfl fun a wx val hG hV hN hO K hK => ?_
    have e127 := hN 46 127 (by kernel_rfl) (by kernel_rfl) (by simp)
    have f127 := hV 46 (by kernel_rfl) (by kernel_rfl)
    rw [V46] at f127
    rw [f127] at e127; clear f127
    clear hV hN hO
    go_simp
    exact hK.out _ _ (by rw [V47, upd_at]) ⟨Below.refl _ _, fun _ h => h⟩ hG
  case s48_2 =>
    refine owe_if (g := 47) (t := 128) (b := true) rfl (by kernel_rfl) (by kernel_rfl) (by kernel_rfl) (by simp) (fun val w h => by rw [V47] at h; exact h) fun a wx val hG hV hN hO K hK => ?_
    have e14 : a.tmps[14]? = some (.string ⟨#[120]⟩) := (hO 14 (by kernel_rfl)).trans (by rfl)
    clear hV hN hO
    go_simp
    exact hK.out _ _ (by rw [V48, upd_at]) ⟨Below.refl _ _, fun _ h => h⟩ hG
  case s49_2 =>
    refine owe_if (g := 47) (t := 128) (b := true) rfl (by kernel_rfl) (by kernel_rfl) (by kernel_rfl) (by simp) (fun val w h => by rw [V47] at h; exact h) fun a wx val hG hV hN hO K hK => ?_
    have e129 := hN 48 129 (by kernel_rfl) (by kernel_rfl) (by simp)
    have f129 := hV 48 (by kernel_rfl) (by kernel_rfl)
    rw [V48] at f129
    rw [f129] at e129; clear f129
    clear hV hN hO
    go_simp
    exact hK.out _ _ (by rw [V49, upd_at]) ⟨Below.refl _ _, fun _ h => h⟩ hG
  case s50_2 =>
    refine owe rfl fun a wx val hG hV hN hO K hK => ?_
    have e128 := hN 47 128 (by kernel_rfl) (by kernel_rfl) (by simp)
    have f128 := hV 47 (by kernel_rfl) (by kernel_rfl)
    rw [V47] at f128
    rw [f128] at e128; clear f128
    have e130 := hN 49 130 (by kernel_rfl) (by kernel_rfl) (by simp)
    have f130 := hV 49 (by kernel_rfl) (by kernel_rfl)
    rw [V49] at f130
    rw [f130] at e130; clear f130
    clear hV hN hO
    go_simp
    exact hK.out _ _ (by rw [V50, upd_at]) ⟨Below.refl _ _, fun _ h => h⟩ hG
  case s51_2 =>
    refine owe rfl fun a wx val hG hV hN hO K hK => ?_
    have e131 := hN 50 131 (by kernel_rfl) (by kernel_rfl) (by simp)
    have f131 := hV 50 (by kernel_rfl) (by kernel_rfl)
    rw [V50] at f131
    rw [f131] at e131; clear f131
    clear hV hN hO
    go_simp
    exact hK.out _ _ (by rw [V51, upd_at]) ⟨Below.refl _ _, fun _ h => h⟩ hG
  case s52_2 =>
    refine owe_if (g := 51) (t := 132) (b := true) rfl (by kernel_rfl) (by kernel_rfl) (by kernel_rfl) (by simp) (fun val w h => by rw [V51] at h; exact h) fun a wx val hG hV hN hO K hK => ?_
    have e15 : a.tmps[15]? = some (.int .i64 0) := (hO 15 (by kernel_rfl)).trans (by rfl)
    clear hV hN hO
    go_simp
    exact hK.out _ _ (by rw [V52, upd_at]) ⟨Below.refl _ _, fun _ h => h⟩ hG
  case s53_2 =>
    refine owe_if (g := 51) (t := 132) (b := true) rfl (by kernel_rfl) (by kernel_rfl) (by kernel_rfl) (by simp) (fun val w h => by rw [V51] at h; exact h) fun a wx val hG hV hN hO K hK => ?_
    have e133 := hN 52 133 (by kernel_rfl) (by kernel_rfl) (by simp)
    have f133 := hV 52 (by kernel_rfl) (by kernel_rfl)
    rw [V52] at f133
    rw [f133] at e133; clear f133
    clear hV hN hO
    go_simp
    exact hK.out _ _ (by rw [V53, upd_at]) ⟨Below.refl _ _, fun _ h => h⟩ hG
  case s54_2 =>
    refine owe rfl fun a wx val hG hV hN hO K hK => ?_
    have e132 := hN 51 132 (by kernel_rfl) (by kernel_rfl) (by simp)
    have f132 := hV 51 (by kernel_rfl) (by kernel_rfl)
    rw [V51] at f132
    rw [f132] at e132; clear f132
    have e134 := hN 53 134 (by kernel_rfl) (by kernel_rfl) (by simp)
    have f134 := hV 53 (by kernel_rfl) (by kernel_rfl)
    rw [V53] at f134
    rw [f134] at e134; clear f134
    clear hV hN hO
    go_simp
    exact hK.out _ _ (by rw [V54, upd_at]) ⟨Below.refl _ _, fun _ h => h⟩ hG
  case s55_2 =>
    refine owe rfl fun a wx val hG hV hN hO K hK => ?_
    have e135 := hN 54 135 (by kernel_rfl) (by kernel_rfl) (by simp)
    have f135 := hV 54 (by kernel_rfl) (by kernel_rfl)
    rw [V54] at f135
    rw [f135] at e135; clear f135
    clear hV hN hO
    go_simp
    exact hK.out _ _ (by rw [V55, upd_at]) ⟨Below.refl _ _, fun _ h => h⟩ hG
  case s56_2 =>
    refine owe_if (g := 55) (t := 136) (b := true) rfl (by kernel_rfl) (by kernel_rfl) (by kernel_rfl) (by simp) (fun val w h => by rw [V55] at h; exact h) fun a wx val hG hV hN hO K hK => ?_
    have e17 : a.tmps[17]? = some (.int .i64 1) := (hO 17 (by kernel_rfl)).trans (by rfl)
    clear hV hN hO
    go_simp
    exact hK.out _ _ (by rw [V56, upd_at]) ⟨Below.refl _ _, fun _ h => h⟩ hG
  case s57_2 =>
    refine owe_if (g := 55) (t := 136) (b := true) rfl (by kernel_rfl) (by kernel_rfl) (by kernel_rfl) (by simp) (fun val w h => by rw [V55] at h; exact h) fun a wx val hG hV hN hO K hK => ?_
    have e137 := hN 56 137 (by kernel_rfl) (by kernel_rfl) (by simp)
    have f137 := hV 56 (by kernel_rfl) (by kernel_rfl)
    rw [V56] at f137
    rw [f137] at e137; clear f137
    clear hV hN hO
    go_simp
    exact hK.out _ _ (by rw [V57, upd_at]) ⟨Below.refl _ _, fun _ h => h⟩ hG
  case s58_2 =>
    refine owe rfl fun a wx val hG hV hN hO K hK => ?_
    have e136 := hN 55 136 (by kernel_rfl) (by kernel_rfl) (by simp)
    have f136 := hV 55 (by kernel_rfl) (by kernel_rfl)
    rw [V55] at f136
    rw [f136] at e136; clear f136
    have e138 := hN 57 138 (by kernel_rfl) (by kernel_rfl) (by simp)
    have f138 := hV 57 (by kernel_rfl) (by kernel_rfl)
    rw [V57] at f138
    rw [f138] at e138; clear f138
    clear hV hN hO
    go_simp
    exact hK.out _ _ (by rw [V58, upd_at]) ⟨Below.refl _ _, fun _ h => h⟩ hG
  case s59_2 =>
    refine owe rfl fun a wx val hG hV hN hO K hK => ?_
    have e139 := hN 58 139 (by kernel_rfl) (by kernel_rfl) (by simp)
    have f139 := hV 58 (by kernel_rfl) (by kernel_rfl)
    rw [V58] at f139
    rw [f139] at e139; clear f139
    clear hV hN hO
    go_simp
    exact hK.out _ _ (by rw [V59, upd_at]) ⟨Below.refl _ _, fun _ h => h⟩ hG
  case s60_2 =>
    refine owe_if (g := 59) (t := 140) (b := true) rfl (by kernel_rfl) (by kernel_rfl) (by kernel_rfl) (by simp) (fun val w h => by rw [V59] at h; exact h) fun a wx val hG hV hN hO K hK => ?_
    have e3 : a.tmps[3]? = some (.pointer (some ⟨b, 0, none⟩)) := (hO 3 (by kernel_rfl)).trans (by rfl)
    clear hV hN hO
    obtain ⟨⟨y0, y1, y2⟩, -⟩ := (HA11.out.on hG).gat.cells
    obtain ⟨⟨f0, f1, f2, f3⟩, -, j0, j1, j2, j3⟩ := lst_of (HA11.out.on hG).pcs
    obtain ⟨m0, m1, m2, m3⟩ := (HP11.out.on hG).cells
    simp only [P0, P2] at f0 f1 f2 f3 j0 j1 j2 j3 m0 m1 m2 m3
    go_simp
    exact hK.out _ _ (by rw [V60, upd_at]) ⟨Below.refl _ _, fun _ h => h⟩ hG
  case s61_2 =>
    refine owe_if (g := 59) (t := 140) (b := true) rfl (by kernel_rfl) (by kernel_rfl) (by kernel_rfl) (by simp) (fun val w h => by rw [V59] at h; exact h) fun a wx val hG hV hN hO K hK => ?_
    have e141 := hN 60 141 (by kernel_rfl) (by kernel_rfl) (by simp)
    have f141 := hV 60 (by kernel_rfl) (by kernel_rfl)
    rw [V60] at f141
    rw [f141] at e141; clear f141
    clear hV hN hO
    go_simp
    refine (C10.out A6 c6 _ (HA11.out.on hG).str).mono ?_
    rintro e w11 ⟨rfl, hb⟩
    exact hK.out _ _ (by rw [V61, upd_at]) ⟨hb.mono hG.size, fun g hg => hasG_on hg hb⟩ (hG.trans (hb.mono hG.size))
  case s62_2 =>
    refine owe rfl fun a wx val hG hV hN hO K hK => ?_
    have e140 := hN 59 140 (by kernel_rfl) (by kernel_rfl) (by simp)
    have f140 := hV 59 (by kernel_rfl) (by kernel_rfl)
    rw [V59] at f140
    rw [f140] at e140; clear f140
    have e142 := hN 61 142 (by kernel_rfl) (by kernel_rfl) (by simp)
    have f142 := hV 61 (by kernel_rfl) (by kernel_rfl)
    rw [V61] at f142
    rw [f142] at e142; clear f142
    clear hV hN hO
    go_simp
    exact hK.out _ _ (by rw [V62, upd_at]) ⟨Below.refl _ _, fun _ h => h⟩ hG
  case s63_2 =>
    refine owe rfl fun a wx val hG hV hN hO K hK => ?_
    have e143 := hN 62 143 (by kernel_rfl) (by kernel_rfl) (by simp)
    have f143 := hV 62 (by kernel_rfl) (by kernel_rfl)
    rw [V62] at f143
    rw [f143] at e143; clear f143
    clear hV hN hO
    go_simp
    exact hK.out _ _ (by rw [V63, upd_at]) ⟨Below.refl _ _, fun _ h => h⟩ hG
  case s64_2 =>
    refine owe_if (g := 63) (t := 144) (b := true) rfl (by kernel_rfl) (by kernel_rfl) (by kernel_rfl) (by simp) (fun val w h => by rw [V63] at h; exact h) fun a wx val hG hV hN hO K hK => ?_
    have e13 : a.tmps[13]? = some (.pointer (some ⟨b9, 0, none⟩)) := (hO 13 (by kernel_rfl)).trans (by rfl)
    clear hV hN hO
    obtain ⟨⟨y0, y1, y2⟩, -⟩ := (HA11.out.on hG).gat.cells
    obtain ⟨⟨f0, f1, f2, f3⟩, -, j0, j1, j2, j3⟩ := lst_of (HA11.out.on hG).pcs
    obtain ⟨m0, m1, m2, m3⟩ := (HP11.out.on hG).cells
    simp only [P0, P2] at f0 f1 f2 f3 j0 j1 j2 j3 m0 m1 m2 m3
    go_simp
    exact hK.out _ _ (by rw [V64, upd_at]) ⟨Below.refl _ _, fun _ h => h⟩ hG
  case s65_2 =>
    refine owe_if (g := 63) (t := 144) (b := true) rfl (by kernel_rfl) (by kernel_rfl) (by kernel_rfl) (by simp) (fun val w h => by rw [V63] at h; exact h) fun a wx val hG hV hN hO K hK => ?_
    have e145 := hN 64 145 (by kernel_rfl) (by kernel_rfl) (by simp)
    have f145 := hV 64 (by kernel_rfl) (by kernel_rfl)
    rw [V64] at f145
    rw [f145] at e145; clear f145
    clear hV hN hO
    go_simp
    refine (C11.out _).mono ?_
    rintro e w11 ⟨rfl, hb⟩
    exact hK.out _ _ (by rw [V65, upd_at]) ⟨hb.mono hG.size, fun g hg => hasG_on hg hb⟩ (hG.trans (hb.mono hG.size))
  case s66_2 =>
    refine owe rfl fun a wx val hG hV hN hO K hK => ?_
    have e144 := hN 63 144 (by kernel_rfl) (by kernel_rfl) (by simp)
    have f144 := hV 63 (by kernel_rfl) (by kernel_rfl)
    rw [V63] at f144
    rw [f144] at e144; clear f144
    have e146 := hN 65 146 (by kernel_rfl) (by kernel_rfl) (by simp)
    have f146 := hV 65 (by kernel_rfl) (by kernel_rfl)
    rw [V65] at f146
    rw [f146] at e146; clear f146
    clear hV hN hO
    go_simp
    exact hK.out _ _ (by rw [V66, upd_at]) ⟨Below.refl _ _, fun _ h => h⟩ hG
  case s67_2 =>
    refine owe rfl fun a wx val hG hV hN hO K hK => ?_
    have e147 := hN 66 147 (by kernel_rfl) (by kernel_rfl) (by simp)
    have f147 := hV 66 (by kernel_rfl) (by kernel_rfl)
    rw [V66] at f147
    rw [f147] at e147; clear f147
    clear hV hN hO
    go_simp
    exact hK.out _ _ (by rw [V67, upd_at]) ⟨Below.refl _ _, fun _ h => h⟩ hG
  intro val wy hG hV
  have f0 := hV 0 (by simp) (fun _ _ => by rfl)
  rw [V0] at f0
  have f1 := hV 1 (by simp) (fun _ _ => by rfl)
  rw [V1] at f1
  have f2 := hV 2 (by simp) (fun _ _ => by rfl)
  rw [V2] at f2
  have f3 := hV 3 (by simp) (fun _ _ => by rfl)
  rw [V3] at f3
  have f4 := hV 4 (by simp) (fun _ _ => by rfl)
  rw [V4] at f4
  have f5 := hV 5 (by simp) (fun _ _ => by rfl)
  rw [V5] at f5
  have f6 := hV 6 (by simp) (fun _ _ => by rfl)
  rw [V6] at f6
  have f7 := hV 7 (by simp) (fun _ _ => by rfl)
  rw [V7] at f7
  have f8 := hV 8 (by simp) (fun _ _ => by rfl)
  rw [V8] at f8
  have f9 := hV 9 (by simp) (fun _ _ => by rfl)
  rw [V9] at f9
  have f10 := hV 10 (by simp) (fun _ _ => by rfl)
  rw [V10] at f10
  have f11 := hV 11 (by simp) (fun _ _ => by rfl)
  rw [V11] at f11
  have f12 := hV 12 (by simp) (fun _ _ => by rfl)
  rw [V12] at f12
  have f13 := hV 13 (by simp) (fun _ _ => by rfl)
  rw [V13] at f13
  have f14 := hV 14 (by simp) (fun _ _ => by rfl)
  rw [V14] at f14
  have f15 := hV 15 (by simp) (fun _ _ => by rfl)
  rw [V15] at f15
  have f16 := hV 16 (by simp) (fun _ _ => by rfl)
  rw [V16] at f16
  have f17 := hV 17 (by simp) (fun _ _ => by rfl)
  rw [V17] at f17
  have f18 := hV 18 (by simp) (fun _ _ => by rfl)
  rw [V18] at f18
  have f19 := hV 19 (by simp) (fun _ _ => by rfl)
  rw [V19] at f19
  have f20 := hV 20 (by simp) (fun _ _ => by rfl)
  rw [V20] at f20
  have f21 := hV 21 (by simp) (fun _ _ => by rfl)
  rw [V21] at f21
  have f22 := hV 22 (by simp) (fun _ _ => by rfl)
  rw [V22] at f22
  have f23 := hV 23 (by simp) (fun _ _ => by rfl)
  rw [V23] at f23
  have f24 := hV 24 (by simp) (fun _ _ => by rfl)
  rw [V24] at f24
  have f25 := hV 25 (by simp) (fun _ _ => by rfl)
  rw [V25] at f25
  have f26 := hV 26 (by simp) (fun _ _ => by rfl)
  rw [V26] at f26
  have f27 := hV 27 (by simp) (fun _ _ => by rfl)
  rw [V27] at f27
  have f28 := hV 28 (by simp) (fun _ _ => by rfl)
  rw [V28] at f28
  have f29 := hV 29 (by simp) (fun _ _ => by rfl)
  rw [V29] at f29
  have f30 := hV 30 (by simp) (fun _ _ => by rfl)
  rw [V30] at f30
  have f31 := hV 31 (by simp) (fun _ _ => by rfl)
  rw [V31] at f31
  have f32 := hV 32 (by simp) (fun _ _ => by rfl)
  rw [V32] at f32
  have f33 := hV 33 (by simp) (fun _ _ => by rfl)
  rw [V33] at f33
  have f34 := hV 34 (by simp) (fun _ _ => by rfl)
  rw [V34] at f34
  have f35 := hV 35 (by simp) (fun _ _ => by rfl)
  rw [V35] at f35
  have f36 := hV 36 (by simp) (fun _ _ => by rfl)
  rw [V36] at f36
  have f37 := hV 37 (by simp) (fun _ _ => by rfl)
  rw [V37] at f37
  have f38 := hV 38 (by simp) (fun _ _ => by rfl)
  rw [V38] at f38
  have f39 := hV 39 (by simp) (fun _ _ => by rfl)
  rw [V39] at f39
  have f40 := hV 40 (by simp) (fun _ _ => by rfl)
  rw [V40] at f40
  have f41 := hV 41 (by simp) (fun _ _ => by rfl)
  rw [V41] at f41
  have f42 := hV 42 (by simp) (fun _ _ => by rfl)
  rw [V42] at f42
  have f43 := hV 43 (by simp) (fun _ _ => by rfl)
  rw [V43] at f43
  have f44 := hV 44 (by simp) (fun _ _ => by rfl)
  rw [V44] at f44
  have f45 := hV 45 (by simp) (fun _ _ => by rfl)
  rw [V45] at f45
  have f46 := hV 46 (by simp) (fun _ _ => by rfl)
  rw [V46] at f46
  have f47 := hV 47 (by simp) (fun _ _ => by rfl)
  rw [V47] at f47
  have f48 := hV 48 (by simp) (fun _ _ => by rfl)
  rw [V48] at f48
  have f49 := hV 49 (by simp) (fun _ _ => by rfl)
  rw [V49] at f49
  have f50 := hV 50 (by simp) (fun _ _ => by rfl)
  rw [V50] at f50
  have f51 := hV 51 (by simp) (fun _ _ => by rfl)
  rw [V51] at f51
  have f52 := hV 52 (by simp) (fun _ _ => by rfl)
  rw [V52] at f52
  have f53 := hV 53 (by simp) (fun _ _ => by rfl)
  rw [V53] at f53
  have f54 := hV 54 (by simp) (fun _ _ => by rfl)
  rw [V54] at f54
  have f55 := hV 55 (by simp) (fun _ _ => by rfl)
  rw [V55] at f55
  have f56 := hV 56 (by simp) (fun _ _ => by rfl)
  rw [V56] at f56
  have f57 := hV 57 (by simp) (fun _ _ => by rfl)
  rw [V57] at f57
  have f58 := hV 58 (by simp) (fun _ _ => by rfl)
  rw [V58] at f58
  have f59 := hV 59 (by simp) (fun _ _ => by rfl)
  rw [V59] at f59
  have f60 := hV 60 (by simp) (fun _ _ => by rfl)
  rw [V60] at f60
  have f61 := hV 61 (by simp) (fun _ _ => by rfl)
  rw [V61] at f61
  have f62 := hV 62 (by simp) (fun _ _ => by rfl)
  rw [V62] at f62
  have f63 := hV 63 (by simp) (fun _ _ => by rfl)
  rw [V63] at f63
  have f64 := hV 64 (by simp) (fun _ _ => by rfl)
  rw [V64] at f64
  have f65 := hV 65 (by simp) (fun _ _ => by rfl)
  rw [V65] at f65
  have f66 := hV 66 (by simp) (fun _ _ => by rfl)
  rw [V66] at f66
  have f67 := hV 67 (by simp) (fun _ _ => by rfl)
  rw [V67] at f67
  clear hV V0 V1 V2 V3 V4 V5 V6 V7 V8 V9 V10 V11 V12 V13 V14 V15 V16 V17 V18 V19 V20 V21 V22 V23 V24 V25 V26 V27 V28 V29 V30 V31 V32 V33 V34 V35 V36 V37 V38 V39 V40 V41 V42 V43 V44 V45 V46 V47 V48 V49 V50 V51 V52 V53 V54 V55 V56 V57 V58 V59 V60 V61 V62 V63 V64 V65 V66 V67
  simp only [putAll, Act.put, List.setIfInBounds_toArray, List.set_cons_zero, List.set_cons_succ]
  generalize val 0 = z0 at *; (subst f0)
  generalize val 1 = z1 at *; (subst f1)
  generalize val 2 = z2 at *; (subst f2)
  generalize val 3 = z3 at *; (subst f3)
  generalize val 4 = z4 at *; (subst f4)
  generalize val 5 = z5 at *; (subst f5)
  generalize val 6 = z6 at *; (subst f6)
  generalize val 7 = z7 at *; (subst f7)
  generalize val 8 = z8 at *; (subst f8)
  generalize val 9 = z9 at *; (subst f9)
  generalize val 10 = z10 at *; (subst f10)
  generalize val 11 = z11 at *; (subst f11)
  generalize val 12 = z12 at *; (subst f12)
  generalize val 13 = z13 at *; (subst f13)
  generalize val 14 = z14 at *; (subst f14)
  generalize val 15 = z15 at *; (subst f15)
  generalize val 16 = z16 at *; (subst f16)
  generalize val 17 = z17 at *; (subst f17)
  generalize val 18 = z18 at *; (subst f18)
  generalize val 19 = z19 at *; (subst f19)
  generalize val 20 = z20 at *; (subst f20)
  generalize val 21 = z21 at *; (subst f21)
  generalize val 22 = z22 at *; (subst f22)
  generalize val 23 = z23 at *; (subst f23)
  generalize val 24 = z24 at *; (subst f24)
  generalize val 25 = z25 at *; (subst f25)
  generalize val 26 = z26 at *; (subst f26)
  generalize val 27 = z27 at *; (subst f27)
  generalize val 28 = z28 at *; (subst f28)
  generalize val 29 = z29 at *; (subst f29)
  generalize val 30 = z30 at *; (subst f30)
  generalize val 31 = z31 at *; (subst f31)
  generalize val 32 = z32 at *; (subst f32)
  generalize val 33 = z33 at *; (subst f33)
  generalize val 34 = z34 at *; (subst f34)
  generalize val 35 = z35 at *; (subst f35)
  generalize val 36 = z36 at *; (subst f36)
  generalize val 37 = z37 at *; (subst f37)
  generalize val 38 = z38 at *; (subst f38)
  generalize val 39 = z39 at *; (subst f39)
  generalize val 40 = z40 at *; (subst f40)
  generalize val 41 = z41 at *; (subst f41)
  generalize val 42 = z42 at *; (subst f42)
  generalize val 43 = z43 at *; (subst f43)
  generalize val 44 = z44 at *; (subst f44)
  generalize val 45 = z45 at *; (subst f45)
  generalize val 46 = z46 at *; (subst f46)
  generalize val 47 = z47 at *; (subst f47)
  generalize val 48 = z48 at *; (subst f48)
  generalize val 49 = z49 at *; (subst f49)
  generalize val 50 = z50 at *; (subst f50)
  generalize val 51 = z51 at *; (subst f51)
  generalize val 52 = z52 at *; (subst f52)
  generalize val 53 = z53 at *; (subst f53)
  generalize val 54 = z54 at *; (subst f54)
  generalize val 55 = z55 at *; (subst f55)
  generalize val 56 = z56 at *; (subst f56)
  generalize val 57 = z57 at *; (subst f57)
  generalize val 58 = z58 at *; (subst f58)
  generalize val 59 = z59 at *; (subst f59)
  generalize val 60 = z60 at *; (subst f60)
  generalize val 61 = z61 at *; (subst f61)
  generalize val 62 = z62 at *; (subst f62)
  generalize val 63 = z63 at *; (subst f63)
  generalize val 64 = z64 at *; (subst f64)
  generalize val 65 = z65 at *; (subst f65)
  generalize val 66 = z66 at *; (subst f66)
  generalize val 67 = z67 at *; (subst f67)
  go_wp2_with fail
  go_ret
  exact ⟨rfl, HA11.out.bel.trans (hG.mono HA11.out.bel.size)⟩

end Go.Proofs.Ytggeojjiongbbaa

/-
  The frame of bytes without their sum, by the program: it comes back, or goes up.
-/
import Derived.Test.YtmmbnjkdknnidaaGreatDoorFrHeadOfV
import Derived.Test.YtmmbnjkdknnidaaGreatDoorFrTakeV
set_option maxHeartbeats 8000000
set_option maxRecDepth 100000
namespace Go.Proofs.YtmmbnjkdknnidaaGreatDoor
open Lib (hid)
open Go.RowKit
theorem rest_txt (t : List UInt8) (h : hasP t = true) : F.decRest (t.drop 25) = txt (pRest t) := by
 unfold pRest
 rw [if_pos h, txt_data']
theorem takeP7 (t : List UInt8) (ht : t.length ≤ 1000) (h : pE t = 0) (w : World) : Calls Tryz.prog 106 #[.bool (hasP t), .string (txt (t.drop 25)), .func (.func 107) #[] #[]] w fun e w' => ∃ A c, e = .returned (.tuple #[.slice A (pL t).length c, .string (txt (pRest t))]) ∧ Firm w.heap.size w' (fun W => F.Pcs W W.heap.size A (pL t)) ∧ Below w.heap.size w w' := by
 cases hp : hasP t
 ·refine (takeP_no _ w).mono ?_
  rintro e w' ⟨rfl, rfl⟩
  have e1 : pL t = [] := by unfold pL; rw [if_neg (by rw [hp]; decide)]
  have e2 : pRest t = t.drop 25 := by unfold pRest; rw [if_neg (by rw [hp]; decide)]
  rw [e1, e2]
  exact ⟨none, 0, rfl, fun _ _ _ => F.Pcs.nil _ _ _, Below.refl _ _⟩
 ·have h1 : F.decE (txt (t.drop 25)).data.toList = 0 := by
   unfold pE at h; rw [if_pos hp] at h; rw [txt_data]; exact h
  have cc := takeP_ok (txt (t.drop 25)) (by rw [txt_size, List.length_drop]; omega) h1 w
  rw [txt_data, rest_txt t hp] at cc
  refine cc.mono ?_
  rintro e w' ⟨A, rfl, h2, h3⟩
  have e1 : pL t = [F.decR (t.drop 25)] := by unfold pL; rw [if_pos hp]
  rw [e1]
  exact ⟨A, 1, rfl, h2, h3⟩
theorem takeP7_bad (t : List UInt8) (ht : t.length ≤ 1000) (h : pE t ≠ 0) (w : World) : Calls Tryz.prog 106 #[.bool (hasP t), .string (txt (t.drop 25)), .func (.func 107) #[] #[]] w fun e w' => e = .panicked (upW (pE t)) ∧ Below w.heap.size w w' := by
 cases hp : hasP t
 ·exfalso; unfold pE at h; rw [if_neg (by rw [hp]; decide)] at h; exact h rfl
 ·have e1 : pE t = F.decE (txt (t.drop 25)).data.toList := by unfold pE; rw [if_pos hp, txt_data]
  rw [e1] at h ⊢
  exact takeP_bad (txt (t.drop 25)) (by rw [txt_size, List.length_drop]; omega) h w
theorem pRest_len (t : List UInt8) (ht : t.length ≤ 1000) : (pRest t).length ≤ 1000 := by
 unfold pRest
 split
 ·unfold F.decRest
  split
  ·rw [F.txt_data, List.length_drop, List.length_drop]; omega
  ·simp
 ·rw [List.length_drop]; omega
theorem takeE7 (t : List UInt8) (ht : t.length ≤ 1000) (h : eE t = 0) (w : World) (L : Laid w) : Calls Tryz.prog 108 #[.bool (hasE t), .string (txt (pRest t)), .func (.func 109) #[] #[]] w fun e w' => ∃ A c, e = .returned (.tuple #[.slice A (eL t).length c, .string (txt (eRest t))]) ∧ Firm w.heap.size w' (fun W => Ents W W.heap.size A (eL t)) ∧ Below w.heap.size w w' := by
 cases hp : hasE t
 ·refine (takeE_no _ w).mono ?_
  rintro e w' ⟨rfl, rfl⟩
  have e1 : eL t = [] := by unfold eL; rw [if_neg (by rw [hp]; decide)]
  have e2 : eRest t = pRest t := by unfold eRest; rw [if_neg (by rw [hp]; decide)]
  rw [e1, e2]
  exact ⟨none, 0, rfl, fun _ _ _ => Ents.nil _ _ _, Below.refl _ _⟩
 ·have h1 : decEE (txt (pRest t)).data.toList = 0 := by
   unfold eE at h; rw [if_pos hp] at h; rw [txt_data]; exact h
  have cc := takeE_ok (txt (pRest t)) (by rw [txt_size]; exact pRest_len t ht) h1 w L
  rw [txt_data] at cc
  refine cc.mono ?_
  rintro e w' ⟨A, rfl, h2, h3⟩
  have e1 : eL t = [decRE (pRest t)] := by unfold eL; rw [if_pos hp]
  have e2 : eRest t = decRestE (pRest t) := by unfold eRest; rw [if_pos hp]
  rw [e1, e2]
  exact ⟨A, 1, rfl, h2, h3⟩
theorem takeE7_bad (t : List UInt8) (ht : t.length ≤ 1000) (h : eE t ≠ 0) (w : World) (L : Laid w) : Calls Tryz.prog 108 #[.bool (hasE t), .string (txt (pRest t)), .func (.func 109) #[] #[]] w fun e w' => e = .panicked (upW (eE t)) ∧ Below w.heap.size w w' := by
 cases hp : hasE t
 ·exfalso; unfold eE at h; rw [if_neg (by rw [hp]; decide)] at h; exact h rfl
 ·have e1 : eE t = decEE (txt (pRest t)).data.toList := by unfold eE; rw [if_pos hp, txt_data]
  rw [e1] at h ⊢
  exact takeE_bad (txt (pRest t)) (by rw [txt_size]; exact pRest_len t ht) h w L
theorem with_bits (x : Nat) (h : x ≤ 3) : (bits BinOp.and IntKind.u8 (x : Int) 1 != 0) = decide (x % 2 = 1) ∧ (bits BinOp.and IntKind.u8 (x : Int) 2 != 0) = decide (2 ≤ x) := by
 rcases (show x = 0 ∨ x = 1 ∨ x = 2 ∨ x = 3 by omega) with rfl | rfl | rfl | rfl <;> decide +kernel
theorem FrAt.set13 {w : World} {b : Nat} {f : Fr} {u v : Value} (h : FrAt w b f u v) (x : Value) : FrAt (w.setCell ⟨b, 13, none⟩ x) b f x v := set_blk h 13 x
theorem FrAt.set14 {w : World} {b : Nat} {f : Fr} {u v : Value} (h : FrAt w b f u v) (x : Value) : FrAt (w.setCell ⟨b, 14, none⟩ x) b f u x := set_blk h 14 x
theorem small_right {f : Fr} (h1 : f.ps.length ≤ 1) (h2 : f.es.length ≤ 1) (h3 : ∀ p ∈ f.ps, F.rightP p = true) (h4 : ∀ x ∈ f.es, rightE x = true) : SmallF f := by
 refine ⟨by unfold maxLen; omega, by unfold maxLen; omega, fun p hp => ?_, fun x hx => ⟨?_, ?_, fun m hm => ?_⟩⟩
 ·have := ((F.rightP_iff p).1 (h3 p hp)).2.2.2.2; unfold maxLen; omega
 ·have := rightE_incs (h4 x hx); unfold maxLen; omega
 ·have := rightE_msgs (h4 x hx); unfold maxLen; omega
 ·have := rightM_data (rightE_each (h4 x hx) m hm); unfold maxLen; omega
theorem frameD_small {t : List UInt8} (h1 : pE t = 0) (h2 : eE t = 0) : SmallF (frameD t) := by
 refine small_right ?_ ?_ ?_ ?_
 ·show (pL t).length ≤ 1; unfold pL; split <;> simp
 ·show (eL t).length ≤ 1; unfold eL; split <;> simp
 ·intro p hp
  have hp : p ∈ pL t := hp
  unfold pL at hp
  unfold pE at h1
  split at hp
  ·rename_i hh
   rw [if_pos hh] at h1
   rw [List.mem_singleton.1 hp]; exact (piece_enc h1).1
  ·cases hp
 ·intro p hp
  have hp : p ∈ eL t := hp
  unfold eL at hp
  unfold eE at h2
  split at hp
  ·rename_i hh
   rw [if_pos hh] at h2
   rw [List.mem_singleton.1 hp]; exact (enc_decE h2).1
  ·cases hp
theorem must_y {b : Bool} (h : b = true) (e : Int) (w : World) : Calls Tryz.prog 62 #[.bool b, .int .i64 e] w fun x w' => x = .returned (.tuple #[]) ∧ w = w' := by subst h; exact must_yes e w
theorem must_n {b : Bool} (h : b = false) (e : Int) (w : World) : Calls Tryz.prog 62 #[.bool b, .int .i64 e] w fun x w' => x = .panicked (upW e) ∧ Below w.heap.size w w' := by subst h; exact must_no e w
theorem eRest_txt {t : List UInt8} : (eRest t = [] → txt (eRest t) = (⟨#[]⟩ : ByteArray)) ∧ (eRest t ≠ [] → (txt (eRest t) == (⟨#[]⟩ : ByteArray)) = false) := by
 refine ⟨fun h => by rw [h]; rfl, fun h => ?_⟩
 rw [F.bytes_beq]
 refine decide_eq_false fun e => h ?_
 have := congrArg (fun x : ByteArray => x.data.toList) e
 simpa [txt_data] using this
def ReadPost (t : List UInt8) (w : World) (e : Ending) (w' : World) : Prop := Below w.heap.size w w' ∧ ((bodyE t ≠ 0 ∧ e = .panicked (upW (bodyE t))) ∨ (bodyE t = 0 ∧ ∃ A c A' c', e = .returned (fv (frameD t) (.slice A (frameD t).ps.length c) (.slice A' (frameD t).es.length c')) ∧ Firm w.heap.size w' (fun W => F.Pcs W W.heap.size A (frameD t).ps ∧ Ents W W.heap.size A' (frameD t).es)))
theorem read_up {t : List UInt8} {w w' : World} {E : Int} (h : bodyE t = E) (hE : E ≠ 0) (hb : Below w.heap.size w w') : ReadPost t w (.panicked (upW E)) w' := by
 subst h
 exact ⟨hb, .inl ⟨hE, rfl⟩⟩
theorem read_any (s : ByteArray) (hs : s.size ≤ 1000) (w : World) (L : Laid w) : Calls Tryz.prog 63 #[.string s] w (ReadPost s.data.toList w) := by
 have hl := Lib.size_eq s
 have b0 := Joins.below_alloc1 w (.cells (fc zeroFr (.slice none 0 0) (.slice none 0 0)) 29)
 have r0 := FrAt.new w zeroFr (.slice none 0 0) (.slice none 0 0)
 have HLW := hid L
 have hn : (w.alloc (.cells (fc zeroFr (.slice none 0 0) (.slice none 0 0)) 29)).heap.size = w.heap.size + 1 := by simp
 have HB0 := hid b0
 have HR0 := hid r0
 have HN0 := hid hn
 clear b0 r0 L hn
 simp only [fc, zeroFr] at HB0 HR0 HN0
 by_cases h25 : s.size < 25
 ·have hE : bodyE s.data.toList = 3 := by unfold bodyE; rw [if_pos (by omega)]
  have h1 : ¬ (25 : Int) ≤ s.size := by omega
  have HE := hid hE; clear hE
  clear hl
  go_enter Tryz.func63, Tryz.ntmps63
  go_wp2_with fail; refine (must_n (by first | rfl | simpa using h1) 3 _).mono ?_; rintro e w1 ⟨rfl, q1⟩
  exact ⟨rfl, read_up HE.out (by decide) (HB0.out.trans (q1.mono HB0.out.size))⟩
 have h1 : (25 : Int) ≤ s.size := by omega
 have i0 := run_at s 0 0 rfl (by omega)
 have i24 := run_at s 24 24 rfl (by omega)
 obtain ⟨S, hS⟩ : ∃ S, S = s.data.toList := ⟨_, rfl⟩
 rw [← hS] at i0 i24 hl ⊢
 have HS := hid hS; clear hS
 have hw : withF S = (S.getD 24 0).toNat := rfl
 have hg0 : S.getD 0 0 = 197 ↔ (S.getD 0 0).toNat = 197 := by
  constructor
  ·intro h; rw [h]; rfl
  ·intro h; exact UInt8.toNat.inj h
 rw [← hw] at i24
 have hw8 : withF S < 256 := (S.getD 24 0).toNat_lt
 have hx8 := (S.getD 0 0).toNat_lt
 have HG0 := hid hg0; clear hg0 hw
 obtain ⟨x0, hx0⟩ : ∃ x0, (S.getD 0 0).toNat = x0 := ⟨_, rfl⟩
 rw [hx0] at i0 hx8
 have HX0 := hid hx0; clear hx0
 obtain ⟨x24, hx24⟩ : ∃ x24, withF S = x24 := ⟨_, rfl⟩
 rw [hx24] at i24 hw8
 have HX24 := hid hx24; clear hx24
 by_cases hform : x0 = 197 ∧ x24 ≤ 3
 rotate_left
 ·have hE : bodyE S = 2 := by
   unfold bodyE
   rw [if_neg (by omega), if_pos]
   rw [HX24.out, Ne, HG0.out, HX0.out]; omega
  have HE := hid hE; clear hE hl
  go_enter Tryz.func63, Tryz.ntmps63
  go_wp2_with fail; refine (must_y (by first | rfl | simpa using h1) 3 _).mono ?_; rintro e w1 ⟨rfl, rfl⟩
  by_cases hx : x0 = 197
  ·have hy : ¬ (x24 : Int) ≤ 3 := by omega
   have hz : ((x0 : Int) == 197) = true := by simp; omega
   go_wp2_with fail; refine (must_n (by first | rfl | simp [hy]) 2 _).mono ?_; rintro e w1 ⟨rfl, q1⟩
   exact ⟨rfl, read_up HE.out (by decide) (HB0.out.trans (q1.mono HB0.out.size))⟩
  ·have hz : ((x0 : Int) == 197) = false := by simp; omega
   go_wp2_with fail; refine (must_n (by first | rfl | simp [hz]) 2 _).mono ?_; rintro e w1 ⟨rfl, q1⟩
   exact ⟨rfl, read_up HE.out (by decide) (HB0.out.trans (q1.mono HB0.out.size))⟩
 obtain ⟨hx, hy⟩ := hform
 have hz : ((x0 : Int) == 197) = true := by simp; omega
 have hy3 : (x24 : Int) ≤ 3 := by omega
 have hchain : bodyE S = if pE S ≠ 0 then pE S else if eE S ≠ 0 then eE S else if eRest S = [] ∧ rightF (frameD S) = true then 0 else 2 := by
  unfold bodyE
  rw [if_neg (by omega), if_neg]
  rw [HX24.out, Ne, HG0.out, HX0.out]; omega
 have HCH := hid hchain; clear hchain
 obtain ⟨wb1, wb2⟩ := with_bits x24 hy
 rw [show decide (x24 % 2 = 1) = hasP S by unfold hasP; rw [HX24.out]] at wb1
 rw [show decide (2 ≤ x24) = hasE S by unfold hasE; rw [HX24.out]] at wb2
 have cH := fun W => callsIn_wide.1 (headOf_in 4 (Nat.le_refl _) s (by omega) hs W)
 rw [← HS.out] at cH
 have hf25 := run_from s 25 25 rfl (by omega)
 rw [← HS.out] at hf25
 have hSl : S.length ≤ 1000 := by omega
 have HSL := hid hSl
 clear hl hSl
 go_enter Tryz.func63, Tryz.ntmps63
 go_wp2_with fail; refine (must_y (by first | rfl | simpa using h1) 3 _).mono ?_; rintro e w1 ⟨rfl, rfl⟩
 go_wp2_with fail; refine (must_y (by first | rfl | simp [hz, hy3]) 2 _).mono ?_; rintro e w1 ⟨rfl, rfl⟩
 go_wp2_with fail; refine (cH _).mono ?_; rintro e w1 ⟨rfl, q1⟩
 have HB1 := hid (HB0.out.trans (q1.mono HB0.out.size))
 have HR1 := hid (HR0.out.on q1)
 have HS1 : Hid (w.heap.size < w1.heap.size) := hid (by have := q1.size; have := HN0.out; omega)
 clear q1 HB0 HR0 HN0 i0 i24
 have a1 := FrAt.new w1 (headD S) (.slice none 0 0) (.slice none 0 0)
 have q2 := Joins.below_alloc1 w1 (.cells (fc (headD S) (.slice none 0 0) (.slice none 0 0)) 29)
 have hs2 : (w1.alloc (.cells (fc (headD S) (.slice none 0 0) (.slice none 0 0)) 29)).heap.size = w1.heap.size + 1 := by simp
 simp only [fc] at a1 q2 hs2
 go_upto_region 6 with fail
 have HF2 : Hid (FrAt (w1.alloc (.cells #[.int .i64 (headD S).snd, .int .i64 (headD S).rnd, .int .i64 (headD S).inc, .int .i64 (headD S).term, .int .i64 (headD S).role, .int .i64 (headD S).vote, .int .i64 (headD S).hrd, .int .i64 (headD S).last, .int .i64 (headD S).lterm, .int .i64 (headD S).ack, .int .i64 (headD S).com, .int .i64 (headD S).prv, .int .i64 (headD S).pterm, .slice none 0 0, .slice none 0 0] 29)) w1.heap.size (frameD S) (.slice none 0 0) (.slice none 0 0)) := hid a1
 have HB2 := hid (HB1.out.trans (q2.mono HB1.out.size))
 have HR2 := hid (HR1.out.on q2)
 clear a1 q2 HB1 HR1
 generalize w1.alloc (.cells #[.int .i64 (headD S).snd, .int .i64 (headD S).rnd, .int .i64 (headD S).inc, .int .i64 (headD S).term, .int .i64 (headD S).role, .int .i64 (headD S).vote, .int .i64 (headD S).hrd, .int .i64 (headD S).last, .int .i64 (headD S).lterm, .int .i64 (headD S).ack, .int .i64 (headD S).com, .int .i64 (headD S).prv, .int .i64 (headD S).pterm, .slice none 0 0, .slice none 0 0] 29) = w2 at *
 generalize w1.heap.size = g at *
 have HS2 := hid hs2
 have HNG := hid HS1.out
 have hng := HS1.out
 generalize hn0 : w.heap.size = n0 at *
 have HN0 : Hid (w.heap.size = n0) := hid hn0
 clear hs2 HS1
 by_cases hp : pE S = 0
 rotate_left
 ·go_wp2_with fail; refine (takeP7_bad S HSL.out hp _).mono ?_; rintro e w3 ⟨rfl, q3⟩
  exact ⟨rfl, read_up (by rw [HCH.out, if_pos hp]) hp (by rw [HN0.out]; exact HB2.out.trans (q3.mono (by have := HS2.out; omega)))⟩
 go_wp2_with fail; refine (takeP7 S HSL.out hp _).mono ?_; rintro e w3 ⟨A, c, rfl, hps, q3⟩
 have hF3 := HF2.out.on q3
 have y13 : w3.cell? ⟨g, 13, none⟩ = some (.slice none 0 0) := cell_of hF3 13
 have f13 := hF3.frozen 13
 have HF4 := hid (hF3.set13 (.slice A (pL S).length c))
 have hB3 := HB2.out.trans (q3.mono (by have := HS2.out; omega))
 have HB4 := hid (hB3.setCell (p := ⟨g, 13, none⟩) (by show n0 ≤ g; omega) (.slice A (pL S).length c))
 have far3 : ∀ k, k ≠ g → (w3.setCell ⟨g, 13, none⟩ (.slice A (pL S).length c)).heap[k]? = w3.heap[k]? := fun k hk => Below.heap_setCell _ _ _ _ hk
 have HR4 : Hid (FrAt (w3.setCell ⟨g, 13, none⟩ (.slice A (pL S).length c)) n0 zeroFr (.slice none 0 0) (.slice none 0 0)) := hid ((far3 n0 (by omega)).trans (HR2.out.on q3))
 have hz4 : (w3.setCell ⟨g, 13, none⟩ (.slice A (pL S).length c)).heap.size = w3.heap.size := World.size_setCell _ _ _
 have HZ3 : Hid (g + 1 ≤ w3.heap.size) := hid (by have := q3.size; have := HS2.out; omega)
 have HPS : Hid (∀ W : World, (∀ k, g + 1 ≤ k → k < (w3.setCell ⟨g, 13, none⟩ (.slice A (pL S).length c)).heap.size → W.heap[k]? = (w3.setCell ⟨g, 13, none⟩ (.slice A (pL S).length c)).heap[k]?) → w3.heap.size ≤ W.heap.size → F.Pcs W W.heap.size A (pL S)) := hid (fun W hW hs => hps W (fun k h1 h2 => (hW k (by have := HS2.out; omega) (by rw [hz4]; exact h2)).trans (far3 k (by have := HS2.out; omega))) hs)
 have HZ4 := hid hz4
 clear hps hF3 hB3 far3 q3 HF2 HB2 HR2 hz4
 go_upto_region 7 with fail
 generalize w3.setCell ⟨g, 13, none⟩ (.slice A (pL S).length c) = w4 at *
 have hle4 : g + 1 ≤ w4.heap.size := by rw [HZ4.out]; exact HZ3.out
 by_cases he : eE S = 0
 rotate_left
 ·have hbad := takeE7_bad S HSL.out he w4 (HLW.out.below (by rw [HN0.out]; exact HB4.out))
  go_wp2_with fail; refine hbad.mono ?_; rintro e w5 ⟨rfl, q5⟩
  exact ⟨rfl, read_up (by rw [HCH.out, if_neg (fun h => h hp), if_pos he]) he (by rw [HN0.out]; exact HB4.out.trans (q5.mono (by omega)))⟩
 have hgood := takeE7 S HSL.out he w4 (HLW.out.below (by rw [HN0.out]; exact HB4.out))
 go_wp2_with fail; refine hgood.mono ?_; rintro e w5 ⟨A', c', rfl, hes, q5⟩
 have hF5 := HF4.out.on q5
 have y14 : w5.cell? ⟨g, 14, none⟩ = some (.slice none 0 0) := cell_of hF5 14
 have f14 := hF5.frozen 14
 have HF6 := hid (hF5.set14 (.slice A' (eL S).length c'))
 have hB5 := HB4.out.trans (q5.mono (by omega))
 have HB6 := hid (hB5.setCell (p := ⟨g, 14, none⟩) (by show n0 ≤ g; omega) (.slice A' (eL S).length c'))
 have far5 : ∀ k, k ≠ g → (w5.setCell ⟨g, 14, none⟩ (.slice A' (eL S).length c')).heap[k]? = w5.heap[k]? := fun k hk => Below.heap_setCell _ _ _ _ hk
 have HR6 : Hid (FrAt (w5.setCell ⟨g, 14, none⟩ (.slice A' (eL S).length c')) n0 zeroFr (.slice none 0 0) (.slice none 0 0)) := hid ((far5 n0 (by omega)).trans (HR4.out.on q5))
 have hz6 : (w5.setCell ⟨g, 14, none⟩ (.slice A' (eL S).length c')).heap.size = w5.heap.size := World.size_setCell _ _ _
 have hs45 := q5.size
 have HPS6 : Hid (∀ W : World, (∀ k, g + 1 ≤ k → k < (w5.setCell ⟨g, 14, none⟩ (.slice A' (eL S).length c')).heap.size → W.heap[k]? = (w5.setCell ⟨g, 14, none⟩ (.slice A' (eL S).length c')).heap[k]?) → w5.heap.size ≤ W.heap.size → F.Pcs W W.heap.size A (pL S)) := hid (fun W hW hs => HPS.out W (fun k h1 h2 => (hW k h1 (by rw [hz6]; omega)).trans ((far5 k (by omega)).trans (q5.block k h2))) (by rw [← HZ4.out]; omega))
 have HES6 : Hid (∀ W : World, (∀ k, g + 1 ≤ k → k < (w5.setCell ⟨g, 14, none⟩ (.slice A' (eL S).length c')).heap.size → W.heap[k]? = (w5.setCell ⟨g, 14, none⟩ (.slice A' (eL S).length c')).heap[k]?) → w5.heap.size ≤ W.heap.size → Ents W W.heap.size A' (eL S)) := hid (fun W hW hs => hes W (fun k h1 h2 => (hW k (by omega) (by rw [hz6]; exact h2)).trans (far5 k (by omega))) hs)
 have HZ6 := hid hz6
 have HZ5 : Hid (g + 1 ≤ w5.heap.size) := hid (by omega)
 clear hes hF5 hB5 far5 q5 HF4 HB4 HR4 hz6 hs45 HPS hgood hle4 HZ4 HZ3 y13 f13
 have HSF := hid (frameD_small hp he)
 have HCH2 : Hid (bodyE S = if eRest S = [] ∧ rightF (frameD S) = true then 0 else 2) := hid (by rw [HCH.out, if_neg (fun h => h hp), if_neg (fun h => h he)])
 clear HCH hp he
 go_upto_region 8 with fail
 generalize w5.setCell ⟨g, 14, none⟩ (.slice A' (eL S).length c') = w6 at *
 obtain ⟨y0, y1, y2, y3, y4, y5, y6, y7, y8, y9, y10, y11, y12, y13, y14⟩ := HF6.out.cells
 have hs6 : w5.heap.size ≤ w6.heap.size := by rw [HZ6.out]; exact Nat.le_refl _
 have cR := rightFP_any (frameD S) A c A' c' w6 (HLW.out.below (by rw [HN0.out]; exact HB6.out)) (HPS6.out w6 (fun _ _ _ => rfl) hs6) (HES6.out w6 (fun _ _ _ => rfl) hs6) HSF.out
 have HRT := hid (@eRest_txt S)
 by_cases hr : eRest S = []
 rotate_left
 ·have hq2 : ¬ (txt (eRest S)).toList = [] := by
   show ¬ ByteArray.toList ⟨(eRest S).toArray⟩ = []
   rw [ByteArray.toList_mk]; exact hr
  generalize txt (eRest S) = RS at *
  go_wp2_with fail; refine (must_n (by first | rfl | simp) 2 _).mono ?_; rintro e w7 ⟨rfl, q7⟩
  exact ⟨rfl, read_up (by rw [HCH2.out, if_neg (fun h => hr h.1)]) (by decide) (by rw [HN0.out]; exact HB6.out.trans (q7.mono (by have := HZ5.out; omega)))⟩
 have hq : txt (eRest S) = (⟨#[]⟩ : ByteArray) := HRT.out.1 hr
 rw [hq]
 cases hrf : rightF (frameD S)
 ·rw [hrf] at cR
  go_wp2_with fail; refine cR.mono ?_; rintro e w7 ⟨rfl, q7⟩
  have hB7 := HB6.out.trans (q7.mono (by have := HZ5.out; omega))
  have hz7 := q7.size
  go_wp2_with fail; refine (must_n (by first | rfl | simp) 2 _).mono ?_; rintro e w8 ⟨rfl, q8⟩
  exact ⟨rfl, read_up (by rw [HCH2.out, if_neg (fun h => by rw [hrf] at h; exact Bool.noConfusion h.2)]) (by decide) (by rw [HN0.out]; exact hB7.trans (q8.mono (by have := HZ5.out; omega)))⟩
 ·rw [hrf] at cR
  go_wp2_with fail; refine cR.mono ?_; rintro e w7 ⟨rfl, q7⟩
  have HB7 := hid (HB6.out.trans (q7.mono (by have := HZ5.out; omega)))
  have hF7 := HF6.out.on q7
  have hR7 := HR6.out.on q7
  have HQ7 := hid q7
  clear q7 y0 y1 y2 y3 y4 y5 y6 y7 y8 y9 y10 y11 y12 y13 y14
  go_wp2_with fail; refine (must_y (by first | rfl | simp) 2 _).mono ?_; rintro e w8 ⟨rfl, rfl⟩
  obtain ⟨y0, y1, y2, y3, y4, y5, y6, y7, y8, y9, y10, y11, y12, y13, y14⟩ := hF7.cells
  obtain ⟨z0, z1, z2, z3, z4, z5, z6, z7, z8, z9, z10, z11, z12, z13, z14⟩ := hR7.cells
  have zf := hR7.frozen
  have hp := putF_at hR7 (frameD S) (.slice A (pL S).length c) (.slice A' (eL S).length c')
  have hbz := putF_below HB7.out (b := n0) (Nat.le_refl _) (frameD S) (.slice A (pL S).length c) (.slice A' (eL S).length c')
  have hfar : ∀ k, k ≠ n0 → (putF w7 n0 (frameD S) (.slice A (pL S).length c) (.slice A' (eL S).length c')).heap[k]? = w7.heap[k]? := fun k hk => putF_far w7 hk _ _ _
  have hsz := putF_size w7 n0 (frameD S) (.slice A (pL S).length c) (.slice A' (eL S).length c')
  have HPZ := hid hp
  have HBZ := hid hbz
  have HFZ := hid hfar
  have HSZ := hid hsz
  clear hp hbz hfar hsz hF7 hR7
  have HHERE : Hid (∀ W : World, (∀ k, g + 1 ≤ k → k < w7.heap.size → W.heap[k]? = w7.heap[k]?) → w7.heap.size ≤ W.heap.size → F.Pcs W W.heap.size A (pL S) ∧ Ents W W.heap.size A' (eL S)) := hid (fun W hW hs => by
   have h6 := HQ7.out.size
   have hk : ∀ k, g + 1 ≤ k → k < w6.heap.size → W.heap[k]? = w6.heap[k]? := fun k h1 h2 => (hW k h1 (by omega)).trans (HQ7.out.block k h2)
   exact ⟨HPS6.out W hk (by omega), HES6.out W hk (by omega)⟩)
  go_wp2_with fail
  obtain ⟨V, hV⟩ : ∃ V, V = putF w7 n0 (frameD S) (.slice A (pL S).length c) (.slice A' (eL S).length c') := ⟨_, rfl⟩
  have hpz := HPZ.out
  have hbz := HBZ.out
  have hfz := HFZ.out
  have hsz := HSZ.out
  rw [← hV] at hpz hbz hfz hsz
  unfold putF at hV
  simp only [← hV]
  have hhh : Firm w.heap.size V (fun W => F.Pcs W W.heap.size A (pL S) ∧ Ents W W.heap.size A' (eL S)) := fun W hW hs => HHERE.out W (fun k h1 h2 => (hW k (by have := HNG.out; have := HN0.out; omega) (by rw [hsz]; exact h2)).trans (hfz k (by have := HNG.out; omega))) (by rw [← hsz]; exact hs)
  obtain ⟨r0, r1, r2, r3, r4, r5, r6, r7, r8, r9, r10, r11, r12, r13, r14⟩ := hpz.cells
  have hpost : ReadPost S w (.returned (fv (frameD S) (.slice A (pL S).length c) (.slice A' (eL S).length c'))) V := ⟨by rw [HN0.out]; exact hbz, .inr ⟨by rw [HCH2.out, if_pos ⟨hr, hrf⟩], A, c, A', c', rfl, hhh⟩⟩
  exact bodyPost_ret (v := fv (frameD S) (.slice A (pL S).length c) (.slice A' (eL S).length c')) (by simp [results, Tryz.results63, go_sem, r0, r1, r2, r3, r4, r5, r6, r7, r8, r9, r10, r11, r12, r13, r14]) rfl hpost
end Go.Proofs.YtmmbnjkdknnidaaGreatDoor

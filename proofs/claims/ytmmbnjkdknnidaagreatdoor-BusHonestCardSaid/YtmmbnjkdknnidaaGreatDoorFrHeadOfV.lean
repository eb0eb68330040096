/-
  A frame without parts, out of its bytes, by the program: a loop over what frame.numbers hands back, with stores.
-/
import Derived.OwnWalkIn
import Derived.Test.YtmmbnjkdknnidaaGreatDoorFrRightV
import Derived.Test.YtmmbnjkdknnidaaGreatDoorEntEncPV
import Derived.Test.YtmmbnjkdknnidaaGreatDoorOnceInV
import Derived.Test.YtmmbnjkdknnidaaGreatDoorEntDecV
set_option maxHeartbeats 8000000
set_option maxRecDepth 100000
namespace Go.Proofs.YtmmbnjkdknnidaaGreatDoor
open Lib (hid)
open Go.RowKit Go.Shelf
attribute [local go_sem] Oper.semAt_some
def headF (f : Fr) : List UInt8 := aheadF f ++ (twosL (numsF f) ++ [octet (withN f)])
theorem head_body (f : Fr) : headF f ++ partsF f = bodyF f := by unfold headF bodyF; simp
theorem head_bytes (f : Fr) (h : (0 ≤ f.snd ∧ f.snd ≤ 255) ∧ (0 ≤ f.role ∧ f.role ≤ 255) ∧ (0 ≤ f.vote + 1 ∧ f.vote + 1 ≤ 255)) : Lib.byteCells (aheadF f) = [.int .u8 197, .int .u8 f.snd, .int .u8 f.role, .int .u8 (f.vote + 1)] := by
 have e : Lib.byteCells (aheadF f) = [.int .u8 197, .int .u8 ((octet f.snd).toNat : Int), .int .u8 ((octet f.role).toNat : Int), .int .u8 ((octet (f.vote + 1)).toNat : Int)] := rfl
 rw [e, octet_self _ h.1, octet_self _ h.2.1, octet_self _ h.2.2]
theorem own_lit {W : World} {g n : Nat} {e : TypeId} {cur : Array Value} {B : Nat} (h : W.heap[g]? = some (.cells cur e (0, 0))) (hB : B ≤ g) (hn : cur.size = n) (hm : n ≤ maxLen) : W.ownsRow B e 1 (.slice (some ⟨g, 0, none⟩) n n) n cur.toList :=
 ⟨by simp [hn], .inr ⟨g, n, cur, rfl, hB, h, Nat.le_refl _, hm, by simp [hn], by rw [List.take_of_length_le (by simp [hn])]⟩⟩
theorem KeepsOthers.of_below {W W' : World} (h : Below W.heap.size W W') : KeepsOthers W W' := ⟨h.size, fun k _ hk _ => (h.block k (Array.getElem?_eq_some_iff.1 hk).1).trans hk⟩
def HeadW (n0 bp : Nat) (f : Fr) (U U' : Value) (W wv : World) : Prop := FrAt wv n0 f U U' ∧ PtrBox wv bp n0 ∧ Below n0 W wv ∧ KeepsOthers W wv ∧ n0 ≤ wv.heap.size
theorem HeadW.on {n0 bp : Nat} {f : Fr} {U U' : Value} {W wv w' : World} (h : HeadW n0 bp f U U' W wv) (hb : Below wv.heap.size wv w') : HeadW n0 bp f U U' W w' :=
 ⟨h.1.on hb, (hb.block bp (Array.getElem?_eq_some_iff.1 h.2.1).1).trans h.2.1, h.2.2.1.trans (hb.mono h.2.2.2.2), h.2.2.2.1.trans (KeepsOthers.of_below hb), Nat.le_trans h.2.2.2.2 hb.size⟩
theorem HeadW.grown {n0 bp : Nat} {f : Fr} {U U' : Value} {W wv w' : World} (h : HeadW n0 bp f U U' W wv) {u : Value} {k : Nat} {xs : List Value} (ho : wv.ownsRow n0 5 1 u k xs) (hg : wv.grownBy w' u.ownBlock) : HeadW n0 bp f U U' W w' := by
 refine ⟨(hg.block n0 (Array.getElem?_eq_some_iff.1 h.1).1 fun e => own_apart ho h.1 (by decide) n0 e.symm rfl).trans h.1, (hg.block bp (Array.getElem?_eq_some_iff.1 h.2.1).1 fun e => own_apart ho h.2.1 (by decide) bp e.symm rfl).trans h.2.1, h.2.2.1.grown hg h.2.2.2.2 (fun g e => (ho.lt g e).1), h.2.2.2.1.trans (KeepsOthers.of_grownBy hg fun j _ ej hj => ?_), Nat.le_trans h.2.2.2.2 hg.size⟩
 rcases ho.2 with ⟨rfl, _⟩ | ⟨g, cap, cur, rfl, _, hgb, _⟩
 ·simp [Value.ownBlock] at ej
 ·obtain rfl : g = j := by simpa [Value.ownBlock] using ej
  rw [hgb] at hj; cases hj; rfl
theorem HeadW.set {n0 bp : Nat} {f : Fr} {U U' : Value} {W wv : World} (h : HeadW n0 bp f U U' W wv) {bt : Nat} (h1 : n0 < bt) (h2 : bp ≠ bt) (v : Value) : HeadW n0 bp f U U' W (wv.setCell ⟨bt, 0, none⟩ v) :=
 ⟨(Below.heap_setCell _ _ _ _ (by show n0 ≠ bt; omega)).trans h.1, (Below.heap_setCell _ _ _ _ h2).trans h.2.1, h.2.2.1.setCell (p := ⟨bt, 0, none⟩) (by show n0 ≤ bt; omega) v, h.2.2.2.1.trans (KeepsOthers.setCell _ _ _), by rw [World.size_setCell]; exact h.2.2.2.2⟩
theorem byte_pair (n : Int) (h : 0 ≤ n ∧ n ≤ 65535) : Lib.byteCells (twoL n) = [.int .u8 (n / 256), .int .u8 (n % 256)] := by
 rw [byteCells_two]
 have e1 : ((octet (n / 256)).toNat : Int) = n / 256 := by rw [octet_nat]; omega
 have e2 : ((octet n).toNat : Int) = n % 256 := octet_nat n
 rw [e1, e2]
theorem twosL_one (l : List Int) (n : Int) : twosL (l ++ [n]) = twosL l ++ twoL n := twosL_snoc _ _
theorem numN_mem (f : Fr) (x : Fin 10) : numN f x ∈ numsF f := by
 rw [← allN_nums]
 exact List.mem_map.2 ⟨x, by rcases fin10 x with rfl | rfl | rfl | rfl | rfl | rfl | rfl | rfl | rfl | rfl <;> decide, rfl⟩
theorem wpIn_append_op {F : Fence} {n : Nat} {P : Program} (w : World) {o : Oper} {a : Act} {K : Act → World → Prop} {Q : Exit → Act → World → Prop}
  (s x : Operand) (t : TypeId) (hop : o.op = Op.call { callee := Callee.builtin Builtin.append, args := #[s, x], argTypes := #[t, t] })
  (base : Nat) (e : TypeId) (i : TypeInfo) (z : Value) (size bytes : Nat) (h1 : P.underlying t = some (.slice e)) (h2 : P.info? e = some i) (h3 : i.zero = some z) (h4 : i.size = size) (h5 : i.bytes = bytes) (h6 : z.cells.size = size) (h7 : 0 < size)
  (v : Value) (k : Nat) (xs : List Value) (hs : a.eval s = v) (hown : w.ownsRow base e size v k xs) (ad : Addr) (m c : Nat) (news : List Value) (hx : a.eval x = .slice (some ad) m c) (hn : news.length = m * size)
  (hc : ∀ j u, news[j]? = some u → w.cell? (ad.add j) = some u) (h1c : ∀ u ∈ news, u.oneCell' = true) (b1 : k + m ≤ maxLen) (b2 : (k + m) * bytes ≤ 140737488355328) (b3 : base ≤ w.heap.size)
  (hK : ∀ v' w', w'.ownsRow base e size v' (k + m) (xs ++ news) → w.grownBy w' v.ownBlock → K (a.put o.dst v') w') : o.wpIn F n P a w K Q := by
 obtain ⟨v', w', hrun, r1, r2, -⟩ := run_append_own (P := P) w base t o.type e i z size bytes h1 h2 h3 h4 h5 h6 h7 v k xs hown ad m c news hn hc h1c b1 b2 b3
 unfold Oper.wpIn
 refine ⟨?_, ?_⟩
 ·simp [Oper.about, hop, resolve, Target.leads, Sem.run_pure]
 ·rw [Oper.semAt_plain F _ _ (by rw [hop]; intro c hc'; cases hc')]
  simp [execOp, hop, resolve, invoke, builtin, hs, hx, hrun, Result.andThen]
  exact hK v' w' r1 r2
theorem two_cells_at {W : World} {g : Nat} {x y : Value} {T : TypeId} (h : W.heap[g]? = some (.cells #[x, y] T (0, 0))) : ∀ j u, [x, y][j]? = some u → W.cell? ((⟨g, 0, none⟩ : Addr).add j) = some u := by
 intro j u hu
 rw [cell_zero_addE, cell_of h j]
 simpa using hu
theorem head_in (m : Nat) (hm : 4 ≤ m) (f : Fr) (A : Option Addr) (c : Nat) (A' : Option Addr) (c' : Nat) (hr : rightF f = true) (w : World) : CallsIn Fence.wide m Tryz.prog 45 #[fv f (.slice A f.ps.length c) (.slice A' f.es.length c')] w fun e W' => e = .returned (.string (txt (headF f))) ∧ Below w.heap.size w W' := by
 have h1 : 1 ≤ m := by omega
 obtain ⟨i0, hii, hz0, hz1, hz2⟩ := info_parts (show (Tryz.prog.info? 5).map (fun i => (i.zero, i.size, i.bytes)) = some (some (.int .u8 0), 1, 1) by kernel_rfl)
 obtain ⟨⟨r1, r2⟩, ⟨r3, r4⟩, ⟨r5, r6⟩, r7, hall, hps, hes⟩ := (rightF_iff f).1 hr
 have hrange := nums_all hall
 have e1 := wrap_u8_in f.snd (by omega) (by omega)
 have e2 := wrap_u8_in f.role (by omega) (by omega)
 have e3 := wrap_u8_in (f.vote + 1) (by omega) (by omega)
 have e4 : IntKind.i64.wrap (f.vote + 1) = f.vote + 1 := IntWalk.i64_in _ (by omega)
 have HBY := hid (head_bytes f ⟨by omega, by omega, by omega⟩)
 have hpl : f.ps.length ≤ 1 := by rcases oneB_cases hps with h | ⟨x, h, -⟩ <;> rw [h] <;> simp
 have hel : f.es.length ≤ 1 := by rcases oneB_cases hes with h | ⟨x, h, -⟩ <;> rw [h] <;> simp
 have HRG := hid hrange
 have HWN : Hid (withN f = f.ps.length + 2 * f.es.length) := hid rfl
 clear r1 r2 r3 r4 r5 r6 r7 hall hps hes hrange hr
 generalize f.ps.length = pn at *
 generalize f.es.length = en at *
 refine callsIn_of_wp_marks Tryz.func45 rfl trivial ?_ rfl
 simp only [Tryz.ntmps45, List.size_toArray, List.length_cons, List.length_nil, Nat.reduceAdd, Nat.reduceSub, Array.replicate_succ, Array.replicate_zero, List.push_toArray, List.append_toArray, List.nil_append, List.cons_append]
 gi_wp2_with fail
 refine ⟨trivial, (numbers_in (m - 1) _ _).mono ?_⟩
 rintro e w' ⟨rfl, rfl⟩
 gi_wp2_with fail
 have bF : FrAt ((((w.alloc (.cells #[.int .i64 f.snd, .int .i64 f.rnd, .int .i64 f.inc, .int .i64 f.term, .int .i64 f.role, .int .i64 f.vote, .int .i64 f.hrd, .int .i64 f.last, .int .i64 f.lterm, .int .i64 f.ack, .int .i64 f.com, .int .i64 f.prv, .int .i64 f.pterm, .slice A pn c, .slice A' en c'] 29)).alloc (.cells #[.int .u8 197, .int .u8 f.snd, .int .u8 f.role, .int .u8 (f.vote + 1)] 5)).alloc (.cells #[.slice (some ⟨w.heap.size + 1, 0, none⟩) 4 4] 42)).alloc (.cells #[.pointer (some ⟨w.heap.size, 0, none⟩)] 126)) w.heap.size f (.slice A pn c) (.slice A' en c') := ((FrAt.new w f (.slice A pn c) (.slice A' en c')).on (Joins.below_alloc2 _ _ _)).on (Joins.below_alloc1 _ _)
 have bL : ((((w.alloc (.cells #[.int .i64 f.snd, .int .i64 f.rnd, .int .i64 f.inc, .int .i64 f.term, .int .i64 f.role, .int .i64 f.vote, .int .i64 f.hrd, .int .i64 f.last, .int .i64 f.lterm, .int .i64 f.ack, .int .i64 f.com, .int .i64 f.prv, .int .i64 f.pterm, .slice A pn c, .slice A' en c'] 29)).alloc (.cells #[.int .u8 197, .int .u8 f.snd, .int .u8 f.role, .int .u8 (f.vote + 1)] 5)).alloc (.cells #[.slice (some ⟨w.heap.size + 1, 0, none⟩) 4 4] 42)).alloc (.cells #[.pointer (some ⟨w.heap.size, 0, none⟩)] 126)).heap[w.heap.size + 1]? = some (.cells #[.int .u8 197, .int .u8 f.snd, .int .u8 f.role, .int .u8 (f.vote + 1)] 5 (0, 0)) := by
  have h := heap_alloc_new (w.alloc (.cells #[.int .i64 f.snd, .int .i64 f.rnd, .int .i64 f.inc, .int .i64 f.term, .int .i64 f.role, .int .i64 f.vote, .int .i64 f.hrd, .int .i64 f.last, .int .i64 f.lterm, .int .i64 f.ack, .int .i64 f.com, .int .i64 f.prv, .int .i64 f.pterm, .slice A pn c, .slice A' en c'] 29)) (.cells #[.int .u8 197, .int .u8 f.snd, .int .u8 f.role, .int .u8 (f.vote + 1)] 5)
  rw [World.size_alloc] at h
  exact ((Joins.below_alloc2 ((w.alloc (.cells #[.int .i64 f.snd, .int .i64 f.rnd, .int .i64 f.inc, .int .i64 f.term, .int .i64 f.role, .int .i64 f.vote, .int .i64 f.hrd, .int .i64 f.last, .int .i64 f.lterm, .int .i64 f.ack, .int .i64 f.com, .int .i64 f.prv, .int .i64 f.pterm, .slice A pn c, .slice A' en c'] 29)).alloc (.cells #[.int .u8 197, .int .u8 f.snd, .int .u8 f.role, .int .u8 (f.vote + 1)] 5)) (.cells #[.slice (some ⟨w.heap.size + 1, 0, none⟩) 4 4] 42) (.cells #[.pointer (some ⟨w.heap.size, 0, none⟩)] 126)).block _ (by simp)).trans h
 have bV := (Boxed.new ((w.alloc (.cells #[.int .i64 f.snd, .int .i64 f.rnd, .int .i64 f.inc, .int .i64 f.term, .int .i64 f.role, .int .i64 f.vote, .int .i64 f.hrd, .int .i64 f.last, .int .i64 f.lterm, .int .i64 f.ack, .int .i64 f.com, .int .i64 f.prv, .int .i64 f.pterm, .slice A pn c, .slice A' en c'] 29)).alloc (.cells #[.int .u8 197, .int .u8 f.snd, .int .u8 f.role, .int .u8 (f.vote + 1)] 5)) 42 (.slice (some ⟨w.heap.size + 1, 0, none⟩) 4 4)).alloc (.cells #[.pointer (some ⟨w.heap.size, 0, none⟩)] 126)
 have bP : PtrBox _ _ _ := Boxed.new (((w.alloc (.cells #[.int .i64 f.snd, .int .i64 f.rnd, .int .i64 f.inc, .int .i64 f.term, .int .i64 f.role, .int .i64 f.vote, .int .i64 f.hrd, .int .i64 f.last, .int .i64 f.lterm, .int .i64 f.ack, .int .i64 f.com, .int .i64 f.prv, .int .i64 f.pterm, .slice A pn c, .slice A' en c'] 29)).alloc (.cells #[.int .u8 197, .int .u8 f.snd, .int .u8 f.role, .int .u8 (f.vote + 1)] 5)).alloc (.cells #[.slice (some ⟨w.heap.size + 1, 0, none⟩) 4 4] 42)) 126 (.pointer (some ⟨w.heap.size, 0, none⟩))
 have bB : Below w.heap.size w ((((w.alloc (.cells #[.int .i64 f.snd, .int .i64 f.rnd, .int .i64 f.inc, .int .i64 f.term, .int .i64 f.role, .int .i64 f.vote, .int .i64 f.hrd, .int .i64 f.last, .int .i64 f.lterm, .int .i64 f.ack, .int .i64 f.com, .int .i64 f.prv, .int .i64 f.pterm, .slice A pn c, .slice A' en c'] 29)).alloc (.cells #[.int .u8 197, .int .u8 f.snd, .int .u8 f.role, .int .u8 (f.vote + 1)] 5)).alloc (.cells #[.slice (some ⟨w.heap.size + 1, 0, none⟩) 4 4] 42)).alloc (.cells #[.pointer (some ⟨w.heap.size, 0, none⟩)] 126)) := ((((Below.refl _ w).alloc (Nat.le_refl _) _).alloc (by simp) _).alloc (by simp; omega) _).alloc (by simp; omega) _
 have hs4 : ((((w.alloc (.cells #[.int .i64 f.snd, .int .i64 f.rnd, .int .i64 f.inc, .int .i64 f.term, .int .i64 f.role, .int .i64 f.vote, .int .i64 f.hrd, .int .i64 f.last, .int .i64 f.lterm, .int .i64 f.ack, .int .i64 f.com, .int .i64 f.prv, .int .i64 f.pterm, .slice A pn c, .slice A' en c'] 29)).alloc (.cells #[.int .u8 197, .int .u8 f.snd, .int .u8 f.role, .int .u8 (f.vote + 1)] 5)).alloc (.cells #[.slice (some ⟨w.heap.size + 1, 0, none⟩) 4 4] 42)).alloc (.cells #[.pointer (some ⟨w.heap.size, 0, none⟩)] 126)).heap.size = w.heap.size + 4 := by simp
 simp only [World.size_alloc] at bV bP
 generalize ((((w.alloc (.cells #[.int .i64 f.snd, .int .i64 f.rnd, .int .i64 f.inc, .int .i64 f.term, .int .i64 f.role, .int .i64 f.vote, .int .i64 f.hrd, .int .i64 f.last, .int .i64 f.lterm, .int .i64 f.ack, .int .i64 f.com, .int .i64 f.prv, .int .i64 f.pterm, .slice A pn c, .slice A' en c'] 29)).alloc (.cells #[.int .u8 197, .int .u8 f.snd, .int .u8 f.role, .int .u8 (f.vote + 1)] 5)).alloc (.cells #[.slice (some ⟨w.heap.size + 1, 0, none⟩) 4 4] 42)).alloc (.cells #[.pointer (some ⟨w.heap.size, 0, none⟩)] 126)) = X4 at *
 have hbt : w.heap.size + 1 + 1 = w.heap.size + 2 := rfl
 have hbp : w.heap.size + 1 + 1 + 1 = w.heap.size + 3 := rfl
 simp only [hbt, hbp] at *
 have bO : X4.ownsRow w.heap.size 5 1 (.slice (some ⟨w.heap.size + 1, 0, none⟩) 4 4) 4 (Lib.byteCells (aheadF f ++ twosL (([] : List (Fin 10)).map (numN f)))) := by
  have h := own_lit (n := 4) bL (B := w.heap.size) (by omega) rfl (by decide)
  have e : Lib.byteCells (aheadF f ++ twosL (([] : List (Fin 10)).map (numN f))) = [.int .u8 197, .int .u8 f.snd, .int .u8 f.role, .int .u8 (f.vote + 1)] := by
   rw [show twosL (([] : List (Fin 10)).map (numN f)) = [] from rfl, List.append_nil, HBY.out]
  rw [e]; exact h
 clear bL hbt hbp e1 e2 e3 e4
 have hI : OwnFrom X4.heap.size (fun (pre : List (Fin 10)) W => (∃ u, Boxed W (w.heap.size + 2) 42 u ∧ W.ownsRow w.heap.size 5 1 u (4 + 2 * pre.length) (Lib.byteCells (aheadF f ++ twosL (pre.map (numN f)))) ∧ True) ∧ ((FrAt W w.heap.size f (.slice A pn c) (.slice A' en c') ∧ PtrBox W (w.heap.size + 3) w.heap.size) ∧ Below w.heap.size w W) ∧ w.heap.size + 4 ≤ W.heap.size) :=
  OwnFrom.and (Own.from (holdsRow_own w.heap.size (w.heap.size + 2) 42 5 1 (fun pre : List (Fin 10) => 4 + 2 * pre.length) (fun pre => Lib.byteCells (aheadF f ++ twosL (pre.map (numN f)))) (fun _ _ => True)) _) (OwnFrom.and (OwnFrom.and (OwnFrom.and (Own.from (frAt_own _ _ _ _) _) (Own.from (boxed_own _ _ (fun _ => .pointer (some ⟨w.heap.size, 0, none⟩))) _)) (ownFrom_below (Nat.le_refl _) (by omega))) (fun s A B row hs hg hr => Nat.le_trans hs hg.size))
 refine wpIn_rangeFunc_ownG rfl h1 (gf := 126) (lb := #[.pointer (some ⟨w.heap.size + 3, 0, none⟩)]) rfl trivial (enters_of Tryz.func126 (by kernel_rfl) rfl)
  (nums_stop (m - 1) (by omega) (w.heap.size + 3) w.heap.size _ bP) Keeps.trans (Keeps.past (by omega)) (Below.refl _ _) (fun _ => rfl)
  (fun pre W => (∃ u, Boxed W (w.heap.size + 2) 42 u ∧ W.ownsRow w.heap.size 5 1 u (4 + 2 * pre.length) (Lib.byteCells (aheadF f ++ twosL (pre.map (numN f)))) ∧ True) ∧ ((FrAt W w.heap.size f (.slice A pn c) (.slice A' en c') ∧ PtrBox W (w.heap.size + 3) w.heap.size) ∧ Below w.heap.size w W) ∧ w.heap.size + 4 ≤ W.heap.size)
  (fun _ _ _ => False) hI (fun _ _ _ _ _ hs _ _ => hs)
  ⟨⟨_, bV, bO, trivial⟩, ⟨⟨bF, bP⟩, bB⟩, by omega⟩
  ?a1 ?assign ?body ?done ?stop
 case assign =>
  intro l x W K hK
  gi_wp2
  exact hK
 case body =>
  rintro r pre x W ⟨⟨u0, hv, hrow, -⟩, ⟨⟨hF, hP⟩, hB⟩, hW⟩ hlt
  have hrn := HRG.out _ (numN_mem f x)
  have HNC : Hid (∀ wv, FrAt wv w.heap.size f (.slice A pn c) (.slice A' en c') → wv.cell? ⟨w.heap.size, fldN x, none⟩ = some (.int .i64 (numN f x))) := hid (fun wv h => h.num x)
  have HBYT : Hid (Lib.byteCells (aheadF f ++ twosL ((pre ++ [x]).map (numN f))) = Lib.byteCells (aheadF f ++ twosL (pre.map (numN f))) ++ [.int .u8 (numN f x / 256), .int .u8 (numN f x % 256)]) := hid (by
   rw [List.map_append, List.map_singleton, twosL_one, ← List.append_assoc, byteCells_append, byte_pair _ hrn])
  have HLN : Hid (4 + 2 * (pre ++ [x]).length = 4 + 2 * pre.length + 2) := hid (by simp; omega)
  have hk24 : 4 + 2 * pre.length + 2 ≤ 1000 := by omega
  generalize fldN x = q at *
  generalize numN f x = n at *
  generalize Lib.byteCells (aheadF f ++ twosL (pre.map (numN f))) = XS at *
  generalize 4 + 2 * pre.length = k at *
  have HK24 := hid hk24
  have HV := hid hv
  have HROW := hid hrow
  have HHW : Hid (HeadW w.heap.size (w.heap.size + 3) f (.slice A pn c) (.slice A' en c') W W) := hid ⟨hF, hP, Below.refl _ _, KeepsOthers.refl _, by omega⟩
  have HN := hid hrn
  have HPP := hid hP
  have HBB := hid hB
  have HWW := hid hW
  clear hv hrow hF hP hB hk24 hlt hW hI hrn
  gi_wp2_with fail
  have HV : ∃ O : Nat → (Nat → Value) → World → Prop, O = (fun ix u wv => match ix with
   | 0 => u 0 = u0
   | 1 => u 1 = .pointer (some ⟨w.heap.size, q, none⟩)
   | 2 => u 2 = .pointer (some ⟨w.heap.size, q, none⟩)
   | 3 => u 3 = .int .i64 n
   | 4 => u 4 = .int .i64 (n / 256)
   | 5 => u 5 = .int .u8 (n / 256)
   | 6 => u 6 = .pointer (some ⟨w.heap.size, q, none⟩)
   | 7 => u 7 = .pointer (some ⟨w.heap.size, q, none⟩)
   | 8 => u 8 = .int .i64 n
   | 9 => u 9 = .int .u8 (n % 256)
   | 10 => ∃ g, u 10 = .slice (some ⟨g, 0, none⟩) 2 2 ∧ wv.heap[g]? = some (.cells #[.int .u8 (n / 256), .int .u8 (n % 256)] 5 (0, 0))
   | 11 => ∃ g9 c9, u 11 = .slice (some ⟨g9, 0, none⟩) (k + 2) c9 ∧ wv.ownsRow w.heap.size 5 1 (.slice (some ⟨g9, 0, none⟩) (k + 2) c9) (k + 2) (XS ++ [.int .u8 (n / 256), .int .u8 (n % 256)])
   | 12 => ∃ g9 c9, Boxed wv (w.heap.size + 2) 42 (.slice (some ⟨g9, 0, none⟩) (k + 2) c9) ∧ wv.ownsRow w.heap.size 5 1 (.slice (some ⟨g9, 0, none⟩) (k + 2) c9) (k + 2) (XS ++ [.int .u8 (n / 256), .int .u8 (n % 256)])
   | _ => True) := ⟨_, rfl⟩
  obtain ⟨O, hd7⟩ := HV
  have O0 : ∀ u wv, O 0 u wv = (u 0 = u0) := fun _ _ => by subst hd7; rfl
  have O1 : ∀ u wv, O 1 u wv = (u 1 = .pointer (some ⟨w.heap.size, q, none⟩)) := fun _ _ => by subst hd7; rfl
  have O2 : ∀ u wv, O 2 u wv = (u 2 = .pointer (some ⟨w.heap.size, q, none⟩)) := fun _ _ => by subst hd7; rfl
  have O3 : ∀ u wv, O 3 u wv = (u 3 = .int .i64 n) := fun _ _ => by subst hd7; rfl
  have O4 : ∀ u wv, O 4 u wv = (u 4 = .int .i64 (n / 256)) := fun _ _ => by subst hd7; rfl
  have O5 : ∀ u wv, O 5 u wv = (u 5 = .int .u8 (n / 256)) := fun _ _ => by subst hd7; rfl
  have O6 : ∀ u wv, O 6 u wv = (u 6 = .pointer (some ⟨w.heap.size, q, none⟩)) := fun _ _ => by subst hd7; rfl
  have O7 : ∀ u wv, O 7 u wv = (u 7 = .pointer (some ⟨w.heap.size, q, none⟩)) := fun _ _ => by subst hd7; rfl
  have O8 : ∀ u wv, O 8 u wv = (u 8 = .int .i64 n) := fun _ _ => by subst hd7; rfl
  have O9 : ∀ u wv, O 9 u wv = (u 9 = .int .u8 (n % 256)) := fun _ _ => by subst hd7; rfl
  have O10 : ∀ u wv, O 10 u wv = (∃ g, u 10 = .slice (some ⟨g, 0, none⟩) 2 2 ∧ wv.heap[g]? = some (.cells #[.int .u8 (n / 256), .int .u8 (n % 256)] 5 (0, 0))) := fun _ _ => by subst hd7; rfl
  have O11 : ∀ u wv, O 11 u wv = (∃ g9 c9, u 11 = .slice (some ⟨g9, 0, none⟩) (k + 2) c9 ∧ wv.ownsRow w.heap.size 5 1 (.slice (some ⟨g9, 0, none⟩) (k + 2) c9) (k + 2) (XS ++ [.int .u8 (n / 256), .int .u8 (n % 256)])) := fun _ _ => by subst hd7; rfl
  have O12 : ∀ u wv, O 12 u wv = (∃ g9 c9, Boxed wv (w.heap.size + 2) 42 (.slice (some ⟨g9, 0, none⟩) (k + 2) c9) ∧ wv.ownsRow w.heap.size 5 1 (.slice (some ⟨g9, 0, none⟩) (k + 2) c9) (k + 2) (XS ++ [.int .u8 (n / 256), .int .u8 (n % 256)])) := fun _ _ => by subst hd7; rfl
  have HVD := hid hd7
  clear hd7
  refine region_phaseIn (hF := fun _ => trivial) (V := O) (drop := fun jx ix => (jx == 11 && ix == 10) || (jx == 12 && ix == 11) || (jx == 12 && ix == 10)) (G := fun L wv => (L 11 = false → wv.ownsRow w.heap.size 5 1 u0 k XS) ∧ (L 12 = false → Boxed wv (w.heap.size + 2) 42 u0) ∧ HeadW w.heap.size (w.heap.size + 3) f (.slice A pn c) (.slice A' en c') W wv) (Rel := fun jx wv wv' => jx = 11 ∨ jx = 12 ∨ Below wv.heap.size wv wv') (by kernel_rfl) (by kernel_rfl) ⟨fun _ => ownsRow_on HROW.out (Below.refl _ _).drew, fun _ => (((Below.refl _ W).drew).block _ HV.out.lt).trans HV.out, HHW.out.on (Below.refl _ _).drew⟩ ?hmonop1 ?hdepp1 ⟨?s0_p1, ?s1_p1, ?s2_p1, ?s3_p1, ?s4_p1, ?s5_p1, ?s6_p1, ?s7_p1, ?s8_p1, ?s9_p1, ?s10_p1, ?s11_p1, ?s12_p1, trivial⟩ ?behindp1
  case hmonop1 =>
   intro ix jx u wv wv' hij hw hd hr
   rw [HVD.out]
   dsimp only
   split <;> intro h <;> first | exact trivial | exact h | (rcases hr with rfl | rfl | hb; (focus first | exact absurd rfl hij | (simp at hd; done) | (exact Bool.noConfusion (hw.symm.trans (show _ = true from by kernel_rfl)))); (focus first | exact absurd rfl hij | (simp at hd; done) | (exact Bool.noConfusion (hw.symm.trans (show _ = true from by kernel_rfl)))); (first | (obtain ⟨g, e, hg⟩ := h; exact ⟨g, e, (hb.block g (Array.getElem?_eq_some_iff.1 hg).1).trans hg⟩) | (obtain ⟨g9, c9, e, ho⟩ := h; exact ⟨g9, c9, (hb.block _ e.lt).trans e, ownsRow_on ho hb⟩) | (obtain ⟨g9, c9, e, ho⟩ := h; exact ⟨g9, c9, e, ownsRow_on ho hb⟩)))
  case hdepp1 =>
   intro ix u u' wv h1 h2
   rw [HVD.out]
   dsimp only
   split <;> intro h <;> first | exact trivial | (rw [← h1]; exact h) | exact h
  case s0_p1 =>
   refine owePIn rfl fun a wx val L hG hi hW hV hN hO K hK => ?_
   have e3 : a.tmps[3]? = some (.pointer (some ⟨w.heap.size + 2, 0, none⟩)) := (hO 3).trans (by rfl)
   clear hV hN hO
   have y0 := (hG.2.1 (hW 12)).cell
   have y1 := HNC.out _ hG.2.2.1
   go_simp
   exact hK.out _ _ (by rw [O0, upd_at] <;> (congr 1 <;> omega)) (.inr (.inr (Below.refl _ _))) (⟨fun h => hG.1 (upL_false h), fun h => hG.2.1 (upL_false h), hG.2.2⟩)
  case s1_p1 =>
   refine owePIn rfl fun a wx val L hG hi hW hV hN hO K hK => ?_
   have e4 : a.tmps[4]? = some (.pointer (some ⟨w.heap.size, q, none⟩)) := (hO 4).trans (by rfl)
   clear hV hN hO
   go_simp
   exact hK.out _ _ (by rw [O1, upd_at] <;> (congr 1 <;> omega)) (.inr (.inr (Below.refl _ _))) (⟨fun h => hG.1 (upL_false h), fun h => hG.2.1 (upL_false h), hG.2.2⟩)
  case s2_p1 =>
   refine owePIn rfl fun a wx val L hG hi hW hV hN hO K hK => ?_
   have e19 := hN 1 19
   have f19 := hV 1
   rw [O1] at f19; rw [f19] at e19; clear f19
   clear hV hN hO
   go_simp
   exact hK.out _ _ (by rw [O2, upd_at] <;> (congr 1 <;> omega)) (.inr (.inr (Below.refl _ _))) (⟨fun h => hG.1 (upL_false h), fun h => hG.2.1 (upL_false h), hG.2.2⟩)
  case s3_p1 =>
   refine owePIn rfl fun a wx val L hG hi hW hV hN hO K hK => ?_
   have e20 := hN 2 20
   have f20 := hV 2
   rw [O2] at f20; rw [f20] at e20; clear f20
   clear hV hN hO
   have y0 := (hG.2.1 (hW 12)).cell
   have y1 := HNC.out _ hG.2.2.1
   go_simp
   exact hK.out _ _ (by rw [O3, upd_at] <;> (congr 1 <;> omega)) (.inr (.inr (Below.refl _ _))) (⟨fun h => hG.1 (upL_false h), fun h => hG.2.1 (upL_false h), hG.2.2⟩)
  case s4_p1 =>
   refine owePIn rfl fun a wx val L hG hi hW hV hN hO K hK => ?_
   have e21 := hN 3 21
   have f21 := hV 3
   rw [O3] at f21; rw [f21] at e21; clear f21
   clear hV hN hO
   go_simp
   exact hK.out _ _ (by rw [O4, upd_at] <;> (congr 1 <;> omega)) (.inr (.inr (Below.refl _ _))) (⟨fun h => hG.1 (upL_false h), fun h => hG.2.1 (upL_false h), hG.2.2⟩)
  case s5_p1 =>
   refine owePIn rfl fun a wx val L hG hi hW hV hN hO K hK => ?_
   have e22 := hN 4 22
   have f22 := hV 4
   rw [O4] at f22; rw [f22] at e22; clear f22
   clear hV hN hO
   have hn := HN.out
   have e23' := wrap_u8_in (n / 256) (by omega) (by omega)
   go_simp
   exact hK.out _ _ (by rw [O5, upd_at] <;> (congr 1 <;> omega)) (.inr (.inr (Below.refl _ _))) (⟨fun h => hG.1 (upL_false h), fun h => hG.2.1 (upL_false h), hG.2.2⟩)
  case s6_p1 =>
   refine owePIn rfl fun a wx val L hG hi hW hV hN hO K hK => ?_
   have e4 : a.tmps[4]? = some (.pointer (some ⟨w.heap.size, q, none⟩)) := (hO 4).trans (by rfl)
   clear hV hN hO
   go_simp
   exact hK.out _ _ (by rw [O6, upd_at] <;> (congr 1 <;> omega)) (.inr (.inr (Below.refl _ _))) (⟨fun h => hG.1 (upL_false h), fun h => hG.2.1 (upL_false h), hG.2.2⟩)
  case s7_p1 =>
   refine owePIn rfl fun a wx val L hG hi hW hV hN hO K hK => ?_
   have e24 := hN 6 24
   have f24 := hV 6
   rw [O6] at f24; rw [f24] at e24; clear f24
   clear hV hN hO
   go_simp
   exact hK.out _ _ (by rw [O7, upd_at] <;> (congr 1 <;> omega)) (.inr (.inr (Below.refl _ _))) (⟨fun h => hG.1 (upL_false h), fun h => hG.2.1 (upL_false h), hG.2.2⟩)
  case s8_p1 =>
   refine owePIn rfl fun a wx val L hG hi hW hV hN hO K hK => ?_
   have e25 := hN 7 25
   have f25 := hV 7
   rw [O7] at f25; rw [f25] at e25; clear f25
   clear hV hN hO
   have y0 := (hG.2.1 (hW 12)).cell
   have y1 := HNC.out _ hG.2.2.1
   go_simp
   exact hK.out _ _ (by rw [O8, upd_at] <;> (congr 1 <;> omega)) (.inr (.inr (Below.refl _ _))) (⟨fun h => hG.1 (upL_false h), fun h => hG.2.1 (upL_false h), hG.2.2⟩)
  case s9_p1 =>
   refine owePIn rfl fun a wx val L hG hi hW hV hN hO K hK => ?_
   have e26 := hN 8 26
   have f26 := hV 8
   rw [O8] at f26; rw [f26] at e26; clear f26
   clear hV hN hO
   go_simp
   exact hK.out _ _ (by rw [O9, upd_at] <;> (congr 1 <;> omega)) (.inr (.inr (Below.refl _ _))) (⟨fun h => hG.1 (upL_false h), fun h => hG.2.1 (upL_false h), hG.2.2⟩)
  case s10_p1 =>
   refine owePIn rfl fun a wx val L hG hi hW hV hN hO K hK => ?_
   have e23 := hN 5 23
   have f23 := hV 5
   rw [O5] at f23; rw [f23] at e23; clear f23
   have e27 := hN 9 27
   have f27 := hV 9
   rw [O9] at f27; rw [f27] at e27; clear f27
   clear hV hN hO
   go_simp
   have hb := Joins.below_alloc1 wx (.cells #[.int .u8 (n / 256), .int .u8 (n % 256)] 5)
   exact hK.out _ _ (by rw [O10, upd_at]; exact ⟨_, rfl, heap_alloc_new _ _⟩) (.inr (.inr hb)) (⟨fun h => ownsRow_on (hG.1 (upL_false h)) hb, fun h => (hb.block _ (hG.2.1 (upL_false h)).lt).trans (hG.2.1 (upL_false h)), hG.2.2.on hb⟩)
  case s11_p1 =>
   refine owePIn rfl fun a wx val L hG hi hW hV hN hO K hK => ?_
   have e18 := hN 0 18
   have f18 := hV 0
   rw [O0] at f18; rw [f18] at e18; clear f18
   have e28 := hN 10 28
   have f28 := hV 10
   rw [O10] at f28; obtain ⟨g, hv, hgg⟩ := f28; rw [hv] at e28
   clear hV hN hO
   have hOw := hG.1 hi
   have hbx := hG.2.1 (hW 12)
   refine wpIn_append_op wx (.tmp 18) (.tmp 28) 42 rfl w.heap.size 5 i0 (.int .u8 0) 1 1 Tryz.underlying42 hii hz0 hz1 hz2 rfl (by decide) u0 k XS (by simp [Act.eval, e18]) hOw ⟨g, 0, none⟩ 2 2 [.int .u8 (n / 256), .int .u8 (n % 256)] (by simp [Act.eval, e28]) rfl (two_cells_at hgg) (by simp [Value.oneCell']) (by have := HK24.out; unfold maxLen; omega) (by have := HK24.out; omega) hG.2.2.2.2.2.2 ?_
   intro u' w5 hown5 hg5
   obtain ⟨g9, c9, rfl⟩ := ownsRow_succ (k := k + 1) hown5
   exact hK.out _ _ (by rw [O11, upd_at]; exact ⟨g9, c9, rfl, hown5⟩) (.inl rfl) ⟨fun h => (upL_self h).elim, fun _ => (hg5.block _ hbx.lt fun e => own_apart hOw hbx (by decide) _ e.symm rfl).trans hbx, hG.2.2.grown hOw hg5⟩
  case s12_p1 =>
   refine owePIn rfl fun a wx val L hG hi hW hV hN hO K hK => ?_
   have e3 : a.tmps[3]? = some (.pointer (some ⟨w.heap.size + 2, 0, none⟩)) := (hO 3).trans (by rfl)
   have e29 := hN 11 29
   have f29 := hV 11
   rw [O11] at f29; obtain ⟨g9, c9, hv, hoo⟩ := f29; rw [hv] at e29
   clear hV hN hO
   have hbx := hG.2.1 hi
   have y0 := hbx.cell
   have hf := hbx.frozen
   go_simp
   exact hK.out undef (wx.setCell ⟨w.heap.size + 2, 0, none⟩ (.slice (some ⟨g9, 0, none⟩) (k + 2) c9)) (by rw [O12]; exact ⟨g9, c9, hbx.set _, own_far hoo (fun g hg => Below.heap_setCell _ _ _ _ (own_apart hoo hbx (by decide) g hg))⟩) (.inr (.inl rfl)) ⟨fun h => own_far (hG.1 (upL_false h)) (fun g hg => Below.heap_setCell _ _ _ _ (own_apart (hG.1 (upL_false h)) hbx (by decide) g hg)), fun h => (upL_self h).elim, hG.2.2.set (by omega) (by omega) _⟩
  intro val wx L hG hV
  have f0 := hV 0
  rw [O0] at f0
  have f1 := hV 1
  rw [O1] at f1
  have f2 := hV 2
  rw [O2] at f2
  have f3 := hV 3
  rw [O3] at f3
  have f4 := hV 4
  rw [O4] at f4
  have f5 := hV 5
  rw [O5] at f5
  have f6 := hV 6
  rw [O6] at f6
  have f7 := hV 7
  rw [O7] at f7
  have f8 := hV 8
  rw [O8] at f8
  have f9 := hV 9
  rw [O9] at f9
  have f12 := hV 12
  rw [O12] at f12
  clear hV O0 O1 O2 O3 O4 O5 O6 O7 O8 O9 O10 O11 O12
  simp only [putAll, Act.put, List.setIfInBounds_toArray, List.set_cons_zero, List.set_cons_succ]
  generalize val 0 = z0, val 1 = z1, val 2 = z2, val 3 = z3, val 4 = z4, val 5 = z5, val 6 = z6, val 7 = z7, val 8 = z8, val 9 = z9, val 10 = z10, val 11 = z11 at *
  subst f0 f1 f2 f3 f4 f5 f6 f7 f8 f9
  clear HVD
  obtain ⟨g9, c9, hv2, hr2⟩ := f12
  gi_wp2_with fail
  exact ⟨hG.2.2.2.2.2.1.from _, Eq.trans hG.2.2.2.1 (Eq.symm HPP.out), ⟨⟨_, hv2, by rw [HBYT.out, HLN.out]; exact hr2, trivial⟩, ⟨⟨hG.2.2.1, hG.2.2.2.1⟩, HBB.out.trans hG.2.2.2.2.1⟩, Nat.le_trans HWW.out hG.2.2.2.2.2.1.size⟩⟩
 case done =>
  rintro D ys W hD rfl ⟨⟨u0, hv, hrow, -⟩, ⟨⟨hF, hP⟩, hB⟩, hW⟩ hK
  have hrow : W.ownsRow w.heap.size 5 1 u0 24 (Lib.byteCells (aheadF f ++ twosL (numsF f))) := hrow
  have y0 := hv.cell
  have y13 : W.cell? ⟨w.heap.size, 13, none⟩ = some (.slice A pn c) := cell_of hF 13
  have y14 : W.cell? ⟨w.heap.size, 14, none⟩ = some (.slice A' en c') := cell_of hF 14
  have q1 : IntKind.i64.wrap (pn : Int) = pn := IntWalk.i64_in _ (by omega)
  have q2 : IntKind.i64.wrap (2 * (en : Int)) = 2 * (en : Int) := IntWalk.i64_in _ (by omega)
  have q3 : IntKind.i64.wrap ((pn : Int) + 2 * (en : Int)) = (pn : Int) + 2 * (en : Int) := IntWalk.i64_in _ (by omega)
  have q4 := wrap_u8_in ((pn : Int) + 2 * (en : Int)) (by omega) (by omega)
  have HHB : Hid (Lib.byteCells (headF f) = Lib.byteCells (aheadF f ++ twosL (numsF f)) ++ [.int .u8 ((pn : Int) + 2 * (en : Int))]) := hid (by
   unfold headF
   rw [← List.append_assoc, byteCells_append]
   have e : ((octet (withN f)).toNat : Int) = (pn : Int) + 2 * (en : Int) := by rw [octet_self _ (by rw [HWN.out]; omega), HWN.out]; omega
   show _ ++ [Value.int .u8 ((octet (withN f)).toNat : Int)] = _
   rw [e])
  clear hI
  gi_wp2_with (gi_at_builtin; refine wpListIn_append_own _ rfl _ _ 42 rfl w.heap.size 5 i0 (.int .u8 0) 1 1 Tryz.underlying42 hii hz0 hz1 hz2 rfl (by decide) _ _ _ rfl (hrow.alloc _) ⟨W.heap.size, 0, none⟩ 1 1 [.int .u8 ((pn : Int) + 2 * (en : Int))] rfl rfl (cell_one_new _ _ _) (by simp [Value.oneCell']) (by decide) (by decide) (by simp; omega) ?_; intro v' w1 hown' hgrow _; have hcv := own_bytes_text w1 w.heap.size 25 v' (headF f) (by rw [HHB.out]; exact hown'))
  have hgrow : (W.alloc (.cells #[.int .u8 ((pn : Int) + 2 * (en : Int))] 5)).grownBy w1 u0.ownBlock := hgrow
  have hbb := (hrow.alloc (.cells #[.int .u8 ((pn : Int) + 2 * (en : Int))] 5)).lt
  have hK2 : w1.heap[D]? = some (.deferred (some [])) := (hgrow.block D (by have := (Array.getElem?_eq_some_iff.1 hK).1; simp; omega) (fun e => by
   rcases hrow.2 with ⟨rfl, _⟩ | ⟨g, cap, cur, rfl, _, hgb, _⟩
   ·simp [Value.ownBlock] at e
   ·have e2 : D = g := by simpa [Value.ownBlock] using e
    rw [e2, hgb] at hK; cases hK)).trans ((Below.heap_alloc _ _ _ (Array.getElem?_eq_some_iff.1 hK).1).trans hK)
  have hB2 : Below w.heap.size w w1 := (hB.alloc (by omega) _).grown hgrow (by simp; omega) (fun g e => (hbb g e).1)
  refine ⟨by simp, .inl ⟨_, _, rfl, run_takeDeferred hK2, ?_⟩⟩
  exact ⟨_, results_tmp rfl _ _ _, rfl, hB2.trans (belowK_b (w := w) (Nat.le_refl _) w1 D _ _ (by omega) hK2 rfl rfl)⟩
 case stop =>
  rintro D c pre W _ _ h _
  exact h.elim
end Go.Proofs.YtmmbnjkdknnidaaGreatDoor
namespace Go.Proofs.YtmmbnjkdknnidaaGreatDoor
open Lib (hid)
open Go.RowKit Go.Shelf
attribute [local go_sem] Oper.semAt_some
def putN (t : List UInt8) : List (Fin 10) → Fr → Nat → Fr
 | [], f, _ => f
 | x :: l, f, k => putN t l (setN f x (pairL t (4 + 2 * k))) (k + 1)
theorem putN_snoc (t : List UInt8) (x : Fin 10) : ∀ (l : List (Fin 10)) (f : Fr) (k : Nat), putN t (l ++ [x]) f k = setN (putN t l f k) x (pairL t (4 + 2 * (k + l.length)))
 | [], f, k => rfl
 | y :: l, f, k => by
  show putN t (l ++ [x]) _ (k + 1) = _
  rw [putN_snoc t x l, List.length_cons, show k + 1 + l.length = k + (l.length + 1) by omega]
  rfl
def head0 (t : List UInt8) : Fr := { zeroFr with snd := ((t.getD 1 0).toNat : Int), role := ((t.getD 2 0).toNat : Int), vote := ((t.getD 3 0).toNat : Int) - 1 }
def headD (t : List UInt8) : Fr := ⟨((t.getD 1 0).toNat : Int), pairL t 4, pairL t 6, pairL t 8, ((t.getD 2 0).toNat : Int), ((t.getD 3 0).toNat : Int) - 1, pairL t 10, pairL t 12, pairL t 14, pairL t 16, pairL t 18, pairL t 20, pairL t 22, [], []⟩
theorem putN_all (t : List UInt8) : putN t allN (head0 t) 0 = headD t := rfl
def putF (w : World) (b : Nat) (f : Fr) (u v : Value) : World := ((((((((((((((w.setCell ⟨b, 0, none⟩ (.int .i64 f.snd)).setCell ⟨b, 1, none⟩ (.int .i64 f.rnd)).setCell ⟨b, 2, none⟩ (.int .i64 f.inc)).setCell ⟨b, 3, none⟩ (.int .i64 f.term)).setCell ⟨b, 4, none⟩ (.int .i64 f.role)).setCell ⟨b, 5, none⟩ (.int .i64 f.vote)).setCell ⟨b, 6, none⟩ (.int .i64 f.hrd)).setCell ⟨b, 7, none⟩ (.int .i64 f.last)).setCell ⟨b, 8, none⟩ (.int .i64 f.lterm)).setCell ⟨b, 9, none⟩ (.int .i64 f.ack)).setCell ⟨b, 10, none⟩ (.int .i64 f.com)).setCell ⟨b, 11, none⟩ (.int .i64 f.prv)).setCell ⟨b, 12, none⟩ (.int .i64 f.pterm)).setCell ⟨b, 13, none⟩ u).setCell ⟨b, 14, none⟩ v
theorem putF_at {w : World} {b : Nat} {f : Fr} {u v : Value} (h : FrAt w b f u v) (f' : Fr) (u' v' : Value) : FrAt (putF w b f' u' v') b f' u' v' := by
 unfold putF
 unfold FrAt fc at h
 replace h := set_blk h 0 (.int .i64 f'.snd)
 rw [show (#[.int .i64 f.snd, .int .i64 f.rnd, .int .i64 f.inc, .int .i64 f.term, .int .i64 f.role, .int .i64 f.vote, .int .i64 f.hrd, .int .i64 f.last, .int .i64 f.lterm, .int .i64 f.ack, .int .i64 f.com, .int .i64 f.prv, .int .i64 f.pterm, u, v] : Array Value).setIfInBounds 0 (.int .i64 f'.snd) = #[.int .i64 f'.snd, .int .i64 f.rnd, .int .i64 f.inc, .int .i64 f.term, .int .i64 f.role, .int .i64 f.vote, .int .i64 f.hrd, .int .i64 f.last, .int .i64 f.lterm, .int .i64 f.ack, .int .i64 f.com, .int .i64 f.prv, .int .i64 f.pterm, u, v] from rfl] at h
 replace h := set_blk h 1 (.int .i64 f'.rnd)
 rw [show (#[.int .i64 f'.snd, .int .i64 f.rnd, .int .i64 f.inc, .int .i64 f.term, .int .i64 f.role, .int .i64 f.vote, .int .i64 f.hrd, .int .i64 f.last, .int .i64 f.lterm, .int .i64 f.ack, .int .i64 f.com, .int .i64 f.prv, .int .i64 f.pterm, u, v] : Array Value).setIfInBounds 1 (.int .i64 f'.rnd) = #[.int .i64 f'.snd, .int .i64 f'.rnd, .int .i64 f.inc, .int .i64 f.term, .int .i64 f.role, .int .i64 f.vote, .int .i64 f.hrd, .int .i64 f.last, .int .i64 f.lterm, .int .i64 f.ack, .int .i64 f.com, .int .i64 f.prv, .int .i64 f.pterm, u, v] from rfl] at h
 replace h := set_blk h 2 (.int .i64 f'.inc)
 rw [show (#[.int .i64 f'.snd, .int .i64 f'.rnd, .int .i64 f.inc, .int .i64 f.term, .int .i64 f.role, .int .i64 f.vote, .int .i64 f.hrd, .int .i64 f.last, .int .i64 f.lterm, .int .i64 f.ack, .int .i64 f.com, .int .i64 f.prv, .int .i64 f.pterm, u, v] : Array Value).setIfInBounds 2 (.int .i64 f'.inc) = #[.int .i64 f'.snd, .int .i64 f'.rnd, .int .i64 f'.inc, .int .i64 f.term, .int .i64 f.role, .int .i64 f.vote, .int .i64 f.hrd, .int .i64 f.last, .int .i64 f.lterm, .int .i64 f.ack, .int .i64 f.com, .int .i64 f.prv, .int .i64 f.pterm, u, v] from rfl] at h
 replace h := set_blk h 3 (.int .i64 f'.term)
 rw [show (#[.int .i64 f'.snd, .int .i64 f'.rnd, .int .i64 f'.inc, .int .i64 f.term, .int .i64 f.role, .int .i64 f.vote, .int .i64 f.hrd, .int .i64 f.last, .int .i64 f.lterm, .int .i64 f.ack, .int .i64 f.com, .int .i64 f.prv, .int .i64 f.pterm, u, v] : Array Value).setIfInBounds 3 (.int .i64 f'.term) = #[.int .i64 f'.snd, .int .i64 f'.rnd, .int .i64 f'.inc, .int .i64 f'.term, .int .i64 f.role, .int .i64 f.vote, .int .i64 f.hrd, .int .i64 f.last, .int .i64 f.lterm, .int .i64 f.ack, .int .i64 f.com, .int .i64 f.prv, .int .i64 f.pterm, u, v] from rfl] at h
 replace h := set_blk h 4 (.int .i64 f'.role)
 rw [show (#[.int .i64 f'.snd, .int .i64 f'.rnd, .int .i64 f'.inc, .int .i64 f'.term, .int .i64 f.role, .int .i64 f.vote, .int .i64 f.hrd, .int .i64 f.last, .int .i64 f.lterm, .int .i64 f.ack, .int .i64 f.com, .int .i64 f.prv, .int .i64 f.pterm, u, v] : Array Value).setIfInBounds 4 (.int .i64 f'.role) = #[.int .i64 f'.snd, .int .i64 f'.rnd, .int .i64 f'.inc, .int .i64 f'.term, .int .i64 f'.role, .int .i64 f.vote, .int .i64 f.hrd, .int .i64 f.last, .int .i64 f.lterm, .int .i64 f.ack, .int .i64 f.com, .int .i64 f.prv, .int .i64 f.pterm, u, v] from rfl] at h
 replace h := set_blk h 5 (.int .i64 f'.vote)
 rw [show (#[.int .i64 f'.snd, .int .i64 f'.rnd, .int .i64 f'.inc, .int .i64 f'.term, .int .i64 f'.role, .int .i64 f.vote, .int .i64 f.hrd, .int .i64 f.last, .int .i64 f.lterm, .int .i64 f.ack, .int .i64 f.com, .int .i64 f.prv, .int .i64 f.pterm, u, v] : Array Value).setIfInBounds 5 (.int .i64 f'.vote) = #[.int .i64 f'.snd, .int .i64 f'.rnd, .int .i64 f'.inc, .int .i64 f'.term, .int .i64 f'.role, .int .i64 f'.vote, .int .i64 f.hrd, .int .i64 f.last, .int .i64 f.lterm, .int .i64 f.ack, .int .i64 f.com, .int .i64 f.prv, .int .i64 f.pterm, u, v] from rfl] at h
 replace h := set_blk h 6 (.int .i64 f'.hrd)
 rw [show (#[.int .i64 f'.snd, .int .i64 f'.rnd, .int .i64 f'.inc, .int .i64 f'.term, .int .i64 f'.role, .int .i64 f'.vote, .int .i64 f.hrd, .int .i64 f.last, .int .i64 f.lterm, .int .i64 f.ack, .int .i64 f.com, .int .i64 f.prv, .int .i64 f.pterm, u, v] : Array Value).setIfInBounds 6 (.int .i64 f'.hrd) = #[.int .i64 f'.snd, .int .i64 f'.rnd, .int .i64 f'.inc, .int .i64 f'.term, .int .i64 f'.role, .int .i64 f'.vote, .int .i64 f'.hrd, .int .i64 f.last, .int .i64 f.lterm, .int .i64 f.ack, .int .i64 f.com, .int .i64 f.prv, .int .i64 f.pterm, u, v] from rfl] at h
 replace h := set_blk h 7 (.int .i64 f'.last)
 rw [show (#[.int .i64 f'.snd, .int .i64 f'.rnd, .int .i64 f'.inc, .int .i64 f'.term, .int .i64 f'.role, .int .i64 f'.vote, .int .i64 f'.hrd, .int .i64 f.last, .int .i64 f.lterm, .int .i64 f.ack, .int .i64 f.com, .int .i64 f.prv, .int .i64 f.pterm, u, v] : Array Value).setIfInBounds 7 (.int .i64 f'.last) = #[.int .i64 f'.snd, .int .i64 f'.rnd, .int .i64 f'.inc, .int .i64 f'.term, .int .i64 f'.role, .int .i64 f'.vote, .int .i64 f'.hrd, .int .i64 f'.last, .int .i64 f.lterm, .int .i64 f.ack, .int .i64 f.com, .int .i64 f.prv, .int .i64 f.pterm, u, v] from rfl] at h
 replace h := set_blk h 8 (.int .i64 f'.lterm)
 rw [show (#[.int .i64 f'.snd, .int .i64 f'.rnd, .int .i64 f'.inc, .int .i64 f'.term, .int .i64 f'.role, .int .i64 f'.vote, .int .i64 f'.hrd, .int .i64 f'.last, .int .i64 f.lterm, .int .i64 f.ack, .int .i64 f.com, .int .i64 f.prv, .int .i64 f.pterm, u, v] : Array Value).setIfInBounds 8 (.int .i64 f'.lterm) = #[.int .i64 f'.snd, .int .i64 f'.rnd, .int .i64 f'.inc, .int .i64 f'.term, .int .i64 f'.role, .int .i64 f'.vote, .int .i64 f'.hrd, .int .i64 f'.last, .int .i64 f'.lterm, .int .i64 f.ack, .int .i64 f.com, .int .i64 f.prv, .int .i64 f.pterm, u, v] from rfl] at h
 replace h := set_blk h 9 (.int .i64 f'.ack)
 rw [show (#[.int .i64 f'.snd, .int .i64 f'.rnd, .int .i64 f'.inc, .int .i64 f'.term, .int .i64 f'.role, .int .i64 f'.vote, .int .i64 f'.hrd, .int .i64 f'.last, .int .i64 f'.lterm, .int .i64 f.ack, .int .i64 f.com, .int .i64 f.prv, .int .i64 f.pterm, u, v] : Array Value).setIfInBounds 9 (.int .i64 f'.ack) = #[.int .i64 f'.snd, .int .i64 f'.rnd, .int .i64 f'.inc, .int .i64 f'.term, .int .i64 f'.role, .int .i64 f'.vote, .int .i64 f'.hrd, .int .i64 f'.last, .int .i64 f'.lterm, .int .i64 f'.ack, .int .i64 f.com, .int .i64 f.prv, .int .i64 f.pterm, u, v] from rfl] at h
 replace h := set_blk h 10 (.int .i64 f'.com)
 rw [show (#[.int .i64 f'.snd, .int .i64 f'.rnd, .int .i64 f'.inc, .int .i64 f'.term, .int .i64 f'.role, .int .i64 f'.vote, .int .i64 f'.hrd, .int .i64 f'.last, .int .i64 f'.lterm, .int .i64 f'.ack, .int .i64 f.com, .int .i64 f.prv, .int .i64 f.pterm, u, v] : Array Value).setIfInBounds 10 (.int .i64 f'.com) = #[.int .i64 f'.snd, .int .i64 f'.rnd, .int .i64 f'.inc, .int .i64 f'.term, .int .i64 f'.role, .int .i64 f'.vote, .int .i64 f'.hrd, .int .i64 f'.last, .int .i64 f'.lterm, .int .i64 f'.ack, .int .i64 f'.com, .int .i64 f.prv, .int .i64 f.pterm, u, v] from rfl] at h
 replace h := set_blk h 11 (.int .i64 f'.prv)
 rw [show (#[.int .i64 f'.snd, .int .i64 f'.rnd, .int .i64 f'.inc, .int .i64 f'.term, .int .i64 f'.role, .int .i64 f'.vote, .int .i64 f'.hrd, .int .i64 f'.last, .int .i64 f'.lterm, .int .i64 f'.ack, .int .i64 f'.com, .int .i64 f.prv, .int .i64 f.pterm, u, v] : Array Value).setIfInBounds 11 (.int .i64 f'.prv) = #[.int .i64 f'.snd, .int .i64 f'.rnd, .int .i64 f'.inc, .int .i64 f'.term, .int .i64 f'.role, .int .i64 f'.vote, .int .i64 f'.hrd, .int .i64 f'.last, .int .i64 f'.lterm, .int .i64 f'.ack, .int .i64 f'.com, .int .i64 f'.prv, .int .i64 f.pterm, u, v] from rfl] at h
 replace h := set_blk h 12 (.int .i64 f'.pterm)
 rw [show (#[.int .i64 f'.snd, .int .i64 f'.rnd, .int .i64 f'.inc, .int .i64 f'.term, .int .i64 f'.role, .int .i64 f'.vote, .int .i64 f'.hrd, .int .i64 f'.last, .int .i64 f'.lterm, .int .i64 f'.ack, .int .i64 f'.com, .int .i64 f'.prv, .int .i64 f.pterm, u, v] : Array Value).setIfInBounds 12 (.int .i64 f'.pterm) = #[.int .i64 f'.snd, .int .i64 f'.rnd, .int .i64 f'.inc, .int .i64 f'.term, .int .i64 f'.role, .int .i64 f'.vote, .int .i64 f'.hrd, .int .i64 f'.last, .int .i64 f'.lterm, .int .i64 f'.ack, .int .i64 f'.com, .int .i64 f'.prv, .int .i64 f'.pterm, u, v] from rfl] at h
 replace h := set_blk h 13 (u')
 rw [show (#[.int .i64 f'.snd, .int .i64 f'.rnd, .int .i64 f'.inc, .int .i64 f'.term, .int .i64 f'.role, .int .i64 f'.vote, .int .i64 f'.hrd, .int .i64 f'.last, .int .i64 f'.lterm, .int .i64 f'.ack, .int .i64 f'.com, .int .i64 f'.prv, .int .i64 f'.pterm, u, v] : Array Value).setIfInBounds 13 (u') = #[.int .i64 f'.snd, .int .i64 f'.rnd, .int .i64 f'.inc, .int .i64 f'.term, .int .i64 f'.role, .int .i64 f'.vote, .int .i64 f'.hrd, .int .i64 f'.last, .int .i64 f'.lterm, .int .i64 f'.ack, .int .i64 f'.com, .int .i64 f'.prv, .int .i64 f'.pterm, u', v] from rfl] at h
 replace h := set_blk h 14 (v')
 rw [show (#[.int .i64 f'.snd, .int .i64 f'.rnd, .int .i64 f'.inc, .int .i64 f'.term, .int .i64 f'.role, .int .i64 f'.vote, .int .i64 f'.hrd, .int .i64 f'.last, .int .i64 f'.lterm, .int .i64 f'.ack, .int .i64 f'.com, .int .i64 f'.prv, .int .i64 f'.pterm, u', v] : Array Value).setIfInBounds 14 (v') = #[.int .i64 f'.snd, .int .i64 f'.rnd, .int .i64 f'.inc, .int .i64 f'.term, .int .i64 f'.role, .int .i64 f'.vote, .int .i64 f'.hrd, .int .i64 f'.last, .int .i64 f'.lterm, .int .i64 f'.ack, .int .i64 f'.com, .int .i64 f'.prv, .int .i64 f'.pterm, u', v'] from rfl] at h
 exact h
theorem putF_below {B : Nat} {a w : World} (h : Below B a w) {b : Nat} (hb : B ≤ b) (f : Fr) (u v : Value) : Below B a (putF w b f u v) := (((((((((((((((h.setCell (p := ⟨b, 0, none⟩) hb _).setCell (p := ⟨b, 1, none⟩) hb _).setCell (p := ⟨b, 2, none⟩) hb _).setCell (p := ⟨b, 3, none⟩) hb _).setCell (p := ⟨b, 4, none⟩) hb _).setCell (p := ⟨b, 5, none⟩) hb _).setCell (p := ⟨b, 6, none⟩) hb _).setCell (p := ⟨b, 7, none⟩) hb _).setCell (p := ⟨b, 8, none⟩) hb _).setCell (p := ⟨b, 9, none⟩) hb _).setCell (p := ⟨b, 10, none⟩) hb _).setCell (p := ⟨b, 11, none⟩) hb _).setCell (p := ⟨b, 12, none⟩) hb _).setCell (p := ⟨b, 13, none⟩) hb _).setCell (p := ⟨b, 14, none⟩) hb _)
theorem putF_far (w : World) {b g : Nat} (h : g ≠ b) (f : Fr) (u v : Value) : (putF w b f u v).heap[g]? = w.heap[g]? := by
 unfold putF
 rw [Below.heap_setCell _ _ _ _ h, Below.heap_setCell _ _ _ _ h, Below.heap_setCell _ _ _ _ h, Below.heap_setCell _ _ _ _ h, Below.heap_setCell _ _ _ _ h, Below.heap_setCell _ _ _ _ h, Below.heap_setCell _ _ _ _ h, Below.heap_setCell _ _ _ _ h, Below.heap_setCell _ _ _ _ h, Below.heap_setCell _ _ _ _ h, Below.heap_setCell _ _ _ _ h, Below.heap_setCell _ _ _ _ h, Below.heap_setCell _ _ _ _ h, Below.heap_setCell _ _ _ _ h, Below.heap_setCell _ _ _ _ h]
theorem putF_size (w : World) (b : Nat) (f : Fr) (u v : Value) : (putF w b f u v).heap.size = w.heap.size := by
 unfold putF
 simp only [World.size_setCell]
theorem frAt_ownF {β : Type} (g : Nat) (f : β → Fr) (u v : Value) : Own (fun s W => FrAt W g (f s) u v) := fun _ _ _ _ h hg hrow => frAt_kept h hg hrow
def HofW (n0 ba g : Nat) (s : ByteArray) (K : Int) (W wv : World) : Prop := ((Boxed wv n0 9 (.string s) ∧ FrAt wv (n0 + 1) zeroFr (.slice none 0 0) (.slice none 0 0)) ∧ Boxed wv ba 3 (.int .i64 K) ∧ PtrBox wv (ba + 1) g) ∧ (Below n0 W wv ∧ KeepsOthers W wv) ∧ ba + 2 ≤ wv.heap.size ∧ n0 ≤ ba
theorem HofW.on {n0 ba g : Nat} {s : ByteArray} {K : Int} {W wv w' : World} (h : HofW n0 ba g s K W wv) (hb : Below wv.heap.size wv w') : HofW n0 ba g s K W w' := by
 obtain ⟨⟨⟨h1, h2⟩, h3, h4⟩, ⟨h5, h6⟩, h7, h8⟩ := h
 exact ⟨⟨⟨(hb.block _ h1.lt).trans h1, h2.on hb⟩, (hb.block _ h3.lt).trans h3, (hb.block _ h4.lt).trans h4⟩, ⟨h5.trans (hb.mono (by omega)), h6.trans (KeepsOthers.of_below hb)⟩, Nat.le_trans h7 hb.size, h8⟩
theorem HofW.set {n0 ba g : Nat} {s : ByteArray} {K : Int} {W wv : World} (h : HofW n0 ba g s K W wv) {b : Nat} (e1 : n0 + 1 < b) (e2 : b < ba) (i : Nat) (v : Value) : HofW n0 ba g s K W (wv.setCell ⟨b, i, none⟩ v) := by
 obtain ⟨⟨⟨h1, h2⟩, h3, h4⟩, ⟨h5, h6⟩, h7, h8⟩ := h
 have far : ∀ k, k ≠ b → (wv.setCell ⟨b, i, none⟩ v).heap[k]? = wv.heap[k]? := fun k hk => Below.heap_setCell _ _ _ _ hk
 exact ⟨⟨⟨(far _ (by omega)).trans h1, (far _ (by omega)).trans h2⟩, (far _ (by omega)).trans h3, (far _ (by omega)).trans h4⟩, ⟨h5.setCell (p := ⟨b, i, none⟩) (by show n0 ≤ b; omega) v, h6.trans (KeepsOthers.setCell _ _ _)⟩, by rw [World.size_setCell]; exact h7, h8⟩
theorem headOf_in (m : Nat) (hm : 4 ≤ m) (s : ByteArray) (h25 : 25 ≤ s.size) (hs : s.size ≤ 1000) (w : World) : CallsIn Fence.wide m Tryz.prog 105 #[.string s] w fun e W' => e = .returned (fv (headD s.data.toList) (.slice none 0 0) (.slice none 0 0)) ∧ Below w.heap.size w W' := by
 have h1 : 1 ≤ m := by omega
 refine callsIn_of_wp_marks Tryz.func105 rfl trivial ?_ rfl
 simp only [Tryz.ntmps105, List.size_toArray, List.length_cons, List.length_nil, Nat.reduceAdd, Nat.reduceSub, Array.replicate_succ, Array.replicate_zero, List.push_toArray, List.append_toArray, List.nil_append, List.cons_append]
 have HIX := hid (fun k (h : k < 10) => run_at s ((4 + 2 * k : Nat) : Int) (4 + 2 * k) rfl (by omega))
 have HIY := hid (fun k (h : k < 10) => run_at s (((4 + 2 * k : Nat) : Int) + 1) (4 + 2 * k + 1) (by omega) (by omega))
 have k1 := run_at s 1 1 rfl (by omega)
 have k2 := run_at s 2 2 rfl (by omega)
 have k3 := run_at s 3 3 rfl (by omega)
 have hH0 : head0 s.data.toList = { zeroFr with snd := ((s.data.toList.getD 1 0).toNat : Int), role := ((s.data.toList.getD 2 0).toNat : Int), vote := ((s.data.toList.getD 3 0).toNat : Int) - 1 } := rfl
 have b1 := (s.data.toList.getD 1 0).toNat_lt
 have b2 := (s.data.toList.getD 2 0).toNat_lt
 have b3 := (s.data.toList.getD 3 0).toNat_lt
 generalize (s.data.toList.getD 1 0).toNat = x1 at *
 generalize (s.data.toList.getD 2 0).toNat = x2 at *
 generalize (s.data.toList.getD 3 0).toNat = x3 at *
 have e1 : IntKind.i64.wrap (x1 : Int) = x1 := IntWalk.i64_in _ (by omega)
 have e2 : IntKind.i64.wrap (x2 : Int) = x2 := IntWalk.i64_in _ (by omega)
 have e3 : IntKind.i64.wrap (x3 : Int) = x3 := IntWalk.i64_in _ (by omega)
 have e4 : IntKind.i64.wrap ((x3 : Int) - 1) = (x3 : Int) - 1 := IntWalk.i64_in _ (by omega)
 gi_wp2_with fail
 have bS := (Boxed.new w 9 (.string s)).alloc (.cells #[.int .i64 0, .int .i64 0, .int .i64 0, .int .i64 0, .int .i64 0, .int .i64 0, .int .i64 0, .int .i64 0, .int .i64 0, .int .i64 0, .int .i64 0, .int .i64 0, .int .i64 0, .slice none 0 0, .slice none 0 0] 29)
 have bR : FrAt _ _ zeroFr _ _ := FrAt.new (w.alloc (.cells #[.string s] 9)) zeroFr (.slice none 0 0) (.slice none 0 0)
 have bB : Below w.heap.size w ((w.alloc (.cells #[.string s] 9)).alloc (.cells #[.int .i64 0, .int .i64 0, .int .i64 0, .int .i64 0, .int .i64 0, .int .i64 0, .int .i64 0, .int .i64 0, .int .i64 0, .int .i64 0, .int .i64 0, .int .i64 0, .int .i64 0, .slice none 0 0, .slice none 0 0] 29)) := Joins.below_alloc2 w _ _
 have hs2 : ((w.alloc (.cells #[.string s] 9)).alloc (.cells #[.int .i64 0, .int .i64 0, .int .i64 0, .int .i64 0, .int .i64 0, .int .i64 0, .int .i64 0, .int .i64 0, .int .i64 0, .int .i64 0, .int .i64 0, .int .i64 0, .int .i64 0, .slice none 0 0, .slice none 0 0] 29)).heap.size = w.heap.size + 2 := by simp
 simp only [World.size_alloc] at bR
 simp only [fc, zeroFr] at bR
 generalize ((w.alloc (.cells #[.string s] 9)).alloc (.cells #[.int .i64 0, .int .i64 0, .int .i64 0, .int .i64 0, .int .i64 0, .int .i64 0, .int .i64 0, .int .i64 0, .int .i64 0, .int .i64 0, .int .i64 0, .int .i64 0, .int .i64 0, .slice none 0 0, .slice none 0 0] 29)) = X2 at *
 have HS := hid bS
 have HR : Hid (FrAt X2 (w.heap.size + 1) zeroFr (.slice none 0 0) (.slice none 0 0)) := hid bR
 have HB := hid bB
 have HZ := hid hs2
 clear bS bR bB hs2
 have hle : w.heap.size + 2 ≤ X2.heap.size := by have := HZ.out; omega
 have HLE := hid hle; clear hle
 have HV : ∃ O : Nat → (Nat → Value) → World → Prop, O = (fun ix u wv => match ix with
  | 0 => u 0 = .string s
  | 1 => u 1 = .int .u8 (x1 : Int)
  | 2 => u 2 = .int .i64 (x1 : Int)
  | 3 => u 3 = .string s
  | 4 => u 4 = .int .u8 (x2 : Int)
  | 5 => u 5 = .int .i64 (x2 : Int)
  | 6 => u 6 = .string s
  | 7 => u 7 = .int .u8 (x3 : Int)
  | 8 => u 8 = .int .i64 (x3 : Int)
  | 9 => u 9 = .int .i64 ((x3 : Int) - 1)
  | 10 => u 10 = .agg #[.int .i64 (x1 : Int), .int .i64 0, .int .i64 0, .int .i64 0, .int .i64 (x2 : Int), .int .i64 ((x3 : Int) - 1), .int .i64 0, .int .i64 0, .int .i64 0, .int .i64 0, .int .i64 0, .int .i64 0, .int .i64 0, .slice none 0 0, .slice none 0 0]
  | 11 => ∃ g, u 11 = .pointer (some ⟨g, 0, none⟩) ∧ w.heap.size + 2 ≤ g ∧ FrAt wv g zeroFr (.slice none 0 0) (.slice none 0 0)
  | 12 => ∃ g, u 11 = .pointer (some ⟨g, 0, none⟩) ∧ w.heap.size + 2 ≤ g ∧ FrAt wv g { zeroFr with snd := (x1 : Int), role := (x2 : Int), vote := (x3 : Int) - 1 } (.slice none 0 0) (.slice none 0 0)
  | _ => True) := ⟨_, rfl⟩
 obtain ⟨O, hd7⟩ := HV
 have O0 : ∀ u wv, O 0 u wv = (u 0 = .string s) := fun _ _ => by subst hd7; rfl
 have O1 : ∀ u wv, O 1 u wv = (u 1 = .int .u8 (x1 : Int)) := fun _ _ => by subst hd7; rfl
 have O2 : ∀ u wv, O 2 u wv = (u 2 = .int .i64 (x1 : Int)) := fun _ _ => by subst hd7; rfl
 have O3 : ∀ u wv, O 3 u wv = (u 3 = .string s) := fun _ _ => by subst hd7; rfl
 have O4 : ∀ u wv, O 4 u wv = (u 4 = .int .u8 (x2 : Int)) := fun _ _ => by subst hd7; rfl
 have O5 : ∀ u wv, O 5 u wv = (u 5 = .int .i64 (x2 : Int)) := fun _ _ => by subst hd7; rfl
 have O6 : ∀ u wv, O 6 u wv = (u 6 = .string s) := fun _ _ => by subst hd7; rfl
 have O7 : ∀ u wv, O 7 u wv = (u 7 = .int .u8 (x3 : Int)) := fun _ _ => by subst hd7; rfl
 have O8 : ∀ u wv, O 8 u wv = (u 8 = .int .i64 (x3 : Int)) := fun _ _ => by subst hd7; rfl
 have O9 : ∀ u wv, O 9 u wv = (u 9 = .int .i64 ((x3 : Int) - 1)) := fun _ _ => by subst hd7; rfl
 have O10 : ∀ u wv, O 10 u wv = (u 10 = .agg #[.int .i64 (x1 : Int), .int .i64 0, .int .i64 0, .int .i64 0, .int .i64 (x2 : Int), .int .i64 ((x3 : Int) - 1), .int .i64 0, .int .i64 0, .int .i64 0, .int .i64 0, .int .i64 0, .int .i64 0, .int .i64 0, .slice none 0 0, .slice none 0 0]) := fun _ _ => by subst hd7; rfl
 have O11 : ∀ u wv, O 11 u wv = (∃ g, u 11 = .pointer (some ⟨g, 0, none⟩) ∧ w.heap.size + 2 ≤ g ∧ FrAt wv g zeroFr (.slice none 0 0) (.slice none 0 0)) := fun _ _ => by subst hd7; rfl
 have O12 : ∀ u wv, O 12 u wv = (∃ g, u 11 = .pointer (some ⟨g, 0, none⟩) ∧ w.heap.size + 2 ≤ g ∧ FrAt wv g { zeroFr with snd := (x1 : Int), role := (x2 : Int), vote := (x3 : Int) - 1 } (.slice none 0 0) (.slice none 0 0)) := fun _ _ => by subst hd7; rfl
 have HVD := hid hd7
 clear hd7
 refine region_phaseIn (hF := fun _ => trivial) (V := O) (drop := fun jx ix => (jx == 12 && ix == 11)) (G := fun L wv => Boxed wv w.heap.size 9 (.string s) ∧ FrAt wv (w.heap.size + 1) zeroFr (.slice none 0 0) (.slice none 0 0) ∧ Below w.heap.size w wv ∧ w.heap.size + 2 ≤ wv.heap.size) (Rel := fun jx wv wv' => jx = 12 ∨ Below wv.heap.size wv wv') (by kernel_rfl) (by kernel_rfl) ⟨((Below.refl _ X2).drew.block _ HS.out.lt).trans HS.out, HR.out.on (Below.refl _ _).drew, HB.out.trans ((Below.refl _ _).drew.mono (Nat.le_trans (Nat.le_add_right _ 2) HLE.out)), HLE.out⟩ ?hmonop1 ?hdepp1 ⟨?s0_p1, ?s1_p1, ?s2_p1, ?s3_p1, ?s4_p1, ?s5_p1, ?s6_p1, ?s7_p1, ?s8_p1, ?s9_p1, ?s10_p1, ?s11_p1, ?s12_p1, trivial⟩ ?behindp1
 case hmonop1 =>
  intro ix jx u wv wv' hij hw hd hr
  rw [HVD.out]
  dsimp only
  split <;> intro h <;> first | exact trivial | exact h | (rcases hr with rfl | hb; (focus first | exact absurd rfl hij | (simp at hd; done) | (exact Bool.noConfusion (hw.symm.trans (show _ = true from by kernel_rfl)))); (first | (obtain ⟨g, e, hg, hm⟩ := h; exact ⟨g, e, hg, hm.on hb⟩)))
 case hdepp1 =>
  intro ix u u' wv h1 h2
  rw [HVD.out]
  dsimp only
  split <;> intro h <;> first | exact trivial | (rw [← h1]; exact h) | (obtain ⟨g, e, h⟩ := h; exact ⟨g, (h2 11 (by kernel_rfl)).symm.trans e, h⟩) | exact h
 case s0_p1 =>
  refine owePIn rfl fun a wx val L hG hi hW hV hN hO K hK => ?_
  have e1 : a.tmps[1]? = some (.pointer (some ⟨w.heap.size, 0, none⟩)) := (hO 1).trans (by rfl)
  clear hV hN hO
  have y0 := hG.1.cell
  go_simp
  exact hK.out _ _ (by rw [O0, upd_at] <;> (congr 1 <;> omega)) (.inr (Below.refl _ _)) (hG)
 case s1_p1 =>
  refine owePIn rfl fun a wx val L hG hi hW hV hN hO K hK => ?_
  have e6 := hN 0 6
  have f6 := hV 0
  rw [O0] at f6; rw [f6] at e6; clear f6
  clear hV hN hO
  go_simp
  exact hK.out _ _ (by rw [O1, upd_at] <;> (congr 1 <;> omega)) (.inr (Below.refl _ _)) (hG)
 case s2_p1 =>
  refine owePIn rfl fun a wx val L hG hi hW hV hN hO K hK => ?_
  have e7 := hN 1 7
  have f7 := hV 1
  rw [O1] at f7; rw [f7] at e7; clear f7
  clear hV hN hO
  go_simp
  exact hK.out _ _ (by rw [O2, upd_at] <;> (congr 1 <;> omega)) (.inr (Below.refl _ _)) (hG)
 case s3_p1 =>
  refine owePIn rfl fun a wx val L hG hi hW hV hN hO K hK => ?_
  have e1 : a.tmps[1]? = some (.pointer (some ⟨w.heap.size, 0, none⟩)) := (hO 1).trans (by rfl)
  clear hV hN hO
  have y0 := hG.1.cell
  go_simp
  exact hK.out _ _ (by rw [O3, upd_at] <;> (congr 1 <;> omega)) (.inr (Below.refl _ _)) (hG)
 case s4_p1 =>
  refine owePIn rfl fun a wx val L hG hi hW hV hN hO K hK => ?_
  have e9 := hN 3 9
  have f9 := hV 3
  rw [O3] at f9; rw [f9] at e9; clear f9
  clear hV hN hO
  go_simp
  exact hK.out _ _ (by rw [O4, upd_at] <;> (congr 1 <;> omega)) (.inr (Below.refl _ _)) (hG)
 case s5_p1 =>
  refine owePIn rfl fun a wx val L hG hi hW hV hN hO K hK => ?_
  have e10 := hN 4 10
  have f10 := hV 4
  rw [O4] at f10; rw [f10] at e10; clear f10
  clear hV hN hO
  go_simp
  exact hK.out _ _ (by rw [O5, upd_at] <;> (congr 1 <;> omega)) (.inr (Below.refl _ _)) (hG)
 case s6_p1 =>
  refine owePIn rfl fun a wx val L hG hi hW hV hN hO K hK => ?_
  have e1 : a.tmps[1]? = some (.pointer (some ⟨w.heap.size, 0, none⟩)) := (hO 1).trans (by rfl)
  clear hV hN hO
  have y0 := hG.1.cell
  go_simp
  exact hK.out _ _ (by rw [O6, upd_at] <;> (congr 1 <;> omega)) (.inr (Below.refl _ _)) (hG)
 case s7_p1 =>
  refine owePIn rfl fun a wx val L hG hi hW hV hN hO K hK => ?_
  have e12 := hN 6 12
  have f12 := hV 6
  rw [O6] at f12; rw [f12] at e12; clear f12
  clear hV hN hO
  go_simp
  exact hK.out _ _ (by rw [O7, upd_at] <;> (congr 1 <;> omega)) (.inr (Below.refl _ _)) (hG)
 case s8_p1 =>
  refine owePIn rfl fun a wx val L hG hi hW hV hN hO K hK => ?_
  have e13 := hN 7 13
  have f13 := hV 7
  rw [O7] at f13; rw [f13] at e13; clear f13
  clear hV hN hO
  go_simp
  exact hK.out _ _ (by rw [O8, upd_at] <;> (congr 1 <;> omega)) (.inr (Below.refl _ _)) (hG)
 case s9_p1 =>
  refine owePIn rfl fun a wx val L hG hi hW hV hN hO K hK => ?_
  have e14 := hN 8 14
  have f14 := hV 8
  rw [O8] at f14; rw [f14] at e14; clear f14
  clear hV hN hO
  go_simp
  exact hK.out _ _ (by rw [O9, upd_at] <;> (congr 1 <;> omega)) (.inr (Below.refl _ _)) (hG)
 case s10_p1 =>
  refine owePIn rfl fun a wx val L hG hi hW hV hN hO K hK => ?_
  have e8 := hN 2 8
  have f8 := hV 2
  rw [O2] at f8; rw [f8] at e8; clear f8
  have e11 := hN 5 11
  have f11 := hV 5
  rw [O5] at f11; rw [f11] at e11; clear f11
  have e15 := hN 9 15
  have f15 := hV 9
  rw [O9] at f15; rw [f15] at e15; clear f15
  clear hV hN hO
  go_simp
  exact hK.out _ _ (by rw [O10, upd_at] <;> (congr 1 <;> omega)) (.inr (Below.refl _ _)) (hG)
 case s11_p1 =>
  refine owePIn rfl fun a wx val L hG hi hW hV hN hO K hK => ?_
  clear hV hN hO
  go_simp
  have hb := Joins.below_alloc1 wx (.cells #[.int .i64 0, .int .i64 0, .int .i64 0, .int .i64 0, .int .i64 0, .int .i64 0, .int .i64 0, .int .i64 0, .int .i64 0, .int .i64 0, .int .i64 0, .int .i64 0, .int .i64 0, .slice none 0 0, .slice none 0 0] 29)
  exact hK.out _ _ (by rw [O11, upd_at]; exact ⟨_, rfl, hG.2.2.2, FrAt.new wx zeroFr _ _⟩) (.inr hb) (⟨(hb.block _ hG.1.lt).trans hG.1, hG.2.1.on hb, hG.2.2.1.trans (hb.mono (Nat.le_trans (Nat.le_add_right _ 2) hG.2.2.2)), Nat.le_trans hG.2.2.2 hb.size⟩)
 case s12_p1 =>
  refine owePIn rfl fun a wx val L hG hi hW hV hN hO K hK => ?_
  have e3 := hN 11 3
  have f3 := hV 11
  rw [O11] at f3; obtain ⟨g, hv, hg9, hmm⟩ := f3; rw [hv] at e3
  have e16 := hN 10 16
  have f16 := hV 10
  rw [O10] at f16; rw [f16] at e16; clear f16
  clear hV hN hO
  obtain ⟨q0, q1, q2, q3, q4, q5, q6, q7, q8, q9, q10, q11, q12, q13, q14⟩ := hmm.cells
  have p := hmm.frozen
  go_simp
  exact hK.out undef (putF wx g { zeroFr with snd := (x1 : Int), role := (x2 : Int), vote := (x3 : Int) - 1 } (.slice none 0 0) (.slice none 0 0)) (by rw [O12, upd_ne _ _ (by decide)]; exact ⟨g, hv, hg9, putF_at hmm _ _ _⟩) (.inl rfl) ⟨(putF_far wx (by omega) _ _ _).trans hG.1, (putF_far wx (by omega) _ _ _).trans hG.2.1, putF_below hG.2.2.1 (by omega) _ _ _, by rw [putF_size]; exact hG.2.2.2⟩
 intro val wx L hG hV
 have f0 := hV 0
 rw [O0] at f0
 have f1 := hV 1
 rw [O1] at f1
 have f2 := hV 2
 rw [O2] at f2
 have f3 := hV 3
 rw [O3] at f3
 have f4 := hV 4
 rw [O4] at f4
 have f5 := hV 5
 rw [O5] at f5
 have f6 := hV 6
 rw [O6] at f6
 have f7 := hV 7
 rw [O7] at f7
 have f8 := hV 8
 rw [O8] at f8
 have f9 := hV 9
 rw [O9] at f9
 have f10 := hV 10
 rw [O10] at f10
 have f12 := hV 12
 rw [O12] at f12
 clear hV O0 O1 O2 O3 O4 O5 O6 O7 O8 O9 O10 O11 O12
 simp only [putAll, Act.put, List.setIfInBounds_toArray, List.set_cons_zero, List.set_cons_succ]
 generalize val 0 = z0, val 1 = z1, val 2 = z2, val 3 = z3, val 4 = z4, val 5 = z5, val 6 = z6, val 7 = z7, val 8 = z8, val 9 = z9, val 10 = z10, val 11 = z11 at *
 subst f0 f1 f2 f3 f4 f5 f6 f7 f8 f9 f10
 clear HVD
 obtain ⟨g, hz, hg9, hF⟩ := f12
 subst hz
 rw [← hH0] at hF
 have hSB := hG.1
 have hR1 := hG.2.1
 have hB1 := hG.2.2.1
 have hs1 := hG.2.2.2
 clear hG HS HR HB HZ HLE hH0 k1 k2 k3 b1 b2 b3 e1 e2 e3 e4
 gi_wp2_with fail
 refine ⟨trivial, (numbers_in (m - 1) _ _).mono ?_⟩
 rintro e w' ⟨rfl, rfl⟩
 gi_wp2_with fail
 have hgl : g < wx.heap.size := (Array.getElem?_eq_some_iff.1 hF).1
 have bA := (Boxed.new wx 3 (.int .i64 4)).alloc (.cells #[.pointer (some ⟨g, 0, none⟩)] 126)
 have bP : PtrBox _ _ _ := Boxed.new (wx.alloc (.cells #[.int .i64 4] 3)) 126 (.pointer (some ⟨g, 0, none⟩))
 have b2 := Joins.below_alloc2 wx (.cells #[.int .i64 4] 3) (.cells #[.pointer (some ⟨g, 0, none⟩)] 126)
 have cS : Boxed _ w.heap.size 9 (.string s) := (b2.block _ hSB.lt).trans hSB
 have cR := hR1.on b2
 have cF := hF.on b2
 have cB := hB1.trans (b2.mono (by omega))
 have hs4 : ((wx.alloc (.cells #[.int .i64 4] 3)).alloc (.cells #[.pointer (some ⟨g, 0, none⟩)] 126)).heap.size = wx.heap.size + 2 := by simp
 simp only [World.size_alloc] at bP
 generalize (wx.alloc (.cells #[.int .i64 4] 3)).alloc (.cells #[.pointer (some ⟨g, 0, none⟩)] 126) = X4 at *
 generalize wx.heap.size = ba at *
 clear hSB hR1 hF hB1 b2
 have hI : OwnFrom X4.heap.size (fun (pre : List (Fin 10)) W => ((Boxed W w.heap.size 9 (.string s) ∧ FrAt W (w.heap.size + 1) zeroFr (.slice none 0 0) (.slice none 0 0)) ∧ Boxed W ba 3 (.int .i64 ((4 + 2 * pre.length : Nat) : Int)) ∧ PtrBox W (ba + 1) g) ∧ (FrAt W g (putN s.data.toList pre (head0 s.data.toList) 0) (.slice none 0 0) (.slice none 0 0) ∧ Below w.heap.size w W) ∧ ba + 2 ≤ W.heap.size) :=
  OwnFrom.and (OwnFrom.and (OwnFrom.and (Own.from (boxed_own _ _ (fun _ => .string s)) _) (Own.from (frAt_own _ _ _ _) _)) (OwnFrom.and (Own.from (boxed_own _ _ (fun pre : List (Fin 10) => .int .i64 ((4 + 2 * pre.length : Nat) : Int))) _) (Own.from (boxed_own _ _ (fun _ => .pointer (some ⟨g, 0, none⟩))) _))) (OwnFrom.and (OwnFrom.and (Own.from (frAt_ownF g (fun pre => putN s.data.toList pre (head0 s.data.toList) 0) _ _) _) (ownFrom_below (Nat.le_refl _) (by omega))) (fun s A B row hs hg hr => Nat.le_trans hs hg.size))
 refine wpIn_rangeFunc_ownG rfl h1 (gf := 126) (lb := #[.pointer (some ⟨ba + 1, 0, none⟩)]) rfl trivial (enters_of Tryz.func126 (by kernel_rfl) rfl)
  (nums_stop (m - 1) (by omega) (ba + 1) g _ bP) Keeps.trans (Keeps.past (by omega)) (Below.refl _ _) (fun _ => rfl)
  (fun pre W => ((Boxed W w.heap.size 9 (.string s) ∧ FrAt W (w.heap.size + 1) zeroFr (.slice none 0 0) (.slice none 0 0)) ∧ Boxed W ba 3 (.int .i64 ((4 + 2 * pre.length : Nat) : Int)) ∧ PtrBox W (ba + 1) g) ∧ (FrAt W g (putN s.data.toList pre (head0 s.data.toList) 0) (.slice none 0 0) (.slice none 0 0) ∧ Below w.heap.size w W) ∧ ba + 2 ≤ W.heap.size)
  (fun _ _ _ => False) hI (fun _ _ _ _ _ hs _ _ => hs)
  ⟨⟨⟨cS, cR⟩, bA, bP⟩, ⟨cF, cB⟩, by omega⟩
  ?a1 ?assign ?body ?done ?stop
 case assign =>
  intro l x W K hK
  gi_wp2
  exact hK
 case body =>
  rintro r pre x W ⟨⟨⟨hS, hR⟩, hA, hP⟩, ⟨hF, hB⟩, hW⟩ hlt
  have i1 := HIX.out pre.length hlt
  have i2 := HIY.out pre.length hlt
  have hSN : Hid (putN s.data.toList (pre ++ [x]) (head0 s.data.toList) 0 = setN (putN s.data.toList pre (head0 s.data.toList) 0) x (((s.data.toList.getD (4 + 2 * pre.length) 0).toNat : Int) * 256 + ((s.data.toList.getD (4 + 2 * pre.length + 1) 0).toNat : Int))) := hid (by
   rw [putN_snoc, Nat.zero_add]
   congr 1
   show 256 * _ + _ = _ * 256 + _
   omega)
  have b1 := (s.data.toList.getD (4 + 2 * pre.length) 0).toNat_lt
  have b2 := (s.data.toList.getD (4 + 2 * pre.length + 1) 0).toNat_lt
  generalize (s.data.toList.getD (4 + 2 * pre.length) 0).toNat = x1 at *
  generalize (s.data.toList.getD (4 + 2 * pre.length + 1) 0).toNat = x2 at *
  have hor := shl_or x1 x2 b1 b2
  have e1 : IntKind.i64.wrap (x1 : Int) = x1 := IntWalk.i64_in _ (by omega)
  have e2 : IntKind.i64.wrap (x2 : Int) = x2 := IntWalk.i64_in _ (by omega)
  have e3 : IntKind.i64.wrap ((x1 : Int) * 256) = (x1 : Int) * 256 := IntWalk.i64_in _ (by omega)
  have HLN : Hid (((4 + 2 * (pre ++ [x]).length : Nat) : Int) = ((4 + 2 * pre.length : Nat) : Int) + 2) := hid (by simp; omega)
  have hK0 : (0 : Int) ≤ ((4 + 2 * pre.length : Nat) : Int) ∧ ((4 + 2 * pre.length : Nat) : Int) ≤ 30 := by omega
  generalize ((4 + 2 * pre.length : Nat) : Int) = K at *
  have e4 : IntKind.i64.wrap (K + 1) = K + 1 := IntWalk.i64_in _ (by omega)
  have e5 : IntKind.i64.wrap (K + 2) = K + 2 := IntWalk.i64_in _ (by omega)
  generalize putN s.data.toList pre (head0 s.data.toList) 0 = f0 at *
  have HHW : Hid (HofW w.heap.size ba g s K W W) := hid ⟨⟨⟨hS, hR⟩, hA, hP⟩, ⟨Below.refl _ _, KeepsOthers.refl _⟩, hW, by omega⟩
  have HF := hid hF
  have HP := hid hP
  have HB := hid hB
  have HI1 := hid i1
  have HI2 := hid i2
  have HOR := hid hor
  have HE := hid (And.intro e1 (And.intro e2 (And.intro e3 (And.intro e4 e5))))
  have HSET : Hid (∀ wv v, FrAt wv g f0 (.slice none 0 0) (.slice none 0 0) → FrAt (wv.setCell ⟨g, fldN x, none⟩ (.int .i64 v)) g (setN f0 x v) (.slice none 0 0) (.slice none 0 0)) := hid (fun wv v h => h.setN x v)
  have HCEL : Hid (∀ wv, FrAt wv g f0 (.slice none 0 0) (.slice none 0 0) → ∃ v, wv.cell? ⟨g, fldN x, none⟩ = some v) := hid (fun wv h => ⟨_, h.num x⟩)
  clear hS hR hA hP hF hB hlt i1 i2 hor e1 e2 e3 e4 e5 hI HIX HIY b1 b2
  generalize fldN x = q at *
  gi_wp2_with fail
  have HV : ∃ O : Nat → (Nat → Value) → World → Prop, O = (fun ix u wv => match ix with
   | 0 => u 0 = .pointer (some ⟨g, q, none⟩)
   | 1 => u 1 = .string s
   | 2 => u 2 = .int .i64 K
   | 3 => u 3 = .int .u8 (x1 : Int)
   | 4 => u 4 = .int .i64 (x1 : Int)
   | 5 => u 5 = .int .i64 ((x1 : Int) * 256)
   | 6 => u 6 = .string s
   | 7 => u 7 = .int .i64 K
   | 8 => u 8 = .int .i64 (K + 1)
   | 9 => u 9 = .int .u8 (x2 : Int)
   | 10 => u 10 = .int .i64 (x2 : Int)
   | 11 => u 11 = .int .i64 ((x1 : Int) * 256 + (x2 : Int))
   | 12 => u 12 = .pointer (some ⟨g, q, none⟩)
   | 13 => FrAt wv g (setN f0 x ((x1 : Int) * 256 + (x2 : Int))) (.slice none 0 0) (.slice none 0 0)
   | _ => True) := ⟨_, rfl⟩
  obtain ⟨O, hd7⟩ := HV
  have O0 : ∀ u wv, O 0 u wv = (u 0 = .pointer (some ⟨g, q, none⟩)) := fun _ _ => by subst hd7; rfl
  have O1 : ∀ u wv, O 1 u wv = (u 1 = .string s) := fun _ _ => by subst hd7; rfl
  have O2 : ∀ u wv, O 2 u wv = (u 2 = .int .i64 K) := fun _ _ => by subst hd7; rfl
  have O3 : ∀ u wv, O 3 u wv = (u 3 = .int .u8 (x1 : Int)) := fun _ _ => by subst hd7; rfl
  have O4 : ∀ u wv, O 4 u wv = (u 4 = .int .i64 (x1 : Int)) := fun _ _ => by subst hd7; rfl
  have O5 : ∀ u wv, O 5 u wv = (u 5 = .int .i64 ((x1 : Int) * 256)) := fun _ _ => by subst hd7; rfl
  have O6 : ∀ u wv, O 6 u wv = (u 6 = .string s) := fun _ _ => by subst hd7; rfl
  have O7 : ∀ u wv, O 7 u wv = (u 7 = .int .i64 K) := fun _ _ => by subst hd7; rfl
  have O8 : ∀ u wv, O 8 u wv = (u 8 = .int .i64 (K + 1)) := fun _ _ => by subst hd7; rfl
  have O9 : ∀ u wv, O 9 u wv = (u 9 = .int .u8 (x2 : Int)) := fun _ _ => by subst hd7; rfl
  have O10 : ∀ u wv, O 10 u wv = (u 10 = .int .i64 (x2 : Int)) := fun _ _ => by subst hd7; rfl
  have O11 : ∀ u wv, O 11 u wv = (u 11 = .int .i64 ((x1 : Int) * 256 + (x2 : Int))) := fun _ _ => by subst hd7; rfl
  have O12 : ∀ u wv, O 12 u wv = (u 12 = .pointer (some ⟨g, q, none⟩)) := fun _ _ => by subst hd7; rfl
  have O13 : ∀ u wv, O 13 u wv = (FrAt wv g (setN f0 x ((x1 : Int) * 256 + (x2 : Int))) (.slice none 0 0) (.slice none 0 0)) := fun _ _ => by subst hd7; rfl
  have HVD := hid hd7
  clear hd7
  refine region_phaseIn (hF := fun _ => trivial) (V := O) (drop := fun _ _ => false) (G := fun L wv => (L 13 = false → FrAt wv g f0 (.slice none 0 0) (.slice none 0 0)) ∧ HofW w.heap.size ba g s K W wv) (Rel := fun jx wv wv' => jx = 13 ∨ Below wv.heap.size wv wv') (by kernel_rfl) (by kernel_rfl) ⟨fun _ => HF.out.on (Below.refl _ _).drew, HHW.out.on (Below.refl _ _).drew⟩ ?hmonop2 ?hdepp2 ⟨?s0_p2, ?s1_p2, ?s2_p2, ?s3_p2, ?s4_p2, ?s5_p2, ?s6_p2, ?s7_p2, ?s8_p2, ?s9_p2, ?s10_p2, ?s11_p2, ?s12_p2, ?s13_p2, trivial⟩ ?behindp2
  case hmonop2 =>
   intro ix jx u wv wv' hij hw hd hr
   rw [HVD.out]
   dsimp only
   split <;> intro h <;> first | exact trivial | exact h | (rcases hr with rfl | hb; (focus first | exact absurd rfl hij | (simp at hd; done) | (exact Bool.noConfusion (hw.symm.trans (show _ = true from by kernel_rfl)))); (first | (exact h.on hb)))
  case hdepp2 =>
   intro ix u u' wv h1 h2
   rw [HVD.out]
   dsimp only
   split <;> intro h <;> first | exact trivial | (rw [← h1]; exact h) | exact h
  case s0_p2 =>
   refine owePIn rfl fun a wx val L hG hi hW hV hN hO K hK => ?_
   have e5 : a.tmps[5]? = some (.pointer (some ⟨g, q, none⟩)) := (hO 5).trans (by rfl)
   clear hV hN hO
   go_simp
   exact hK.out _ _ (by rw [O0, upd_at] <;> (congr 1 <;> omega)) (.inr (Below.refl _ _)) (⟨fun h => hG.1 (upL_false h), hG.2⟩)
  case s1_p2 =>
   refine owePIn rfl fun a wx val L hG hi hW hV hN hO K hK => ?_
   have e1 : a.tmps[1]? = some (.pointer (some ⟨w.heap.size, 0, none⟩)) := (hO 1).trans (by rfl)
   clear hV hN hO
   have y0 := hG.2.1.1.1.cell
   have y1 := hG.2.1.2.1.cell
   go_simp
   exact hK.out _ _ (by rw [O1, upd_at] <;> (congr 1 <;> omega)) (.inr (Below.refl _ _)) (⟨fun h => hG.1 (upL_false h), hG.2⟩)
  case s2_p2 =>
   refine owePIn rfl fun a wx val L hG hi hW hV hN hO K hK => ?_
   have e4 : a.tmps[4]? = some (.pointer (some ⟨ba, 0, none⟩)) := (hO 4).trans (by rfl)
   clear hV hN hO
   have y0 := hG.2.1.1.1.cell
   have y1 := hG.2.1.2.1.cell
   go_simp
   exact hK.out _ _ (by rw [O2, upd_at] <;> (congr 1 <;> omega)) (.inr (Below.refl _ _)) (⟨fun h => hG.1 (upL_false h), hG.2⟩)
  case s3_p2 =>
   refine owePIn rfl fun a wx val L hG hi hW hV hN hO K hK => ?_
   have e20 := hN 1 20
   have f20 := hV 1
   rw [O1] at f20; rw [f20] at e20; clear f20
   have e21 := hN 2 21
   have f21 := hV 2
   rw [O2] at f21; rw [f21] at e21; clear f21
   clear hV hN hO
   have i1 := HI1.out
   go_simp
   exact hK.out _ _ (by rw [O3, upd_at] <;> (congr 1 <;> omega)) (.inr (Below.refl _ _)) (⟨fun h => hG.1 (upL_false h), hG.2⟩)
  case s4_p2 =>
   refine owePIn rfl fun a wx val L hG hi hW hV hN hO K hK => ?_
   have e22 := hN 3 22
   have f22 := hV 3
   rw [O3] at f22; rw [f22] at e22; clear f22
   clear hV hN hO
   obtain ⟨e1, e2, e3, e4, e5⟩ := HE.out
   go_simp
   exact hK.out _ _ (by rw [O4, upd_at] <;> (congr 1 <;> omega)) (.inr (Below.refl _ _)) (⟨fun h => hG.1 (upL_false h), hG.2⟩)
  case s5_p2 =>
   refine owePIn rfl fun a wx val L hG hi hW hV hN hO K hK => ?_
   have e23 := hN 4 23
   have f23 := hV 4
   rw [O4] at f23; rw [f23] at e23; clear f23
   clear hV hN hO
   obtain ⟨e1, e2, e3, e4, e5⟩ := HE.out
   go_simp
   exact hK.out _ _ (by rw [O5, upd_at] <;> (congr 1 <;> omega)) (.inr (Below.refl _ _)) (⟨fun h => hG.1 (upL_false h), hG.2⟩)
  case s6_p2 =>
   refine owePIn rfl fun a wx val L hG hi hW hV hN hO K hK => ?_
   have e1 : a.tmps[1]? = some (.pointer (some ⟨w.heap.size, 0, none⟩)) := (hO 1).trans (by rfl)
   clear hV hN hO
   have y0 := hG.2.1.1.1.cell
   have y1 := hG.2.1.2.1.cell
   go_simp
   exact hK.out _ _ (by rw [O6, upd_at] <;> (congr 1 <;> omega)) (.inr (Below.refl _ _)) (⟨fun h => hG.1 (upL_false h), hG.2⟩)
  case s7_p2 =>
   refine owePIn rfl fun a wx val L hG hi hW hV hN hO K hK => ?_
   have e4 : a.tmps[4]? = some (.pointer (some ⟨ba, 0, none⟩)) := (hO 4).trans (by rfl)
   clear hV hN hO
   have y0 := hG.2.1.1.1.cell
   have y1 := hG.2.1.2.1.cell
   go_simp
   exact hK.out _ _ (by rw [O7, upd_at] <;> (congr 1 <;> omega)) (.inr (Below.refl _ _)) (⟨fun h => hG.1 (upL_false h), hG.2⟩)
  case s8_p2 =>
   refine owePIn rfl fun a wx val L hG hi hW hV hN hO K hK => ?_
   have e26 := hN 7 26
   have f26 := hV 7
   rw [O7] at f26; rw [f26] at e26; clear f26
   clear hV hN hO
   obtain ⟨e1, e2, e3, e4, e5⟩ := HE.out
   go_simp
   exact hK.out _ _ (by rw [O8, upd_at] <;> (congr 1 <;> omega)) (.inr (Below.refl _ _)) (⟨fun h => hG.1 (upL_false h), hG.2⟩)
  case s9_p2 =>
   refine owePIn rfl fun a wx val L hG hi hW hV hN hO K hK => ?_
   have e25 := hN 6 25
   have f25 := hV 6
   rw [O6] at f25; rw [f25] at e25; clear f25
   have e27 := hN 8 27
   have f27 := hV 8
   rw [O8] at f27; rw [f27] at e27; clear f27
   clear hV hN hO
   have i2 := HI2.out
   go_simp
   exact hK.out _ _ (by rw [O9, upd_at] <;> (congr 1 <;> omega)) (.inr (Below.refl _ _)) (⟨fun h => hG.1 (upL_false h), hG.2⟩)
  case s10_p2 =>
   refine owePIn rfl fun a wx val L hG hi hW hV hN hO K hK => ?_
   have e28 := hN 9 28
   have f28 := hV 9
   rw [O9] at f28; rw [f28] at e28; clear f28
   clear hV hN hO
   obtain ⟨e1, e2, e3, e4, e5⟩ := HE.out
   go_simp
   exact hK.out _ _ (by rw [O10, upd_at] <;> (congr 1 <;> omega)) (.inr (Below.refl _ _)) (⟨fun h => hG.1 (upL_false h), hG.2⟩)
  case s11_p2 =>
   refine owePIn rfl fun a wx val L hG hi hW hV hN hO K hK => ?_
   have e24 := hN 5 24
   have f24 := hV 5
   rw [O5] at f24; rw [f24] at e24; clear f24
   have e29 := hN 10 29
   have f29 := hV 10
   rw [O10] at f29; rw [f29] at e29; clear f29
   clear hV hN hO
   have hor := HOR.out
   go_simp
   exact hK.out _ _ (by rw [O11, upd_at] <;> (congr 1 <;> omega)) (.inr (Below.refl _ _)) (⟨fun h => hG.1 (upL_false h), hG.2⟩)
  case s12_p2 =>
   refine owePIn rfl fun a wx val L hG hi hW hV hN hO K hK => ?_
   have e19 := hN 0 19
   have f19 := hV 0
   rw [O0] at f19; rw [f19] at e19; clear f19
   clear hV hN hO
   go_simp
   exact hK.out _ _ (by rw [O12, upd_at] <;> (congr 1 <;> omega)) (.inr (Below.refl _ _)) (⟨fun h => hG.1 (upL_false h), hG.2⟩)
  case s13_p2 =>
   refine owePIn rfl fun a wx val L hG hi hW hV hN hO K hK => ?_
   have e31 := hN 12 31
   have f31 := hV 12
   rw [O12] at f31; rw [f31] at e31; clear f31
   have e30 := hN 11 30
   have f30 := hV 11
   rw [O11] at f30; rw [f30] at e30; clear f30
   clear hV hN hO
   have hFv := hG.1 hi
   obtain ⟨cv, y2⟩ := HCEL.out _ hFv
   have hf := hFv.frozen q
   go_simp
   exact hK.out undef (wx.setCell ⟨g, q, none⟩ (.int .i64 ((x1 : Int) * 256 + (x2 : Int)))) (by rw [O13]; exact HSET.out _ _ hFv) (.inl rfl) ⟨fun h => (upL_self h).elim, hG.2.set (by omega) (by omega) _ _⟩
  intro val wx L hG hV
  have f0 := hV 0
  rw [O0] at f0
  have f1 := hV 1
  rw [O1] at f1
  have f2 := hV 2
  rw [O2] at f2
  have f3 := hV 3
  rw [O3] at f3
  have f4 := hV 4
  rw [O4] at f4
  have f5 := hV 5
  rw [O5] at f5
  have f6 := hV 6
  rw [O6] at f6
  have f7 := hV 7
  rw [O7] at f7
  have f8 := hV 8
  rw [O8] at f8
  have f9 := hV 9
  rw [O9] at f9
  have f10 := hV 10
  rw [O10] at f10
  have f11 := hV 11
  rw [O11] at f11
  have f12 := hV 12
  rw [O12] at f12
  have f13 := hV 13
  rw [O13] at f13
  clear hV O0 O1 O2 O3 O4 O5 O6 O7 O8 O9 O10 O11 O12 O13
  simp only [putAll, Act.put, List.setIfInBounds_toArray, List.set_cons_zero, List.set_cons_succ]
  generalize val 0 = z0, val 1 = z1, val 2 = z2, val 3 = z3, val 4 = z4, val 5 = z5, val 6 = z6, val 7 = z7, val 8 = z8, val 9 = z9, val 10 = z10, val 11 = z11, val 12 = z12 at *
  subst f0 f1 f2 f3 f4 f5 f6 f7 f8 f9 f10 f11 f12
  clear HVD
  obtain ⟨⟨⟨hS, hR⟩, hA, hP⟩, ⟨hB2, hK2⟩, hW2, -⟩ := hG.2
  have y1 := hA.cell
  have yf := hA.frozen
  obtain ⟨-, -, -, -, e5⟩ := HE.out
  gi_wp2_with fail
  have far : ∀ k, k ≠ ba → (wx.setCell ⟨ba, 0, none⟩ (.int .i64 (K + 2))).heap[k]? = wx.heap[k]? := fun k hk => Below.heap_setCell _ _ _ _ hk
  exact ⟨(hK2.trans (KeepsOthers.setCell _ _ _)).from _, ((far _ (by omega)).trans hP).trans HP.out.symm, ⟨⟨(far _ (by omega)).trans hS, (far _ (by omega)).trans hR⟩, by rw [HLN.out]; exact hA.set _, (far _ (by omega)).trans hP⟩, ⟨by rw [hSN.out]; exact (far _ (by omega)).trans f13, (HB.out.trans hB2).setCell (p := ⟨ba, 0, none⟩) (by show w.heap.size ≤ ba; omega) _⟩, by rw [World.size_setCell]; exact hW2⟩
 case done =>
  rintro D ys W hD rfl ⟨⟨⟨hS, hR⟩, hA, hP⟩, ⟨hF, hB⟩, hW⟩ hK
  rw [putN_all] at hF
  clear hI HIX HIY
  obtain ⟨y0, y1, y2, y3, y4, y5, y6, y7, y8, y9, y10, y11, y12, y13, y14⟩ := hF.cells
  obtain ⟨z0, z1, z2, z3, z4, z5, z6, z7, z8, z9, z10, z11, z12, z13, z14⟩ := hR.cells
  have zf := hR.frozen
  have hp := putF_at hR (headD s.data.toList) (.slice none 0 0) (.slice none 0 0)
  have hbz := putF_below hB (b := w.heap.size + 1) (by omega) (headD s.data.toList) (.slice none 0 0) (.slice none 0 0)
  have hK2 := (putF_far W (b := w.heap.size + 1) (g := D) (by omega) (headD s.data.toList) (.slice none 0 0) (.slice none 0 0)).trans hK
  have HPZ := hid hp
  have HBZ := hid hbz
  have HKZ := hid hK2
  clear hp hbz hK2
  gi_wp2_with fail
  obtain ⟨V, hV⟩ : ∃ V, V = putF W (w.heap.size + 1) (headD s.data.toList) (.slice none 0 0) (.slice none 0 0) := ⟨_, rfl⟩
  have hpz := HPZ.out
  have hbz := HBZ.out
  have hkz := HKZ.out
  rw [← hV] at hpz hbz hkz
  unfold putF at hV
  simp only [← hV]
  clear hV HPZ HBZ HKZ y0 y1 y2 y3 y4 y5 y6 y7 y8 y9 y10 y11 y12 y13 y14 z0 z1 z2 z3 z4 z5 z6 z7 z8 z9 z10 z11 z12 z13 z14 zf
  refine ⟨by simp, .inl ⟨_, _, rfl, run_takeDeferred hkz, ?_⟩⟩
  have hpz2 : FrAt (V.putObj D (.deferred none)) (w.heap.size + 1) (headD s.data.toList) (.slice none 0 0) (.slice none 0 0) := ((grownBy_putObj' V D (.deferred none)).block _ (Array.getElem?_eq_some_iff.1 hpz).1 (fun e => by have := Option.some.inj e; omega)).trans hpz
  obtain ⟨r0, r1, r2, r3, r4, r5, r6, r7, r8, r9, r10, r11, r12, r13, r14⟩ := hpz2.cells
  refine ⟨fv (headD s.data.toList) (.slice none 0 0) (.slice none 0 0), by simp [results, Tryz.f105, go_sem, r0, r1, r2, r3, r4, r5, r6, r7, r8, r9, r10, r11, r12, r13, r14], rfl, hbz.trans (belowK_b (w := w) (Nat.le_refl _) V D _ _ (by omega) hkz rfl rfl)⟩
 case stop =>
  rintro D c pre W _ _ h _
  exact h.elim
end Go.Proofs.YtmmbnjkdknnidaaGreatDoor

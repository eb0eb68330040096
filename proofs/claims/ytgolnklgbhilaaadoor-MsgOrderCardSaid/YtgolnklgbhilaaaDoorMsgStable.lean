/-
  sort.SliceStable of messages.
-/
import Derived.Test.YtgolnklgbhilaaaDoorMsgInsert
namespace Go.Proofs.YtgolnklgbhilaaaDoor
open Go.RowKit Go.Lib

set_option maxRecDepth 100000 in
set_option maxHeartbeats 1000000 in
/-- No element, or one: nothing is asked of 'less' or of 'swap'. -/
theorem insert_tiny (a0 a1 : Value) (n : Nat) (hn : n ≤ 1) (W : World) :
    Calls Tryd.prog 72 #[.agg #[a0, a1], .int .i64 0, .int .i64 (n : Int)] W fun e w' => e = .returned (.tuple #[]) ∧ Below W.heap.size W w' := by
  have hb := Lib.hid (Joins.below_alloc1 W (.cells #[a0, a1] 98))
  have hnI : ¬ (1 : Int) < (n : Int) := by omega
  go_enter Tryd.func72, Tryd.ntmps72
  go_wp2_with fail
  refine wp_loop_rounds 1 ?_
  rw [rounds_succ]
  go_wp2_with fail
  go_end0
  exact ⟨rfl, hb.out⟩
set_option maxRecDepth 100000 in
set_option maxHeartbeats 1000000 in
theorem stable_tiny (a0 a1 : Value) (n : Nat) (hn : n ≤ 1) (W : World) :
    Calls Tryd.prog 57 #[.agg #[a0, a1], .int .i64 (n : Int)] W fun e w' => e = .returned (.tuple #[]) ∧ Below W.heap.size W w' := by
  have hb := Lib.hid (Joins.below_alloc1 W (.cells #[a0, a1] 98))
  have hc := insert_tiny a0 a1 n hn (W.alloc (.cells #[a0, a1] 98))
  have hnI : (n : Int) < 20 := by omega
  go_enter Tryd.func57, Tryd.ntmps57
  go_wp2_with fail
  refine wp_loop_rounds 1 ?_
  rw [rounds_succ]
  go_wp2_with fail
  refine hc.mono ?_
  rintro e w1 ⟨rfl, h1⟩
  go_wp2_with fail
  refine wp_loop_rounds 1 ?_
  rw [rounds_succ]
  go_wp2_with fail
  go_end0
  exact ⟨rfl, below_trans hb.out h1⟩

set_option maxRecDepth 100000 in
set_option maxHeartbeats 2000000 in
/-- sort.SliceStable, over what stable_func does. -/
theorem sliceStable_of (p : Option Addr) (n c : Nat) (ie : TypeInfo) (hie : Tryd.prog.info? 25 = some ie) (f : Nat) (hf : Tryd.prog.funcs.findIdx? (·.name == "internal/reflectlite" ++ ".Swapper$" ++ toString (swapperK n ie 25)) = some f) (lg : Nat) (lb : Array Value) (w : World) (R : World → Prop)
    (hp : ∀ G : Nat, Calls Tryd.prog 57 #[.agg #[.func (.func lg) #[] lb, .func (.func f) #[] (if swapperK n ie 25 ≤ 2 then #[] else #[.slice p n c, typeHandle Tryd.prog 25])], .int .i64 (n : Int)] ((w.alloc (.cells #[.slice p n c] 40)).alloc (.cells #[.pointer (some ⟨G, 40, none⟩), .pointer (some ⟨w.heap.size, 0, none⟩), .int .u64 151] 92)) fun e w' => e = .returned (.tuple #[]) ∧ R w') :
    Calls Tryd.prog 39 #[.iface 40 (.slice p n c), .func (.func lg) #[] lb] w fun e w' => e = .returned (.tuple #[]) ∧ R w' := by
  obtain ⟨i, hi, hd⟩ : ∃ i, Tryd.prog.info? 40 = some i ∧ i.desc = .slice 25 := by
    have h : (Tryd.prog.info? 40).map (·.desc) = some (.slice 25) := by kernel_rfl
    obtain ⟨i, h1, h2⟩ := Option.map_eq_some_iff.1 h
    exact ⟨i, h1, h2⟩
  have hpk : Tryd.prog.packed 40 = false := by kernel_rfl
  have hke : ∀ w, (Extern.Rtype.kind 25).run Tryd.prog w = .ok 25 w := fun _ => by kernel_rfl
  have hv := run_valueOf_slice (P := Tryd.prog) 40 25 i hi hd p n c w
  have hs := fun w => run_swapper_slice (P := Tryd.prog) 40 25 i ie hi hd hie 25 hke p n c f hf w
  have hl := fun a w ha => run_valueLen_slice (P := Tryd.prog) 40 25 i hi hd hpk a p n c w ha
  generalize (if swapperK n ie 25 ≤ 2 then (#[] : Array Value) else #[.slice p n c, typeHandle Tryd.prog 25]) = Bd at hs hp
  have hp := hp Tryd.prog.globals.size
  simp only [typeHandle] at hv hl
  generalize Tryd.prog.globals.size = G at hv hl hp
  clear hf hie hi hd hpk hke
  go_enter Tryd.func39, Tryd.ntmps39
  go_wp2_with fail
  rw [run_callFunc_extern Tryd.func55 (by kernel_rfl) (by kernel_rfl) (by kernel_rfl) (e := fun args => Extern.ReflectliteValue.unpack (args.getD 0 (.tuple #[]))) (by kernel_rfl),
    show Sem.run Tryd.prog ((fun args : Array Value => Extern.ReflectliteValue.unpack (args.getD 0 (.tuple #[]))) #[.iface 40 (.slice p n c)]) w = _ from hv]
  simp only [Result.andThen]
  rw [Oper.upon_value]
  go_wp2_with fail
  rw [run_callFunc_extern Tryd.func56 (by kernel_rfl) (by kernel_rfl) (by kernel_rfl) (e := Extern.ReflectliteSwapper.swapper "internal/reflectlite" (Extern.ReflectliteValue.valueError "Swapper")) (by kernel_rfl), hs]
  simp only [Result.andThen]
  rw [Oper.upon_value]
  go_wp2_with fail
  rw [run_callFunc_extern Tryd.func58 (by kernel_rfl) (by kernel_rfl) (by kernel_rfl) (e := Extern.ReflectliteValue.method (Extern.ReflectliteValue.valueError "reflectlite.Value.Len" 0) Extern.ReflectliteValue.len) (by kernel_rfl),
    hl _ _ (by simp)]
  simp only [Result.andThen]
  rw [Oper.upon_value]
  go_wp2_with fail
  refine hp.mono ?_
  rintro e w' ⟨rfl, hR⟩
  go_wp2_with fail
  go_end0
  exact ⟨rfl, hR⟩

/-- sort.SliceStable of a list of messages that the call has made itself, by the program's closure. -/
theorem sliceStable_any (w0 : World) (L0 : Laid w0) (Bs B : Nat) (u : Value) (d : List Msg) (W : World) (hb : Below w0.heap.size w0 W) (hBs : w0.heap.size ≤ Bs) (hBB : Bs < B) (hd : d.length < 20)
    (hbox : Boxed W Bs 40 u) (hown : OwnM W B u d) :
    Calls Tryd.prog 39 #[.iface 40 u, .func (.func 40) #[] #[.pointer (some ⟨Bs, 0, none⟩)]] W fun e w' =>
      e = .returned (.tuple #[]) ∧ Below w0.heap.size w0 w' ∧ Boxed w' Bs 40 u ∧ OwnM w' B u (insAll d) := by
  obtain ⟨ie, hie, _⟩ : ∃ ie, Tryd.prog.info? 25 = some ie ∧ True := by
    obtain ⟨i0, hi, _⟩ := info_parts msg_info
    exact ⟨i0, hi, trivial⟩
  by_cases h2 : 2 ≤ d.length
  · obtain ⟨g, cap, rfl⟩ : ∃ g cap, u = .slice (some ⟨g, 0, none⟩) d.length cap := by
      rcases hown.2 with ⟨_, h0⟩ | ⟨g, cap, cur, hv, _⟩
      · omega
      · exact ⟨g, cap, hv⟩
    obtain ⟨hgB, hgW⟩ := hown.own g rfl
    have hk := swapper_at d.length h2 ie hie
    refine sliceStable_of _ _ _ ie hie 71 (by rw [hk]; kernel_rfl) _ _ W _ fun G => ?_
    rw [if_neg (by omega)]
    have hb2 := Joins.below_alloc2 W (.cells #[.slice (some ⟨g, 0, none⟩) d.length cap] 40) (.cells #[.pointer (some ⟨G, 40, none⟩), .pointer (some ⟨W.heap.size, 0, none⟩), .int .u64 151] 92)
    refine (stable_any _ w0 L0 Bs g B cap d _ (hb.trans (hb2.mono hb.size)) hBs hBB hd (swap_any B g cap d.length) ((hbox.alloc _).alloc _) (hown.on hb2)).mono ?_
    rintro e w' ⟨rfl, h1, h3⟩
    exact ⟨rfl, (hb.trans (hb2.mono hb.size)).grown h1 (by have := hb.size; have := hb2.size; omega) (fun k e => by cases e; omega), ((hbox.alloc _).alloc _).kept h1 (fun e => by cases e; omega), h3⟩
  · obtain ⟨p, cap, rfl⟩ : ∃ p cap, u = .slice p d.length cap := by
      rcases hown.2 with ⟨rfl, h0⟩ | ⟨g, cap, cur, hv, _⟩
      · exact ⟨none, 0, by rw [h0]⟩
      · exact ⟨_, cap, hv⟩
    have hi : insAll d = d := by
      match d, h2 with
      | [], _ => rfl
      | [m], _ => rfl
      | _ :: _ :: _, h2 => exact absurd (by simp) h2
    obtain ⟨f, hf⟩ : ∃ f, Tryd.prog.funcs.findIdx? (·.name == "internal/reflectlite" ++ ".Swapper$" ++ toString (swapperK d.length ie 25)) = some f := by
      rcases (show d.length = 0 ∨ d.length = 1 by omega) with h | h
      · exact ⟨63, by rw [h, show swapperK 0 ie 25 = 1 from rfl]; kernel_rfl⟩
      · exact ⟨64, by rw [h, show swapperK 1 ie 25 = 2 from rfl]; kernel_rfl⟩
    refine sliceStable_of _ _ _ ie hie f hf _ _ W _ fun G => ?_
    have hb2 := Joins.below_alloc2 W (.cells #[.slice p d.length cap] 40) (.cells #[.pointer (some ⟨G, 40, none⟩), .pointer (some ⟨W.heap.size, 0, none⟩), .int .u64 151] 92)
    refine (stable_tiny _ _ d.length (by omega) _).mono ?_
    rintro e w' ⟨rfl, h1⟩
    have hb3 := below_trans hb2 h1
    exact ⟨rfl, hb.trans (hb3.mono hb.size), (hb3.block _ hbox.lt).trans hbox, by rw [hi]; exact hown.on hb3⟩

end Go.Proofs.YtgolnklgbhilaaaDoor

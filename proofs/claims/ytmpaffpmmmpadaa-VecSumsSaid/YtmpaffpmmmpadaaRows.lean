/-
  No cell of these rows narrows 'for every input' (looked for: loops, veiled, ifaces, maps, wideKeys, modest, calm, conditions, laid).
  DERIVED. THE GIVEN ROWS OF THIS SEAT. 6 by the template 'for every input the law returns true; each argument reads behind the call as it read before'; 0 by the template 'total and deterministic' (their statements: YtmpaffpmmmpadaaTotals.lean).
  GIVEN WITH THE SEED: the statements are not yours to turn. If you find one false, say at which input.
  Laid BY PROGRAM, IN A SANDBOX (cutbox-rows.mjs): the forced cells as the released guide's own fill.sh prints them over the translation 5ca0eca9cad44156… (all of the seat's roots in one cut). By AI agents, Wed Nov 11 2026. No macro, syntax, notation, axiom, sorry.
-/
import Derived.Test.YtmpaffpmmmpadaaChecked
import GoSem.Claim
import GoSem.ClaimJoined
import GoSem.ClaimMapViews
import Derived.JoinedTies
import Derived.KernelRfl
namespace Go.Proofs.Ytmpaffpmmmpadaa
/- THE CELL 'sum', in the pinned program and in every row, IS THE sha256 OF THE DUMP (.gsa) THAT YtmpaffpmmmpadaaProg.lean LOADS. Nothing in Lean hashes anything: it is a label: what it is worth is what the hold of that sum in a sandbox is worth. -/
noncomputable def Try.pinned : Pinned := { name := "ytmpaffpmmmpadaa", sum := "5ca0eca9cad44156b62bcf2187c43a30af807cf9a431882ae481edb48e9d89b6", checked := Try.checked }
namespace Rows
def none {H : Type} : Left H := { results := [], args := [] }

/-- 'omnibuslaw03.VecTells': WHATEVER THE INPUT: true; the input reads as it did. -/
def vecTellsSpec : ChangeSpec := { name := "vecTells", fn := fun _ => fun
  | [d1, d2, d3] => { results := [.lit (.bool true)], args := [d1, d2, d3] }
  | _ => none }
def vecTellsRow : OpenClaim := { program := "ytmpaffpmmmpadaa", sum := "5ca0eca9cad44156b62bcf2187c43a30af807cf9a431882ae481edb48e9d89b6", func := "omnibus/omnibuslaw03.VecTells", spec := "vecTells", unfollowed := true, recurses := true, apart := false }
def VecTellsSaid : Prop := vecTellsRow.holds Try.pinned (OpenSpec.ofChange vecTellsSpec)

/-- ITS FALSE NEIGHBOUR: 'it returns false'. Refute it at one input. -/
def vecTellsWrong : ChangeSpec := { name := "vecTells", fn := fun _ => fun
  | [d1, d2, d3] => { results := [.lit (.bool false)], args := [d1, d2, d3] }
  | _ => none }
def VecTellsWrongFalsely : Prop := vecTellsRow.holds Try.pinned (OpenSpec.ofChange vecTellsWrong)

/-- 'omnibuslaw03.VecHalves': WHATEVER THE INPUT: true; the input reads as it did. -/
def vecHalvesSpec : ChangeSpec := { name := "vecHalves", fn := fun _ => fun
  | [d1, d2, d3] => { results := [.lit (.bool true)], args := [d1, d2, d3] }
  | _ => none }
def vecHalvesRow : OpenClaim := { program := "ytmpaffpmmmpadaa", sum := "5ca0eca9cad44156b62bcf2187c43a30af807cf9a431882ae481edb48e9d89b6", func := "omnibus/omnibuslaw03.VecHalves", spec := "vecHalves", unfollowed := true, recurses := true, apart := false }
def VecHalvesSaid : Prop := vecHalvesRow.holds Try.pinned (OpenSpec.ofChange vecHalvesSpec)

/-- ITS FALSE NEIGHBOUR: 'it returns false'. Refute it at one input. -/
def vecHalvesWrong : ChangeSpec := { name := "vecHalves", fn := fun _ => fun
  | [d1, d2, d3] => { results := [.lit (.bool false)], args := [d1, d2, d3] }
  | _ => none }
def VecHalvesWrongFalsely : Prop := vecHalvesRow.holds Try.pinned (OpenSpec.ofChange vecHalvesWrong)

/-- 'omnibuslaw03.VecLists': WHATEVER THE INPUT: true; the input reads as it did. -/
def vecListsSpec : ChangeSpec := { name := "vecLists", fn := fun _ => fun
  | [d1, d2] => { results := [.lit (.bool true)], args := [d1, d2] }
  | _ => none }
def vecListsRow : OpenClaim := { program := "ytmpaffpmmmpadaa", sum := "5ca0eca9cad44156b62bcf2187c43a30af807cf9a431882ae481edb48e9d89b6", func := "omnibus/omnibuslaw03.VecLists", spec := "vecLists", unfollowed := true, recurses := true, apart := false }
def VecListsSaid : Prop := vecListsRow.holds Try.pinned (OpenSpec.ofChange vecListsSpec)

/-- ITS FALSE NEIGHBOUR: 'it returns false'. Refute it at one input. -/
def vecListsWrong : ChangeSpec := { name := "vecLists", fn := fun _ => fun
  | [d1, d2] => { results := [.lit (.bool false)], args := [d1, d2] }
  | _ => none }
def VecListsWrongFalsely : Prop := vecListsRow.holds Try.pinned (OpenSpec.ofChange vecListsWrong)

/-- 'omnibuslaw03.VecSums': WHATEVER THE INPUT: true; the input reads as it did. -/
def vecSumsSpec : ChangeSpec := { name := "vecSums", fn := fun _ => fun
  | [d1, d2, d3] => { results := [.lit (.bool true)], args := [d1, d2, d3] }
  | _ => none }
def vecSumsRow : OpenClaim := { program := "ytmpaffpmmmpadaa", sum := "5ca0eca9cad44156b62bcf2187c43a30af807cf9a431882ae481edb48e9d89b6", func := "omnibus/omnibuslaw03.VecSums", spec := "vecSums", unfollowed := true, recurses := true, apart := false }
def VecSumsSaid : Prop := vecSumsRow.holds Try.pinned (OpenSpec.ofChange vecSumsSpec)

/-- ITS FALSE NEIGHBOUR: 'it returns false'. Refute it at one input. -/
def vecSumsWrong : ChangeSpec := { name := "vecSums", fn := fun _ => fun
  | [d1, d2, d3] => { results := [.lit (.bool false)], args := [d1, d2, d3] }
  | _ => none }
def VecSumsWrongFalsely : Prop := vecSumsRow.holds Try.pinned (OpenSpec.ofChange vecSumsWrong)

/-- 'omnibuslaw03.VecAlls': WHATEVER THE INPUT: true; the input reads as it did. -/
def vecAllsSpec : ChangeSpec := { name := "vecAlls", fn := fun _ => fun
  | [d1, d2] => { results := [.lit (.bool true)], args := [d1, d2] }
  | _ => none }
def vecAllsRow : OpenClaim := { program := "ytmpaffpmmmpadaa", sum := "5ca0eca9cad44156b62bcf2187c43a30af807cf9a431882ae481edb48e9d89b6", func := "omnibus/omnibuslaw03.VecAlls", spec := "vecAlls", unfollowed := true, recurses := true, apart := false }
def VecAllsSaid : Prop := vecAllsRow.holds Try.pinned (OpenSpec.ofChange vecAllsSpec)

/-- ITS FALSE NEIGHBOUR: 'it returns false'. Refute it at one input. -/
def vecAllsWrong : ChangeSpec := { name := "vecAlls", fn := fun _ => fun
  | [d1, d2] => { results := [.lit (.bool false)], args := [d1, d2] }
  | _ => none }
def VecAllsWrongFalsely : Prop := vecAllsRow.holds Try.pinned (OpenSpec.ofChange vecAllsWrong)

/-- 'omnibuslaw03.VecRest': WHATEVER THE INPUT: true; the input reads as it did. -/
def vecRestSpec : ChangeSpec := { name := "vecRest", fn := fun _ => fun
  | [d1, d2, d3, d4] => { results := [.lit (.bool true)], args := [d1, d2, d3, d4] }
  | _ => none }
def vecRestRow : OpenClaim := { program := "ytmpaffpmmmpadaa", sum := "5ca0eca9cad44156b62bcf2187c43a30af807cf9a431882ae481edb48e9d89b6", func := "omnibus/omnibuslaw03.VecRest", spec := "vecRest", unfollowed := true, recurses := true, apart := false }
def VecRestSaid : Prop := vecRestRow.holds Try.pinned (OpenSpec.ofChange vecRestSpec)

/-- ITS FALSE NEIGHBOUR: 'it returns false'. Refute it at one input. -/
def vecRestWrong : ChangeSpec := { name := "vecRest", fn := fun _ => fun
  | [d1, d2, d3, d4] => { results := [.lit (.bool false)], args := [d1, d2, d3, d4] }
  | _ => none }
def VecRestWrongFalsely : Prop := vecRestRow.holds Try.pinned (OpenSpec.ofChange vecRestWrong)

/- THE SECOND FORM. 'bulk': how many values and letters a reading holds, each counted each time it is reached (what is shared counts as often as it is met; a slice's spare places count too). A statement '..UptoSaid' is the law's where the arguments, and the package variables that the reading takes, are together of bulk at most 1048576: NARROWER than '..Said'. Prove '..Said' where nothing that the law and all that it calls make is longer than what came in: it says more and counts as full. Else prove '..UptoSaid'. A law counts once. -/
mutual
def uptoBulk {H : Type} : DataW H → Nat
  | .lit (.string bytes) => bytes.length + 1
  | .lit _ => 1
  | .nil => 1
  | .ptr d => uptoBulk d + 1
  | .slice elems spare => uptoBulkAll elems + uptoBulkAll spare + 1
  | .agg parts => uptoBulkAll parts + 1
  | .iface _ d => uptoBulk d + 1
  | .map entries => uptoBulkEntries entries + 1
  | .held _ => 1
def uptoBulkAll {H : Type} : List (DataW H) → Nat
  | [] => 0
  | d :: r => uptoBulk d + uptoBulkAll r
def uptoBulkEntries {H : Type} : List (Lit × DataW H) → Nat
  | [] => 0
  | x :: r => uptoBulkEntry x + uptoBulkEntries r
def uptoBulkEntry {H : Type} : Lit × DataW H → Nat
  | (.string bytes, d) => bytes.length + uptoBulk d + 1
  | (_, d) => uptoBulk d + 1
 end
def uptoSmall : (H : Type) → List (DataW H) → Bool := fun _ ds => decide (uptoBulkAll ds ≤ 1048576)
def OpenSpec.upto (s : _root_.Go.ChangeSpec) : _root_.Go.OpenSpec := { _root_.Go.OpenSpec.ofChange s with cond := some uptoSmall }

/-- 'omnibuslaw03.VecTells', WHERE WHAT IT READS IS OF BULK AT MOST 1048576: true; the input reads as it did. -/
def vecTellsUptoRow : OpenClaim := { program := "ytmpaffpmmmpadaa", sum := "5ca0eca9cad44156b62bcf2187c43a30af807cf9a431882ae481edb48e9d89b6", func := "omnibus/omnibuslaw03.VecTells", spec := "vecTells", unfollowed := true, recurses := true, apart := false, narrowed := true }
def VecTellsUptoSaid : Prop := vecTellsUptoRow.holds Try.pinned (OpenSpec.upto vecTellsSpec)

/-- 'omnibuslaw03.VecHalves', WHERE WHAT IT READS IS OF BULK AT MOST 1048576: true; the input reads as it did. -/
def vecHalvesUptoRow : OpenClaim := { program := "ytmpaffpmmmpadaa", sum := "5ca0eca9cad44156b62bcf2187c43a30af807cf9a431882ae481edb48e9d89b6", func := "omnibus/omnibuslaw03.VecHalves", spec := "vecHalves", unfollowed := true, recurses := true, apart := false, narrowed := true }
def VecHalvesUptoSaid : Prop := vecHalvesUptoRow.holds Try.pinned (OpenSpec.upto vecHalvesSpec)

/-- 'omnibuslaw03.VecLists', WHERE WHAT IT READS IS OF BULK AT MOST 1048576: true; the input reads as it did. -/
def vecListsUptoRow : OpenClaim := { program := "ytmpaffpmmmpadaa", sum := "5ca0eca9cad44156b62bcf2187c43a30af807cf9a431882ae481edb48e9d89b6", func := "omnibus/omnibuslaw03.VecLists", spec := "vecLists", unfollowed := true, recurses := true, apart := false, narrowed := true }
def VecListsUptoSaid : Prop := vecListsUptoRow.holds Try.pinned (OpenSpec.upto vecListsSpec)

/-- 'omnibuslaw03.VecSums', WHERE WHAT IT READS IS OF BULK AT MOST 1048576: true; the input reads as it did. -/
def vecSumsUptoRow : OpenClaim := { program := "ytmpaffpmmmpadaa", sum := "5ca0eca9cad44156b62bcf2187c43a30af807cf9a431882ae481edb48e9d89b6", func := "omnibus/omnibuslaw03.VecSums", spec := "vecSums", unfollowed := true, recurses := true, apart := false, narrowed := true }
def VecSumsUptoSaid : Prop := vecSumsUptoRow.holds Try.pinned (OpenSpec.upto vecSumsSpec)

/-- 'omnibuslaw03.VecAlls', WHERE WHAT IT READS IS OF BULK AT MOST 1048576: true; the input reads as it did. -/
def vecAllsUptoRow : OpenClaim := { program := "ytmpaffpmmmpadaa", sum := "5ca0eca9cad44156b62bcf2187c43a30af807cf9a431882ae481edb48e9d89b6", func := "omnibus/omnibuslaw03.VecAlls", spec := "vecAlls", unfollowed := true, recurses := true, apart := false, narrowed := true }
def VecAllsUptoSaid : Prop := vecAllsUptoRow.holds Try.pinned (OpenSpec.upto vecAllsSpec)

/-- 'omnibuslaw03.VecRest', WHERE WHAT IT READS IS OF BULK AT MOST 1048576: true; the input reads as it did. -/
def vecRestUptoRow : OpenClaim := { program := "ytmpaffpmmmpadaa", sum := "5ca0eca9cad44156b62bcf2187c43a30af807cf9a431882ae481edb48e9d89b6", func := "omnibus/omnibuslaw03.VecRest", spec := "vecRest", unfollowed := true, recurses := true, apart := false, narrowed := true }
def VecRestUptoSaid : Prop := vecRestUptoRow.holds Try.pinned (OpenSpec.upto vecRestSpec)

end Rows
end Go.Proofs.Ytmpaffpmmmpadaa

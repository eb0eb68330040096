/-
  NARROWER THAN 'FOR EVERY INPUT', by the rows' own cells (each row's printed sentence says how): FrameTells: laid · FrameSpoilt: laid · FrameBack: laid · FrameLengths: laid · FrameCuts: laid · BusTells: laid · BusHonest: laid · BusWindows: laid · BusAll: laid · BusPasses: laid.
  DERIVED. THE GIVEN ROWS OF THIS SEAT. 10 by the template 'for every input the law returns true; each argument reads behind the call as it read before'; 0 by the template 'total and deterministic' (their statements: YtmmbnjkdknnidaaGreatDoorTotals.lean).
  GIVEN WITH THE SEED: the statements are not yours to turn. If you find one false, say at which input.
  Laid BY PROGRAM, IN A SANDBOX (cutbox-rows.mjs): the forced cells as the released guide's own fill.sh prints them over the translation 70224eb139701085… (all of the seat's roots in one cut). By AI agents, Wed Nov 11 2026. No macro, syntax, notation, axiom, sorry.
-/
import Derived.Test.YtmmbnjkdknnidaaGreatDoorChecked
import GoSem.Claim
import GoSem.ClaimJoined
import GoSem.ClaimMapViews
import Derived.JoinedTies
import Derived.KernelRfl
namespace Go.Proofs.YtmmbnjkdknnidaaGreatDoor
/- THE CELL 'sum', in the pinned program and in every row, IS THE sha256 OF THE DUMP (.gsa) THAT YtmmbnjkdknnidaaGreatDoorProg.lean LOADS. Nothing in Lean hashes anything: it is a label: what it is worth is what the hold of that sum in a sandbox is worth. -/
noncomputable def Tryz.pinned : Pinned := { name := "ytmmbnjkdknnidaagreatdoor", sum := "70224eb139701085d857cd86e89bf5424954ca45a84c2298583e983f9aaf00e6", checked := Tryz.checked }
namespace Rows
def none {H : Type} : Left H := { results := [], args := [] }

/- WHAT THE LISTED PACKAGE-LEVEL VARIABLES READ AS WHEN THE CALL BEGINS. Each datum BY PROGRAM (the guide's laid-datum.mjs) off the statement by which the dump's own 'gosem.cut.vars' lays the variable. In a bare row this is a premise. The card (YtmmbnjkdknnidaaGreatDoorCards.lean) ties it to the program's text. -/
def laid_omnibus_ident_greatest {H : Type} : DataW H := .agg [.lit (.int .i64 2047), .lit (.int .i64 536870911)]

/-- 'omnibuslaw07.FrameTells': WHATEVER THE INPUT: true; the input reads as it did. -/
def frameTellsSpec : ChangeSpec := { name := "frameTells", fn := fun _ => fun
  | [d1, d2, d3, d4, d5, d6, d7, d8, d9] => { results := [.lit (.bool true)], args := [d1, d2, d3, d4, d5, d6, d7, d8, d9] }
  | _ => none }
def frameTellsRow : OpenClaim := { program := "ytmmbnjkdknnidaagreatdoor", sum := "70224eb139701085d857cd86e89bf5424954ca45a84c2298583e983f9aaf00e6", func := "omnibus/omnibuslaw07.FrameTells", spec := "frameTells", inPlace := ["internal/abi.NoEscape"], unfollowed := true, recurses := true, named := ["omnibus/ident.greatest"], apart := false, laid := [("omnibus/ident.greatest", laid_omnibus_ident_greatest)] }
def FrameTellsSaid : Prop := frameTellsRow.holds Tryz.pinned (OpenSpec.ofChange frameTellsSpec)

/-- ITS FALSE NEIGHBOUR: 'it returns false'. Refute it at one input. -/
def frameTellsWrong : ChangeSpec := { name := "frameTells", fn := fun _ => fun
  | [d1, d2, d3, d4, d5, d6, d7, d8, d9] => { results := [.lit (.bool false)], args := [d1, d2, d3, d4, d5, d6, d7, d8, d9] }
  | _ => none }
def FrameTellsWrongFalsely : Prop := frameTellsRow.holds Tryz.pinned (OpenSpec.ofChange frameTellsWrong)

/-- 'omnibuslaw07.FrameSpoilt': WHATEVER THE INPUT: true; the input reads as it did. -/
def frameSpoiltSpec : ChangeSpec := { name := "frameSpoilt", fn := fun _ => fun
  | [d1, d2, d3, d4, d5, d6] => { results := [.lit (.bool true)], args := [d1, d2, d3, d4, d5, d6] }
  | _ => none }
def frameSpoiltRow : OpenClaim := { program := "ytmmbnjkdknnidaagreatdoor", sum := "70224eb139701085d857cd86e89bf5424954ca45a84c2298583e983f9aaf00e6", func := "omnibus/omnibuslaw07.FrameSpoilt", spec := "frameSpoilt", inPlace := ["internal/abi.NoEscape"], unfollowed := true, recurses := true, named := ["omnibus/ident.greatest"], apart := false, laid := [("omnibus/ident.greatest", laid_omnibus_ident_greatest)] }
def FrameSpoiltSaid : Prop := frameSpoiltRow.holds Tryz.pinned (OpenSpec.ofChange frameSpoiltSpec)

/-- ITS FALSE NEIGHBOUR: 'it returns false'. Refute it at one input. -/
def frameSpoiltWrong : ChangeSpec := { name := "frameSpoilt", fn := fun _ => fun
  | [d1, d2, d3, d4, d5, d6] => { results := [.lit (.bool false)], args := [d1, d2, d3, d4, d5, d6] }
  | _ => none }
def FrameSpoiltWrongFalsely : Prop := frameSpoiltRow.holds Tryz.pinned (OpenSpec.ofChange frameSpoiltWrong)

/-- 'omnibuslaw07.FrameBack': WHATEVER THE INPUT: true; the input reads as it did. -/
def frameBackSpec : ChangeSpec := { name := "frameBack", fn := fun _ => fun
  | [d1, d2, d3, d4, d5, d6] => { results := [.lit (.bool true)], args := [d1, d2, d3, d4, d5, d6] }
  | _ => none }
def frameBackRow : OpenClaim := { program := "ytmmbnjkdknnidaagreatdoor", sum := "70224eb139701085d857cd86e89bf5424954ca45a84c2298583e983f9aaf00e6", func := "omnibus/omnibuslaw07.FrameBack", spec := "frameBack", inPlace := ["internal/abi.NoEscape"], unfollowed := true, recurses := true, named := ["omnibus/ident.greatest"], apart := false, laid := [("omnibus/ident.greatest", laid_omnibus_ident_greatest)] }
def FrameBackSaid : Prop := frameBackRow.holds Tryz.pinned (OpenSpec.ofChange frameBackSpec)

/-- ITS FALSE NEIGHBOUR: 'it returns false'. Refute it at one input. -/
def frameBackWrong : ChangeSpec := { name := "frameBack", fn := fun _ => fun
  | [d1, d2, d3, d4, d5, d6] => { results := [.lit (.bool false)], args := [d1, d2, d3, d4, d5, d6] }
  | _ => none }
def FrameBackWrongFalsely : Prop := frameBackRow.holds Tryz.pinned (OpenSpec.ofChange frameBackWrong)

/-- 'omnibuslaw07.FrameLengths': WHATEVER THE INPUT: true; the input reads as it did. -/
def frameLengthsSpec : ChangeSpec := { name := "frameLengths", fn := fun _ => fun
  | [d1, d2, d3, d4, d5] => { results := [.lit (.bool true)], args := [d1, d2, d3, d4, d5] }
  | _ => none }
def frameLengthsRow : OpenClaim := { program := "ytmmbnjkdknnidaagreatdoor", sum := "70224eb139701085d857cd86e89bf5424954ca45a84c2298583e983f9aaf00e6", func := "omnibus/omnibuslaw07.FrameLengths", spec := "frameLengths", inPlace := ["internal/abi.NoEscape"], unfollowed := true, recurses := true, named := ["omnibus/ident.greatest"], apart := false, laid := [("omnibus/ident.greatest", laid_omnibus_ident_greatest)] }
def FrameLengthsSaid : Prop := frameLengthsRow.holds Tryz.pinned (OpenSpec.ofChange frameLengthsSpec)

/-- ITS FALSE NEIGHBOUR: 'it returns false'. Refute it at one input. -/
def frameLengthsWrong : ChangeSpec := { name := "frameLengths", fn := fun _ => fun
  | [d1, d2, d3, d4, d5] => { results := [.lit (.bool false)], args := [d1, d2, d3, d4, d5] }
  | _ => none }
def FrameLengthsWrongFalsely : Prop := frameLengthsRow.holds Tryz.pinned (OpenSpec.ofChange frameLengthsWrong)

/-- 'omnibuslaw07.FrameCuts': WHATEVER THE INPUT: true; the input reads as it did. -/
def frameCutsSpec : ChangeSpec := { name := "frameCuts", fn := fun _ => fun
  | [d1, d2, d3, d4, d5, d6] => { results := [.lit (.bool true)], args := [d1, d2, d3, d4, d5, d6] }
  | _ => none }
def frameCutsRow : OpenClaim := { program := "ytmmbnjkdknnidaagreatdoor", sum := "70224eb139701085d857cd86e89bf5424954ca45a84c2298583e983f9aaf00e6", func := "omnibus/omnibuslaw07.FrameCuts", spec := "frameCuts", inPlace := ["internal/abi.NoEscape"], unfollowed := true, recurses := true, named := ["omnibus/ident.greatest"], apart := false, laid := [("omnibus/ident.greatest", laid_omnibus_ident_greatest)] }
def FrameCutsSaid : Prop := frameCutsRow.holds Tryz.pinned (OpenSpec.ofChange frameCutsSpec)

/-- ITS FALSE NEIGHBOUR: 'it returns false'. Refute it at one input. -/
def frameCutsWrong : ChangeSpec := { name := "frameCuts", fn := fun _ => fun
  | [d1, d2, d3, d4, d5, d6] => { results := [.lit (.bool false)], args := [d1, d2, d3, d4, d5, d6] }
  | _ => none }
def FrameCutsWrongFalsely : Prop := frameCutsRow.holds Tryz.pinned (OpenSpec.ofChange frameCutsWrong)

/-- 'omnibuslaw09.BusTells': WHATEVER THE INPUT: true; the input reads as it did. -/
def busTellsSpec : ChangeSpec := { name := "busTells", fn := fun _ => fun
  | [d1, d2, d3, d4, d5, d6, d7, d8] => { results := [.lit (.bool true)], args := [d1, d2, d3, d4, d5, d6, d7, d8] }
  | _ => none }
def busTellsRow : OpenClaim := { program := "ytmmbnjkdknnidaagreatdoor", sum := "70224eb139701085d857cd86e89bf5424954ca45a84c2298583e983f9aaf00e6", func := "omnibus/omnibuslaw09.BusTells", spec := "busTells", inPlace := ["internal/abi.NoEscape"], unfollowed := true, recurses := true, named := ["omnibus/ident.greatest"], apart := false, laid := [("omnibus/ident.greatest", laid_omnibus_ident_greatest)] }
def BusTellsSaid : Prop := busTellsRow.holds Tryz.pinned (OpenSpec.ofChange busTellsSpec)

/-- ITS FALSE NEIGHBOUR: 'it returns false'. Refute it at one input. -/
def busTellsWrong : ChangeSpec := { name := "busTells", fn := fun _ => fun
  | [d1, d2, d3, d4, d5, d6, d7, d8] => { results := [.lit (.bool false)], args := [d1, d2, d3, d4, d5, d6, d7, d8] }
  | _ => none }
def BusTellsWrongFalsely : Prop := busTellsRow.holds Tryz.pinned (OpenSpec.ofChange busTellsWrong)

/-- 'omnibuslaw09.BusHonest': WHATEVER THE INPUT: true; the input reads as it did. -/
def busHonestSpec : ChangeSpec := { name := "busHonest", fn := fun _ => fun
  | [d1, d2, d3, d4, d5, d6, d7] => { results := [.lit (.bool true)], args := [d1, d2, d3, d4, d5, d6, d7] }
  | _ => none }
def busHonestRow : OpenClaim := { program := "ytmmbnjkdknnidaagreatdoor", sum := "70224eb139701085d857cd86e89bf5424954ca45a84c2298583e983f9aaf00e6", func := "omnibus/omnibuslaw09.BusHonest", spec := "busHonest", inPlace := ["internal/abi.NoEscape"], unfollowed := true, recurses := true, named := ["omnibus/ident.greatest"], apart := false, laid := [("omnibus/ident.greatest", laid_omnibus_ident_greatest)] }
def BusHonestSaid : Prop := busHonestRow.holds Tryz.pinned (OpenSpec.ofChange busHonestSpec)

/-- ITS FALSE NEIGHBOUR: 'it returns false'. Refute it at one input. -/
def busHonestWrong : ChangeSpec := { name := "busHonest", fn := fun _ => fun
  | [d1, d2, d3, d4, d5, d6, d7] => { results := [.lit (.bool false)], args := [d1, d2, d3, d4, d5, d6, d7] }
  | _ => none }
def BusHonestWrongFalsely : Prop := busHonestRow.holds Tryz.pinned (OpenSpec.ofChange busHonestWrong)

/-- 'omnibuslaw09.BusWindows': WHATEVER THE INPUT: true; the input reads as it did. -/
def busWindowsSpec : ChangeSpec := { name := "busWindows", fn := fun _ => fun
  | [d1, d2, d3] => { results := [.lit (.bool true)], args := [d1, d2, d3] }
  | _ => none }
def busWindowsRow : OpenClaim := { program := "ytmmbnjkdknnidaagreatdoor", sum := "70224eb139701085d857cd86e89bf5424954ca45a84c2298583e983f9aaf00e6", func := "omnibus/omnibuslaw09.BusWindows", spec := "busWindows", inPlace := ["internal/abi.NoEscape"], unfollowed := true, recurses := true, named := ["omnibus/ident.greatest"], apart := false, laid := [("omnibus/ident.greatest", laid_omnibus_ident_greatest)] }
def BusWindowsSaid : Prop := busWindowsRow.holds Tryz.pinned (OpenSpec.ofChange busWindowsSpec)

/-- ITS FALSE NEIGHBOUR: 'it returns false'. Refute it at one input. -/
def busWindowsWrong : ChangeSpec := { name := "busWindows", fn := fun _ => fun
  | [d1, d2, d3] => { results := [.lit (.bool false)], args := [d1, d2, d3] }
  | _ => none }
def BusWindowsWrongFalsely : Prop := busWindowsRow.holds Tryz.pinned (OpenSpec.ofChange busWindowsWrong)

/-- 'omnibuslaw09.BusAll': WHATEVER THE INPUT: true; the input reads as it did. -/
def busAllSpec : ChangeSpec := { name := "busAll", fn := fun _ => fun
  | [d1, d2, d3, d4, d5, d6, d7] => { results := [.lit (.bool true)], args := [d1, d2, d3, d4, d5, d6, d7] }
  | _ => none }
def busAllRow : OpenClaim := { program := "ytmmbnjkdknnidaagreatdoor", sum := "70224eb139701085d857cd86e89bf5424954ca45a84c2298583e983f9aaf00e6", func := "omnibus/omnibuslaw09.BusAll", spec := "busAll", inPlace := ["internal/abi.NoEscape"], unfollowed := true, recurses := true, named := ["omnibus/ident.greatest"], apart := false, laid := [("omnibus/ident.greatest", laid_omnibus_ident_greatest)] }
def BusAllSaid : Prop := busAllRow.holds Tryz.pinned (OpenSpec.ofChange busAllSpec)

/-- ITS FALSE NEIGHBOUR: 'it returns false'. Refute it at one input. -/
def busAllWrong : ChangeSpec := { name := "busAll", fn := fun _ => fun
  | [d1, d2, d3, d4, d5, d6, d7] => { results := [.lit (.bool false)], args := [d1, d2, d3, d4, d5, d6, d7] }
  | _ => none }
def BusAllWrongFalsely : Prop := busAllRow.holds Tryz.pinned (OpenSpec.ofChange busAllWrong)

/-- 'omnibuslaw09.BusPasses': WHATEVER THE INPUT: true; the input reads as it did. -/
def busPassesSpec : ChangeSpec := { name := "busPasses", fn := fun _ => fun
  | [d1, d2, d3] => { results := [.lit (.bool true)], args := [d1, d2, d3] }
  | _ => none }
def busPassesRow : OpenClaim := { program := "ytmmbnjkdknnidaagreatdoor", sum := "70224eb139701085d857cd86e89bf5424954ca45a84c2298583e983f9aaf00e6", func := "omnibus/omnibuslaw09.BusPasses", spec := "busPasses", inPlace := ["internal/abi.NoEscape"], unfollowed := true, recurses := true, named := ["omnibus/ident.greatest"], apart := false, laid := [("omnibus/ident.greatest", laid_omnibus_ident_greatest)] }
def BusPassesSaid : Prop := busPassesRow.holds Tryz.pinned (OpenSpec.ofChange busPassesSpec)

/-- ITS FALSE NEIGHBOUR: 'it returns false'. Refute it at one input. -/
def busPassesWrong : ChangeSpec := { name := "busPasses", fn := fun _ => fun
  | [d1, d2, d3] => { results := [.lit (.bool false)], args := [d1, d2, d3] }
  | _ => none }
def BusPassesWrongFalsely : Prop := busPassesRow.holds Tryz.pinned (OpenSpec.ofChange busPassesWrong)

/- THE SECOND FORM. 'bulk': how many values and letters a reading holds, each counted each time it is reached (what is shared counts as often as it is met; a slice's spare places count too). A statement '..UptoSaid' is the law's where the arguments, and the package variables that the reading takes, are together of bulk at most 1048576: NARROWER than '..Said'. Prove '..Said' where nothing that the law and all that it calls make is longer than what came in: it says more and counts as full. Else prove '..UptoSaid'. A law counts once. -/
mutual
def uptoBulk {H : Type} : DataW H → Nat
  | .lit (.string bytes) => bytes.length + 1
  | .lit _ => 1
  | .nil => 1
  | .ptr d => uptoBulk d + 1
  | .slice elems spare => uptoBulkAll elems + uptoBulkAll spare + 1
  | .agg parts => uptoBulkAll parts + 1
  | .iface _ d => uptoBulk d + 1
  | .map entries => uptoBulkEntries entries + 1
  | .held _ => 1
def uptoBulkAll {H : Type} : List (DataW H) → Nat
  | [] => 0
  | d :: r => uptoBulk d + uptoBulkAll r
def uptoBulkEntries {H : Type} : List (Lit × DataW H) → Nat
  | [] => 0
  | x :: r => uptoBulkEntry x + uptoBulkEntries r
def uptoBulkEntry {H : Type} : Lit × DataW H → Nat
  | (.string bytes, d) => bytes.length + uptoBulk d + 1
  | (_, d) => uptoBulk d + 1
 end
def uptoSmall : (H : Type) → List (DataW H) → Bool := fun _ ds => decide (uptoBulkAll ds ≤ 1048576)
def OpenSpec.upto (s : _root_.Go.ChangeSpec) : _root_.Go.OpenSpec := { _root_.Go.OpenSpec.ofChange s with cond := some uptoSmall }

/-- 'omnibuslaw07.FrameTells', WHERE WHAT IT READS IS OF BULK AT MOST 1048576: true; the input reads as it did. -/
def frameTellsUptoRow : OpenClaim := { program := "ytmmbnjkdknnidaagreatdoor", sum := "70224eb139701085d857cd86e89bf5424954ca45a84c2298583e983f9aaf00e6", func := "omnibus/omnibuslaw07.FrameTells", spec := "frameTells", inPlace := ["internal/abi.NoEscape"], unfollowed := true, recurses := true, named := ["omnibus/ident.greatest"], apart := false, laid := [("omnibus/ident.greatest", laid_omnibus_ident_greatest)], narrowed := true }
def FrameTellsUptoSaid : Prop := frameTellsUptoRow.holds Tryz.pinned (OpenSpec.upto frameTellsSpec)

/-- 'omnibuslaw07.FrameSpoilt', WHERE WHAT IT READS IS OF BULK AT MOST 1048576: true; the input reads as it did. -/
def frameSpoiltUptoRow : OpenClaim := { program := "ytmmbnjkdknnidaagreatdoor", sum := "70224eb139701085d857cd86e89bf5424954ca45a84c2298583e983f9aaf00e6", func := "omnibus/omnibuslaw07.FrameSpoilt", spec := "frameSpoilt", inPlace := ["internal/abi.NoEscape"], unfollowed := true, recurses := true, named := ["omnibus/ident.greatest"], apart := false, laid := [("omnibus/ident.greatest", laid_omnibus_ident_greatest)], narrowed := true }
def FrameSpoiltUptoSaid : Prop := frameSpoiltUptoRow.holds Tryz.pinned (OpenSpec.upto frameSpoiltSpec)

/-- 'omnibuslaw07.FrameBack', WHERE WHAT IT READS IS OF BULK AT MOST 1048576: true; the input reads as it did. -/
def frameBackUptoRow : OpenClaim := { program := "ytmmbnjkdknnidaagreatdoor", sum := "70224eb139701085d857cd86e89bf5424954ca45a84c2298583e983f9aaf00e6", func := "omnibus/omnibuslaw07.FrameBack", spec := "frameBack", inPlace := ["internal/abi.NoEscape"], unfollowed := true, recurses := true, named := ["omnibus/ident.greatest"], apart := false, laid := [("omnibus/ident.greatest", laid_omnibus_ident_greatest)], narrowed := true }
def FrameBackUptoSaid : Prop := frameBackUptoRow.holds Tryz.pinned (OpenSpec.upto frameBackSpec)

/-- 'omnibuslaw07.FrameLengths', WHERE WHAT IT READS IS OF BULK AT MOST 1048576: true; the input reads as it did. -/
def frameLengthsUptoRow : OpenClaim := { program := "ytmmbnjkdknnidaagreatdoor", sum := "70224eb139701085d857cd86e89bf5424954ca45a84c2298583e983f9aaf00e6", func := "omnibus/omnibuslaw07.FrameLengths", spec := "frameLengths", inPlace := ["internal/abi.NoEscape"], unfollowed := true, recurses := true, named := ["omnibus/ident.greatest"], apart := false, laid := [("omnibus/ident.greatest", laid_omnibus_ident_greatest)], narrowed := true }
def FrameLengthsUptoSaid : Prop := frameLengthsUptoRow.holds Tryz.pinned (OpenSpec.upto frameLengthsSpec)

/-- 'omnibuslaw07.FrameCuts', WHERE WHAT IT READS IS OF BULK AT MOST 1048576: true; the input reads as it did. -/
def frameCutsUptoRow : OpenClaim := { program := "ytmmbnjkdknnidaagreatdoor", sum := "70224eb139701085d857cd86e89bf5424954ca45a84c2298583e983f9aaf00e6", func := "omnibus/omnibuslaw07.FrameCuts", spec := "frameCuts", inPlace := ["internal/abi.NoEscape"], unfollowed := true, recurses := true, named := ["omnibus/ident.greatest"], apart := false, laid := [("omnibus/ident.greatest", laid_omnibus_ident_greatest)], narrowed := true }
def FrameCutsUptoSaid : Prop := frameCutsUptoRow.holds Tryz.pinned (OpenSpec.upto frameCutsSpec)

/-- 'omnibuslaw09.BusTells', WHERE WHAT IT READS IS OF BULK AT MOST 1048576: true; the input reads as it did. -/
def busTellsUptoRow : OpenClaim := { program := "ytmmbnjkdknnidaagreatdoor", sum := "70224eb139701085d857cd86e89bf5424954ca45a84c2298583e983f9aaf00e6", func := "omnibus/omnibuslaw09.BusTells", spec := "busTells", inPlace := ["internal/abi.NoEscape"], unfollowed := true, recurses := true, named := ["omnibus/ident.greatest"], apart := false, laid := [("omnibus/ident.greatest", laid_omnibus_ident_greatest)], narrowed := true }
def BusTellsUptoSaid : Prop := busTellsUptoRow.holds Tryz.pinned (OpenSpec.upto busTellsSpec)

/-- 'omnibuslaw09.BusHonest', WHERE WHAT IT READS IS OF BULK AT MOST 1048576: true; the input reads as it did. -/
def busHonestUptoRow : OpenClaim := { program := "ytmmbnjkdknnidaagreatdoor", sum := "70224eb139701085d857cd86e89bf5424954ca45a84c2298583e983f9aaf00e6", func := "omnibus/omnibuslaw09.BusHonest", spec := "busHonest", inPlace := ["internal/abi.NoEscape"], unfollowed := true, recurses := true, named := ["omnibus/ident.greatest"], apart := false, laid := [("omnibus/ident.greatest", laid_omnibus_ident_greatest)], narrowed := true }
def BusHonestUptoSaid : Prop := busHonestUptoRow.holds Tryz.pinned (OpenSpec.upto busHonestSpec)

/-- 'omnibuslaw09.BusWindows', WHERE WHAT IT READS IS OF BULK AT MOST 1048576: true; the input reads as it did. -/
def busWindowsUptoRow : OpenClaim := { program := "ytmmbnjkdknnidaagreatdoor", sum := "70224eb139701085d857cd86e89bf5424954ca45a84c2298583e983f9aaf00e6", func := "omnibus/omnibuslaw09.BusWindows", spec := "busWindows", inPlace := ["internal/abi.NoEscape"], unfollowed := true, recurses := true, named := ["omnibus/ident.greatest"], apart := false, laid := [("omnibus/ident.greatest", laid_omnibus_ident_greatest)], narrowed := true }
def BusWindowsUptoSaid : Prop := busWindowsUptoRow.holds Tryz.pinned (OpenSpec.upto busWindowsSpec)

/-- 'omnibuslaw09.BusAll', WHERE WHAT IT READS IS OF BULK AT MOST 1048576: true; the input reads as it did. -/
def busAllUptoRow : OpenClaim := { program := "ytmmbnjkdknnidaagreatdoor", sum := "70224eb139701085d857cd86e89bf5424954ca45a84c2298583e983f9aaf00e6", func := "omnibus/omnibuslaw09.BusAll", spec := "busAll", inPlace := ["internal/abi.NoEscape"], unfollowed := true, recurses := true, named := ["omnibus/ident.greatest"], apart := false, laid := [("omnibus/ident.greatest", laid_omnibus_ident_greatest)], narrowed := true }
def BusAllUptoSaid : Prop := busAllUptoRow.holds Tryz.pinned (OpenSpec.upto busAllSpec)

/-- 'omnibuslaw09.BusPasses', WHERE WHAT IT READS IS OF BULK AT MOST 1048576: true; the input reads as it did. -/
def busPassesUptoRow : OpenClaim := { program := "ytmmbnjkdknnidaagreatdoor", sum := "70224eb139701085d857cd86e89bf5424954ca45a84c2298583e983f9aaf00e6", func := "omnibus/omnibuslaw09.BusPasses", spec := "busPasses", inPlace := ["internal/abi.NoEscape"], unfollowed := true, recurses := true, named := ["omnibus/ident.greatest"], apart := false, laid := [("omnibus/ident.greatest", laid_omnibus_ident_greatest)], narrowed := true }
def BusPassesUptoSaid : Prop := busPassesUptoRow.holds Tryz.pinned (OpenSpec.upto busPassesSpec)

end Rows
end Go.Proofs.YtmmbnjkdknnidaaGreatDoor

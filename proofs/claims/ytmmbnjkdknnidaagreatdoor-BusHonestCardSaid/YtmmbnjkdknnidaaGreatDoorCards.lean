/-
  DERIVED. GIVEN WITH THE SEED: THE CARDS: each row of YtmmbnjkdknnidaaGreatDoorRows.lean that lists a variable, with what it lists TIED to the program's text (the seventh form; the later family's looks); each row that meets fmt, with fmt's text TOLD by the authors' own Lean function (tested against real Go, not proved from fmt's source: count such statements apart). THE CARD IS WHAT COUNTS. Prove the row's statement (the work); the ties are given (YtmmbnjkdknnidaaGreatDoorTie.lean); close each card by the builder's one call (the guide's Derived/Test/ToyasCard.lean, 'card_holds'). Laid BY PROGRAM, IN A SANDBOX (cutbox-door.mjs). By AI agents, Wed Nov 11 2026. No macro, syntax, notation, axiom, sorry.
-/
import Derived.Test.YtmmbnjkdknnidaaGreatDoorRows
import GoSem.ClaimSeven
namespace Go.Proofs.YtmmbnjkdknnidaaGreatDoor
namespace Rows

/-- THE TIED CARD OF 'omnibuslaw07.FrameTells'. -/
def frameTellsCard : Claim7 := { stood := { row := frameTellsRow, standIns := [], harness := (true, "1303a93fd60695130a7aea4189ccf0a556c0ec7bf427930036cf540afdf6f024"), looks := true }, kinds := [], alts := [], laidByText := true, laidKinds := [.data], laidTests := true, laidLooks := .later }
def FrameTellsCardSaid : Prop := Claim7.holds Tryz.pinned (.plain (OpenSpec.ofChange frameTellsSpec)) frameTellsCard

/-- THE TIED CARD OF 'omnibuslaw07.FrameSpoilt'. -/
def frameSpoiltCard : Claim7 := { stood := { row := frameSpoiltRow, standIns := [], harness := (true, "1303a93fd60695130a7aea4189ccf0a556c0ec7bf427930036cf540afdf6f024"), looks := true }, kinds := [], alts := [], laidByText := true, laidKinds := [.data], laidTests := true, laidLooks := .later }
def FrameSpoiltCardSaid : Prop := Claim7.holds Tryz.pinned (.plain (OpenSpec.ofChange frameSpoiltSpec)) frameSpoiltCard

/-- THE TIED CARD OF 'omnibuslaw07.FrameBack'. -/
def frameBackCard : Claim7 := { stood := { row := frameBackRow, standIns := [], harness := (true, "1303a93fd60695130a7aea4189ccf0a556c0ec7bf427930036cf540afdf6f024"), looks := true }, kinds := [], alts := [], laidByText := true, laidKinds := [.data], laidTests := true, laidLooks := .later }
def FrameBackCardSaid : Prop := Claim7.holds Tryz.pinned (.plain (OpenSpec.ofChange frameBackSpec)) frameBackCard

/-- THE TIED CARD OF 'omnibuslaw07.FrameLengths'. -/
def frameLengthsCard : Claim7 := { stood := { row := frameLengthsRow, standIns := [], harness := (true, "1303a93fd60695130a7aea4189ccf0a556c0ec7bf427930036cf540afdf6f024"), looks := true }, kinds := [], alts := [], laidByText := true, laidKinds := [.data], laidTests := true, laidLooks := .later }
def FrameLengthsCardSaid : Prop := Claim7.holds Tryz.pinned (.plain (OpenSpec.ofChange frameLengthsSpec)) frameLengthsCard

/-- THE TIED CARD OF 'omnibuslaw07.FrameCuts'. -/
def frameCutsCard : Claim7 := { stood := { row := frameCutsRow, standIns := [], harness := (true, "1303a93fd60695130a7aea4189ccf0a556c0ec7bf427930036cf540afdf6f024"), looks := true }, kinds := [], alts := [], laidByText := true, laidKinds := [.data], laidTests := true, laidLooks := .later }
def FrameCutsCardSaid : Prop := Claim7.holds Tryz.pinned (.plain (OpenSpec.ofChange frameCutsSpec)) frameCutsCard

/-- THE TIED CARD OF 'omnibuslaw09.BusTells'. -/
def busTellsCard : Claim7 := { stood := { row := busTellsRow, standIns := [], harness := (true, "1303a93fd60695130a7aea4189ccf0a556c0ec7bf427930036cf540afdf6f024"), looks := true }, kinds := [], alts := [], laidByText := true, laidKinds := [.data], laidTests := true, laidLooks := .later }
def BusTellsCardSaid : Prop := Claim7.holds Tryz.pinned (.plain (OpenSpec.ofChange busTellsSpec)) busTellsCard

/-- THE TIED CARD OF 'omnibuslaw09.BusHonest'. -/
def busHonestCard : Claim7 := { stood := { row := busHonestRow, standIns := [], harness := (true, "1303a93fd60695130a7aea4189ccf0a556c0ec7bf427930036cf540afdf6f024"), looks := true }, kinds := [], alts := [], laidByText := true, laidKinds := [.data], laidTests := true, laidLooks := .later }
def BusHonestCardSaid : Prop := Claim7.holds Tryz.pinned (.plain (OpenSpec.ofChange busHonestSpec)) busHonestCard

/-- THE TIED CARD OF 'omnibuslaw09.BusWindows'. -/
def busWindowsCard : Claim7 := { stood := { row := busWindowsRow, standIns := [], harness := (true, "1303a93fd60695130a7aea4189ccf0a556c0ec7bf427930036cf540afdf6f024"), looks := true }, kinds := [], alts := [], laidByText := true, laidKinds := [.data], laidTests := true, laidLooks := .later }
def BusWindowsCardSaid : Prop := Claim7.holds Tryz.pinned (.plain (OpenSpec.ofChange busWindowsSpec)) busWindowsCard

/-- THE TIED CARD OF 'omnibuslaw09.BusAll'. -/
def busAllCard : Claim7 := { stood := { row := busAllRow, standIns := [], harness := (true, "1303a93fd60695130a7aea4189ccf0a556c0ec7bf427930036cf540afdf6f024"), looks := true }, kinds := [], alts := [], laidByText := true, laidKinds := [.data], laidTests := true, laidLooks := .later }
def BusAllCardSaid : Prop := Claim7.holds Tryz.pinned (.plain (OpenSpec.ofChange busAllSpec)) busAllCard

/-- THE TIED CARD OF 'omnibuslaw09.BusPasses'. -/
def busPassesCard : Claim7 := { stood := { row := busPassesRow, standIns := [], harness := (true, "1303a93fd60695130a7aea4189ccf0a556c0ec7bf427930036cf540afdf6f024"), looks := true }, kinds := [], alts := [], laidByText := true, laidKinds := [.data], laidTests := true, laidLooks := .later }
def BusPassesCardSaid : Prop := Claim7.holds Tryz.pinned (.plain (OpenSpec.ofChange busPassesSpec)) busPassesCard

/-- THE SECOND FORM's CARD OF 'omnibuslaw07.FrameTells'. -/
def frameTellsUptoCard : Claim7 := { stood := { row := frameTellsUptoRow, standIns := [], harness := (true, "1303a93fd60695130a7aea4189ccf0a556c0ec7bf427930036cf540afdf6f024"), looks := true }, kinds := [], alts := [], laidByText := true, laidKinds := [.data], laidTests := true, laidLooks := .later }
def FrameTellsUptoCardSaid : Prop := Claim7.holds Tryz.pinned (.plain (OpenSpec.upto frameTellsSpec)) frameTellsUptoCard

/-- THE SECOND FORM's CARD OF 'omnibuslaw07.FrameSpoilt'. -/
def frameSpoiltUptoCard : Claim7 := { stood := { row := frameSpoiltUptoRow, standIns := [], harness := (true, "1303a93fd60695130a7aea4189ccf0a556c0ec7bf427930036cf540afdf6f024"), looks := true }, kinds := [], alts := [], laidByText := true, laidKinds := [.data], laidTests := true, laidLooks := .later }
def FrameSpoiltUptoCardSaid : Prop := Claim7.holds Tryz.pinned (.plain (OpenSpec.upto frameSpoiltSpec)) frameSpoiltUptoCard

/-- THE SECOND FORM's CARD OF 'omnibuslaw07.FrameBack'. -/
def frameBackUptoCard : Claim7 := { stood := { row := frameBackUptoRow, standIns := [], harness := (true, "1303a93fd60695130a7aea4189ccf0a556c0ec7bf427930036cf540afdf6f024"), looks := true }, kinds := [], alts := [], laidByText := true, laidKinds := [.data], laidTests := true, laidLooks := .later }
def FrameBackUptoCardSaid : Prop := Claim7.holds Tryz.pinned (.plain (OpenSpec.upto frameBackSpec)) frameBackUptoCard

/-- THE SECOND FORM's CARD OF 'omnibuslaw07.FrameLengths'. -/
def frameLengthsUptoCard : Claim7 := { stood := { row := frameLengthsUptoRow, standIns := [], harness := (true, "1303a93fd60695130a7aea4189ccf0a556c0ec7bf427930036cf540afdf6f024"), looks := true }, kinds := [], alts := [], laidByText := true, laidKinds := [.data], laidTests := true, laidLooks := .later }
def FrameLengthsUptoCardSaid : Prop := Claim7.holds Tryz.pinned (.plain (OpenSpec.upto frameLengthsSpec)) frameLengthsUptoCard

/-- THE SECOND FORM's CARD OF 'omnibuslaw07.FrameCuts'. -/
def frameCutsUptoCard : Claim7 := { stood := { row := frameCutsUptoRow, standIns := [], harness := (true, "1303a93fd60695130a7aea4189ccf0a556c0ec7bf427930036cf540afdf6f024"), looks := true }, kinds := [], alts := [], laidByText := true, laidKinds := [.data], laidTests := true, laidLooks := .later }
def FrameCutsUptoCardSaid : Prop := Claim7.holds Tryz.pinned (.plain (OpenSpec.upto frameCutsSpec)) frameCutsUptoCard

/-- THE SECOND FORM's CARD OF 'omnibuslaw09.BusTells'. -/
def busTellsUptoCard : Claim7 := { stood := { row := busTellsUptoRow, standIns := [], harness := (true, "1303a93fd60695130a7aea4189ccf0a556c0ec7bf427930036cf540afdf6f024"), looks := true }, kinds := [], alts := [], laidByText := true, laidKinds := [.data], laidTests := true, laidLooks := .later }
def BusTellsUptoCardSaid : Prop := Claim7.holds Tryz.pinned (.plain (OpenSpec.upto busTellsSpec)) busTellsUptoCard

/-- THE SECOND FORM's CARD OF 'omnibuslaw09.BusHonest'. -/
def busHonestUptoCard : Claim7 := { stood := { row := busHonestUptoRow, standIns := [], harness := (true, "1303a93fd60695130a7aea4189ccf0a556c0ec7bf427930036cf540afdf6f024"), looks := true }, kinds := [], alts := [], laidByText := true, laidKinds := [.data], laidTests := true, laidLooks := .later }
def BusHonestUptoCardSaid : Prop := Claim7.holds Tryz.pinned (.plain (OpenSpec.upto busHonestSpec)) busHonestUptoCard

/-- THE SECOND FORM's CARD OF 'omnibuslaw09.BusWindows'. -/
def busWindowsUptoCard : Claim7 := { stood := { row := busWindowsUptoRow, standIns := [], harness := (true, "1303a93fd60695130a7aea4189ccf0a556c0ec7bf427930036cf540afdf6f024"), looks := true }, kinds := [], alts := [], laidByText := true, laidKinds := [.data], laidTests := true, laidLooks := .later }
def BusWindowsUptoCardSaid : Prop := Claim7.holds Tryz.pinned (.plain (OpenSpec.upto busWindowsSpec)) busWindowsUptoCard

/-- THE SECOND FORM's CARD OF 'omnibuslaw09.BusAll'. -/
def busAllUptoCard : Claim7 := { stood := { row := busAllUptoRow, standIns := [], harness := (true, "1303a93fd60695130a7aea4189ccf0a556c0ec7bf427930036cf540afdf6f024"), looks := true }, kinds := [], alts := [], laidByText := true, laidKinds := [.data], laidTests := true, laidLooks := .later }
def BusAllUptoCardSaid : Prop := Claim7.holds Tryz.pinned (.plain (OpenSpec.upto busAllSpec)) busAllUptoCard

/-- THE SECOND FORM's CARD OF 'omnibuslaw09.BusPasses'. -/
def busPassesUptoCard : Claim7 := { stood := { row := busPassesUptoRow, standIns := [], harness := (true, "1303a93fd60695130a7aea4189ccf0a556c0ec7bf427930036cf540afdf6f024"), looks := true }, kinds := [], alts := [], laidByText := true, laidKinds := [.data], laidTests := true, laidLooks := .later }
def BusPassesUptoCardSaid : Prop := Claim7.holds Tryz.pinned (.plain (OpenSpec.upto busPassesSpec)) busPassesUptoCard
end Rows
end Go.Proofs.YtmmbnjkdknnidaaGreatDoor

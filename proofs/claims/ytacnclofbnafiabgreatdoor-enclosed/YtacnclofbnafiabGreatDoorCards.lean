/-
  DERIVED. GIVEN WITH THE SEED: THE CARDS: each row of YtacnclofbnafiabGreatDoorRows.lean that lists a variable, with what it lists TIED to the program's text (the seventh form; the later family's looks); each row that meets fmt, with fmt's text TOLD by the authors' own Lean function (tested against real Go, not proved from fmt's source: count such statements apart). THE CARD IS WHAT COUNTS. Prove the row's statement (the work); the ties are given (YtacnclofbnafiabGreatDoorTie.lean); close each card by the builder's one call (the guide's Derived/Test/ToyasCard.lean, 'card_holds'). Laid BY PROGRAM, IN A SANDBOX (cutbox-door.mjs). By AI agents, Wed Nov 11 2026. No macro, syntax, notation, axiom, sorry.
-/
import Derived.Test.YtacnclofbnafiabGreatDoorRows
import GoSem.ClaimSeven
namespace Go.Proofs.YtacnclofbnafiabGreatDoor
namespace Rows

/-- THE TIED CARD OF 'intervalslaw.Faults'. -/
def faultsCard : Claim7 := { stood := { row := faultsRow, standIns := [], harness := (true, "80871e9223f366fd9af038d74c96808e3b5b912bcf541e5264f6d1bf47ae6c89"), looks := true }, kinds := [], alts := [], laidByText := true, laidKinds := [.handle], laidTests := true, laidLooks := .later }
def FaultsCardSaid : Prop := Claim7.holds Tryz.pinned (.plain (OpenSpec.ofChange faultsSpec)) faultsCard

/-- THE TIED CARD OF 'intervalslaw.Straight'. -/
def straightCard : Claim7 := { stood := { row := straightRow, standIns := [], harness := (true, "80871e9223f366fd9af038d74c96808e3b5b912bcf541e5264f6d1bf47ae6c89"), looks := true }, kinds := [], alts := [], laidByText := true, laidKinds := [.handle], laidTests := true, laidLooks := .later }
def StraightCardSaid : Prop := Claim7.holds Tryz.pinned (.plain (OpenSpec.ofChange straightSpec)) straightCard

/-- THE TIED CARD OF 'intervalslaw.Enclosed'. -/
def enclosedCard : Claim7 := { stood := { row := enclosedRow, standIns := [], harness := (true, "80871e9223f366fd9af038d74c96808e3b5b912bcf541e5264f6d1bf47ae6c89"), looks := true }, kinds := [], alts := [], laidByText := true, laidKinds := [.handle], laidTests := true, laidLooks := .later }
def EnclosedCardSaid : Prop := Claim7.holds Tryz.pinned (.plain (OpenSpec.ofChange enclosedSpec)) enclosedCard

/-- THE TIED CARD OF 'intervalslaw.Calls'. -/
def callsCard : Claim7 := { stood := { row := callsRow, standIns := [], harness := (true, "80871e9223f366fd9af038d74c96808e3b5b912bcf541e5264f6d1bf47ae6c89"), looks := true }, kinds := [], alts := [], laidByText := true, laidKinds := [.handle], laidTests := true, laidLooks := .later }
def CallsCardSaid : Prop := Claim7.holds Tryz.pinned (.plain (OpenSpec.ofChange callsSpec)) callsCard

/-- THE SECOND FORM's CARD OF 'intervalslaw.Faults'. -/
def faultsUptoCard : Claim7 := { stood := { row := faultsUptoRow, standIns := [], harness := (true, "80871e9223f366fd9af038d74c96808e3b5b912bcf541e5264f6d1bf47ae6c89"), looks := true }, kinds := [], alts := [], laidByText := true, laidKinds := [.handle], laidTests := true, laidLooks := .later }
def FaultsUptoCardSaid : Prop := Claim7.holds Tryz.pinned (.plain (OpenSpec.upto faultsSpec)) faultsUptoCard

/-- THE SECOND FORM's CARD OF 'intervalslaw.Straight'. -/
def straightUptoCard : Claim7 := { stood := { row := straightUptoRow, standIns := [], harness := (true, "80871e9223f366fd9af038d74c96808e3b5b912bcf541e5264f6d1bf47ae6c89"), looks := true }, kinds := [], alts := [], laidByText := true, laidKinds := [.handle], laidTests := true, laidLooks := .later }
def StraightUptoCardSaid : Prop := Claim7.holds Tryz.pinned (.plain (OpenSpec.upto straightSpec)) straightUptoCard

/-- THE SECOND FORM's CARD OF 'intervalslaw.Enclosed'. -/
def enclosedUptoCard : Claim7 := { stood := { row := enclosedUptoRow, standIns := [], harness := (true, "80871e9223f366fd9af038d74c96808e3b5b912bcf541e5264f6d1bf47ae6c89"), looks := true }, kinds := [], alts := [], laidByText := true, laidKinds := [.handle], laidTests := true, laidLooks := .later }
def EnclosedUptoCardSaid : Prop := Claim7.holds Tryz.pinned (.plain (OpenSpec.upto enclosedSpec)) enclosedUptoCard

/-- THE SECOND FORM's CARD OF 'intervalslaw.Calls'. -/
def callsUptoCard : Claim7 := { stood := { row := callsUptoRow, standIns := [], harness := (true, "80871e9223f366fd9af038d74c96808e3b5b912bcf541e5264f6d1bf47ae6c89"), looks := true }, kinds := [], alts := [], laidByText := true, laidKinds := [.handle], laidTests := true, laidLooks := .later }
def CallsUptoCardSaid : Prop := Claim7.holds Tryz.pinned (.plain (OpenSpec.upto callsSpec)) callsUptoCard
end Rows
end Go.Proofs.YtacnclofbnafiabGreatDoor

/-
  DERIVED. GIVEN WITH THE SEED: THE CARDS: each row of YtlnjalhlbfbjcaaGreatDoorRows.lean that lists a variable, with what it lists TIED to the program's text (the seventh form; the later family's looks); each row that meets fmt, with fmt's text TOLD by the authors' own Lean function (tested against real Go, not proved from fmt's source: count such statements apart). THE CARD IS WHAT COUNTS. Prove the row's statement (the work); the ties are given (YtlnjalhlbfbjcaaGreatDoorTie.lean); close each card by the builder's one call (the guide's Derived/Test/ToyasCard.lean, 'card_holds'). Laid BY PROGRAM, IN A SANDBOX (cutbox-door.mjs). By AI agents, Wed Nov 11 2026. No macro, syntax, notation, axiom, sorry.
-/
import Derived.Test.YtlnjalhlbfbjcaaGreatDoorRows
import GoSem.ClaimSeven
namespace Go.Proofs.YtlnjalhlbfbjcaaGreatDoor
namespace Rows

/-- THE TIED CARD OF 'wicketgatelaw07.PortsTexts'. -/
def portsTextsCard : Claim7 := { stood := { row := portsTextsRow, standIns := [], harness := (true, "61b6cb48140d7c3cc189ebf529aa0e2303adbdef6fac5cd4cb1f378f36a499a4"), looks := true }, kinds := [], alts := [], laidByText := true, laidKinds := [.data, .data, .data, .handle], laidTests := true, laidLooks := .later }
def PortsTextsCardSaid : Prop := Claim7.holds Tryz.pinned (.plain (OpenSpec.ofChange portsTextsSpec)) portsTextsCard

/-- THE TIED CARD OF 'wicketgatelaw07.PortsTargets'. -/
def portsTargetsCard : Claim7 := { stood := { row := portsTargetsRow, standIns := [], harness := (true, "61b6cb48140d7c3cc189ebf529aa0e2303adbdef6fac5cd4cb1f378f36a499a4"), looks := true }, kinds := [], alts := [], laidByText := true, laidKinds := [.data, .data, .data, .handle], laidTests := true, laidLooks := .later }
def PortsTargetsCardSaid : Prop := Claim7.holds Tryz.pinned (.plain (OpenSpec.ofChange portsTargetsSpec)) portsTargetsCard

/-- THE SECOND FORM's CARD OF 'wicketgatelaw07.PortsTexts'. -/
def portsTextsUptoCard : Claim7 := { stood := { row := portsTextsUptoRow, standIns := [], harness := (true, "61b6cb48140d7c3cc189ebf529aa0e2303adbdef6fac5cd4cb1f378f36a499a4"), looks := true }, kinds := [], alts := [], laidByText := true, laidKinds := [.data, .data, .data, .handle], laidTests := true, laidLooks := .later }
def PortsTextsUptoCardSaid : Prop := Claim7.holds Tryz.pinned (.plain (OpenSpec.upto portsTextsSpec)) portsTextsUptoCard

/-- THE SECOND FORM's CARD OF 'wicketgatelaw07.PortsTargets'. -/
def portsTargetsUptoCard : Claim7 := { stood := { row := portsTargetsUptoRow, standIns := [], harness := (true, "61b6cb48140d7c3cc189ebf529aa0e2303adbdef6fac5cd4cb1f378f36a499a4"), looks := true }, kinds := [], alts := [], laidByText := true, laidKinds := [.data, .data, .data, .handle], laidTests := true, laidLooks := .later }
def PortsTargetsUptoCardSaid : Prop := Claim7.holds Tryz.pinned (.plain (OpenSpec.upto portsTargetsSpec)) portsTargetsUptoCard
end Rows
end Go.Proofs.YtlnjalhlbfbjcaaGreatDoor

/-
  DERIVED. GIVEN WITH THE SEED: THE CARDS: each row of YtkokcfhfgnkdfaaGreatDoorRows.lean that lists a variable, with what it lists TIED to the program's text (the seventh form; the later family's looks); each row that meets fmt, with fmt's text TOLD by the authors' own Lean function (tested against real Go, not proved from fmt's source: count such statements apart). THE CARD IS WHAT COUNTS. Prove the row's statement (the work); the ties are given (YtkokcfhfgnkdfaaGreatDoorTie.lean); close each card by the builder's one call (the guide's Derived/Test/ToyasCard.lean, 'card_holds'). Laid BY PROGRAM, IN A SANDBOX (cutbox-door.mjs). By AI agents, Wed Nov 11 2026. No macro, syntax, notation, axiom, sorry.
-/
import Derived.Test.YtkokcfhfgnkdfaaGreatDoorRows
import GoSem.ClaimSeven
namespace Go.Proofs.YtkokcfhfgnkdfaaGreatDoor
namespace Rows

/-- THE TIED CARD OF 'wicketgatelaw17.TunnelPlays'. -/
def tunnelPlaysCard : Claim7 := { stood := { row := tunnelPlaysRow, standIns := [], harness := (true, "438f986e788326d642af612ddbaf0901170eb678308115811c260db00d63b30d"), looks := true }, kinds := [], alts := [], laidByText := true, laidKinds := [.handle], laidTests := true, laidLooks := .later }
def TunnelPlaysCardSaid : Prop := Claim7.holds Tryz.pinned (.plain (OpenSpec.ofChange tunnelPlaysSpec)) tunnelPlaysCard

/-- THE TIED CARD OF 'wicketgatelaw17.TunnelOrder'. -/
def tunnelOrderCard : Claim7 := { stood := { row := tunnelOrderRow, standIns := [], harness := (true, "438f986e788326d642af612ddbaf0901170eb678308115811c260db00d63b30d"), looks := true }, kinds := [], alts := [], laidByText := true, laidKinds := [.handle], laidTests := true, laidLooks := .later }
def TunnelOrderCardSaid : Prop := Claim7.holds Tryz.pinned (.plain (OpenSpec.ofChange tunnelOrderSpec)) tunnelOrderCard

/-- THE TIED CARD OF 'wicketgatelaw17.TunnelCredit'. -/
def tunnelCreditCard : Claim7 := { stood := { row := tunnelCreditRow, standIns := [], harness := (true, "438f986e788326d642af612ddbaf0901170eb678308115811c260db00d63b30d"), looks := true }, kinds := [], alts := [], laidByText := true, laidKinds := [.handle], laidTests := true, laidLooks := .later }
def TunnelCreditCardSaid : Prop := Claim7.holds Tryz.pinned (.plain (OpenSpec.ofChange tunnelCreditSpec)) tunnelCreditCard

/-- THE TIED CARD OF 'wicketgatelaw17.TunnelStops'. -/
def tunnelStopsCard : Claim7 := { stood := { row := tunnelStopsRow, standIns := [], harness := (true, "438f986e788326d642af612ddbaf0901170eb678308115811c260db00d63b30d"), looks := true }, kinds := [], alts := [], laidByText := true, laidKinds := [.handle], laidTests := true, laidLooks := .later }
def TunnelStopsCardSaid : Prop := Claim7.holds Tryz.pinned (.plain (OpenSpec.ofChange tunnelStopsSpec)) tunnelStopsCard

/-- THE TIED CARD OF 'wicketgatelaw17.TunnelAll'. -/
def tunnelAllCard : Claim7 := { stood := { row := tunnelAllRow, standIns := [], harness := (true, "438f986e788326d642af612ddbaf0901170eb678308115811c260db00d63b30d"), looks := true }, kinds := [], alts := [], laidByText := true, laidKinds := [.handle], laidTests := true, laidLooks := .later }
def TunnelAllCardSaid : Prop := Claim7.holds Tryz.pinned (.plain (OpenSpec.ofChange tunnelAllSpec)) tunnelAllCard

/-- THE TIED CARD OF 'wicketgatelaw17.TunnelApart'. -/
def tunnelApartCard : Claim7 := { stood := { row := tunnelApartRow, standIns := [], harness := (true, "438f986e788326d642af612ddbaf0901170eb678308115811c260db00d63b30d"), looks := true }, kinds := [], alts := [], laidByText := true, laidKinds := [.handle], laidTests := true, laidLooks := .later }
def TunnelApartCardSaid : Prop := Claim7.holds Tryz.pinned (.plain (OpenSpec.ofChange tunnelApartSpec)) tunnelApartCard

/-- THE TIED CARD OF 'wicketgatelaw17.TunnelEnds'. -/
def tunnelEndsCard : Claim7 := { stood := { row := tunnelEndsRow, standIns := [], harness := (true, "438f986e788326d642af612ddbaf0901170eb678308115811c260db00d63b30d"), looks := true }, kinds := [], alts := [], laidByText := true, laidKinds := [.handle], laidTests := true, laidLooks := .later }
def TunnelEndsCardSaid : Prop := Claim7.holds Tryz.pinned (.plain (OpenSpec.ofChange tunnelEndsSpec)) tunnelEndsCard

/-- THE SECOND FORM's CARD OF 'wicketgatelaw17.TunnelPlays'. -/
def tunnelPlaysUptoCard : Claim7 := { stood := { row := tunnelPlaysUptoRow, standIns := [], harness := (true, "438f986e788326d642af612ddbaf0901170eb678308115811c260db00d63b30d"), looks := true }, kinds := [], alts := [], laidByText := true, laidKinds := [.handle], laidTests := true, laidLooks := .later }
def TunnelPlaysUptoCardSaid : Prop := Claim7.holds Tryz.pinned (.plain (OpenSpec.upto tunnelPlaysSpec)) tunnelPlaysUptoCard

/-- THE SECOND FORM's CARD OF 'wicketgatelaw17.TunnelOrder'. -/
def tunnelOrderUptoCard : Claim7 := { stood := { row := tunnelOrderUptoRow, standIns := [], harness := (true, "438f986e788326d642af612ddbaf0901170eb678308115811c260db00d63b30d"), looks := true }, kinds := [], alts := [], laidByText := true, laidKinds := [.handle], laidTests := true, laidLooks := .later }
def TunnelOrderUptoCardSaid : Prop := Claim7.holds Tryz.pinned (.plain (OpenSpec.upto tunnelOrderSpec)) tunnelOrderUptoCard

/-- THE SECOND FORM's CARD OF 'wicketgatelaw17.TunnelCredit'. -/
def tunnelCreditUptoCard : Claim7 := { stood := { row := tunnelCreditUptoRow, standIns := [], harness := (true, "438f986e788326d642af612ddbaf0901170eb678308115811c260db00d63b30d"), looks := true }, kinds := [], alts := [], laidByText := true, laidKinds := [.handle], laidTests := true, laidLooks := .later }
def TunnelCreditUptoCardSaid : Prop := Claim7.holds Tryz.pinned (.plain (OpenSpec.upto tunnelCreditSpec)) tunnelCreditUptoCard

/-- THE SECOND FORM's CARD OF 'wicketgatelaw17.TunnelStops'. -/
def tunnelStopsUptoCard : Claim7 := { stood := { row := tunnelStopsUptoRow, standIns := [], harness := (true, "438f986e788326d642af612ddbaf0901170eb678308115811c260db00d63b30d"), looks := true }, kinds := [], alts := [], laidByText := true, laidKinds := [.handle], laidTests := true, laidLooks := .later }
def TunnelStopsUptoCardSaid : Prop := Claim7.holds Tryz.pinned (.plain (OpenSpec.upto tunnelStopsSpec)) tunnelStopsUptoCard

/-- THE SECOND FORM's CARD OF 'wicketgatelaw17.TunnelAll'. -/
def tunnelAllUptoCard : Claim7 := { stood := { row := tunnelAllUptoRow, standIns := [], harness := (true, "438f986e788326d642af612ddbaf0901170eb678308115811c260db00d63b30d"), looks := true }, kinds := [], alts := [], laidByText := true, laidKinds := [.handle], laidTests := true, laidLooks := .later }
def TunnelAllUptoCardSaid : Prop := Claim7.holds Tryz.pinned (.plain (OpenSpec.upto tunnelAllSpec)) tunnelAllUptoCard

/-- THE SECOND FORM's CARD OF 'wicketgatelaw17.TunnelApart'. -/
def tunnelApartUptoCard : Claim7 := { stood := { row := tunnelApartUptoRow, standIns := [], harness := (true, "438f986e788326d642af612ddbaf0901170eb678308115811c260db00d63b30d"), looks := true }, kinds := [], alts := [], laidByText := true, laidKinds := [.handle], laidTests := true, laidLooks := .later }
def TunnelApartUptoCardSaid : Prop := Claim7.holds Tryz.pinned (.plain (OpenSpec.upto tunnelApartSpec)) tunnelApartUptoCard

/-- THE SECOND FORM's CARD OF 'wicketgatelaw17.TunnelEnds'. -/
def tunnelEndsUptoCard : Claim7 := { stood := { row := tunnelEndsUptoRow, standIns := [], harness := (true, "438f986e788326d642af612ddbaf0901170eb678308115811c260db00d63b30d"), looks := true }, kinds := [], alts := [], laidByText := true, laidKinds := [.handle], laidTests := true, laidLooks := .later }
def TunnelEndsUptoCardSaid : Prop := Claim7.holds Tryz.pinned (.plain (OpenSpec.upto tunnelEndsSpec)) tunnelEndsUptoCard
end Rows
end Go.Proofs.YtkokcfhfgnkdfaaGreatDoor

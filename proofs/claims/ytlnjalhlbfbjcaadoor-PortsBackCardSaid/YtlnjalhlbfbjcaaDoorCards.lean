/-
  DERIVED. GIVEN WITH THE SEED: THE CARDS: each row of YtlnjalhlbfbjcaaDoorRows.lean that lists a variable, with what it lists TIED to the program's text (the seventh form; the later family's looks); each row that meets fmt, with fmt's text TOLD by the authors' own Lean function (tested against real Go, not proved from fmt's source: count such statements apart). THE CARD IS WHAT COUNTS. Prove the row's statement (the work); the ties are given (YtlnjalhlbfbjcaaDoorTie.lean); close each card by the builder's one call (the guide's Derived/Test/ToyasCard.lean, 'card_holds'). Laid BY PROGRAM, IN A SANDBOX (cutbox-door.mjs). By AI agents, Wed Nov 11 2026. No macro, syntax, notation, axiom, sorry.
-/
import Derived.Test.YtlnjalhlbfbjcaaDoorRows
import GoSem.ClaimSeven
namespace Go.Proofs.YtlnjalhlbfbjcaaDoor
namespace Rows

/-- THE TIED CARD OF 'wicketgatelaw07.PortsBack'. -/
def portsBackCard : Claim7 := { stood := { row := portsBackRow, standIns := [], harness := (true, "6aa2ffe908d3eec38f2920828e361e565865e328c494ff5f621707d35d1f03b9"), looks := true }, kinds := [], alts := [], laidByText := true, laidKinds := [.data, .data, .data, .handle], laidTests := true, laidLooks := .later }
def PortsBackCardSaid : Prop := Claim7.holds Tryd.pinned (.plain (OpenSpec.ofChange portsBackSpec)) portsBackCard

/-- THE TIED CARD OF 'wicketgatelaw07.PortsMeet'. -/
def portsMeetCard : Claim7 := { stood := { row := portsMeetRow, standIns := [], harness := (true, "6aa2ffe908d3eec38f2920828e361e565865e328c494ff5f621707d35d1f03b9"), looks := true }, kinds := [], alts := [], laidByText := true, laidKinds := [.data, .data, .data, .handle], laidTests := true, laidLooks := .later }
def PortsMeetCardSaid : Prop := Claim7.holds Tryd.pinned (.plain (OpenSpec.ofChange portsMeetSpec)) portsMeetCard

/-- THE TIED CARD OF 'wicketgatelaw07.PortsSelf'. -/
def portsSelfCard : Claim7 := { stood := { row := portsSelfRow, standIns := [], harness := (true, "6aa2ffe908d3eec38f2920828e361e565865e328c494ff5f621707d35d1f03b9"), looks := true }, kinds := [], alts := [], laidByText := true, laidKinds := [.data, .data, .data, .handle], laidTests := true, laidLooks := .later }
def PortsSelfCardSaid : Prop := Claim7.holds Tryd.pinned (.plain (OpenSpec.ofChange portsSelfSpec)) portsSelfCard

/-- THE SECOND FORM's CARD OF 'wicketgatelaw07.PortsBack'. -/
def portsBackUptoCard : Claim7 := { stood := { row := portsBackUptoRow, standIns := [], harness := (true, "6aa2ffe908d3eec38f2920828e361e565865e328c494ff5f621707d35d1f03b9"), looks := true }, kinds := [], alts := [], laidByText := true, laidKinds := [.data, .data, .data, .handle], laidTests := true, laidLooks := .later }
def PortsBackUptoCardSaid : Prop := Claim7.holds Tryd.pinned (.plain (OpenSpec.upto portsBackSpec)) portsBackUptoCard

/-- THE SECOND FORM's CARD OF 'wicketgatelaw07.PortsMeet'. -/
def portsMeetUptoCard : Claim7 := { stood := { row := portsMeetUptoRow, standIns := [], harness := (true, "6aa2ffe908d3eec38f2920828e361e565865e328c494ff5f621707d35d1f03b9"), looks := true }, kinds := [], alts := [], laidByText := true, laidKinds := [.data, .data, .data, .handle], laidTests := true, laidLooks := .later }
def PortsMeetUptoCardSaid : Prop := Claim7.holds Tryd.pinned (.plain (OpenSpec.upto portsMeetSpec)) portsMeetUptoCard

/-- THE SECOND FORM's CARD OF 'wicketgatelaw07.PortsSelf'. -/
def portsSelfUptoCard : Claim7 := { stood := { row := portsSelfUptoRow, standIns := [], harness := (true, "6aa2ffe908d3eec38f2920828e361e565865e328c494ff5f621707d35d1f03b9"), looks := true }, kinds := [], alts := [], laidByText := true, laidKinds := [.data, .data, .data, .handle], laidTests := true, laidLooks := .later }
def PortsSelfUptoCardSaid : Prop := Claim7.holds Tryd.pinned (.plain (OpenSpec.upto portsSelfSpec)) portsSelfUptoCard
end Rows
end Go.Proofs.YtlnjalhlbfbjcaaDoor

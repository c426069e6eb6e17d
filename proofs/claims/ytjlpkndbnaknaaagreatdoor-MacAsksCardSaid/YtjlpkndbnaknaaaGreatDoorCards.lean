/-
  DERIVED. GIVEN WITH THE SEED: THE CARDS: each row of YtjlpkndbnaknaaaGreatDoorRows.lean that lists a variable, with what it lists TIED to the program's text (the seventh form; the later family's looks); each row that meets fmt, with fmt's text TOLD by the authors' own Lean function (tested against real Go, not proved from fmt's source: count such statements apart). THE CARD IS WHAT COUNTS. Prove the row's statement (the work); the ties are given (YtjlpkndbnaknaaaGreatDoorTie.lean); close each card by the builder's one call (the guide's Derived/Test/ToyasCard.lean, 'card_holds'). Laid BY PROGRAM, IN A SANDBOX (cutbox-door.mjs). By AI agents, Wed Nov 11 2026. No macro, syntax, notation, axiom, sorry.
-/
import Derived.Test.YtjlpkndbnaknaaaGreatDoorRows
import GoSem.ClaimSeven
namespace Go.Proofs.YtjlpkndbnaknaaaGreatDoor
namespace Rows

/-- THE TIED CARD OF 'wicketgatelaw05.MacMacs'. -/
def macMacsCard : Claim7 := { stood := { row := macMacsRow, standIns := [], harness := (true, "db1a416adeca5fb2caf72e7a310cdf2e67b4d4b7601ab68194f64a664ad5632d"), looks := true }, kinds := [], alts := [], laidByText := true, laidKinds := [.data, .data, .data, .data, .handle, .data, .data], laidTests := true, laidLooks := .later }
def MacMacsCardSaid : Prop := Claim7.holds Tryz.pinned (.plain (OpenSpec.ofChange macMacsSpec)) macMacsCard

/-- THE TIED CARD OF 'wicketgatelaw05.MacAsks'. -/
def macAsksCard : Claim7 := { stood := { row := macAsksRow, standIns := [], harness := (true, "db1a416adeca5fb2caf72e7a310cdf2e67b4d4b7601ab68194f64a664ad5632d"), looks := true }, kinds := [], alts := [], laidByText := true, laidKinds := [.data, .data, .data, .data, .handle, .data, .data], laidTests := true, laidLooks := .later }
def MacAsksCardSaid : Prop := Claim7.holds Tryz.pinned (.plain (OpenSpec.ofChange macAsksSpec)) macAsksCard

/-- THE SECOND FORM's CARD OF 'wicketgatelaw05.MacMacs'. -/
def macMacsUptoCard : Claim7 := { stood := { row := macMacsUptoRow, standIns := [], harness := (true, "db1a416adeca5fb2caf72e7a310cdf2e67b4d4b7601ab68194f64a664ad5632d"), looks := true }, kinds := [], alts := [], laidByText := true, laidKinds := [.data, .data, .data, .data, .handle, .data, .data], laidTests := true, laidLooks := .later }
def MacMacsUptoCardSaid : Prop := Claim7.holds Tryz.pinned (.plain (OpenSpec.upto macMacsSpec)) macMacsUptoCard

/-- THE SECOND FORM's CARD OF 'wicketgatelaw05.MacAsks'. -/
def macAsksUptoCard : Claim7 := { stood := { row := macAsksUptoRow, standIns := [], harness := (true, "db1a416adeca5fb2caf72e7a310cdf2e67b4d4b7601ab68194f64a664ad5632d"), looks := true }, kinds := [], alts := [], laidByText := true, laidKinds := [.data, .data, .data, .data, .handle, .data, .data], laidTests := true, laidLooks := .later }
def MacAsksUptoCardSaid : Prop := Claim7.holds Tryz.pinned (.plain (OpenSpec.upto macAsksSpec)) macAsksUptoCard
end Rows
end Go.Proofs.YtjlpkndbnaknaaaGreatDoor

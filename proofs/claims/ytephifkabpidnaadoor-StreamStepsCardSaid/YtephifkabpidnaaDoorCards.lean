/-
  DERIVED. GIVEN WITH THE SEED: THE CARDS: each row of YtephifkabpidnaaDoorRows.lean that lists a variable, with what it lists TIED to the program's text (the seventh form; the later family's looks); each row that meets fmt, with fmt's text TOLD by the authors' own Lean function (tested against real Go, not proved from fmt's source: count such statements apart). THE CARD IS WHAT COUNTS. Prove the row's statement (the work); the ties are given (YtephifkabpidnaaDoorTie.lean); close each card by the builder's one call (the guide's Derived/Test/ToyasCard.lean, 'card_holds'). Laid BY PROGRAM, IN A SANDBOX (cutbox-door.mjs). By AI agents, Wed Nov 11 2026. No macro, syntax, notation, axiom, sorry.
-/
import Derived.Test.YtephifkabpidnaaDoorRows
import GoSem.ClaimSeven
namespace Go.Proofs.YtephifkabpidnaaDoor
namespace Rows

/-- THE TIED CARD OF 'wicketgatelaw14.StreamSteps'. -/
def streamStepsCard : Claim7 := { stood := { row := streamStepsRow, standIns := [], harness := (true, "0563d1f2c6218b5a3cfd1dc3f5e4c4dbdcdf92fb6259eb84fc86c56ebdaffd83"), looks := true }, kinds := [], alts := [], laidByText := true, laidKinds := [.handle], laidTests := true, laidLooks := .later }
def StreamStepsCardSaid : Prop := Claim7.holds Tryd.pinned (.plain (OpenSpec.ofChange streamStepsSpec)) streamStepsCard

/-- THE TIED CARD OF 'wicketgatelaw14.StreamEnds'. -/
def streamEndsCard : Claim7 := { stood := { row := streamEndsRow, standIns := [], harness := (true, "0563d1f2c6218b5a3cfd1dc3f5e4c4dbdcdf92fb6259eb84fc86c56ebdaffd83"), looks := true }, kinds := [], alts := [], laidByText := true, laidKinds := [.handle], laidTests := true, laidLooks := .later }
def StreamEndsCardSaid : Prop := Claim7.holds Tryd.pinned (.plain (OpenSpec.ofChange streamEndsSpec)) streamEndsCard

/-- THE TIED CARD OF 'wicketgatelaw14.StreamSides'. -/
def streamSidesCard : Claim7 := { stood := { row := streamSidesRow, standIns := [], harness := (true, "0563d1f2c6218b5a3cfd1dc3f5e4c4dbdcdf92fb6259eb84fc86c56ebdaffd83"), looks := true }, kinds := [], alts := [], laidByText := true, laidKinds := [.handle], laidTests := true, laidLooks := .later }
def StreamSidesCardSaid : Prop := Claim7.holds Tryd.pinned (.plain (OpenSpec.ofChange streamSidesSpec)) streamSidesCard

/-- THE TIED CARD OF 'wicketgatelaw14.StreamParts'. -/
def streamPartsCard : Claim7 := { stood := { row := streamPartsRow, standIns := [], harness := (true, "0563d1f2c6218b5a3cfd1dc3f5e4c4dbdcdf92fb6259eb84fc86c56ebdaffd83"), looks := true }, kinds := [], alts := [], laidByText := true, laidKinds := [.handle], laidTests := true, laidLooks := .later }
def StreamPartsCardSaid : Prop := Claim7.holds Tryd.pinned (.plain (OpenSpec.ofChange streamPartsSpec)) streamPartsCard

/-- THE TIED CARD OF 'wicketgatelaw14.StreamLeast'. -/
def streamLeastCard : Claim7 := { stood := { row := streamLeastRow, standIns := [], harness := (true, "0563d1f2c6218b5a3cfd1dc3f5e4c4dbdcdf92fb6259eb84fc86c56ebdaffd83"), looks := true }, kinds := [], alts := [], laidByText := true, laidKinds := [.handle], laidTests := true, laidLooks := .later }
def StreamLeastCardSaid : Prop := Claim7.holds Tryd.pinned (.plain (OpenSpec.ofChange streamLeastSpec)) streamLeastCard

/-- THE TIED CARD OF 'wicketgatelaw14.StreamEither'. -/
def streamEitherCard : Claim7 := { stood := { row := streamEitherRow, standIns := [], harness := (true, "0563d1f2c6218b5a3cfd1dc3f5e4c4dbdcdf92fb6259eb84fc86c56ebdaffd83"), looks := true }, kinds := [], alts := [], laidByText := true, laidKinds := [.handle], laidTests := true, laidLooks := .later }
def StreamEitherCardSaid : Prop := Claim7.holds Tryd.pinned (.plain (OpenSpec.ofChange streamEitherSpec)) streamEitherCard

/-- THE TIED CARD OF 'wicketgatelaw14.StreamFirst'. -/
def streamFirstCard : Claim7 := { stood := { row := streamFirstRow, standIns := [], harness := (true, "0563d1f2c6218b5a3cfd1dc3f5e4c4dbdcdf92fb6259eb84fc86c56ebdaffd83"), looks := true }, kinds := [], alts := [], laidByText := true, laidKinds := [.handle], laidTests := true, laidLooks := .later }
def StreamFirstCardSaid : Prop := Claim7.holds Tryd.pinned (.plain (OpenSpec.ofChange streamFirstSpec)) streamFirstCard

/-- THE SECOND FORM's CARD OF 'wicketgatelaw14.StreamSteps'. -/
def streamStepsUptoCard : Claim7 := { stood := { row := streamStepsUptoRow, standIns := [], harness := (true, "0563d1f2c6218b5a3cfd1dc3f5e4c4dbdcdf92fb6259eb84fc86c56ebdaffd83"), looks := true }, kinds := [], alts := [], laidByText := true, laidKinds := [.handle], laidTests := true, laidLooks := .later }
def StreamStepsUptoCardSaid : Prop := Claim7.holds Tryd.pinned (.plain (OpenSpec.upto streamStepsSpec)) streamStepsUptoCard

/-- THE SECOND FORM's CARD OF 'wicketgatelaw14.StreamEnds'. -/
def streamEndsUptoCard : Claim7 := { stood := { row := streamEndsUptoRow, standIns := [], harness := (true, "0563d1f2c6218b5a3cfd1dc3f5e4c4dbdcdf92fb6259eb84fc86c56ebdaffd83"), looks := true }, kinds := [], alts := [], laidByText := true, laidKinds := [.handle], laidTests := true, laidLooks := .later }
def StreamEndsUptoCardSaid : Prop := Claim7.holds Tryd.pinned (.plain (OpenSpec.upto streamEndsSpec)) streamEndsUptoCard

/-- THE SECOND FORM's CARD OF 'wicketgatelaw14.StreamSides'. -/
def streamSidesUptoCard : Claim7 := { stood := { row := streamSidesUptoRow, standIns := [], harness := (true, "0563d1f2c6218b5a3cfd1dc3f5e4c4dbdcdf92fb6259eb84fc86c56ebdaffd83"), looks := true }, kinds := [], alts := [], laidByText := true, laidKinds := [.handle], laidTests := true, laidLooks := .later }
def StreamSidesUptoCardSaid : Prop := Claim7.holds Tryd.pinned (.plain (OpenSpec.upto streamSidesSpec)) streamSidesUptoCard

/-- THE SECOND FORM's CARD OF 'wicketgatelaw14.StreamParts'. -/
def streamPartsUptoCard : Claim7 := { stood := { row := streamPartsUptoRow, standIns := [], harness := (true, "0563d1f2c6218b5a3cfd1dc3f5e4c4dbdcdf92fb6259eb84fc86c56ebdaffd83"), looks := true }, kinds := [], alts := [], laidByText := true, laidKinds := [.handle], laidTests := true, laidLooks := .later }
def StreamPartsUptoCardSaid : Prop := Claim7.holds Tryd.pinned (.plain (OpenSpec.upto streamPartsSpec)) streamPartsUptoCard

/-- THE SECOND FORM's CARD OF 'wicketgatelaw14.StreamLeast'. -/
def streamLeastUptoCard : Claim7 := { stood := { row := streamLeastUptoRow, standIns := [], harness := (true, "0563d1f2c6218b5a3cfd1dc3f5e4c4dbdcdf92fb6259eb84fc86c56ebdaffd83"), looks := true }, kinds := [], alts := [], laidByText := true, laidKinds := [.handle], laidTests := true, laidLooks := .later }
def StreamLeastUptoCardSaid : Prop := Claim7.holds Tryd.pinned (.plain (OpenSpec.upto streamLeastSpec)) streamLeastUptoCard

/-- THE SECOND FORM's CARD OF 'wicketgatelaw14.StreamEither'. -/
def streamEitherUptoCard : Claim7 := { stood := { row := streamEitherUptoRow, standIns := [], harness := (true, "0563d1f2c6218b5a3cfd1dc3f5e4c4dbdcdf92fb6259eb84fc86c56ebdaffd83"), looks := true }, kinds := [], alts := [], laidByText := true, laidKinds := [.handle], laidTests := true, laidLooks := .later }
def StreamEitherUptoCardSaid : Prop := Claim7.holds Tryd.pinned (.plain (OpenSpec.upto streamEitherSpec)) streamEitherUptoCard

/-- THE SECOND FORM's CARD OF 'wicketgatelaw14.StreamFirst'. -/
def streamFirstUptoCard : Claim7 := { stood := { row := streamFirstUptoRow, standIns := [], harness := (true, "0563d1f2c6218b5a3cfd1dc3f5e4c4dbdcdf92fb6259eb84fc86c56ebdaffd83"), looks := true }, kinds := [], alts := [], laidByText := true, laidKinds := [.handle], laidTests := true, laidLooks := .later }
def StreamFirstUptoCardSaid : Prop := Claim7.holds Tryd.pinned (.plain (OpenSpec.upto streamFirstSpec)) streamFirstUptoCard
end Rows
end Go.Proofs.YtephifkabpidnaaDoor

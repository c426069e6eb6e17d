/-
  DERIVED. GIVEN WITH THE SEED: THE CARDS: each row of YtjlpkndbnaknaaaDoorRows.lean that lists a variable, with what it lists TIED to the program's text (the seventh form; the later family's looks); each row that meets fmt, with fmt's text TOLD by the authors' own Lean function (tested against real Go, not proved from fmt's source: count such statements apart). THE CARD IS WHAT COUNTS. Prove the row's statement (the work); the ties are given (YtjlpkndbnaknaaaDoorTie.lean); close each card by the builder's one call (the guide's Derived/Test/ToyasCard.lean, 'card_holds'). Laid BY PROGRAM, IN A SANDBOX (cutbox-door.mjs). By AI agents, Wed Nov 11 2026. No macro, syntax, notation, axiom, sorry.
-/
import Derived.Test.YtjlpkndbnaknaaaDoorRows
import GoSem.ClaimSeven
namespace Go.Proofs.YtjlpkndbnaknaaaDoor
namespace Rows

/-- THE TIED CARD OF 'wicketgatelaw05.MacPads'. -/
def macPadsCard : Claim7 := { stood := { row := macPadsRow, standIns := [], harness := (true, "f5a17ec07d8895b9023803d82f60c64a59ad61289914746c91140565b901c8d0"), looks := true }, kinds := [], alts := [], laidByText := true, laidKinds := [.data, .data, .data, .handle, .data, .data], laidTests := true, laidLooks := .later }
def MacPadsCardSaid : Prop := Claim7.holds Tryd.pinned (.plain (OpenSpec.ofChange macPadsSpec)) macPadsCard

/-- THE TIED CARD OF 'wicketgatelaw05.MacAnswers'. -/
def macAnswersCard : Claim7 := { stood := { row := macAnswersRow, standIns := [], harness := (true, "f5a17ec07d8895b9023803d82f60c64a59ad61289914746c91140565b901c8d0"), looks := true }, kinds := [], alts := [], laidByText := true, laidKinds := [.data, .data, .data, .handle, .data, .data], laidTests := true, laidLooks := .later }
def MacAnswersCardSaid : Prop := Claim7.holds Tryd.pinned (.plain (OpenSpec.ofChange macAnswersSpec)) macAnswersCard

/-- THE TIED CARD OF 'wicketgatelaw05.MacSums'. -/
def macSumsCard : Claim7 := { stood := { row := macSumsRow, standIns := [], harness := (true, "f5a17ec07d8895b9023803d82f60c64a59ad61289914746c91140565b901c8d0"), looks := true }, kinds := [], alts := [], laidByText := true, laidKinds := [.data, .data, .data, .handle, .data, .data], laidTests := true, laidLooks := .later }
def MacSumsCardSaid : Prop := Claim7.holds Tryd.pinned (.plain (OpenSpec.ofChange macSumsSpec)) macSumsCard

/-- THE SECOND FORM's CARD OF 'wicketgatelaw05.MacPads'. -/
def macPadsUptoCard : Claim7 := { stood := { row := macPadsUptoRow, standIns := [], harness := (true, "f5a17ec07d8895b9023803d82f60c64a59ad61289914746c91140565b901c8d0"), looks := true }, kinds := [], alts := [], laidByText := true, laidKinds := [.data, .data, .data, .handle, .data, .data], laidTests := true, laidLooks := .later }
def MacPadsUptoCardSaid : Prop := Claim7.holds Tryd.pinned (.plain (OpenSpec.upto macPadsSpec)) macPadsUptoCard

/-- THE SECOND FORM's CARD OF 'wicketgatelaw05.MacAnswers'. -/
def macAnswersUptoCard : Claim7 := { stood := { row := macAnswersUptoRow, standIns := [], harness := (true, "f5a17ec07d8895b9023803d82f60c64a59ad61289914746c91140565b901c8d0"), looks := true }, kinds := [], alts := [], laidByText := true, laidKinds := [.data, .data, .data, .handle, .data, .data], laidTests := true, laidLooks := .later }
def MacAnswersUptoCardSaid : Prop := Claim7.holds Tryd.pinned (.plain (OpenSpec.upto macAnswersSpec)) macAnswersUptoCard

/-- THE SECOND FORM's CARD OF 'wicketgatelaw05.MacSums'. -/
def macSumsUptoCard : Claim7 := { stood := { row := macSumsUptoRow, standIns := [], harness := (true, "f5a17ec07d8895b9023803d82f60c64a59ad61289914746c91140565b901c8d0"), looks := true }, kinds := [], alts := [], laidByText := true, laidKinds := [.data, .data, .data, .handle, .data, .data], laidTests := true, laidLooks := .later }
def MacSumsUptoCardSaid : Prop := Claim7.holds Tryd.pinned (.plain (OpenSpec.upto macSumsSpec)) macSumsUptoCard
end Rows
end Go.Proofs.YtjlpkndbnaknaaaDoor

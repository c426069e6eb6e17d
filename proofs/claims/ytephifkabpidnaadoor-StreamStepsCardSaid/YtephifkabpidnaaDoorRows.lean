/-
  NARROWER THAN 'FOR EVERY INPUT', by the rows' own cells (each row's printed sentence says how): StreamSteps: laid · StreamEnds: laid · StreamSides: laid · StreamParts: laid · StreamLeast: laid · StreamEither: laid · StreamFirst: laid.
  DERIVED. THE GIVEN ROWS OF THIS SEAT. 7 by the template 'for every input the law returns true; each argument reads behind the call as it read before'; 0 by the template 'total and deterministic' (their statements: YtephifkabpidnaaDoorTotals.lean).
  GIVEN WITH THE SEED: the statements are not yours to turn. If you find one false, say at which input.
  Laid BY PROGRAM, IN A SANDBOX (cutbox-rows.mjs): the forced cells as the released guide's own fill.sh prints them over the translation 244bb21bfff916fd… (all of the seat's roots in one cut). By AI agents, Wed Nov 11 2026. No macro, syntax, notation, axiom, sorry.
-/
import Derived.Test.YtephifkabpidnaaDoorChecked
import GoSem.Claim
import GoSem.ClaimJoined
import GoSem.ClaimMapViews
import Derived.JoinedTies
import Derived.KernelRfl
namespace Go.Proofs.YtephifkabpidnaaDoor
/- THE CELL 'sum', in the pinned program and in every row, IS THE sha256 OF THE DUMP (.gsa) THAT YtephifkabpidnaaDoorProg.lean LOADS. Nothing in Lean hashes anything: it is a label: what it is worth is what the hold of that sum in a sandbox is worth. -/
noncomputable def Tryd.pinned : Pinned := { name := "ytephifkabpidnaadoor", sum := "244bb21bfff916fd25227a95ab7e495fab2bb541ef8d8a36d7540d91f38fc11c", checked := Tryd.checked }
namespace Rows
def none {H : Type} : Left H := { results := [], args := [] }

/- WHAT THE LISTED PACKAGE-LEVEL VARIABLES READ AS WHEN THE CALL BEGINS. Each datum BY PROGRAM (the guide's laid-datum.mjs) off the statement by which the dump's own 'gosem.cut.vars' lays the variable. In a bare row this is a premise. The card (YtephifkabpidnaaDoorCards.lean) ties it to the program's text. -/
def laid_errors_errorType {H : Type} : DataW H := .iface "internal/reflectlite.rtype" (.agg [.ptr (.lit (.string [101, 114, 114, 111, 114]))])

/-- 'wicketgatelaw14.StreamSteps': WHATEVER THE INPUT: true; the input reads as it did. -/
def streamStepsSpec : ChangeSpec := { name := "streamSteps", fn := fun _ => fun
  | [d1, d2, d3] => { results := [.lit (.bool true)], args := [d1, d2, d3] }
  | _ => none }
def streamStepsRow : OpenClaim := { program := "ytephifkabpidnaadoor", sum := "244bb21bfff916fd25227a95ab7e495fab2bb541ef8d8a36d7540d91f38fc11c", func := "wicketgate/wicketgatelaw14.StreamSteps", spec := "streamSteps", inPlace := ["internal/reflectlite.ValueOf", "(internal/reflectlite.Value).Type", "(internal/reflectlite.Value).IsNil", "internal/reflectlite.TypeOf", "(internal/reflectlite.Value).Elem", "(internal/reflectlite.Value).Set"], unfollowed := true, recurses := true, named := ["errors.errorType"], apart := false, laid := [("errors.errorType", laid_errors_errorType)] }
def StreamStepsSaid : Prop := streamStepsRow.holds Tryd.pinned (OpenSpec.ofChange streamStepsSpec)

/-- ITS FALSE NEIGHBOUR: 'it returns false'. Refute it at one input. -/
def streamStepsWrong : ChangeSpec := { name := "streamSteps", fn := fun _ => fun
  | [d1, d2, d3] => { results := [.lit (.bool false)], args := [d1, d2, d3] }
  | _ => none }
def StreamStepsWrongFalsely : Prop := streamStepsRow.holds Tryd.pinned (OpenSpec.ofChange streamStepsWrong)

/-- 'wicketgatelaw14.StreamEnds': WHATEVER THE INPUT: true; the input reads as it did. -/
def streamEndsSpec : ChangeSpec := { name := "streamEnds", fn := fun _ => fun
  | [d1, d2] => { results := [.lit (.bool true)], args := [d1, d2] }
  | _ => none }
def streamEndsRow : OpenClaim := { program := "ytephifkabpidnaadoor", sum := "244bb21bfff916fd25227a95ab7e495fab2bb541ef8d8a36d7540d91f38fc11c", func := "wicketgate/wicketgatelaw14.StreamEnds", spec := "streamEnds", inPlace := ["internal/reflectlite.ValueOf", "(internal/reflectlite.Value).Type", "(internal/reflectlite.Value).IsNil", "internal/reflectlite.TypeOf", "(internal/reflectlite.Value).Elem", "(internal/reflectlite.Value).Set"], unfollowed := true, recurses := true, named := ["errors.errorType"], apart := false, laid := [("errors.errorType", laid_errors_errorType)] }
def StreamEndsSaid : Prop := streamEndsRow.holds Tryd.pinned (OpenSpec.ofChange streamEndsSpec)

/-- ITS FALSE NEIGHBOUR: 'it returns false'. Refute it at one input. -/
def streamEndsWrong : ChangeSpec := { name := "streamEnds", fn := fun _ => fun
  | [d1, d2] => { results := [.lit (.bool false)], args := [d1, d2] }
  | _ => none }
def StreamEndsWrongFalsely : Prop := streamEndsRow.holds Tryd.pinned (OpenSpec.ofChange streamEndsWrong)

/-- 'wicketgatelaw14.StreamSides': WHATEVER THE INPUT: true; the input reads as it did. -/
def streamSidesSpec : ChangeSpec := { name := "streamSides", fn := fun _ => fun
  | [d1, d2, d3] => { results := [.lit (.bool true)], args := [d1, d2, d3] }
  | _ => none }
def streamSidesRow : OpenClaim := { program := "ytephifkabpidnaadoor", sum := "244bb21bfff916fd25227a95ab7e495fab2bb541ef8d8a36d7540d91f38fc11c", func := "wicketgate/wicketgatelaw14.StreamSides", spec := "streamSides", inPlace := ["internal/reflectlite.ValueOf", "(internal/reflectlite.Value).Type", "(internal/reflectlite.Value).IsNil", "internal/reflectlite.TypeOf", "(internal/reflectlite.Value).Elem", "(internal/reflectlite.Value).Set"], unfollowed := true, recurses := true, named := ["errors.errorType"], apart := false, laid := [("errors.errorType", laid_errors_errorType)] }
def StreamSidesSaid : Prop := streamSidesRow.holds Tryd.pinned (OpenSpec.ofChange streamSidesSpec)

/-- ITS FALSE NEIGHBOUR: 'it returns false'. Refute it at one input. -/
def streamSidesWrong : ChangeSpec := { name := "streamSides", fn := fun _ => fun
  | [d1, d2, d3] => { results := [.lit (.bool false)], args := [d1, d2, d3] }
  | _ => none }
def StreamSidesWrongFalsely : Prop := streamSidesRow.holds Tryd.pinned (OpenSpec.ofChange streamSidesWrong)

/-- 'wicketgatelaw14.StreamParts': WHATEVER THE INPUT: true; the input reads as it did. -/
def streamPartsSpec : ChangeSpec := { name := "streamParts", fn := fun _ => fun
  | [d1, d2, d3] => { results := [.lit (.bool true)], args := [d1, d2, d3] }
  | _ => none }
def streamPartsRow : OpenClaim := { program := "ytephifkabpidnaadoor", sum := "244bb21bfff916fd25227a95ab7e495fab2bb541ef8d8a36d7540d91f38fc11c", func := "wicketgate/wicketgatelaw14.StreamParts", spec := "streamParts", inPlace := ["internal/reflectlite.ValueOf", "(internal/reflectlite.Value).Type", "(internal/reflectlite.Value).IsNil", "internal/reflectlite.TypeOf", "(internal/reflectlite.Value).Elem", "(internal/reflectlite.Value).Set"], unfollowed := true, recurses := true, named := ["errors.errorType"], apart := false, laid := [("errors.errorType", laid_errors_errorType)] }
def StreamPartsSaid : Prop := streamPartsRow.holds Tryd.pinned (OpenSpec.ofChange streamPartsSpec)

/-- ITS FALSE NEIGHBOUR: 'it returns false'. Refute it at one input. -/
def streamPartsWrong : ChangeSpec := { name := "streamParts", fn := fun _ => fun
  | [d1, d2, d3] => { results := [.lit (.bool false)], args := [d1, d2, d3] }
  | _ => none }
def StreamPartsWrongFalsely : Prop := streamPartsRow.holds Tryd.pinned (OpenSpec.ofChange streamPartsWrong)

/-- 'wicketgatelaw14.StreamLeast': WHATEVER THE INPUT: true; the input reads as it did. -/
def streamLeastSpec : ChangeSpec := { name := "streamLeast", fn := fun _ => fun
  | [d1, d2] => { results := [.lit (.bool true)], args := [d1, d2] }
  | _ => none }
def streamLeastRow : OpenClaim := { program := "ytephifkabpidnaadoor", sum := "244bb21bfff916fd25227a95ab7e495fab2bb541ef8d8a36d7540d91f38fc11c", func := "wicketgate/wicketgatelaw14.StreamLeast", spec := "streamLeast", inPlace := ["internal/reflectlite.ValueOf", "(internal/reflectlite.Value).Type", "(internal/reflectlite.Value).IsNil", "internal/reflectlite.TypeOf", "(internal/reflectlite.Value).Elem", "(internal/reflectlite.Value).Set"], unfollowed := true, recurses := true, named := ["errors.errorType"], apart := false, laid := [("errors.errorType", laid_errors_errorType)] }
def StreamLeastSaid : Prop := streamLeastRow.holds Tryd.pinned (OpenSpec.ofChange streamLeastSpec)

/-- ITS FALSE NEIGHBOUR: 'it returns false'. Refute it at one input. -/
def streamLeastWrong : ChangeSpec := { name := "streamLeast", fn := fun _ => fun
  | [d1, d2] => { results := [.lit (.bool false)], args := [d1, d2] }
  | _ => none }
def StreamLeastWrongFalsely : Prop := streamLeastRow.holds Tryd.pinned (OpenSpec.ofChange streamLeastWrong)

/-- 'wicketgatelaw14.StreamEither': WHATEVER THE INPUT: true; the input reads as it did. -/
def streamEitherSpec : ChangeSpec := { name := "streamEither", fn := fun _ => fun
  | [d] => { results := [.lit (.bool true)], args := [d] }
  | _ => none }
def streamEitherRow : OpenClaim := { program := "ytephifkabpidnaadoor", sum := "244bb21bfff916fd25227a95ab7e495fab2bb541ef8d8a36d7540d91f38fc11c", func := "wicketgate/wicketgatelaw14.StreamEither", spec := "streamEither", inPlace := ["internal/reflectlite.ValueOf", "(internal/reflectlite.Value).Type", "(internal/reflectlite.Value).IsNil", "internal/reflectlite.TypeOf", "(internal/reflectlite.Value).Elem", "(internal/reflectlite.Value).Set"], unfollowed := true, recurses := true, named := ["errors.errorType"], apart := false, laid := [("errors.errorType", laid_errors_errorType)] }
def StreamEitherSaid : Prop := streamEitherRow.holds Tryd.pinned (OpenSpec.ofChange streamEitherSpec)

/-- ITS FALSE NEIGHBOUR: 'it returns false'. Refute it at one input. -/
def streamEitherWrong : ChangeSpec := { name := "streamEither", fn := fun _ => fun
  | [d] => { results := [.lit (.bool false)], args := [d] }
  | _ => none }
def StreamEitherWrongFalsely : Prop := streamEitherRow.holds Tryd.pinned (OpenSpec.ofChange streamEitherWrong)

/-- 'wicketgatelaw14.StreamFirst': WHATEVER THE INPUT: true; the input reads as it did. -/
def streamFirstSpec : ChangeSpec := { name := "streamFirst", fn := fun _ => fun
  | [d1, d2] => { results := [.lit (.bool true)], args := [d1, d2] }
  | _ => none }
def streamFirstRow : OpenClaim := { program := "ytephifkabpidnaadoor", sum := "244bb21bfff916fd25227a95ab7e495fab2bb541ef8d8a36d7540d91f38fc11c", func := "wicketgate/wicketgatelaw14.StreamFirst", spec := "streamFirst", inPlace := ["internal/reflectlite.ValueOf", "(internal/reflectlite.Value).Type", "(internal/reflectlite.Value).IsNil", "internal/reflectlite.TypeOf", "(internal/reflectlite.Value).Elem", "(internal/reflectlite.Value).Set"], unfollowed := true, recurses := true, named := ["errors.errorType"], apart := false, laid := [("errors.errorType", laid_errors_errorType)] }
def StreamFirstSaid : Prop := streamFirstRow.holds Tryd.pinned (OpenSpec.ofChange streamFirstSpec)

/-- ITS FALSE NEIGHBOUR: 'it returns false'. Refute it at one input. -/
def streamFirstWrong : ChangeSpec := { name := "streamFirst", fn := fun _ => fun
  | [d1, d2] => { results := [.lit (.bool false)], args := [d1, d2] }
  | _ => none }
def StreamFirstWrongFalsely : Prop := streamFirstRow.holds Tryd.pinned (OpenSpec.ofChange streamFirstWrong)

/- THE SECOND FORM. 'bulk': how many values and letters a reading holds, each counted each time it is reached (what is shared counts as often as it is met; a slice's spare places count too). A statement '..UptoSaid' is the law's where the arguments, and the package variables that the reading takes, are together of bulk at most 1048576: NARROWER than '..Said'. Prove '..Said' where nothing that the law and all that it calls make is longer than what came in: it says more and counts as full. Else prove '..UptoSaid'. A law counts once. -/
mutual
def uptoBulk {H : Type} : DataW H → Nat
  | .lit (.string bytes) => bytes.length + 1
  | .lit _ => 1
  | .nil => 1
  | .ptr d => uptoBulk d + 1
  | .slice elems spare => uptoBulkAll elems + uptoBulkAll spare + 1
  | .agg parts => uptoBulkAll parts + 1
  | .iface _ d => uptoBulk d + 1
  | .map entries => uptoBulkEntries entries + 1
  | .held _ => 1
def uptoBulkAll {H : Type} : List (DataW H) → Nat
  | [] => 0
  | d :: r => uptoBulk d + uptoBulkAll r
def uptoBulkEntries {H : Type} : List (Lit × DataW H) → Nat
  | [] => 0
  | x :: r => uptoBulkEntry x + uptoBulkEntries r
def uptoBulkEntry {H : Type} : Lit × DataW H → Nat
  | (.string bytes, d) => bytes.length + uptoBulk d + 1
  | (_, d) => uptoBulk d + 1
 end
def uptoSmall : (H : Type) → List (DataW H) → Bool := fun _ ds => decide (uptoBulkAll ds ≤ 1048576)
def OpenSpec.upto (s : _root_.Go.ChangeSpec) : _root_.Go.OpenSpec := { _root_.Go.OpenSpec.ofChange s with cond := some uptoSmall }

/-- 'wicketgatelaw14.StreamSteps', WHERE WHAT IT READS IS OF BULK AT MOST 1048576: true; the input reads as it did. -/
def streamStepsUptoRow : OpenClaim := { program := "ytephifkabpidnaadoor", sum := "244bb21bfff916fd25227a95ab7e495fab2bb541ef8d8a36d7540d91f38fc11c", func := "wicketgate/wicketgatelaw14.StreamSteps", spec := "streamSteps", inPlace := ["internal/reflectlite.ValueOf", "(internal/reflectlite.Value).Type", "(internal/reflectlite.Value).IsNil", "internal/reflectlite.TypeOf", "(internal/reflectlite.Value).Elem", "(internal/reflectlite.Value).Set"], unfollowed := true, recurses := true, named := ["errors.errorType"], apart := false, laid := [("errors.errorType", laid_errors_errorType)], narrowed := true }
def StreamStepsUptoSaid : Prop := streamStepsUptoRow.holds Tryd.pinned (OpenSpec.upto streamStepsSpec)

/-- 'wicketgatelaw14.StreamEnds', WHERE WHAT IT READS IS OF BULK AT MOST 1048576: true; the input reads as it did. -/
def streamEndsUptoRow : OpenClaim := { program := "ytephifkabpidnaadoor", sum := "244bb21bfff916fd25227a95ab7e495fab2bb541ef8d8a36d7540d91f38fc11c", func := "wicketgate/wicketgatelaw14.StreamEnds", spec := "streamEnds", inPlace := ["internal/reflectlite.ValueOf", "(internal/reflectlite.Value).Type", "(internal/reflectlite.Value).IsNil", "internal/reflectlite.TypeOf", "(internal/reflectlite.Value).Elem", "(internal/reflectlite.Value).Set"], unfollowed := true, recurses := true, named := ["errors.errorType"], apart := false, laid := [("errors.errorType", laid_errors_errorType)], narrowed := true }
def StreamEndsUptoSaid : Prop := streamEndsUptoRow.holds Tryd.pinned (OpenSpec.upto streamEndsSpec)

/-- 'wicketgatelaw14.StreamSides', WHERE WHAT IT READS IS OF BULK AT MOST 1048576: true; the input reads as it did. -/
def streamSidesUptoRow : OpenClaim := { program := "ytephifkabpidnaadoor", sum := "244bb21bfff916fd25227a95ab7e495fab2bb541ef8d8a36d7540d91f38fc11c", func := "wicketgate/wicketgatelaw14.StreamSides", spec := "streamSides", inPlace := ["internal/reflectlite.ValueOf", "(internal/reflectlite.Value).Type", "(internal/reflectlite.Value).IsNil", "internal/reflectlite.TypeOf", "(internal/reflectlite.Value).Elem", "(internal/reflectlite.Value).Set"], unfollowed := true, recurses := true, named := ["errors.errorType"], apart := false, laid := [("errors.errorType", laid_errors_errorType)], narrowed := true }
def StreamSidesUptoSaid : Prop := streamSidesUptoRow.holds Tryd.pinned (OpenSpec.upto streamSidesSpec)

/-- 'wicketgatelaw14.StreamParts', WHERE WHAT IT READS IS OF BULK AT MOST 1048576: true; the input reads as it did. -/
def streamPartsUptoRow : OpenClaim := { program := "ytephifkabpidnaadoor", sum := "244bb21bfff916fd25227a95ab7e495fab2bb541ef8d8a36d7540d91f38fc11c", func := "wicketgate/wicketgatelaw14.StreamParts", spec := "streamParts", inPlace := ["internal/reflectlite.ValueOf", "(internal/reflectlite.Value).Type", "(internal/reflectlite.Value).IsNil", "internal/reflectlite.TypeOf", "(internal/reflectlite.Value).Elem", "(internal/reflectlite.Value).Set"], unfollowed := true, recurses := true, named := ["errors.errorType"], apart := false, laid := [("errors.errorType", laid_errors_errorType)], narrowed := true }
def StreamPartsUptoSaid : Prop := streamPartsUptoRow.holds Tryd.pinned (OpenSpec.upto streamPartsSpec)

/-- 'wicketgatelaw14.StreamLeast', WHERE WHAT IT READS IS OF BULK AT MOST 1048576: true; the input reads as it did. -/
def streamLeastUptoRow : OpenClaim := { program := "ytephifkabpidnaadoor", sum := "244bb21bfff916fd25227a95ab7e495fab2bb541ef8d8a36d7540d91f38fc11c", func := "wicketgate/wicketgatelaw14.StreamLeast", spec := "streamLeast", inPlace := ["internal/reflectlite.ValueOf", "(internal/reflectlite.Value).Type", "(internal/reflectlite.Value).IsNil", "internal/reflectlite.TypeOf", "(internal/reflectlite.Value).Elem", "(internal/reflectlite.Value).Set"], unfollowed := true, recurses := true, named := ["errors.errorType"], apart := false, laid := [("errors.errorType", laid_errors_errorType)], narrowed := true }
def StreamLeastUptoSaid : Prop := streamLeastUptoRow.holds Tryd.pinned (OpenSpec.upto streamLeastSpec)

/-- 'wicketgatelaw14.StreamEither', WHERE WHAT IT READS IS OF BULK AT MOST 1048576: true; the input reads as it did. -/
def streamEitherUptoRow : OpenClaim := { program := "ytephifkabpidnaadoor", sum := "244bb21bfff916fd25227a95ab7e495fab2bb541ef8d8a36d7540d91f38fc11c", func := "wicketgate/wicketgatelaw14.StreamEither", spec := "streamEither", inPlace := ["internal/reflectlite.ValueOf", "(internal/reflectlite.Value).Type", "(internal/reflectlite.Value).IsNil", "internal/reflectlite.TypeOf", "(internal/reflectlite.Value).Elem", "(internal/reflectlite.Value).Set"], unfollowed := true, recurses := true, named := ["errors.errorType"], apart := false, laid := [("errors.errorType", laid_errors_errorType)], narrowed := true }
def StreamEitherUptoSaid : Prop := streamEitherUptoRow.holds Tryd.pinned (OpenSpec.upto streamEitherSpec)

/-- 'wicketgatelaw14.StreamFirst', WHERE WHAT IT READS IS OF BULK AT MOST 1048576: true; the input reads as it did. -/
def streamFirstUptoRow : OpenClaim := { program := "ytephifkabpidnaadoor", sum := "244bb21bfff916fd25227a95ab7e495fab2bb541ef8d8a36d7540d91f38fc11c", func := "wicketgate/wicketgatelaw14.StreamFirst", spec := "streamFirst", inPlace := ["internal/reflectlite.ValueOf", "(internal/reflectlite.Value).Type", "(internal/reflectlite.Value).IsNil", "internal/reflectlite.TypeOf", "(internal/reflectlite.Value).Elem", "(internal/reflectlite.Value).Set"], unfollowed := true, recurses := true, named := ["errors.errorType"], apart := false, laid := [("errors.errorType", laid_errors_errorType)], narrowed := true }
def StreamFirstUptoSaid : Prop := streamFirstUptoRow.holds Tryd.pinned (OpenSpec.upto streamFirstSpec)

end Rows
end Go.Proofs.YtephifkabpidnaaDoor

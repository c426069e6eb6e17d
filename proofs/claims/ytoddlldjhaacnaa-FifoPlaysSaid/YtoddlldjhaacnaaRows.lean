/-
  No cell of these rows narrows 'for every input' (looked for: loops, veiled, ifaces, maps, wideKeys, modest, calm, conditions, laid).
  DERIVED. THE GIVEN ROWS OF THIS SEAT. 5 by the template 'for every input the law returns true; each argument reads behind the call as it read before'; 0 by the template 'total and deterministic' (their statements: YtoddlldjhaacnaaTotals.lean).
  GIVEN WITH THE SEED: the statements are not yours to turn. If you find one false, say at which input.
  Laid BY PROGRAM, IN A SANDBOX (cutbox-rows.mjs): the forced cells as the released guide's own fill.sh prints them over the translation 3a82d633c24c82c4… (all of the seat's roots in one cut). By AI agents, Wed Nov 11 2026. No macro, syntax, notation, axiom, sorry.
-/
import Derived.Test.YtoddlldjhaacnaaChecked
import GoSem.Claim
import GoSem.ClaimJoined
import GoSem.ClaimMapViews
import Derived.JoinedTies
import Derived.KernelRfl
namespace Go.Proofs.Ytoddlldjhaacnaa
/- THE CELL 'sum', in the pinned program and in every row, IS THE sha256 OF THE DUMP (.gsa) THAT YtoddlldjhaacnaaProg.lean LOADS. Nothing in Lean hashes anything: it is a label: what it is worth is what the hold of that sum in a sandbox is worth. -/
noncomputable def Try.pinned : Pinned := { name := "ytoddlldjhaacnaa", sum := "3a82d633c24c82c42e4b72d3cc40f7f32be9d72402e2af6bf7f6f59b6c667cec", checked := Try.checked }
namespace Rows
def none {H : Type} : Left H := { results := [], args := [] }

/-- 'wicketgatelaw01.FifoPlays': WHATEVER THE INPUT: true; the input reads as it did. -/
def fifoPlaysSpec : ChangeSpec := { name := "fifoPlays", fn := fun _ => fun
  | [d1, d2] => { results := [.lit (.bool true)], args := [d1, d2] }
  | _ => none }
def fifoPlaysRow : OpenClaim := { program := "ytoddlldjhaacnaa", sum := "3a82d633c24c82c42e4b72d3cc40f7f32be9d72402e2af6bf7f6f59b6c667cec", func := "wicketgate/wicketgatelaw01.FifoPlays", spec := "fifoPlays", unfollowed := true, recurses := true, apart := false }
def FifoPlaysSaid : Prop := fifoPlaysRow.holds Try.pinned (OpenSpec.ofChange fifoPlaysSpec)

/-- ITS FALSE NEIGHBOUR: 'it returns false'. Refute it at one input. -/
def fifoPlaysWrong : ChangeSpec := { name := "fifoPlays", fn := fun _ => fun
  | [d1, d2] => { results := [.lit (.bool false)], args := [d1, d2] }
  | _ => none }
def FifoPlaysWrongFalsely : Prop := fifoPlaysRow.holds Try.pinned (OpenSpec.ofChange fifoPlaysWrong)

/-- 'wicketgatelaw01.FifoOrder': WHATEVER THE INPUT: true; the input reads as it did. -/
def fifoOrderSpec : ChangeSpec := { name := "fifoOrder", fn := fun _ => fun
  | [d1, d2] => { results := [.lit (.bool true)], args := [d1, d2] }
  | _ => none }
def fifoOrderRow : OpenClaim := { program := "ytoddlldjhaacnaa", sum := "3a82d633c24c82c42e4b72d3cc40f7f32be9d72402e2af6bf7f6f59b6c667cec", func := "wicketgate/wicketgatelaw01.FifoOrder", spec := "fifoOrder", unfollowed := true, recurses := true, apart := false }
def FifoOrderSaid : Prop := fifoOrderRow.holds Try.pinned (OpenSpec.ofChange fifoOrderSpec)

/-- ITS FALSE NEIGHBOUR: 'it returns false'. Refute it at one input. -/
def fifoOrderWrong : ChangeSpec := { name := "fifoOrder", fn := fun _ => fun
  | [d1, d2] => { results := [.lit (.bool false)], args := [d1, d2] }
  | _ => none }
def FifoOrderWrongFalsely : Prop := fifoOrderRow.holds Try.pinned (OpenSpec.ofChange fifoOrderWrong)

/-- 'wicketgatelaw01.FifoParts': WHATEVER THE INPUT: true; the input reads as it did. -/
def fifoPartsSpec : ChangeSpec := { name := "fifoParts", fn := fun _ => fun
  | [d1, d2, d3, d4] => { results := [.lit (.bool true)], args := [d1, d2, d3, d4] }
  | _ => none }
def fifoPartsRow : OpenClaim := { program := "ytoddlldjhaacnaa", sum := "3a82d633c24c82c42e4b72d3cc40f7f32be9d72402e2af6bf7f6f59b6c667cec", func := "wicketgate/wicketgatelaw01.FifoParts", spec := "fifoParts", unfollowed := true, recurses := true, apart := false }
def FifoPartsSaid : Prop := fifoPartsRow.holds Try.pinned (OpenSpec.ofChange fifoPartsSpec)

/-- ITS FALSE NEIGHBOUR: 'it returns false'. Refute it at one input. -/
def fifoPartsWrong : ChangeSpec := { name := "fifoParts", fn := fun _ => fun
  | [d1, d2, d3, d4] => { results := [.lit (.bool false)], args := [d1, d2, d3, d4] }
  | _ => none }
def FifoPartsWrongFalsely : Prop := fifoPartsRow.holds Try.pinned (OpenSpec.ofChange fifoPartsWrong)

/-- 'wicketgatelaw01.FifoLooks': WHATEVER THE INPUT: true; the input reads as it did. -/
def fifoLooksSpec : ChangeSpec := { name := "fifoLooks", fn := fun _ => fun
  | [d1, d2, d3] => { results := [.lit (.bool true)], args := [d1, d2, d3] }
  | _ => none }
def fifoLooksRow : OpenClaim := { program := "ytoddlldjhaacnaa", sum := "3a82d633c24c82c42e4b72d3cc40f7f32be9d72402e2af6bf7f6f59b6c667cec", func := "wicketgate/wicketgatelaw01.FifoLooks", spec := "fifoLooks", unfollowed := true, recurses := true, apart := false }
def FifoLooksSaid : Prop := fifoLooksRow.holds Try.pinned (OpenSpec.ofChange fifoLooksSpec)

/-- ITS FALSE NEIGHBOUR: 'it returns false'. Refute it at one input. -/
def fifoLooksWrong : ChangeSpec := { name := "fifoLooks", fn := fun _ => fun
  | [d1, d2, d3] => { results := [.lit (.bool false)], args := [d1, d2, d3] }
  | _ => none }
def FifoLooksWrongFalsely : Prop := fifoLooksRow.holds Try.pinned (OpenSpec.ofChange fifoLooksWrong)

/-- 'wicketgatelaw01.FifoFull': WHATEVER THE INPUT: true; the input reads as it did. -/
def fifoFullSpec : ChangeSpec := { name := "fifoFull", fn := fun _ => fun
  | [d1, d2] => { results := [.lit (.bool true)], args := [d1, d2] }
  | _ => none }
def fifoFullRow : OpenClaim := { program := "ytoddlldjhaacnaa", sum := "3a82d633c24c82c42e4b72d3cc40f7f32be9d72402e2af6bf7f6f59b6c667cec", func := "wicketgate/wicketgatelaw01.FifoFull", spec := "fifoFull", unfollowed := true, recurses := true, apart := false }
def FifoFullSaid : Prop := fifoFullRow.holds Try.pinned (OpenSpec.ofChange fifoFullSpec)

/-- ITS FALSE NEIGHBOUR: 'it returns false'. Refute it at one input. -/
def fifoFullWrong : ChangeSpec := { name := "fifoFull", fn := fun _ => fun
  | [d1, d2] => { results := [.lit (.bool false)], args := [d1, d2] }
  | _ => none }
def FifoFullWrongFalsely : Prop := fifoFullRow.holds Try.pinned (OpenSpec.ofChange fifoFullWrong)

/- THE SECOND FORM. 'bulk': how many values and letters a reading holds, each counted each time it is reached (what is shared counts as often as it is met; a slice's spare places count too). A statement '..UptoSaid' is the law's where the arguments, and the package variables that the reading takes, are together of bulk at most 1048576: NARROWER than '..Said'. Prove '..Said' where nothing that the law and all that it calls make is longer than what came in: it says more and counts as full. Else prove '..UptoSaid'. A law counts once. -/
mutual
def uptoBulk {H : Type} : DataW H → Nat
  | .lit (.string bytes) => bytes.length + 1
  | .lit _ => 1
  | .nil => 1
  | .ptr d => uptoBulk d + 1
  | .slice elems spare => uptoBulkAll elems + uptoBulkAll spare + 1
  | .agg parts => uptoBulkAll parts + 1
  | .iface _ d => uptoBulk d + 1
  | .map entries => uptoBulkEntries entries + 1
  | .held _ => 1
def uptoBulkAll {H : Type} : List (DataW H) → Nat
  | [] => 0
  | d :: r => uptoBulk d + uptoBulkAll r
def uptoBulkEntries {H : Type} : List (Lit × DataW H) → Nat
  | [] => 0
  | x :: r => uptoBulkEntry x + uptoBulkEntries r
def uptoBulkEntry {H : Type} : Lit × DataW H → Nat
  | (.string bytes, d) => bytes.length + uptoBulk d + 1
  | (_, d) => uptoBulk d + 1
 end
def uptoSmall : (H : Type) → List (DataW H) → Bool := fun _ ds => decide (uptoBulkAll ds ≤ 1048576)
def OpenSpec.upto (s : _root_.Go.ChangeSpec) : _root_.Go.OpenSpec := { _root_.Go.OpenSpec.ofChange s with cond := some uptoSmall }

/-- 'wicketgatelaw01.FifoPlays', WHERE WHAT IT READS IS OF BULK AT MOST 1048576: true; the input reads as it did. -/
def fifoPlaysUptoRow : OpenClaim := { program := "ytoddlldjhaacnaa", sum := "3a82d633c24c82c42e4b72d3cc40f7f32be9d72402e2af6bf7f6f59b6c667cec", func := "wicketgate/wicketgatelaw01.FifoPlays", spec := "fifoPlays", unfollowed := true, recurses := true, apart := false, narrowed := true }
def FifoPlaysUptoSaid : Prop := fifoPlaysUptoRow.holds Try.pinned (OpenSpec.upto fifoPlaysSpec)

/-- 'wicketgatelaw01.FifoOrder', WHERE WHAT IT READS IS OF BULK AT MOST 1048576: true; the input reads as it did. -/
def fifoOrderUptoRow : OpenClaim := { program := "ytoddlldjhaacnaa", sum := "3a82d633c24c82c42e4b72d3cc40f7f32be9d72402e2af6bf7f6f59b6c667cec", func := "wicketgate/wicketgatelaw01.FifoOrder", spec := "fifoOrder", unfollowed := true, recurses := true, apart := false, narrowed := true }
def FifoOrderUptoSaid : Prop := fifoOrderUptoRow.holds Try.pinned (OpenSpec.upto fifoOrderSpec)

/-- 'wicketgatelaw01.FifoParts', WHERE WHAT IT READS IS OF BULK AT MOST 1048576: true; the input reads as it did. -/
def fifoPartsUptoRow : OpenClaim := { program := "ytoddlldjhaacnaa", sum := "3a82d633c24c82c42e4b72d3cc40f7f32be9d72402e2af6bf7f6f59b6c667cec", func := "wicketgate/wicketgatelaw01.FifoParts", spec := "fifoParts", unfollowed := true, recurses := true, apart := false, narrowed := true }
def FifoPartsUptoSaid : Prop := fifoPartsUptoRow.holds Try.pinned (OpenSpec.upto fifoPartsSpec)

/-- 'wicketgatelaw01.FifoLooks', WHERE WHAT IT READS IS OF BULK AT MOST 1048576: true; the input reads as it did. -/
def fifoLooksUptoRow : OpenClaim := { program := "ytoddlldjhaacnaa", sum := "3a82d633c24c82c42e4b72d3cc40f7f32be9d72402e2af6bf7f6f59b6c667cec", func := "wicketgate/wicketgatelaw01.FifoLooks", spec := "fifoLooks", unfollowed := true, recurses := true, apart := false, narrowed := true }
def FifoLooksUptoSaid : Prop := fifoLooksUptoRow.holds Try.pinned (OpenSpec.upto fifoLooksSpec)

/-- 'wicketgatelaw01.FifoFull', WHERE WHAT IT READS IS OF BULK AT MOST 1048576: true; the input reads as it did. -/
def fifoFullUptoRow : OpenClaim := { program := "ytoddlldjhaacnaa", sum := "3a82d633c24c82c42e4b72d3cc40f7f32be9d72402e2af6bf7f6f59b6c667cec", func := "wicketgate/wicketgatelaw01.FifoFull", spec := "fifoFull", unfollowed := true, recurses := true, apart := false, narrowed := true }
def FifoFullUptoSaid : Prop := fifoFullUptoRow.holds Try.pinned (OpenSpec.upto fifoFullSpec)

end Rows
end Go.Proofs.Ytoddlldjhaacnaa

/- The document's own table. -/
import Derived.Test.YtjlpkndbnaknaaaGreatDoorQ
import Derived.Test.YtjlpkndbnaknaaaGreatDoorA
namespace Go.Proofs.YtjlpkndbnaknaaaGreatDoor
open Go.RowKit

/-- The document's own table. -/
def TabC (W : World) : Prop := ∀ (j : Nat) (x : Wd), rootsL[j]? = some x → W.cell? ⟨0, j, none⟩ = some (.int .u32 (x.toNat : Int))
end Go.Proofs.YtjlpkndbnaknaaaGreatDoor

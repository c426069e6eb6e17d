/- What every row of this seat shares: the listed tables, a world that meets the condition. -/
import Derived.Test.YtonicfongjhplaaDoorRows
import Derived.Test.YtonicfongjhplaaDoorO
import Derived.ChangeSame
import Derived.ChangeVars
import Derived.JoinedOf
import Derived.ProofKit
import Derived.OpenShut
import Derived.RowKitTokens
import Derived.LaidLaws
import Derived.LaidHandle
import Derived.Stop.Joined
import Derived.Lib.LaidTab
import Derived.Lib.LaidIn
namespace Go.Proofs.YtonicfongjhplaaDoor
open Go.ChangeShapes Go.WideShapes Go.ChangeAt Go.RowKit

theorem own : ownKnob Tryd.prog.godebug = none := by kernel_rfl
theorem laidOut : laidOutB Tryd.prog = true := by kernel_rfl
abbrev lay2 : List (String × DataW Unit) := [("wicketgate/sha.beginning", Rows.laid_wicketgate_sha_beginning), ("wicketgate/sha.roots", Rows.laid_wicketgate_sha_roots)]
abbrev lay3 : List (String × DataW Unit) := [("wicketgate/wicketgateref04.constant", Rows.laid_wicketgate_wicketgateref04_constant), ("wicketgate/sha.beginning", Rows.laid_wicketgate_sha_beginning), ("wicketgate/sha.roots", Rows.laid_wicketgate_sha_roots)]
def begI : List Int := [1779033703, 3144134277, 1013904242, 2773480762, 1359893119, 2600822924, 528734635, 1541459225]
def rootsI : List Int := rootsL.map fun x => (x.toNat : Int)
theorem gBeg : Tryd.prog.globalNamed "wicketgate/sha.beginning" = some 1 := by kernel_rfl
theorem gRoots : Tryd.prog.globalNamed "wicketgate/sha.roots" = some 2 := by kernel_rfl
theorem gConst : Tryd.prog.globalNamed "wicketgate/wicketgateref04.constant" = some 0 := by kernel_rfl
theorem tyBeg : (Tryd.prog.globals[1]?).map (·.type) = some 32 := by kernel_rfl
theorem tyRoots : (Tryd.prog.globals[2]?).map (·.type) = some 50 := by kernel_rfl
theorem tyConst : (Tryd.prog.globals[0]?).map (·.type) = some 38 := by kernel_rfl
theorem beg_is : (Rows.laid_wicketgate_sha_beginning : DataW Unit) = Lib.tabData .u32 begI := by rfl
theorem roots_is : (Rows.laid_wicketgate_sha_roots : DataW Unit) = Lib.tabData .u32 rootsI := by rfl
theorem const_is : (Rows.laid_wicketgate_wicketgateref04_constant : DataW Unit) = Lib.tabData .u32 rootsI := by rfl
theorem laidMet_drop {P : Program} {x : String × DataW Unit} {l : List (String × DataW Unit)} {w : World} (h : laidMet P (x :: l) w) : laidMet P l w := by
  obtain ⟨n, d⟩ := x
  obtain ⟨ps, ⟨g, t, cs, fuel, p, q, _, _, _, _, hq, rfl⟩, h2, h3⟩ := h
  exact ⟨q, hq, (List.nodup_append.1 h2).2.1, fun b off hm => h3 b off (List.mem_append_right _ hm)⟩
theorem rootsI_at (j : Nat) (x : Wd) (h : rootsL[j]? = some x) : j < rootsI.length ∧ rootsI.getD j 0 = (x.toNat : Int) := by
  obtain ⟨hl, hx⟩ := List.getElem?_eq_some_iff.1 h
  refine ⟨by rw [rootsI, List.length_map]; exact hl, ?_⟩
  rw [List.getD_eq_getElem?_getD, rootsI, List.getElem?_map, h]
  rfl
theorem tabs_of2' {W : World} (h1 : laidMet Tryd.prog lay2 W) : Tabs W := by
  have h2 := laidMet_drop h1
  unfold lay2 at h1
  rw [beg_is] at h1
  rw [roots_is] at h2
  have tb := Lib.tabIs_of_head (n := 8) (e := 30) gBeg tyBeg (by kernel_rfl) (by kernel_rfl) (by kernel_rfl) (by kernel_rfl) h1
  have tr := Lib.tabIs_of_head (n := 64) (e := 30) gRoots tyRoots (by kernel_rfl) (by kernel_rfl) (by kernel_rfl) (by kernel_rfl) h2
  exact ⟨tb.cell gBeg 0 (by decide), tb.cell gBeg 1 (by decide), tb.cell gBeg 2 (by decide), tb.cell gBeg 3 (by decide), tb.cell gBeg 4 (by decide), tb.cell gBeg 5 (by decide), tb.cell gBeg 6 (by decide), tb.cell gBeg 7 (by decide),
    fun j x hx => by
      obtain ⟨a, b⟩ := rootsI_at j x hx
      have := tr.cell gRoots j a
      rwa [b] at this⟩
theorem tabs_of {W : World} (h : laidMetH Tryd.prog lay2 W) : Tabs W := tabs_of2' h
theorem laid_of {W : World} (h : laidMetH Tryd.prog lay2 W) : Tabs W := tabs_of2' h
/-- The document's own table. -/
def TabC (W : World) : Prop := ∀ (j : Nat) (x : Wd), rootsL[j]? = some x → W.cell? ⟨0, j, none⟩ = some (.int .u32 (x.toNat : Int))
theorem tabs_of3 {W : World} (h : laidMetH Tryd.prog lay3 W) : Tabs W ∧ TabC W := by
  have h1 : laidMet Tryd.prog lay3 W := h
  have h2 := laidMet_drop h1
  refine ⟨tabs_of2' h2, ?_⟩
  unfold lay3 at h1
  rw [const_is] at h1
  have tr := Lib.tabIs_of_head (n := 64) (e := 29) gConst tyConst (by kernel_rfl) (by kernel_rfl) (by kernel_rfl) (by kernel_rfl) h1
  intro j x hx
  obtain ⟨a, b⟩ := rootsI_at j x hx
  have := tr.cell gConst j a
  rwa [b] at this
/-- A world that meets the condition: the settled one, the tables laid. -/
noncomputable def laidWorld (os : Os) : World :=
  let w0 := World.holding Tryd.prog os ⟨#[], #[], []⟩
  { w0 with heap := ((w0.heap.modify 0 fun
      | .cells _ t frozen => .cells (rootsI.map fun z => Value.int .u32 z).toArray t frozen
      | o => o).modify 1 fun
      | .cells _ t frozen => .cells (begI.map fun z => Value.int .u32 z).toArray t frozen
      | o => o).modify 2 fun
      | .cells _ t frozen => .cells (rootsI.map fun z => Value.int .u32 z).toArray t frozen
      | o => o }
theorem laid_met2 (os : Os) (args : Array Value) : laidMet Tryd.prog lay2 ((laidWorld os).forCall (fun _ _ => 0) ⟨#[], args, []⟩).memory :=
  (LaidIn.of_run [1, 2] 8 (by kernel_rfl) (by kernel_rfl) (by kernel_rfl) (by kernel_rfl)).met
theorem laid_met3 (os : Os) (args : Array Value) : laidMet Tryd.prog lay3 ((laidWorld os).forCall (fun _ _ => 0) ⟨#[], args, []⟩).memory :=
  (LaidIn.of_run [0, 1, 2] 8 (by kernel_rfl) (by kernel_rfl) (by kernel_rfl) (by kernel_rfl)).met
theorem laidWorld_met (os : Os) (args : Array Value) : laidMetH Tryd.prog lay2 ((laidWorld os).forCall (fun _ _ => 0) ⟨#[], args, []⟩).memory := laid_met2 os args
theorem laidWorld_met3 (os : Os) (args : Array Value) : laidMetH Tryd.prog lay3 ((laidWorld os).forCall (fun _ _ => 0) ⟨#[], args, []⟩).memory := laid_met3 os args
end Go.Proofs.YtonicfongjhplaaDoor

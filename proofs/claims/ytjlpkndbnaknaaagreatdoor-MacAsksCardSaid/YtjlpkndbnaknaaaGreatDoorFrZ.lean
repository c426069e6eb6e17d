/- What every row of this seat shares: the listed tables, a world that meets the condition. -/
import Derived.Test.YtjlpkndbnaknaaaGreatDoorRows
import Derived.Test.YtjlpkndbnaknaaaGreatDoorMc
import Derived.Test.YtjlpkndbnaknaaaGreatDoorTC
import Derived.ChangeSame
import Derived.ChangeVars
import Derived.JoinedOf
import Derived.ProofKit
import Derived.OpenShut
import Derived.RowKitTokens
import Derived.LaidLaws
import Derived.LaidHandle
import Derived.Stop.Joined
import Derived.Lib.LaidTab
import Derived.Lib.LaidIn
namespace Go.Proofs.YtjlpkndbnaknaaaGreatDoor
open Go.ChangeShapes Go.WideShapes Go.ChangeAt Go.RowKit

theorem own : ownKnob Tryz.prog.godebug = none := by kernel_rfl
theorem laidOut : laidOutB Tryz.prog = true := by kernel_rfl
abbrev layD : List (String × DataW Unit) := [("math/bits.deBruijn32tab", Rows.laid_math_bits_deBruijn32tab), ("math/bits.deBruijn64tab", Rows.laid_math_bits_deBruijn64tab), ("internal/strconv.uint64pow10", Rows.laid_internal_strconv_uint64pow10), ("wicketgate/wicketgateref04.constant", Rows.laid_wicketgate_wicketgateref04_constant), ("wicketgate/sha.beginning", Rows.laid_wicketgate_sha_beginning), ("wicketgate/sha.roots", Rows.laid_wicketgate_sha_roots)]
abbrev layH : List (String × DataW Unit) := [("errors.errorType", Rows.laid_errors_errorType)]
abbrev layA : List (String × DataW Unit) := [("math/bits.deBruijn32tab", Rows.laid_math_bits_deBruijn32tab), ("math/bits.deBruijn64tab", Rows.laid_math_bits_deBruijn64tab), ("internal/strconv.uint64pow10", Rows.laid_internal_strconv_uint64pow10), ("wicketgate/wicketgateref04.constant", Rows.laid_wicketgate_wicketgateref04_constant), ("errors.errorType", Rows.laid_errors_errorType), ("wicketgate/sha.beginning", Rows.laid_wicketgate_sha_beginning), ("wicketgate/sha.roots", Rows.laid_wicketgate_sha_roots)]
def tab32 : List Int := [0, 1, 28, 2, 29, 14, 24, 3, 30, 22, 20, 15, 25, 17, 4, 8, 31, 27, 13, 23, 21, 19, 16, 7, 26, 12, 18, 6, 11, 5, 10, 9]
def tab64 : List Int := [0, 1, 56, 2, 57, 49, 28, 3, 61, 58, 42, 50, 38, 29, 17, 4, 62, 47, 59, 36, 45, 43, 51, 22, 53, 39, 33, 30, 24, 18, 12, 5, 63, 55, 48, 27, 60, 41, 37, 16, 46, 35, 44, 21, 52, 32, 23, 11, 54, 26, 40, 15, 34, 20, 31, 10, 25, 14, 19, 9, 13, 8, 7, 6]
def begI : List Int := [1779033703, 3144134277, 1013904242, 2773480762, 1359893119, 2600822924, 528734635, 1541459225]
def rootsI : List Int := rootsL.map fun x => (x.toNat : Int)
theorem rootsI_at (j : Nat) (x : Wd) (h : rootsL[j]? = some x) : j < rootsI.length ∧ rootsI.getD j 0 = (x.toNat : Int) := by
  obtain ⟨hl, hx⟩ := List.getElem?_eq_some_iff.1 h
  refine ⟨by rw [rootsI, List.length_map]; exact hl, ?_⟩
  rw [List.getD_eq_getElem?_getD, rootsI, List.getElem?_map, h]
  rfl
theorem gT2 : Tryz.prog.globalNamed "internal/strconv.uint64pow10" = some 4 := by kernel_rfl
theorem yT2 : (Tryz.prog.globals[4]?).map (·.type) = some 141 := by kernel_rfl
theorem is2 : (Rows.laid_internal_strconv_uint64pow10 : DataW Unit) = Lib.tabData .u64 Lib.pow10Tab := by rfl
theorem gT3 : Tryz.prog.globalNamed "wicketgate/wicketgateref04.constant" = some 0 := by kernel_rfl
theorem yT3 : (Tryz.prog.globals[0]?).map (·.type) = some 73 := by kernel_rfl
theorem is3 : (Rows.laid_wicketgate_wicketgateref04_constant : DataW Unit) = Lib.tabData .u32 rootsI := by rfl
theorem gT4 : Tryz.prog.globalNamed "wicketgate/sha.beginning" = some 1 := by kernel_rfl
theorem yT4 : (Tryz.prog.globals[1]?).map (·.type) = some 58 := by kernel_rfl
theorem is4 : (Rows.laid_wicketgate_sha_beginning : DataW Unit) = Lib.tabData .u32 begI := by rfl
theorem gT5 : Tryz.prog.globalNamed "wicketgate/sha.roots" = some 2 := by kernel_rfl
theorem yT5 : (Tryz.prog.globals[2]?).map (·.type) = some 86 := by kernel_rfl
theorem is5 : (Rows.laid_wicketgate_sha_roots : DataW Unit) = Lib.tabData .u32 rootsI := by rfl
theorem laidMet_drop {P : Program} {x : String × DataW Unit} {l : List (String × DataW Unit)} {w : World} (h : laidMet P (x :: l) w) : laidMet P l w := by
  obtain ⟨n, d⟩ := x
  obtain ⟨ps, ⟨g, t, cs, fuel, p, q, _, _, _, _, hq, rfl⟩, h2, h3⟩ := h
  exact ⟨q, hq, (List.nodup_append.1 h2).2.1, fun b off hm => h3 b off (List.mem_append_right _ hm)⟩
theorem et0 : Tryz.prog.globalNamed "errors.errorType" = some 3 := by kernel_rfl
theorem rt0 : (Tryz.prog.cutTypes.find? (·.1 == "internal/reflectlite.rtype")).map (·.2) = some 104 := by kernel_rfl
theorem size0 : Tryz.prog.types.size = 178 := by kernel_rfl
theorem oneRow : ((List.range 178).filter fun t => Tryz.prog.rowNamed t [101, 114, 114, 111, 114]) = [34] := by kernel_rfl
theorem err_of {W : World} (h : handlesMet Tryz.prog layH W) : ErrT W := by
  obtain ⟨name, u, ty, e1, e2, e3, e4, e5⟩ := h _ (List.mem_singleton.2 rfl)
  have en : name = [101, 114, 114, 111, 114] := (Option.some.inj e1).symm
  subst en
  obtain rfl := Option.some.inj (rt0.symm.trans e2)
  have hm : ty ∈ (List.range 178).filter fun t => Tryz.prog.rowNamed t [101, 114, 114, 111, 114] := List.mem_filter.2 ⟨List.mem_range.2 (by rw [← size0]; exact e3), e4⟩
  rw [oneRow] at hm
  obtain rfl := List.mem_singleton.1 hm
  have hh : typeHandle Tryz.prog 34 = .pointer (some ⟨8, 34, none⟩) := by kernel_rfl
  rw [hh] at e5
  unfold ErrT
  simpa using World.var?_cell et0 e5 0
theorem laid_of {W : World} (h : laidMetH Tryz.prog layA W) : Lay W ∧ TabC W := by
  have h' : laidMet Tryz.prog layD W ∧ handlesMet Tryz.prog layH W := h
  have et := err_of h'.2
  have d2 : laidMet Tryz.prog (("internal/strconv.uint64pow10", Lib.tabData .u64 Lib.pow10Tab) :: [("wicketgate/wicketgateref04.constant", Rows.laid_wicketgate_wicketgateref04_constant), ("wicketgate/sha.beginning", Rows.laid_wicketgate_sha_beginning), ("wicketgate/sha.roots", Rows.laid_wicketgate_sha_roots)]) W := by
    have := (laidMet_drop (laidMet_drop h'.1))
    rw [← is2]
    exact this
  have t2 := Lib.tabIs_of_head (n := 20) (e := 131) gT2 yT2 (by kernel_rfl) (by kernel_rfl) (by kernel_rfl) (by kernel_rfl) d2
  have d3 : laidMet Tryz.prog (("wicketgate/wicketgateref04.constant", Lib.tabData .u32 rootsI) :: [("wicketgate/sha.beginning", Rows.laid_wicketgate_sha_beginning), ("wicketgate/sha.roots", Rows.laid_wicketgate_sha_roots)]) W := by
    have := (laidMet_drop (laidMet_drop (laidMet_drop h'.1)))
    rw [← is3]
    exact this
  have t3 := Lib.tabIs_of_head (n := 64) (e := 55) gT3 yT3 (by kernel_rfl) (by kernel_rfl) (by kernel_rfl) (by kernel_rfl) d3
  have d4 : laidMet Tryz.prog (("wicketgate/sha.beginning", Lib.tabData .u32 begI) :: [("wicketgate/sha.roots", Rows.laid_wicketgate_sha_roots)]) W := by
    have := (laidMet_drop (laidMet_drop (laidMet_drop (laidMet_drop h'.1))))
    rw [← is4]
    exact this
  have t4 := Lib.tabIs_of_head (n := 8) (e := 56) gT4 yT4 (by kernel_rfl) (by kernel_rfl) (by kernel_rfl) (by kernel_rfl) d4
  have d5 : laidMet Tryz.prog (("wicketgate/sha.roots", Lib.tabData .u32 rootsI) :: []) W := by
    have := (laidMet_drop (laidMet_drop (laidMet_drop (laidMet_drop (laidMet_drop h'.1)))))
    rw [← is5]
    exact this
  have t5 := Lib.tabIs_of_head (n := 64) (e := 56) gT5 yT5 (by kernel_rfl) (by kernel_rfl) (by kernel_rfl) (by kernel_rfl) d5
  have tb : Tabs W := ⟨t4.cell gT4 0 (by decide), t4.cell gT4 1 (by decide), t4.cell gT4 2 (by decide), t4.cell gT4 3 (by decide), t4.cell gT4 4 (by decide), t4.cell gT4 5 (by decide), t4.cell gT4 6 (by decide), t4.cell gT4 7 (by decide), fun j x hx => by
    obtain ⟨a, b⟩ := rootsI_at j x hx
    have := t5.cell gT5 j a
    rwa [b] at this⟩
  exact ⟨⟨tb, et, t2⟩, fun j x hx => by
    obtain ⟨a, b⟩ := rootsI_at j x hx
    have := t3.cell gT3 j a
    rwa [b] at this⟩
/-- A world that meets the condition: the settled one, the tables laid. -/
noncomputable def laidWorld (os : Os) : World :=
  let w0 := World.holding Tryz.prog os ⟨#[], #[], []⟩
  { w0 with heap := (((((((w0.heap.modify 6 fun
      | .cells _ t frozen => .cells (tab32.map fun z => Value.int .u8 z).toArray t frozen
      | o => o).modify 7 fun
      | .cells _ t frozen => .cells (tab64.map fun z => Value.int .u8 z).toArray t frozen
      | o => o).modify 4 fun
      | .cells _ t frozen => .cells (Lib.pow10Tab.map fun z => Value.int .u64 z).toArray t frozen
      | o => o).modify 0 fun
      | .cells _ t frozen => .cells (rootsI.map fun z => Value.int .u32 z).toArray t frozen
      | o => o).modify 1 fun
      | .cells _ t frozen => .cells (begI.map fun z => Value.int .u32 z).toArray t frozen
      | o => o).modify 2 fun
      | .cells _ t frozen => .cells (rootsI.map fun z => Value.int .u32 z).toArray t frozen
      | o => o).modify 3 fun
      | .cells _ t frozen => .cells #[.iface 104 (.agg #[.pointer (some ⟨8, 34, none⟩)])] t frozen
      | o => o) }
theorem laid_met (os : Os) (args : Array Value) : laidMet Tryz.prog layD ((laidWorld os).forCall (fun _ _ => 0) ⟨#[], args, []⟩).memory :=
  (LaidIn.of_run [6, 7, 4, 0, 1, 2] 8 (by kernel_rfl) (by kernel_rfl) (by kernel_rfl) (by kernel_rfl)).met
theorem laidWorld_met (os : Os) (args : Array Value) : laidMetH Tryz.prog layA ((laidWorld os).forCall (fun _ _ => 0) ⟨#[], args, []⟩).memory :=
  laidMetH_of_parts (laid_met os args) (by kernel_rfl)
end Go.Proofs.YtjlpkndbnaknaaaGreatDoor

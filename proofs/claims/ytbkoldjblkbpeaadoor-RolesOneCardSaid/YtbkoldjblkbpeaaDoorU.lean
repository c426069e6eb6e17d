/- What every row of this seat shares: the listed tables of words, a world that meets the condition. -/
import Derived.Test.YtbkoldjblkbpeaaDoorRows
import Derived.Test.YtbkoldjblkbpeaaDoorA
import Derived.ChangeSame
import Derived.ChangeVars
import Derived.JoinedOf
import Derived.ProofKit
import Derived.OpenShut
import Derived.RowKitTokens
import Derived.LaidLaws
import Derived.LaidHandle
import Derived.Stop.Joined
import Derived.Lib.LaidTab
import Derived.Lib.LaidIn
namespace Go.Proofs.YtbkoldjblkbpeaaDoor
open Go.ChangeShapes Go.WideShapes Go.ChangeAt Go.RowKit

theorem own : ownKnob Tryd.prog.godebug = none := by kernel_rfl
theorem laidOut : laidOutB Tryd.prog = true := by kernel_rfl

/-- A table of words as a row lists it. -/
def strTab {H : Type} (zs : List (List UInt8)) : DataW H := .agg (zs.map fun z => .lit (.string z))
theorem cells_of_words {H : Type} {enc : TypeId × Value → H} {P : Program} {w : World} {base : Nat} {sp : Nat → Bool} {held : Bool} {fuel : Nat} {t e : TypeId} {n : Nat} {cs : List Value} {zs : List (List UInt8)} {p : List MemPlace}
    (ht : P.underlying t = some (.array n e)) (he : P.underlying e = some .string) (hce : P.cellsOf e = 1) (hct : P.cellsOf t = n)
    (h : DataW.trod enc P w base sp held fuel t cs = some (strTab zs, p)) : cs = zs.map fun z => Value.string ⟨z.toArray⟩ := by
  cases fuel with
  | zero => simp [DataW.trod] at h
  | succ fuel =>
    simp only [DataW.trod, ht, hce, hct, Nat.mul_one] at h
    split at h
    · rename_i hl
      obtain ⟨xs, hm, hx⟩ := Option.map_eq_some_iff.1 h
      have hxs : xs.map (·.1) = zs.map fun z => (DataW.lit (.string z) : DataW H) := by
        have := congrArg Prod.fst hx
        simpa [strTab] using this
      have hxl : xs.length = n := by simpa using Lib.mapM_length hm
      have hzl : zs.length = n := by
        have := congrArg List.length hxs
        simp at this
        omega
      apply List.ext_getElem?
      intro i
      by_cases hi : i < n
      · obtain ⟨b, hb, hf⟩ := Lib.mapM_at hm i i (by simp [hi])
        obtain ⟨s, hc, rfl, _⟩ := DataW.trod_string he hf
        have h1 : cs[i]? = some (.string s) := by
          have := congrArg (·[0]?) hc
          simpa [List.getElem?_take, List.getElem?_drop] using this
        have h2 : (xs.map (·.1))[i]? = some (DataW.lit (.string s.data.toList) : DataW H) := by simp [hb]
        rw [hxs] at h2
        simp only [List.getElem?_map, Option.map_eq_some_iff, DataW.lit.injEq, Lit.string.injEq] at h2
        obtain ⟨z', hz', e'⟩ := h2
        have es : s = ⟨z'.toArray⟩ := ByteArray.ext (by rw [e'])
        simp [h1, hz', es]
      · rw [List.getElem?_eq_none (by omega), List.getElem?_eq_none (by simp; omega)]
    · cases h
theorem words_of_head {P : Program} {W : World} {name : String} {zs : List (List UInt8)} {rest : List (String × DataW Unit)} {g : Nat} {t e : TypeId} {n : Nat}
    (hg : P.globalNamed name = some g) (hty : (P.globals[g]?).map (·.type) = some t) (ht : P.underlying t = some (.array n e)) (he : P.underlying e = some .string) (hce : P.cellsOf e = 1) (hct : P.cellsOf t = n)
    (h : laidMet P ((name, strTab zs) :: rest) W) (i : Nat) (hi : i < zs.length) : W.cell? ⟨g, i, none⟩ = some (.string ⟨(zs.getD i []).toArray⟩) := by
  obtain ⟨ps, ⟨g', t', cs, fuel, p, q, hg', ht', hvar, hd, _, _⟩, _⟩ := h
  obtain rfl := Option.some.inj (hg.symm.trans hg')
  obtain rfl := Option.some.inj (hty.symm.trans ht')
  have e' := cells_of_words ht he hce hct hd
  have hv : W.var? P name = some (zs.map fun z => Value.string ⟨z.toArray⟩).toArray := by rw [hvar, ← e']
  have := World.var?_cell hg hv i
  simpa [List.getD, hi] using this
theorem laidMet_drop {P : Program} {x : String × DataW Unit} {l : List (String × DataW Unit)} {w : World} (h : laidMet P (x :: l) w) : laidMet P l w := by
  obtain ⟨n, d⟩ := x
  obtain ⟨ps, ⟨g, t, cs, fuel, p, q, _, _, _, _, hq, rfl⟩, h2, h3⟩ := h
  exact ⟨q, hq, (List.nodup_append.1 h2).2.1, fun b off hm => h3 b off (List.mem_append_right _ hm)⟩

/-- The lists of tables that the rows of this seat bear. -/
abbrev lay1 : List (String × DataW Unit) := [("wicketgate/roles.verbWords", Rows.laid_wicketgate_roles_verbWords)]
abbrev lay3 : List (String × DataW Unit) := [("wicketgate/wicketgateref12.verbs", Rows.laid_wicketgate_wicketgateref12_verbs), ("wicketgate/wicketgateref12.roles", Rows.laid_wicketgate_wicketgateref12_roles), ("wicketgate/roles.verbWords", Rows.laid_wicketgate_roles_verbWords)]
def roleL : List (List UInt8) := [[118, 105, 101, 119, 101, 114], [107, 101, 101, 112, 101, 114], [103, 111, 118, 101, 114, 110, 111, 114]]
theorem g0 : (Tryd.prog.globals[0]?).map (·.type) = some 46 := by kernel_rfl
theorem g1 : (Tryd.prog.globals[1]?).map (·.type) = some 50 := by kernel_rfl
theorem g2 : (Tryd.prog.globals[2]?).map (·.type) = some 50 := by kernel_rfl
theorem n0 : Tryd.prog.globalNamed "wicketgate/wicketgateref12.roles" = some 0 := by kernel_rfl
theorem n1 : Tryd.prog.globalNamed "wicketgate/roles.verbWords" = some 1 := by kernel_rfl
theorem n2 : Tryd.prog.globalNamed "wicketgate/wicketgateref12.verbs" = some 2 := by kernel_rfl
theorem u46 : Tryd.prog.underlying 46 = some (.array 3 9) := by kernel_rfl
theorem u50 : Tryd.prog.underlying 50 = some (.array 10 9) := by kernel_rfl
theorem words_is : (Rows.laid_wicketgate_roles_verbWords : DataW Unit) = strTab wordL := by rfl
theorem words_is2 : (Rows.laid_wicketgate_wicketgateref12_verbs : DataW Unit) = strTab wordL := by rfl
theorem roles_is : (Rows.laid_wicketgate_wicketgateref12_roles : DataW Unit) = strTab roleL := by rfl

theorem wd_of {W : World} (h : laidMetH Tryd.prog lay1 W) : Wd W := by
  have h' : laidMet Tryd.prog lay1 W := h
  unfold lay1 at h'
  rw [words_is] at h'
  exact fun i hi => words_of_head n1 g1 u50 Tryd.underlying9 (by kernel_rfl) (by kernel_rfl) h' i hi
/-- The document's own tables at their places. -/
def Rd (w : World) : Prop := (∀ i, i < 10 → w.cell? ⟨2, i, none⟩ = some (.string (wordB i))) ∧ ∀ i, i < 3 → w.cell? ⟨0, i, none⟩ = some (.string ⟨(roleL.getD i []).toArray⟩)
theorem Rd.on {a w : World} (h : Rd a) (b : Below a.heap.size a w) : Rd w := ⟨fun i hi => (b.cell (p := ⟨2, i, none⟩) (blt (h.1 i hi))).trans (h.1 i hi), fun i hi => (b.cell (p := ⟨0, i, none⟩) (blt (h.2 i hi))).trans (h.2 i hi)⟩
theorem wd_of3 {W : World} (h : laidMetH Tryd.prog lay3 W) : Wd W ∧ Rd W := by
  have h' : laidMet Tryd.prog lay3 W := h
  unfold lay3 at h'
  rw [words_is, words_is2, roles_is] at h'
  refine ⟨fun i hi => ?_, fun i hi => ?_, fun i hi => ?_⟩
  · exact words_of_head n1 g1 u50 Tryd.underlying9 (by kernel_rfl) (by kernel_rfl) (laidMet_drop (laidMet_drop h')) i hi
  · exact words_of_head n2 g2 u50 Tryd.underlying9 (by kernel_rfl) (by kernel_rfl) h' i hi
  · exact words_of_head n0 g0 u46 Tryd.underlying9 (by kernel_rfl) (by kernel_rfl) (laidMet_drop h') i hi

/-- A world that meets the condition: the settled one, the tables laid. -/
noncomputable def laidWorld (os : Os) : World :=
  let w0 := World.holding Tryd.prog os ⟨#[], #[], []⟩
  { w0 with heap := ((w0.heap.modify 0 fun
      | .cells _ t frozen => .cells (roleL.map fun z => Value.string ⟨z.toArray⟩).toArray t frozen
      | o => o).modify 1 fun
      | .cells _ t frozen => .cells (wordL.map fun z => Value.string ⟨z.toArray⟩).toArray t frozen
      | o => o).modify 2 fun
      | .cells _ t frozen => .cells (wordL.map fun z => Value.string ⟨z.toArray⟩).toArray t frozen
      | o => o }
theorem laidWorld_met (os : Os) (args : Array Value) : laidMetH Tryd.prog lay1 ((laidWorld os).forCall (fun _ _ => 0) ⟨#[], args, []⟩).memory :=
  (LaidIn.of_run [1] 8 (by kernel_rfl) (by kernel_rfl) (by kernel_rfl) (by kernel_rfl)).met
theorem laidWorld_met3 (os : Os) (args : Array Value) : laidMetH Tryd.prog lay3 ((laidWorld os).forCall (fun _ _ => 0) ⟨#[], args, []⟩).memory :=
  (LaidIn.of_run [0, 1, 2] 8 (by kernel_rfl) (by kernel_rfl) (by kernel_rfl) (by kernel_rfl)).met
end Go.Proofs.YtbkoldjblkbpeaaDoor

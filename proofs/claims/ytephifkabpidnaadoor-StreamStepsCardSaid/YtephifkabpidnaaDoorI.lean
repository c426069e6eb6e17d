/- What is reached, level by level, as plain functions; the map of what was met. -/
import Derived.Test.YtephifkabpidnaaDoorH
import Derived.Maps.OwnIn
import Derived.Maps.Views
import Derived.Sort.MapsRangeIn
import Derived.Sort.CutIn
namespace Go.Proofs.YtephifkabpidnaaDoor
open Go.RowKit Go.Shelf
attribute [local go_sem] Oper.semAt_some

/-- One more state that may have been met. -/
def see1 (p : List Int × List Int) (x : Int) : List Int × List Int := if x ∈ p.1 then p else (p.1 ++ [x], p.2 ++ [x])
def seeL (p : List Int × List Int) (l : List Int) : List Int × List Int := l.foldl see1 p
def levL (p : List Int × List Int) (F : List Int) : List Int × List Int := F.foldl (fun q x => seeL q (nextsUpto x 6)) p
/-- What was met, and what was met last, behind so many events. -/
def lev (s : Int) : Nat → List Int × List Int
  | 0 => ([s], [s])
  | k + 1 => levL ((lev s k).1, []) (lev s k).2
/-- What is told up to a level. -/
def told (s : Int) : Nat → List (Int × Int)
  | 0 => []
  | k + 1 => told s k ++ (lev s k).2.map fun x => (x, (k : Int))

theorem see1_len (p : List Int × List Int) (x : Int) : (see1 p x).1.length ≤ p.1.length + 1 ∧ (see1 p x).2.length ≤ p.2.length + 1 := by unfold see1; split <;> simp
theorem seeL_snoc (p : List Int × List Int) (l : List Int) (x : Int) : seeL p (l ++ [x]) = see1 (seeL p l) x := by simp [seeL]
theorem levL_snoc (p : List Int × List Int) (F : List Int) (x : Int) : levL p (F ++ [x]) = seeL (levL p F) (nextsUpto x 6) := by simp [levL]
theorem seeL_len (p : List Int × List Int) (l : List Int) : (seeL p l).1.length ≤ p.1.length + l.length ∧ (seeL p l).2.length ≤ p.2.length + l.length := by
  induction l generalizing p with
  | nil => simp [seeL]
  | cons x r ih =>
    have := ih (see1 p x)
    have := see1_len p x
    simp only [seeL, List.foldl_cons, List.length_cons] at *
    omega
theorem levL_len (p : List Int × List Int) (F : List Int) : (levL p F).1.length ≤ p.1.length + 6 * F.length ∧ (levL p F).2.length ≤ p.2.length + 6 * F.length := by
  induction F generalizing p with
  | nil => simp [levL]
  | cons x r ih =>
    have := ih (seeL p (nextsUpto x 6))
    have := seeL_len p (nextsUpto x 6)
    have := nextsUpto_len x 6
    simp only [levL, List.foldl_cons, List.length_cons] at *
    omega
theorem nextsUpto_st (s : Int) (k : Nat) : ∀ x ∈ nextsUpto s k, 0 ≤ x ∧ x ≤ 6 := by
  induction k with
  | zero => simp [nextsUpto]
  | succ k ih =>
    intro x hx
    simp only [nextsUpto, List.mem_append] at hx
    rcases hx with hx | hx
    · exact ih x hx
    · split at hx
      · rename_i hg
        simp only [List.mem_singleton] at hx
        subst hx
        have := dest_st hg
        simpa [isSt] using this
      · simp at hx
theorem lev_facts {s : Int} (h : isSt s = true) (k : Nat) (hk : k ≤ 5) : (lev s k).1.length ≤ 7 ∧ (lev s k).2.length ≤ 7 ∧ (told s k).length ≤ 7 ∧ (∀ x ∈ (lev s k).2, 0 ≤ x ∧ x ≤ 6) ∧ ((lev s k).2 = [] → told s k = reach s) ∧ ((lev s k).2 ≠ [] → k < 5 ∧ (told s (k + 1)).isPrefixOf (reach s) = true) := by
  have hk' : k = 0 ∨ k = 1 ∨ k = 2 ∨ k = 3 ∨ k = 4 ∨ k = 5 := by omega
  rcases isSt_cases h with rfl | rfl | rfl | rfl | rfl | rfl | rfl <;> rcases hk' with rfl | rfl | rfl | rfl | rfl | rfl <;> decide +kernel

/-- The map of what was met. -/
def metD (l : List Int) : DataW Unit := l.foldl (fun D x => D.put (.int .i64 x) (.lit (.bool true))) (.map [])
theorem metD_snoc (l : List Int) (x : Int) : metD (l ++ [x]) = (metD l).put (.int .i64 x) (.lit (.bool true)) := by simp [metD]
theorem metD_map (l : List Int) : metD l = Maps.setOf (.lit (.bool true)) (l.map fun x => Lit.int .i64 x) := by unfold metD Maps.setOf; rw [List.foldl_map]
theorem keys_ok (l : List Int) : ∀ x ∈ l.map (fun x => Lit.int .i64 x), WideAt.IsKeyLit x := by
  intro x hx
  obtain ⟨y, _, rfl⟩ := List.mem_map.1 hx
  trivial
theorem metD_has (l : List Int) (x : Int) : Maps.has (metD l) (.int .i64 x) = decide (x ∈ l) := by
  rw [metD_map, Maps.has_setOf _ _ _ (keys_ok l), List.any_map]
  rw [Bool.eq_iff_iff]
  simp [Lit.sameKey]

theorem snoc_ind {α : Type} {p : List α → Prop} (h0 : p []) (h1 : ∀ l x, p l → p (l ++ [x])) (l : List α) : p l := by
  have h : ∀ r : List α, p r.reverse := fun r => by
    induction r with
    | nil => exact h0
    | cons x r ih => rw [List.reverse_cons]; exact h1 _ _ ih
  have := h l.reverse
  rwa [List.reverse_reverse] at this
theorem metD_isMap (l : List Int) : Maps.IsMap (metD l) := by
  rw [metD_map]; exact (Maps.tidy_setOf _ _ (keys_ok l)).isMap
theorem metD_at (l : List Int) (x : Int) : (metD l).atKey (.int .i64 x) (.lit (.bool false)) = .lit (.bool (decide (x ∈ l))) := by
  refine snoc_ind (p := fun l => (metD l).atKey (.int .i64 x) (.lit (.bool false)) = .lit (.bool (decide (x ∈ l)))) ?_ ?_ l
  · simp [metD, DataW.atKey]
  · intro l y ih
    rw [metD_snoc]
    by_cases h : x = y
    · subst h
      rw [Maps.atKey_put_same (metD_isMap l) (show WideAt.IsKeyLit (.int .i64 x) from trivial)]
      simp
    · rw [Maps.atKey_put_other (by intro e; cases e; exact h rfl), ih]
      simp [h]
theorem bool_elem {H : Type} {P : Program} {e : TypeId} (he : P.underlying e = some .bool) {v : Value} {z : DataW H × List MemPlace} (h : plainElem P e v = some z) : ∃ c, v = .bool c ∧ z = (.lit (.bool c), []) := by
  unfold plainElem at h
  rw [he] at h
  cases v <;> simp at h
  exact ⟨_, rfl, h.symm⟩
theorem met_look {W : World} {b n : Nat} {l : List Int} (h : W.ownsMap Tryd.prog 37 (plainElem (H := Unit) Tryd.prog 4) b n (metD l)) (x : Int) (hx : (Lit.int .i64 x).wf = true) :
    (Instr.lookup 68 (.map (some b)) (.int .i64 x) false).run Tryd.prog W = .ok (.bool (decide (x ∈ l))) W := by
  obtain ⟨v, ps, hrun, hv⟩ := h.lookup (Maps.int_keyed Tryd.underlying37) Tryd.underlying68 (z := .bool false) (by kernel_rfl) (plainElem_bool Tryd.underlying4 false) (Maps.keyOf_int_mk Tryd.underlying37 hx)
  rw [metD_at] at hv
  obtain ⟨c, rfl, hc⟩ := bool_elem Tryd.underlying4 hv
  simp only [Prod.mk.injEq, DataW.lit.injEq, Lit.bool.injEq] at hc
  rw [hrun, hc.1]
end Go.Proofs.YtephifkabpidnaaDoor

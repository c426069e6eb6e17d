/- hasFree: what it says. -/
import Derived.Test.YtbalebnhjpjhgaaC
import Derived.Maps.OwnIn
import Derived.Maps.Views
import Derived.Sort.MapsRangeIn
import Derived.Sort.CutIn
namespace Go.Proofs.Ytbalebnhjpjhgaa
open Go.RowKit Go.Shelf
attribute [local go_sem] Oper.semAt_some

/-- The map of what was met. -/
def metD (l : List Int) : DataW Unit := l.foldl (fun D x => D.put (.int .i64 x) (.lit (.bool true))) (.map [])
theorem metD_snoc (l : List Int) (x : Int) : metD (l ++ [x]) = (metD l).put (.int .i64 x) (.lit (.bool true)) := by simp [metD]
theorem metD_map (l : List Int) : metD l = Maps.setOf (.lit (.bool true)) (l.map fun x => Lit.int .i64 x) := by unfold metD Maps.setOf; rw [List.foldl_map]
theorem keys_ok (l : List Int) : ∀ x ∈ l.map (fun x => Lit.int .i64 x), WideAt.IsKeyLit x := by
  intro x hx
  obtain ⟨y, _, rfl⟩ := List.mem_map.1 hx
  trivial
theorem metD_has (l : List Int) (x : Int) : Maps.has (metD l) (.int .i64 x) = decide (x ∈ l) := by
  rw [metD_map, Maps.has_setOf _ _ _ (keys_ok l), List.any_map]
  rw [Bool.eq_iff_iff]
  simp [Lit.sameKey]
theorem metD_size_snoc (l : List Int) (x : Int) : Maps.size (metD (l ++ [x])) = if x ∈ l then Maps.size (metD l) else Maps.size (metD l) + 1 := by
  rw [metD_snoc, Maps.size_put (by rw [metD_map]; exact Maps.tidy_setOf _ _ (keys_ok l)), metD_has]
  simp
theorem snoc_ind {α : Type} {p : List α → Prop} (h0 : p []) (h1 : ∀ l x, p l → p (l ++ [x])) (l : List α) : p l := by
  have h : ∀ r : List α, p r.reverse := fun r => by
    induction r with
    | nil => exact h0
    | cons x r ih => rw [List.reverse_cons]; exact h1 _ _ ih
  have := h l.reverse
  rwa [List.reverse_reverse] at this
theorem metD_size_le (l : List Int) : Maps.size (metD l) ≤ l.length := by
  refine snoc_ind (p := fun l => Maps.size (metD l) ≤ l.length) ?_ ?_ l
  · simp [metD, Maps.size]
  · intro l x ih
    rw [metD_size_snoc, List.length_append]; split <;> simp <;> omega
theorem metD_size_eq (l : List Int) : Maps.size (metD l) = l.length ↔ l.Nodup := by
  refine snoc_ind (p := fun l => Maps.size (metD l) = l.length ↔ l.Nodup) ?_ ?_ l
  · simp [metD, Maps.size]
  · intro l x ih
    have := metD_size_le l
    rw [metD_size_snoc, List.length_append, List.nodup_append]
    by_cases h : x ∈ l
    · simp only [h, if_true, List.length_singleton]
      constructor
      · intro e; omega
      · rintro ⟨_, _, h3⟩; exact absurd rfl (h3 x h x (by simp))
    · simp only [h, if_false, List.length_singleton]
      constructor
      · intro e
        refine ⟨ih.1 (by omega), by simp, ?_⟩
        rintro a ha b hb rfl
        simp at hb; subst hb; exact h ha
      · rintro ⟨h1, _, _⟩
        have := ih.2 h1
        omega

/-- A place that may stand in Free. -/
def isFree (us : List Bool) (x : Int) : Prop := 0 ≤ x ∧ x < us.length ∧ us[x.toNat]?.getD true = false
instance (us : List Bool) (x : Int) : Decidable (isFree us x) := by unfold isFree; infer_instance
/-- What hasFree says. -/
def freeB (gs : List Int) (us : List Bool) (fs : List Int) : Bool := decide ((∀ x ∈ fs, isFree us x) ∧ fs.Nodup ∧ fs.length + (takenOf gs us).length = us.length)
end Go.Proofs.Ytbalebnhjpjhgaa

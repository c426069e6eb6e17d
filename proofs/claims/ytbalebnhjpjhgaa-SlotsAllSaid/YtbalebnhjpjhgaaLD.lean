/- wicketgatelaw09.SlotsKeeps: what is valid when one is taken, plainly. -/
import Derived.Test.YtbalebnhjpjhgaaLC
namespace Go.Proofs.Ytbalebnhjpjhgaa
open Go.RowKit

theorem valid_iff {s : Sl} (hr : s.right = true) (h : Int × Int) : s.valid h = decide (Live s h) := by unfold Sl.valid; rw [hr, Bool.true_and]
theorem taken_facts {s : Sl} (hr : s.right = true) {fs : List Int} {k : Nat} {q : Int} (hf : s.f = fs ++ [(k : Int)]) (hq : s.g[k]? = some q) (hm : q < 1000000000) :
    (s.taken fs k q).right = true ∧ s.valid ((k : Int), q + 1) = false ∧ (s.taken fs k q).valid ((k : Int), q + 1) = true ∧ (s.taken fs k q).all.length = s.all.length + 1 := by
  have R := (right_iff s).1 hr
  have R' := taken_right R hf hq hm
  have hr' := (right_iff _).2 R'
  have hu := free_get (R.free k (by rw [hf]; simp))
  have hk := (List.getElem?_eq_some_iff.1 hu).1
  have hkg := (List.getElem?_eq_some_iff.1 hq).1
  refine ⟨hr', ?_, ?_, ?_⟩
  · rw [valid_iff hr, decide_eq_false_iff_not]
    rintro ⟨_, _, h3, _⟩
    simp only [Int.toNat_natCast, hu] at h3
    cases h3
  · rw [valid_iff hr', decide_eq_true_eq]
    refine ⟨by simp, by simp [Sl.taken]; omega, ?_, ?_⟩
    · simp [Sl.taken, hk]
    · simp [Sl.taken, hkg]
  · unfold Sl.all
    rw [hr, hr', if_pos rfl, if_pos rfl, takenOf_length, takenOf_length]
    exact count_true _ _ hu
theorem taken_other {s : Sl} (hr : s.right = true) {fs : List Int} {k : Nat} {q : Int} (hf : s.f = fs ++ [(k : Int)]) (hq : s.g[k]? = some q) (hm : q < 1000000000) {h : Int × Int} (hne : h ≠ ((k : Int), q + 1)) :
    s.valid h = (s.taken fs k q).valid h := by
  have R := (right_iff s).1 hr
  have hr' := (right_iff _).2 (taken_right R hf hq hm)
  have hu := free_get (R.free k (by rw [hf]; simp))
  have hkg := (List.getElem?_eq_some_iff.1 hq).1
  rw [valid_iff hr, valid_iff hr', decide_eq_decide]
  unfold Live
  obtain ⟨p, g⟩ := h
  simp only [Sl.taken, List.length_set]
  by_cases e : k = p.toNat
  · subst e
    constructor
    · rintro ⟨_, _, h3, _⟩
      rw [hu] at h3
      cases h3
    · rintro ⟨h0, _, _, h4⟩
      rw [List.getElem?_set_self hkg] at h4
      exact absurd (Prod.ext (show p = (p.toNat : Int) by omega) (Option.some.inj h4).symm) hne
  · rw [List.getElem?_set_ne e, List.getElem?_set_ne e]
end Go.Proofs.Ytbalebnhjpjhgaa

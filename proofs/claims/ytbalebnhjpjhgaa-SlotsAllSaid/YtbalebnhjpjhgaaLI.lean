/- A handle that was given back, plainly. -/
import Derived.Test.YtbalebnhjpjhgaaLH
namespace Go.Proofs.Ytbalebnhjpjhgaa
open Go.RowKit

/-- The handle ⟨k, q⟩ has grown old in t. -/
structure Aged (t : Sl) (k : Nat) (q : Int) (m1 m2 : Nat) : Prop where
  r : RightS t
  l1 : t.g.length = m1
  l2 : t.u.length = m2
  y : ∃ y, t.g[k]? = some y ∧ q ≤ y ∧ (y = q → t.u[k]? = some false)
theorem Aged.right {t : Sl} {k : Nat} {q : Int} {m1 m2 : Nat} (h : Aged t k q m1 m2) : t.right = true := (right_iff t).2 h.r
theorem Aged.not_valid {t : Sl} {k : Nat} {q : Int} {m1 m2 : Nat} (h : Aged t k q m1 m2) : t.valid ((k : Int), q) = false := by
  rw [valid_iff h.right, decide_eq_false_iff_not]
  rintro ⟨_, _, h3, h4⟩
  obtain ⟨y, hy, _, hu⟩ := h.y
  simp only [Int.toNat_natCast, hy, Option.some.injEq] at h3 h4
  rw [hu h4] at h3
  cases h3
theorem Aged.taken {t : Sl} {k : Nat} {q : Int} {m1 m2 : Nat} (h : Aged t k q m1 m2) {fs : List Int} {k' : Nat} {q' : Int} (hf : t.f = fs ++ [(k' : Int)]) (hq : t.g[k']? = some q') (hm : q' < 1000000000) :
    Aged (t.taken fs k' q') k q m1 m2 ∧ ¬ ((k' : Int) = k ∧ q' + 1 = q) := by
  obtain ⟨y, hy, hle, hu⟩ := h.y
  have hkg := (List.getElem?_eq_some_iff.1 hq).1
  refine ⟨⟨taken_right h.r hf hq hm, by simp only [Sl.taken, List.length_set]; exact h.l1, by simp only [Sl.taken, List.length_set]; exact h.l2, ?_⟩, ?_⟩
  · by_cases e : k' = k
    · subst e
      rw [hy] at hq
      have := Option.some.inj hq
      subst this
      exact ⟨y + 1, by simp only [Sl.taken]; exact List.getElem?_set_self hkg, by omega, fun e => by omega⟩
    · exact ⟨y, by simp only [Sl.taken]; rw [List.getElem?_set_ne e]; exact hy, hle, fun e2 => by simp only [Sl.taken]; rw [List.getElem?_set_ne e]; exact hu e2⟩
  · rintro ⟨e1, e2⟩
    have e : k' = k := by omega
    subst e
    rw [hy] at hq
    have := Option.some.inj hq
    omega
theorem taken_u {t : Sl} (R : RightS t) {fs : List Int} {k' : Nat} {q' : Int} (hf : t.f = fs ++ [(k' : Int)]) : (t.taken fs k' q').u[k']? = some true := by
  have hu := free_get (R.free k' (by rw [hf]; simp))
  have hk := (List.getElem?_eq_some_iff.1 hu).1
  simp only [Sl.taken]
  exact List.getElem?_set_self hk
theorem Aged.given {t : Sl} {k : Nat} {q : Int} {m1 m2 : Nat} (h : Aged t k q m1 m2) {k' : Nat} (hu : t.u[k']? = some true) : Aged (t.given k') k q m1 m2 := by
  obtain ⟨y, hy, hle, huk⟩ := h.y
  have hkl := (List.getElem?_eq_some_iff.1 hu).1
  refine ⟨given_right h.r hu, h.l1, by simp only [Sl.given, List.length_set]; exact h.l2, y, hy, hle, fun e => ?_⟩
  simp only [Sl.given]
  by_cases e2 : k' = k
  · subst e2; exact List.getElem?_set_self hkl
  · rw [List.getElem?_set_ne e2]; exact huk e
theorem aged_start {s : Sl} (hr : s.right = true) {k : Nat} {q : Int} {m1 m2 : Nat} (l1 : s.g.length = m1) (l2 : s.u.length = m2) (hu : s.u[k]? = some true) (hg : s.g[k]? = some q) : Aged (s.given k) k q m1 m2 := by
  have hkl := (List.getElem?_eq_some_iff.1 hu).1
  exact ⟨given_right ((right_iff s).1 hr) hu, l1, by simp only [Sl.given, List.length_set]; exact l2, q, hg, Int.le_refl _, fun _ => by simp only [Sl.given]; exact List.getElem?_set_self hkl⟩
theorem give_taken {t : Sl} (hr : t.right = true) {fs : List Int} {k' : Nat} {q' : Int} (hf : t.f = fs ++ [(k' : Int)]) (hq : t.g[k']? = some q') (hm : q' < 1000000000) :
    (t.taken fs k' q').give ((k' : Int), q' + 1) = ((t.taken fs k' q').given k', 0) := by
  obtain ⟨t1, _, t3, _⟩ := taken_facts hr hf hq hm
  unfold Sl.give
  rw [t1, t3]
  simp only [if_true, Int.toNat_natCast]
  rfl
/-- One turn: what is taken, and whether it is given back. -/
inductive Turn (t : Sl) (k : Nat) (q : Int) (m1 m2 : Nat) : Prop
  | full : t.take = (nilS, (0, 0), 92) → Turn t k q m1 m2
  | ok (u v : Sl) (p' g' : Int) : t.take = (u, (p', g'), 0) → Aged u k q m1 m2 → u.valid ((k : Int), q) = false → u.give (p', g') = (v, 0) → Aged v k q m1 m2 → (¬ p' = (k : Int) ∨ p' = (k : Int) ∧ ¬ g' = q) → Turn t k q m1 m2
theorem turn {t : Sl} {k : Nat} {q : Int} {m1 m2 : Nat} (h : Aged t k q m1 m2) : Turn t k q m1 m2 := by
  have hz := took t
  generalize hq : t.take = z at hz
  cases hz with
  | wrong hr => rw [h.right] at hr; cases hr
  | full _ => exact .full hq
  | ok fs k' q' hr hf hg hm =>
    obtain ⟨A, hne⟩ := h.taken hf hg hm
    refine .ok _ _ _ _ hq A A.not_valid (give_taken hr hf hg hm) (A.given (taken_u h.r hf)) ?_
    by_cases e : (k' : Int) = k
    · exact .inr ⟨e, fun e2 => hne ⟨e, e2⟩⟩
    · exact .inl e
end Go.Proofs.Ytbalebnhjpjhgaa

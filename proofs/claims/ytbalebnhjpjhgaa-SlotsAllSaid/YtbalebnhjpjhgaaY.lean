/- What slots that are taken and given back become, plainly. -/
import Derived.Test.YtbalebnhjpjhgaaX
namespace Go.Proofs.Ytbalebnhjpjhgaa
open Go.RowKit

theorem takenUpto_length (g : List Int) (u : List Bool) (k : Nat) (hk : k ≤ u.length) : (takenUpto g u k).length = (u.take k).count true := by
  induction k with
  | zero => simp [takenUpto]
  | succ k ih =>
    rw [List.take_succ_eq_append_getElem (by omega), List.count_append, ← ih (by omega)]
    simp only [takenUpto, List.length_append]
    have hk' : k < u.length := by omega
    rw [List.getElem?_eq_getElem hk', Option.getD_some]
    cases u[k] <;> simp
theorem takenOf_length (g : List Int) (u : List Bool) : (takenOf g u).length = u.count true := by
  unfold takenOf
  rw [takenUpto_length g u _ (Nat.le_refl _), List.take_length]
theorem count_true (u : List Bool) (k : Nat) (h : u[k]? = some false) : (u.set k true).count true = u.count true + 1 := by
  obtain ⟨hk, e⟩ := List.getElem?_eq_some_iff.1 h
  rw [List.count_set hk, e]
  simp
theorem count_false (u : List Bool) (k : Nat) (h : u[k]? = some true) : (u.set k false).count true + 1 = u.count true := by
  obtain ⟨hk, e⟩ := List.getElem?_eq_some_iff.1 h
  have hp : 0 < u.count true := List.count_pos_iff.2 (e ▸ List.getElem_mem hk)
  rw [List.count_set hk, e]
  simp
  omega
theorem free_get {u : List Bool} {k : Nat} (h : isFree u (k : Int)) : u[k]? = some false := by
  have h1 := h.2.1
  have h2 := h.2.2
  simp only [Int.toNat_natCast] at h2
  rw [List.getElem?_eq_getElem (by omega)] at h2 ⊢
  simpa using h2

/-- Slots of which the last free one is taken. -/
def Sl.taken (s : Sl) (fs : List Int) (k : Nat) (q : Int) : Sl := ⟨s.g.set k (q + 1), s.u.set k true, fs⟩
def Sl.given (s : Sl) (k : Nat) : Sl := ⟨s.g, s.u.set k false, s.f ++ [(k : Int)]⟩

theorem taken_right {s : Sl} (R : RightS s) {fs : List Int} {k : Nat} {q : Int} (hf : s.f = fs ++ [(k : Int)]) (hq : s.g[k]? = some q) (hm : q < 1000000000) : RightS (s.taken fs k q) := by
  have hu := free_get (R.free k (by rw [hf]; simp))
  have hnd := R.nodup
  rw [hf, List.nodup_append] at hnd
  have hc := R.count
  rw [takenOf_length, hf, List.length_append] at hc
  have hq0 : 0 ≤ q := (R.gen q (by obtain ⟨hj, e⟩ := List.getElem?_eq_some_iff.1 hq; rw [← e]; exact List.getElem_mem hj)).1
  have h4 := R.l4
  rw [hf, List.length_append] at h4
  refine ⟨by simpa [Sl.taken] using R.l1, by simpa [Sl.taken] using R.l2, by simpa [Sl.taken] using R.l3, by simp [Sl.taken] at *; omega, ?_, ?_, hnd.1, ?_⟩
  · intro y hy
    rcases List.mem_or_eq_of_mem_set hy with h | rfl
    · exact R.gen y h
    · omega
  · intro x hx
    have hfx := R.free x (by rw [hf]; simp [show x ∈ fs from hx])
    have hne : x ≠ k := hnd.2.2 x hx k (by simp)
    refine ⟨hfx.1, by simpa [Sl.taken] using hfx.2.1, ?_⟩
    have : k ≠ x.toNat := by have := hfx.1; omega
    simp only [Sl.taken, List.getElem?_set_ne this]
    exact hfx.2.2
  · rw [takenOf_length]
    simp only [Sl.taken, List.length_set, count_true _ _ hu]
    simp at hc
    omega

theorem given_right {s : Sl} (R : RightS s) {k : Nat} (hu : s.u[k]? = some true) : RightS (s.given k) := by
  have hk := (List.getElem?_eq_some_iff.1 hu).1
  have hc := R.count
  rw [takenOf_length] at hc
  have hcf := count_false s.u k hu
  have hnk : (k : Int) ∉ s.f := fun h => by
    have := free_get (R.free k h)
    rw [hu] at this
    cases this
  have h3 := R.l3
  refine ⟨R.l1, R.l2, by simpa [Sl.given] using R.l3, ?_, R.gen, ?_, ?_, ?_⟩
  · simp [Sl.given]; omega
  · intro x hx
    have hx' : x = k ∨ isFree s.u x := by
      rcases List.mem_append.1 hx with h | h
      · exact .inr (R.free x h)
      · exact .inl (by simpa using h)
    by_cases e : x = k
    · subst e
      exact ⟨by omega, by simp [Sl.given]; omega, by simp [Sl.given, hk]⟩
    · have hfx := hx'.resolve_left e
      refine ⟨hfx.1, by simpa [Sl.given] using hfx.2.1, ?_⟩
      have : k ≠ x.toNat := by have := hfx.1; omega
      simp only [Sl.given, List.getElem?_set_ne this]
      exact hfx.2.2
  · simp only [Sl.given, List.nodup_append]
    refine ⟨R.nodup, by simp, ?_⟩
    rintro a ha b hb rfl
    simp at hb; subst hb; exact hnk ha
  · rw [takenOf_length]
    simp only [Sl.given, List.length_set, List.length_append, List.length_cons, List.length_nil]
    omega

/-- How slots are taken. -/
inductive Took (s : Sl) : Sl × (Int × Int) × Int → Prop
  | wrong : s.right = false → Took s (nilS, (0, 0), 90)
  | full : s.right = true → Took s (nilS, (0, 0), 92)
  | ok (fs : List Int) (k : Nat) (q : Int) : s.right = true → s.f = fs ++ [(k : Int)] → s.g[k]? = some q → q < 1000000000 → Took s (s.taken fs k q, ((k : Int), q + 1), 0)
theorem took (s : Sl) : Took s s.take := by
  unfold Sl.take
  cases hr : s.right with
  | false => exact .wrong hr
  | true =>
    have R := (right_iff s).1 hr
    simp only [if_true]
    cases hl : s.f.getLast? with
    | none => exact .full hr
    | some x =>
      obtain ⟨fs, hf⟩ : ∃ fs, s.f = fs ++ [x] := List.getLast?_eq_some_iff.1 hl
      have hx := R.free x (by rw [hf]; simp)
      obtain ⟨k, rfl⟩ : ∃ k : Nat, x = k := ⟨x.toNat, by have := hx.1; omega⟩
      obtain ⟨q, hq⟩ : ∃ q, s.g[k]? = some q := ⟨_, List.getElem?_eq_getElem (by have := hx.2.1; have := R.l3; omega)⟩
      simp only [Int.toNat_natCast, hq, Option.getD_some]
      by_cases hm : q = 1000000000
      · simp only [hm, if_true]; exact .full hr
      · simp only [hm, if_false]
        have hg := R.gen q (by obtain ⟨hj, e⟩ := List.getElem?_eq_some_iff.1 hq; rw [← e]; exact List.getElem_mem hj)
        have hdl : s.f.dropLast = fs := by rw [hf, List.dropLast_concat]
        rw [hdl]
        exact .ok fs k q hr hf hq (by omega)
/-- How they are given back. -/
inductive Gave (s : Sl) (h : Int × Int) : Sl × Int → Prop
  | wrong : s.right = false → Gave s h (nilS, 90)
  | old : s.right = true → s.valid h = false → Gave s h (nilS, 91)
  | ok (k : Nat) : s.right = true → h.1 = k → s.u[k]? = some true → s.g[k]? = some h.2 → Gave s h (s.given k, 0)
theorem live_of_valid {s : Sl} {h : Int × Int} (hv : s.valid h = true) : s.right = true ∧ Live s h := by
  unfold Sl.valid at hv
  rw [Bool.and_eq_true] at hv
  exact ⟨hv.1, of_decide_eq_true hv.2⟩
theorem gave (s : Sl) (h : Int × Int) : Gave s h (s.give h) := by
  unfold Sl.give
  cases hr : s.right with
  | false => exact .wrong hr
  | true =>
    simp only [if_true]
    cases hv : s.valid h with
    | false => exact .old hr hv
    | true =>
      have hl := (live_of_valid hv).2
      obtain ⟨k, hk⟩ : ∃ k : Nat, h.1 = k := ⟨h.1.toNat, by have := hl.1; omega⟩
      have h1 := hl.2.2.1
      have h2 := hl.2.2.2
      simp only [hk, Int.toNat_natCast] at h1 h2
      simp only [if_true, hk, Int.toNat_natCast]
      exact .ok k hr hk h1 h2
theorem nil_right : nilS.right = false := by decide +kernel
theorem nil_valid (h : Int × Int) : nilS.valid h = false := by unfold Sl.valid; rw [nil_right]; rfl
end Go.Proofs.Ytbalebnhjpjhgaa

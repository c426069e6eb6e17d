/- The states of a tunnel, and what events do to them, as plain functions; what they have to do with each other. -/
import Derived.RowKit
namespace Go.Proofs.YtephifkabpidnaaDoor

def isSt (s : Int) : Bool := decide (0 ≤ s ∧ s ≤ 6)
/-- Where an event leads, if it may happen. -/
def dest (s e : Int) : Int := if e = 1 then 1 else if e = 2 then 2 else if e = 3 then 6 else if e = 4 then (if s = 4 then 5 else 3) else if e = 5 then (if s = 3 then 5 else 4) else if e = 6 then 6 else 0
def goes (s e : Int) : Bool := if e = 1 then decide (s = 0) else if e = 2 then decide (s = 1) else if e = 3 then decide (s = 1) else if e = 4 then decide (s = 4 ∨ s = 2) else if e = 5 then decide (s = 3 ∨ s = 2) else if e = 6 then decide (1 ≤ s ∧ s ≤ 4) else false
/-- Where events lead. -/
def run : Int → List Int → Int
  | s, [] => s
  | s, e :: l => if goes s e = true then run (dest s e) l else s
/-- How many of them happen. -/
def cnt : Int → List Int → Nat
  | _, [] => 0
  | s, e :: l => if goes s e = true then cnt (dest s e) l + 1 else 0
def inB (s : Int) : Bool := decide (s = 2 ∨ s = 4)
def outB (s : Int) : Bool := decide (s = 2 ∨ s = 3)
def endB (s : Int) : Bool := decide (s = 5 ∨ s = 6)
/-- What is reached, and by how many events. -/
def reach (f : Int) : List (Int × Int) :=
  if f = 0 then [(0, 0), (1, 1), (2, 2), (6, 2), (3, 3), (4, 3), (5, 4)]
  else if f = 1 then [(1, 0), (2, 1), (6, 1), (3, 2), (4, 2), (5, 3)]
  else if f = 2 then [(2, 0), (3, 1), (4, 1), (6, 1), (5, 2)]
  else if f = 3 then [(3, 0), (5, 1), (6, 1)]
  else if f = 4 then [(4, 0), (5, 1), (6, 1)]
  else if f = 5 then [(5, 0)]
  else if f = 6 then [(6, 0)] else []
def far : List (Int × Int) → Int → Option Int
  | [], _ => none
  | (s, n) :: l, t => if s = t then some n else far l t
def leastN (f t : Int) : Int := (far (reach f) t).getD 0
def leastB (f t : Int) : Bool := (far (reach f) t).isSome

theorem isSt_cases {s : Int} (h : isSt s = true) : s = 0 ∨ s = 1 ∨ s = 2 ∨ s = 3 ∨ s = 4 ∨ s = 5 ∨ s = 6 := by
  simp only [isSt, decide_eq_true_eq] at h
  omega
theorem goes_cases {s e : Int} (h : goes s e = true) :
    (s = 0 ∧ e = 1) ∨ (s = 1 ∧ e = 2) ∨ (s = 1 ∧ e = 3) ∨ (s = 1 ∧ e = 6) ∨ (s = 2 ∧ e = 4) ∨ (s = 2 ∧ e = 5) ∨ (s = 2 ∧ e = 6) ∨ (s = 3 ∧ e = 5) ∨ (s = 3 ∧ e = 6) ∨ (s = 4 ∧ e = 4) ∨ (s = 4 ∧ e = 6) := by
  unfold goes at h
  split at h
  · simp at h; omega
  · split at h
    · simp at h; omega
    · split at h
      · simp at h; omega
      · split at h
        · simp at h; omega
        · split at h
          · simp at h; omega
          · split at h
            · simp at h; omega
            · simp at h
theorem dest_st {s e : Int} (h : goes s e = true) : isSt (dest s e) = true := by
  rcases goes_cases h with ⟨rfl, rfl⟩ | ⟨rfl, rfl⟩ | ⟨rfl, rfl⟩ | ⟨rfl, rfl⟩ | ⟨rfl, rfl⟩ | ⟨rfl, rfl⟩ | ⟨rfl, rfl⟩ | ⟨rfl, rfl⟩ | ⟨rfl, rfl⟩ | ⟨rfl, rfl⟩ | ⟨rfl, rfl⟩ <;> decide
theorem run_st {s : Int} (l : List Int) (h : isSt s = true) : isSt (run s l) = true := by
  induction l generalizing s with
  | nil => exact h
  | cons e l ih => simp only [run]; split
                   · exact ih (dest_st ‹_›)
                   · exact h
theorem cnt_le (s : Int) (l : List Int) : cnt s l ≤ l.length := by
  induction l generalizing s with
  | nil => simp [cnt]
  | cons e l ih => simp only [cnt, List.length_cons]; split
                   · have := ih (dest s e); omega
                   · omega
/-- What is kept by each event is kept by events. -/
theorem run_keeps {P : Int → Prop} (hP : ∀ s e, P s → goes s e = true → P (dest s e)) {s : Int} (l : List Int) (h : P s) : P (run s l) := by
  induction l generalizing s with
  | nil => exact h
  | cons e l ih => simp only [run]; split
                   · exact ih (hP _ _ h ‹_›)
                   · exact h
/-- How many events may still happen. -/
def left (s : Int) : Nat := if s = 0 then 4 else if s = 1 then 3 else if s = 2 then 2 else if s = 3 ∨ s = 4 then 1 else 0
theorem left_dest {s e : Int} (h : goes s e = true) : left (dest s e) + 1 ≤ left s := by
  rcases goes_cases h with ⟨rfl, rfl⟩ | ⟨rfl, rfl⟩ | ⟨rfl, rfl⟩ | ⟨rfl, rfl⟩ | ⟨rfl, rfl⟩ | ⟨rfl, rfl⟩ | ⟨rfl, rfl⟩ | ⟨rfl, rfl⟩ | ⟨rfl, rfl⟩ | ⟨rfl, rfl⟩ | ⟨rfl, rfl⟩ <;> decide
theorem cnt_left (s : Int) (l : List Int) : cnt s l ≤ left s := by
  induction l generalizing s with
  | nil => simp [cnt]
  | cons e l ih => simp only [cnt]; split
                   · have := ih (dest s e); have := left_dest ‹_›; omega
                   · omega
theorem cnt_four (s : Int) (l : List Int) : cnt s l ≤ 4 := by
  have h := cnt_left s l
  have : left s ≤ 4 := by unfold left; repeat' split
                          all_goals omega
  omega
theorem end_stays {s : Int} (l : List Int) (h : endB s = true) : run s l = s ∧ cnt s l = 0 := by
  have hg : ∀ e, goes s e = false := by
    intro e
    cases hg : goes s e with
    | false => rfl
    | true => simp only [endB, decide_eq_true_eq] at h; rcases goes_cases hg with h' | h' | h' | h' | h' | h' | h' | h' | h' | h' | h' <;> omega
  cases l with
  | nil => exact ⟨rfl, rfl⟩
  | cons e l => simp [run, cnt, hg]
theorem in_stays {s : Int} (l : List Int) (h : s = 3 ∨ s = 5 ∨ s = 6) : inB (run s l) = false := by
  have := run_keeps (P := fun s => s = 3 ∨ s = 5 ∨ s = 6) (fun s e h hg => by
    rcases goes_cases hg with ⟨rfl, rfl⟩ | ⟨rfl, rfl⟩ | ⟨rfl, rfl⟩ | ⟨rfl, rfl⟩ | ⟨rfl, rfl⟩ | ⟨rfl, rfl⟩ | ⟨rfl, rfl⟩ | ⟨rfl, rfl⟩ | ⟨rfl, rfl⟩ | ⟨rfl, rfl⟩ | ⟨rfl, rfl⟩ <;> revert h <;> decide) l h
  simp only [inB, decide_eq_false_iff_not]; omega
theorem out_stays {s : Int} (l : List Int) (h : s = 4 ∨ s = 5 ∨ s = 6) : outB (run s l) = false := by
  have := run_keeps (P := fun s => s = 4 ∨ s = 5 ∨ s = 6) (fun s e h hg => by
    rcases goes_cases hg with ⟨rfl, rfl⟩ | ⟨rfl, rfl⟩ | ⟨rfl, rfl⟩ | ⟨rfl, rfl⟩ | ⟨rfl, rfl⟩ | ⟨rfl, rfl⟩ | ⟨rfl, rfl⟩ | ⟨rfl, rfl⟩ | ⟨rfl, rfl⟩ | ⟨rfl, rfl⟩ | ⟨rfl, rfl⟩ <;> revert h <;> decide) l h
  simp only [outB, decide_eq_false_iff_not]; omega
theorem run_append (s : Int) (l m : List Int) : run s (l ++ m) = if cnt s l = l.length then run (run s l) m else run s l := by
  induction l generalizing s with
  | nil => simp [run, cnt]
  | cons e l ih =>
    simp only [List.cons_append, run, cnt, List.length_cons]
    by_cases h : goes s e = true
    · simp [h, ih]
    · simp [h]
theorem cnt_append (s : Int) (l m : List Int) : cnt s (l ++ m) = if cnt s l = l.length then l.length + cnt (run s l) m else cnt s l := by
  induction l generalizing s with
  | nil => simp [run, cnt]
  | cons e l ih =>
    simp only [List.cons_append, run, cnt, List.length_cons]
    by_cases h : goes s e = true
    · simp only [h, if_true, ih, Nat.add_right_cancel_iff]
      split <;> omega
    · simp [h]
theorem least_far {s e : Int} (h : goes s e = true) (t : Int) (n : Int) (hn : far (reach (dest s e)) t = some n) : ∃ m, far (reach s) t = some m ∧ m ≤ n + 1 ∧ m ≠ 0 := by
  rcases goes_cases h with ⟨rfl, rfl⟩ | ⟨rfl, rfl⟩ | ⟨rfl, rfl⟩ | ⟨rfl, rfl⟩ | ⟨rfl, rfl⟩ | ⟨rfl, rfl⟩ | ⟨rfl, rfl⟩ | ⟨rfl, rfl⟩ | ⟨rfl, rfl⟩ | ⟨rfl, rfl⟩ | ⟨rfl, rfl⟩ <;>
    · have ht : t = 0 ∨ t = 1 ∨ t = 2 ∨ t = 3 ∨ t = 4 ∨ t = 5 ∨ t = 6 := by
        revert hn; simp [dest, reach, far]; intro hn; revert hn; repeat' split
        all_goals (intro hn; first | omega | simp at hn)
      rcases ht with rfl | rfl | rfl | rfl | rfl | rfl | rfl <;> revert hn <;> simp [dest, reach, far] <;> (try omega)
theorem far_nonneg {l : List (Int × Int)} {t m : Int} (h : ∀ x ∈ l, 0 ≤ x.2) (hm : far l t = some m) : 0 ≤ m := by
  induction l with
  | nil => cases hm
  | cons x l ih =>
    obtain ⟨y, k⟩ := x
    simp only [far] at hm
    split at hm
    · cases hm; exact h (y, m) (by simp)
    · exact ih (fun z hz => h z (by simp [hz])) hm
theorem reach_nonneg (s : Int) : ∀ x ∈ reach s, 0 ≤ x.2 := by
  unfold reach
  repeat' split
  all_goals decide
theorem least_run {s : Int} (l : List Int) (h : isSt s = true) : ∃ m : Int, far (reach s) (run s l) = some m ∧ 0 ≤ m ∧ m ≤ cnt s l ∧ (m = 0 ↔ run s l = s) := by
  induction l generalizing s with
  | nil =>
    refine ⟨0, ?_, by omega, by simp [cnt], by simp [run]⟩
    rcases isSt_cases h with rfl | rfl | rfl | rfl | rfl | rfl | rfl <;> rfl
  | cons e l ih =>
    by_cases hg : goes s e = true
    · obtain ⟨n, h1, h2, h3, h4⟩ := ih (dest_st hg)
      obtain ⟨m, g1, g2, g3⟩ := least_far hg _ n h1
      have hne : run (dest s e) l ≠ s := by
        intro hs
        have hl := left_dest hg
        have : left (run (dest s e) l) ≤ left (dest s e) := run_keeps (P := fun x => left x ≤ left (dest s e)) (fun x y hx hxy => by have := left_dest hxy; omega) l (Nat.le_refl _)
        rw [hs] at this; omega
      refine ⟨m, by simp [run, hg, g1], ?_, by simp only [cnt, hg, if_true]; omega, ?_⟩
      · exact far_nonneg (reach_nonneg s) g1
      · simp only [run, hg, if_true]
        exact ⟨fun h => absurd h g3, fun h => absurd h hne⟩
    · refine ⟨0, ?_, by omega, by simp [cnt, hg], by simp [run, hg]⟩
      simp only [run, hg, if_false, Bool.false_eq_true]
      rcases isSt_cases h with rfl | rfl | rfl | rfl | rfl | rfl | rfl <;> rfl
end Go.Proofs.YtephifkabpidnaaDoor

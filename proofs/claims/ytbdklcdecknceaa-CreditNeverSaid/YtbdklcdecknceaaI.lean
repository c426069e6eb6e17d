/- The document's own answers (wicketgateref13): what they answer. -/
import Derived.Test.YtbdklcdecknceaaH
namespace Go.Proofs.Ytbdklcdecknceaa
open Go.RowKit

set_option maxRecDepth 100000 in
set_option maxHeartbeats 1000000 in
theorem refRight_any (g s : Int) (w : World) :
    Calls Try.prog 14 #[.agg #[.int .i64 g, .int .i64 s]] w fun e w' => e = .returned (.bool (rightB g s)) ∧ Below w.heap.size w w' := by
  by_cases h1 : 0 ≤ s
  · by_cases h2 : s ≤ g
    · by_cases h3 : g ≤ 1000000000000
      · have d1 : decide (0 ≤ s) = true := decide_eq_true h1
        have d2 : decide (s ≤ g) = true := decide_eq_true h2
        have d3 : decide (g ≤ 1000000000000) = true := decide_eq_true h3
        go_enter Try.func14, Try.ntmps14
        go_wp2
        go_ret
        refine ⟨ret_bool ?_, (Below.refl _ _).alloc (Nat.le_refl _) _⟩
        rw [Bool.eq_iff_iff, right_iff, decide_eq_true_eq]
        omega
      · have d3 : decide (g ≤ 1000000000000) = false := decide_eq_false h3
        have hr : rightB g s = false := by rw [← Bool.not_eq_true, right_iff]; omega
        rw [hr]
        clear hr
        go_enter Try.func14, Try.ntmps14
        go_wp2
        go_ret
        exact ⟨rfl, (Below.refl _ _).alloc (Nat.le_refl _) _⟩
    · have d2 : decide (s ≤ g) = false := decide_eq_false h2
      have hr : rightB g s = false := by rw [← Bool.not_eq_true, right_iff]; omega
      rw [hr]
      clear hr
      go_enter Try.func14, Try.ntmps14
      go_wp2
      go_ret
      exact ⟨rfl, (Below.refl _ _).alloc (Nat.le_refl _) _⟩
  · have d1 : decide (0 ≤ s) = false := decide_eq_false h1
    have hr : rightB g s = false := by rw [← Bool.not_eq_true, right_iff]; omega
    rw [hr]
    clear hr
    go_enter Try.func14, Try.ntmps14
    go_wp2
    go_ret
    exact ⟨rfl, (Below.refl _ _).alloc (Nat.le_refl _) _⟩

set_option maxHeartbeats 400000 in
theorem refLeft_any (g s : Int) (w : World) :
    Calls Try.prog 16 #[.agg #[.int .i64 g, .int .i64 s]] w fun e w' => e = .returned (.int .i64 (if rightB g s = true then g - s else 0)) ∧ Below w.heap.size w w' := by
  by_cases h : rightB g s = true
  · obtain ⟨b1, b2, b3, b4⟩ := bnd_of h
    rw [if_pos h]
    go_enter Try.func16, Try.ntmps16
    go_wp2_with (first
      | (go_at_call 14; refine (refRight_any _ _ _).mono ?_; rintro e w1 ⟨rfl, hb1⟩; obtain ⟨hc1, hf1⟩ := bcell hb1))
    go_ret
    exact ⟨rfl, (((Below.refl _ _).alloc (Nat.le_refl _) _).trans (hb1.mono (by simp)))⟩
  · have h' : rightB g s = false := by simpa using h
    rw [if_neg h]
    clear h
    go_enter Try.func16, Try.ntmps16
    go_wp2_with (first
      | (go_at_call 14; refine (refRight_any _ _ _).mono ?_; rintro e w1 ⟨rfl, hb1⟩))
    go_ret
    exact ⟨rfl, (((Below.refl _ _).alloc (Nat.le_refl _) _).trans (hb1.mono (by simp)))⟩
end Go.Proofs.Ytbdklcdecknceaa

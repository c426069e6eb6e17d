/- The document's own May and Verbs: their contracts. -/
import Derived.Test.YtbkoldjblkbpeaaDoorP
import Derived.Deep.AppendLies
namespace Go.Proofs.YtbkoldjblkbpeaaDoor
open Go.RowKit Go.Shelf
attribute [local go_sem] Oper.semAt_some

theorem verbs11 (v : Int) : v = 1 ∨ v = 2 ∨ v = 3 ∨ v = 4 ∨ v = 5 ∨ v = 6 ∨ v = 7 ∨ v = 8 ∨ v = 9 ∨ v = 10 ∨ (v ≠ 1 ∧ v ≠ 2 ∧ v ≠ 3 ∧ v ≠ 4 ∧ v ≠ 5 ∧ v ≠ 6 ∧ v ≠ 7 ∧ v ≠ 8 ∧ v ≠ 9 ∧ v ≠ 10) := by omega
theorem mayB_role (r v : Int) (h : r ≠ 3 ∧ r ≠ 2 ∧ r ≠ 1) : mayB r v = false := by
  unfold mayB mayL
  rw [if_neg h.1, if_neg h.2.1, if_neg h.2.2]
  simp [vInts]
theorem mayB_verb (r v : Int) (h : ¬ (1 ≤ v ∧ v ≤ 10)) : mayB r v = false := by
  unfold mayB
  rw [decide_eq_false_iff_not]
  intro hm
  simp only [vInts, List.mem_map] at hm
  obtain ⟨x, _, rfl⟩ := hm
  have := x.isLt
  omega

set_option maxRecDepth 100000 in
set_option maxHeartbeats 8000000 in
theorem refMay_none (r v : Int) (hr : r ≠ 3 ∧ r ≠ 2 ∧ r ≠ 1) (w : World) : Calls Tryd.prog 17 #[.int .i64 r, .int .i64 v] w fun x w' => x = .returned (.bool false) ∧ w = w' := by
  obtain ⟨h3, h2, h1⟩ := hr
  have e3 : (r == 3) = false := by simpa using h3
  have e2 : (r == 2) = false := by simpa using h2
  rcases verbs11 v with rfl | rfl | rfl | rfl | rfl | rfl | rfl | rfl | rfl | rfl | hv
  case inr.inr.inr.inr.inr.inr.inr.inr.inr.inr =>
    obtain ⟨_, _, _, _, _, _, _, _, _, _⟩ := hv
    go_enter Tryd.func17, Tryd.ntmps17
    go_wp2
    go_ret
    exact ⟨rfl, rfl⟩
  case inr.inr.inr.inr.inr.inr.inr.inr.inl =>
    by_cases hg : 1 ≤ r
    · have hg2 : ¬ r ≤ 3 := by omega
      go_enter Tryd.func17, Tryd.ntmps17
      go_wp2
      go_ret
      exact ⟨rfl, rfl⟩
    · go_enter Tryd.func17, Tryd.ntmps17
      go_wp2
      go_ret
      exact ⟨rfl, rfl⟩
  case inr.inr.inr.inr.inr.inr.inr.inr.inr.inl =>
    by_cases hg : 1 ≤ r
    · have hg2 : ¬ r ≤ 3 := by omega
      go_enter Tryd.func17, Tryd.ntmps17
      go_wp2
      go_ret
      exact ⟨rfl, rfl⟩
    · go_enter Tryd.func17, Tryd.ntmps17
      go_wp2
      go_ret
      exact ⟨rfl, rfl⟩
  all_goals
    go_enter Tryd.func17, Tryd.ntmps17
    go_wp2
    go_ret
    exact ⟨rfl, rfl⟩

set_option maxRecDepth 100000 in
set_option maxHeartbeats 8000000 in
theorem refMay_c (r v : Int) (w : World) : Calls Tryd.prog 17 #[.int .i64 r, .int .i64 v] w fun x w' => x = .returned (.bool (mayB r v)) ∧ w = w' := by
  rcases roles4 r with rfl | rfl | rfl | hr
  · rcases verbs11 v with rfl | rfl | rfl | rfl | rfl | rfl | rfl | rfl | rfl | rfl | hv
    case inr.inr.inr.inr.inr.inr.inr.inr.inr.inr =>
      rw [mayB_verb _ v (by omega)]
      obtain ⟨_, _, _, _, _, _, _, _, _, _⟩ := hv
      go_enter Tryd.func17, Tryd.ntmps17
      go_wp2
      go_ret
      exact ⟨rfl, rfl⟩
    all_goals
      first
        | (rw [show mayB _ _ = true from by decide +kernel]; go_enter Tryd.func17, Tryd.ntmps17; go_wp2; go_ret; exact ⟨rfl, rfl⟩)
        | (rw [show mayB _ _ = false from by decide +kernel]; go_enter Tryd.func17, Tryd.ntmps17; go_wp2; go_ret; exact ⟨rfl, rfl⟩)
  · rcases verbs11 v with rfl | rfl | rfl | rfl | rfl | rfl | rfl | rfl | rfl | rfl | hv
    case inr.inr.inr.inr.inr.inr.inr.inr.inr.inr =>
      rw [mayB_verb _ v (by omega)]
      obtain ⟨_, _, _, _, _, _, _, _, _, _⟩ := hv
      go_enter Tryd.func17, Tryd.ntmps17
      go_wp2
      go_ret
      exact ⟨rfl, rfl⟩
    all_goals
      first
        | (rw [show mayB _ _ = true from by decide +kernel]; go_enter Tryd.func17, Tryd.ntmps17; go_wp2; go_ret; exact ⟨rfl, rfl⟩)
        | (rw [show mayB _ _ = false from by decide +kernel]; go_enter Tryd.func17, Tryd.ntmps17; go_wp2; go_ret; exact ⟨rfl, rfl⟩)
  · rcases verbs11 v with rfl | rfl | rfl | rfl | rfl | rfl | rfl | rfl | rfl | rfl | hv
    case inr.inr.inr.inr.inr.inr.inr.inr.inr.inr =>
      rw [mayB_verb _ v (by omega)]
      obtain ⟨_, _, _, _, _, _, _, _, _, _⟩ := hv
      go_enter Tryd.func17, Tryd.ntmps17
      go_wp2
      go_ret
      exact ⟨rfl, rfl⟩
    all_goals
      first
        | (rw [show mayB _ _ = true from by decide +kernel]; go_enter Tryd.func17, Tryd.ntmps17; go_wp2; go_ret; exact ⟨rfl, rfl⟩)
        | (rw [show mayB _ _ = false from by decide +kernel]; go_enter Tryd.func17, Tryd.ntmps17; go_wp2; go_ret; exact ⟨rfl, rfl⟩)
  · rw [mayB_role r v hr]
    exact refMay_none r v hr w
end Go.Proofs.YtbkoldjblkbpeaaDoor

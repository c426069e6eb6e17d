/- The document's own answers for layer 14: Next, In, Out, IsEnd. -/
import Derived.Test.YtephifkabpidnaaDoorM
namespace Go.Proofs.YtephifkabpidnaaDoor
open Go.RowKit Go.Shelf
attribute [local go_sem] Oper.semAt_some

theorem ret_two {a b c d : Int} (h : a = b) (h' : c = d) : Ending.returned (.tuple #[.int .i64 a, .int .i64 c]) = .returned (.tuple #[.int .i64 b, .int .i64 d]) := by rw [h, h']
theorem next_out {s e : Int} (hs : isSt s = false) : nextN s e = 0 ∧ nextE s e = 2 := by
  unfold nextN nextE
  rw [if_neg (by simp [hs]), if_neg (by simp [hs])]
  exact ⟨rfl, rfl⟩
theorem next_not {s e : Int} (hs : isSt s = true) (hg : goes s e = false) : nextN s e = 0 ∧ nextE s e = 140 := by
  unfold nextN nextE
  rw [if_pos hs, if_pos hs, hg]
  exact ⟨rfl, rfl⟩
theorem goes_not {s e : Int} (h : ¬ ((s = 0 ∧ e = 1) ∨ (s = 1 ∧ e = 2) ∨ (s = 1 ∧ e = 3) ∨ (s = 1 ∧ e = 6) ∨ (s = 2 ∧ e = 4) ∨ (s = 2 ∧ e = 5) ∨ (s = 2 ∧ e = 6) ∨ (s = 3 ∧ e = 5) ∨ (s = 3 ∧ e = 6) ∨ (s = 4 ∧ e = 4) ∨ (s = 4 ∧ e = 6))) : goes s e = false := by
  cases hg : goes s e with
  | false => rfl
  | true => exact absurd (goes_cases hg) h

theorem refNext_out (s e : Int) (w : World) (hs : isSt s = false) : Calls Tryd.prog 13 #[.int .i64 s, .int .i64 e] w fun x w' => x = .returned (.tuple #[.int .i64 (nextN s e), .int .i64 (nextE s e)]) ∧ w = w' := by
  obtain ⟨h1, h2⟩ := next_out (e := e) hs
  rw [h1, h2]
  simp only [isSt, decide_eq_false_iff_not] at hs
  by_cases h : s < 0
  · go_enter Tryd.func13, Tryd.ntmps13
    go_wp2
    go_ret2
    exact ⟨rfl, rfl⟩
  · have h6 : 6 < s := by omega
    go_enter Tryd.func13, Tryd.ntmps13
    go_wp2
    go_ret2
    exact ⟨rfl, rfl⟩

set_option maxRecDepth 100000 in
set_option maxHeartbeats 2000000 in
theorem refNext_0 (e : Int) (w : World) : Calls Tryd.prog 13 #[.int .i64 0, .int .i64 e] w fun x w' => x = .returned (.tuple #[.int .i64 (nextN 0 e), .int .i64 (nextE 0 e)]) ∧ w = w' := by
  by_cases h1 : e = 1
  · subst h1
    go_enter Tryd.func13, Tryd.ntmps13
    go_wp2
    go_ret2
    exact ⟨ret_two (by decide +kernel) (by decide +kernel), rfl⟩
  have d1 : (e == 1) = false := by simpa using h1
  obtain ⟨g1, g2⟩ := next_not (s := 0) (e := e) (by decide) (goes_not (by omega))
  rw [g1, g2]
  clear g1 g2
  go_enter Tryd.func13, Tryd.ntmps13
  go_wp2
  go_ret2
  exact ⟨rfl, rfl⟩
set_option maxRecDepth 100000 in
set_option maxHeartbeats 2000000 in
theorem refNext_1 (e : Int) (w : World) : Calls Tryd.prog 13 #[.int .i64 1, .int .i64 e] w fun x w' => x = .returned (.tuple #[.int .i64 (nextN 1 e), .int .i64 (nextE 1 e)]) ∧ w = w' := by
  by_cases h2 : e = 2
  · subst h2
    go_enter Tryd.func13, Tryd.ntmps13
    go_wp2
    go_ret2
    exact ⟨ret_two (by decide +kernel) (by decide +kernel), rfl⟩
  have d2 : (e == 2) = false := by simpa using h2
  by_cases h3 : e = 3
  · subst h3
    go_enter Tryd.func13, Tryd.ntmps13
    go_wp2
    go_ret2
    exact ⟨ret_two (by decide +kernel) (by decide +kernel), rfl⟩
  have d3 : (e == 3) = false := by simpa using h3
  by_cases h6 : e = 6
  · subst h6
    go_enter Tryd.func13, Tryd.ntmps13
    go_wp2
    go_ret2
    exact ⟨ret_two (by decide +kernel) (by decide +kernel), rfl⟩
  have d6 : (e == 6) = false := by simpa using h6
  obtain ⟨g1, g2⟩ := next_not (s := 1) (e := e) (by decide) (goes_not (by omega))
  rw [g1, g2]
  clear g1 g2
  go_enter Tryd.func13, Tryd.ntmps13
  go_wp2
  go_ret2
  exact ⟨rfl, rfl⟩
set_option maxRecDepth 100000 in
set_option maxHeartbeats 2000000 in
theorem refNext_2 (e : Int) (w : World) : Calls Tryd.prog 13 #[.int .i64 2, .int .i64 e] w fun x w' => x = .returned (.tuple #[.int .i64 (nextN 2 e), .int .i64 (nextE 2 e)]) ∧ w = w' := by
  by_cases h4 : e = 4
  · subst h4
    go_enter Tryd.func13, Tryd.ntmps13
    go_wp2
    go_ret2
    exact ⟨ret_two (by decide +kernel) (by decide +kernel), rfl⟩
  have d4 : (e == 4) = false := by simpa using h4
  by_cases h5 : e = 5
  · subst h5
    go_enter Tryd.func13, Tryd.ntmps13
    go_wp2
    go_ret2
    exact ⟨ret_two (by decide +kernel) (by decide +kernel), rfl⟩
  have d5 : (e == 5) = false := by simpa using h5
  by_cases h6 : e = 6
  · subst h6
    go_enter Tryd.func13, Tryd.ntmps13
    go_wp2
    go_ret2
    exact ⟨ret_two (by decide +kernel) (by decide +kernel), rfl⟩
  have d6 : (e == 6) = false := by simpa using h6
  obtain ⟨g1, g2⟩ := next_not (s := 2) (e := e) (by decide) (goes_not (by omega))
  rw [g1, g2]
  clear g1 g2
  go_enter Tryd.func13, Tryd.ntmps13
  go_wp2
  go_ret2
  exact ⟨rfl, rfl⟩
set_option maxRecDepth 100000 in
set_option maxHeartbeats 2000000 in
theorem refNext_3 (e : Int) (w : World) : Calls Tryd.prog 13 #[.int .i64 3, .int .i64 e] w fun x w' => x = .returned (.tuple #[.int .i64 (nextN 3 e), .int .i64 (nextE 3 e)]) ∧ w = w' := by
  by_cases h5 : e = 5
  · subst h5
    go_enter Tryd.func13, Tryd.ntmps13
    go_wp2
    go_ret2
    exact ⟨ret_two (by decide +kernel) (by decide +kernel), rfl⟩
  have d5 : (e == 5) = false := by simpa using h5
  by_cases h6 : e = 6
  · subst h6
    go_enter Tryd.func13, Tryd.ntmps13
    go_wp2
    go_ret2
    exact ⟨ret_two (by decide +kernel) (by decide +kernel), rfl⟩
  have d6 : (e == 6) = false := by simpa using h6
  obtain ⟨g1, g2⟩ := next_not (s := 3) (e := e) (by decide) (goes_not (by omega))
  rw [g1, g2]
  clear g1 g2
  go_enter Tryd.func13, Tryd.ntmps13
  go_wp2
  go_ret2
  exact ⟨rfl, rfl⟩
set_option maxRecDepth 100000 in
set_option maxHeartbeats 2000000 in
theorem refNext_4 (e : Int) (w : World) : Calls Tryd.prog 13 #[.int .i64 4, .int .i64 e] w fun x w' => x = .returned (.tuple #[.int .i64 (nextN 4 e), .int .i64 (nextE 4 e)]) ∧ w = w' := by
  by_cases h4 : e = 4
  · subst h4
    go_enter Tryd.func13, Tryd.ntmps13
    go_wp2
    go_ret2
    exact ⟨ret_two (by decide +kernel) (by decide +kernel), rfl⟩
  have d4 : (e == 4) = false := by simpa using h4
  by_cases h6 : e = 6
  · subst h6
    go_enter Tryd.func13, Tryd.ntmps13
    go_wp2
    go_ret2
    exact ⟨ret_two (by decide +kernel) (by decide +kernel), rfl⟩
  have d6 : (e == 6) = false := by simpa using h6
  obtain ⟨g1, g2⟩ := next_not (s := 4) (e := e) (by decide) (goes_not (by omega))
  rw [g1, g2]
  clear g1 g2
  go_enter Tryd.func13, Tryd.ntmps13
  go_wp2
  go_ret2
  exact ⟨rfl, rfl⟩
set_option maxRecDepth 100000 in
set_option maxHeartbeats 2000000 in
theorem refNext_5 (e : Int) (w : World) : Calls Tryd.prog 13 #[.int .i64 5, .int .i64 e] w fun x w' => x = .returned (.tuple #[.int .i64 (nextN 5 e), .int .i64 (nextE 5 e)]) ∧ w = w' := by
  obtain ⟨g1, g2⟩ := next_not (s := 5) (e := e) (by decide) (goes_not (by omega))
  rw [g1, g2]
  clear g1 g2
  go_enter Tryd.func13, Tryd.ntmps13
  go_wp2
  go_ret2
  exact ⟨rfl, rfl⟩
set_option maxRecDepth 100000 in
set_option maxHeartbeats 2000000 in
theorem refNext_6 (e : Int) (w : World) : Calls Tryd.prog 13 #[.int .i64 6, .int .i64 e] w fun x w' => x = .returned (.tuple #[.int .i64 (nextN 6 e), .int .i64 (nextE 6 e)]) ∧ w = w' := by
  obtain ⟨g1, g2⟩ := next_not (s := 6) (e := e) (by decide) (goes_not (by omega))
  rw [g1, g2]
  clear g1 g2
  go_enter Tryd.func13, Tryd.ntmps13
  go_wp2
  go_ret2
  exact ⟨rfl, rfl⟩
theorem refNext_c (s e : Int) (w : World) : Calls Tryd.prog 13 #[.int .i64 s, .int .i64 e] w fun x w' => x = .returned (.tuple #[.int .i64 (nextN s e), .int .i64 (nextE s e)]) ∧ w = w' := by
  cases hs : isSt s with
  | false => exact refNext_out s e w hs
  | true =>
    rcases isSt_cases hs with rfl | rfl | rfl | rfl | rfl | rfl | rfl
    · exact refNext_0 e w
    · exact refNext_1 e w
    · exact refNext_2 e w
    · exact refNext_3 e w
    · exact refNext_4 e w
    · exact refNext_5 e w
    · exact refNext_6 e w

theorem refIn_c (s : Int) (w : World) : Calls Tryd.prog 19 #[.int .i64 s] w fun x w' => x = .returned (.bool (inB s)) ∧ w = w' := by
  by_cases h : s = 2
  · subst h
    go_enter Tryd.func19, Tryd.ntmps19
    go_wp2
    go_ret
    exact ⟨rfl, rfl⟩
  · have d : (s == 2) = false := by simpa using h
    by_cases h' : s = 4
    · subst h'
      go_enter Tryd.func19, Tryd.ntmps19
      go_wp2
      go_ret
      exact ⟨rfl, rfl⟩
    · have d' : (s == 4) = false := by simpa using h'
      have e : inB s = false := by simp only [inB, decide_eq_false_iff_not]; omega
      rw [e]
      go_enter Tryd.func19, Tryd.ntmps19
      go_wp2
      go_ret
      exact ⟨rfl, rfl⟩
theorem refOut_c (s : Int) (w : World) : Calls Tryd.prog 21 #[.int .i64 s] w fun x w' => x = .returned (.bool (outB s)) ∧ w = w' := by
  by_cases h : s = 2
  · subst h
    go_enter Tryd.func21, Tryd.ntmps21
    go_wp2
    go_ret
    exact ⟨rfl, rfl⟩
  · have d : (s == 2) = false := by simpa using h
    by_cases h' : s = 3
    · subst h'
      go_enter Tryd.func21, Tryd.ntmps21
      go_wp2
      go_ret
      exact ⟨rfl, rfl⟩
    · have d' : (s == 3) = false := by simpa using h'
      have e : outB s = false := by simp only [outB, decide_eq_false_iff_not]; omega
      rw [e]
      go_enter Tryd.func21, Tryd.ntmps21
      go_wp2
      go_ret
      exact ⟨rfl, rfl⟩
theorem refEnd_c (s : Int) (w : World) : Calls Tryd.prog 23 #[.int .i64 s] w fun x w' => x = .returned (.bool (endB s)) ∧ w = w' := by
  by_cases h : s = 5
  · subst h
    go_enter Tryd.func23, Tryd.ntmps23
    go_wp2
    go_ret
    exact ⟨rfl, rfl⟩
  · have d : (s == 5) = false := by simpa using h
    by_cases h' : s = 6
    · subst h'
      go_enter Tryd.func23, Tryd.ntmps23
      go_wp2
      go_ret
      exact ⟨rfl, rfl⟩
    · have d' : (s == 6) = false := by simpa using h'
      have e : endB s = false := by simp only [endB, decide_eq_false_iff_not]; omega
      rw [e]
      go_enter Tryd.func23, Tryd.ntmps23
      go_wp2
      go_ret
      exact ⟨rfl, rfl⟩
end Go.Proofs.YtephifkabpidnaaDoor

/- A text's own checks: isPlace, isBegun, isHead. -/
import Derived.Test.YtdcnpcdohgecbaaDoorJ
namespace Go.Proofs.YtdcnpcdohgecbaaDoor
open Go.RowKit Go.Shelf

theorem ret_errV {a b : Bool} {c : Int} (h : a = b) : Ending.returned (errV a c) = .returned (errV b c) := by rw [h]
set_option maxRecDepth 100000 in
set_option maxHeartbeats 4000000 in
theorem isPlace_c (s : ByteArray) (a : Int) (w : World) : Calls Tryd.prog 35 #[.agg #[.string s, .int .i64 a]] w fun x w' => x = .returned (errV (decide (0 ≤ a) && decide (a ≤ s.size)) 2) ∧ Below w.heap.size w w' := by
  have HU := Lib.hid (fun W b c => unless_c W b c)
  by_cases h0 : 0 ≤ a
  · by_cases h1 : a ≤ s.size
    · rw [show (decide (0 ≤ a) && decide (a ≤ (s.size : Int))) = true by simp [h0, h1]]
      go_enter Tryd.func35, Tryd.ntmps35
      go_wp2_with (refine (HU.out _ _ _).mono ?_; rintro e w1 ⟨rfl, rfl⟩)
      go_ret
      exact ⟨rfl, below_alloc _ _⟩
    · rw [show (decide (0 ≤ a) && decide (a ≤ (s.size : Int))) = false by simp [h0, h1]]
      go_enter Tryd.func35, Tryd.ntmps35
      go_wp2_with (refine (HU.out _ _ _).mono ?_; rintro e w1 ⟨rfl, rfl⟩)
      go_ret
      exact ⟨rfl, below_alloc _ _⟩
  · rw [show (decide (0 ≤ a) && decide (a ≤ (s.size : Int))) = false by simp [h0]]
    go_enter Tryd.func35, Tryd.ntmps35
    go_wp2_with (refine (HU.out _ _ _).mono ?_; rintro e w1 ⟨rfl, rfl⟩)
    go_ret
    exact ⟨rfl, below_alloc _ _⟩
set_option maxRecDepth 100000 in
set_option maxHeartbeats 4000000 in
theorem isBegun_c (s : ByteArray) (a : Int) (w : World) : Calls Tryd.prog 36 #[.agg #[.string s, .int .i64 a]] w fun x w' => x = .returned (errV (decide (a < s.size)) 30) ∧ Below w.heap.size w w' := by
  have HU := Lib.hid (fun W b c => unless_c W b c)
  by_cases h1 : a < s.size
  all_goals
    first | rw [show decide (a < (s.size : Int)) = true from decide_eq_true h1] | rw [show decide (a < (s.size : Int)) = false from decide_eq_false h1]
    go_enter Tryd.func36, Tryd.ntmps36
    go_wp2_with (refine (HU.out _ _ _).mono ?_; rintro e w1 ⟨rfl, rfl⟩)
    go_ret
    exact ⟨rfl, below_alloc _ _⟩
set_option maxRecDepth 100000 in
set_option maxHeartbeats 4000000 in
theorem isHead_c (s : ByteArray) (n : Nat) (hn : n ≤ s.size) (hs : (s.size : Int) ≤ 9223372036854775807) (w : World) : Calls Tryd.prog 38 #[.agg #[.string s, .int .i64 (n : Int)]] w fun x w' => x = .returned (errV (decide (n + 5 ≤ s.size)) 30) ∧ Below w.heap.size w w' := by
  have HU := Lib.hid (fun W b c => unless_c W b c)
  have e1 : IntKind.i64.wrap ((s.size : Int) - (n : Int)) = (s.size : Int) - (n : Int) := IntWalk.i64_in _ (by omega)
  by_cases h1 : n + 5 ≤ s.size
  · have h2 : (5 : Int) ≤ (s.size : Int) - (n : Int) := by omega
    rw [show decide (n + 5 ≤ s.size) = true from decide_eq_true h1]
    go_enter Tryd.func38, Tryd.ntmps38
    go_wp2_with (refine (HU.out _ _ _).mono ?_; rintro e w1 ⟨rfl, rfl⟩)
    go_ret
    exact ⟨rfl, below_alloc _ _⟩
  · have h2 : ¬ (5 : Int) ≤ (s.size : Int) - (n : Int) := by omega
    rw [show decide (n + 5 ≤ s.size) = false from decide_eq_false h1]
    go_enter Tryd.func38, Tryd.ntmps38
    go_wp2_with (refine (HU.out _ _ _).mono ?_; rintro e w1 ⟨rfl, rfl⟩)
    go_ret
    exact ⟨rfl, below_alloc _ _⟩
end Go.Proofs.YtdcnpcdohgecbaaDoor

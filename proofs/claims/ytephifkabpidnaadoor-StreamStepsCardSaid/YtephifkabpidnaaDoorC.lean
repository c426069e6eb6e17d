/- What one event does to a state: the six moves, isState, fault.Unless: their contracts. -/
import Derived.Test.YtephifkabpidnaaDoorB
import Derived.Test.YtephifkabpidnaaDoorP
import Derived.WalkKit
import Derived.WalkLawsBesides
import Derived.WalkSpells
import Derived.WalkSmall
import Derived.Outline
import Derived.Deep.DeepFit
import Derived.Lib.Hide
import Derived.BigQuiet
import Derived.Deep.QuietTactic
import Derived.Sort.QuietIn
import Derived.Deep.RegionHeld3
import Derived.IntWalk
import Derived.Laws.StructEq
import Derived.Maps.RangeWalk
import Derived.RangeFuncNested
import Derived.RangeFuncBound
import Derived.RangeFuncCalls
import Derived.RangeFuncLeaves
import Derived.RangeFuncBox
import Derived.Shelf.Abstract
import Derived.Shelf.RegionOpen
import Derived.OwnWalkIn
import Derived.TacticsInMore
import Derived.LoopNIn
import Derived.LoopIn
namespace Go.Proofs.YtephifkabpidnaaDoor
open Go.RowKit

theorem ret_bool {a b : Bool} (h : a = b) : Ending.returned (.bool a) = .returned (.bool b) := by rw [h]
theorem ret_int {k : IntKind} {a b : Int} (h : a = b) : Ending.returned (.int k a) = .returned (.int k b) := by rw [h]
theorem ret_move {k : IntKind} {a b : Int} {c d : Bool} (h : a = b) (h' : c = d) : Ending.returned (.tuple #[.int k a, .bool c]) = .returned (.tuple #[.int k b, .bool d]) := by rw [h, h']
theorem bcell {W w1 : World} (hb : Below W.heap.size W w1) : (∀ b o, b < W.heap.size → w1.cell? ⟨b, o, none⟩ = W.cell? ⟨b, o, none⟩) ∧ (∀ b o, b < W.heap.size → w1.frozen? ⟨b, o, none⟩ = W.frozen? ⟨b, o, none⟩) :=
  ⟨fun b o h => hb.cell (p := ⟨b, o, none⟩) h, fun b o h => hb.frozen (p := ⟨b, o, none⟩) h⟩
theorem blt {w : World} {b o : Nat} {v : Value} (h : w.cell? ⟨b, o, none⟩ = some v) : b < w.heap.size := World.block_lt_of_cell? w ⟨b, o, none⟩ h
theorem keep_alloc {W : World} {b o : Nat} {v : Value} (X : Obj) (h : W.cell? ⟨b, o, none⟩ = some v) : (W.alloc X).cell? ⟨b, o, none⟩ = some v :=
  (World.cell?_of_block (w := W) (Below.heap_alloc W X b (blt h))).trans h
theorem set_other (W : World) (v : Value) {b bm o om : Nat} (hne : b ≠ bm) : (W.setCell ⟨bm, om, none⟩ v).cell? ⟨b, o, none⟩ = W.cell? ⟨b, o, none⟩ :=
  World.cell?_of_block (w := W) (Below.heap_setCell W ⟨bm, om, none⟩ v b hne)
theorem below_drewN {m : Nat} {a w : World} (h : Below m a w) (n : Nat) : Below m a (w.drewN n) := h.trans ⟨rfl, rfl, rfl, Nat.le_refl _, fun _ _ => rfl⟩
theorem below_drew {m : Nat} {a w : World} (h : Below m a w) : Below m a w.drew := h.trans ⟨rfl, rfl, rfl, Nat.le_refl _, fun _ _ => rfl⟩
theorem below_alloc (w : World) (o : Obj) : Below w.heap.size w (w.alloc o) := (Below.refl _ w).alloc (Nat.le_refl _) o

def faultV (e : Int) : Value := .iface 61 (.agg #[.int .i64 e])
theorem unless_t (e : Int) (w : World) : Calls Tryd.prog 34 #[.bool true, .int .i64 e] w fun x w' => x = .returned .nilIface ∧ w = w' := by
  go_enter Tryd.func34, Tryd.ntmps34
  go_wp2
  go_ret
  exact ⟨rfl, rfl⟩
theorem unless_f (e : Int) (w : World) : Calls Tryd.prog 34 #[.bool false, .int .i64 e] w fun x w' => x = .returned (faultV e) ∧ w = w' := by
  go_enter Tryd.func34, Tryd.ntmps34
  go_wp2
  go_ret
  exact ⟨rfl, rfl⟩
theorem unless_c (b : Bool) (e : Int) (w : World) : Calls Tryd.prog 34 #[.bool b, .int .i64 e] w fun x w' => x = .returned (if b = true then .nilIface else faultV e) ∧ w = w' := by
  cases b
  · exact unless_f e w
  · exact unless_t e w
theorem isState_c (s : Int) (w : World) : Calls Tryd.prog 29 #[.int .i64 s] w fun x w' => x = .returned (.bool (isSt s)) ∧ w = w' := by
  by_cases h : 0 ≤ s
  · by_cases h' : s ≤ 6
    · have e : isSt s = true := by simp only [isSt, decide_eq_true_eq]; omega
      go_enter Tryd.func29, Tryd.ntmps29
      go_wp2
      go_ret
      exact ⟨ret_bool (by first | rfl | rw [e] | exact e.symm), rfl⟩
    · have e : isSt s = false := by simp only [isSt, decide_eq_false_iff_not]; omega
      go_enter Tryd.func29, Tryd.ntmps29
      go_wp2
      go_ret
      exact ⟨ret_bool (by first | rfl | rw [e] | exact e.symm), rfl⟩
  · have e : isSt s = false := by simp only [isSt, decide_eq_false_iff_not]; omega
    go_enter Tryd.func29, Tryd.ntmps29
    go_wp2
    go_ret
    exact ⟨ret_bool (by first | rfl | rw [e] | exact e.symm), rfl⟩

theorem open_c (s e : Int) (w : World) :
    Calls Tryd.prog 36 #[.agg #[.int .i64 s, .int .i64 e]] w fun x w' => x = .returned (.tuple #[.int .i64 1, .bool (decide (s = 0 ∧ e = 1))]) ∧ Below w.heap.size w w' := by
  by_cases h : s = 0
  · by_cases h' : e = 1
    · subst h h'
      go_enter Tryd.func36, Tryd.ntmps36
      go_wp2_with fail
      go_quiet (fail)
      go_wp2
      go_ret2
      exact ⟨ret_move rfl rfl, below_drewN (below_alloc _ _) _⟩
    · subst h
      have hd : (e == 1) = false := by simpa using h'
      go_enter Tryd.func36, Tryd.ntmps36
      go_wp2_with fail
      go_quiet (fail)
      go_wp2
      go_ret2
      exact ⟨ret_move rfl (by simp [h']), below_drewN (below_alloc _ _) _⟩
  · have hd : (s == 0) = false := by simpa using h
    go_enter Tryd.func36, Tryd.ntmps36
    go_wp2_with fail
    go_quiet (fail)
    go_wp2
    go_ret2
    exact ⟨ret_move rfl (by simp [h]), below_drewN (below_alloc _ _) _⟩

theorem accept_c (s e : Int) (w : World) :
    Calls Tryd.prog 37 #[.agg #[.int .i64 s, .int .i64 e]] w fun x w' => x = .returned (.tuple #[.int .i64 2, .bool (decide (s = 1 ∧ e = 2))]) ∧ Below w.heap.size w w' := by
  by_cases h : s = 1
  · by_cases h' : e = 2
    · subst h h'
      go_enter Tryd.func37, Tryd.ntmps37
      go_wp2_with fail
      go_quiet (fail)
      go_wp2
      go_ret2
      exact ⟨ret_move rfl rfl, below_drewN (below_alloc _ _) _⟩
    · subst h
      have hd : (e == 2) = false := by simpa using h'
      go_enter Tryd.func37, Tryd.ntmps37
      go_wp2_with fail
      go_quiet (fail)
      go_wp2
      go_ret2
      exact ⟨ret_move rfl (by simp [h']), below_drewN (below_alloc _ _) _⟩
  · have hd : (s == 1) = false := by simpa using h
    go_enter Tryd.func37, Tryd.ntmps37
    go_wp2_with fail
    go_quiet (fail)
    go_wp2
    go_ret2
    exact ⟨ret_move rfl (by simp [h]), below_drewN (below_alloc _ _) _⟩

theorem refuse_c (s e : Int) (w : World) :
    Calls Tryd.prog 38 #[.agg #[.int .i64 s, .int .i64 e]] w fun x w' => x = .returned (.tuple #[.int .i64 6, .bool (decide (s = 1 ∧ e = 3))]) ∧ Below w.heap.size w w' := by
  by_cases h : s = 1
  · by_cases h' : e = 3
    · subst h h'
      go_enter Tryd.func38, Tryd.ntmps38
      go_wp2_with fail
      go_quiet (fail)
      go_wp2
      go_ret2
      exact ⟨ret_move rfl rfl, below_drewN (below_alloc _ _) _⟩
    · subst h
      have hd : (e == 3) = false := by simpa using h'
      go_enter Tryd.func38, Tryd.ntmps38
      go_wp2_with fail
      go_quiet (fail)
      go_wp2
      go_ret2
      exact ⟨ret_move rfl (by simp [h']), below_drewN (below_alloc _ _) _⟩
  · have hd : (s == 1) = false := by simpa using h
    go_enter Tryd.func38, Tryd.ntmps38
    go_wp2_with fail
    go_quiet (fail)
    go_wp2
    go_ret2
    exact ⟨ret_move rfl (by simp [h]), below_drewN (below_alloc _ _) _⟩

theorem endIn_c (s e : Int) (w : World) :
    Calls Tryd.prog 39 #[.agg #[.int .i64 s, .int .i64 e]] w fun x w' => x = .returned (.tuple #[.int .i64 (if s = 4 then 5 else 3), .bool (decide (s = 4 ∨ s = 2))]) ∧ Below w.heap.size w w' := by
  by_cases h : s = 4
  · subst h
    go_enter Tryd.func39, Tryd.ntmps39
    go_wp2
    go_ret2
    exact ⟨ret_move rfl rfl, below_alloc _ _⟩
  · have hd : decide (s = 4) = false := decide_eq_false h
    go_enter Tryd.func39, Tryd.ntmps39
    go_wp2_with fail
    go_quiet (fail)
    go_wp2
    go_ret2
    exact ⟨ret_move (by first | rfl | rw [if_neg h]) (by rw [Bool.eq_iff_iff]; simp), below_drewN (below_alloc _ _) _⟩

theorem endOut_c (s e : Int) (w : World) :
    Calls Tryd.prog 40 #[.agg #[.int .i64 s, .int .i64 e]] w fun x w' => x = .returned (.tuple #[.int .i64 (if s = 3 then 5 else 4), .bool (decide (s = 3 ∨ s = 2))]) ∧ Below w.heap.size w w' := by
  by_cases h : s = 3
  · subst h
    go_enter Tryd.func40, Tryd.ntmps40
    go_wp2
    go_ret2
    exact ⟨ret_move rfl rfl, below_alloc _ _⟩
  · have hd : decide (s = 3) = false := decide_eq_false h
    go_enter Tryd.func40, Tryd.ntmps40
    go_wp2_with fail
    go_quiet (fail)
    go_wp2
    go_ret2
    exact ⟨ret_move (by first | rfl | rw [if_neg h]) (by rw [Bool.eq_iff_iff]; simp), below_drewN (below_alloc _ _) _⟩

theorem reset_c (s e : Int) (w : World) :
    Calls Tryd.prog 41 #[.agg #[.int .i64 s, .int .i64 e]] w fun x w' => x = .returned (.tuple #[.int .i64 6, .bool (decide (1 ≤ s ∧ s ≤ 4))]) ∧ Below w.heap.size w w' := by
  by_cases h : 1 ≤ s
  · by_cases h' : s ≤ 4
    · go_enter Tryd.func41, Tryd.ntmps41
      go_wp2_with fail
      go_quiet (fail)
      go_wp2
      go_ret2
      exact ⟨ret_move rfl (by rw [Bool.eq_iff_iff]; simp [h, h']), below_drewN (below_alloc _ _) _⟩
    · have hd : decide (s ≤ 4) = false := decide_eq_false h'
      go_enter Tryd.func41, Tryd.ntmps41
      go_wp2_with fail
      go_quiet (fail)
      go_wp2
      go_ret2
      exact ⟨ret_move rfl (by rw [Bool.eq_iff_iff]; simp; omega), below_drewN (below_alloc _ _) _⟩
  · have hd : decide (1 ≤ s) = false := decide_eq_false h
    go_enter Tryd.func41, Tryd.ntmps41
    go_wp2_with fail
    go_quiet (fail)
    go_wp2
    go_ret2
    exact ⟨ret_move rfl (by rw [Bool.eq_iff_iff]; simp; omega), below_drewN (below_alloc _ _) _⟩
end Go.Proofs.YtephifkabpidnaaDoor

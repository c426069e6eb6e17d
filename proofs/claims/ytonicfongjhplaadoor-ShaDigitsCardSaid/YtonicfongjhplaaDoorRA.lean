/- the document's own digit. -/
import Derived.Test.YtonicfongjhplaaDoorBy
namespace Go.Proofs.YtonicfongjhplaaDoor
open Go.RowKit Go.Shelf
attribute [local go_sem] Oper.semAt_some

def digI (c : Nat) : Int := match digN c with | some n => (n : Int) | none => -1
theorem digI_none {c : Nat} (h : digN c = none) : digI c = -1 := by unfold digI; rw [h]
theorem digI_some {c n : Nat} (h : digN c = some n) : digI c = (n : Int) := by unfold digI; rw [h]
set_option maxRecDepth 100000 in
set_option maxHeartbeats 8000000 in
theorem digit_c (c : Nat) (h : c < 256) (w : World) : Calls Tryd.prog 26 #[.int .u8 (c : Int)] w fun x w' => x = .returned (.int .i64 (digI c)) ∧ w' = w := by
  by_cases h1 : 48 ≤ c ∧ c ≤ 57
  · have e : digI c = (c : Int) - 48 := by unfold digI digN; rw [if_pos h1]; show ((c - 48 : Nat) : Int) = _; omega
    rw [e]
    have a1 : (48 : Int) ≤ (c : Int) := by omega
    have a2 : (c : Int) ≤ 57 := by omega
    have a3 : IntKind.u8.wrap ((c : Int) - 48) = (c : Int) - 48 := by show ((c : Int) - 48) % 256 = _; omega
    have a4 : IntKind.i64.wrap ((c : Int) - 48) = (c : Int) - 48 := IntWalk.i64_in _ (by omega)
    have a5 : ((c : Int) - 48) % 256 = (c : Int) - 48 := by omega
    have a6 : wrap64 ((c : Int) - 48) = (c : Int) - 48 := IntWalk.wrap64_in _ (by omega)
    clear e h1
    go_enter Tryd.func26, Tryd.ntmps26
    go_wp2
    go_ret
    exact ⟨rfl, rfl⟩
  · by_cases h2 : 97 ≤ c ∧ c ≤ 102
    · have e : digI c = (c : Int) - 87 := by unfold digI digN; rw [if_neg h1, if_pos h2]; show ((c - 87 : Nat) : Int) = _; omega
      rw [e]
      have a0 : (48 : Int) ≤ (c : Int) := by omega
      have a1 : (97 : Int) ≤ (c : Int) := by omega
      have a2 : (c : Int) ≤ 102 := by omega
      have a8 : ¬ (c : Int) ≤ 57 := by omega
      have a3 : IntKind.u8.wrap ((c : Int) - 97) = (c : Int) - 97 := by show ((c : Int) - 97) % 256 = _; omega
      have a5 : ((c : Int) - 97) % 256 = (c : Int) - 97 := by omega
      have a6 : wrap64 ((c : Int) - 97) = (c : Int) - 97 := IntWalk.wrap64_in _ (by omega)
      have a7 : wrap64 ((c : Int) - 97 + 10) = (c : Int) - 97 + 10 := IntWalk.wrap64_in _ (by omega)
      have a9 : IntKind.i64.wrap ((c : Int) - 97 + 10) = (c : Int) - 97 + 10 := IntWalk.i64_in _ (by omega)
      clear e h1 h2
      go_enter Tryd.func26, Tryd.ntmps26
      go_wp2
      go_ret
      refine ⟨?_, rfl⟩
      show Ending.returned (.int .i64 ((c : Int) - 97 + 10)) = _
      congr 2
      omega
    · have e : digI c = -1 := by unfold digI digN; rw [if_neg h1, if_neg h2]
      rw [e]
      clear e
      by_cases b1 : c < 48
      · have a1 : ¬ (48 : Int) ≤ (c : Int) := by omega
        have a2 : ¬ (97 : Int) ≤ (c : Int) := by omega
        clear h1 h2 b1
        go_enter Tryd.func26, Tryd.ntmps26
        go_wp2
        go_ret
        exact ⟨rfl, rfl⟩
      · by_cases b2 : c < 97
        · have a0 : (48 : Int) ≤ (c : Int) := by omega
          have a1 : ¬ (c : Int) ≤ 57 := by omega
          have a2 : ¬ (97 : Int) ≤ (c : Int) := by omega
          clear h1 h2 b1 b2
          go_enter Tryd.func26, Tryd.ntmps26
          go_wp2
          go_ret
          exact ⟨rfl, rfl⟩
        · have a0 : (48 : Int) ≤ (c : Int) := by omega
          have a1 : ¬ (c : Int) ≤ 57 := by omega
          have a2 : (97 : Int) ≤ (c : Int) := by omega
          have a3 : ¬ (c : Int) ≤ 102 := by omega
          clear h1 h2 b1 b2
          go_enter Tryd.func26, Tryd.ntmps26
          go_wp2
          go_ret
          exact ⟨rfl, rfl⟩
end Go.Proofs.YtonicfongjhplaaDoor

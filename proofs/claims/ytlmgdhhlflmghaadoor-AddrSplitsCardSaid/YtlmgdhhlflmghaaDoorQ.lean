/- AddrSplits: what it says, by its cases. -/
import Derived.Test.YtlmgdhhlflmghaaDoorO
namespace Go.Proofs.YtlmgdhhlflmghaaDoor
open Go.RowKit

theorem splitL_c (A K a : Int) (w : World) (hT : Tabs w) : Calls Tryd.prog 9 #[.agg #[.int .i64 A, .int .i64 K], .int .i64 a] w fun x w' => x = .returned (.bool true) ∧ Below w.heap.size w w' := by
  cases hr : rightB A K with
  | false => exact split_no A K a hr w hT
  | true =>
    obtain ⟨p1, p2, p3⟩ := right_parts hr
    have hk : 0 ≤ K ∧ K ≤ 32 := by simpa [okK] using p1
    by_cases h32 : K = 32
    · subst h32
      exact split_one A a hr w hT
    · have hlt : K < 32 := by omega
      obtain ⟨g1, g2, g3, g4, g5⟩ := halves hr hlt
      have hp := blk_pos (K + 1)
      have rA := (of_right p2 g1).1
      rw [g4] at rA
      have rR := (of_right g2 g1).1
      rw [g5] at rR
      have e1 : endT A (K + 1) = A + (blk (K + 1) - 1) := rfl
      have e2 : endT (A + blk (K + 1)) (K + 1) = A + blk (K + 1) + (blk (K + 1) - 1) := rfl
      have e0 : endT A K = A + (blk K - 1) := rfl
      have i1 : inB A (K + 1) A K = true := (in_iff rA hr).2 ⟨by omega, cut_self p3⟩
      have i2 : inB (A + blk (K + 1)) (K + 1) A K = true := (in_iff rR hr).2 ⟨by omega, cut_of p3 (by omega) (by omega)⟩
      have o1 : ofA A (K + 1) = A := by unfold ofA; rw [if_pos ⟨p2, g1⟩]; exact g4
      have o2 : ofK A (K + 1) = K + 1 := by unfold ofK; rw [if_pos ⟨p2, g1⟩]
      have o3 : ofE A (K + 1) = 0 := by unfold ofE; rw [if_pos p2, if_pos g1]
      have o4 : ofA (endT A K) (K + 1) = A + blk (K + 1) := by unfold ofA; rw [if_pos ⟨g2, g1⟩]; exact g5
      have o5 : ofK (endT A K) (K + 1) = K + 1 := by unfold ofK; rw [if_pos ⟨g2, g1⟩]
      have o6 : ofE (endT A K) (K + 1) = 0 := by unfold ofE; rw [if_pos g2, if_pos g1]
      have hne : (A == A + blk (K + 1)) = false := by simp; omega
      by_cases c1 : A ≤ a ∧ a ≤ endT A (K + 1)
      · exact split_110 A K a _ _ hr hk.1 hlt rfl hne o1 o2 o3 o4 o5 o6 i1 i2 (by rw [has_eq hr]; exact decide_eq_true (by omega)) (by rw [has_eq rA]; exact decide_eq_true c1) (by rw [has_eq rR]; exact decide_eq_false (by omega)) w hT
      · by_cases c2 : A + blk (K + 1) ≤ a ∧ a ≤ endT (A + blk (K + 1)) (K + 1)
        · exact split_101 A K a _ _ hr hk.1 hlt rfl hne o1 o2 o3 o4 o5 o6 i1 i2 (by rw [has_eq hr]; exact decide_eq_true (by omega)) (by rw [has_eq rA]; exact decide_eq_false c1) (by rw [has_eq rR]; exact decide_eq_true c2) w hT
        · exact split_000 A K a _ _ hr hk.1 hlt rfl hne o1 o2 o3 o4 o5 o6 i1 i2 (by rw [has_eq hr]; exact decide_eq_false (by omega)) (by rw [has_eq rA]; exact decide_eq_false c1) (by rw [has_eq rR]; exact decide_eq_false c2) w hT
end Go.Proofs.YtlmgdhhlflmghaaDoor

/- A taker's length. -/
import Derived.Test.YtdcnpcdohgecbaaDoorM
namespace Go.Proofs.YtdcnpcdohgecbaaDoor
open Go.RowKit Go.Shelf
attribute [local go_sem] Oper.semAt_some

/-- The number of two bytes at a place. -/
def numAt (s : ByteArray) (i : Nat) : Int := numB (List.take 2 (List.drop i s.data.toList))
theorem numbers_c (s : ByteArray) (n : Int) (w : World) : Calls Tryd.prog 57 #[.agg #[.string s, .int .i64 n]] w fun x w' => x = .returned (.func (.func 62) #[] #[.pointer (some ⟨w.heap.size, 0, none⟩)]) ∧ w' = w.alloc (.cells #[.string s, .int .i64 n] 70) := by
  go_enter Tryd.func57, Tryd.ntmps57
  go_wp2
  go_ret
  exact ⟨rfl, rfl⟩
set_option maxRecDepth 100000 in
set_option maxHeartbeats 4000000 in
theorem length_c (s : ByteArray) (n : Nat) (hk : n + 5 ≤ s.size) (hs : (s.size : Int) ≤ 9223372036854775807) (w : World) : Calls Tryd.prog 56 #[.agg #[.string s, .int .i64 (n : Int)]] w fun x w' => x = .returned (.int .i64 (numAt s (n + 3))) ∧ Below w.heap.size w w' := by
  have HN := Lib.hid (fun W => numbers_c s n W)
  have HM := Lib.hid (fun b W h0 h1 => num_c s n 3 (by omega) hs b W h0 h1)
  clear hk hs
  unfold numAt
  go_enter Tryd.func56, Tryd.ntmps56
  go_wp2_with (first | (go_at_call 57; refine (HN.out _).mono ?_; rintro e w1 ⟨rfl, rfl⟩) | (go_at_call 62; refine (HM.out _ _ (by go_simp) (by go_simp)).mono ?_; rintro e w1 ⟨rfl, hb⟩))
  go_ret
  exact ⟨rfl, btr (bal (below_alloc _ _) _) hb⟩
end Go.Proofs.YtdcnpcdohgecbaaDoor

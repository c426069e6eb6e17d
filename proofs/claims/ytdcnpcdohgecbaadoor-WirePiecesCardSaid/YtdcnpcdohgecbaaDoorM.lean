/- A taker's two bytes from a place on. -/
import Derived.Test.YtdcnpcdohgecbaaDoorL
import Derived.Laws.DeepStrings4
namespace Go.Proofs.YtdcnpcdohgecbaaDoor
open Go.RowKit Go.Shelf
attribute [local go_sem] Oper.semAt_some

set_option maxRecDepth 100000 in
set_option maxHeartbeats 4000000 in
theorem num_c (s : ByteArray) (n k : Nat) (hk : n + k + 2 ≤ s.size) (hs : (s.size : Int) ≤ 9223372036854775807) (b : Nat) (w : World) (h0 : w.cell? ⟨b, 0, none⟩ = some (.string s)) (h1 : w.cell? ⟨b, 1, none⟩ = some (.int .i64 (n : Int))) :
    Calls Tryd.prog 62 #[.int .i64 (k : Int), .pointer (some ⟨b, 0, none⟩)] w fun x w' => x = .returned (.int .i64 (numB (List.take 2 (List.drop (n + k) s.data.toList)))) ∧ Below w.heap.size w w' := by
  have HN := Lib.hid (fun W => number_c (s.extract (n + k) (n + k + 2)) W)
  have e1 : IntKind.i64.wrap ((n : Int) + (k : Int)) = (n : Int) + (k : Int) := IntWalk.i64_in _ (by omega)
  have e2 : IntKind.i64.wrap ((n : Int) + (k : Int) + 2) = (n : Int) + (k : Int) + 2 := IntWalk.i64_in _ (by omega)
  have hsl : ∀ W, (Instr.slice 9 (.string s) (some (.int .i64 ((n : Int) + (k : Int)))) (some (.int .i64 ((n : Int) + (k : Int) + 2))) none).run Tryd.prog W = .ok (.string (s.extract (n + k) (n + k + 2))) W := fun W => by
    rw [run_slice_string_if (P := Tryd.prog) (w := W) (h := by kernel_rfl), if_pos ⟨by omega, by omega⟩, if_pos ⟨by omega, by omega⟩]
    rfl
  clear hs hk
  go_enter Tryd.func62, Tryd.ntmps62
  go_wp2_with (refine (HN.out _).mono ?_; rintro e w1 ⟨rfl, hb⟩)
  go_ret
  exact ⟨rfl, hb⟩
end Go.Proofs.YtdcnpcdohgecbaaDoor

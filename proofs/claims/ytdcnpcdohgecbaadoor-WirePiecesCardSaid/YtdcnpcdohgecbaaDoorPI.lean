/- The document's own Take. -/
import Derived.Test.YtdcnpcdohgecbaaDoorPHE
import Derived.Test.YtdcnpcdohgecbaaDoorV
namespace Go.Proofs.YtdcnpcdohgecbaaDoor
open Go.RowKit Go.Shelf
attribute [local go_sem] Oper.semAt_some

set_option maxRecDepth 100000 in
set_option maxHeartbeats 8000000 in
theorem rTake_2a (s : ByteArray) (a : Int) (h : a < 0) (w : World) : Calls Tryd.prog 16 #[.string s, .int .i64 a] w fun x w' => x = .returned (.tuple #[.agg #[.int .i64 0, .int .i64 0, .string ⟨#[]⟩], .int .i64 0, .int .i64 2]) ∧ Below w.heap.size w w' := by
  go_enter Tryd.func16, Tryd.ntmps16
  go_upto_region 1 with (fail)
  have r0 : (w.alloc (.cells #[.int .i64 0, .int .i64 0, .string ⟨#[]⟩] 23)).cell? ⟨w.heap.size, 0, none⟩ = some (.int .i64 0) := by go_simp
  have z0 : (w.alloc (.cells #[.int .i64 0, .int .i64 0, .string ⟨#[]⟩] 23)).frozen? ⟨w.heap.size, 0, none⟩ = false := by go_simp
  have r1 : (w.alloc (.cells #[.int .i64 0, .int .i64 0, .string ⟨#[]⟩] 23)).cell? ⟨w.heap.size, 1, none⟩ = some (.int .i64 0) := by go_simp
  have z1 : (w.alloc (.cells #[.int .i64 0, .int .i64 0, .string ⟨#[]⟩] 23)).frozen? ⟨w.heap.size, 1, none⟩ = false := by go_simp
  have r2 : (w.alloc (.cells #[.int .i64 0, .int .i64 0, .string ⟨#[]⟩] 23)).cell? ⟨w.heap.size, 2, none⟩ = some (.string ⟨#[]⟩) := by go_simp
  have z2 : (w.alloc (.cells #[.int .i64 0, .int .i64 0, .string ⟨#[]⟩] 23)).frozen? ⟨w.heap.size, 2, none⟩ = false := by go_simp
  have hB := below_alloc w (.cells #[.int .i64 0, .int .i64 0, .string ⟨#[]⟩] 23)
  generalize (w.alloc (.cells #[.int .i64 0, .int .i64 0, .string ⟨#[]⟩] 23)) = U at *
  go_wp2
  have e0 : (((U.setCell ⟨w.heap.size, 0, none⟩ (.int .i64 0)).setCell ⟨w.heap.size, 1, none⟩ (.int .i64 0)).setCell ⟨w.heap.size, 2, none⟩ (.string ⟨#[]⟩)).cell? ⟨w.heap.size, 0, none⟩ = some (.int .i64 0) := by go_simp
  have e1 : (((U.setCell ⟨w.heap.size, 0, none⟩ (.int .i64 0)).setCell ⟨w.heap.size, 1, none⟩ (.int .i64 0)).setCell ⟨w.heap.size, 2, none⟩ (.string ⟨#[]⟩)).cell? ⟨w.heap.size, 1, none⟩ = some (.int .i64 0) := by go_simp
  have e2 : (((U.setCell ⟨w.heap.size, 0, none⟩ (.int .i64 0)).setCell ⟨w.heap.size, 1, none⟩ (.int .i64 0)).setCell ⟨w.heap.size, 2, none⟩ (.string ⟨#[]⟩)).cell? ⟨w.heap.size, 2, none⟩ = some (.string ⟨#[]⟩) := by go_simp
  have HE : Hid (Below w.heap.size w (((U.setCell ⟨w.heap.size, 0, none⟩ (.int .i64 0)).setCell ⟨w.heap.size, 1, none⟩ (.int .i64 0)).setCell ⟨w.heap.size, 2, none⟩ (.string ⟨#[]⟩))) := Lib.hid (by repeat' (first | exact hB | refine Below.setCell ?_ ?_ _ | (dsimp only; omega)))
  generalize (((U.setCell ⟨w.heap.size, 0, none⟩ (.int .i64 0)).setCell ⟨w.heap.size, 1, none⟩ (.int .i64 0)).setCell ⟨w.heap.size, 2, none⟩ (.string ⟨#[]⟩)) = ZZ at *
  have hl : (loadVar 23 ⟨w.heap.size, 0, none⟩).run Tryd.prog ZZ = .ok (.agg #[.int .i64 0, .int .i64 0, .string ⟨#[]⟩]) ZZ := by simp [loadVar, isAgg, underlying, Tryd.underlying23, Result.andThen, loadCells, loadCellsFrom, Addr.add, e0, e1, e2]
  refine bodyPost_ret (results_cell2 rfl _ _ (by rfl) hl) rfl ?_
  exact ⟨rfl, HE.out⟩

set_option maxRecDepth 100000 in
set_option maxHeartbeats 8000000 in
theorem rTake_2b (s : ByteArray) (a : Int) (h : ¬ a < 0) (h2 : (s.size : Int) < a) (w : World) : Calls Tryd.prog 16 #[.string s, .int .i64 a] w fun x w' => x = .returned (.tuple #[.agg #[.int .i64 0, .int .i64 0, .string ⟨#[]⟩], .int .i64 0, .int .i64 2]) ∧ Below w.heap.size w w' := by
  go_enter Tryd.func16, Tryd.ntmps16
  go_upto_region 1 with (fail)
  have r0 : (w.alloc (.cells #[.int .i64 0, .int .i64 0, .string ⟨#[]⟩] 23)).cell? ⟨w.heap.size, 0, none⟩ = some (.int .i64 0) := by go_simp
  have z0 : (w.alloc (.cells #[.int .i64 0, .int .i64 0, .string ⟨#[]⟩] 23)).frozen? ⟨w.heap.size, 0, none⟩ = false := by go_simp
  have r1 : (w.alloc (.cells #[.int .i64 0, .int .i64 0, .string ⟨#[]⟩] 23)).cell? ⟨w.heap.size, 1, none⟩ = some (.int .i64 0) := by go_simp
  have z1 : (w.alloc (.cells #[.int .i64 0, .int .i64 0, .string ⟨#[]⟩] 23)).frozen? ⟨w.heap.size, 1, none⟩ = false := by go_simp
  have r2 : (w.alloc (.cells #[.int .i64 0, .int .i64 0, .string ⟨#[]⟩] 23)).cell? ⟨w.heap.size, 2, none⟩ = some (.string ⟨#[]⟩) := by go_simp
  have z2 : (w.alloc (.cells #[.int .i64 0, .int .i64 0, .string ⟨#[]⟩] 23)).frozen? ⟨w.heap.size, 2, none⟩ = false := by go_simp
  have hB := below_alloc w (.cells #[.int .i64 0, .int .i64 0, .string ⟨#[]⟩] 23)
  generalize (w.alloc (.cells #[.int .i64 0, .int .i64 0, .string ⟨#[]⟩] 23)) = U at *
  go_wp2
  have e0 : (((U.setCell ⟨w.heap.size, 0, none⟩ (.int .i64 0)).setCell ⟨w.heap.size, 1, none⟩ (.int .i64 0)).setCell ⟨w.heap.size, 2, none⟩ (.string ⟨#[]⟩)).cell? ⟨w.heap.size, 0, none⟩ = some (.int .i64 0) := by go_simp
  have e1 : (((U.setCell ⟨w.heap.size, 0, none⟩ (.int .i64 0)).setCell ⟨w.heap.size, 1, none⟩ (.int .i64 0)).setCell ⟨w.heap.size, 2, none⟩ (.string ⟨#[]⟩)).cell? ⟨w.heap.size, 1, none⟩ = some (.int .i64 0) := by go_simp
  have e2 : (((U.setCell ⟨w.heap.size, 0, none⟩ (.int .i64 0)).setCell ⟨w.heap.size, 1, none⟩ (.int .i64 0)).setCell ⟨w.heap.size, 2, none⟩ (.string ⟨#[]⟩)).cell? ⟨w.heap.size, 2, none⟩ = some (.string ⟨#[]⟩) := by go_simp
  have HE : Hid (Below w.heap.size w (((U.setCell ⟨w.heap.size, 0, none⟩ (.int .i64 0)).setCell ⟨w.heap.size, 1, none⟩ (.int .i64 0)).setCell ⟨w.heap.size, 2, none⟩ (.string ⟨#[]⟩))) := Lib.hid (by repeat' (first | exact hB | refine Below.setCell ?_ ?_ _ | (dsimp only; omega)))
  generalize (((U.setCell ⟨w.heap.size, 0, none⟩ (.int .i64 0)).setCell ⟨w.heap.size, 1, none⟩ (.int .i64 0)).setCell ⟨w.heap.size, 2, none⟩ (.string ⟨#[]⟩)) = ZZ at *
  have hl : (loadVar 23 ⟨w.heap.size, 0, none⟩).run Tryd.prog ZZ = .ok (.agg #[.int .i64 0, .int .i64 0, .string ⟨#[]⟩]) ZZ := by simp [loadVar, isAgg, underlying, Tryd.underlying23, Result.andThen, loadCells, loadCellsFrom, Addr.add, e0, e1, e2]
  refine bodyPost_ret (results_cell2 rfl _ _ (by rfl) hl) rfl ?_
  exact ⟨rfl, HE.out⟩

set_option maxRecDepth 100000 in
set_option maxHeartbeats 8000000 in
theorem rTake_30a (s : ByteArray) (n : Nat) (h : ¬ (n : Int) < 0) (h2 : ¬ (s.size : Int) < (n : Int)) (hsl : ∀ W, (Instr.slice 9 (.string s) (some (.int .i64 (n : Int))) none none).run Tryd.prog W = .ok (.string ⟨#[]⟩) W) (w : World) : Calls Tryd.prog 16 #[.string s, .int .i64 (n : Int)] w fun x w' => x = .returned (.tuple #[.agg #[.int .i64 0, .int .i64 0, .string ⟨#[]⟩], .int .i64 0, .int .i64 30]) ∧ Below w.heap.size w w' := by
  go_enter Tryd.func16, Tryd.ntmps16
  go_upto_region 1 with (fail)
  have r0 : (w.alloc (.cells #[.int .i64 0, .int .i64 0, .string ⟨#[]⟩] 23)).cell? ⟨w.heap.size, 0, none⟩ = some (.int .i64 0) := by go_simp
  have z0 : (w.alloc (.cells #[.int .i64 0, .int .i64 0, .string ⟨#[]⟩] 23)).frozen? ⟨w.heap.size, 0, none⟩ = false := by go_simp
  have r1 : (w.alloc (.cells #[.int .i64 0, .int .i64 0, .string ⟨#[]⟩] 23)).cell? ⟨w.heap.size, 1, none⟩ = some (.int .i64 0) := by go_simp
  have z1 : (w.alloc (.cells #[.int .i64 0, .int .i64 0, .string ⟨#[]⟩] 23)).frozen? ⟨w.heap.size, 1, none⟩ = false := by go_simp
  have r2 : (w.alloc (.cells #[.int .i64 0, .int .i64 0, .string ⟨#[]⟩] 23)).cell? ⟨w.heap.size, 2, none⟩ = some (.string ⟨#[]⟩) := by go_simp
  have z2 : (w.alloc (.cells #[.int .i64 0, .int .i64 0, .string ⟨#[]⟩] 23)).frozen? ⟨w.heap.size, 2, none⟩ = false := by go_simp
  have hB := below_alloc w (.cells #[.int .i64 0, .int .i64 0, .string ⟨#[]⟩] 23)
  generalize (w.alloc (.cells #[.int .i64 0, .int .i64 0, .string ⟨#[]⟩] 23)) = U at *
  go_wp2
  have e0 : (((U.setCell ⟨w.heap.size, 0, none⟩ (.int .i64 0)).setCell ⟨w.heap.size, 1, none⟩ (.int .i64 0)).setCell ⟨w.heap.size, 2, none⟩ (.string ⟨#[]⟩)).cell? ⟨w.heap.size, 0, none⟩ = some (.int .i64 0) := by go_simp
  have e1 : (((U.setCell ⟨w.heap.size, 0, none⟩ (.int .i64 0)).setCell ⟨w.heap.size, 1, none⟩ (.int .i64 0)).setCell ⟨w.heap.size, 2, none⟩ (.string ⟨#[]⟩)).cell? ⟨w.heap.size, 1, none⟩ = some (.int .i64 0) := by go_simp
  have e2 : (((U.setCell ⟨w.heap.size, 0, none⟩ (.int .i64 0)).setCell ⟨w.heap.size, 1, none⟩ (.int .i64 0)).setCell ⟨w.heap.size, 2, none⟩ (.string ⟨#[]⟩)).cell? ⟨w.heap.size, 2, none⟩ = some (.string ⟨#[]⟩) := by go_simp
  have HE : Hid (Below w.heap.size w (((U.setCell ⟨w.heap.size, 0, none⟩ (.int .i64 0)).setCell ⟨w.heap.size, 1, none⟩ (.int .i64 0)).setCell ⟨w.heap.size, 2, none⟩ (.string ⟨#[]⟩))) := Lib.hid (by repeat' (first | exact hB | refine Below.setCell ?_ ?_ _ | (dsimp only; omega)))
  generalize (((U.setCell ⟨w.heap.size, 0, none⟩ (.int .i64 0)).setCell ⟨w.heap.size, 1, none⟩ (.int .i64 0)).setCell ⟨w.heap.size, 2, none⟩ (.string ⟨#[]⟩)) = ZZ at *
  have hl : (loadVar 23 ⟨w.heap.size, 0, none⟩).run Tryd.prog ZZ = .ok (.agg #[.int .i64 0, .int .i64 0, .string ⟨#[]⟩]) ZZ := by simp [loadVar, isAgg, underlying, Tryd.underlying23, Result.andThen, loadCells, loadCellsFrom, Addr.add, e0, e1, e2]
  refine bodyPost_ret (results_cell2 rfl _ _ (by rfl) hl) rfl ?_
  exact ⟨rfl, HE.out⟩

set_option maxRecDepth 100000 in
set_option maxHeartbeats 8000000 in
theorem rTake_31a (s t : ByteArray) (n : Nat) (h : ¬ (n : Int) < 0) (h2 : ¬ (s.size : Int) < (n : Int)) (hsl : ∀ W, (Instr.slice 9 (.string s) (some (.int .i64 (n : Int))) none none).run Tryd.prog W = .ok (.string t) W) (ht : t.toList.isEmpty = false) (b : Nat) (hix : ∀ W, (Instr.index 9 (.string t) (.int .i64 0)).run Tryd.prog W = .ok (.int .u8 (b : Int)) W) (hb : (b : Int) < 1) (w : World) : Calls Tryd.prog 16 #[.string s, .int .i64 (n : Int)] w fun x w' => x = .returned (.tuple #[.agg #[.int .i64 0, .int .i64 0, .string ⟨#[]⟩], .int .i64 0, .int .i64 31]) ∧ Below w.heap.size w w' := by
  go_enter Tryd.func16, Tryd.ntmps16
  go_upto_region 1 with (fail)
  have r0 : (w.alloc (.cells #[.int .i64 0, .int .i64 0, .string ⟨#[]⟩] 23)).cell? ⟨w.heap.size, 0, none⟩ = some (.int .i64 0) := by go_simp
  have z0 : (w.alloc (.cells #[.int .i64 0, .int .i64 0, .string ⟨#[]⟩] 23)).frozen? ⟨w.heap.size, 0, none⟩ = false := by go_simp
  have r1 : (w.alloc (.cells #[.int .i64 0, .int .i64 0, .string ⟨#[]⟩] 23)).cell? ⟨w.heap.size, 1, none⟩ = some (.int .i64 0) := by go_simp
  have z1 : (w.alloc (.cells #[.int .i64 0, .int .i64 0, .string ⟨#[]⟩] 23)).frozen? ⟨w.heap.size, 1, none⟩ = false := by go_simp
  have r2 : (w.alloc (.cells #[.int .i64 0, .int .i64 0, .string ⟨#[]⟩] 23)).cell? ⟨w.heap.size, 2, none⟩ = some (.string ⟨#[]⟩) := by go_simp
  have z2 : (w.alloc (.cells #[.int .i64 0, .int .i64 0, .string ⟨#[]⟩] 23)).frozen? ⟨w.heap.size, 2, none⟩ = false := by go_simp
  have hB := below_alloc w (.cells #[.int .i64 0, .int .i64 0, .string ⟨#[]⟩] 23)
  generalize (w.alloc (.cells #[.int .i64 0, .int .i64 0, .string ⟨#[]⟩] 23)) = U at *
  go_wp2
  have e0 : (((U.setCell ⟨w.heap.size, 0, none⟩ (.int .i64 0)).setCell ⟨w.heap.size, 1, none⟩ (.int .i64 0)).setCell ⟨w.heap.size, 2, none⟩ (.string ⟨#[]⟩)).cell? ⟨w.heap.size, 0, none⟩ = some (.int .i64 0) := by go_simp
  have e1 : (((U.setCell ⟨w.heap.size, 0, none⟩ (.int .i64 0)).setCell ⟨w.heap.size, 1, none⟩ (.int .i64 0)).setCell ⟨w.heap.size, 2, none⟩ (.string ⟨#[]⟩)).cell? ⟨w.heap.size, 1, none⟩ = some (.int .i64 0) := by go_simp
  have e2 : (((U.setCell ⟨w.heap.size, 0, none⟩ (.int .i64 0)).setCell ⟨w.heap.size, 1, none⟩ (.int .i64 0)).setCell ⟨w.heap.size, 2, none⟩ (.string ⟨#[]⟩)).cell? ⟨w.heap.size, 2, none⟩ = some (.string ⟨#[]⟩) := by go_simp
  have HE : Hid (Below w.heap.size w (((U.setCell ⟨w.heap.size, 0, none⟩ (.int .i64 0)).setCell ⟨w.heap.size, 1, none⟩ (.int .i64 0)).setCell ⟨w.heap.size, 2, none⟩ (.string ⟨#[]⟩))) := Lib.hid (by repeat' (first | exact hB | refine Below.setCell ?_ ?_ _ | (dsimp only; omega)))
  generalize (((U.setCell ⟨w.heap.size, 0, none⟩ (.int .i64 0)).setCell ⟨w.heap.size, 1, none⟩ (.int .i64 0)).setCell ⟨w.heap.size, 2, none⟩ (.string ⟨#[]⟩)) = ZZ at *
  have hl : (loadVar 23 ⟨w.heap.size, 0, none⟩).run Tryd.prog ZZ = .ok (.agg #[.int .i64 0, .int .i64 0, .string ⟨#[]⟩]) ZZ := by simp [loadVar, isAgg, underlying, Tryd.underlying23, Result.andThen, loadCells, loadCellsFrom, Addr.add, e0, e1, e2]
  refine bodyPost_ret (results_cell2 rfl _ _ (by rfl) hl) rfl ?_
  exact ⟨rfl, HE.out⟩

set_option maxRecDepth 100000 in
set_option maxHeartbeats 8000000 in
theorem rTake_31b (s t : ByteArray) (n : Nat) (h : ¬ (n : Int) < 0) (h2 : ¬ (s.size : Int) < (n : Int)) (hsl : ∀ W, (Instr.slice 9 (.string s) (some (.int .i64 (n : Int))) none none).run Tryd.prog W = .ok (.string t) W) (ht : t.toList.isEmpty = false) (b : Nat) (hix : ∀ W, (Instr.index 9 (.string t) (.int .i64 0)).run Tryd.prog W = .ok (.int .u8 (b : Int)) W) (hb : ¬ (b : Int) < 1) (hb2 : 8 < (b : Int)) (w : World) : Calls Tryd.prog 16 #[.string s, .int .i64 (n : Int)] w fun x w' => x = .returned (.tuple #[.agg #[.int .i64 0, .int .i64 0, .string ⟨#[]⟩], .int .i64 0, .int .i64 31]) ∧ Below w.heap.size w w' := by
  go_enter Tryd.func16, Tryd.ntmps16
  go_upto_region 1 with (fail)
  have r0 : (w.alloc (.cells #[.int .i64 0, .int .i64 0, .string ⟨#[]⟩] 23)).cell? ⟨w.heap.size, 0, none⟩ = some (.int .i64 0) := by go_simp
  have z0 : (w.alloc (.cells #[.int .i64 0, .int .i64 0, .string ⟨#[]⟩] 23)).frozen? ⟨w.heap.size, 0, none⟩ = false := by go_simp
  have r1 : (w.alloc (.cells #[.int .i64 0, .int .i64 0, .string ⟨#[]⟩] 23)).cell? ⟨w.heap.size, 1, none⟩ = some (.int .i64 0) := by go_simp
  have z1 : (w.alloc (.cells #[.int .i64 0, .int .i64 0, .string ⟨#[]⟩] 23)).frozen? ⟨w.heap.size, 1, none⟩ = false := by go_simp
  have r2 : (w.alloc (.cells #[.int .i64 0, .int .i64 0, .string ⟨#[]⟩] 23)).cell? ⟨w.heap.size, 2, none⟩ = some (.string ⟨#[]⟩) := by go_simp
  have z2 : (w.alloc (.cells #[.int .i64 0, .int .i64 0, .string ⟨#[]⟩] 23)).frozen? ⟨w.heap.size, 2, none⟩ = false := by go_simp
  have hB := below_alloc w (.cells #[.int .i64 0, .int .i64 0, .string ⟨#[]⟩] 23)
  generalize (w.alloc (.cells #[.int .i64 0, .int .i64 0, .string ⟨#[]⟩] 23)) = U at *
  go_wp2
  have e0 : (((U.setCell ⟨w.heap.size, 0, none⟩ (.int .i64 0)).setCell ⟨w.heap.size, 1, none⟩ (.int .i64 0)).setCell ⟨w.heap.size, 2, none⟩ (.string ⟨#[]⟩)).cell? ⟨w.heap.size, 0, none⟩ = some (.int .i64 0) := by go_simp
  have e1 : (((U.setCell ⟨w.heap.size, 0, none⟩ (.int .i64 0)).setCell ⟨w.heap.size, 1, none⟩ (.int .i64 0)).setCell ⟨w.heap.size, 2, none⟩ (.string ⟨#[]⟩)).cell? ⟨w.heap.size, 1, none⟩ = some (.int .i64 0) := by go_simp
  have e2 : (((U.setCell ⟨w.heap.size, 0, none⟩ (.int .i64 0)).setCell ⟨w.heap.size, 1, none⟩ (.int .i64 0)).setCell ⟨w.heap.size, 2, none⟩ (.string ⟨#[]⟩)).cell? ⟨w.heap.size, 2, none⟩ = some (.string ⟨#[]⟩) := by go_simp
  have HE : Hid (Below w.heap.size w (((U.setCell ⟨w.heap.size, 0, none⟩ (.int .i64 0)).setCell ⟨w.heap.size, 1, none⟩ (.int .i64 0)).setCell ⟨w.heap.size, 2, none⟩ (.string ⟨#[]⟩))) := Lib.hid (by repeat' (first | exact hB | refine Below.setCell ?_ ?_ _ | (dsimp only; omega)))
  generalize (((U.setCell ⟨w.heap.size, 0, none⟩ (.int .i64 0)).setCell ⟨w.heap.size, 1, none⟩ (.int .i64 0)).setCell ⟨w.heap.size, 2, none⟩ (.string ⟨#[]⟩)) = ZZ at *
  have hl : (loadVar 23 ⟨w.heap.size, 0, none⟩).run Tryd.prog ZZ = .ok (.agg #[.int .i64 0, .int .i64 0, .string ⟨#[]⟩]) ZZ := by simp [loadVar, isAgg, underlying, Tryd.underlying23, Result.andThen, loadCells, loadCellsFrom, Addr.add, e0, e1, e2]
  refine bodyPost_ret (results_cell2 rfl _ _ (by rfl) hl) rfl ?_
  exact ⟨rfl, HE.out⟩

set_option maxRecDepth 100000 in
set_option maxHeartbeats 8000000 in
theorem rTake_30b (s t : ByteArray) (n : Nat) (h : ¬ (n : Int) < 0) (h2 : ¬ (s.size : Int) < (n : Int)) (hsl : ∀ W, (Instr.slice 9 (.string s) (some (.int .i64 (n : Int))) none none).run Tryd.prog W = .ok (.string t) W) (ht : t.toList.isEmpty = false) (b : Nat) (hix : ∀ W, (Instr.index 9 (.string t) (.int .i64 0)).run Tryd.prog W = .ok (.int .u8 (b : Int)) W) (hb : ¬ (b : Int) < 1) (hb2 : ¬ 8 < (b : Int)) (hl5 : (t.size : Int) < 5) (w : World) : Calls Tryd.prog 16 #[.string s, .int .i64 (n : Int)] w fun x w' => x = .returned (.tuple #[.agg #[.int .i64 0, .int .i64 0, .string ⟨#[]⟩], .int .i64 0, .int .i64 30]) ∧ Below w.heap.size w w' := by
  go_enter Tryd.func16, Tryd.ntmps16
  go_upto_region 1 with (fail)
  have r0 : (w.alloc (.cells #[.int .i64 0, .int .i64 0, .string ⟨#[]⟩] 23)).cell? ⟨w.heap.size, 0, none⟩ = some (.int .i64 0) := by go_simp
  have z0 : (w.alloc (.cells #[.int .i64 0, .int .i64 0, .string ⟨#[]⟩] 23)).frozen? ⟨w.heap.size, 0, none⟩ = false := by go_simp
  have r1 : (w.alloc (.cells #[.int .i64 0, .int .i64 0, .string ⟨#[]⟩] 23)).cell? ⟨w.heap.size, 1, none⟩ = some (.int .i64 0) := by go_simp
  have z1 : (w.alloc (.cells #[.int .i64 0, .int .i64 0, .string ⟨#[]⟩] 23)).frozen? ⟨w.heap.size, 1, none⟩ = false := by go_simp
  have r2 : (w.alloc (.cells #[.int .i64 0, .int .i64 0, .string ⟨#[]⟩] 23)).cell? ⟨w.heap.size, 2, none⟩ = some (.string ⟨#[]⟩) := by go_simp
  have z2 : (w.alloc (.cells #[.int .i64 0, .int .i64 0, .string ⟨#[]⟩] 23)).frozen? ⟨w.heap.size, 2, none⟩ = false := by go_simp
  have hB := below_alloc w (.cells #[.int .i64 0, .int .i64 0, .string ⟨#[]⟩] 23)
  generalize (w.alloc (.cells #[.int .i64 0, .int .i64 0, .string ⟨#[]⟩] 23)) = U at *
  go_wp2
  have e0 : (((U.setCell ⟨w.heap.size, 0, none⟩ (.int .i64 0)).setCell ⟨w.heap.size, 1, none⟩ (.int .i64 0)).setCell ⟨w.heap.size, 2, none⟩ (.string ⟨#[]⟩)).cell? ⟨w.heap.size, 0, none⟩ = some (.int .i64 0) := by go_simp
  have e1 : (((U.setCell ⟨w.heap.size, 0, none⟩ (.int .i64 0)).setCell ⟨w.heap.size, 1, none⟩ (.int .i64 0)).setCell ⟨w.heap.size, 2, none⟩ (.string ⟨#[]⟩)).cell? ⟨w.heap.size, 1, none⟩ = some (.int .i64 0) := by go_simp
  have e2 : (((U.setCell ⟨w.heap.size, 0, none⟩ (.int .i64 0)).setCell ⟨w.heap.size, 1, none⟩ (.int .i64 0)).setCell ⟨w.heap.size, 2, none⟩ (.string ⟨#[]⟩)).cell? ⟨w.heap.size, 2, none⟩ = some (.string ⟨#[]⟩) := by go_simp
  have HE : Hid (Below w.heap.size w (((U.setCell ⟨w.heap.size, 0, none⟩ (.int .i64 0)).setCell ⟨w.heap.size, 1, none⟩ (.int .i64 0)).setCell ⟨w.heap.size, 2, none⟩ (.string ⟨#[]⟩))) := Lib.hid (by repeat' (first | exact hB | refine Below.setCell ?_ ?_ _ | (dsimp only; omega)))
  generalize (((U.setCell ⟨w.heap.size, 0, none⟩ (.int .i64 0)).setCell ⟨w.heap.size, 1, none⟩ (.int .i64 0)).setCell ⟨w.heap.size, 2, none⟩ (.string ⟨#[]⟩)) = ZZ at *
  have hl : (loadVar 23 ⟨w.heap.size, 0, none⟩).run Tryd.prog ZZ = .ok (.agg #[.int .i64 0, .int .i64 0, .string ⟨#[]⟩]) ZZ := by simp [loadVar, isAgg, underlying, Tryd.underlying23, Result.andThen, loadCells, loadCellsFrom, Addr.add, e0, e1, e2]
  refine bodyPost_ret (results_cell2 rfl _ _ (by rfl) hl) rfl ?_
  exact ⟨rfl, HE.out⟩

set_option maxRecDepth 100000 in
set_option maxHeartbeats 8000000 in
theorem rTake_32 (s t : ByteArray) (n : Nat) (h : ¬ (n : Int) < 0) (h2 : ¬ (s.size : Int) < (n : Int)) (hsl : ∀ W, (Instr.slice 9 (.string s) (some (.int .i64 (n : Int))) none none).run Tryd.prog W = .ok (.string t) W) (ht : t.toList.isEmpty = false) (b : Nat) (hix : ∀ W, (Instr.index 9 (.string t) (.int .i64 0)).run Tryd.prog W = .ok (.int .u8 (b : Int)) W) (hb : ¬ (b : Int) < 1) (hb2 : ¬ 8 < (b : Int)) (hl5 : ¬ (t.size : Int) < 5) (A2 : ByteArray) (hs2 : ∀ W, (Instr.slice 9 (.string t) (some (.int .i64 3)) (some (.int .i64 5)) none).run Tryd.prog W = .ok (.string A2) W) (L : Int) (N2 : Hid (∀ W, Calls Tryd.prog 22 #[.string A2] W fun x w' => x = .returned (.int .i64 L) ∧ Below W.heap.size W w')) (h512 : 512 < L) (w : World) : Calls Tryd.prog 16 #[.string s, .int .i64 (n : Int)] w fun x w' => x = .returned (.tuple #[.agg #[.int .i64 0, .int .i64 0, .string ⟨#[]⟩], .int .i64 0, .int .i64 32]) ∧ Below w.heap.size w w' := by
  go_enter Tryd.func16, Tryd.ntmps16
  go_upto_region 1 with (fail)
  have r0 : (w.alloc (.cells #[.int .i64 0, .int .i64 0, .string ⟨#[]⟩] 23)).cell? ⟨w.heap.size, 0, none⟩ = some (.int .i64 0) := by go_simp
  have z0 : (w.alloc (.cells #[.int .i64 0, .int .i64 0, .string ⟨#[]⟩] 23)).frozen? ⟨w.heap.size, 0, none⟩ = false := by go_simp
  have r1 : (w.alloc (.cells #[.int .i64 0, .int .i64 0, .string ⟨#[]⟩] 23)).cell? ⟨w.heap.size, 1, none⟩ = some (.int .i64 0) := by go_simp
  have z1 : (w.alloc (.cells #[.int .i64 0, .int .i64 0, .string ⟨#[]⟩] 23)).frozen? ⟨w.heap.size, 1, none⟩ = false := by go_simp
  have r2 : (w.alloc (.cells #[.int .i64 0, .int .i64 0, .string ⟨#[]⟩] 23)).cell? ⟨w.heap.size, 2, none⟩ = some (.string ⟨#[]⟩) := by go_simp
  have z2 : (w.alloc (.cells #[.int .i64 0, .int .i64 0, .string ⟨#[]⟩] 23)).frozen? ⟨w.heap.size, 2, none⟩ = false := by go_simp
  have hB := below_alloc w (.cells #[.int .i64 0, .int .i64 0, .string ⟨#[]⟩] 23)
  generalize (w.alloc (.cells #[.int .i64 0, .int .i64 0, .string ⟨#[]⟩] 23)) = U at *
  go_wp2_with fail
  refine (N2.out _).mono ?_; rintro e w1 ⟨rfl, hb1⟩
  replace z0 := (hb1.frozen (blt r0)).trans z0
  replace r0 := (hb1.cell (blt r0)).trans r0
  replace z1 := (hb1.frozen (blt r1)).trans z1
  replace r1 := (hb1.cell (blt r1)).trans r1
  replace z2 := (hb1.frozen (blt r2)).trans z2
  replace r2 := (hb1.cell (blt r2)).trans r2
  replace hB := btr hB hb1
  clear hb1
  go_wp2
  have e0 : (((w1.setCell ⟨w.heap.size, 0, none⟩ (.int .i64 0)).setCell ⟨w.heap.size, 1, none⟩ (.int .i64 0)).setCell ⟨w.heap.size, 2, none⟩ (.string ⟨#[]⟩)).cell? ⟨w.heap.size, 0, none⟩ = some (.int .i64 0) := by go_simp
  have e1 : (((w1.setCell ⟨w.heap.size, 0, none⟩ (.int .i64 0)).setCell ⟨w.heap.size, 1, none⟩ (.int .i64 0)).setCell ⟨w.heap.size, 2, none⟩ (.string ⟨#[]⟩)).cell? ⟨w.heap.size, 1, none⟩ = some (.int .i64 0) := by go_simp
  have e2 : (((w1.setCell ⟨w.heap.size, 0, none⟩ (.int .i64 0)).setCell ⟨w.heap.size, 1, none⟩ (.int .i64 0)).setCell ⟨w.heap.size, 2, none⟩ (.string ⟨#[]⟩)).cell? ⟨w.heap.size, 2, none⟩ = some (.string ⟨#[]⟩) := by go_simp
  have HE : Hid (Below w.heap.size w (((w1.setCell ⟨w.heap.size, 0, none⟩ (.int .i64 0)).setCell ⟨w.heap.size, 1, none⟩ (.int .i64 0)).setCell ⟨w.heap.size, 2, none⟩ (.string ⟨#[]⟩))) := Lib.hid (by repeat' (first | exact hB | refine Below.setCell ?_ ?_ _ | (dsimp only; omega)))
  generalize (((w1.setCell ⟨w.heap.size, 0, none⟩ (.int .i64 0)).setCell ⟨w.heap.size, 1, none⟩ (.int .i64 0)).setCell ⟨w.heap.size, 2, none⟩ (.string ⟨#[]⟩)) = ZZ at *
  have hl : (loadVar 23 ⟨w.heap.size, 0, none⟩).run Tryd.prog ZZ = .ok (.agg #[.int .i64 0, .int .i64 0, .string ⟨#[]⟩]) ZZ := by simp [loadVar, isAgg, underlying, Tryd.underlying23, Result.andThen, loadCells, loadCellsFrom, Addr.add, e0, e1, e2]
  refine bodyPost_ret (results_cell2 rfl _ _ (by rfl) hl) rfl ?_
  exact ⟨rfl, HE.out⟩

set_option maxRecDepth 100000 in
set_option maxHeartbeats 8000000 in
theorem rTake_30c (s t : ByteArray) (n : Nat) (h : ¬ (n : Int) < 0) (h2 : ¬ (s.size : Int) < (n : Int)) (hsl : ∀ W, (Instr.slice 9 (.string s) (some (.int .i64 (n : Int))) none none).run Tryd.prog W = .ok (.string t) W) (ht : t.toList.isEmpty = false) (b : Nat) (hix : ∀ W, (Instr.index 9 (.string t) (.int .i64 0)).run Tryd.prog W = .ok (.int .u8 (b : Int)) W) (hb : ¬ (b : Int) < 1) (hb2 : ¬ 8 < (b : Int)) (hl5 : ¬ (t.size : Int) < 5) (A2 : ByteArray) (hs2 : ∀ W, (Instr.slice 9 (.string t) (some (.int .i64 3)) (some (.int .i64 5)) none).run Tryd.prog W = .ok (.string A2) W) (L : Int) (N2 : Hid (∀ W, Calls Tryd.prog 22 #[.string A2] W fun x w' => x = .returned (.int .i64 L) ∧ Below W.heap.size W w')) (h512 : ¬ 512 < L) (hw5 : IntKind.i64.wrap (5 + L) = 5 + L) (hlt : (t.size : Int) < 5 + L) (w : World) : Calls Tryd.prog 16 #[.string s, .int .i64 (n : Int)] w fun x w' => x = .returned (.tuple #[.agg #[.int .i64 0, .int .i64 0, .string ⟨#[]⟩], .int .i64 0, .int .i64 30]) ∧ Below w.heap.size w w' := by
  go_enter Tryd.func16, Tryd.ntmps16
  go_upto_region 1 with (fail)
  have r0 : (w.alloc (.cells #[.int .i64 0, .int .i64 0, .string ⟨#[]⟩] 23)).cell? ⟨w.heap.size, 0, none⟩ = some (.int .i64 0) := by go_simp
  have z0 : (w.alloc (.cells #[.int .i64 0, .int .i64 0, .string ⟨#[]⟩] 23)).frozen? ⟨w.heap.size, 0, none⟩ = false := by go_simp
  have r1 : (w.alloc (.cells #[.int .i64 0, .int .i64 0, .string ⟨#[]⟩] 23)).cell? ⟨w.heap.size, 1, none⟩ = some (.int .i64 0) := by go_simp
  have z1 : (w.alloc (.cells #[.int .i64 0, .int .i64 0, .string ⟨#[]⟩] 23)).frozen? ⟨w.heap.size, 1, none⟩ = false := by go_simp
  have r2 : (w.alloc (.cells #[.int .i64 0, .int .i64 0, .string ⟨#[]⟩] 23)).cell? ⟨w.heap.size, 2, none⟩ = some (.string ⟨#[]⟩) := by go_simp
  have z2 : (w.alloc (.cells #[.int .i64 0, .int .i64 0, .string ⟨#[]⟩] 23)).frozen? ⟨w.heap.size, 2, none⟩ = false := by go_simp
  have hB := below_alloc w (.cells #[.int .i64 0, .int .i64 0, .string ⟨#[]⟩] 23)
  generalize (w.alloc (.cells #[.int .i64 0, .int .i64 0, .string ⟨#[]⟩] 23)) = U at *
  go_wp2_with fail
  refine (N2.out _).mono ?_; rintro e w1 ⟨rfl, hb1⟩
  replace z0 := (hb1.frozen (blt r0)).trans z0
  replace r0 := (hb1.cell (blt r0)).trans r0
  replace z1 := (hb1.frozen (blt r1)).trans z1
  replace r1 := (hb1.cell (blt r1)).trans r1
  replace z2 := (hb1.frozen (blt r2)).trans z2
  replace r2 := (hb1.cell (blt r2)).trans r2
  replace hB := btr hB hb1
  clear hb1
  go_wp2
  have e0 : (((w1.setCell ⟨w.heap.size, 0, none⟩ (.int .i64 0)).setCell ⟨w.heap.size, 1, none⟩ (.int .i64 0)).setCell ⟨w.heap.size, 2, none⟩ (.string ⟨#[]⟩)).cell? ⟨w.heap.size, 0, none⟩ = some (.int .i64 0) := by go_simp
  have e1 : (((w1.setCell ⟨w.heap.size, 0, none⟩ (.int .i64 0)).setCell ⟨w.heap.size, 1, none⟩ (.int .i64 0)).setCell ⟨w.heap.size, 2, none⟩ (.string ⟨#[]⟩)).cell? ⟨w.heap.size, 1, none⟩ = some (.int .i64 0) := by go_simp
  have e2 : (((w1.setCell ⟨w.heap.size, 0, none⟩ (.int .i64 0)).setCell ⟨w.heap.size, 1, none⟩ (.int .i64 0)).setCell ⟨w.heap.size, 2, none⟩ (.string ⟨#[]⟩)).cell? ⟨w.heap.size, 2, none⟩ = some (.string ⟨#[]⟩) := by go_simp
  have HE : Hid (Below w.heap.size w (((w1.setCell ⟨w.heap.size, 0, none⟩ (.int .i64 0)).setCell ⟨w.heap.size, 1, none⟩ (.int .i64 0)).setCell ⟨w.heap.size, 2, none⟩ (.string ⟨#[]⟩))) := Lib.hid (by repeat' (first | exact hB | refine Below.setCell ?_ ?_ _ | (dsimp only; omega)))
  generalize (((w1.setCell ⟨w.heap.size, 0, none⟩ (.int .i64 0)).setCell ⟨w.heap.size, 1, none⟩ (.int .i64 0)).setCell ⟨w.heap.size, 2, none⟩ (.string ⟨#[]⟩)) = ZZ at *
  have hl : (loadVar 23 ⟨w.heap.size, 0, none⟩).run Tryd.prog ZZ = .ok (.agg #[.int .i64 0, .int .i64 0, .string ⟨#[]⟩]) ZZ := by simp [loadVar, isAgg, underlying, Tryd.underlying23, Result.andThen, loadCells, loadCellsFrom, Addr.add, e0, e1, e2]
  refine bodyPost_ret (results_cell2 rfl _ _ (by rfl) hl) rfl ?_
  exact ⟨rfl, HE.out⟩

set_option maxRecDepth 100000 in
set_option maxHeartbeats 8000000 in
theorem rTake_33 (s t : ByteArray) (n : Nat) (h : ¬ (n : Int) < 0) (h2 : ¬ (s.size : Int) < (n : Int)) (hsl : ∀ W, (Instr.slice 9 (.string s) (some (.int .i64 (n : Int))) none none).run Tryd.prog W = .ok (.string t) W) (ht : t.toList.isEmpty = false) (b : Nat) (hix : ∀ W, (Instr.index 9 (.string t) (.int .i64 0)).run Tryd.prog W = .ok (.int .u8 (b : Int)) W) (hb : ¬ (b : Int) < 1) (hb2 : ¬ 8 < (b : Int)) (hl5 : ¬ (t.size : Int) < 5) (A2 : ByteArray) (hs2 : ∀ W, (Instr.slice 9 (.string t) (some (.int .i64 3)) (some (.int .i64 5)) none).run Tryd.prog W = .ok (.string A2) W) (L : Int) (N2 : Hid (∀ W, Calls Tryd.prog 22 #[.string A2] W fun x w' => x = .returned (.int .i64 L) ∧ Below W.heap.size W w')) (h512 : ¬ 512 < L) (hw5 : IntKind.i64.wrap (5 + L) = 5 + L) (hlt : ¬ (t.size : Int) < 5 + L) (A1 D : ByteArray) (hs1 : ∀ W, (Instr.slice 9 (.string t) (some (.int .i64 1)) (some (.int .i64 3)) none).run Tryd.prog W = .ok (.string A1) W) (hs3 : ∀ W, (Instr.slice 9 (.string t) (some (.int .i64 5)) (some (.int .i64 (5 + L))) none).run Tryd.prog W = .ok (.string D) W) (S : Int) (N1 : Hid (∀ W, Calls Tryd.prog 22 #[.string A1] W fun x w' => x = .returned (.int .i64 S) ∧ Below W.heap.size W w')) (hwb : IntKind.i64.wrap (b : Int) = (b : Int)) (R1 : Hid (∀ W, Calls Tryd.prog 20 #[.agg #[.int .i64 (b : Int), .int .i64 S, .string D]] W fun x w' => x = .returned (.bool false) ∧ Below W.heap.size W w')) (w : World) : Calls Tryd.prog 16 #[.string s, .int .i64 (n : Int)] w fun x w' => x = .returned (.tuple #[.agg #[.int .i64 0, .int .i64 0, .string ⟨#[]⟩], .int .i64 0, .int .i64 33]) ∧ Below w.heap.size w w' := by
  go_enter Tryd.func16, Tryd.ntmps16
  go_upto_region 1 with (fail)
  have r0 : (w.alloc (.cells #[.int .i64 0, .int .i64 0, .string ⟨#[]⟩] 23)).cell? ⟨w.heap.size, 0, none⟩ = some (.int .i64 0) := by go_simp
  have z0 : (w.alloc (.cells #[.int .i64 0, .int .i64 0, .string ⟨#[]⟩] 23)).frozen? ⟨w.heap.size, 0, none⟩ = false := by go_simp
  have r1 : (w.alloc (.cells #[.int .i64 0, .int .i64 0, .string ⟨#[]⟩] 23)).cell? ⟨w.heap.size, 1, none⟩ = some (.int .i64 0) := by go_simp
  have z1 : (w.alloc (.cells #[.int .i64 0, .int .i64 0, .string ⟨#[]⟩] 23)).frozen? ⟨w.heap.size, 1, none⟩ = false := by go_simp
  have r2 : (w.alloc (.cells #[.int .i64 0, .int .i64 0, .string ⟨#[]⟩] 23)).cell? ⟨w.heap.size, 2, none⟩ = some (.string ⟨#[]⟩) := by go_simp
  have z2 : (w.alloc (.cells #[.int .i64 0, .int .i64 0, .string ⟨#[]⟩] 23)).frozen? ⟨w.heap.size, 2, none⟩ = false := by go_simp
  have hB := below_alloc w (.cells #[.int .i64 0, .int .i64 0, .string ⟨#[]⟩] 23)
  generalize (w.alloc (.cells #[.int .i64 0, .int .i64 0, .string ⟨#[]⟩] 23)) = U at *
  go_wp2_with fail
  refine (N2.out _).mono ?_; rintro e w1 ⟨rfl, hb1⟩
  replace z0 := (hb1.frozen (blt r0)).trans z0
  replace r0 := (hb1.cell (blt r0)).trans r0
  replace z1 := (hb1.frozen (blt r1)).trans z1
  replace r1 := (hb1.cell (blt r1)).trans r1
  replace z2 := (hb1.frozen (blt r2)).trans z2
  replace r2 := (hb1.cell (blt r2)).trans r2
  replace hB := btr hB hb1
  clear hb1
  go_wp2_with fail
  refine wp_region_held_drew (S := fun _ => True) (by kernel_rfl) trivial (fun hHeld => ?_)
  replace hB := below_drew hB
  change w1.drew.cell? _ = _ at r0
  change w1.drew.cell? _ = _ at r1
  change w1.drew.cell? _ = _ at r2
  change w1.drew.frozen? _ = _ at z0
  change w1.drew.frozen? _ = _ at z1
  change w1.drew.frozen? _ = _ at z2
  generalize w1.drew = Y at *
  refine takeH (i := 0) (some 50) (v := ?_) rfl rfl (by kernel_rfl) (by kernel_rfl) (by kernel_rfl) (fun _ _ _ h => h) (Or.inl ⟨by rfl, ?hya0⟩) hHeld ?resta0
  case hya0 => (intro w hSw; (try dsimp only at hSw); go_simp; (try with_reducible rfl))
  try simp only [Act.put, List.setIfInBounds_toArray, List.set_cons_zero, List.set_cons_succ]
  refine takeH (i := 1) (some 51) (v := ?_) rfl rfl (by kernel_rfl) (by kernel_rfl) (by kernel_rfl) (fun _ _ _ h => h) (Or.inl ⟨by rfl, ?hya1⟩) hHeld ?resta1
  case hya1 => (intro w hSw; (try dsimp only at hSw); go_simp; (try with_reducible rfl))
  try simp only [Act.put, List.setIfInBounds_toArray, List.set_cons_zero, List.set_cons_succ]
  refine takeH (i := 2) (some 52) (v := ?_) rfl rfl (by kernel_rfl) (by kernel_rfl) (by kernel_rfl) (fun _ _ _ h => h) (Or.inl ⟨by rfl, ?hya2⟩) hHeld ?resta2
  case hya2 => (intro w hSw; (try dsimp only at hSw); go_simp; (try with_reducible rfl))
  try simp only [Act.put, List.setIfInBounds_toArray, List.set_cons_zero, List.set_cons_succ]
  refine takeH (i := 3) (some 53) (v := ?_) rfl rfl (by kernel_rfl) (by kernel_rfl) (by kernel_rfl) (fun _ _ _ h => h) (Or.inl ⟨by rfl, ?hya3⟩) hHeld ?resta3
  case hya3 => (intro w hSw; (try dsimp only at hSw); go_simp; (try with_reducible rfl))
  try simp only [Act.put, List.setIfInBounds_toArray, List.set_cons_zero, List.set_cons_succ]
  refine takeH (i := 4) (some 54) (v := ?_) rfl rfl (by kernel_rfl) (by kernel_rfl) (by kernel_rfl) (fun _ _ _ h => h) (Or.inl ⟨by rfl, ?hya4⟩) hHeld ?resta4
  case hya4 => (intro w hSw; (try dsimp only at hSw); go_simp; (try with_reducible rfl))
  try simp only [Act.put, List.setIfInBounds_toArray, List.set_cons_zero, List.set_cons_succ]
  refine takeH (i := 6) (some 56) (v := ?_) rfl rfl (by kernel_rfl) (by kernel_rfl) (by kernel_rfl) (fun _ _ _ h => h) (Or.inl ⟨by rfl, ?hya6⟩) hHeld ?resta6
  case hya6 => (intro w hSw; (try dsimp only at hSw); go_simp; (try with_reducible rfl))
  try simp only [Act.put, List.setIfInBounds_toArray, List.set_cons_zero, List.set_cons_succ]
  refine takeH (i := 7) (some 57) (v := ?_) rfl rfl (by kernel_rfl) (by kernel_rfl) (by kernel_rfl) (fun _ _ _ h => h) (Or.inl ⟨by rfl, ?hya7⟩) hHeld ?resta7
  case hya7 => (intro w hSw; (try dsimp only at hSw); go_simp; (try with_reducible rfl))
  try simp only [Act.put, List.setIfInBounds_toArray, List.set_cons_zero, List.set_cons_succ]
  refine takeH (i := 8) (some 58) (v := ?_) rfl rfl (by kernel_rfl) (by kernel_rfl) (by kernel_rfl) (fun _ _ _ h => h) (Or.inl ⟨by rfl, ?hya8⟩) hHeld ?resta8
  case hya8 => (intro w hSw; (try dsimp only at hSw); go_simp; (try with_reducible rfl))
  try simp only [Act.put, List.setIfInBounds_toArray, List.set_cons_zero, List.set_cons_succ]
  refine takeH (i := 9) (some 59) (v := ?_) rfl rfl (by kernel_rfl) (by kernel_rfl) (by kernel_rfl) (fun _ _ _ h => h) (Or.inl ⟨by rfl, ?hya9⟩) hHeld ?resta9
  case hya9 => (intro w hSw; (try dsimp only at hSw); go_simp; (try with_reducible rfl))
  try simp only [Act.put, List.setIfInBounds_toArray, List.set_cons_zero, List.set_cons_succ]
  refine wpAnyH_ready (rs := [5, 11]) (by kernel_rfl) (by simp) ?_
  refine AllReadyH.cons rfl (fun K' hK => ?_) ?_
  · go_simp
    go_at_call 22; (with_reducible refine (N1.out _).mono ?_); rintro e wn ⟨rfl, hbn⟩
    replace z0 := (hbn.frozen (blt r0)).trans z0
    replace r0 := (hbn.cell (blt r0)).trans r0
    replace z1 := (hbn.frozen (blt r1)).trans z1
    replace r1 := (hbn.cell (blt r1)).trans r1
    replace z2 := (hbn.frozen (blt r2)).trans z2
    replace r2 := (hbn.cell (blt r2)).trans r2
    replace hB := btr hB hbn
    clear hbn
    refine hK.out _ _ trivial (fun hHeld => ?_)
    clear hK K'
    try simp only [Act.put, List.setIfInBounds_toArray, List.set_cons_zero, List.set_cons_succ]
    refine takeH (i := 10) (some 60) (v := ?_) rfl rfl (by kernel_rfl) (by kernel_rfl) (by kernel_rfl) (fun _ _ _ h => h) (Or.inl ⟨by rfl, ?hyap10⟩) hHeld ?restap10
    case hyap10 => (intro w hSw; (try dsimp only at hSw); go_simp; (try with_reducible rfl))
    try simp only [Act.put, List.setIfInBounds_toArray, List.set_cons_zero, List.set_cons_succ]
    refine wpAnyH_ready (rs := [11]) (by kernel_rfl) (by simp) ?_
    refine AllReadyH.cons rfl (fun K' hK => ?_) AllReadyH.nil
    go_simp
    refine hK.out _ _ trivial (fun hHeld => ?_)
    clear hK K'
    try simp only [Act.put, List.setIfInBounds_toArray, List.set_cons_zero, List.set_cons_succ]
    have hwz : w.heap.size < wn.heap.size := blt r0
    have hb2n := below_alloc wn (.cells #[.int .i64 0, .int .i64 0, .string ⟨#[]⟩] 23)
    replace z0 := (hb2n.frozen (blt r0)).trans z0
    replace r0 := (hb2n.cell (blt r0)).trans r0
    replace z1 := (hb2n.frozen (blt r1)).trans z1
    replace r1 := (hb2n.cell (blt r1)).trans r1
    replace z2 := (hb2n.frozen (blt r2)).trans z2
    replace r2 := (hb2n.cell (blt r2)).trans r2
    replace hB := btr hB hb2n
    have c0 : (wn.alloc (.cells #[.int .i64 0, .int .i64 0, .string ⟨#[]⟩] 23)).cell? ⟨wn.heap.size, 0, none⟩ = some (.int .i64 0) := by go_simp
    have f0 : (wn.alloc (.cells #[.int .i64 0, .int .i64 0, .string ⟨#[]⟩] 23)).frozen? ⟨wn.heap.size, 0, none⟩ = false := by go_simp
    have c1 : (wn.alloc (.cells #[.int .i64 0, .int .i64 0, .string ⟨#[]⟩] 23)).cell? ⟨wn.heap.size, 1, none⟩ = some (.int .i64 0) := by go_simp
    have f1 : (wn.alloc (.cells #[.int .i64 0, .int .i64 0, .string ⟨#[]⟩] 23)).frozen? ⟨wn.heap.size, 1, none⟩ = false := by go_simp
    have c2 : (wn.alloc (.cells #[.int .i64 0, .int .i64 0, .string ⟨#[]⟩] 23)).cell? ⟨wn.heap.size, 2, none⟩ = some (.string ⟨#[]⟩) := by go_simp
    have f2 : (wn.alloc (.cells #[.int .i64 0, .int .i64 0, .string ⟨#[]⟩] 23)).frozen? ⟨wn.heap.size, 2, none⟩ = false := by go_simp
    clear hb2n
    generalize (wn.alloc (.cells #[.int .i64 0, .int .i64 0, .string ⟨#[]⟩] 23)) = Y1 at *
    generalize wn.heap.size = B9 at *
    refine wpAnyH_ready (rs := [12]) (by kernel_rfl) (by simp) ?_
    refine AllReadyH.cons rfl (fun K' hK => ?_) AllReadyH.nil
    go_simp
    refine hK.out _ _ trivial (fun hHeld => ?_)
    clear hK K'
    try simp only [Act.put, List.setIfInBounds_toArray, List.set_cons_zero, List.set_cons_succ]
    refine wpAnyH_done (by kernel_rfl) ?_ _
    have hne : w.heap.size ≠ B9 := by omega
    have hne2 : B9 ≠ w.heap.size := by omega
    replace r0 : (((Y1.setCell ⟨B9, 0, none⟩ (.int .i64 (b : Int))).setCell ⟨B9, 1, none⟩ (.int .i64 S)).setCell ⟨B9, 2, none⟩ (.string D)).cell? ⟨w.heap.size, 0, none⟩ = some (.int .i64 0) := by go_simp
    replace z0 : (((Y1.setCell ⟨B9, 0, none⟩ (.int .i64 (b : Int))).setCell ⟨B9, 1, none⟩ (.int .i64 S)).setCell ⟨B9, 2, none⟩ (.string D)).frozen? ⟨w.heap.size, 0, none⟩ = false := by go_simp
    replace r1 : (((Y1.setCell ⟨B9, 0, none⟩ (.int .i64 (b : Int))).setCell ⟨B9, 1, none⟩ (.int .i64 S)).setCell ⟨B9, 2, none⟩ (.string D)).cell? ⟨w.heap.size, 1, none⟩ = some (.int .i64 0) := by go_simp
    replace z1 : (((Y1.setCell ⟨B9, 0, none⟩ (.int .i64 (b : Int))).setCell ⟨B9, 1, none⟩ (.int .i64 S)).setCell ⟨B9, 2, none⟩ (.string D)).frozen? ⟨w.heap.size, 1, none⟩ = false := by go_simp
    replace r2 : (((Y1.setCell ⟨B9, 0, none⟩ (.int .i64 (b : Int))).setCell ⟨B9, 1, none⟩ (.int .i64 S)).setCell ⟨B9, 2, none⟩ (.string D)).cell? ⟨w.heap.size, 2, none⟩ = some (.string ⟨#[]⟩) := by go_simp
    replace z2 : (((Y1.setCell ⟨B9, 0, none⟩ (.int .i64 (b : Int))).setCell ⟨B9, 1, none⟩ (.int .i64 S)).setCell ⟨B9, 2, none⟩ (.string D)).frozen? ⟨w.heap.size, 2, none⟩ = false := by go_simp
    replace hB : Below w.heap.size w (((Y1.setCell ⟨B9, 0, none⟩ (.int .i64 (b : Int))).setCell ⟨B9, 1, none⟩ (.int .i64 S)).setCell ⟨B9, 2, none⟩ (.string D)) := by repeat' (first | exact hB | refine Below.setCell ?_ ?_ _ | (dsimp only; omega))
    clear f0 f1 f2
    have c0 : (((Y1.setCell ⟨B9, 0, none⟩ (.int .i64 (b : Int))).setCell ⟨B9, 1, none⟩ (.int .i64 S)).setCell ⟨B9, 2, none⟩ (.string D)).cell? ⟨B9, 0, none⟩ = some (.int .i64 (b : Int)) := by go_simp
    have c1 : (((Y1.setCell ⟨B9, 0, none⟩ (.int .i64 (b : Int))).setCell ⟨B9, 1, none⟩ (.int .i64 S)).setCell ⟨B9, 2, none⟩ (.string D)).cell? ⟨B9, 1, none⟩ = some (.int .i64 S) := by go_simp
    have c2 : (((Y1.setCell ⟨B9, 0, none⟩ (.int .i64 (b : Int))).setCell ⟨B9, 1, none⟩ (.int .i64 S)).setCell ⟨B9, 2, none⟩ (.string D)).cell? ⟨B9, 2, none⟩ = some (.string D) := by go_simp
    generalize (((Y1.setCell ⟨B9, 0, none⟩ (.int .i64 (b : Int))).setCell ⟨B9, 1, none⟩ (.int .i64 S)).setCell ⟨B9, 2, none⟩ (.string D)) = VV at *
    go_wp2_with fail
    refine (R1.out _).mono ?_; rintro e w7 ⟨rfl, hb7⟩
    replace c0 := (hb7.cell (blt c0)).trans c0
    replace c1 := (hb7.cell (blt c1)).trans c1
    replace c2 := (hb7.cell (blt c2)).trans c2
    replace z0 := (hb7.frozen (blt r0)).trans z0
    replace r0 := (hb7.cell (blt r0)).trans r0
    replace z1 := (hb7.frozen (blt r1)).trans z1
    replace r1 := (hb7.cell (blt r1)).trans r1
    replace z2 := (hb7.frozen (blt r2)).trans z2
    replace r2 := (hb7.cell (blt r2)).trans r2
    replace hB := btr hB hb7
    clear hb7
    go_wp2
    have e0 : (((w7.setCell ⟨w.heap.size, 0, none⟩ (.int .i64 0)).setCell ⟨w.heap.size, 1, none⟩ (.int .i64 0)).setCell ⟨w.heap.size, 2, none⟩ (.string ⟨#[]⟩)).cell? ⟨w.heap.size, 0, none⟩ = some (.int .i64 0) := by go_simp
    have e1 : (((w7.setCell ⟨w.heap.size, 0, none⟩ (.int .i64 0)).setCell ⟨w.heap.size, 1, none⟩ (.int .i64 0)).setCell ⟨w.heap.size, 2, none⟩ (.string ⟨#[]⟩)).cell? ⟨w.heap.size, 1, none⟩ = some (.int .i64 0) := by go_simp
    have e2 : (((w7.setCell ⟨w.heap.size, 0, none⟩ (.int .i64 0)).setCell ⟨w.heap.size, 1, none⟩ (.int .i64 0)).setCell ⟨w.heap.size, 2, none⟩ (.string ⟨#[]⟩)).cell? ⟨w.heap.size, 2, none⟩ = some (.string ⟨#[]⟩) := by go_simp
    have HE : Hid (Below w.heap.size w (((w7.setCell ⟨w.heap.size, 0, none⟩ (.int .i64 0)).setCell ⟨w.heap.size, 1, none⟩ (.int .i64 0)).setCell ⟨w.heap.size, 2, none⟩ (.string ⟨#[]⟩))) := Lib.hid (by repeat' (first | exact hB | refine Below.setCell ?_ ?_ _ | (dsimp only; omega)))
    generalize (((w7.setCell ⟨w.heap.size, 0, none⟩ (.int .i64 0)).setCell ⟨w.heap.size, 1, none⟩ (.int .i64 0)).setCell ⟨w.heap.size, 2, none⟩ (.string ⟨#[]⟩)) = ZZ at *
    have hl : (loadVar 23 ⟨w.heap.size, 0, none⟩).run Tryd.prog ZZ = .ok (.agg #[.int .i64 0, .int .i64 0, .string ⟨#[]⟩]) ZZ := by simp [loadVar, isAgg, underlying, Tryd.underlying23, Result.andThen, loadCells, loadCellsFrom, Addr.add, e0, e1, e2]
    refine bodyPost_ret (results_cell2 rfl _ _ (by rfl) hl) rfl ?_
    exact ⟨rfl, HE.out⟩
  · refine AllReadyH.cons rfl (fun K' hK => ?_) AllReadyH.nil
    go_simp
    refine hK.out _ _ trivial (fun hHeld => ?_)
    clear hK K'
    try simp only [Act.put, List.setIfInBounds_toArray, List.set_cons_zero, List.set_cons_succ]
    have hwz : w.heap.size < Y.heap.size := blt r0
    have hb2n := below_alloc Y (.cells #[.int .i64 0, .int .i64 0, .string ⟨#[]⟩] 23)
    replace z0 := (hb2n.frozen (blt r0)).trans z0
    replace r0 := (hb2n.cell (blt r0)).trans r0
    replace z1 := (hb2n.frozen (blt r1)).trans z1
    replace r1 := (hb2n.cell (blt r1)).trans r1
    replace z2 := (hb2n.frozen (blt r2)).trans z2
    replace r2 := (hb2n.cell (blt r2)).trans r2
    replace hB := btr hB hb2n
    have c0 : (Y.alloc (.cells #[.int .i64 0, .int .i64 0, .string ⟨#[]⟩] 23)).cell? ⟨Y.heap.size, 0, none⟩ = some (.int .i64 0) := by go_simp
    have f0 : (Y.alloc (.cells #[.int .i64 0, .int .i64 0, .string ⟨#[]⟩] 23)).frozen? ⟨Y.heap.size, 0, none⟩ = false := by go_simp
    have c1 : (Y.alloc (.cells #[.int .i64 0, .int .i64 0, .string ⟨#[]⟩] 23)).cell? ⟨Y.heap.size, 1, none⟩ = some (.int .i64 0) := by go_simp
    have f1 : (Y.alloc (.cells #[.int .i64 0, .int .i64 0, .string ⟨#[]⟩] 23)).frozen? ⟨Y.heap.size, 1, none⟩ = false := by go_simp
    have c2 : (Y.alloc (.cells #[.int .i64 0, .int .i64 0, .string ⟨#[]⟩] 23)).cell? ⟨Y.heap.size, 2, none⟩ = some (.string ⟨#[]⟩) := by go_simp
    have f2 : (Y.alloc (.cells #[.int .i64 0, .int .i64 0, .string ⟨#[]⟩] 23)).frozen? ⟨Y.heap.size, 2, none⟩ = false := by go_simp
    clear hb2n
    generalize (Y.alloc (.cells #[.int .i64 0, .int .i64 0, .string ⟨#[]⟩] 23)) = Y1 at *
    generalize Y.heap.size = B9 at *
    refine wpAnyH_ready (rs := [5]) (by kernel_rfl) (by simp) ?_
    refine AllReadyH.cons rfl (fun K' hK => ?_) AllReadyH.nil
    go_simp
    go_at_call 22; (with_reducible refine (N1.out _).mono ?_); rintro e wn ⟨rfl, hbn⟩
    replace z0 := (hbn.frozen (blt r0)).trans z0
    replace r0 := (hbn.cell (blt r0)).trans r0
    replace z1 := (hbn.frozen (blt r1)).trans z1
    replace r1 := (hbn.cell (blt r1)).trans r1
    replace z2 := (hbn.frozen (blt r2)).trans z2
    replace r2 := (hbn.cell (blt r2)).trans r2
    replace hB := btr hB hbn
    replace f0 := (hbn.frozen (blt c0)).trans f0
    replace c0 := (hbn.cell (blt c0)).trans c0
    replace f1 := (hbn.frozen (blt c1)).trans f1
    replace c1 := (hbn.cell (blt c1)).trans c1
    replace f2 := (hbn.frozen (blt c2)).trans f2
    replace c2 := (hbn.cell (blt c2)).trans c2
    clear hbn
    refine hK.out _ _ trivial (fun hHeld => ?_)
    clear hK K'
    try simp only [Act.put, List.setIfInBounds_toArray, List.set_cons_zero, List.set_cons_succ]
    refine takeH (i := 10) (some 60) (v := ?_) rfl rfl (by kernel_rfl) (by kernel_rfl) (by kernel_rfl) (fun _ _ _ h => h) (Or.inl ⟨by rfl, ?hyaq10⟩) hHeld ?restaq10
    case hyaq10 => (intro w hSw; (try dsimp only at hSw); go_simp; (try with_reducible rfl))
    try simp only [Act.put, List.setIfInBounds_toArray, List.set_cons_zero, List.set_cons_succ]
    refine wpAnyH_ready (rs := [12]) (by kernel_rfl) (by simp) ?_
    refine AllReadyH.cons rfl (fun K' hK => ?_) AllReadyH.nil
    go_simp
    refine hK.out _ _ trivial (fun hHeld => ?_)
    clear hK K'
    try simp only [Act.put, List.setIfInBounds_toArray, List.set_cons_zero, List.set_cons_succ]
    refine wpAnyH_done (by kernel_rfl) ?_ _
    have hne : w.heap.size ≠ B9 := by omega
    have hne2 : B9 ≠ w.heap.size := by omega
    replace r0 : (((wn.setCell ⟨B9, 0, none⟩ (.int .i64 (b : Int))).setCell ⟨B9, 1, none⟩ (.int .i64 S)).setCell ⟨B9, 2, none⟩ (.string D)).cell? ⟨w.heap.size, 0, none⟩ = some (.int .i64 0) := by go_simp
    replace z0 : (((wn.setCell ⟨B9, 0, none⟩ (.int .i64 (b : Int))).setCell ⟨B9, 1, none⟩ (.int .i64 S)).setCell ⟨B9, 2, none⟩ (.string D)).frozen? ⟨w.heap.size, 0, none⟩ = false := by go_simp
    replace r1 : (((wn.setCell ⟨B9, 0, none⟩ (.int .i64 (b : Int))).setCell ⟨B9, 1, none⟩ (.int .i64 S)).setCell ⟨B9, 2, none⟩ (.string D)).cell? ⟨w.heap.size, 1, none⟩ = some (.int .i64 0) := by go_simp
    replace z1 : (((wn.setCell ⟨B9, 0, none⟩ (.int .i64 (b : Int))).setCell ⟨B9, 1, none⟩ (.int .i64 S)).setCell ⟨B9, 2, none⟩ (.string D)).frozen? ⟨w.heap.size, 1, none⟩ = false := by go_simp
    replace r2 : (((wn.setCell ⟨B9, 0, none⟩ (.int .i64 (b : Int))).setCell ⟨B9, 1, none⟩ (.int .i64 S)).setCell ⟨B9, 2, none⟩ (.string D)).cell? ⟨w.heap.size, 2, none⟩ = some (.string ⟨#[]⟩) := by go_simp
    replace z2 : (((wn.setCell ⟨B9, 0, none⟩ (.int .i64 (b : Int))).setCell ⟨B9, 1, none⟩ (.int .i64 S)).setCell ⟨B9, 2, none⟩ (.string D)).frozen? ⟨w.heap.size, 2, none⟩ = false := by go_simp
    replace hB : Below w.heap.size w (((wn.setCell ⟨B9, 0, none⟩ (.int .i64 (b : Int))).setCell ⟨B9, 1, none⟩ (.int .i64 S)).setCell ⟨B9, 2, none⟩ (.string D)) := by repeat' (first | exact hB | refine Below.setCell ?_ ?_ _ | (dsimp only; omega))
    clear f0 f1 f2
    have c0 : (((wn.setCell ⟨B9, 0, none⟩ (.int .i64 (b : Int))).setCell ⟨B9, 1, none⟩ (.int .i64 S)).setCell ⟨B9, 2, none⟩ (.string D)).cell? ⟨B9, 0, none⟩ = some (.int .i64 (b : Int)) := by go_simp
    have c1 : (((wn.setCell ⟨B9, 0, none⟩ (.int .i64 (b : Int))).setCell ⟨B9, 1, none⟩ (.int .i64 S)).setCell ⟨B9, 2, none⟩ (.string D)).cell? ⟨B9, 1, none⟩ = some (.int .i64 S) := by go_simp
    have c2 : (((wn.setCell ⟨B9, 0, none⟩ (.int .i64 (b : Int))).setCell ⟨B9, 1, none⟩ (.int .i64 S)).setCell ⟨B9, 2, none⟩ (.string D)).cell? ⟨B9, 2, none⟩ = some (.string D) := by go_simp
    generalize (((wn.setCell ⟨B9, 0, none⟩ (.int .i64 (b : Int))).setCell ⟨B9, 1, none⟩ (.int .i64 S)).setCell ⟨B9, 2, none⟩ (.string D)) = VV at *
    go_wp2_with fail
    refine (R1.out _).mono ?_; rintro e w7 ⟨rfl, hb7⟩
    replace c0 := (hb7.cell (blt c0)).trans c0
    replace c1 := (hb7.cell (blt c1)).trans c1
    replace c2 := (hb7.cell (blt c2)).trans c2
    replace z0 := (hb7.frozen (blt r0)).trans z0
    replace r0 := (hb7.cell (blt r0)).trans r0
    replace z1 := (hb7.frozen (blt r1)).trans z1
    replace r1 := (hb7.cell (blt r1)).trans r1
    replace z2 := (hb7.frozen (blt r2)).trans z2
    replace r2 := (hb7.cell (blt r2)).trans r2
    replace hB := btr hB hb7
    clear hb7
    go_wp2
    have e0 : (((w7.setCell ⟨w.heap.size, 0, none⟩ (.int .i64 0)).setCell ⟨w.heap.size, 1, none⟩ (.int .i64 0)).setCell ⟨w.heap.size, 2, none⟩ (.string ⟨#[]⟩)).cell? ⟨w.heap.size, 0, none⟩ = some (.int .i64 0) := by go_simp
    have e1 : (((w7.setCell ⟨w.heap.size, 0, none⟩ (.int .i64 0)).setCell ⟨w.heap.size, 1, none⟩ (.int .i64 0)).setCell ⟨w.heap.size, 2, none⟩ (.string ⟨#[]⟩)).cell? ⟨w.heap.size, 1, none⟩ = some (.int .i64 0) := by go_simp
    have e2 : (((w7.setCell ⟨w.heap.size, 0, none⟩ (.int .i64 0)).setCell ⟨w.heap.size, 1, none⟩ (.int .i64 0)).setCell ⟨w.heap.size, 2, none⟩ (.string ⟨#[]⟩)).cell? ⟨w.heap.size, 2, none⟩ = some (.string ⟨#[]⟩) := by go_simp
    have HE : Hid (Below w.heap.size w (((w7.setCell ⟨w.heap.size, 0, none⟩ (.int .i64 0)).setCell ⟨w.heap.size, 1, none⟩ (.int .i64 0)).setCell ⟨w.heap.size, 2, none⟩ (.string ⟨#[]⟩))) := Lib.hid (by repeat' (first | exact hB | refine Below.setCell ?_ ?_ _ | (dsimp only; omega)))
    generalize (((w7.setCell ⟨w.heap.size, 0, none⟩ (.int .i64 0)).setCell ⟨w.heap.size, 1, none⟩ (.int .i64 0)).setCell ⟨w.heap.size, 2, none⟩ (.string ⟨#[]⟩)) = ZZ at *
    have hl : (loadVar 23 ⟨w.heap.size, 0, none⟩).run Tryd.prog ZZ = .ok (.agg #[.int .i64 0, .int .i64 0, .string ⟨#[]⟩]) ZZ := by simp [loadVar, isAgg, underlying, Tryd.underlying23, Result.andThen, loadCells, loadCellsFrom, Addr.add, e0, e1, e2]
    refine bodyPost_ret (results_cell2 rfl _ _ (by rfl) hl) rfl ?_
    exact ⟨rfl, HE.out⟩

set_option maxRecDepth 100000 in
set_option maxHeartbeats 8000000 in
theorem rTake_ok (s t : ByteArray) (n : Nat) (h : ¬ (n : Int) < 0) (h2 : ¬ (s.size : Int) < (n : Int)) (hsl : ∀ W, (Instr.slice 9 (.string s) (some (.int .i64 (n : Int))) none none).run Tryd.prog W = .ok (.string t) W) (ht : t.toList.isEmpty = false) (b : Nat) (hix : ∀ W, (Instr.index 9 (.string t) (.int .i64 0)).run Tryd.prog W = .ok (.int .u8 (b : Int)) W) (hb : ¬ (b : Int) < 1) (hb2 : ¬ 8 < (b : Int)) (hl5 : ¬ (t.size : Int) < 5) (A2 : ByteArray) (hs2 : ∀ W, (Instr.slice 9 (.string t) (some (.int .i64 3)) (some (.int .i64 5)) none).run Tryd.prog W = .ok (.string A2) W) (L : Int) (N2 : Hid (∀ W, Calls Tryd.prog 22 #[.string A2] W fun x w' => x = .returned (.int .i64 L) ∧ Below W.heap.size W w')) (h512 : ¬ 512 < L) (hw5 : IntKind.i64.wrap (5 + L) = 5 + L) (hlt : ¬ (t.size : Int) < 5 + L) (A1 D : ByteArray) (hs1 : ∀ W, (Instr.slice 9 (.string t) (some (.int .i64 1)) (some (.int .i64 3)) none).run Tryd.prog W = .ok (.string A1) W) (hs3 : ∀ W, (Instr.slice 9 (.string t) (some (.int .i64 5)) (some (.int .i64 (5 + L))) none).run Tryd.prog W = .ok (.string D) W) (S : Int) (N1 : Hid (∀ W, Calls Tryd.prog 22 #[.string A1] W fun x w' => x = .returned (.int .i64 S) ∧ Below W.heap.size W w')) (hwb : IntKind.i64.wrap (b : Int) = (b : Int)) (R1 : Hid (∀ W, Calls Tryd.prog 20 #[.agg #[.int .i64 (b : Int), .int .i64 S, .string D]] W fun x w' => x = .returned (.bool true) ∧ Below W.heap.size W w')) (hw6 : IntKind.i64.wrap ((n : Int) + 5) = (n : Int) + 5) (hw7 : IntKind.i64.wrap ((n : Int) + 5 + L) = (n : Int) + 5 + L) (w : World) : Calls Tryd.prog 16 #[.string s, .int .i64 (n : Int)] w fun x w' => x = .returned (.tuple #[.agg #[.int .i64 (b : Int), .int .i64 S, .string D], .int .i64 ((n : Int) + 5 + L), .int .i64 0]) ∧ Below w.heap.size w w' := by
  go_enter Tryd.func16, Tryd.ntmps16
  go_upto_region 1 with (fail)
  have r0 : (w.alloc (.cells #[.int .i64 0, .int .i64 0, .string ⟨#[]⟩] 23)).cell? ⟨w.heap.size, 0, none⟩ = some (.int .i64 0) := by go_simp
  have z0 : (w.alloc (.cells #[.int .i64 0, .int .i64 0, .string ⟨#[]⟩] 23)).frozen? ⟨w.heap.size, 0, none⟩ = false := by go_simp
  have r1 : (w.alloc (.cells #[.int .i64 0, .int .i64 0, .string ⟨#[]⟩] 23)).cell? ⟨w.heap.size, 1, none⟩ = some (.int .i64 0) := by go_simp
  have z1 : (w.alloc (.cells #[.int .i64 0, .int .i64 0, .string ⟨#[]⟩] 23)).frozen? ⟨w.heap.size, 1, none⟩ = false := by go_simp
  have r2 : (w.alloc (.cells #[.int .i64 0, .int .i64 0, .string ⟨#[]⟩] 23)).cell? ⟨w.heap.size, 2, none⟩ = some (.string ⟨#[]⟩) := by go_simp
  have z2 : (w.alloc (.cells #[.int .i64 0, .int .i64 0, .string ⟨#[]⟩] 23)).frozen? ⟨w.heap.size, 2, none⟩ = false := by go_simp
  have hB := below_alloc w (.cells #[.int .i64 0, .int .i64 0, .string ⟨#[]⟩] 23)
  generalize (w.alloc (.cells #[.int .i64 0, .int .i64 0, .string ⟨#[]⟩] 23)) = U at *
  go_wp2_with fail
  refine (N2.out _).mono ?_; rintro e w1 ⟨rfl, hb1⟩
  replace z0 := (hb1.frozen (blt r0)).trans z0
  replace r0 := (hb1.cell (blt r0)).trans r0
  replace z1 := (hb1.frozen (blt r1)).trans z1
  replace r1 := (hb1.cell (blt r1)).trans r1
  replace z2 := (hb1.frozen (blt r2)).trans z2
  replace r2 := (hb1.cell (blt r2)).trans r2
  replace hB := btr hB hb1
  clear hb1
  go_wp2_with fail
  refine wp_region_held_drew (S := fun _ => True) (by kernel_rfl) trivial (fun hHeld => ?_)
  replace hB := below_drew hB
  change w1.drew.cell? _ = _ at r0
  change w1.drew.cell? _ = _ at r1
  change w1.drew.cell? _ = _ at r2
  change w1.drew.frozen? _ = _ at z0
  change w1.drew.frozen? _ = _ at z1
  change w1.drew.frozen? _ = _ at z2
  generalize w1.drew = Y at *
  refine takeH (i := 0) (some 50) (v := ?_) rfl rfl (by kernel_rfl) (by kernel_rfl) (by kernel_rfl) (fun _ _ _ h => h) (Or.inl ⟨by rfl, ?hyb0⟩) hHeld ?restb0
  case hyb0 => (intro w hSw; (try dsimp only at hSw); go_simp; (try with_reducible rfl))
  try simp only [Act.put, List.setIfInBounds_toArray, List.set_cons_zero, List.set_cons_succ]
  refine takeH (i := 1) (some 51) (v := ?_) rfl rfl (by kernel_rfl) (by kernel_rfl) (by kernel_rfl) (fun _ _ _ h => h) (Or.inl ⟨by rfl, ?hyb1⟩) hHeld ?restb1
  case hyb1 => (intro w hSw; (try dsimp only at hSw); go_simp; (try with_reducible rfl))
  try simp only [Act.put, List.setIfInBounds_toArray, List.set_cons_zero, List.set_cons_succ]
  refine takeH (i := 2) (some 52) (v := ?_) rfl rfl (by kernel_rfl) (by kernel_rfl) (by kernel_rfl) (fun _ _ _ h => h) (Or.inl ⟨by rfl, ?hyb2⟩) hHeld ?restb2
  case hyb2 => (intro w hSw; (try dsimp only at hSw); go_simp; (try with_reducible rfl))
  try simp only [Act.put, List.setIfInBounds_toArray, List.set_cons_zero, List.set_cons_succ]
  refine takeH (i := 3) (some 53) (v := ?_) rfl rfl (by kernel_rfl) (by kernel_rfl) (by kernel_rfl) (fun _ _ _ h => h) (Or.inl ⟨by rfl, ?hyb3⟩) hHeld ?restb3
  case hyb3 => (intro w hSw; (try dsimp only at hSw); go_simp; (try with_reducible rfl))
  try simp only [Act.put, List.setIfInBounds_toArray, List.set_cons_zero, List.set_cons_succ]
  refine takeH (i := 4) (some 54) (v := ?_) rfl rfl (by kernel_rfl) (by kernel_rfl) (by kernel_rfl) (fun _ _ _ h => h) (Or.inl ⟨by rfl, ?hyb4⟩) hHeld ?restb4
  case hyb4 => (intro w hSw; (try dsimp only at hSw); go_simp; (try with_reducible rfl))
  try simp only [Act.put, List.setIfInBounds_toArray, List.set_cons_zero, List.set_cons_succ]
  refine takeH (i := 6) (some 56) (v := ?_) rfl rfl (by kernel_rfl) (by kernel_rfl) (by kernel_rfl) (fun _ _ _ h => h) (Or.inl ⟨by rfl, ?hyb6⟩) hHeld ?restb6
  case hyb6 => (intro w hSw; (try dsimp only at hSw); go_simp; (try with_reducible rfl))
  try simp only [Act.put, List.setIfInBounds_toArray, List.set_cons_zero, List.set_cons_succ]
  refine takeH (i := 7) (some 57) (v := ?_) rfl rfl (by kernel_rfl) (by kernel_rfl) (by kernel_rfl) (fun _ _ _ h => h) (Or.inl ⟨by rfl, ?hyb7⟩) hHeld ?restb7
  case hyb7 => (intro w hSw; (try dsimp only at hSw); go_simp; (try with_reducible rfl))
  try simp only [Act.put, List.setIfInBounds_toArray, List.set_cons_zero, List.set_cons_succ]
  refine takeH (i := 8) (some 58) (v := ?_) rfl rfl (by kernel_rfl) (by kernel_rfl) (by kernel_rfl) (fun _ _ _ h => h) (Or.inl ⟨by rfl, ?hyb8⟩) hHeld ?restb8
  case hyb8 => (intro w hSw; (try dsimp only at hSw); go_simp; (try with_reducible rfl))
  try simp only [Act.put, List.setIfInBounds_toArray, List.set_cons_zero, List.set_cons_succ]
  refine takeH (i := 9) (some 59) (v := ?_) rfl rfl (by kernel_rfl) (by kernel_rfl) (by kernel_rfl) (fun _ _ _ h => h) (Or.inl ⟨by rfl, ?hyb9⟩) hHeld ?restb9
  case hyb9 => (intro w hSw; (try dsimp only at hSw); go_simp; (try with_reducible rfl))
  try simp only [Act.put, List.setIfInBounds_toArray, List.set_cons_zero, List.set_cons_succ]
  refine wpAnyH_ready (rs := [5, 11]) (by kernel_rfl) (by simp) ?_
  refine AllReadyH.cons rfl (fun K' hK => ?_) ?_
  · go_simp
    go_at_call 22; (with_reducible refine (N1.out _).mono ?_); rintro e wn ⟨rfl, hbn⟩
    replace z0 := (hbn.frozen (blt r0)).trans z0
    replace r0 := (hbn.cell (blt r0)).trans r0
    replace z1 := (hbn.frozen (blt r1)).trans z1
    replace r1 := (hbn.cell (blt r1)).trans r1
    replace z2 := (hbn.frozen (blt r2)).trans z2
    replace r2 := (hbn.cell (blt r2)).trans r2
    replace hB := btr hB hbn
    clear hbn
    refine hK.out _ _ trivial (fun hHeld => ?_)
    clear hK K'
    try simp only [Act.put, List.setIfInBounds_toArray, List.set_cons_zero, List.set_cons_succ]
    refine takeH (i := 10) (some 60) (v := ?_) rfl rfl (by kernel_rfl) (by kernel_rfl) (by kernel_rfl) (fun _ _ _ h => h) (Or.inl ⟨by rfl, ?hybp10⟩) hHeld ?restbp10
    case hybp10 => (intro w hSw; (try dsimp only at hSw); go_simp; (try with_reducible rfl))
    try simp only [Act.put, List.setIfInBounds_toArray, List.set_cons_zero, List.set_cons_succ]
    refine wpAnyH_ready (rs := [11]) (by kernel_rfl) (by simp) ?_
    refine AllReadyH.cons rfl (fun K' hK => ?_) AllReadyH.nil
    go_simp
    refine hK.out _ _ trivial (fun hHeld => ?_)
    clear hK K'
    try simp only [Act.put, List.setIfInBounds_toArray, List.set_cons_zero, List.set_cons_succ]
    have hwz : w.heap.size < wn.heap.size := blt r0
    have hb2n := below_alloc wn (.cells #[.int .i64 0, .int .i64 0, .string ⟨#[]⟩] 23)
    replace z0 := (hb2n.frozen (blt r0)).trans z0
    replace r0 := (hb2n.cell (blt r0)).trans r0
    replace z1 := (hb2n.frozen (blt r1)).trans z1
    replace r1 := (hb2n.cell (blt r1)).trans r1
    replace z2 := (hb2n.frozen (blt r2)).trans z2
    replace r2 := (hb2n.cell (blt r2)).trans r2
    replace hB := btr hB hb2n
    have c0 : (wn.alloc (.cells #[.int .i64 0, .int .i64 0, .string ⟨#[]⟩] 23)).cell? ⟨wn.heap.size, 0, none⟩ = some (.int .i64 0) := by go_simp
    have f0 : (wn.alloc (.cells #[.int .i64 0, .int .i64 0, .string ⟨#[]⟩] 23)).frozen? ⟨wn.heap.size, 0, none⟩ = false := by go_simp
    have c1 : (wn.alloc (.cells #[.int .i64 0, .int .i64 0, .string ⟨#[]⟩] 23)).cell? ⟨wn.heap.size, 1, none⟩ = some (.int .i64 0) := by go_simp
    have f1 : (wn.alloc (.cells #[.int .i64 0, .int .i64 0, .string ⟨#[]⟩] 23)).frozen? ⟨wn.heap.size, 1, none⟩ = false := by go_simp
    have c2 : (wn.alloc (.cells #[.int .i64 0, .int .i64 0, .string ⟨#[]⟩] 23)).cell? ⟨wn.heap.size, 2, none⟩ = some (.string ⟨#[]⟩) := by go_simp
    have f2 : (wn.alloc (.cells #[.int .i64 0, .int .i64 0, .string ⟨#[]⟩] 23)).frozen? ⟨wn.heap.size, 2, none⟩ = false := by go_simp
    clear hb2n
    generalize (wn.alloc (.cells #[.int .i64 0, .int .i64 0, .string ⟨#[]⟩] 23)) = Y1 at *
    generalize wn.heap.size = B9 at *
    refine wpAnyH_ready (rs := [12]) (by kernel_rfl) (by simp) ?_
    refine AllReadyH.cons rfl (fun K' hK => ?_) AllReadyH.nil
    go_simp
    refine hK.out _ _ trivial (fun hHeld => ?_)
    clear hK K'
    try simp only [Act.put, List.setIfInBounds_toArray, List.set_cons_zero, List.set_cons_succ]
    refine wpAnyH_done (by kernel_rfl) ?_ _
    have hne : w.heap.size ≠ B9 := by omega
    have hne2 : B9 ≠ w.heap.size := by omega
    replace r0 : (((Y1.setCell ⟨B9, 0, none⟩ (.int .i64 (b : Int))).setCell ⟨B9, 1, none⟩ (.int .i64 S)).setCell ⟨B9, 2, none⟩ (.string D)).cell? ⟨w.heap.size, 0, none⟩ = some (.int .i64 0) := by go_simp
    replace z0 : (((Y1.setCell ⟨B9, 0, none⟩ (.int .i64 (b : Int))).setCell ⟨B9, 1, none⟩ (.int .i64 S)).setCell ⟨B9, 2, none⟩ (.string D)).frozen? ⟨w.heap.size, 0, none⟩ = false := by go_simp
    replace r1 : (((Y1.setCell ⟨B9, 0, none⟩ (.int .i64 (b : Int))).setCell ⟨B9, 1, none⟩ (.int .i64 S)).setCell ⟨B9, 2, none⟩ (.string D)).cell? ⟨w.heap.size, 1, none⟩ = some (.int .i64 0) := by go_simp
    replace z1 : (((Y1.setCell ⟨B9, 0, none⟩ (.int .i64 (b : Int))).setCell ⟨B9, 1, none⟩ (.int .i64 S)).setCell ⟨B9, 2, none⟩ (.string D)).frozen? ⟨w.heap.size, 1, none⟩ = false := by go_simp
    replace r2 : (((Y1.setCell ⟨B9, 0, none⟩ (.int .i64 (b : Int))).setCell ⟨B9, 1, none⟩ (.int .i64 S)).setCell ⟨B9, 2, none⟩ (.string D)).cell? ⟨w.heap.size, 2, none⟩ = some (.string ⟨#[]⟩) := by go_simp
    replace z2 : (((Y1.setCell ⟨B9, 0, none⟩ (.int .i64 (b : Int))).setCell ⟨B9, 1, none⟩ (.int .i64 S)).setCell ⟨B9, 2, none⟩ (.string D)).frozen? ⟨w.heap.size, 2, none⟩ = false := by go_simp
    replace hB : Below w.heap.size w (((Y1.setCell ⟨B9, 0, none⟩ (.int .i64 (b : Int))).setCell ⟨B9, 1, none⟩ (.int .i64 S)).setCell ⟨B9, 2, none⟩ (.string D)) := by repeat' (first | exact hB | refine Below.setCell ?_ ?_ _ | (dsimp only; omega))
    clear f0 f1 f2
    have c0 : (((Y1.setCell ⟨B9, 0, none⟩ (.int .i64 (b : Int))).setCell ⟨B9, 1, none⟩ (.int .i64 S)).setCell ⟨B9, 2, none⟩ (.string D)).cell? ⟨B9, 0, none⟩ = some (.int .i64 (b : Int)) := by go_simp
    have c1 : (((Y1.setCell ⟨B9, 0, none⟩ (.int .i64 (b : Int))).setCell ⟨B9, 1, none⟩ (.int .i64 S)).setCell ⟨B9, 2, none⟩ (.string D)).cell? ⟨B9, 1, none⟩ = some (.int .i64 S) := by go_simp
    have c2 : (((Y1.setCell ⟨B9, 0, none⟩ (.int .i64 (b : Int))).setCell ⟨B9, 1, none⟩ (.int .i64 S)).setCell ⟨B9, 2, none⟩ (.string D)).cell? ⟨B9, 2, none⟩ = some (.string D) := by go_simp
    generalize (((Y1.setCell ⟨B9, 0, none⟩ (.int .i64 (b : Int))).setCell ⟨B9, 1, none⟩ (.int .i64 S)).setCell ⟨B9, 2, none⟩ (.string D)) = VV at *
    go_wp2_with fail
    refine (R1.out _).mono ?_; rintro e w7 ⟨rfl, hb7⟩
    replace c0 := (hb7.cell (blt c0)).trans c0
    replace c1 := (hb7.cell (blt c1)).trans c1
    replace c2 := (hb7.cell (blt c2)).trans c2
    replace z0 := (hb7.frozen (blt r0)).trans z0
    replace r0 := (hb7.cell (blt r0)).trans r0
    replace z1 := (hb7.frozen (blt r1)).trans z1
    replace r1 := (hb7.cell (blt r1)).trans r1
    replace z2 := (hb7.frozen (blt r2)).trans z2
    replace r2 := (hb7.cell (blt r2)).trans r2
    replace hB := btr hB hb7
    clear hb7
    go_wp2
    have e0 : (((w7.setCell ⟨w.heap.size, 0, none⟩ (.int .i64 (b : Int))).setCell ⟨w.heap.size, 1, none⟩ (.int .i64 S)).setCell ⟨w.heap.size, 2, none⟩ (.string D)).cell? ⟨w.heap.size, 0, none⟩ = some (.int .i64 (b : Int)) := by go_simp
    have e1 : (((w7.setCell ⟨w.heap.size, 0, none⟩ (.int .i64 (b : Int))).setCell ⟨w.heap.size, 1, none⟩ (.int .i64 S)).setCell ⟨w.heap.size, 2, none⟩ (.string D)).cell? ⟨w.heap.size, 1, none⟩ = some (.int .i64 S) := by go_simp
    have e2 : (((w7.setCell ⟨w.heap.size, 0, none⟩ (.int .i64 (b : Int))).setCell ⟨w.heap.size, 1, none⟩ (.int .i64 S)).setCell ⟨w.heap.size, 2, none⟩ (.string D)).cell? ⟨w.heap.size, 2, none⟩ = some (.string D) := by go_simp
    have HE : Hid (Below w.heap.size w (((w7.setCell ⟨w.heap.size, 0, none⟩ (.int .i64 (b : Int))).setCell ⟨w.heap.size, 1, none⟩ (.int .i64 S)).setCell ⟨w.heap.size, 2, none⟩ (.string D))) := Lib.hid (by repeat' (first | exact hB | refine Below.setCell ?_ ?_ _ | (dsimp only; omega)))
    generalize (((w7.setCell ⟨w.heap.size, 0, none⟩ (.int .i64 (b : Int))).setCell ⟨w.heap.size, 1, none⟩ (.int .i64 S)).setCell ⟨w.heap.size, 2, none⟩ (.string D)) = ZZ at *
    have hl : (loadVar 23 ⟨w.heap.size, 0, none⟩).run Tryd.prog ZZ = .ok (.agg #[.int .i64 (b : Int), .int .i64 S, .string D]) ZZ := by simp [loadVar, isAgg, underlying, Tryd.underlying23, Result.andThen, loadCells, loadCellsFrom, Addr.add, e0, e1, e2]
    refine bodyPost_ret (results_cell2 rfl _ _ (by rfl) hl) rfl ?_
    exact ⟨rfl, HE.out⟩
  · refine AllReadyH.cons rfl (fun K' hK => ?_) AllReadyH.nil
    go_simp
    refine hK.out _ _ trivial (fun hHeld => ?_)
    clear hK K'
    try simp only [Act.put, List.setIfInBounds_toArray, List.set_cons_zero, List.set_cons_succ]
    have hwz : w.heap.size < Y.heap.size := blt r0
    have hb2n := below_alloc Y (.cells #[.int .i64 0, .int .i64 0, .string ⟨#[]⟩] 23)
    replace z0 := (hb2n.frozen (blt r0)).trans z0
    replace r0 := (hb2n.cell (blt r0)).trans r0
    replace z1 := (hb2n.frozen (blt r1)).trans z1
    replace r1 := (hb2n.cell (blt r1)).trans r1
    replace z2 := (hb2n.frozen (blt r2)).trans z2
    replace r2 := (hb2n.cell (blt r2)).trans r2
    replace hB := btr hB hb2n
    have c0 : (Y.alloc (.cells #[.int .i64 0, .int .i64 0, .string ⟨#[]⟩] 23)).cell? ⟨Y.heap.size, 0, none⟩ = some (.int .i64 0) := by go_simp
    have f0 : (Y.alloc (.cells #[.int .i64 0, .int .i64 0, .string ⟨#[]⟩] 23)).frozen? ⟨Y.heap.size, 0, none⟩ = false := by go_simp
    have c1 : (Y.alloc (.cells #[.int .i64 0, .int .i64 0, .string ⟨#[]⟩] 23)).cell? ⟨Y.heap.size, 1, none⟩ = some (.int .i64 0) := by go_simp
    have f1 : (Y.alloc (.cells #[.int .i64 0, .int .i64 0, .string ⟨#[]⟩] 23)).frozen? ⟨Y.heap.size, 1, none⟩ = false := by go_simp
    have c2 : (Y.alloc (.cells #[.int .i64 0, .int .i64 0, .string ⟨#[]⟩] 23)).cell? ⟨Y.heap.size, 2, none⟩ = some (.string ⟨#[]⟩) := by go_simp
    have f2 : (Y.alloc (.cells #[.int .i64 0, .int .i64 0, .string ⟨#[]⟩] 23)).frozen? ⟨Y.heap.size, 2, none⟩ = false := by go_simp
    clear hb2n
    generalize (Y.alloc (.cells #[.int .i64 0, .int .i64 0, .string ⟨#[]⟩] 23)) = Y1 at *
    generalize Y.heap.size = B9 at *
    refine wpAnyH_ready (rs := [5]) (by kernel_rfl) (by simp) ?_
    refine AllReadyH.cons rfl (fun K' hK => ?_) AllReadyH.nil
    go_simp
    go_at_call 22; (with_reducible refine (N1.out _).mono ?_); rintro e wn ⟨rfl, hbn⟩
    replace z0 := (hbn.frozen (blt r0)).trans z0
    replace r0 := (hbn.cell (blt r0)).trans r0
    replace z1 := (hbn.frozen (blt r1)).trans z1
    replace r1 := (hbn.cell (blt r1)).trans r1
    replace z2 := (hbn.frozen (blt r2)).trans z2
    replace r2 := (hbn.cell (blt r2)).trans r2
    replace hB := btr hB hbn
    replace f0 := (hbn.frozen (blt c0)).trans f0
    replace c0 := (hbn.cell (blt c0)).trans c0
    replace f1 := (hbn.frozen (blt c1)).trans f1
    replace c1 := (hbn.cell (blt c1)).trans c1
    replace f2 := (hbn.frozen (blt c2)).trans f2
    replace c2 := (hbn.cell (blt c2)).trans c2
    clear hbn
    refine hK.out _ _ trivial (fun hHeld => ?_)
    clear hK K'
    try simp only [Act.put, List.setIfInBounds_toArray, List.set_cons_zero, List.set_cons_succ]
    refine takeH (i := 10) (some 60) (v := ?_) rfl rfl (by kernel_rfl) (by kernel_rfl) (by kernel_rfl) (fun _ _ _ h => h) (Or.inl ⟨by rfl, ?hybq10⟩) hHeld ?restbq10
    case hybq10 => (intro w hSw; (try dsimp only at hSw); go_simp; (try with_reducible rfl))
    try simp only [Act.put, List.setIfInBounds_toArray, List.set_cons_zero, List.set_cons_succ]
    refine wpAnyH_ready (rs := [12]) (by kernel_rfl) (by simp) ?_
    refine AllReadyH.cons rfl (fun K' hK => ?_) AllReadyH.nil
    go_simp
    refine hK.out _ _ trivial (fun hHeld => ?_)
    clear hK K'
    try simp only [Act.put, List.setIfInBounds_toArray, List.set_cons_zero, List.set_cons_succ]
    refine wpAnyH_done (by kernel_rfl) ?_ _
    have hne : w.heap.size ≠ B9 := by omega
    have hne2 : B9 ≠ w.heap.size := by omega
    replace r0 : (((wn.setCell ⟨B9, 0, none⟩ (.int .i64 (b : Int))).setCell ⟨B9, 1, none⟩ (.int .i64 S)).setCell ⟨B9, 2, none⟩ (.string D)).cell? ⟨w.heap.size, 0, none⟩ = some (.int .i64 0) := by go_simp
    replace z0 : (((wn.setCell ⟨B9, 0, none⟩ (.int .i64 (b : Int))).setCell ⟨B9, 1, none⟩ (.int .i64 S)).setCell ⟨B9, 2, none⟩ (.string D)).frozen? ⟨w.heap.size, 0, none⟩ = false := by go_simp
    replace r1 : (((wn.setCell ⟨B9, 0, none⟩ (.int .i64 (b : Int))).setCell ⟨B9, 1, none⟩ (.int .i64 S)).setCell ⟨B9, 2, none⟩ (.string D)).cell? ⟨w.heap.size, 1, none⟩ = some (.int .i64 0) := by go_simp
    replace z1 : (((wn.setCell ⟨B9, 0, none⟩ (.int .i64 (b : Int))).setCell ⟨B9, 1, none⟩ (.int .i64 S)).setCell ⟨B9, 2, none⟩ (.string D)).frozen? ⟨w.heap.size, 1, none⟩ = false := by go_simp
    replace r2 : (((wn.setCell ⟨B9, 0, none⟩ (.int .i64 (b : Int))).setCell ⟨B9, 1, none⟩ (.int .i64 S)).setCell ⟨B9, 2, none⟩ (.string D)).cell? ⟨w.heap.size, 2, none⟩ = some (.string ⟨#[]⟩) := by go_simp
    replace z2 : (((wn.setCell ⟨B9, 0, none⟩ (.int .i64 (b : Int))).setCell ⟨B9, 1, none⟩ (.int .i64 S)).setCell ⟨B9, 2, none⟩ (.string D)).frozen? ⟨w.heap.size, 2, none⟩ = false := by go_simp
    replace hB : Below w.heap.size w (((wn.setCell ⟨B9, 0, none⟩ (.int .i64 (b : Int))).setCell ⟨B9, 1, none⟩ (.int .i64 S)).setCell ⟨B9, 2, none⟩ (.string D)) := by repeat' (first | exact hB | refine Below.setCell ?_ ?_ _ | (dsimp only; omega))
    clear f0 f1 f2
    have c0 : (((wn.setCell ⟨B9, 0, none⟩ (.int .i64 (b : Int))).setCell ⟨B9, 1, none⟩ (.int .i64 S)).setCell ⟨B9, 2, none⟩ (.string D)).cell? ⟨B9, 0, none⟩ = some (.int .i64 (b : Int)) := by go_simp
    have c1 : (((wn.setCell ⟨B9, 0, none⟩ (.int .i64 (b : Int))).setCell ⟨B9, 1, none⟩ (.int .i64 S)).setCell ⟨B9, 2, none⟩ (.string D)).cell? ⟨B9, 1, none⟩ = some (.int .i64 S) := by go_simp
    have c2 : (((wn.setCell ⟨B9, 0, none⟩ (.int .i64 (b : Int))).setCell ⟨B9, 1, none⟩ (.int .i64 S)).setCell ⟨B9, 2, none⟩ (.string D)).cell? ⟨B9, 2, none⟩ = some (.string D) := by go_simp
    generalize (((wn.setCell ⟨B9, 0, none⟩ (.int .i64 (b : Int))).setCell ⟨B9, 1, none⟩ (.int .i64 S)).setCell ⟨B9, 2, none⟩ (.string D)) = VV at *
    go_wp2_with fail
    refine (R1.out _).mono ?_; rintro e w7 ⟨rfl, hb7⟩
    replace c0 := (hb7.cell (blt c0)).trans c0
    replace c1 := (hb7.cell (blt c1)).trans c1
    replace c2 := (hb7.cell (blt c2)).trans c2
    replace z0 := (hb7.frozen (blt r0)).trans z0
    replace r0 := (hb7.cell (blt r0)).trans r0
    replace z1 := (hb7.frozen (blt r1)).trans z1
    replace r1 := (hb7.cell (blt r1)).trans r1
    replace z2 := (hb7.frozen (blt r2)).trans z2
    replace r2 := (hb7.cell (blt r2)).trans r2
    replace hB := btr hB hb7
    clear hb7
    go_wp2
    have e0 : (((w7.setCell ⟨w.heap.size, 0, none⟩ (.int .i64 (b : Int))).setCell ⟨w.heap.size, 1, none⟩ (.int .i64 S)).setCell ⟨w.heap.size, 2, none⟩ (.string D)).cell? ⟨w.heap.size, 0, none⟩ = some (.int .i64 (b : Int)) := by go_simp
    have e1 : (((w7.setCell ⟨w.heap.size, 0, none⟩ (.int .i64 (b : Int))).setCell ⟨w.heap.size, 1, none⟩ (.int .i64 S)).setCell ⟨w.heap.size, 2, none⟩ (.string D)).cell? ⟨w.heap.size, 1, none⟩ = some (.int .i64 S) := by go_simp
    have e2 : (((w7.setCell ⟨w.heap.size, 0, none⟩ (.int .i64 (b : Int))).setCell ⟨w.heap.size, 1, none⟩ (.int .i64 S)).setCell ⟨w.heap.size, 2, none⟩ (.string D)).cell? ⟨w.heap.size, 2, none⟩ = some (.string D) := by go_simp
    have HE : Hid (Below w.heap.size w (((w7.setCell ⟨w.heap.size, 0, none⟩ (.int .i64 (b : Int))).setCell ⟨w.heap.size, 1, none⟩ (.int .i64 S)).setCell ⟨w.heap.size, 2, none⟩ (.string D))) := Lib.hid (by repeat' (first | exact hB | refine Below.setCell ?_ ?_ _ | (dsimp only; omega)))
    generalize (((w7.setCell ⟨w.heap.size, 0, none⟩ (.int .i64 (b : Int))).setCell ⟨w.heap.size, 1, none⟩ (.int .i64 S)).setCell ⟨w.heap.size, 2, none⟩ (.string D)) = ZZ at *
    have hl : (loadVar 23 ⟨w.heap.size, 0, none⟩).run Tryd.prog ZZ = .ok (.agg #[.int .i64 (b : Int), .int .i64 S, .string D]) ZZ := by simp [loadVar, isAgg, underlying, Tryd.underlying23, Result.andThen, loadCells, loadCellsFrom, Addr.add, e0, e1, e2]
    refine bodyPost_ret (results_cell2 rfl _ _ (by rfl) hl) rfl ?_
    exact ⟨rfl, HE.out⟩
end Go.Proofs.YtdcnpcdohgecbaaDoor

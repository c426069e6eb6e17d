/- Meet, whole: their contracts. -/
import Derived.Test.YtlnjalhlbfbjcaaGreatDoorK
namespace Go.Proofs.YtlnjalhlbfbjcaaGreatDoor
open Go.RowKit Go.Shelf
attribute [local go_sem] Oper.semAt_some

theorem whole_c (w : World) : Calls Tryz.prog 21 #[] w fun x w' => x = .returned (.agg #[.int .i64 0, .int .i64 65535]) ∧ Below w.heap.size w w' := by
  go_enter Tryz.func21, Tryz.ntmps21
  go_wp2
  exact bodyPost_ret (v := .agg #[.int .i64 0, .int .i64 65535]) (by simp [results, Tryz.results21, go_sem]) rfl ⟨rfl, below_alloc _ _⟩

def meetB (F T G U : Int) : Bool := rightQ F T && (rightQ G U && decide (max F G ≤ min T U))
def meetF (F T G U : Int) : Int := if meetB F T G U = true then max F G else 0
def meetT (F T G U : Int) : Int := if meetB F T G U = true then min T U else 0

set_option maxRecDepth 100000 in
set_option maxHeartbeats 4000000 in
theorem meet_0 (F T G U : Int) (w : World) (h1 : rightQ F T = false) : Calls Tryz.prog 11 #[.agg #[.int .i64 F, .int .i64 T], .agg #[.int .i64 G, .int .i64 U]] w fun x w' => x = .returned (.tuple #[.agg #[.int .i64 0, .int .i64 0], .bool false]) ∧ Below w.heap.size w w' := by
  have C1 := fun W => rightQ_c F T W
  rw [h1] at C1
  replace C1 := Lib.hid C1
  clear h1
  generalize hM : max F G = M at *
  generalize hN : min T U = N at *
  go_enter Tryz.func11, Tryz.ntmps11
  go_wp2_with fail
  clear hM hN
  have g00 : ((((w.alloc (.cells #[.int .i64 F, .int .i64 T] 23)).alloc (.cells #[.int .i64 G, .int .i64 U] 23)).alloc (.cells #[.int .i64 0, .int .i64 0] 23)).alloc (.cells #[.int .i64 M, .int .i64 N] 23)).cell? ⟨w.heap.size + 1, 0, none⟩ = some (.int .i64 G) := by go_simp
  have g10 : ((((w.alloc (.cells #[.int .i64 F, .int .i64 T] 23)).alloc (.cells #[.int .i64 G, .int .i64 U] 23)).alloc (.cells #[.int .i64 0, .int .i64 0] 23)).alloc (.cells #[.int .i64 M, .int .i64 N] 23)).cell? ⟨w.heap.size + 1, 1, none⟩ = some (.int .i64 U) := by go_simp
  have m00 : ((((w.alloc (.cells #[.int .i64 F, .int .i64 T] 23)).alloc (.cells #[.int .i64 G, .int .i64 U] 23)).alloc (.cells #[.int .i64 0, .int .i64 0] 23)).alloc (.cells #[.int .i64 M, .int .i64 N] 23)).cell? ⟨w.heap.size + 1 + 1 + 1, 0, none⟩ = some (.int .i64 M) := by go_simp
  have m10 : ((((w.alloc (.cells #[.int .i64 F, .int .i64 T] 23)).alloc (.cells #[.int .i64 G, .int .i64 U] 23)).alloc (.cells #[.int .i64 0, .int .i64 0] 23)).alloc (.cells #[.int .i64 M, .int .i64 N] 23)).cell? ⟨w.heap.size + 1 + 1 + 1, 1, none⟩ = some (.int .i64 N) := by go_simp
  have r00 : ((((w.alloc (.cells #[.int .i64 F, .int .i64 T] 23)).alloc (.cells #[.int .i64 G, .int .i64 U] 23)).alloc (.cells #[.int .i64 0, .int .i64 0] 23)).alloc (.cells #[.int .i64 M, .int .i64 N] 23)).cell? ⟨w.heap.size + 1 + 1, 0, none⟩ = some (.int .i64 0) := by go_simp
  have r10 : ((((w.alloc (.cells #[.int .i64 F, .int .i64 T] 23)).alloc (.cells #[.int .i64 G, .int .i64 U] 23)).alloc (.cells #[.int .i64 0, .int .i64 0] 23)).alloc (.cells #[.int .i64 M, .int .i64 N] 23)).cell? ⟨w.heap.size + 1 + 1, 1, none⟩ = some (.int .i64 0) := by go_simp
  have q00 : ((((w.alloc (.cells #[.int .i64 F, .int .i64 T] 23)).alloc (.cells #[.int .i64 G, .int .i64 U] 23)).alloc (.cells #[.int .i64 0, .int .i64 0] 23)).alloc (.cells #[.int .i64 M, .int .i64 N] 23)).frozen? ⟨w.heap.size + 1 + 1, 0, none⟩ = false := by go_simp
  have q10 : ((((w.alloc (.cells #[.int .i64 F, .int .i64 T] 23)).alloc (.cells #[.int .i64 G, .int .i64 U] 23)).alloc (.cells #[.int .i64 0, .int .i64 0] 23)).alloc (.cells #[.int .i64 M, .int .i64 N] 23)).frozen? ⟨w.heap.size + 1 + 1, 1, none⟩ = false := by go_simp
  have sB0 : Below w.heap.size w ((((w.alloc (.cells #[.int .i64 F, .int .i64 T] 23)).alloc (.cells #[.int .i64 G, .int .i64 U] 23)).alloc (.cells #[.int .i64 0, .int .i64 0] 23)).alloc (.cells #[.int .i64 M, .int .i64 N] 23)) := bal (bal (bal (below_alloc _ _) _) _) _
  generalize ((((w.alloc (.cells #[.int .i64 F, .int .i64 T] 23)).alloc (.cells #[.int .i64 G, .int .i64 U] 23)).alloc (.cells #[.int .i64 0, .int .i64 0] 23)).alloc (.cells #[.int .i64 M, .int .i64 N] 23)) = w0 at *
  go_wp2_with (first | (go_at_call 13; with_reducible refine (C1.out _).mono ?_; rintro x w1 ⟨rfl, hB1⟩; have g01 : w1.cell? ⟨w.heap.size + 1, 0, none⟩ = some (.int .i64 G) := (hB1.cell (p := ⟨w.heap.size + 1, 0, none⟩) (blt g00)).trans g00; have g11 : w1.cell? ⟨w.heap.size + 1, 1, none⟩ = some (.int .i64 U) := (hB1.cell (p := ⟨w.heap.size + 1, 1, none⟩) (blt g10)).trans g10; have m01 : w1.cell? ⟨w.heap.size + 1 + 1 + 1, 0, none⟩ = some (.int .i64 M) := (hB1.cell (p := ⟨w.heap.size + 1 + 1 + 1, 0, none⟩) (blt m00)).trans m00; have m11 : w1.cell? ⟨w.heap.size + 1 + 1 + 1, 1, none⟩ = some (.int .i64 N) := (hB1.cell (p := ⟨w.heap.size + 1 + 1 + 1, 1, none⟩) (blt m10)).trans m10; have r01 : w1.cell? ⟨w.heap.size + 1 + 1, 0, none⟩ = some (.int .i64 0) := (hB1.cell (p := ⟨w.heap.size + 1 + 1, 0, none⟩) (blt r00)).trans r00; have r11 : w1.cell? ⟨w.heap.size + 1 + 1, 1, none⟩ = some (.int .i64 0) := (hB1.cell (p := ⟨w.heap.size + 1 + 1, 1, none⟩) (blt r10)).trans r10; have q01 : w1.frozen? ⟨w.heap.size + 1 + 1, 0, none⟩ = false := (hB1.frozen (p := ⟨w.heap.size + 1 + 1, 0, none⟩) (blt r00)).trans q00; have q11 : w1.frozen? ⟨w.heap.size + 1 + 1, 1, none⟩ = false := (hB1.frozen (p := ⟨w.heap.size + 1 + 1, 1, none⟩) (blt r00)).trans q10; have sB1 := btr sB0 hB1))
  exact bodyPost_ret (v := .tuple #[.agg #[.int .i64 0, .int .i64 0], .bool false]) (by simp [results, Tryz.results11, go_sem, r01, r11]) rfl ⟨rfl, (sB1.setCell (p := ⟨w.heap.size + 1 + 1, 0, none⟩) (show w.heap.size ≤ w.heap.size + 1 + 1 by omega) _).setCell (p := ⟨w.heap.size + 1 + 1, 1, none⟩) (show w.heap.size ≤ w.heap.size + 1 + 1 by omega) _⟩
set_option maxRecDepth 100000 in
set_option maxHeartbeats 4000000 in
theorem meet_1 (F T G U : Int) (w : World) (h1 : rightQ F T = true) (h2 : rightQ G U = false) : Calls Tryz.prog 11 #[.agg #[.int .i64 F, .int .i64 T], .agg #[.int .i64 G, .int .i64 U]] w fun x w' => x = .returned (.tuple #[.agg #[.int .i64 0, .int .i64 0], .bool false]) ∧ Below w.heap.size w w' := by
  have C1 := fun W => rightQ_c F T W
  rw [h1] at C1
  replace C1 := Lib.hid C1
  clear h1
  have C2 := fun W => rightQ_c G U W
  rw [h2] at C2
  replace C2 := Lib.hid C2
  clear h2
  generalize hM : max F G = M at *
  generalize hN : min T U = N at *
  go_enter Tryz.func11, Tryz.ntmps11
  go_wp2_with fail
  clear hM hN
  have g00 : ((((w.alloc (.cells #[.int .i64 F, .int .i64 T] 23)).alloc (.cells #[.int .i64 G, .int .i64 U] 23)).alloc (.cells #[.int .i64 0, .int .i64 0] 23)).alloc (.cells #[.int .i64 M, .int .i64 N] 23)).cell? ⟨w.heap.size + 1, 0, none⟩ = some (.int .i64 G) := by go_simp
  have g10 : ((((w.alloc (.cells #[.int .i64 F, .int .i64 T] 23)).alloc (.cells #[.int .i64 G, .int .i64 U] 23)).alloc (.cells #[.int .i64 0, .int .i64 0] 23)).alloc (.cells #[.int .i64 M, .int .i64 N] 23)).cell? ⟨w.heap.size + 1, 1, none⟩ = some (.int .i64 U) := by go_simp
  have m00 : ((((w.alloc (.cells #[.int .i64 F, .int .i64 T] 23)).alloc (.cells #[.int .i64 G, .int .i64 U] 23)).alloc (.cells #[.int .i64 0, .int .i64 0] 23)).alloc (.cells #[.int .i64 M, .int .i64 N] 23)).cell? ⟨w.heap.size + 1 + 1 + 1, 0, none⟩ = some (.int .i64 M) := by go_simp
  have m10 : ((((w.alloc (.cells #[.int .i64 F, .int .i64 T] 23)).alloc (.cells #[.int .i64 G, .int .i64 U] 23)).alloc (.cells #[.int .i64 0, .int .i64 0] 23)).alloc (.cells #[.int .i64 M, .int .i64 N] 23)).cell? ⟨w.heap.size + 1 + 1 + 1, 1, none⟩ = some (.int .i64 N) := by go_simp
  have r00 : ((((w.alloc (.cells #[.int .i64 F, .int .i64 T] 23)).alloc (.cells #[.int .i64 G, .int .i64 U] 23)).alloc (.cells #[.int .i64 0, .int .i64 0] 23)).alloc (.cells #[.int .i64 M, .int .i64 N] 23)).cell? ⟨w.heap.size + 1 + 1, 0, none⟩ = some (.int .i64 0) := by go_simp
  have r10 : ((((w.alloc (.cells #[.int .i64 F, .int .i64 T] 23)).alloc (.cells #[.int .i64 G, .int .i64 U] 23)).alloc (.cells #[.int .i64 0, .int .i64 0] 23)).alloc (.cells #[.int .i64 M, .int .i64 N] 23)).cell? ⟨w.heap.size + 1 + 1, 1, none⟩ = some (.int .i64 0) := by go_simp
  have q00 : ((((w.alloc (.cells #[.int .i64 F, .int .i64 T] 23)).alloc (.cells #[.int .i64 G, .int .i64 U] 23)).alloc (.cells #[.int .i64 0, .int .i64 0] 23)).alloc (.cells #[.int .i64 M, .int .i64 N] 23)).frozen? ⟨w.heap.size + 1 + 1, 0, none⟩ = false := by go_simp
  have q10 : ((((w.alloc (.cells #[.int .i64 F, .int .i64 T] 23)).alloc (.cells #[.int .i64 G, .int .i64 U] 23)).alloc (.cells #[.int .i64 0, .int .i64 0] 23)).alloc (.cells #[.int .i64 M, .int .i64 N] 23)).frozen? ⟨w.heap.size + 1 + 1, 1, none⟩ = false := by go_simp
  have sB0 : Below w.heap.size w ((((w.alloc (.cells #[.int .i64 F, .int .i64 T] 23)).alloc (.cells #[.int .i64 G, .int .i64 U] 23)).alloc (.cells #[.int .i64 0, .int .i64 0] 23)).alloc (.cells #[.int .i64 M, .int .i64 N] 23)) := bal (bal (bal (below_alloc _ _) _) _) _
  generalize ((((w.alloc (.cells #[.int .i64 F, .int .i64 T] 23)).alloc (.cells #[.int .i64 G, .int .i64 U] 23)).alloc (.cells #[.int .i64 0, .int .i64 0] 23)).alloc (.cells #[.int .i64 M, .int .i64 N] 23)) = w0 at *
  go_wp2_with (first | (go_at_call 13; with_reducible refine (C1.out _).mono ?_; rintro x w1 ⟨rfl, hB1⟩; have g01 : w1.cell? ⟨w.heap.size + 1, 0, none⟩ = some (.int .i64 G) := (hB1.cell (p := ⟨w.heap.size + 1, 0, none⟩) (blt g00)).trans g00; have g11 : w1.cell? ⟨w.heap.size + 1, 1, none⟩ = some (.int .i64 U) := (hB1.cell (p := ⟨w.heap.size + 1, 1, none⟩) (blt g10)).trans g10; have m01 : w1.cell? ⟨w.heap.size + 1 + 1 + 1, 0, none⟩ = some (.int .i64 M) := (hB1.cell (p := ⟨w.heap.size + 1 + 1 + 1, 0, none⟩) (blt m00)).trans m00; have m11 : w1.cell? ⟨w.heap.size + 1 + 1 + 1, 1, none⟩ = some (.int .i64 N) := (hB1.cell (p := ⟨w.heap.size + 1 + 1 + 1, 1, none⟩) (blt m10)).trans m10; have r01 : w1.cell? ⟨w.heap.size + 1 + 1, 0, none⟩ = some (.int .i64 0) := (hB1.cell (p := ⟨w.heap.size + 1 + 1, 0, none⟩) (blt r00)).trans r00; have r11 : w1.cell? ⟨w.heap.size + 1 + 1, 1, none⟩ = some (.int .i64 0) := (hB1.cell (p := ⟨w.heap.size + 1 + 1, 1, none⟩) (blt r10)).trans r10; have q01 : w1.frozen? ⟨w.heap.size + 1 + 1, 0, none⟩ = false := (hB1.frozen (p := ⟨w.heap.size + 1 + 1, 0, none⟩) (blt r00)).trans q00; have q11 : w1.frozen? ⟨w.heap.size + 1 + 1, 1, none⟩ = false := (hB1.frozen (p := ⟨w.heap.size + 1 + 1, 1, none⟩) (blt r00)).trans q10; have sB1 := btr sB0 hB1) | (go_at_call 13; with_reducible refine (C2.out _).mono ?_; rintro x w2 ⟨rfl, hB2⟩; have g02 : w2.cell? ⟨w.heap.size + 1, 0, none⟩ = some (.int .i64 G) := (hB2.cell (p := ⟨w.heap.size + 1, 0, none⟩) (blt g01)).trans g01; have g12 : w2.cell? ⟨w.heap.size + 1, 1, none⟩ = some (.int .i64 U) := (hB2.cell (p := ⟨w.heap.size + 1, 1, none⟩) (blt g11)).trans g11; have m02 : w2.cell? ⟨w.heap.size + 1 + 1 + 1, 0, none⟩ = some (.int .i64 M) := (hB2.cell (p := ⟨w.heap.size + 1 + 1 + 1, 0, none⟩) (blt m01)).trans m01; have m12 : w2.cell? ⟨w.heap.size + 1 + 1 + 1, 1, none⟩ = some (.int .i64 N) := (hB2.cell (p := ⟨w.heap.size + 1 + 1 + 1, 1, none⟩) (blt m11)).trans m11; have r02 : w2.cell? ⟨w.heap.size + 1 + 1, 0, none⟩ = some (.int .i64 0) := (hB2.cell (p := ⟨w.heap.size + 1 + 1, 0, none⟩) (blt r01)).trans r01; have r12 : w2.cell? ⟨w.heap.size + 1 + 1, 1, none⟩ = some (.int .i64 0) := (hB2.cell (p := ⟨w.heap.size + 1 + 1, 1, none⟩) (blt r11)).trans r11; have q02 : w2.frozen? ⟨w.heap.size + 1 + 1, 0, none⟩ = false := (hB2.frozen (p := ⟨w.heap.size + 1 + 1, 0, none⟩) (blt r01)).trans q01; have q12 : w2.frozen? ⟨w.heap.size + 1 + 1, 1, none⟩ = false := (hB2.frozen (p := ⟨w.heap.size + 1 + 1, 1, none⟩) (blt r01)).trans q11; have sB2 := btr sB1 hB2))
  exact bodyPost_ret (v := .tuple #[.agg #[.int .i64 0, .int .i64 0], .bool false]) (by simp [results, Tryz.results11, go_sem, r02, r12]) rfl ⟨rfl, (sB2.setCell (p := ⟨w.heap.size + 1 + 1, 0, none⟩) (show w.heap.size ≤ w.heap.size + 1 + 1 by omega) _).setCell (p := ⟨w.heap.size + 1 + 1, 1, none⟩) (show w.heap.size ≤ w.heap.size + 1 + 1 by omega) _⟩
set_option maxRecDepth 100000 in
set_option maxHeartbeats 4000000 in
theorem meet_2 (F T G U : Int) (w : World) (h1 : rightQ F T = true) (h2 : rightQ G U = true) (h3 : min T U < max F G) : Calls Tryz.prog 11 #[.agg #[.int .i64 F, .int .i64 T], .agg #[.int .i64 G, .int .i64 U]] w fun x w' => x = .returned (.tuple #[.agg #[.int .i64 0, .int .i64 0], .bool false]) ∧ Below w.heap.size w w' := by
  have C1 := fun W => rightQ_c F T W
  rw [h1] at C1
  replace C1 := Lib.hid C1
  clear h1
  have C2 := fun W => rightQ_c G U W
  rw [h2] at C2
  replace C2 := Lib.hid C2
  clear h2
  generalize hM : max F G = M at *
  generalize hN : min T U = N at *
  go_enter Tryz.func11, Tryz.ntmps11
  go_wp2_with fail
  clear hM hN
  have g00 : ((((w.alloc (.cells #[.int .i64 F, .int .i64 T] 23)).alloc (.cells #[.int .i64 G, .int .i64 U] 23)).alloc (.cells #[.int .i64 0, .int .i64 0] 23)).alloc (.cells #[.int .i64 M, .int .i64 N] 23)).cell? ⟨w.heap.size + 1, 0, none⟩ = some (.int .i64 G) := by go_simp
  have g10 : ((((w.alloc (.cells #[.int .i64 F, .int .i64 T] 23)).alloc (.cells #[.int .i64 G, .int .i64 U] 23)).alloc (.cells #[.int .i64 0, .int .i64 0] 23)).alloc (.cells #[.int .i64 M, .int .i64 N] 23)).cell? ⟨w.heap.size + 1, 1, none⟩ = some (.int .i64 U) := by go_simp
  have m00 : ((((w.alloc (.cells #[.int .i64 F, .int .i64 T] 23)).alloc (.cells #[.int .i64 G, .int .i64 U] 23)).alloc (.cells #[.int .i64 0, .int .i64 0] 23)).alloc (.cells #[.int .i64 M, .int .i64 N] 23)).cell? ⟨w.heap.size + 1 + 1 + 1, 0, none⟩ = some (.int .i64 M) := by go_simp
  have m10 : ((((w.alloc (.cells #[.int .i64 F, .int .i64 T] 23)).alloc (.cells #[.int .i64 G, .int .i64 U] 23)).alloc (.cells #[.int .i64 0, .int .i64 0] 23)).alloc (.cells #[.int .i64 M, .int .i64 N] 23)).cell? ⟨w.heap.size + 1 + 1 + 1, 1, none⟩ = some (.int .i64 N) := by go_simp
  have r00 : ((((w.alloc (.cells #[.int .i64 F, .int .i64 T] 23)).alloc (.cells #[.int .i64 G, .int .i64 U] 23)).alloc (.cells #[.int .i64 0, .int .i64 0] 23)).alloc (.cells #[.int .i64 M, .int .i64 N] 23)).cell? ⟨w.heap.size + 1 + 1, 0, none⟩ = some (.int .i64 0) := by go_simp
  have r10 : ((((w.alloc (.cells #[.int .i64 F, .int .i64 T] 23)).alloc (.cells #[.int .i64 G, .int .i64 U] 23)).alloc (.cells #[.int .i64 0, .int .i64 0] 23)).alloc (.cells #[.int .i64 M, .int .i64 N] 23)).cell? ⟨w.heap.size + 1 + 1, 1, none⟩ = some (.int .i64 0) := by go_simp
  have q00 : ((((w.alloc (.cells #[.int .i64 F, .int .i64 T] 23)).alloc (.cells #[.int .i64 G, .int .i64 U] 23)).alloc (.cells #[.int .i64 0, .int .i64 0] 23)).alloc (.cells #[.int .i64 M, .int .i64 N] 23)).frozen? ⟨w.heap.size + 1 + 1, 0, none⟩ = false := by go_simp
  have q10 : ((((w.alloc (.cells #[.int .i64 F, .int .i64 T] 23)).alloc (.cells #[.int .i64 G, .int .i64 U] 23)).alloc (.cells #[.int .i64 0, .int .i64 0] 23)).alloc (.cells #[.int .i64 M, .int .i64 N] 23)).frozen? ⟨w.heap.size + 1 + 1, 1, none⟩ = false := by go_simp
  have sB0 : Below w.heap.size w ((((w.alloc (.cells #[.int .i64 F, .int .i64 T] 23)).alloc (.cells #[.int .i64 G, .int .i64 U] 23)).alloc (.cells #[.int .i64 0, .int .i64 0] 23)).alloc (.cells #[.int .i64 M, .int .i64 N] 23)) := bal (bal (bal (below_alloc _ _) _) _) _
  generalize ((((w.alloc (.cells #[.int .i64 F, .int .i64 T] 23)).alloc (.cells #[.int .i64 G, .int .i64 U] 23)).alloc (.cells #[.int .i64 0, .int .i64 0] 23)).alloc (.cells #[.int .i64 M, .int .i64 N] 23)) = w0 at *
  go_wp2_with (first | (go_at_call 13; with_reducible refine (C1.out _).mono ?_; rintro x w1 ⟨rfl, hB1⟩; have g01 : w1.cell? ⟨w.heap.size + 1, 0, none⟩ = some (.int .i64 G) := (hB1.cell (p := ⟨w.heap.size + 1, 0, none⟩) (blt g00)).trans g00; have g11 : w1.cell? ⟨w.heap.size + 1, 1, none⟩ = some (.int .i64 U) := (hB1.cell (p := ⟨w.heap.size + 1, 1, none⟩) (blt g10)).trans g10; have m01 : w1.cell? ⟨w.heap.size + 1 + 1 + 1, 0, none⟩ = some (.int .i64 M) := (hB1.cell (p := ⟨w.heap.size + 1 + 1 + 1, 0, none⟩) (blt m00)).trans m00; have m11 : w1.cell? ⟨w.heap.size + 1 + 1 + 1, 1, none⟩ = some (.int .i64 N) := (hB1.cell (p := ⟨w.heap.size + 1 + 1 + 1, 1, none⟩) (blt m10)).trans m10; have r01 : w1.cell? ⟨w.heap.size + 1 + 1, 0, none⟩ = some (.int .i64 0) := (hB1.cell (p := ⟨w.heap.size + 1 + 1, 0, none⟩) (blt r00)).trans r00; have r11 : w1.cell? ⟨w.heap.size + 1 + 1, 1, none⟩ = some (.int .i64 0) := (hB1.cell (p := ⟨w.heap.size + 1 + 1, 1, none⟩) (blt r10)).trans r10; have q01 : w1.frozen? ⟨w.heap.size + 1 + 1, 0, none⟩ = false := (hB1.frozen (p := ⟨w.heap.size + 1 + 1, 0, none⟩) (blt r00)).trans q00; have q11 : w1.frozen? ⟨w.heap.size + 1 + 1, 1, none⟩ = false := (hB1.frozen (p := ⟨w.heap.size + 1 + 1, 1, none⟩) (blt r00)).trans q10; have sB1 := btr sB0 hB1) | (go_at_call 13; with_reducible refine (C2.out _).mono ?_; rintro x w2 ⟨rfl, hB2⟩; have g02 : w2.cell? ⟨w.heap.size + 1, 0, none⟩ = some (.int .i64 G) := (hB2.cell (p := ⟨w.heap.size + 1, 0, none⟩) (blt g01)).trans g01; have g12 : w2.cell? ⟨w.heap.size + 1, 1, none⟩ = some (.int .i64 U) := (hB2.cell (p := ⟨w.heap.size + 1, 1, none⟩) (blt g11)).trans g11; have m02 : w2.cell? ⟨w.heap.size + 1 + 1 + 1, 0, none⟩ = some (.int .i64 M) := (hB2.cell (p := ⟨w.heap.size + 1 + 1 + 1, 0, none⟩) (blt m01)).trans m01; have m12 : w2.cell? ⟨w.heap.size + 1 + 1 + 1, 1, none⟩ = some (.int .i64 N) := (hB2.cell (p := ⟨w.heap.size + 1 + 1 + 1, 1, none⟩) (blt m11)).trans m11; have r02 : w2.cell? ⟨w.heap.size + 1 + 1, 0, none⟩ = some (.int .i64 0) := (hB2.cell (p := ⟨w.heap.size + 1 + 1, 0, none⟩) (blt r01)).trans r01; have r12 : w2.cell? ⟨w.heap.size + 1 + 1, 1, none⟩ = some (.int .i64 0) := (hB2.cell (p := ⟨w.heap.size + 1 + 1, 1, none⟩) (blt r11)).trans r11; have q02 : w2.frozen? ⟨w.heap.size + 1 + 1, 0, none⟩ = false := (hB2.frozen (p := ⟨w.heap.size + 1 + 1, 0, none⟩) (blt r01)).trans q01; have q12 : w2.frozen? ⟨w.heap.size + 1 + 1, 1, none⟩ = false := (hB2.frozen (p := ⟨w.heap.size + 1 + 1, 1, none⟩) (blt r01)).trans q11; have sB2 := btr sB1 hB2))
  exact bodyPost_ret (v := .tuple #[.agg #[.int .i64 0, .int .i64 0], .bool false]) (by simp [results, Tryz.results11, go_sem, r02, r12]) rfl ⟨rfl, (sB2.setCell (p := ⟨w.heap.size + 1 + 1, 0, none⟩) (show w.heap.size ≤ w.heap.size + 1 + 1 by omega) _).setCell (p := ⟨w.heap.size + 1 + 1, 1, none⟩) (show w.heap.size ≤ w.heap.size + 1 + 1 by omega) _⟩
set_option maxRecDepth 100000 in
set_option maxHeartbeats 4000000 in
theorem meet_3 (F T G U : Int) (w : World) (h1 : rightQ F T = true) (h2 : rightQ G U = true) (h3 : ¬ min T U < max F G) : Calls Tryz.prog 11 #[.agg #[.int .i64 F, .int .i64 T], .agg #[.int .i64 G, .int .i64 U]] w fun x w' => x = .returned (.tuple #[.agg #[.int .i64 (max F G), .int .i64 (min T U)], .bool true]) ∧ Below w.heap.size w w' := by
  have C1 := fun W => rightQ_c F T W
  rw [h1] at C1
  replace C1 := Lib.hid C1
  clear h1
  have C2 := fun W => rightQ_c G U W
  rw [h2] at C2
  replace C2 := Lib.hid C2
  clear h2
  generalize hM : max F G = M at *
  generalize hN : min T U = N at *
  go_enter Tryz.func11, Tryz.ntmps11
  go_wp2_with fail
  clear hM hN
  have g00 : ((((w.alloc (.cells #[.int .i64 F, .int .i64 T] 23)).alloc (.cells #[.int .i64 G, .int .i64 U] 23)).alloc (.cells #[.int .i64 0, .int .i64 0] 23)).alloc (.cells #[.int .i64 M, .int .i64 N] 23)).cell? ⟨w.heap.size + 1, 0, none⟩ = some (.int .i64 G) := by go_simp
  have g10 : ((((w.alloc (.cells #[.int .i64 F, .int .i64 T] 23)).alloc (.cells #[.int .i64 G, .int .i64 U] 23)).alloc (.cells #[.int .i64 0, .int .i64 0] 23)).alloc (.cells #[.int .i64 M, .int .i64 N] 23)).cell? ⟨w.heap.size + 1, 1, none⟩ = some (.int .i64 U) := by go_simp
  have m00 : ((((w.alloc (.cells #[.int .i64 F, .int .i64 T] 23)).alloc (.cells #[.int .i64 G, .int .i64 U] 23)).alloc (.cells #[.int .i64 0, .int .i64 0] 23)).alloc (.cells #[.int .i64 M, .int .i64 N] 23)).cell? ⟨w.heap.size + 1 + 1 + 1, 0, none⟩ = some (.int .i64 M) := by go_simp
  have m10 : ((((w.alloc (.cells #[.int .i64 F, .int .i64 T] 23)).alloc (.cells #[.int .i64 G, .int .i64 U] 23)).alloc (.cells #[.int .i64 0, .int .i64 0] 23)).alloc (.cells #[.int .i64 M, .int .i64 N] 23)).cell? ⟨w.heap.size + 1 + 1 + 1, 1, none⟩ = some (.int .i64 N) := by go_simp
  have r00 : ((((w.alloc (.cells #[.int .i64 F, .int .i64 T] 23)).alloc (.cells #[.int .i64 G, .int .i64 U] 23)).alloc (.cells #[.int .i64 0, .int .i64 0] 23)).alloc (.cells #[.int .i64 M, .int .i64 N] 23)).cell? ⟨w.heap.size + 1 + 1, 0, none⟩ = some (.int .i64 0) := by go_simp
  have r10 : ((((w.alloc (.cells #[.int .i64 F, .int .i64 T] 23)).alloc (.cells #[.int .i64 G, .int .i64 U] 23)).alloc (.cells #[.int .i64 0, .int .i64 0] 23)).alloc (.cells #[.int .i64 M, .int .i64 N] 23)).cell? ⟨w.heap.size + 1 + 1, 1, none⟩ = some (.int .i64 0) := by go_simp
  have q00 : ((((w.alloc (.cells #[.int .i64 F, .int .i64 T] 23)).alloc (.cells #[.int .i64 G, .int .i64 U] 23)).alloc (.cells #[.int .i64 0, .int .i64 0] 23)).alloc (.cells #[.int .i64 M, .int .i64 N] 23)).frozen? ⟨w.heap.size + 1 + 1, 0, none⟩ = false := by go_simp
  have q10 : ((((w.alloc (.cells #[.int .i64 F, .int .i64 T] 23)).alloc (.cells #[.int .i64 G, .int .i64 U] 23)).alloc (.cells #[.int .i64 0, .int .i64 0] 23)).alloc (.cells #[.int .i64 M, .int .i64 N] 23)).frozen? ⟨w.heap.size + 1 + 1, 1, none⟩ = false := by go_simp
  have sB0 : Below w.heap.size w ((((w.alloc (.cells #[.int .i64 F, .int .i64 T] 23)).alloc (.cells #[.int .i64 G, .int .i64 U] 23)).alloc (.cells #[.int .i64 0, .int .i64 0] 23)).alloc (.cells #[.int .i64 M, .int .i64 N] 23)) := bal (bal (bal (below_alloc _ _) _) _) _
  generalize ((((w.alloc (.cells #[.int .i64 F, .int .i64 T] 23)).alloc (.cells #[.int .i64 G, .int .i64 U] 23)).alloc (.cells #[.int .i64 0, .int .i64 0] 23)).alloc (.cells #[.int .i64 M, .int .i64 N] 23)) = w0 at *
  go_wp2_with (first | (go_at_call 13; with_reducible refine (C1.out _).mono ?_; rintro x w1 ⟨rfl, hB1⟩; have g01 : w1.cell? ⟨w.heap.size + 1, 0, none⟩ = some (.int .i64 G) := (hB1.cell (p := ⟨w.heap.size + 1, 0, none⟩) (blt g00)).trans g00; have g11 : w1.cell? ⟨w.heap.size + 1, 1, none⟩ = some (.int .i64 U) := (hB1.cell (p := ⟨w.heap.size + 1, 1, none⟩) (blt g10)).trans g10; have m01 : w1.cell? ⟨w.heap.size + 1 + 1 + 1, 0, none⟩ = some (.int .i64 M) := (hB1.cell (p := ⟨w.heap.size + 1 + 1 + 1, 0, none⟩) (blt m00)).trans m00; have m11 : w1.cell? ⟨w.heap.size + 1 + 1 + 1, 1, none⟩ = some (.int .i64 N) := (hB1.cell (p := ⟨w.heap.size + 1 + 1 + 1, 1, none⟩) (blt m10)).trans m10; have r01 : w1.cell? ⟨w.heap.size + 1 + 1, 0, none⟩ = some (.int .i64 0) := (hB1.cell (p := ⟨w.heap.size + 1 + 1, 0, none⟩) (blt r00)).trans r00; have r11 : w1.cell? ⟨w.heap.size + 1 + 1, 1, none⟩ = some (.int .i64 0) := (hB1.cell (p := ⟨w.heap.size + 1 + 1, 1, none⟩) (blt r10)).trans r10; have q01 : w1.frozen? ⟨w.heap.size + 1 + 1, 0, none⟩ = false := (hB1.frozen (p := ⟨w.heap.size + 1 + 1, 0, none⟩) (blt r00)).trans q00; have q11 : w1.frozen? ⟨w.heap.size + 1 + 1, 1, none⟩ = false := (hB1.frozen (p := ⟨w.heap.size + 1 + 1, 1, none⟩) (blt r00)).trans q10; have sB1 := btr sB0 hB1) | (go_at_call 13; with_reducible refine (C2.out _).mono ?_; rintro x w2 ⟨rfl, hB2⟩; have g02 : w2.cell? ⟨w.heap.size + 1, 0, none⟩ = some (.int .i64 G) := (hB2.cell (p := ⟨w.heap.size + 1, 0, none⟩) (blt g01)).trans g01; have g12 : w2.cell? ⟨w.heap.size + 1, 1, none⟩ = some (.int .i64 U) := (hB2.cell (p := ⟨w.heap.size + 1, 1, none⟩) (blt g11)).trans g11; have m02 : w2.cell? ⟨w.heap.size + 1 + 1 + 1, 0, none⟩ = some (.int .i64 M) := (hB2.cell (p := ⟨w.heap.size + 1 + 1 + 1, 0, none⟩) (blt m01)).trans m01; have m12 : w2.cell? ⟨w.heap.size + 1 + 1 + 1, 1, none⟩ = some (.int .i64 N) := (hB2.cell (p := ⟨w.heap.size + 1 + 1 + 1, 1, none⟩) (blt m11)).trans m11; have r02 : w2.cell? ⟨w.heap.size + 1 + 1, 0, none⟩ = some (.int .i64 0) := (hB2.cell (p := ⟨w.heap.size + 1 + 1, 0, none⟩) (blt r01)).trans r01; have r12 : w2.cell? ⟨w.heap.size + 1 + 1, 1, none⟩ = some (.int .i64 0) := (hB2.cell (p := ⟨w.heap.size + 1 + 1, 1, none⟩) (blt r11)).trans r11; have q02 : w2.frozen? ⟨w.heap.size + 1 + 1, 0, none⟩ = false := (hB2.frozen (p := ⟨w.heap.size + 1 + 1, 0, none⟩) (blt r01)).trans q01; have q12 : w2.frozen? ⟨w.heap.size + 1 + 1, 1, none⟩ = false := (hB2.frozen (p := ⟨w.heap.size + 1 + 1, 1, none⟩) (blt r01)).trans q11; have sB2 := btr sB1 hB2))
  exact bodyPost_ret (v := .tuple #[.agg #[.int .i64 M, .int .i64 N], .bool true]) (by simp [results, Tryz.results11, go_sem, r02, r12]) rfl ⟨rfl, (sB2.setCell (p := ⟨w.heap.size + 1 + 1, 0, none⟩) (show w.heap.size ≤ w.heap.size + 1 + 1 by omega) _).setCell (p := ⟨w.heap.size + 1 + 1, 1, none⟩) (show w.heap.size ≤ w.heap.size + 1 + 1 by omega) _⟩
theorem meet_c (F T G U : Int) (w : World) : Calls Tryz.prog 11 #[.agg #[.int .i64 F, .int .i64 T], .agg #[.int .i64 G, .int .i64 U]] w fun x w' => x = .returned (.tuple #[.agg #[.int .i64 (meetF F T G U), .int .i64 (meetT F T G U)], .bool (meetB F T G U)]) ∧ Below w.heap.size w w' := by
  unfold meetF meetT
  cases h1 : rightQ F T with
  | false => rw [show meetB F T G U = false by simp [meetB, h1]]; exact meet_0 F T G U w h1
  | true =>
    cases h2 : rightQ G U with
    | false => rw [show meetB F T G U = false by simp [meetB, h2]]; exact meet_1 F T G U w h1 h2
    | true =>
      by_cases h3 : min T U < max F G
      · rw [show meetB F T G U = false by unfold meetB; rw [decide_eq_false (by omega)]; simp]; exact meet_2 F T G U w h1 h2 h3
      · rw [show meetB F T G U = true by unfold meetB; rw [h1, h2, decide_eq_true (by omega)]; rfl]; exact meet_3 F T G U w h1 h2 h3
end Go.Proofs.YtlnjalhlbfbjcaaGreatDoor

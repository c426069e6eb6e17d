/- The document's own Right, Has, Meet, Print, PrintTarget: their contracts. -/
import Derived.Test.YtlnjalhlbfbjcaaGreatDoorRF
namespace Go.Proofs.YtlnjalhlbfbjcaaGreatDoor
open Go.RowKit Go.Shelf
attribute [local go_sem] Oper.semAt_some

theorem rright7_c (F T : Int) (w : World) : Calls Tryz.prog 14 #[.agg #[.int .i64 F, .int .i64 T]] w fun x w' => x = .returned (.bool (rightQ F T)) ∧ Below w.heap.size w w' := by
  by_cases h : 0 ≤ F
  · by_cases h' : F ≤ T
    · by_cases h2 : T ≤ 65535
      · have e : rightQ F T = true := rightQ_iff.2 ⟨h, h', h2⟩
        go_enter Tryz.func14, Tryz.ntmps14
        go_wp2
        go_ret
        exact ⟨ret_bool (by first | rfl | exact e.symm | (rw [e]; simp; done) | (rw [e]; simp; omega)), below_alloc _ _⟩
      · have e : rightQ F T = false := by simp [rightQ, h2]
        go_enter Tryz.func14, Tryz.ntmps14
        go_wp2
        go_ret
        exact ⟨ret_bool (by first | rfl | exact e.symm | (rw [e]; simp; done) | (rw [e]; simp; omega)), below_alloc _ _⟩
    · have e : rightQ F T = false := by simp [rightQ, risB, h']
      go_enter Tryz.func14, Tryz.ntmps14
      go_wp2
      go_ret
      exact ⟨ret_bool (by first | rfl | rw [e] | exact e.symm), below_alloc _ _⟩
  · have e : rightQ F T = false := by simp [rightQ, risB, h]
    go_enter Tryz.func14, Tryz.ntmps14
    go_wp2
    go_ret
    exact ⟨ret_bool (by first | rfl | rw [e] | exact e.symm), below_alloc _ _⟩
set_option maxRecDepth 100000 in
theorem rhas7_c (F T n : Int) (w : World) : Calls Tryz.prog 16 #[.agg #[.int .i64 F, .int .i64 T], .int .i64 n] w fun x w' => x = .returned (.bool (hasQ F T n)) ∧ Below w.heap.size w w' := by
  have G1 := fun W => rright7_c F T W
  unfold hasQ
  cases hk : rightQ F T with
  | false =>
    rw [hk] at G1
    simp only [Bool.false_and]
    have C1 := Lib.hid G1
    clear G1 hk
    go_enter Tryz.func16, Tryz.ntmps16
    go_wp2_with (go_at_call 14; refine (C1.out _).mono ?_; rintro x w1 ⟨rfl, hB1⟩)
    go_ret
    exact ⟨ret_bool (by first | rfl | (simp <;> omega)), btr (below_alloc _ _) hB1⟩
  | true =>
    rw [hk] at G1
    simp only [Bool.true_and]
    have C1 := Lib.hid G1
    clear G1 hk
    by_cases h1 : F ≤ n
    · by_cases h2 : n ≤ T
      · have e : (decide (F ≤ n) && decide (n ≤ T)) = true := by simp [h1, h2]
        rw [e]
        clear e
        go_enter Tryz.func16, Tryz.ntmps16
        go_wp2_with (go_at_call 14; refine (C1.out _).mono ?_; rintro x w1 ⟨rfl, hB1⟩; have z0 : w1.cell? ⟨w.heap.size, 0, none⟩ = some (.int .i64 F) := (hB1.cell (p := ⟨w.heap.size, 0, none⟩) (by simp)).trans (by go_simp); have z1 : w1.cell? ⟨w.heap.size, 1, none⟩ = some (.int .i64 T) := (hB1.cell (p := ⟨w.heap.size, 1, none⟩) (by simp)).trans (by go_simp))
        go_ret
        exact ⟨ret_bool (by first | rfl | (simp <;> omega)), btr (below_alloc _ _) hB1⟩
      · have e : (decide (F ≤ n) && decide (n ≤ T)) = false := by simp [h2]
        rw [e]
        clear e
        go_enter Tryz.func16, Tryz.ntmps16
        go_wp2_with (go_at_call 14; refine (C1.out _).mono ?_; rintro x w1 ⟨rfl, hB1⟩; have z0 : w1.cell? ⟨w.heap.size, 0, none⟩ = some (.int .i64 F) := (hB1.cell (p := ⟨w.heap.size, 0, none⟩) (by simp)).trans (by go_simp); have z1 : w1.cell? ⟨w.heap.size, 1, none⟩ = some (.int .i64 T) := (hB1.cell (p := ⟨w.heap.size, 1, none⟩) (by simp)).trans (by go_simp))
        go_ret
        exact ⟨ret_bool (by first | rfl | (simp <;> omega)), btr (below_alloc _ _) hB1⟩
    · have e : (decide (F ≤ n) && decide (n ≤ T)) = false := by simp [h1]
      rw [e]
      clear e
      go_enter Tryz.func16, Tryz.ntmps16
      go_wp2_with (go_at_call 14; refine (C1.out _).mono ?_; rintro x w1 ⟨rfl, hB1⟩; have z0 : w1.cell? ⟨w.heap.size, 0, none⟩ = some (.int .i64 F) := (hB1.cell (p := ⟨w.heap.size, 0, none⟩) (by simp)).trans (by go_simp); have z1 : w1.cell? ⟨w.heap.size, 1, none⟩ = some (.int .i64 T) := (hB1.cell (p := ⟨w.heap.size, 1, none⟩) (by simp)).trans (by go_simp))
      go_ret
      exact ⟨ret_bool (by first | rfl | (simp <;> omega)), btr (below_alloc _ _) hB1⟩

set_option maxRecDepth 100000 in
set_option maxHeartbeats 4000000 in
theorem rmeet7_0 (F T G U : Int) (w : World) (h1 : rightQ F T = false) : Calls Tryz.prog 12 #[.agg #[.int .i64 F, .int .i64 T], .agg #[.int .i64 G, .int .i64 U]] w fun x w' => x = .returned (.tuple #[.agg #[.int .i64 0, .int .i64 0], .bool false]) ∧ Below w.heap.size w w' := by
  have C1 := fun W => rright7_c F T W
  rw [h1] at C1
  replace C1 := Lib.hid C1
  clear h1
  generalize hM : max F G = M at *
  generalize hN : min T U = N at *
  go_enter Tryz.func12, Tryz.ntmps12
  go_wp2_with fail
  clear hM hN
  have g00 : ((((w.alloc (.cells #[.int .i64 F, .int .i64 T] 23)).alloc (.cells #[.int .i64 G, .int .i64 U] 23)).alloc (.cells #[.int .i64 0, .int .i64 0] 23)).alloc (.cells #[.int .i64 M, .int .i64 N] 23)).cell? ⟨w.heap.size + 1, 0, none⟩ = some (.int .i64 G) := by go_simp
  have g10 : ((((w.alloc (.cells #[.int .i64 F, .int .i64 T] 23)).alloc (.cells #[.int .i64 G, .int .i64 U] 23)).alloc (.cells #[.int .i64 0, .int .i64 0] 23)).alloc (.cells #[.int .i64 M, .int .i64 N] 23)).cell? ⟨w.heap.size + 1, 1, none⟩ = some (.int .i64 U) := by go_simp
  have m00 : ((((w.alloc (.cells #[.int .i64 F, .int .i64 T] 23)).alloc (.cells #[.int .i64 G, .int .i64 U] 23)).alloc (.cells #[.int .i64 0, .int .i64 0] 23)).alloc (.cells #[.int .i64 M, .int .i64 N] 23)).cell? ⟨w.heap.size + 1 + 1 + 1, 0, none⟩ = some (.int .i64 M) := by go_simp
  have m10 : ((((w.alloc (.cells #[.int .i64 F, .int .i64 T] 23)).alloc (.cells #[.int .i64 G, .int .i64 U] 23)).alloc (.cells #[.int .i64 0, .int .i64 0] 23)).alloc (.cells #[.int .i64 M, .int .i64 N] 23)).cell? ⟨w.heap.size + 1 + 1 + 1, 1, none⟩ = some (.int .i64 N) := by go_simp
  have r00 : ((((w.alloc (.cells #[.int .i64 F, .int .i64 T] 23)).alloc (.cells #[.int .i64 G, .int .i64 U] 23)).alloc (.cells #[.int .i64 0, .int .i64 0] 23)).alloc (.cells #[.int .i64 M, .int .i64 N] 23)).cell? ⟨w.heap.size + 1 + 1, 0, none⟩ = some (.int .i64 0) := by go_simp
  have r10 : ((((w.alloc (.cells #[.int .i64 F, .int .i64 T] 23)).alloc (.cells #[.int .i64 G, .int .i64 U] 23)).alloc (.cells #[.int .i64 0, .int .i64 0] 23)).alloc (.cells #[.int .i64 M, .int .i64 N] 23)).cell? ⟨w.heap.size + 1 + 1, 1, none⟩ = some (.int .i64 0) := by go_simp
  have q00 : ((((w.alloc (.cells #[.int .i64 F, .int .i64 T] 23)).alloc (.cells #[.int .i64 G, .int .i64 U] 23)).alloc (.cells #[.int .i64 0, .int .i64 0] 23)).alloc (.cells #[.int .i64 M, .int .i64 N] 23)).frozen? ⟨w.heap.size + 1 + 1, 0, none⟩ = false := by go_simp
  have q10 : ((((w.alloc (.cells #[.int .i64 F, .int .i64 T] 23)).alloc (.cells #[.int .i64 G, .int .i64 U] 23)).alloc (.cells #[.int .i64 0, .int .i64 0] 23)).alloc (.cells #[.int .i64 M, .int .i64 N] 23)).frozen? ⟨w.heap.size + 1 + 1, 1, none⟩ = false := by go_simp
  have sB0 : Below w.heap.size w ((((w.alloc (.cells #[.int .i64 F, .int .i64 T] 23)).alloc (.cells #[.int .i64 G, .int .i64 U] 23)).alloc (.cells #[.int .i64 0, .int .i64 0] 23)).alloc (.cells #[.int .i64 M, .int .i64 N] 23)) := bal (bal (bal (below_alloc _ _) _) _) _
  generalize ((((w.alloc (.cells #[.int .i64 F, .int .i64 T] 23)).alloc (.cells #[.int .i64 G, .int .i64 U] 23)).alloc (.cells #[.int .i64 0, .int .i64 0] 23)).alloc (.cells #[.int .i64 M, .int .i64 N] 23)) = w0 at *
  go_wp2_with (first | (go_at_call 14; with_reducible refine (C1.out _).mono ?_; rintro x w1 ⟨rfl, hB1⟩; have g01 : w1.cell? ⟨w.heap.size + 1, 0, none⟩ = some (.int .i64 G) := (hB1.cell (p := ⟨w.heap.size + 1, 0, none⟩) (blt g00)).trans g00; have g11 : w1.cell? ⟨w.heap.size + 1, 1, none⟩ = some (.int .i64 U) := (hB1.cell (p := ⟨w.heap.size + 1, 1, none⟩) (blt g10)).trans g10; have m01 : w1.cell? ⟨w.heap.size + 1 + 1 + 1, 0, none⟩ = some (.int .i64 M) := (hB1.cell (p := ⟨w.heap.size + 1 + 1 + 1, 0, none⟩) (blt m00)).trans m00; have m11 : w1.cell? ⟨w.heap.size + 1 + 1 + 1, 1, none⟩ = some (.int .i64 N) := (hB1.cell (p := ⟨w.heap.size + 1 + 1 + 1, 1, none⟩) (blt m10)).trans m10; have r01 : w1.cell? ⟨w.heap.size + 1 + 1, 0, none⟩ = some (.int .i64 0) := (hB1.cell (p := ⟨w.heap.size + 1 + 1, 0, none⟩) (blt r00)).trans r00; have r11 : w1.cell? ⟨w.heap.size + 1 + 1, 1, none⟩ = some (.int .i64 0) := (hB1.cell (p := ⟨w.heap.size + 1 + 1, 1, none⟩) (blt r10)).trans r10; have q01 : w1.frozen? ⟨w.heap.size + 1 + 1, 0, none⟩ = false := (hB1.frozen (p := ⟨w.heap.size + 1 + 1, 0, none⟩) (blt r00)).trans q00; have q11 : w1.frozen? ⟨w.heap.size + 1 + 1, 1, none⟩ = false := (hB1.frozen (p := ⟨w.heap.size + 1 + 1, 1, none⟩) (blt r00)).trans q10; have sB1 := btr sB0 hB1))
  exact bodyPost_ret (v := .tuple #[.agg #[.int .i64 0, .int .i64 0], .bool false]) (by simp [results, Tryz.results12, go_sem, r01, r11]) rfl ⟨rfl, (sB1.setCell (p := ⟨w.heap.size + 1 + 1, 0, none⟩) (show w.heap.size ≤ w.heap.size + 1 + 1 by omega) _).setCell (p := ⟨w.heap.size + 1 + 1, 1, none⟩) (show w.heap.size ≤ w.heap.size + 1 + 1 by omega) _⟩
set_option maxRecDepth 100000 in
set_option maxHeartbeats 4000000 in
theorem rmeet7_1 (F T G U : Int) (w : World) (h1 : rightQ F T = true) (h2 : rightQ G U = false) : Calls Tryz.prog 12 #[.agg #[.int .i64 F, .int .i64 T], .agg #[.int .i64 G, .int .i64 U]] w fun x w' => x = .returned (.tuple #[.agg #[.int .i64 0, .int .i64 0], .bool false]) ∧ Below w.heap.size w w' := by
  have C1 := fun W => rright7_c F T W
  rw [h1] at C1
  replace C1 := Lib.hid C1
  clear h1
  have C2 := fun W => rright7_c G U W
  rw [h2] at C2
  replace C2 := Lib.hid C2
  clear h2
  generalize hM : max F G = M at *
  generalize hN : min T U = N at *
  go_enter Tryz.func12, Tryz.ntmps12
  go_wp2_with fail
  clear hM hN
  have g00 : ((((w.alloc (.cells #[.int .i64 F, .int .i64 T] 23)).alloc (.cells #[.int .i64 G, .int .i64 U] 23)).alloc (.cells #[.int .i64 0, .int .i64 0] 23)).alloc (.cells #[.int .i64 M, .int .i64 N] 23)).cell? ⟨w.heap.size + 1, 0, none⟩ = some (.int .i64 G) := by go_simp
  have g10 : ((((w.alloc (.cells #[.int .i64 F, .int .i64 T] 23)).alloc (.cells #[.int .i64 G, .int .i64 U] 23)).alloc (.cells #[.int .i64 0, .int .i64 0] 23)).alloc (.cells #[.int .i64 M, .int .i64 N] 23)).cell? ⟨w.heap.size + 1, 1, none⟩ = some (.int .i64 U) := by go_simp
  have m00 : ((((w.alloc (.cells #[.int .i64 F, .int .i64 T] 23)).alloc (.cells #[.int .i64 G, .int .i64 U] 23)).alloc (.cells #[.int .i64 0, .int .i64 0] 23)).alloc (.cells #[.int .i64 M, .int .i64 N] 23)).cell? ⟨w.heap.size + 1 + 1 + 1, 0, none⟩ = some (.int .i64 M) := by go_simp
  have m10 : ((((w.alloc (.cells #[.int .i64 F, .int .i64 T] 23)).alloc (.cells #[.int .i64 G, .int .i64 U] 23)).alloc (.cells #[.int .i64 0, .int .i64 0] 23)).alloc (.cells #[.int .i64 M, .int .i64 N] 23)).cell? ⟨w.heap.size + 1 + 1 + 1, 1, none⟩ = some (.int .i64 N) := by go_simp
  have r00 : ((((w.alloc (.cells #[.int .i64 F, .int .i64 T] 23)).alloc (.cells #[.int .i64 G, .int .i64 U] 23)).alloc (.cells #[.int .i64 0, .int .i64 0] 23)).alloc (.cells #[.int .i64 M, .int .i64 N] 23)).cell? ⟨w.heap.size + 1 + 1, 0, none⟩ = some (.int .i64 0) := by go_simp
  have r10 : ((((w.alloc (.cells #[.int .i64 F, .int .i64 T] 23)).alloc (.cells #[.int .i64 G, .int .i64 U] 23)).alloc (.cells #[.int .i64 0, .int .i64 0] 23)).alloc (.cells #[.int .i64 M, .int .i64 N] 23)).cell? ⟨w.heap.size + 1 + 1, 1, none⟩ = some (.int .i64 0) := by go_simp
  have q00 : ((((w.alloc (.cells #[.int .i64 F, .int .i64 T] 23)).alloc (.cells #[.int .i64 G, .int .i64 U] 23)).alloc (.cells #[.int .i64 0, .int .i64 0] 23)).alloc (.cells #[.int .i64 M, .int .i64 N] 23)).frozen? ⟨w.heap.size + 1 + 1, 0, none⟩ = false := by go_simp
  have q10 : ((((w.alloc (.cells #[.int .i64 F, .int .i64 T] 23)).alloc (.cells #[.int .i64 G, .int .i64 U] 23)).alloc (.cells #[.int .i64 0, .int .i64 0] 23)).alloc (.cells #[.int .i64 M, .int .i64 N] 23)).frozen? ⟨w.heap.size + 1 + 1, 1, none⟩ = false := by go_simp
  have sB0 : Below w.heap.size w ((((w.alloc (.cells #[.int .i64 F, .int .i64 T] 23)).alloc (.cells #[.int .i64 G, .int .i64 U] 23)).alloc (.cells #[.int .i64 0, .int .i64 0] 23)).alloc (.cells #[.int .i64 M, .int .i64 N] 23)) := bal (bal (bal (below_alloc _ _) _) _) _
  generalize ((((w.alloc (.cells #[.int .i64 F, .int .i64 T] 23)).alloc (.cells #[.int .i64 G, .int .i64 U] 23)).alloc (.cells #[.int .i64 0, .int .i64 0] 23)).alloc (.cells #[.int .i64 M, .int .i64 N] 23)) = w0 at *
  go_wp2_with (first | (go_at_call 14; with_reducible refine (C1.out _).mono ?_; rintro x w1 ⟨rfl, hB1⟩; have g01 : w1.cell? ⟨w.heap.size + 1, 0, none⟩ = some (.int .i64 G) := (hB1.cell (p := ⟨w.heap.size + 1, 0, none⟩) (blt g00)).trans g00; have g11 : w1.cell? ⟨w.heap.size + 1, 1, none⟩ = some (.int .i64 U) := (hB1.cell (p := ⟨w.heap.size + 1, 1, none⟩) (blt g10)).trans g10; have m01 : w1.cell? ⟨w.heap.size + 1 + 1 + 1, 0, none⟩ = some (.int .i64 M) := (hB1.cell (p := ⟨w.heap.size + 1 + 1 + 1, 0, none⟩) (blt m00)).trans m00; have m11 : w1.cell? ⟨w.heap.size + 1 + 1 + 1, 1, none⟩ = some (.int .i64 N) := (hB1.cell (p := ⟨w.heap.size + 1 + 1 + 1, 1, none⟩) (blt m10)).trans m10; have r01 : w1.cell? ⟨w.heap.size + 1 + 1, 0, none⟩ = some (.int .i64 0) := (hB1.cell (p := ⟨w.heap.size + 1 + 1, 0, none⟩) (blt r00)).trans r00; have r11 : w1.cell? ⟨w.heap.size + 1 + 1, 1, none⟩ = some (.int .i64 0) := (hB1.cell (p := ⟨w.heap.size + 1 + 1, 1, none⟩) (blt r10)).trans r10; have q01 : w1.frozen? ⟨w.heap.size + 1 + 1, 0, none⟩ = false := (hB1.frozen (p := ⟨w.heap.size + 1 + 1, 0, none⟩) (blt r00)).trans q00; have q11 : w1.frozen? ⟨w.heap.size + 1 + 1, 1, none⟩ = false := (hB1.frozen (p := ⟨w.heap.size + 1 + 1, 1, none⟩) (blt r00)).trans q10; have sB1 := btr sB0 hB1) | (go_at_call 14; with_reducible refine (C2.out _).mono ?_; rintro x w2 ⟨rfl, hB2⟩; have g02 : w2.cell? ⟨w.heap.size + 1, 0, none⟩ = some (.int .i64 G) := (hB2.cell (p := ⟨w.heap.size + 1, 0, none⟩) (blt g01)).trans g01; have g12 : w2.cell? ⟨w.heap.size + 1, 1, none⟩ = some (.int .i64 U) := (hB2.cell (p := ⟨w.heap.size + 1, 1, none⟩) (blt g11)).trans g11; have m02 : w2.cell? ⟨w.heap.size + 1 + 1 + 1, 0, none⟩ = some (.int .i64 M) := (hB2.cell (p := ⟨w.heap.size + 1 + 1 + 1, 0, none⟩) (blt m01)).trans m01; have m12 : w2.cell? ⟨w.heap.size + 1 + 1 + 1, 1, none⟩ = some (.int .i64 N) := (hB2.cell (p := ⟨w.heap.size + 1 + 1 + 1, 1, none⟩) (blt m11)).trans m11; have r02 : w2.cell? ⟨w.heap.size + 1 + 1, 0, none⟩ = some (.int .i64 0) := (hB2.cell (p := ⟨w.heap.size + 1 + 1, 0, none⟩) (blt r01)).trans r01; have r12 : w2.cell? ⟨w.heap.size + 1 + 1, 1, none⟩ = some (.int .i64 0) := (hB2.cell (p := ⟨w.heap.size + 1 + 1, 1, none⟩) (blt r11)).trans r11; have q02 : w2.frozen? ⟨w.heap.size + 1 + 1, 0, none⟩ = false := (hB2.frozen (p := ⟨w.heap.size + 1 + 1, 0, none⟩) (blt r01)).trans q01; have q12 : w2.frozen? ⟨w.heap.size + 1 + 1, 1, none⟩ = false := (hB2.frozen (p := ⟨w.heap.size + 1 + 1, 1, none⟩) (blt r01)).trans q11; have sB2 := btr sB1 hB2))
  exact bodyPost_ret (v := .tuple #[.agg #[.int .i64 0, .int .i64 0], .bool false]) (by simp [results, Tryz.results12, go_sem, r02, r12]) rfl ⟨rfl, (sB2.setCell (p := ⟨w.heap.size + 1 + 1, 0, none⟩) (show w.heap.size ≤ w.heap.size + 1 + 1 by omega) _).setCell (p := ⟨w.heap.size + 1 + 1, 1, none⟩) (show w.heap.size ≤ w.heap.size + 1 + 1 by omega) _⟩
set_option maxRecDepth 100000 in
set_option maxHeartbeats 4000000 in
theorem rmeet7_2 (F T G U : Int) (w : World) (h1 : rightQ F T = true) (h2 : rightQ G U = true) (h3 : min T U < max F G) : Calls Tryz.prog 12 #[.agg #[.int .i64 F, .int .i64 T], .agg #[.int .i64 G, .int .i64 U]] w fun x w' => x = .returned (.tuple #[.agg #[.int .i64 0, .int .i64 0], .bool false]) ∧ Below w.heap.size w w' := by
  have C1 := fun W => rright7_c F T W
  rw [h1] at C1
  replace C1 := Lib.hid C1
  clear h1
  have C2 := fun W => rright7_c G U W
  rw [h2] at C2
  replace C2 := Lib.hid C2
  clear h2
  generalize hM : max F G = M at *
  generalize hN : min T U = N at *
  go_enter Tryz.func12, Tryz.ntmps12
  go_wp2_with fail
  clear hM hN
  have g00 : ((((w.alloc (.cells #[.int .i64 F, .int .i64 T] 23)).alloc (.cells #[.int .i64 G, .int .i64 U] 23)).alloc (.cells #[.int .i64 0, .int .i64 0] 23)).alloc (.cells #[.int .i64 M, .int .i64 N] 23)).cell? ⟨w.heap.size + 1, 0, none⟩ = some (.int .i64 G) := by go_simp
  have g10 : ((((w.alloc (.cells #[.int .i64 F, .int .i64 T] 23)).alloc (.cells #[.int .i64 G, .int .i64 U] 23)).alloc (.cells #[.int .i64 0, .int .i64 0] 23)).alloc (.cells #[.int .i64 M, .int .i64 N] 23)).cell? ⟨w.heap.size + 1, 1, none⟩ = some (.int .i64 U) := by go_simp
  have m00 : ((((w.alloc (.cells #[.int .i64 F, .int .i64 T] 23)).alloc (.cells #[.int .i64 G, .int .i64 U] 23)).alloc (.cells #[.int .i64 0, .int .i64 0] 23)).alloc (.cells #[.int .i64 M, .int .i64 N] 23)).cell? ⟨w.heap.size + 1 + 1 + 1, 0, none⟩ = some (.int .i64 M) := by go_simp
  have m10 : ((((w.alloc (.cells #[.int .i64 F, .int .i64 T] 23)).alloc (.cells #[.int .i64 G, .int .i64 U] 23)).alloc (.cells #[.int .i64 0, .int .i64 0] 23)).alloc (.cells #[.int .i64 M, .int .i64 N] 23)).cell? ⟨w.heap.size + 1 + 1 + 1, 1, none⟩ = some (.int .i64 N) := by go_simp
  have r00 : ((((w.alloc (.cells #[.int .i64 F, .int .i64 T] 23)).alloc (.cells #[.int .i64 G, .int .i64 U] 23)).alloc (.cells #[.int .i64 0, .int .i64 0] 23)).alloc (.cells #[.int .i64 M, .int .i64 N] 23)).cell? ⟨w.heap.size + 1 + 1, 0, none⟩ = some (.int .i64 0) := by go_simp
  have r10 : ((((w.alloc (.cells #[.int .i64 F, .int .i64 T] 23)).alloc (.cells #[.int .i64 G, .int .i64 U] 23)).alloc (.cells #[.int .i64 0, .int .i64 0] 23)).alloc (.cells #[.int .i64 M, .int .i64 N] 23)).cell? ⟨w.heap.size + 1 + 1, 1, none⟩ = some (.int .i64 0) := by go_simp
  have q00 : ((((w.alloc (.cells #[.int .i64 F, .int .i64 T] 23)).alloc (.cells #[.int .i64 G, .int .i64 U] 23)).alloc (.cells #[.int .i64 0, .int .i64 0] 23)).alloc (.cells #[.int .i64 M, .int .i64 N] 23)).frozen? ⟨w.heap.size + 1 + 1, 0, none⟩ = false := by go_simp
  have q10 : ((((w.alloc (.cells #[.int .i64 F, .int .i64 T] 23)).alloc (.cells #[.int .i64 G, .int .i64 U] 23)).alloc (.cells #[.int .i64 0, .int .i64 0] 23)).alloc (.cells #[.int .i64 M, .int .i64 N] 23)).frozen? ⟨w.heap.size + 1 + 1, 1, none⟩ = false := by go_simp
  have sB0 : Below w.heap.size w ((((w.alloc (.cells #[.int .i64 F, .int .i64 T] 23)).alloc (.cells #[.int .i64 G, .int .i64 U] 23)).alloc (.cells #[.int .i64 0, .int .i64 0] 23)).alloc (.cells #[.int .i64 M, .int .i64 N] 23)) := bal (bal (bal (below_alloc _ _) _) _) _
  generalize ((((w.alloc (.cells #[.int .i64 F, .int .i64 T] 23)).alloc (.cells #[.int .i64 G, .int .i64 U] 23)).alloc (.cells #[.int .i64 0, .int .i64 0] 23)).alloc (.cells #[.int .i64 M, .int .i64 N] 23)) = w0 at *
  go_wp2_with (first | (go_at_call 14; with_reducible refine (C1.out _).mono ?_; rintro x w1 ⟨rfl, hB1⟩; have g01 : w1.cell? ⟨w.heap.size + 1, 0, none⟩ = some (.int .i64 G) := (hB1.cell (p := ⟨w.heap.size + 1, 0, none⟩) (blt g00)).trans g00; have g11 : w1.cell? ⟨w.heap.size + 1, 1, none⟩ = some (.int .i64 U) := (hB1.cell (p := ⟨w.heap.size + 1, 1, none⟩) (blt g10)).trans g10; have m01 : w1.cell? ⟨w.heap.size + 1 + 1 + 1, 0, none⟩ = some (.int .i64 M) := (hB1.cell (p := ⟨w.heap.size + 1 + 1 + 1, 0, none⟩) (blt m00)).trans m00; have m11 : w1.cell? ⟨w.heap.size + 1 + 1 + 1, 1, none⟩ = some (.int .i64 N) := (hB1.cell (p := ⟨w.heap.size + 1 + 1 + 1, 1, none⟩) (blt m10)).trans m10; have r01 : w1.cell? ⟨w.heap.size + 1 + 1, 0, none⟩ = some (.int .i64 0) := (hB1.cell (p := ⟨w.heap.size + 1 + 1, 0, none⟩) (blt r00)).trans r00; have r11 : w1.cell? ⟨w.heap.size + 1 + 1, 1, none⟩ = some (.int .i64 0) := (hB1.cell (p := ⟨w.heap.size + 1 + 1, 1, none⟩) (blt r10)).trans r10; have q01 : w1.frozen? ⟨w.heap.size + 1 + 1, 0, none⟩ = false := (hB1.frozen (p := ⟨w.heap.size + 1 + 1, 0, none⟩) (blt r00)).trans q00; have q11 : w1.frozen? ⟨w.heap.size + 1 + 1, 1, none⟩ = false := (hB1.frozen (p := ⟨w.heap.size + 1 + 1, 1, none⟩) (blt r00)).trans q10; have sB1 := btr sB0 hB1) | (go_at_call 14; with_reducible refine (C2.out _).mono ?_; rintro x w2 ⟨rfl, hB2⟩; have g02 : w2.cell? ⟨w.heap.size + 1, 0, none⟩ = some (.int .i64 G) := (hB2.cell (p := ⟨w.heap.size + 1, 0, none⟩) (blt g01)).trans g01; have g12 : w2.cell? ⟨w.heap.size + 1, 1, none⟩ = some (.int .i64 U) := (hB2.cell (p := ⟨w.heap.size + 1, 1, none⟩) (blt g11)).trans g11; have m02 : w2.cell? ⟨w.heap.size + 1 + 1 + 1, 0, none⟩ = some (.int .i64 M) := (hB2.cell (p := ⟨w.heap.size + 1 + 1 + 1, 0, none⟩) (blt m01)).trans m01; have m12 : w2.cell? ⟨w.heap.size + 1 + 1 + 1, 1, none⟩ = some (.int .i64 N) := (hB2.cell (p := ⟨w.heap.size + 1 + 1 + 1, 1, none⟩) (blt m11)).trans m11; have r02 : w2.cell? ⟨w.heap.size + 1 + 1, 0, none⟩ = some (.int .i64 0) := (hB2.cell (p := ⟨w.heap.size + 1 + 1, 0, none⟩) (blt r01)).trans r01; have r12 : w2.cell? ⟨w.heap.size + 1 + 1, 1, none⟩ = some (.int .i64 0) := (hB2.cell (p := ⟨w.heap.size + 1 + 1, 1, none⟩) (blt r11)).trans r11; have q02 : w2.frozen? ⟨w.heap.size + 1 + 1, 0, none⟩ = false := (hB2.frozen (p := ⟨w.heap.size + 1 + 1, 0, none⟩) (blt r01)).trans q01; have q12 : w2.frozen? ⟨w.heap.size + 1 + 1, 1, none⟩ = false := (hB2.frozen (p := ⟨w.heap.size + 1 + 1, 1, none⟩) (blt r01)).trans q11; have sB2 := btr sB1 hB2))
  exact bodyPost_ret (v := .tuple #[.agg #[.int .i64 0, .int .i64 0], .bool false]) (by simp [results, Tryz.results12, go_sem, r02, r12]) rfl ⟨rfl, (sB2.setCell (p := ⟨w.heap.size + 1 + 1, 0, none⟩) (show w.heap.size ≤ w.heap.size + 1 + 1 by omega) _).setCell (p := ⟨w.heap.size + 1 + 1, 1, none⟩) (show w.heap.size ≤ w.heap.size + 1 + 1 by omega) _⟩
set_option maxRecDepth 100000 in
set_option maxHeartbeats 4000000 in
theorem rmeet7_3 (F T G U : Int) (w : World) (h1 : rightQ F T = true) (h2 : rightQ G U = true) (h3 : ¬ min T U < max F G) : Calls Tryz.prog 12 #[.agg #[.int .i64 F, .int .i64 T], .agg #[.int .i64 G, .int .i64 U]] w fun x w' => x = .returned (.tuple #[.agg #[.int .i64 (max F G), .int .i64 (min T U)], .bool true]) ∧ Below w.heap.size w w' := by
  have C1 := fun W => rright7_c F T W
  rw [h1] at C1
  replace C1 := Lib.hid C1
  clear h1
  have C2 := fun W => rright7_c G U W
  rw [h2] at C2
  replace C2 := Lib.hid C2
  clear h2
  generalize hM : max F G = M at *
  generalize hN : min T U = N at *
  go_enter Tryz.func12, Tryz.ntmps12
  go_wp2_with fail
  clear hM hN
  have g00 : ((((w.alloc (.cells #[.int .i64 F, .int .i64 T] 23)).alloc (.cells #[.int .i64 G, .int .i64 U] 23)).alloc (.cells #[.int .i64 0, .int .i64 0] 23)).alloc (.cells #[.int .i64 M, .int .i64 N] 23)).cell? ⟨w.heap.size + 1, 0, none⟩ = some (.int .i64 G) := by go_simp
  have g10 : ((((w.alloc (.cells #[.int .i64 F, .int .i64 T] 23)).alloc (.cells #[.int .i64 G, .int .i64 U] 23)).alloc (.cells #[.int .i64 0, .int .i64 0] 23)).alloc (.cells #[.int .i64 M, .int .i64 N] 23)).cell? ⟨w.heap.size + 1, 1, none⟩ = some (.int .i64 U) := by go_simp
  have m00 : ((((w.alloc (.cells #[.int .i64 F, .int .i64 T] 23)).alloc (.cells #[.int .i64 G, .int .i64 U] 23)).alloc (.cells #[.int .i64 0, .int .i64 0] 23)).alloc (.cells #[.int .i64 M, .int .i64 N] 23)).cell? ⟨w.heap.size + 1 + 1 + 1, 0, none⟩ = some (.int .i64 M) := by go_simp
  have m10 : ((((w.alloc (.cells #[.int .i64 F, .int .i64 T] 23)).alloc (.cells #[.int .i64 G, .int .i64 U] 23)).alloc (.cells #[.int .i64 0, .int .i64 0] 23)).alloc (.cells #[.int .i64 M, .int .i64 N] 23)).cell? ⟨w.heap.size + 1 + 1 + 1, 1, none⟩ = some (.int .i64 N) := by go_simp
  have r00 : ((((w.alloc (.cells #[.int .i64 F, .int .i64 T] 23)).alloc (.cells #[.int .i64 G, .int .i64 U] 23)).alloc (.cells #[.int .i64 0, .int .i64 0] 23)).alloc (.cells #[.int .i64 M, .int .i64 N] 23)).cell? ⟨w.heap.size + 1 + 1, 0, none⟩ = some (.int .i64 0) := by go_simp
  have r10 : ((((w.alloc (.cells #[.int .i64 F, .int .i64 T] 23)).alloc (.cells #[.int .i64 G, .int .i64 U] 23)).alloc (.cells #[.int .i64 0, .int .i64 0] 23)).alloc (.cells #[.int .i64 M, .int .i64 N] 23)).cell? ⟨w.heap.size + 1 + 1, 1, none⟩ = some (.int .i64 0) := by go_simp
  have q00 : ((((w.alloc (.cells #[.int .i64 F, .int .i64 T] 23)).alloc (.cells #[.int .i64 G, .int .i64 U] 23)).alloc (.cells #[.int .i64 0, .int .i64 0] 23)).alloc (.cells #[.int .i64 M, .int .i64 N] 23)).frozen? ⟨w.heap.size + 1 + 1, 0, none⟩ = false := by go_simp
  have q10 : ((((w.alloc (.cells #[.int .i64 F, .int .i64 T] 23)).alloc (.cells #[.int .i64 G, .int .i64 U] 23)).alloc (.cells #[.int .i64 0, .int .i64 0] 23)).alloc (.cells #[.int .i64 M, .int .i64 N] 23)).frozen? ⟨w.heap.size + 1 + 1, 1, none⟩ = false := by go_simp
  have sB0 : Below w.heap.size w ((((w.alloc (.cells #[.int .i64 F, .int .i64 T] 23)).alloc (.cells #[.int .i64 G, .int .i64 U] 23)).alloc (.cells #[.int .i64 0, .int .i64 0] 23)).alloc (.cells #[.int .i64 M, .int .i64 N] 23)) := bal (bal (bal (below_alloc _ _) _) _) _
  generalize ((((w.alloc (.cells #[.int .i64 F, .int .i64 T] 23)).alloc (.cells #[.int .i64 G, .int .i64 U] 23)).alloc (.cells #[.int .i64 0, .int .i64 0] 23)).alloc (.cells #[.int .i64 M, .int .i64 N] 23)) = w0 at *
  go_wp2_with (first | (go_at_call 14; with_reducible refine (C1.out _).mono ?_; rintro x w1 ⟨rfl, hB1⟩; have g01 : w1.cell? ⟨w.heap.size + 1, 0, none⟩ = some (.int .i64 G) := (hB1.cell (p := ⟨w.heap.size + 1, 0, none⟩) (blt g00)).trans g00; have g11 : w1.cell? ⟨w.heap.size + 1, 1, none⟩ = some (.int .i64 U) := (hB1.cell (p := ⟨w.heap.size + 1, 1, none⟩) (blt g10)).trans g10; have m01 : w1.cell? ⟨w.heap.size + 1 + 1 + 1, 0, none⟩ = some (.int .i64 M) := (hB1.cell (p := ⟨w.heap.size + 1 + 1 + 1, 0, none⟩) (blt m00)).trans m00; have m11 : w1.cell? ⟨w.heap.size + 1 + 1 + 1, 1, none⟩ = some (.int .i64 N) := (hB1.cell (p := ⟨w.heap.size + 1 + 1 + 1, 1, none⟩) (blt m10)).trans m10; have r01 : w1.cell? ⟨w.heap.size + 1 + 1, 0, none⟩ = some (.int .i64 0) := (hB1.cell (p := ⟨w.heap.size + 1 + 1, 0, none⟩) (blt r00)).trans r00; have r11 : w1.cell? ⟨w.heap.size + 1 + 1, 1, none⟩ = some (.int .i64 0) := (hB1.cell (p := ⟨w.heap.size + 1 + 1, 1, none⟩) (blt r10)).trans r10; have q01 : w1.frozen? ⟨w.heap.size + 1 + 1, 0, none⟩ = false := (hB1.frozen (p := ⟨w.heap.size + 1 + 1, 0, none⟩) (blt r00)).trans q00; have q11 : w1.frozen? ⟨w.heap.size + 1 + 1, 1, none⟩ = false := (hB1.frozen (p := ⟨w.heap.size + 1 + 1, 1, none⟩) (blt r00)).trans q10; have sB1 := btr sB0 hB1) | (go_at_call 14; with_reducible refine (C2.out _).mono ?_; rintro x w2 ⟨rfl, hB2⟩; have g02 : w2.cell? ⟨w.heap.size + 1, 0, none⟩ = some (.int .i64 G) := (hB2.cell (p := ⟨w.heap.size + 1, 0, none⟩) (blt g01)).trans g01; have g12 : w2.cell? ⟨w.heap.size + 1, 1, none⟩ = some (.int .i64 U) := (hB2.cell (p := ⟨w.heap.size + 1, 1, none⟩) (blt g11)).trans g11; have m02 : w2.cell? ⟨w.heap.size + 1 + 1 + 1, 0, none⟩ = some (.int .i64 M) := (hB2.cell (p := ⟨w.heap.size + 1 + 1 + 1, 0, none⟩) (blt m01)).trans m01; have m12 : w2.cell? ⟨w.heap.size + 1 + 1 + 1, 1, none⟩ = some (.int .i64 N) := (hB2.cell (p := ⟨w.heap.size + 1 + 1 + 1, 1, none⟩) (blt m11)).trans m11; have r02 : w2.cell? ⟨w.heap.size + 1 + 1, 0, none⟩ = some (.int .i64 0) := (hB2.cell (p := ⟨w.heap.size + 1 + 1, 0, none⟩) (blt r01)).trans r01; have r12 : w2.cell? ⟨w.heap.size + 1 + 1, 1, none⟩ = some (.int .i64 0) := (hB2.cell (p := ⟨w.heap.size + 1 + 1, 1, none⟩) (blt r11)).trans r11; have q02 : w2.frozen? ⟨w.heap.size + 1 + 1, 0, none⟩ = false := (hB2.frozen (p := ⟨w.heap.size + 1 + 1, 0, none⟩) (blt r01)).trans q01; have q12 : w2.frozen? ⟨w.heap.size + 1 + 1, 1, none⟩ = false := (hB2.frozen (p := ⟨w.heap.size + 1 + 1, 1, none⟩) (blt r01)).trans q11; have sB2 := btr sB1 hB2))
  exact bodyPost_ret (v := .tuple #[.agg #[.int .i64 M, .int .i64 N], .bool true]) (by simp [results, Tryz.results12, go_sem, r02, r12]) rfl ⟨rfl, (sB2.setCell (p := ⟨w.heap.size + 1 + 1, 0, none⟩) (show w.heap.size ≤ w.heap.size + 1 + 1 by omega) _).setCell (p := ⟨w.heap.size + 1 + 1, 1, none⟩) (show w.heap.size ≤ w.heap.size + 1 + 1 by omega) _⟩
theorem rmeet7_c (F T G U : Int) (w : World) : Calls Tryz.prog 12 #[.agg #[.int .i64 F, .int .i64 T], .agg #[.int .i64 G, .int .i64 U]] w fun x w' => x = .returned (.tuple #[.agg #[.int .i64 (meetF F T G U), .int .i64 (meetT F T G U)], .bool (meetB F T G U)]) ∧ Below w.heap.size w w' := by
  unfold meetF meetT
  cases h1 : rightQ F T with
  | false => rw [show meetB F T G U = false by simp [meetB, h1]]; exact rmeet7_0 F T G U w h1
  | true =>
    cases h2 : rightQ G U with
    | false => rw [show meetB F T G U = false by simp [meetB, h2]]; exact rmeet7_1 F T G U w h1 h2
    | true =>
      by_cases h3 : min T U < max F G
      · rw [show meetB F T G U = false by unfold meetB; rw [decide_eq_false (by omega)]; simp]; exact rmeet7_2 F T G U w h1 h2 h3
      · rw [show meetB F T G U = true by unfold meetB; rw [h1, h2, decide_eq_true (by omega)]; rfl]; exact rmeet7_3 F T G U w h1 h2 h3

set_option maxRecDepth 100000 in
set_option maxHeartbeats 4000000 in
theorem rprintT7_c (A P : Int) (w : World) : Calls Tryz.prog 18 #[.agg #[.int .i64 A, .int .i64 P]] w fun x w' => x = .returned (.tuple #[.string ⟨(ptS A P).toArray⟩, .int .i64 (ptE A P)]) ∧ Below w.heap.size w w' := by
  have G1 := fun W => rprint_c A W
  have hl := printS_len A
  unfold ptS ptE
  cases hA : isA A with
  | false =>
    have e1 : ptOk A P = false := by simp [ptOk, hA]
    rw [e1]
    have e2 : printE A = 60 := by unfold printE; rw [hA]; rfl
    rw [e2] at G1
    have H1 := Lib.hid (fun W => G1 W)
    generalize printS A = t at *
    clear G1 hA e1 e2
    simp only [Bool.false_eq_true, if_false]
    go_enter Tryz.func18, Tryz.ntmps18
    go_wp2_with (go_at_call 34; refine (H1.out _).mono ?_; rintro x w1 ⟨rfl, hb1⟩)
    go_ret2
    exact ⟨rfl, btr (below_alloc _ _) hb1⟩
  | true =>
    have e2 : printE A = 0 := by unfold printE; rw [hA]; rfl
    rw [e2] at G1
    have H1 := Lib.hid (fun W => G1 W)
    by_cases h1 : P < 1
    · have e1 : ptOk A P = false := by unfold ptOk; rw [decide_eq_false (by omega)]; simp
      rw [e1]
      generalize printS A = t at *
      clear G1 hA e1 e2
      simp only [Bool.false_eq_true, if_false]
      go_enter Tryz.func18, Tryz.ntmps18
      go_wp2_with (go_at_call 34; refine (H1.out _).mono ?_; rintro x w1 ⟨rfl, hb1⟩; have z1 : w1.cell? ⟨w.heap.size, 1, none⟩ = some (.int .i64 P) := (hb1.cell (p := ⟨w.heap.size, 1, none⟩) (by simp)).trans (by go_simp))
      go_ret2
      exact ⟨rfl, btr (below_alloc _ _) hb1⟩
    · by_cases h2 : 65535 < P
      · have e1 : ptOk A P = false := by unfold ptOk; rw [decide_eq_false (by omega)]; simp
        rw [e1]
        generalize printS A = t at *
        clear G1 hA e1 e2
        simp only [Bool.false_eq_true, if_false]
        go_enter Tryz.func18, Tryz.ntmps18
        go_wp2_with (go_at_call 34; refine (H1.out _).mono ?_; rintro x w1 ⟨rfl, hb1⟩; have z1 : w1.cell? ⟨w.heap.size, 1, none⟩ = some (.int .i64 P) := (hb1.cell (p := ⟨w.heap.size, 1, none⟩) (by simp)).trans (by go_simp))
        go_ret2
        exact ⟨rfl, btr (below_alloc _ _) hb1⟩
      · have e1 : ptOk A P = true := by unfold ptOk; rw [hA, decide_eq_true (by omega)]; rfl
        rw [e1]
        obtain ⟨v, rfl⟩ : ∃ v : Nat, P = v := ⟨P.toNat, by omega⟩
        have HT1 := Lib.hid (fun W => num_c v (by omega) W)
        have s1 := itoa21 (n := (v : Int)) (by omega) (by omega)
        simp only [if_true]
        obtain ⟨t, ht⟩ : ∃ t, t = printS A := ⟨_, rfl⟩
        obtain ⟨u, hu⟩ : ∃ u, u = Lib.itoa (v : Int) := ⟨_, rfl⟩
        rw [← ht] at H1 hl
        rw [← hu] at HT1 s1
        have E1 := Lib.hid ht
        have E2 := Lib.hid hu
        have c1 : ¬ 9223372036854775807 < t.length + 1 := by omega
        have c2 : ¬ 9223372036854775807 < t.length + 1 + u.length := by omega
        clear G1 hA e1 e2 ht hu hl s1
        go_enter Tryz.func18, Tryz.ntmps18
        go_wp2_with (first | (go_at_call 34; refine (H1.out _).mono ?_; rintro x w1 ⟨rfl, hb1⟩; have z1 : w1.cell? ⟨w.heap.size, 1, none⟩ = some (.int .i64 (v : Int)) := (hb1.cell (p := ⟨w.heap.size, 1, none⟩) (by simp)).trans (by go_simp); have sB := btr (below_alloc _ _) hb1) | (go_at_call 23; with_reducible refine (HT1.out _).mono ?_; rintro x w2 ⟨rfl, hb2⟩))
        go_ret2
        refine ⟨?_, btr sB hb2⟩
        show Ending.returned (.tuple #[.string (⟨t.toArray⟩ ++ ⟨#[58]⟩ ++ ⟨u.toArray⟩), .int .i64 0]) = _
        rw [bytes3, E1.out, E2.out]

set_option maxRecDepth 100000 in
set_option maxHeartbeats 4000000 in
theorem rprint7_0 (F T : Int) (w : World) (h : rightQ F T = false) : Calls Tryz.prog 8 #[.agg #[.int .i64 F, .int .i64 T]] w fun x w' => x = .returned (.tuple #[.string ⟨#[]⟩, .int .i64 70]) ∧ Below w.heap.size w w' := by
  have C1 := fun W => rright7_c F T W
  rw [h] at C1
  have H1 := Lib.hid C1
  clear C1 h
  go_enter Tryz.func8, Tryz.ntmps8
  go_wp2_with (go_at_call 14; refine (H1.out _).mono ?_; rintro x w1 ⟨rfl, hb1⟩)
  go_ret2
  exact ⟨rfl, btr (below_alloc _ _) hb1⟩
set_option maxRecDepth 100000 in
set_option maxHeartbeats 4000000 in
theorem rprint7_1  (w : World) (hr : rightQ 0 65535 = true) : Calls Tryz.prog 8 #[.agg #[.int .i64 0, .int .i64 65535]] w fun x w' => x = .returned (.tuple #[.string ⟨([42]).toArray⟩, .int .i64 0]) ∧ Below w.heap.size w w' := by
  have C1 := fun W => rright7_c 0 65535 W
  rw [hr] at C1
  have H1 := Lib.hid C1
  clear C1 hr
  go_enter Tryz.func8, Tryz.ntmps8
  go_wp2_with fail
  have k0 : (w.alloc (.cells #[.int .i64 0, .int .i64 65535] 23)).cell? ⟨w.heap.size, 0, none⟩ = some (.int .i64 0) := by go_simp
  have k1 : (w.alloc (.cells #[.int .i64 0, .int .i64 65535] 23)).cell? ⟨w.heap.size, 1, none⟩ = some (.int .i64 65535) := by go_simp
  have HA := Lib.hid (below_alloc w (.cells #[.int .i64 0, .int .i64 65535] 23))
  generalize (w.alloc (.cells #[.int .i64 0, .int .i64 65535] 23)) = U at *
  refine (H1.out _).mono ?_; rintro e w1 ⟨rfl, hb1⟩
  have l0 := (hb1.cell (p := ⟨w.heap.size, 0, none⟩) (blt k0)).trans k0
  have l1 := (hb1.cell (p := ⟨w.heap.size, 1, none⟩) (blt k0)).trans k1
  have HB := Lib.hid (btr HA.out hb1)
  clear k0 k1 HA hb1
  go_wp2
  go_ret2
  exact ⟨rfl, HB.out⟩
set_option maxRecDepth 100000 in
set_option maxHeartbeats 4000000 in
theorem rprint7_2 (v : Nat) (w : World) (hv : v ≤ 65535) (hr : rightQ (v : Int) (v : Int) = true) (hF : ((v : Int) == 0) = false) : Calls Tryz.prog 8 #[.agg #[.int .i64 (v : Int), .int .i64 (v : Int)]] w fun x w' => x = .returned (.tuple #[.string ⟨(Lib.itoa (v : Int)).toArray⟩, .int .i64 0]) ∧ Below w.heap.size w w' := by
  have C1 := fun W => rright7_c (v : Int) (v : Int) W
  rw [hr] at C1
  have H1 := Lib.hid C1
  have HT := Lib.hid (fun W => num_c v (by omega) W)
  clear C1 hr
  go_enter Tryz.func8, Tryz.ntmps8
  go_wp2_with fail
  have k0 : (w.alloc (.cells #[.int .i64 (v : Int), .int .i64 (v : Int)] 23)).cell? ⟨w.heap.size, 0, none⟩ = some (.int .i64 (v : Int)) := by go_simp
  have k1 : (w.alloc (.cells #[.int .i64 (v : Int), .int .i64 (v : Int)] 23)).cell? ⟨w.heap.size, 1, none⟩ = some (.int .i64 (v : Int)) := by go_simp
  have HA := Lib.hid (below_alloc w (.cells #[.int .i64 (v : Int), .int .i64 (v : Int)] 23))
  generalize (w.alloc (.cells #[.int .i64 (v : Int), .int .i64 (v : Int)] 23)) = U at *
  refine (H1.out _).mono ?_; rintro e w1 ⟨rfl, hb1⟩
  have l0 := (hb1.cell (p := ⟨w.heap.size, 0, none⟩) (blt k0)).trans k0
  have l1 := (hb1.cell (p := ⟨w.heap.size, 1, none⟩) (blt k0)).trans k1
  have HB := Lib.hid (btr HA.out hb1)
  clear k0 k1 HA hb1
  go_wp2_with (go_at_call 23; refine (HT.out _).mono ?_; rintro e w3 ⟨rfl, hb3⟩)
  go_ret2
  exact ⟨rfl, btr HB.out hb3⟩
set_option maxRecDepth 100000 in
set_option maxHeartbeats 4000000 in
theorem rprint7_2z  (w : World) (hr : rightQ 0 0 = true) : Calls Tryz.prog 8 #[.agg #[.int .i64 0, .int .i64 0]] w fun x w' => x = .returned (.tuple #[.string ⟨(Lib.itoa 0).toArray⟩, .int .i64 0]) ∧ Below w.heap.size w w' := by
  have C1 := fun W => rright7_c 0 0 W
  rw [hr] at C1
  have H1 := Lib.hid C1
  have HT := Lib.hid (fun W => num_c 0 (by omega) W)
  clear C1 hr
  go_enter Tryz.func8, Tryz.ntmps8
  go_wp2_with fail
  have k0 : (w.alloc (.cells #[.int .i64 0, .int .i64 0] 23)).cell? ⟨w.heap.size, 0, none⟩ = some (.int .i64 0) := by go_simp
  have k1 : (w.alloc (.cells #[.int .i64 0, .int .i64 0] 23)).cell? ⟨w.heap.size, 1, none⟩ = some (.int .i64 0) := by go_simp
  have HA := Lib.hid (below_alloc w (.cells #[.int .i64 0, .int .i64 0] 23))
  generalize (w.alloc (.cells #[.int .i64 0, .int .i64 0] 23)) = U at *
  refine (H1.out _).mono ?_; rintro e w1 ⟨rfl, hb1⟩
  have l0 := (hb1.cell (p := ⟨w.heap.size, 0, none⟩) (blt k0)).trans k0
  have l1 := (hb1.cell (p := ⟨w.heap.size, 1, none⟩) (blt k0)).trans k1
  have HB := Lib.hid (btr HA.out hb1)
  clear k0 k1 HA hb1
  go_wp2_with (go_at_call 23; refine (HT.out _).mono ?_; rintro e w3 ⟨rfl, hb3⟩)
  go_ret2
  exact ⟨rfl, btr HB.out hb3⟩
set_option maxRecDepth 100000 in
set_option maxHeartbeats 4000000 in
theorem rprint7_3 (f t : Nat) (w : World) (h1 : f ≤ 65535) (h2 : t ≤ 65535) (hr : rightQ (f : Int) (t : Int) = true) (hF : ((f : Int) == 0) = false) (hFT : ((f : Int) == (t : Int)) = false) : Calls Tryz.prog 8 #[.agg #[.int .i64 (f : Int), .int .i64 (t : Int)]] w fun x w' => x = .returned (.tuple #[.string ⟨((Lib.itoa (f : Int) ++ [45]) ++ Lib.itoa (t : Int)).toArray⟩, .int .i64 0]) ∧ Below w.heap.size w w' := by
  have C1 := fun W => rright7_c (f : Int) (t : Int) W
  rw [hr] at C1
  have H1 := Lib.hid C1
  have HT1 := Lib.hid (fun W => num_c f (by omega) W)
  have HT2 := Lib.hid (fun W => num_c t (by omega) W)
  have s1 := itoa21 (n := ((f : Nat) : Int)) (by omega) (by omega)
  have s2 := itoa21 (n := (t : Int)) (by omega) (by omega)
  clear C1 hr
  go_enter Tryz.func8, Tryz.ntmps8
  go_wp2_with fail
  have k0 : (w.alloc (.cells #[.int .i64 (f : Int), .int .i64 (t : Int)] 23)).cell? ⟨w.heap.size, 0, none⟩ = some (.int .i64 (f : Int)) := by go_simp
  have k1 : (w.alloc (.cells #[.int .i64 (f : Int), .int .i64 (t : Int)] 23)).cell? ⟨w.heap.size, 1, none⟩ = some (.int .i64 (t : Int)) := by go_simp
  have HA := Lib.hid (below_alloc w (.cells #[.int .i64 (f : Int), .int .i64 (t : Int)] 23))
  generalize (w.alloc (.cells #[.int .i64 (f : Int), .int .i64 (t : Int)] 23)) = U at *
  refine (H1.out _).mono ?_; rintro e w1 ⟨rfl, hb1⟩
  have l0 := (hb1.cell (p := ⟨w.heap.size, 0, none⟩) (blt k0)).trans k0
  have l1 := (hb1.cell (p := ⟨w.heap.size, 1, none⟩) (blt k0)).trans k1
  have HB := Lib.hid (btr HA.out hb1)
  clear k0 k1 HA hb1
  obtain ⟨t1, ht1⟩ : ∃ t1, t1 = Lib.itoa (f : Int) := ⟨_, rfl⟩
  obtain ⟨t2, ht2⟩ : ∃ t2, t2 = Lib.itoa (t : Int) := ⟨_, rfl⟩
  have HT1' : Hid (∀ W, Calls Tryz.prog 23 #[.int .i64 (f : Int)] W fun x w' => x = .returned (.string ⟨t1.toArray⟩) ∧ Below W.heap.size W w') := Lib.hid (by rw [ht1]; exact HT1.out)
  have HT2' : Hid (∀ W, Calls Tryz.prog 23 #[.int .i64 (t : Int)] W fun x w' => x = .returned (.string ⟨t2.toArray⟩) ∧ Below W.heap.size W w') := Lib.hid (by rw [ht2]; exact HT2.out)
  have s1' : t1.length ≤ 21 := by rw [ht1]; exact s1
  have s2' : t2.length ≤ 21 := by rw [ht2]; exact s2
  have E1 := Lib.hid ht1
  have E2 := Lib.hid ht2
  clear ht1 ht2 HT1 HT2 s1 s2
  go_wp2_with fail
  have u0 : Below w1.heap.size w1 w1 := Below.refl _ w1
  have MK := Lib.hid (show ∀ w', Below w1.heap.size w1 w' → w'.cell? ⟨w.heap.size, 0, none⟩ = some (.int .i64 (f : Int)) ∧ w'.cell? ⟨w.heap.size, 1, none⟩ = some (.int .i64 (t : Int)) ∧ Below w1.heap.size w1 w' from
    (fun w' h => ⟨(h.cell (p := ⟨w.heap.size, 0, none⟩) (blt l0)).trans l0, (h.cell (p := ⟨w.heap.size, 1, none⟩) (blt l1)).trans l1, h⟩))
  have c1 : ¬ 9223372036854775807 < t1.length + 1 := by omega
  have c2 : ¬ 9223372036854775807 < t1.length + 1 + t2.length := by omega
  go_region_held3 (fun w' => w'.cell? ⟨w.heap.size, 0, none⟩ = some (.int .i64 (f : Int)) ∧ w'.cell? ⟨w.heap.size, 1, none⟩ = some (.int .i64 (t : Int)) ∧ Below w1.heap.size w1 w')
    (first | with_reducible assumption | exact MK.out _ (by with_reducible assumption) | exact MK.out _ (below_drew (by with_reducible assumption)))
    ((first
      | (go_at_call 23; go_split_ands; with_reducible refine (HT1'.out _).mono ?_; rintro e wk ⟨rfl, pB⟩; have sC := btr (by with_reducible assumption) pB; clear HT1' pB)
      | (go_at_call 23; go_split_ands; with_reducible refine (HT2'.out _).mono ?_; rintro e wl ⟨rfl, pB⟩; have sD := btr (by with_reducible assumption) pB; clear HT2' pB)))
  go_wp2
  go_ret2
  refine ⟨?_, btr HB.out sD⟩
  show Ending.returned (.tuple #[.string (⟨t1.toArray⟩ ++ ⟨#[45]⟩ ++ ⟨t2.toArray⟩), .int .i64 0]) = _
  rw [bytes3, E1.out, E2.out]
set_option maxRecDepth 100000 in
set_option maxHeartbeats 4000000 in
theorem rprint7_3z (t : Nat) (w : World) (h2 : t ≤ 65535) (hr : rightQ 0 (t : Int) = true) (hTM : ((t : Int) == 65535) = false) (hFT : ((0 : Int) == (t : Int)) = false) : Calls Tryz.prog 8 #[.agg #[.int .i64 0, .int .i64 (t : Int)]] w fun x w' => x = .returned (.tuple #[.string ⟨((Lib.itoa 0 ++ [45]) ++ Lib.itoa (t : Int)).toArray⟩, .int .i64 0]) ∧ Below w.heap.size w w' := by
  have C1 := fun W => rright7_c 0 (t : Int) W
  rw [hr] at C1
  have H1 := Lib.hid C1
  have HT1 := Lib.hid (fun W => num_c 0 (by omega) W)
  have HT2 := Lib.hid (fun W => num_c t (by omega) W)
  have s1 := itoa21 (n := ((0 : Nat) : Int)) (by omega) (by omega)
  have s2 := itoa21 (n := (t : Int)) (by omega) (by omega)
  clear C1 hr
  go_enter Tryz.func8, Tryz.ntmps8
  go_wp2_with fail
  have k0 : (w.alloc (.cells #[.int .i64 0, .int .i64 (t : Int)] 23)).cell? ⟨w.heap.size, 0, none⟩ = some (.int .i64 0) := by go_simp
  have k1 : (w.alloc (.cells #[.int .i64 0, .int .i64 (t : Int)] 23)).cell? ⟨w.heap.size, 1, none⟩ = some (.int .i64 (t : Int)) := by go_simp
  have HA := Lib.hid (below_alloc w (.cells #[.int .i64 0, .int .i64 (t : Int)] 23))
  generalize (w.alloc (.cells #[.int .i64 0, .int .i64 (t : Int)] 23)) = U at *
  refine (H1.out _).mono ?_; rintro e w1 ⟨rfl, hb1⟩
  have l0 := (hb1.cell (p := ⟨w.heap.size, 0, none⟩) (blt k0)).trans k0
  have l1 := (hb1.cell (p := ⟨w.heap.size, 1, none⟩) (blt k0)).trans k1
  have HB := Lib.hid (btr HA.out hb1)
  clear k0 k1 HA hb1
  obtain ⟨t1, ht1⟩ : ∃ t1, t1 = Lib.itoa 0 := ⟨_, rfl⟩
  obtain ⟨t2, ht2⟩ : ∃ t2, t2 = Lib.itoa (t : Int) := ⟨_, rfl⟩
  have HT1' : Hid (∀ W, Calls Tryz.prog 23 #[.int .i64 0] W fun x w' => x = .returned (.string ⟨t1.toArray⟩) ∧ Below W.heap.size W w') := Lib.hid (by rw [ht1]; exact HT1.out)
  have HT2' : Hid (∀ W, Calls Tryz.prog 23 #[.int .i64 (t : Int)] W fun x w' => x = .returned (.string ⟨t2.toArray⟩) ∧ Below W.heap.size W w') := Lib.hid (by rw [ht2]; exact HT2.out)
  have s1' : t1.length ≤ 21 := by rw [ht1]; exact s1
  have s2' : t2.length ≤ 21 := by rw [ht2]; exact s2
  have E1 := Lib.hid ht1
  have E2 := Lib.hid ht2
  clear ht1 ht2 HT1 HT2 s1 s2
  go_wp2_with fail
  have u0 : Below w1.heap.size w1 w1 := Below.refl _ w1
  have MK := Lib.hid (show ∀ w', Below w1.heap.size w1 w' → w'.cell? ⟨w.heap.size, 0, none⟩ = some (.int .i64 0) ∧ w'.cell? ⟨w.heap.size, 1, none⟩ = some (.int .i64 (t : Int)) ∧ Below w1.heap.size w1 w' from
    (fun w' h => ⟨(h.cell (p := ⟨w.heap.size, 0, none⟩) (blt l0)).trans l0, (h.cell (p := ⟨w.heap.size, 1, none⟩) (blt l1)).trans l1, h⟩))
  have c1 : ¬ 9223372036854775807 < t1.length + 1 := by omega
  have c2 : ¬ 9223372036854775807 < t1.length + 1 + t2.length := by omega
  go_region_held3 (fun w' => w'.cell? ⟨w.heap.size, 0, none⟩ = some (.int .i64 0) ∧ w'.cell? ⟨w.heap.size, 1, none⟩ = some (.int .i64 (t : Int)) ∧ Below w1.heap.size w1 w')
    (first | with_reducible assumption | exact MK.out _ (by with_reducible assumption) | exact MK.out _ (below_drew (by with_reducible assumption)))
    ((first
      | (go_at_call 23; go_split_ands; with_reducible refine (HT1'.out _).mono ?_; rintro e wk ⟨rfl, pB⟩; have sC := btr (by with_reducible assumption) pB; clear HT1' pB)
      | (go_at_call 23; go_split_ands; with_reducible refine (HT2'.out _).mono ?_; rintro e wl ⟨rfl, pB⟩; have sD := btr (by with_reducible assumption) pB; clear HT2' pB)))
  go_wp2
  go_ret2
  refine ⟨?_, btr HB.out sD⟩
  show Ending.returned (.tuple #[.string (⟨t1.toArray⟩ ++ ⟨#[45]⟩ ++ ⟨t2.toArray⟩), .int .i64 0]) = _
  rw [bytes3, E1.out, E2.out]
theorem rprint7_c (F T : Int) (w : World) : Calls Tryz.prog 8 #[.agg #[.int .i64 F, .int .i64 T]] w fun x w' => x = .returned (.tuple #[.string ⟨(prS F T).toArray⟩, .int .i64 (prE F T)]) ∧ Below w.heap.size w w' := by
  cases hr : rightQ F T with
  | false =>
    have e : prS F T = [] ∧ prE F T = 70 := by unfold prS prE; rw [hr]; exact ⟨rfl, rfl⟩
    rw [e.1, e.2]; exact rprint7_0 F T w hr
  | true =>
    have e : prE F T = 0 := by unfold prE; rw [hr]; rfl
    rw [e]
    have hp : prS F T = (if F = 0 ∧ T = 65535 then [42] else if F = T then Lib.itoa F else (Lib.itoa F ++ [45]) ++ Lib.itoa T) := by unfold prS; rw [hr]; rfl
    rw [hp]
    have hb := rightQ_iff.1 hr
    obtain ⟨t, rfl⟩ : ∃ v : Nat, T = v := ⟨T.toNat, by omega⟩
    by_cases h0 : F = 0
    · subst h0
      by_cases h1 : (t : Int) = 65535
      · obtain rfl : t = 65535 := by omega
        rw [if_pos ⟨rfl, rfl⟩]; exact rprint7_1 w hr
      · rw [if_neg (by omega)]
        by_cases h2 : 0 = (t : Int)
        · obtain rfl : t = 0 := by omega
          rw [if_pos (show (0 : Int) = ((0 : Nat) : Int) from rfl)]; exact rprint7_2z w hr
        · rw [if_neg h2]; exact rprint7_3z t w (by omega) hr (by simpa using h1) (by simpa using h2)
    · rw [if_neg (by omega)]
      obtain ⟨f, rfl⟩ : ∃ v : Nat, F = v := ⟨F.toNat, by omega⟩
      by_cases h2 : (f : Int) = (t : Int)
      · obtain rfl : f = t := by omega
        rw [if_pos rfl]; exact rprint7_2 f w (by omega) hr (by simpa using h0)
      · rw [if_neg h2]; exact rprint7_3 f t w (by omega) (by omega) hr (by simpa using h0) (by simpa using h2)
end Go.Proofs.YtlnjalhlbfbjcaaGreatDoor

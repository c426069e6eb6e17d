/- Ports: which are right, what they have, what two have together: contracts. -/
import Derived.Test.YtlnjalhlbfbjcaaGreatDoorJ
namespace Go.Proofs.YtlnjalhlbfbjcaaGreatDoor
open Go.RowKit Go.Shelf
attribute [local go_sem] Oper.semAt_some

def risB (F T : Int) : Bool := decide (0 ≤ F) && decide (F ≤ T)
def rightQ (F T : Int) : Bool := risB F T && decide (T ≤ 65535)
theorem rightQ_iff {F T : Int} : rightQ F T = true ↔ 0 ≤ F ∧ F ≤ T ∧ T ≤ 65535 := by simp [rightQ, risB, and_assoc]
def hasQ (F T n : Int) : Bool := rightQ F T && (decide (F ≤ n) && decide (n ≤ T))

theorem rising_c (F T : Int) (w : World) : Calls Tryz.prog 31 #[.agg #[.int .i64 F, .int .i64 T]] w fun x w' => x = .returned (.bool (risB F T)) ∧ Below w.heap.size w w' := by
  by_cases h : 0 ≤ F
  · by_cases h' : F ≤ T
    · have e : risB F T = true := by simp [risB, h, h']
      go_enter Tryz.func31, Tryz.ntmps31
      go_wp2
      go_ret
      exact ⟨ret_bool (by first | rfl | rw [e] | exact e.symm), below_alloc _ _⟩
    · have e : risB F T = false := by simp [risB, h']
      go_enter Tryz.func31, Tryz.ntmps31
      go_wp2
      go_ret
      exact ⟨ret_bool (by first | rfl | rw [e] | exact e.symm), below_alloc _ _⟩
  · have e : risB F T = false := by simp [risB, h]
    go_enter Tryz.func31, Tryz.ntmps31
    go_wp2
    go_ret
    exact ⟨ret_bool (by first | rfl | rw [e] | exact e.symm), below_alloc _ _⟩
theorem bounded_c (F T : Int) (w : World) : Calls Tryz.prog 32 #[.agg #[.int .i64 F, .int .i64 T]] w fun x w' => x = .returned (.bool (decide (T ≤ 65535))) ∧ Below w.heap.size w w' := by
  go_enter Tryz.func32, Tryz.ntmps32
  go_wp2
  go_ret
  exact ⟨rfl, below_alloc _ _⟩

set_option maxRecDepth 100000 in
set_option maxHeartbeats 2000000 in
theorem checks2_c (A K : Int) (b : Nat) (w : World) (h0 : w.cell? ⟨b, 0, none⟩ = some (.func (.func 31) #[] #[])) (h1 : w.cell? ⟨b, 1, none⟩ = some (.func (.func 32) #[] #[])) :
    Calls Tryz.prog 30 #[.agg #[.int .i64 A, .int .i64 K], .slice (some ⟨b, 0, none⟩) 2 2] w fun x w' => x = .returned (.bool (rightQ A K)) ∧ Below w.heap.size w w' := by
  have hb := blt h0
  have H1 := Lib.hid (fun W (h : Below w.heap.size w W) => (h.cell (p := ⟨b, 1, none⟩) hb).trans h1)
  have hw0 : (w.alloc (.cells #[.int .i64 A, .int .i64 K] 63)).cell? ⟨w.heap.size, 0, none⟩ = some (.int .i64 A) := by go_simp
  have hw1 : (w.alloc (.cells #[.int .i64 A, .int .i64 K] 63)).cell? ⟨w.heap.size, 1, none⟩ = some (.int .i64 K) := by go_simp
  have HV := Lib.hid (show ∀ W, Below (w.alloc (.cells #[.int .i64 A, .int .i64 K] 63)).heap.size (w.alloc (.cells #[.int .i64 A, .int .i64 K] 63)) W → W.cell? ⟨w.heap.size, 0, none⟩ = some (.int .i64 A) ∧ W.cell? ⟨w.heap.size, 1, none⟩ = some (.int .i64 K) from
    fun W h => ⟨(h.cell (p := ⟨w.heap.size, 0, none⟩) (blt hw0)).trans hw0, (h.cell (p := ⟨w.heap.size, 1, none⟩) (blt hw1)).trans hw1⟩)
  have G1 := fun W => rising_c A K W
  have C2 := Lib.hid (fun W => bounded_c A K W)
  unfold rightQ
  clear h1 hw0 hw1
  cases hk : risB A K with
  | false =>
    rw [hk] at G1
    simp only [Bool.false_and]
    have C1 := Lib.hid G1
    clear G1 C2 hk H1 HV
    go_enter Tryz.func30, Tryz.ntmps30
    go_wp2
    refine wp_loop_rounds 4 ?_
    rw [rounds_succ]
    go_wp2_with (go_at_call 31; refine (C1.out _).mono ?_; rintro x w1 ⟨rfl, hB1⟩)
    go_ret
    exact ⟨rfl, btr (below_alloc _ _) hB1⟩
  | true =>
    rw [hk] at G1
    have C1 := Lib.hid G1
    clear G1 hk
    simp only [Bool.true_and]
    generalize decide (K ≤ 65535) = r at *
    cases r
    all_goals
      go_enter Tryz.func30, Tryz.ntmps30
      go_wp2
      refine wp_loop_rounds 4 ?_
      rw [rounds_succ]
      go_wp2_with (go_at_call 31; refine (C1.out _).mono ?_; rintro x w1 ⟨rfl, hB1⟩)
      obtain ⟨c0, c1⟩ := HV.out w1 hB1
      have k1 := H1.out w1 (btr (below_alloc _ _) hB1)
      rw [rounds_succ]
      go_wp2_with (go_at_call 32; refine (C2.out _).mono ?_; rintro x w2 ⟨rfl, hB2⟩)
      have hE := btr (btr (below_alloc _ _) hB1) hB2
      clear hB1 hB2
      first
        | (go_ret; exact ⟨rfl, hE⟩)
        | (rw [rounds_succ]; go_wp2; go_ret; exact ⟨rfl, hE⟩)

set_option maxRecDepth 100000 in
theorem rightQ_c (A K : Int) (w : World) : Calls Tryz.prog 13 #[.agg #[.int .i64 A, .int .i64 K]] w fun x w' => x = .returned (.bool (rightQ A K)) ∧ Below w.heap.size w w' := by
  have H := Lib.hid (fun b W h0 h1 => checks2_c A K b W h0 h1)
  go_enter Tryz.func13, Tryz.ntmps13
  go_wp2_with (go_at_call 30; refine (H.out _ _ (by go_simp) (by go_simp)).mono ?_; rintro x w1 ⟨rfl, hB1⟩)
  go_ret
  exact ⟨rfl, btr (bal (below_alloc _ _) _) hB1⟩

set_option maxRecDepth 100000 in
theorem hasQ_c (F T n : Int) (w : World) : Calls Tryz.prog 15 #[.agg #[.int .i64 F, .int .i64 T], .int .i64 n] w fun x w' => x = .returned (.bool (hasQ F T n)) ∧ Below w.heap.size w w' := by
  have G1 := fun W => rightQ_c F T W
  unfold hasQ
  cases hk : rightQ F T with
  | false =>
    rw [hk] at G1
    simp only [Bool.false_and]
    have C1 := Lib.hid G1
    clear G1 hk
    go_enter Tryz.func15, Tryz.ntmps15
    go_wp2_with (go_at_call 13; refine (C1.out _).mono ?_; rintro x w1 ⟨rfl, hB1⟩)
    go_ret
    exact ⟨ret_bool (by first | rfl | (simp <;> omega)), btr (below_alloc _ _) hB1⟩
  | true =>
    rw [hk] at G1
    simp only [Bool.true_and]
    have C1 := Lib.hid G1
    clear G1 hk
    by_cases h1 : F ≤ n
    · by_cases h2 : n ≤ T
      · have e : (decide (F ≤ n) && decide (n ≤ T)) = true := by simp [h1, h2]
        rw [e]
        clear e
        go_enter Tryz.func15, Tryz.ntmps15
        go_wp2_with (go_at_call 13; refine (C1.out _).mono ?_; rintro x w1 ⟨rfl, hB1⟩; have z0 : w1.cell? ⟨w.heap.size, 0, none⟩ = some (.int .i64 F) := (hB1.cell (p := ⟨w.heap.size, 0, none⟩) (by simp)).trans (by go_simp); have z1 : w1.cell? ⟨w.heap.size, 1, none⟩ = some (.int .i64 T) := (hB1.cell (p := ⟨w.heap.size, 1, none⟩) (by simp)).trans (by go_simp))
        go_ret
        exact ⟨ret_bool (by first | rfl | (simp <;> omega)), btr (below_alloc _ _) hB1⟩
      · have e : (decide (F ≤ n) && decide (n ≤ T)) = false := by simp [h2]
        rw [e]
        clear e
        go_enter Tryz.func15, Tryz.ntmps15
        go_wp2_with (go_at_call 13; refine (C1.out _).mono ?_; rintro x w1 ⟨rfl, hB1⟩; have z0 : w1.cell? ⟨w.heap.size, 0, none⟩ = some (.int .i64 F) := (hB1.cell (p := ⟨w.heap.size, 0, none⟩) (by simp)).trans (by go_simp); have z1 : w1.cell? ⟨w.heap.size, 1, none⟩ = some (.int .i64 T) := (hB1.cell (p := ⟨w.heap.size, 1, none⟩) (by simp)).trans (by go_simp))
        go_ret
        exact ⟨ret_bool (by first | rfl | (simp <;> omega)), btr (below_alloc _ _) hB1⟩
    · have e : (decide (F ≤ n) && decide (n ≤ T)) = false := by simp [h1]
      rw [e]
      clear e
      go_enter Tryz.func15, Tryz.ntmps15
      go_wp2_with (go_at_call 13; refine (C1.out _).mono ?_; rintro x w1 ⟨rfl, hB1⟩; have z0 : w1.cell? ⟨w.heap.size, 0, none⟩ = some (.int .i64 F) := (hB1.cell (p := ⟨w.heap.size, 0, none⟩) (by simp)).trans (by go_simp); have z1 : w1.cell? ⟨w.heap.size, 1, none⟩ = some (.int .i64 T) := (hB1.cell (p := ⟨w.heap.size, 1, none⟩) (by simp)).trans (by go_simp))
      go_ret
      exact ⟨ret_bool (by first | rfl | (simp <;> omega)), btr (below_alloc _ _) hB1⟩
end Go.Proofs.YtlnjalhlbfbjcaaGreatDoor

/- check.Of at a prefix's three checks; Right, Ends, Of: their contracts. -/
import Derived.Test.YtlmgdhhlflmghaaDoorA
namespace Go.Proofs.YtlmgdhhlflmghaaDoor
open Go.RowKit

set_option maxRecDepth 100000 in
set_option maxHeartbeats 2000000 in
theorem checks_c (A K : Int) (b : Nat) (w : World) (h0 : w.cell? ⟨b, 0, none⟩ = some (.func (.func 43) #[] #[])) (h1 : w.cell? ⟨b, 1, none⟩ = some (.func (.func 44) #[] #[])) (h2 : w.cell? ⟨b, 2, none⟩ = some (.func (.func 45) #[] #[])) :
    Calls Tryd.prog 42 #[.agg #[.int .i64 A, .int .i64 K], .slice (some ⟨b, 0, none⟩) 3 3] w fun x w' => x = .returned (.bool (rightB A K)) ∧ Below w.heap.size w w' := by
  have hb := blt h0
  have H1 := Lib.hid (fun W (h : Below w.heap.size w W) => (h.cell (p := ⟨b, 1, none⟩) hb).trans h1)
  have H2 := Lib.hid (fun W (h : Below w.heap.size w W) => (h.cell (p := ⟨b, 2, none⟩) hb).trans h2)
  have hw0 : (w.alloc (.cells #[.int .i64 A, .int .i64 K] 56)).cell? ⟨w.heap.size, 0, none⟩ = some (.int .i64 A) := by go_simp
  have hw1 : (w.alloc (.cells #[.int .i64 A, .int .i64 K] 56)).cell? ⟨w.heap.size, 1, none⟩ = some (.int .i64 K) := by go_simp
  have HV := Lib.hid (show ∀ W, Below (w.alloc (.cells #[.int .i64 A, .int .i64 K] 56)).heap.size (w.alloc (.cells #[.int .i64 A, .int .i64 K] 56)) W → W.cell? ⟨w.heap.size, 0, none⟩ = some (.int .i64 A) ∧ W.cell? ⟨w.heap.size, 1, none⟩ = some (.int .i64 K) from
    fun W h => ⟨(h.cell (p := ⟨w.heap.size, 0, none⟩) (blt hw0)).trans hw0, (h.cell (p := ⟨w.heap.size, 1, none⟩) (blt hw1)).trans hw1⟩)
  have G1 := fun W => hasBits_c A K W
  have G2 := fun W => hasAddr_c A K W
  unfold rightB
  clear h1 h2 hw0 hw1
  cases hk : okK K with
  | false =>
    rw [hk] at G1
    simp only [Bool.false_and]
    have C1 := Lib.hid G1
    clear G1 G2 hk H1 H2 HV
    go_enter Tryd.func42, Tryd.ntmps42
    go_wp2
    refine wp_loop_rounds 4 ?_
    rw [rounds_succ]
    go_wp2_with (go_at_call 43; refine (C1.out _).mono ?_; rintro x w1 ⟨rfl, hB1⟩)
    go_ret
    exact ⟨rfl, btr (below_alloc _ _) hB1⟩
  | true =>
    rw [hk] at G1
    have C1 := Lib.hid G1
    clear G1
    cases ha : isA A with
    | false =>
      rw [ha] at G2
      simp only [Bool.true_and, Bool.false_and]
      have C2 := Lib.hid G2
      clear G2 hk H2 ha
      go_enter Tryd.func42, Tryd.ntmps42
      go_wp2
      refine wp_loop_rounds 4 ?_
      rw [rounds_succ]
      go_wp2_with (go_at_call 43; refine (C1.out _).mono ?_; rintro x w1 ⟨rfl, hB1⟩)
      obtain ⟨c0, c1⟩ := HV.out w1 hB1
      have k1 := H1.out w1 (btr (below_alloc _ _) hB1)
      rw [rounds_succ]
      go_wp2_with (go_at_call 44; refine (C2.out _).mono ?_; rintro x w2 ⟨rfl, hB2⟩)
      go_ret
      exact ⟨rfl, btr (btr (below_alloc _ _) hB1) hB2⟩
    | true =>
      rw [ha] at G2
      simp only [Bool.true_and]
      have C2 := Lib.hid G2
      have C3 := Lib.hid (fun W => isCut_c A K ha hk W)
      clear G2 hk ha
      generalize decide (A % blk K = 0) = r at *
      cases r
      all_goals
        go_enter Tryd.func42, Tryd.ntmps42
        go_wp2
        refine wp_loop_rounds 4 ?_
        rw [rounds_succ]
        go_wp2_with (go_at_call 43; refine (C1.out _).mono ?_; rintro x w1 ⟨rfl, hB1⟩)
        obtain ⟨c0, c1⟩ := HV.out w1 hB1
        have k1 := H1.out w1 (btr (below_alloc _ _) hB1)
        rw [rounds_succ]
        go_wp2_with (go_at_call 44; refine (C2.out _).mono ?_; rintro x w2 ⟨rfl, hB2⟩)
        obtain ⟨c2, c3⟩ := HV.out w2 (btr hB1 hB2)
        have k2 := H2.out w2 (btr (btr (below_alloc _ _) hB1) hB2)
        rw [rounds_succ]
        go_wp2_with (go_at_call 45; refine (C3.out _).mono ?_; rintro x w3 ⟨rfl, hB3⟩)
        have hE := btr (btr (btr (below_alloc _ _) hB1) hB2) hB3
        clear hB1 hB2 hB3
        first
          | (go_ret; exact ⟨rfl, hE⟩)
          | (rw [rounds_succ]; go_wp2; go_ret; exact ⟨rfl, hE⟩)

set_option maxRecDepth 100000 in
theorem right_c (A K : Int) (w : World) : Calls Tryd.prog 20 #[.agg #[.int .i64 A, .int .i64 K]] w fun x w' => x = .returned (.bool (rightB A K)) ∧ Below w.heap.size w w' := by
  have H := Lib.hid (fun b W h0 h1 h2 => checks_c A K b W h0 h1 h2)
  go_enter Tryd.func20, Tryd.ntmps20
  go_wp2_with (go_at_call 42; refine (H.out _ _ (by go_simp) (by go_simp) (by go_simp)).mono ?_; rintro x w1 ⟨rfl, hB1⟩)
  go_ret
  exact ⟨rfl, btr (bal (below_alloc _ _) _) hB1⟩
end Go.Proofs.YtlmgdhhlflmghaaDoor

/- Ends, Of: their contracts. -/
import Derived.Test.YtlmgdhhlflmghaaDoorC
namespace Go.Proofs.YtlmgdhhlflmghaaDoor
open Go.RowKit

def endsA (A K : Int) : Int := if rightB A K = true then A else 0
def endsT (A K : Int) : Int := if rightB A K = true then endT A K else 0
def endsE (A K : Int) : Int := if rightB A K = true then 0 else 61
def ofA (a k : Int) : Int := if isA a = true ∧ okK k = true then cutI a k else 0
def ofK (a k : Int) : Int := if isA a = true ∧ okK k = true then k else 0
def ofE (a k : Int) : Int := if isA a = true then (if okK k = true then 0 else 61) else 60
theorem mod_all {k : Int} (h : okK k = true) : (4294967295 : Int) % blk k = blk k - 1 := by
  obtain ⟨c, hc⟩ := blk_all h
  have hp := blk_pos k
  have e : (4294967295 : Int) = (blk k - 1) + blk k * (c - 1) := by rw [Int.mul_sub, ← hc]; omega
  rw [e, Int.add_mul_emod_self_left, Int.emod_eq_of_lt (by omega) (by omega)]
theorem or_end {A K : Int} (h : rightB A K = true) : bits .or .i64 A (blk K - 1) = endT A K := by
  obtain ⟨h1, h2, h3⟩ := right_parts h
  obtain ⟨m, hm, rfl, e⟩ := okK_cases h1
  unfold endT
  rw [e, pow_cast] at h3 ⊢
  exact bits_or (isA_iff.1 h2).1 (isA_iff.1 h2).2 hm h3

set_option maxRecDepth 100000 in
set_option maxHeartbeats 4000000 in
theorem ends_no (A K : Int) (hr : rightB A K = false) (w : World) : Calls Tryd.prog 22 #[.agg #[.int .i64 A, .int .i64 K]] w fun x w' => x = .returned (.tuple #[.int .i64 0, .int .i64 0, .int .i64 61]) ∧ Below w.heap.size w w' := by
  have HR := Lib.hid (fun W => right_c A K W)
  rw [hr] at HR
  clear hr
  go_enter Tryd.func22, Tryd.ntmps22
  go_wp2_with (go_at_call 20; refine (HR.out _).mono ?_; rintro x w1 ⟨rfl, hB1⟩)
  exact bodyPost_ret (v := .tuple #[.int .i64 0, .int .i64 0, .int .i64 61]) (by simp [results, Tryd.results22, go_sem]) rfl ⟨rfl, btr (below_alloc _ _) hB1⟩

set_option maxRecDepth 100000 in
set_option maxHeartbeats 4000000 in
theorem ends_ok (A kk : Int) (hr : rightB A kk = true) (w : World) : Calls Tryd.prog 22 #[.agg #[.int .i64 A, .int .i64 kk]] w fun x w' => x = .returned (.tuple #[.int .i64 A, .int .i64 (endT A kk), .int .i64 0]) ∧ Below w.heap.size w w' := by
  obtain ⟨h1, h2, h3⟩ := right_parts hr
  have HR := Lib.hid (fun W => right_c A kk W)
  have HB := Lib.hid (fun W => behind_c kk h1 W)
  have HM := Lib.hid (fun b W h => mask_c 4294967295 kk b W (by omega) (by omega) h1 h)
  rw [mod_all h1] at HM
  have hor := or_end hr
  rw [hr] at HR
  clear hr h1 h2 h3
  generalize endT A kk = T at *
  go_enter Tryd.func22, Tryd.ntmps22
  go_wp2_with fail
  refine (HR.out _).mono ?_; rintro x w1 ⟨rfl, hB1⟩
  have k0 : w1.cell? ⟨w.heap.size, 0, none⟩ = some (.int .i64 A) := (hB1.cell (p := ⟨w.heap.size, 0, none⟩) (by simp)).trans (by go_simp)
  have k1 : w1.cell? ⟨w.heap.size, 1, none⟩ = some (.int .i64 kk) := (hB1.cell (p := ⟨w.heap.size, 1, none⟩) (by simp)).trans (by go_simp)
  have HA := Lib.hid (btr (below_alloc w (.cells #[.int .i64 A, .int .i64 kk] 23)) hB1)
  clear hB1 HR
  go_wp2_with fail
  have u0 : Below w1.heap.size w1 w1 := Below.refl _ w1
  have MK := Lib.hid (show ∀ w', Below w1.heap.size w1 w' → w'.cell? ⟨w.heap.size, 0, none⟩ = some (.int .i64 A) ∧ w'.cell? ⟨w.heap.size, 1, none⟩ = some (.int .i64 kk) ∧ Below w1.heap.size w1 w' from
    (fun w' h => ⟨(h.cell (p := ⟨w.heap.size, 0, none⟩) (blt k0)).trans k0, (h.cell (p := ⟨w.heap.size, 1, none⟩) (blt k0)).trans k1, h⟩))
  refine wp_region_held_drew (S := (fun w' => w'.cell? ⟨w.heap.size, 0, none⟩ = some (.int .i64 A) ∧ w'.cell? ⟨w.heap.size, 1, none⟩ = some (.int .i64 kk) ∧ Below w1.heap.size w1 w')) (by kernel_rfl) ?_ (fun hHeld => ?_)
  · (first | with_reducible assumption | exact MK.out _ (by with_reducible assumption) | exact MK.out _ (below_drew (by with_reducible assumption)))
  refine takeH (i := 0) (some 8) (v := ?_) rfl rfl (by kernel_rfl) (by kernel_rfl) (by kernel_rfl) (fun _ _ _ h => h) (Or.inl ⟨by rfl, ?hy0⟩) hHeld ?rest0
  case hy0 => (intro w hSw; (try dsimp only at hSw); go_simp; (try with_reducible rfl))
  try simp only [Act.put, List.setIfInBounds_toArray, List.set_cons_zero, List.set_cons_succ]
  refine takeH (i := 1) (some 9) (v := ?_) rfl rfl (by kernel_rfl) (by kernel_rfl) (by kernel_rfl) (fun _ _ _ h => h) (Or.inl ⟨by rfl, ?hy1⟩) hHeld ?rest1
  case hy1 => (intro w hSw; (try dsimp only at hSw); go_simp; (try with_reducible rfl))
  try simp only [Act.put, List.setIfInBounds_toArray, List.set_cons_zero, List.set_cons_succ]
  refine takeH (i := 2) (some 10) (v := ?_) rfl rfl (by kernel_rfl) (by kernel_rfl) (by kernel_rfl) (fun _ _ _ h => h) (Or.inl ⟨by rfl, ?hy2⟩) hHeld ?rest2
  case hy2 => (intro w hSw; (try dsimp only at hSw); go_simp; (try with_reducible rfl))
  try simp only [Act.put, List.setIfInBounds_toArray, List.set_cons_zero, List.set_cons_succ]
  refine takeH (i := 3) (some 11) (v := ?_) rfl rfl (by kernel_rfl) (by kernel_rfl) (by kernel_rfl) (fun _ _ _ h => h) (Or.inl ⟨by rfl, ?hy3⟩) hHeld ?rest3
  case hy3 => (intro w hSw; (try dsimp only at hSw); go_simp; (try with_reducible rfl))
  try simp only [Act.put, List.setIfInBounds_toArray, List.set_cons_zero, List.set_cons_succ]
  refine takeH (i := 4) (some 12) (v := ?_) rfl rfl (by kernel_rfl) (by kernel_rfl) (by kernel_rfl) (fun _ _ _ h => h) (Or.inl ⟨by rfl, ?hy4⟩) hHeld ?rest4
  case hy4 => (intro w hSw; (try dsimp only at hSw); go_simp; (try with_reducible rfl))
  try simp only [Act.put, List.setIfInBounds_toArray, List.set_cons_zero, List.set_cons_succ]
  refine takeH (i := 5) (some 13) (v := ?_) rfl rfl (by kernel_rfl) (by kernel_rfl) (by kernel_rfl) (fun _ _ _ h => h) (Or.inl ⟨by rfl, ?hy5⟩) hHeld ?rest5
  case hy5 => (intro w hSw; (try dsimp only at hSw); go_simp; (try with_reducible rfl))
  try simp only [Act.put, List.setIfInBounds_toArray, List.set_cons_zero, List.set_cons_succ]
  refine wpAnyH_ready (rs := [6]) (by kernel_rfl) (by simp) ?_
  refine AllReadyH.cons rfl (fun K hK => ?_) AllReadyH.nil
  go_simp
  with_reducible refine (HB.out _).mono ?_; rintro e wn ⟨rfl, rfl⟩; have sB : Below w1.heap.size w1 (w1.alloc (.cells #[.int .i64 (blk kk - 1)] 3)) := below_alloc _ _; clear hHeld
  refine hK.out _ _ ?_ (fun hHeld => ?_)
  · (first | with_reducible assumption | exact MK.out _ (by with_reducible assumption) | exact MK.out _ (below_drew (by with_reducible assumption)))
  clear hK K
  try simp only [Act.put, List.setIfInBounds_toArray, List.set_cons_zero, List.set_cons_succ]
  refine wpAnyH_ready (rs := [7]) (by kernel_rfl) (by simp) ?_
  refine AllReadyH.cons rfl (fun K hK => ?_) AllReadyH.nil
  go_simp
  refine (HM.out _ _ (by simp)).mono ?_; rintro e wq ⟨rfl, rfl⟩; clear hHeld
  refine hK.out _ _ ?_ (fun hHeld => ?_)
  · (first | with_reducible assumption | exact MK.out _ (by with_reducible assumption) | exact MK.out _ (below_drew (by with_reducible assumption)))
  clear hK K
  try simp only [Act.put, List.setIfInBounds_toArray, List.set_cons_zero, List.set_cons_succ]
  refine takeH (i := 8) (some 16) (v := ?_) rfl rfl (by kernel_rfl) (by kernel_rfl) (by kernel_rfl) (fun _ _ _ h => h) (Or.inl ⟨by rfl, ?hy8⟩) hHeld ?rest8
  case hy8 => (intro w hSw; (try dsimp only at hSw); go_simp; (try with_reducible rfl))
  try simp only [Act.put, List.setIfInBounds_toArray, List.set_cons_zero, List.set_cons_succ]
  refine takeH (i := 9) (some 2) (v := ?_) rfl rfl (by kernel_rfl) (by kernel_rfl) (by kernel_rfl) (fun _ _ _ h => h) (Or.inl ⟨by rfl, ?hy9⟩) hHeld ?rest9
  case hy9 => (intro w hSw; (try dsimp only at hSw); go_simp; (try with_reducible rfl))
  try simp only [Act.put, List.setIfInBounds_toArray, List.set_cons_zero, List.set_cons_succ]
  refine takeH (i := 10) (some 3) (v := ?_) rfl rfl (by kernel_rfl) (by kernel_rfl) (by kernel_rfl) (fun _ _ _ h => h) (Or.inl ⟨by rfl, ?hy10⟩) hHeld ?rest10
  case hy10 => (intro w hSw; (try dsimp only at hSw); go_simp; (try with_reducible rfl))
  try simp only [Act.put, List.setIfInBounds_toArray, List.set_cons_zero, List.set_cons_succ]
  refine takeH (i := 11) (some 4) (v := ?_) rfl rfl (by kernel_rfl) (by kernel_rfl) (by kernel_rfl) (fun _ _ _ h => h) (Or.inl ⟨by rfl, ?hy11⟩) hHeld ?rest11
  case hy11 => (intro w hSw; (try dsimp only at hSw); go_simp; (try with_reducible rfl))
  try simp only [Act.put, List.setIfInBounds_toArray, List.set_cons_zero, List.set_cons_succ]
  refine wpAnyH_done (by kernel_rfl) ?_ _
  go_wp2
  exact bodyPost_ret (v := .tuple #[.int .i64 A, .int .i64 T, .int .i64 0]) (by simp [results, Tryd.results22, go_sem]) rfl ⟨rfl, btr HA.out (below_drew sB)⟩

theorem ends_c (A K : Int) (w : World) : Calls Tryd.prog 22 #[.agg #[.int .i64 A, .int .i64 K]] w fun x w' => x = .returned (.tuple #[.int .i64 (endsA A K), .int .i64 (endsT A K), .int .i64 (endsE A K)]) ∧ Below w.heap.size w w' := by
  unfold endsA endsT endsE
  cases hr : rightB A K with
  | false => exact ends_no A K hr w
  | true => exact ends_ok A K hr w

set_option maxRecDepth 100000 in
set_option maxHeartbeats 4000000 in
theorem of_c (a k : Int) (w : World) : Calls Tryd.prog 24 #[.int .i64 a, .int .i64 k] w fun x w' => x = .returned (.tuple #[.agg #[.int .i64 (ofA a k), .int .i64 (ofK a k)], .int .i64 (ofE a k)]) ∧ Below w.heap.size w w' := by
  have H1 := fun W => isAddr_c a W
  have H2 := fun W => hasBits_c 0 k W
  unfold ofA ofK ofE
  cases ha : isA a with
  | false =>
    rw [ha] at H1
    simp only [Bool.false_eq_true, false_and, if_false]
    have HI := Lib.hid H1
    clear H1 H2 ha
    go_enter Tryd.func24, Tryd.ntmps24
    go_wp2_with (go_at_call 30; refine (HI.out _).mono ?_; rintro x w1 ⟨rfl, rfl⟩)
    exact bodyPost_ret (v := .tuple #[.agg #[.int .i64 0, .int .i64 0], .int .i64 60]) (by simp [results, Tryd.results24, go_sem]) rfl ⟨rfl, below_alloc _ _⟩
  | true =>
    rw [ha] at H1
    have HI := Lib.hid H1
    clear H1
    cases hk : okK k with
    | false =>
      rw [hk] at H2
      simp only [Bool.false_eq_true, and_false, if_false, if_true]
      have HJ := Lib.hid H2
      clear H2 ha hk
      go_enter Tryd.func24, Tryd.ntmps24
      go_wp2_with (first | (go_at_call 30; refine (HI.out _).mono ?_; rintro x w1 ⟨rfl, rfl⟩) | (go_at_call 43; refine (HJ.out _).mono ?_; rintro x w1 ⟨rfl, hB1⟩; have z0 : w1.cell? ⟨w.heap.size, 0, none⟩ = some (.int .i64 0) := (hB1.cell (p := ⟨w.heap.size, 0, none⟩) (by simp; omega)).trans (by go_simp); have z1 : w1.cell? ⟨w.heap.size, 1, none⟩ = some (.int .i64 0) := (hB1.cell (p := ⟨w.heap.size, 1, none⟩) (by simp; omega)).trans (by go_simp); have y0 : w1.frozen? ⟨w.heap.size, 0, none⟩ = false := (hB1.frozen (p := ⟨w.heap.size, 0, none⟩) (by simp; omega)).trans (by go_simp); have y1 : w1.frozen? ⟨w.heap.size, 1, none⟩ = false := (hB1.frozen (p := ⟨w.heap.size, 1, none⟩) (by simp; omega)).trans (by go_simp)))
      exact bodyPost_ret (v := .tuple #[.agg #[.int .i64 0, .int .i64 0], .int .i64 61]) (by simp [results, Tryd.results24, go_sem, z0, z1]) rfl ⟨rfl, (((btr (bal (below_alloc _ _) _) hB1).setCell (p := ⟨w.heap.size, 0, none⟩) (Nat.le_refl _) _).setCell (p := ⟨w.heap.size, 1, none⟩) (Nat.le_refl _) _)⟩
    | true =>
      rw [hk] at H2
      simp only [and_self, if_true]
      have HJ := Lib.hid H2
      have HC := Lib.hid (fun W => cut_c a k ha hk W)
      generalize cutI a k = c at *
      clear H2 ha hk
      go_enter Tryd.func24, Tryd.ntmps24
      go_wp2_with (first | (go_at_call 30; refine (HI.out _).mono ?_; rintro x w1 ⟨rfl, rfl⟩) | (go_at_call 43; refine (HJ.out _).mono ?_; rintro x w1 ⟨rfl, hB1⟩; have z0 : w1.cell? ⟨w.heap.size, 0, none⟩ = some (.int .i64 0) := (hB1.cell (p := ⟨w.heap.size, 0, none⟩) (by simp; omega)).trans (by go_simp); have z1 : w1.cell? ⟨w.heap.size, 1, none⟩ = some (.int .i64 0) := (hB1.cell (p := ⟨w.heap.size, 1, none⟩) (by simp; omega)).trans (by go_simp); have y0 : w1.frozen? ⟨w.heap.size, 0, none⟩ = false := (hB1.frozen (p := ⟨w.heap.size, 0, none⟩) (by simp; omega)).trans (by go_simp); have y1 : w1.frozen? ⟨w.heap.size, 1, none⟩ = false := (hB1.frozen (p := ⟨w.heap.size, 1, none⟩) (by simp; omega)).trans (by go_simp)) | (go_at_call 48; refine (HC.out _).mono ?_; rintro x w2 ⟨rfl, hB2⟩; have x0 : w2.cell? ⟨w.heap.size, 0, none⟩ = some (.int .i64 0) := (hB2.cell (p := ⟨w.heap.size, 0, none⟩) (blt z0)).trans z0; have x1 : w2.cell? ⟨w.heap.size, 1, none⟩ = some (.int .i64 0) := (hB2.cell (p := ⟨w.heap.size, 1, none⟩) (blt z0)).trans z1; have v0 : w2.frozen? ⟨w.heap.size, 0, none⟩ = false := (hB2.frozen (p := ⟨w.heap.size, 0, none⟩) (blt z0)).trans y0; have v1 : w2.frozen? ⟨w.heap.size, 1, none⟩ = false := (hB2.frozen (p := ⟨w.heap.size, 1, none⟩) (blt z0)).trans y1))
      exact bodyPost_ret (v := .tuple #[.agg #[.int .i64 c, .int .i64 k], .int .i64 0]) (by simp [results, Tryd.results24, go_sem, x0, x1]) rfl ⟨rfl, (((btr (btr (bal (below_alloc _ _) _) hB1) hB2).setCell (p := ⟨w.heap.size, 0, none⟩) (Nat.le_refl _) _).setCell (p := ⟨w.heap.size, 1, none⟩) (Nat.le_refl _) _)⟩

end Go.Proofs.YtlmgdhhlflmghaaDoor

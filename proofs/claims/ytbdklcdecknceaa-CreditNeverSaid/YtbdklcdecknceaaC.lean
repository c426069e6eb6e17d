/- credit.changed, Grant, Spend, New, Left. -/
import Derived.Test.YtbdklcdecknceaaB
import Derived.ScopeJumps
import Derived.WalkMore
namespace Go.Proofs.Ytbdklcdecknceaa
open Go.RowKit

theorem bnd_of {g s : Int} (h : rightB g s = true) : 0 ≤ s ∧ s ≤ g ∧ g ≤ 1000000000000 ∧ g - s ≤ 65536 := by
  unfold rightB bndB winB at h
  rw [Bool.and_eq_true, decide_eq_true_eq, decide_eq_true_eq] at h
  obtain ⟨⟨h1, h2, h3⟩, h4⟩ := h
  simp only [wrap64] at h4
  omega
theorem right_of {g s : Int} (h : 0 ≤ s ∧ s ≤ g ∧ g ≤ 1000000000000 ∧ g - s ≤ 65536) : rightB g s = true := by
  unfold rightB bndB winB
  rw [Bool.and_eq_true, decide_eq_true_eq, decide_eq_true_eq]
  simp only [wrap64]
  omega
theorem right_iff (g s : Int) : rightB g s = true ↔ 0 ≤ s ∧ s ≤ g ∧ g ≤ 1000000000000 ∧ g - s ≤ 65536 := ⟨bnd_of, right_of⟩

set_option maxHeartbeats 400000 in
theorem grant_any (b : Nat) (g n : Int) (w : World) (hc : w.cell? ⟨b, 0, none⟩ = some (.int .i64 g)) (hf : w.frozen? ⟨b, 0, none⟩ = false) :
    Calls Try.prog 29 #[.pointer (some ⟨b, 0, none⟩), .int .i64 n] w fun e w' => e = .returned (.tuple #[]) ∧ w' = w.setCell ⟨b, 0, none⟩ (.int .i64 (wrap64 (g + n))) := by
  go_enter Try.func29, Try.ntmps29
  go_wp2
  go_end0
  exact ⟨rfl, rfl⟩

set_option maxHeartbeats 400000 in
theorem spend_any (b : Nat) (s n : Int) (w : World) (hc : w.cell? ⟨b, 1, none⟩ = some (.int .i64 s)) (hf : w.frozen? ⟨b, 1, none⟩ = false) :
    Calls Try.prog 30 #[.pointer (some ⟨b, 0, none⟩), .int .i64 n] w fun e w' => e = .returned (.tuple #[]) ∧ w' = w.setCell ⟨b, 1, none⟩ (.int .i64 (wrap64 (s + n))) := by
  go_enter Try.func30, Try.ntmps30
  go_wp2
  go_end0
  exact ⟨rfl, rfl⟩

theorem bcell {W w1 : World} (hb : Below W.heap.size W w1) : (∀ b o, b < W.heap.size → w1.cell? ⟨b, o, none⟩ = W.cell? ⟨b, o, none⟩) ∧ (∀ b o, b < W.heap.size → w1.frozen? ⟨b, o, none⟩ = W.frozen? ⟨b, o, none⟩) :=
  ⟨fun b o h => hb.cell (p := ⟨b, o, none⟩) h, fun b o h => hb.frozen (p := ⟨b, o, none⟩) h⟩

set_option maxHeartbeats 400000 in
theorem left2_any (g s : Int) (w : World) :
    Calls Try.prog 15 #[.agg #[.int .i64 g, .int .i64 s]] w fun e w' => e = .returned (.int .i64 (if rightB g s = true then g - s else 0)) ∧ Below w.heap.size w w' := by
  by_cases h : rightB g s = true
  · have hb := bnd_of h
    have hw : wrap64 (g - s) = g - s := by simp only [wrap64]; omega
    rw [if_pos h]
    go_enter Try.func15, Try.ntmps15
    go_wp2_with (first
      | (go_at_call 13; refine (right_any _ _ _).mono ?_; rintro e w1 ⟨rfl, hb1⟩; obtain ⟨hc1, hf1⟩ := bcell hb1)
      | (go_at_call 24; refine (left_any _ _ _).mono ?_; rintro e w2 ⟨rfl, hb2⟩))
    go_ret
    have hz1 := hb1.size
    simp at hz1
    exact ⟨rfl, (((Below.refl _ _).alloc (Nat.le_refl _) _).trans (hb1.mono (by simp))).trans (hb2.mono (by omega))⟩
  · have h' : rightB g s = false := by simpa using h
    rw [if_neg h]
    clear h
    go_enter Try.func15, Try.ntmps15
    go_wp2_with (first
      | (go_at_call 13; refine (right_any _ _ _).mono ?_; rintro e w1 ⟨rfl, hb1⟩))
    go_ret
    exact ⟨rfl, (((Below.refl _ _).alloc (Nat.le_refl _) _).trans (hb1.mono (by simp)))⟩

set_option maxRecDepth 100000 in
set_option maxHeartbeats 1000000 in
theorem changed_g (g s n : Int) (w : World) (h : rightB g s = true) (h0 : 0 ≤ n) (h1 : n ≤ 65536) (h2 : rightB (g + n) s = true) :
    Calls Try.prog 28 #[.agg #[.int .i64 g, .int .i64 s], .int .i64 n, .func (.func 29) #[] #[]] w fun e w' => e = .returned (.tuple #[.agg #[.int .i64 (g + n), .int .i64 s], .int .i64 0]) ∧ Below w.heap.size w w' := by
  obtain ⟨b1, b2, b3, b4⟩ := bnd_of h
  have hw : wrap64 (g + n) = g + n := by simp only [wrap64]; omega
  go_enter Try.func28, Try.ntmps28
  go_wp2
  go_step3
  go_wp2_with (first
    | (go_at_call 13; refine (right_any _ _ _).mono ?_; rintro e w1 ⟨rfl, hb1⟩; obtain ⟨hc1, hf1⟩ := bcell hb1; have hz1 := hb1.size; simp only [World.size_alloc] at hz1 hb1))
  refine (grant_any _ g n _ ?_ ?_).mono ?_
  · go_simp
  · go_simp
  rintro e w2 ⟨rfl, rfl⟩
  go_wp2_with fail
  refine (right_any _ _ _).mono ?_; rintro e w3 ⟨rfl, hb3⟩; obtain ⟨hc3, hf3⟩ := bcell hb3; have hz3 := hb3.size; simp only [World.size_setCell] at hz3 hb3 hc3 hf3
  have hz : w.heap.size + 1 + 1 < w1.heap.size := by omega
  have hy : w.heap.size + 1 < w1.heap.size := by omega
  go_wp2
  rw [Exit.noGoto_ret]
  refine bodyPost_ret (v := .tuple #[.agg #[.int .i64 (g + n), .int .i64 s], .int .i64 0]) ?_ rfl ⟨rfl, ?_⟩
  · clear hz1 hz3 hb1 hb3
    simp [results, Try.results28, go_sem, hc3, hc1, hy]
  · have hW : Below w.heap.size w w3 := ((((((Below.refl _ _).alloc (Nat.le_refl _) _).alloc (by simp) _).alloc (by simp; omega) _).trans (hb1.mono (by omega))).setCell (by simp; omega) _).trans (hb3.mono (by omega))
    repeat (refine Below.setCell ?_ (by simp) _)
    exact hW

/-- What holds at every jump. -/
def AtJump (w : World) (er : Int) (a' : Act) (w' : World) : Prop :=
  (∃ u0 u1 u2 u3 u4 u5 u8 u10 u11 u12 u13 u14 u15 u16 u17 u18 u19 u20 u21 u22 u23 u24 u25 u26 u27 u28 u29 u30 u31 : Value, a' = { tmps := #[u0, u1, u2, u3, u4, u5, .pointer (some ⟨w.heap.size + 1, 0, none⟩), .int .i64 0, u8, .int .i64 er, u10, u11, u12, u13, u14, u15, u16, u17, u18, u19, u20, u21, u22, u23, u24, u25, u26, u27, u28, u29, u30, u31], defers := [] }) ∧
  Below w.heap.size w w' ∧ w.heap.size + 1 < w'.heap.size ∧ w'.cell? ⟨w.heap.size + 1, 0, none⟩ = some (.int .i64 0) ∧ w'.cell? ⟨w.heap.size + 1, 1, none⟩ = some (.int .i64 0) ∧
  w'.frozen? ⟨w.heap.size + 1, 0, none⟩ = false ∧ w'.frozen? ⟨w.heap.size + 1, 1, none⟩ = false

set_option maxRecDepth 100000 in
set_option maxHeartbeats 1000000 in
theorem changed_e1 (g s n : Int) (cv : Value) (w : World) (h : rightB g s = false) :
    Calls Try.prog 28 #[.agg #[.int .i64 g, .int .i64 s], .int .i64 n, cv] w fun e w' => e = .returned (.tuple #[.agg #[.int .i64 0, .int .i64 0], .int .i64 2]) ∧ Below w.heap.size w w' := by
  go_enter Try.func28, Try.ntmps28
  go_wp2
  refine wp_scope_jumps 0 (AtJump w 2) (fun _ _ => 0) rfl ?_ ?_
  · go_wp2_with (first
      | (go_at_call 13; refine (right_any _ _ _).mono ?_; rintro e w1 ⟨rfl, hb1⟩; obtain ⟨hc1, hf1⟩ := bcell hb1; have hz1 := hb1.size; simp only [World.size_alloc] at hz1 hb1))
    go_step3
    refine ⟨rfl, ⟨_, _, _, _, _, _, _, _, _, _, _, _, _, _, _, _, _, _, _, _, _, _, _, _, _, _, _, _, _, rfl⟩, ((((Below.refl _ _).alloc (Nat.le_refl _) _).alloc (by simp) _).alloc (by simp; omega) _).trans (hb1.mono (by omega)), by omega, ?_, ?_, ?_, ?_⟩
    all_goals (clear hb1 hz1; go_simp)

  · rintro a' w' ⟨⟨u0, u1, u2, u3, u4, u5, u8, u10, u11, u12, u13, u14, u15, u16, u17, u18, u19, u20, u21, u22, u23, u24, u25, u26, u27, u28, u29, u30, u31, rfl⟩, hW, hz, hc0, hc1, hf0, hf1⟩
    go_wp2
    simp only [Exit.jump]
    refine bodyPost_ret (v := .tuple #[.agg #[.int .i64 0, .int .i64 0], .int .i64 2]) ?_ rfl ⟨rfl, ?_⟩
    · clear hW hz
      simp [results, Try.results28, go_sem, hc0, hc1]
    · repeat (refine Below.setCell ?_ (by simp) _)
      exact hW

set_option maxRecDepth 100000 in
set_option maxHeartbeats 1000000 in
theorem changed_e2 (g s n : Int) (cv : Value) (w : World) (h : rightB g s = true) (h0 : n < 0) :
    Calls Try.prog 28 #[.agg #[.int .i64 g, .int .i64 s], .int .i64 n, cv] w fun e w' => e = .returned (.tuple #[.agg #[.int .i64 0, .int .i64 0], .int .i64 2]) ∧ Below w.heap.size w w' := by
  go_enter Try.func28, Try.ntmps28
  go_wp2
  refine wp_scope_jumps 0 (AtJump w 2) (fun _ _ => 0) rfl ?_ ?_
  · go_wp2_with (first
      | (go_at_call 13; refine (right_any _ _ _).mono ?_; rintro e w1 ⟨rfl, hb1⟩; obtain ⟨hc1, hf1⟩ := bcell hb1; have hz1 := hb1.size; simp only [World.size_alloc] at hz1 hb1))
    go_step3
    refine ⟨rfl, ⟨_, _, _, _, _, _, _, _, _, _, _, _, _, _, _, _, _, _, _, _, _, _, _, _, _, _, _, _, _, rfl⟩, ((((Below.refl _ _).alloc (Nat.le_refl _) _).alloc (by simp) _).alloc (by simp; omega) _).trans (hb1.mono (by omega)), by omega, ?_, ?_, ?_, ?_⟩
    all_goals (clear hb1 hz1; go_simp)

  · rintro a' w' ⟨⟨u0, u1, u2, u3, u4, u5, u8, u10, u11, u12, u13, u14, u15, u16, u17, u18, u19, u20, u21, u22, u23, u24, u25, u26, u27, u28, u29, u30, u31, rfl⟩, hW, hz, hc0, hc1, hf0, hf1⟩
    go_wp2
    simp only [Exit.jump]
    refine bodyPost_ret (v := .tuple #[.agg #[.int .i64 0, .int .i64 0], .int .i64 2]) ?_ rfl ⟨rfl, ?_⟩
    · clear hW hz
      simp [results, Try.results28, go_sem, hc0, hc1]
    · repeat (refine Below.setCell ?_ (by simp) _)
      exact hW

set_option maxRecDepth 100000 in
set_option maxHeartbeats 1000000 in
theorem changed_e3 (g s n : Int) (cv : Value) (w : World) (h : rightB g s = true) (h1 : 65536 < n) :
    Calls Try.prog 28 #[.agg #[.int .i64 g, .int .i64 s], .int .i64 n, cv] w fun e w' => e = .returned (.tuple #[.agg #[.int .i64 0, .int .i64 0], .int .i64 130]) ∧ Below w.heap.size w w' := by
  go_enter Try.func28, Try.ntmps28
  go_wp2
  refine wp_scope_jumps 0 (AtJump w 130) (fun _ _ => 0) rfl ?_ ?_
  · go_wp2_with (first
      | (go_at_call 13; refine (right_any _ _ _).mono ?_; rintro e w1 ⟨rfl, hb1⟩; obtain ⟨hc1, hf1⟩ := bcell hb1; have hz1 := hb1.size; simp only [World.size_alloc] at hz1 hb1))
    go_step3
    refine ⟨rfl, ⟨_, _, _, _, _, _, _, _, _, _, _, _, _, _, _, _, _, _, _, _, _, _, _, _, _, _, _, _, _, rfl⟩, ((((Below.refl _ _).alloc (Nat.le_refl _) _).alloc (by simp) _).alloc (by simp; omega) _).trans (hb1.mono (by omega)), by omega, ?_, ?_, ?_, ?_⟩
    all_goals (clear hb1 hz1; go_simp)

  · rintro a' w' ⟨⟨u0, u1, u2, u3, u4, u5, u8, u10, u11, u12, u13, u14, u15, u16, u17, u18, u19, u20, u21, u22, u23, u24, u25, u26, u27, u28, u29, u30, u31, rfl⟩, hW, hz, hc0, hc1, hf0, hf1⟩
    go_wp2
    simp only [Exit.jump]
    refine bodyPost_ret (v := .tuple #[.agg #[.int .i64 0, .int .i64 0], .int .i64 130]) ?_ rfl ⟨rfl, ?_⟩
    · clear hW hz
      simp [results, Try.results28, go_sem, hc0, hc1]
    · repeat (refine Below.setCell ?_ (by simp) _)
      exact hW

set_option maxRecDepth 100000 in
set_option maxHeartbeats 1000000 in
theorem changed_g4 (g s n : Int) (w : World) (h : rightB g s = true) (h0 : 0 ≤ n) (h1 : n ≤ 65536) (h2 : rightB (g + n) s = false) :
    Calls Try.prog 28 #[.agg #[.int .i64 g, .int .i64 s], .int .i64 n, .func (.func 29) #[] #[]] w fun e w' => e = .returned (.tuple #[.agg #[.int .i64 0, .int .i64 0], .int .i64 130]) ∧ Below w.heap.size w w' := by
  go_enter Try.func28, Try.ntmps28
  go_wp2
  refine wp_scope_jumps 0 (AtJump w 130) (fun _ _ => 0) rfl ?_ ?_
  · obtain ⟨b1, b2, b3, b4⟩ := bnd_of h
    have hw : wrap64 (g + n) = g + n := by simp only [wrap64]; omega
    go_wp2_with (first
      | (go_at_call 13; refine (right_any _ _ _).mono ?_; rintro e w1 ⟨rfl, hb1⟩; obtain ⟨hc1, hf1⟩ := bcell hb1; have hz1 := hb1.size; simp only [World.size_alloc] at hz1 hb1))
    refine (grant_any _ g n _ ?_ ?_).mono ?_
    · go_simp
    · go_simp
    rintro e w2 ⟨rfl, rfl⟩
    go_wp2_with fail
    refine (right_any _ _ _).mono ?_; rintro e w3 ⟨rfl, hb3⟩; obtain ⟨hc3, hf3⟩ := bcell hb3; have hz3 := hb3.size; simp only [World.size_setCell] at hz3 hb3 hc3 hf3
    have hz : w.heap.size + 1 + 1 < w1.heap.size := by omega
    have hy : w.heap.size + 1 < w1.heap.size := by omega
    go_wp2
    go_step3
    refine ⟨rfl, ⟨_, _, _, _, _, _, _, _, _, _, _, _, _, _, _, _, _, _, _, _, _, _, _, _, _, _, _, _, _, rfl⟩, ((((((Below.refl _ _).alloc (Nat.le_refl _) _).alloc (by simp) _).alloc (by simp; omega) _).trans (hb1.mono (by omega))).setCell (by simp; omega) _).trans (hb3.mono (by omega)), by omega, ?_, ?_, ?_, ?_⟩
    all_goals (clear hb1 hz1 hb3 hz3 hz; go_simp)

  · rintro a' w' ⟨⟨u0, u1, u2, u3, u4, u5, u8, u10, u11, u12, u13, u14, u15, u16, u17, u18, u19, u20, u21, u22, u23, u24, u25, u26, u27, u28, u29, u30, u31, rfl⟩, hW, hz, hc0, hc1, hf0, hf1⟩
    go_wp2
    simp only [Exit.jump]
    refine bodyPost_ret (v := .tuple #[.agg #[.int .i64 0, .int .i64 0], .int .i64 130]) ?_ rfl ⟨rfl, ?_⟩
    · clear hW hz
      simp [results, Try.results28, go_sem, hc0, hc1]
    · repeat (refine Below.setCell ?_ (by simp) _)
      exact hW

set_option maxRecDepth 100000 in
set_option maxHeartbeats 1000000 in
theorem changed_s4 (g s n : Int) (w : World) (h : rightB g s = true) (h0 : 0 ≤ n) (h1 : n ≤ 65536) (h2 : rightB g (s + n) = false) :
    Calls Try.prog 28 #[.agg #[.int .i64 g, .int .i64 s], .int .i64 n, .func (.func 30) #[] #[]] w fun e w' => e = .returned (.tuple #[.agg #[.int .i64 0, .int .i64 0], .int .i64 130]) ∧ Below w.heap.size w w' := by
  go_enter Try.func28, Try.ntmps28
  go_wp2
  refine wp_scope_jumps 0 (AtJump w 130) (fun _ _ => 0) rfl ?_ ?_
  · obtain ⟨b1, b2, b3, b4⟩ := bnd_of h
    have hw : wrap64 (s + n) = s + n := by simp only [wrap64]; omega
    go_wp2_with (first
      | (go_at_call 13; refine (right_any _ _ _).mono ?_; rintro e w1 ⟨rfl, hb1⟩; obtain ⟨hc1, hf1⟩ := bcell hb1; have hz1 := hb1.size; simp only [World.size_alloc] at hz1 hb1))
    refine (spend_any _ s n _ ?_ ?_).mono ?_
    · go_simp
    · go_simp
    rintro e w2 ⟨rfl, rfl⟩
    go_wp2_with fail
    refine (right_any _ _ _).mono ?_; rintro e w3 ⟨rfl, hb3⟩; obtain ⟨hc3, hf3⟩ := bcell hb3; have hz3 := hb3.size; simp only [World.size_setCell] at hz3 hb3 hc3 hf3
    have hz : w.heap.size + 1 + 1 < w1.heap.size := by omega
    have hy : w.heap.size + 1 < w1.heap.size := by omega
    go_wp2
    go_step3
    refine ⟨rfl, ⟨_, _, _, _, _, _, _, _, _, _, _, _, _, _, _, _, _, _, _, _, _, _, _, _, _, _, _, _, _, rfl⟩, ((((((Below.refl _ _).alloc (Nat.le_refl _) _).alloc (by simp) _).alloc (by simp; omega) _).trans (hb1.mono (by omega))).setCell (by simp; omega) _).trans (hb3.mono (by omega)), by omega, ?_, ?_, ?_, ?_⟩
    all_goals (clear hb1 hz1 hb3 hz3 hz; go_simp)

  · rintro a' w' ⟨⟨u0, u1, u2, u3, u4, u5, u8, u10, u11, u12, u13, u14, u15, u16, u17, u18, u19, u20, u21, u22, u23, u24, u25, u26, u27, u28, u29, u30, u31, rfl⟩, hW, hz, hc0, hc1, hf0, hf1⟩
    go_wp2
    simp only [Exit.jump]
    refine bodyPost_ret (v := .tuple #[.agg #[.int .i64 0, .int .i64 0], .int .i64 130]) ?_ rfl ⟨rfl, ?_⟩
    · clear hW hz
      simp [results, Try.results28, go_sem, hc0, hc1]
    · repeat (refine Below.setCell ?_ (by simp) _)
      exact hW

set_option maxRecDepth 100000 in
set_option maxHeartbeats 1000000 in
theorem changed_s (g s n : Int) (w : World) (h : rightB g s = true) (h0 : 0 ≤ n) (h1 : n ≤ 65536) (h2 : rightB g (s + n) = true) :
    Calls Try.prog 28 #[.agg #[.int .i64 g, .int .i64 s], .int .i64 n, .func (.func 30) #[] #[]] w fun e w' => e = .returned (.tuple #[.agg #[.int .i64 g, .int .i64 (s + n)], .int .i64 0]) ∧ Below w.heap.size w w' := by
  obtain ⟨b1, b2, b3, b4⟩ := bnd_of h
  have hw : wrap64 (s + n) = s + n := by simp only [wrap64]; omega
  go_enter Try.func28, Try.ntmps28
  go_wp2
  go_step3
  go_wp2_with (first
    | (go_at_call 13; refine (right_any _ _ _).mono ?_; rintro e w1 ⟨rfl, hb1⟩; obtain ⟨hc1, hf1⟩ := bcell hb1; have hz1 := hb1.size; simp only [World.size_alloc] at hz1 hb1))
  refine (spend_any _ s n _ ?_ ?_).mono ?_
  · go_simp
  · go_simp
  rintro e w2 ⟨rfl, rfl⟩
  go_wp2_with fail
  refine (right_any _ _ _).mono ?_; rintro e w3 ⟨rfl, hb3⟩; obtain ⟨hc3, hf3⟩ := bcell hb3; have hz3 := hb3.size; simp only [World.size_setCell] at hz3 hb3 hc3 hf3
  have hz : w.heap.size + 1 + 1 < w1.heap.size := by omega
  have hy : w.heap.size + 1 < w1.heap.size := by omega
  go_wp2
  rw [Exit.noGoto_ret]
  refine bodyPost_ret (v := .tuple #[.agg #[.int .i64 g, .int .i64 (s + n)], .int .i64 0]) ?_ rfl ⟨rfl, ?_⟩
  · clear hz1 hz3 hb1 hb3
    simp [results, Try.results28, go_sem, hc3, hc1, hy]
  · have hW : Below w.heap.size w w3 := ((((((Below.refl _ _).alloc (Nat.le_refl _) _).alloc (by simp) _).alloc (by simp; omega) _).trans (hb1.mono (by omega))).setCell (by simp; omega) _).trans (hb3.mono (by omega))
    repeat (refine Below.setCell ?_ (by simp) _)
    exact hW

end Go.Proofs.Ytbdklcdecknceaa

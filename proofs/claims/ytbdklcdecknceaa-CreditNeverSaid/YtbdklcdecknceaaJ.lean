/- The document's Grant, Spend, New. -/
import Derived.Test.YtbdklcdecknceaaI
namespace Go.Proofs.Ytbdklcdecknceaa
open Go.RowKit

set_option maxRecDepth 100000 in
set_option maxHeartbeats 2000000 in
theorem refGrant_any (g s n : Int) (w : World) (hn : -9223372036854775808 ≤ n) (hn' : n ≤ 9223372036854775807) :
    Calls Try.prog 20 #[.agg #[.int .i64 g, .int .i64 s], .int .i64 n] w fun e w' => e = .returned (.tuple #[.agg #[.int .i64 (gG g s n), .int .i64 (gS g s n)], .int .i64 (gE g s n)]) ∧ Below w.heap.size w w' := by
  cases h : rightB g s
  · rw [show gE g s n = 2 by simp [gE, h], show gG g s n = 0 by simp [gG, gE, h], show gS g s n = 0 by simp [gS, gE, h]]
    go_enter Try.func20, Try.ntmps20
    go_wp2_with fail
    refine (refRight_any _ _ _).mono ?_; rintro e w1 ⟨rfl, hb1⟩; obtain ⟨hc1, hf1⟩ := bcell hb1; have hz1 := hb1.size; simp only [World.size_alloc] at hz1 hb1
    have hW : Below w.heap.size w w1 := (((Below.refl _ _).alloc (Nat.le_refl _) _).alloc (by simp) _).trans (hb1.mono (by omega))
    have hy : w.heap.size + 1 < w1.heap.size := by omega
    have hyz : w.heap.size < w1.heap.size := by omega
    clear hb1 hz1
    go_wp2_with fail
    refine bodyPost_ret (v := .tuple #[.agg #[.int .i64 0, .int .i64 0], .int .i64 2]) ?_ rfl ⟨rfl, ?_⟩
    · simp [results, Try.results20, go_sem, hc1]
    · repeat (refine Below.setCell ?_ (by simp) _)
      exact hW
  · obtain ⟨b1, b2, b3, b4⟩ := bnd_of h
    by_cases h0 : n < 0
    · rw [show gE g s n = 2 by simp [gE, h0], show gG g s n = 0 by simp [gG, gE, h0], show gS g s n = 0 by simp [gS, gE, h0]]
      have d0 : decide (n < 0) = true := decide_eq_true h0
      go_enter Try.func20, Try.ntmps20
      go_wp2_with fail
      refine (refRight_any _ _ _).mono ?_; rintro e w1 ⟨rfl, hb1⟩; obtain ⟨hc1, hf1⟩ := bcell hb1; have hz1 := hb1.size; simp only [World.size_alloc] at hz1 hb1
      have hW : Below w.heap.size w w1 := (((Below.refl _ _).alloc (Nat.le_refl _) _).alloc (by simp) _).trans (hb1.mono (by omega))
      have hy : w.heap.size + 1 < w1.heap.size := by omega
      have hyz : w.heap.size < w1.heap.size := by omega
      clear hb1 hz1
      go_wp2_with fail
      refine bodyPost_ret (v := .tuple #[.agg #[.int .i64 0, .int .i64 0], .int .i64 2]) ?_ rfl ⟨rfl, ?_⟩
      · simp [results, Try.results20, go_sem, hc1]
      · repeat (refine Below.setCell ?_ (by simp) _)
        exact hW
    · have d0 : decide (n < 0) = false := decide_eq_false h0
      by_cases h1 : 65536 - (g - s) < n
      · have hE : gE g s n = 130 := by
          have : 65536 < n ∨ rightB (g + n) s = false := by right; rw [← Bool.not_eq_true, right_iff]; omega
          unfold gE; rw [if_neg (by simp [h, h0]), if_pos this]
        rw [hE, show gG g s n = 0 by simp [gG, hE], show gS g s n = 0 by simp [gS, hE]]
        have d1 : decide (65536 - (g - s) < n) = true := decide_eq_true h1
        clear hE
        go_enter Try.func20, Try.ntmps20
        go_wp2_with fail
        refine (refRight_any _ _ _).mono ?_; rintro e w1 ⟨rfl, hb1⟩; obtain ⟨hc1, hf1⟩ := bcell hb1; have hz1 := hb1.size; simp only [World.size_alloc] at hz1 hb1
        have hW : Below w.heap.size w w1 := (((Below.refl _ _).alloc (Nat.le_refl _) _).alloc (by simp) _).trans (hb1.mono (by omega))
        have hy : w.heap.size + 1 < w1.heap.size := by omega
        have hyz : w.heap.size < w1.heap.size := by omega
        clear hb1 hz1
        go_wp2_with fail
        refine (refLeft_any _ _ _).mono ?_; rintro e w2 ⟨rfl, hb2⟩; obtain ⟨hc2, hf2⟩ := bcell hb2; have hz2 := hb2.size
        have hW2 : Below w.heap.size w w2 := hW.trans (hb2.mono hW.size)
        have hy2 : w.heap.size + 1 < w2.heap.size := by omega
        clear hb2 hz2
        go_wp2
        clear hW
        have hW := hW2
        refine bodyPost_ret (v := .tuple #[.agg #[.int .i64 0, .int .i64 0], .int .i64 130]) ?_ rfl ⟨rfl, ?_⟩
        · simp [results, Try.results20, go_sem, hc1, hc2, hy]
        · repeat (refine Below.setCell ?_ (by simp) _)
          exact hW
      · have d1 : decide (65536 - (g - s) < n) = false := decide_eq_false h1
        by_cases h2 : 1000000000000 - g < n
        · have hE : gE g s n = 130 := by
            have : 65536 < n ∨ rightB (g + n) s = false := by right; rw [← Bool.not_eq_true, right_iff]; omega
            unfold gE; rw [if_neg (by simp [h, h0]), if_pos this]
          rw [hE, show gG g s n = 0 by simp [gG, hE], show gS g s n = 0 by simp [gS, hE]]
          have d2 : decide (1000000000000 - g < n) = true := decide_eq_true h2
          clear hE
          go_enter Try.func20, Try.ntmps20
          go_wp2_with fail
          refine (refRight_any _ _ _).mono ?_; rintro e w1 ⟨rfl, hb1⟩; obtain ⟨hc1, hf1⟩ := bcell hb1; have hz1 := hb1.size; simp only [World.size_alloc] at hz1 hb1
          have hW : Below w.heap.size w w1 := (((Below.refl _ _).alloc (Nat.le_refl _) _).alloc (by simp) _).trans (hb1.mono (by omega))
          have hy : w.heap.size + 1 < w1.heap.size := by omega
          have hyz : w.heap.size < w1.heap.size := by omega
          clear hb1 hz1
          go_wp2_with fail
          refine (refLeft_any _ _ _).mono ?_; rintro e w2 ⟨rfl, hb2⟩; obtain ⟨hc2, hf2⟩ := bcell hb2; have hz2 := hb2.size
          have hW2 : Below w.heap.size w w2 := hW.trans (hb2.mono hW.size)
          have hy2 : w.heap.size + 1 < w2.heap.size := by omega
          clear hb2 hz2
          go_wp2
          clear hW
          have hW := hW2
          refine bodyPost_ret (v := .tuple #[.agg #[.int .i64 0, .int .i64 0], .int .i64 130]) ?_ rfl ⟨rfl, ?_⟩
          · simp [results, Try.results20, go_sem, hc1, hc2, hy]
          · repeat (refine Below.setCell ?_ (by simp) _)
            exact hW
        · have hE : gE g s n = 0 := by
            have : ¬ (65536 < n ∨ rightB (g + n) s = false) := by rw [← Bool.not_eq_true, right_iff]; omega
            unfold gE; rw [if_neg (by simp [h, h0]), if_neg this]
          rw [hE, show gG g s n = g + n by simp [gG, hE], show gS g s n = s by simp [gS, hE]]
          have d2 : decide (1000000000000 - g < n) = false := decide_eq_false h2
          clear hE
          go_enter Try.func20, Try.ntmps20
          go_wp2_with fail
          refine (refRight_any _ _ _).mono ?_; rintro e w1 ⟨rfl, hb1⟩; obtain ⟨hc1, hf1⟩ := bcell hb1; have hz1 := hb1.size; simp only [World.size_alloc] at hz1 hb1
          have hW : Below w.heap.size w w1 := (((Below.refl _ _).alloc (Nat.le_refl _) _).alloc (by simp) _).trans (hb1.mono (by omega))
          have hy : w.heap.size + 1 < w1.heap.size := by omega
          have hyz : w.heap.size < w1.heap.size := by omega
          clear hb1 hz1
          go_wp2_with fail
          refine (refLeft_any _ _ _).mono ?_; rintro e w2 ⟨rfl, hb2⟩; obtain ⟨hc2, hf2⟩ := bcell hb2; have hz2 := hb2.size
          have hW2 : Below w.heap.size w w2 := hW.trans (hb2.mono hW.size)
          have hy2 : w.heap.size + 1 < w2.heap.size := by omega
          clear hb2 hz2
          go_wp2
          clear hW
          have hW := hW2
          refine bodyPost_ret (v := .tuple #[.agg #[.int .i64 (g + n), .int .i64 s], .int .i64 0]) ?_ rfl ⟨rfl, ?_⟩
          · simp [results, Try.results20, go_sem, hc1, hc2, hy]
          · repeat (refine Below.setCell ?_ (by simp) _)
            exact hW

set_option maxRecDepth 100000 in
set_option maxHeartbeats 2000000 in
theorem refSpend_any (g s n : Int) (w : World) (hn : -9223372036854775808 ≤ n) (hn' : n ≤ 9223372036854775807) :
    Calls Try.prog 22 #[.agg #[.int .i64 g, .int .i64 s], .int .i64 n] w fun e w' => e = .returned (.tuple #[.agg #[.int .i64 (sG g s n), .int .i64 (sS g s n)], .int .i64 (sE g s n)]) ∧ Below w.heap.size w w' := by
  cases h : rightB g s
  · rw [show sE g s n = 2 by simp [sE, h], show sG g s n = 0 by simp [sG, sE, h], show sS g s n = 0 by simp [sS, sE, h]]
    go_enter Try.func22, Try.ntmps22
    go_wp2_with fail
    refine (refRight_any _ _ _).mono ?_; rintro e w1 ⟨rfl, hb1⟩; obtain ⟨hc1, hf1⟩ := bcell hb1; have hz1 := hb1.size; simp only [World.size_alloc] at hz1 hb1
    have hW : Below w.heap.size w w1 := (((Below.refl _ _).alloc (Nat.le_refl _) _).alloc (by simp) _).trans (hb1.mono (by omega))
    have hy : w.heap.size + 1 < w1.heap.size := by omega
    have hyz : w.heap.size < w1.heap.size := by omega
    clear hb1 hz1
    go_wp2_with fail
    refine bodyPost_ret (v := .tuple #[.agg #[.int .i64 0, .int .i64 0], .int .i64 2]) ?_ rfl ⟨rfl, ?_⟩
    · simp [results, Try.results22, go_sem, hc1]
    · repeat (refine Below.setCell ?_ (by simp) _)
      exact hW
  · obtain ⟨b1, b2, b3, b4⟩ := bnd_of h
    by_cases h0 : n < 0
    · rw [show sE g s n = 2 by simp [sE, h0], show sG g s n = 0 by simp [sG, sE, h0], show sS g s n = 0 by simp [sS, sE, h0]]
      have d0 : decide (n < 0) = true := decide_eq_true h0
      go_enter Try.func22, Try.ntmps22
      go_wp2_with fail
      refine (refRight_any _ _ _).mono ?_; rintro e w1 ⟨rfl, hb1⟩; obtain ⟨hc1, hf1⟩ := bcell hb1; have hz1 := hb1.size; simp only [World.size_alloc] at hz1 hb1
      have hW : Below w.heap.size w w1 := (((Below.refl _ _).alloc (Nat.le_refl _) _).alloc (by simp) _).trans (hb1.mono (by omega))
      have hy : w.heap.size + 1 < w1.heap.size := by omega
      have hyz : w.heap.size < w1.heap.size := by omega
      clear hb1 hz1
      go_wp2_with fail
      refine bodyPost_ret (v := .tuple #[.agg #[.int .i64 0, .int .i64 0], .int .i64 2]) ?_ rfl ⟨rfl, ?_⟩
      · simp [results, Try.results22, go_sem, hc1]
      · repeat (refine Below.setCell ?_ (by simp) _)
        exact hW
    · have d0 : decide (n < 0) = false := decide_eq_false h0
      by_cases h1 : g - s < n
      · have hE : sE g s n = 130 := by
          have : 65536 < n ∨ rightB g (s + n) = false := by right; rw [← Bool.not_eq_true, right_iff]; omega
          unfold sE; rw [if_neg (by simp [h, h0]), if_pos this]
        rw [hE, show sG g s n = 0 by simp [sG, hE], show sS g s n = 0 by simp [sS, hE]]
        have d1 : decide (g - s < n) = true := decide_eq_true h1
        clear hE
        go_enter Try.func22, Try.ntmps22
        go_wp2_with fail
        refine (refRight_any _ _ _).mono ?_; rintro e w1 ⟨rfl, hb1⟩; obtain ⟨hc1, hf1⟩ := bcell hb1; have hz1 := hb1.size; simp only [World.size_alloc] at hz1 hb1
        have hW : Below w.heap.size w w1 := (((Below.refl _ _).alloc (Nat.le_refl _) _).alloc (by simp) _).trans (hb1.mono (by omega))
        have hy : w.heap.size + 1 < w1.heap.size := by omega
        have hyz : w.heap.size < w1.heap.size := by omega
        clear hb1 hz1
        go_wp2_with fail
        refine (refLeft_any _ _ _).mono ?_; rintro e w2 ⟨rfl, hb2⟩; obtain ⟨hc2, hf2⟩ := bcell hb2; have hz2 := hb2.size
        have hW2 : Below w.heap.size w w2 := hW.trans (hb2.mono hW.size)
        have hy2 : w.heap.size + 1 < w2.heap.size := by omega
        clear hb2 hz2
        go_wp2
        clear hW
        have hW := hW2
        refine bodyPost_ret (v := .tuple #[.agg #[.int .i64 0, .int .i64 0], .int .i64 130]) ?_ rfl ⟨rfl, ?_⟩
        · simp [results, Try.results22, go_sem, hc1, hc2, hy]
        · repeat (refine Below.setCell ?_ (by simp) _)
          exact hW
      · have d1 : decide (g - s < n) = false := decide_eq_false h1
        have hE : sE g s n = 0 := by
          have : ¬ (65536 < n ∨ rightB g (s + n) = false) := by rw [← Bool.not_eq_true, right_iff]; omega
          unfold sE; rw [if_neg (by simp [h, h0]), if_neg this]
        rw [hE, show sG g s n = g by simp [sG, hE], show sS g s n = s + n by simp [sS, hE]]
        clear hE
        go_enter Try.func22, Try.ntmps22
        go_wp2_with fail
        refine (refRight_any _ _ _).mono ?_; rintro e w1 ⟨rfl, hb1⟩; obtain ⟨hc1, hf1⟩ := bcell hb1; have hz1 := hb1.size; simp only [World.size_alloc] at hz1 hb1
        have hW : Below w.heap.size w w1 := (((Below.refl _ _).alloc (Nat.le_refl _) _).alloc (by simp) _).trans (hb1.mono (by omega))
        have hy : w.heap.size + 1 < w1.heap.size := by omega
        have hyz : w.heap.size < w1.heap.size := by omega
        clear hb1 hz1
        go_wp2_with fail
        refine (refLeft_any _ _ _).mono ?_; rintro e w2 ⟨rfl, hb2⟩; obtain ⟨hc2, hf2⟩ := bcell hb2; have hz2 := hb2.size
        have hW2 : Below w.heap.size w w2 := hW.trans (hb2.mono hW.size)
        have hy2 : w.heap.size + 1 < w2.heap.size := by omega
        clear hb2 hz2
        go_wp2
        clear hW
        have hW := hW2
        refine bodyPost_ret (v := .tuple #[.agg #[.int .i64 g, .int .i64 (s + n)], .int .i64 0]) ?_ rfl ⟨rfl, ?_⟩
        · simp [results, Try.results22, go_sem, hc1, hc2, hy]
        · repeat (refine Below.setCell ?_ (by simp) _)
          exact hW

end Go.Proofs.Ytbdklcdecknceaa

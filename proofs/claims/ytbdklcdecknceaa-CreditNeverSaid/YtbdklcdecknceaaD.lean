/- credit.Grant, Spend, New: what they answer. -/
import Derived.Test.YtbdklcdecknceaaC
namespace Go.Proofs.Ytbdklcdecknceaa
open Go.RowKit

/-- What Grant answers: the error, and the credit. -/
def gE (g s n : Int) : Int := if rightB g s = false ∨ n < 0 then 2 else if 65536 < n ∨ rightB (g + n) s = false then 130 else 0
def gG (g s n : Int) : Int := if gE g s n = 0 then g + n else 0
def gS (g s n : Int) : Int := if gE g s n = 0 then s else 0
/-- What Spend answers. -/
def sE (g s n : Int) : Int := if rightB g s = false ∨ n < 0 then 2 else if 65536 < n ∨ rightB g (s + n) = false then 130 else 0
def sG (g s n : Int) : Int := if sE g s n = 0 then g else 0
def sS (g s n : Int) : Int := if sE g s n = 0 then s + n else 0
/-- What New answers. -/
def nE (n : Int) : Int := if rightB n 0 = true then 0 else 2
def nG (n : Int) : Int := if rightB n 0 = true then n else 0

theorem changed_grant (g s n : Int) (w : World) :
    Calls Try.prog 28 #[.agg #[.int .i64 g, .int .i64 s], .int .i64 n, .func (.func 29) #[] #[]] w fun e w' => e = .returned (.tuple #[.agg #[.int .i64 (gG g s n), .int .i64 (gS g s n)], .int .i64 (gE g s n)]) ∧ Below w.heap.size w w' := by
  cases h : rightB g s
  · rw [show gE g s n = 2 by simp [gE, h], show gG g s n = 0 by simp [gG, gE, h], show gS g s n = 0 by simp [gS, gE, h]]
    exact changed_e1 g s n _ w h
  · by_cases h0 : n < 0
    · rw [show gE g s n = 2 by simp [gE, h0], show gG g s n = 0 by simp [gG, gE, h0], show gS g s n = 0 by simp [gS, gE, h0]]
      exact changed_e2 g s n _ w h h0
    · by_cases h1 : 65536 < n
      · rw [show gE g s n = 130 by simp [gE, h, h0, h1], show gG g s n = 0 by simp [gG, gE, h, h0, h1], show gS g s n = 0 by simp [gS, gE, h, h0, h1]]
        exact changed_e3 g s n _ w h h1
      · cases h2 : rightB (g + n) s
        · rw [show gE g s n = 130 by simp [gE, h, h0, h2], show gG g s n = 0 by simp [gG, gE, h, h0, h2], show gS g s n = 0 by simp [gS, gE, h, h0, h2]]
          exact changed_g4 g s n w h (by omega) (by omega) h2
        · rw [show gE g s n = 0 by simp [gE, h, h0, h1, h2], show gG g s n = g + n by simp [gG, gE, h, h0, h1, h2], show gS g s n = s by simp [gS, gE, h, h0, h1, h2]]
          exact changed_g g s n w h (by omega) (by omega) h2

theorem changed_spend (g s n : Int) (w : World) :
    Calls Try.prog 28 #[.agg #[.int .i64 g, .int .i64 s], .int .i64 n, .func (.func 30) #[] #[]] w fun e w' => e = .returned (.tuple #[.agg #[.int .i64 (sG g s n), .int .i64 (sS g s n)], .int .i64 (sE g s n)]) ∧ Below w.heap.size w w' := by
  cases h : rightB g s
  · rw [show sE g s n = 2 by simp [sE, h], show sG g s n = 0 by simp [sG, sE, h], show sS g s n = 0 by simp [sS, sE, h]]
    exact changed_e1 g s n _ w h
  · by_cases h0 : n < 0
    · rw [show sE g s n = 2 by simp [sE, h0], show sG g s n = 0 by simp [sG, sE, h0], show sS g s n = 0 by simp [sS, sE, h0]]
      exact changed_e2 g s n _ w h h0
    · by_cases h1 : 65536 < n
      · rw [show sE g s n = 130 by simp [sE, h, h0, h1], show sG g s n = 0 by simp [sG, sE, h, h0, h1], show sS g s n = 0 by simp [sS, sE, h, h0, h1]]
        exact changed_e3 g s n _ w h h1
      · cases h2 : rightB g (s + n)
        · rw [show sE g s n = 130 by simp [sE, h, h0, h2], show sG g s n = 0 by simp [sG, sE, h, h0, h2], show sS g s n = 0 by simp [sS, sE, h, h0, h2]]
          exact changed_s4 g s n w h (by omega) (by omega) h2
        · rw [show sE g s n = 0 by simp [sE, h, h0, h1, h2], show sG g s n = g by simp [sG, sE, h, h0, h1, h2], show sS g s n = s + n by simp [sS, sE, h, h0, h1, h2]]
          exact changed_s g s n w h (by omega) (by omega) h2

set_option maxHeartbeats 400000 in
theorem Grant_any (g s n : Int) (w : World) :
    Calls Try.prog 19 #[.agg #[.int .i64 g, .int .i64 s], .int .i64 n] w fun e w' => e = .returned (.tuple #[.agg #[.int .i64 (gG g s n), .int .i64 (gS g s n)], .int .i64 (gE g s n)]) ∧ Below w.heap.size w w' := by
  go_enter Try.func19, Try.ntmps19
  go_wp2_with (first
    | (go_at_call 28; refine (changed_grant _ _ _ _).mono ?_; rintro e w1 ⟨rfl, hb1⟩; obtain ⟨hc1, hf1⟩ := bcell hb1; have hz1 := hb1.size; simp only [World.size_alloc] at hz1 hb1))
  have hy : w.heap.size + 1 < w1.heap.size := by omega
  refine bodyPost_ret (v := .tuple #[.agg #[.int .i64 (gG g s n), .int .i64 (gS g s n)], .int .i64 (gE g s n)]) ?_ rfl ⟨rfl, ?_⟩
  · clear hz1 hb1
    simp [results, Try.results19, go_sem, hc1]
  · have hW : Below w.heap.size w w1 := (((Below.refl _ _).alloc (Nat.le_refl _) _).alloc (by simp) _).trans (hb1.mono (by omega))
    repeat (refine Below.setCell ?_ (by simp) _)
    exact hW

set_option maxHeartbeats 400000 in
theorem Spend_any (g s n : Int) (w : World) :
    Calls Try.prog 21 #[.agg #[.int .i64 g, .int .i64 s], .int .i64 n] w fun e w' => e = .returned (.tuple #[.agg #[.int .i64 (sG g s n), .int .i64 (sS g s n)], .int .i64 (sE g s n)]) ∧ Below w.heap.size w w' := by
  go_enter Try.func21, Try.ntmps21
  go_wp2_with (first
    | (go_at_call 28; refine (changed_spend _ _ _ _).mono ?_; rintro e w1 ⟨rfl, hb1⟩; obtain ⟨hc1, hf1⟩ := bcell hb1; have hz1 := hb1.size; simp only [World.size_alloc] at hz1 hb1))
  have hy : w.heap.size + 1 < w1.heap.size := by omega
  refine bodyPost_ret (v := .tuple #[.agg #[.int .i64 (sG g s n), .int .i64 (sS g s n)], .int .i64 (sE g s n)]) ?_ rfl ⟨rfl, ?_⟩
  · clear hz1 hb1
    simp [results, Try.results21, go_sem, hc1]
  · have hW : Below w.heap.size w w1 := (((Below.refl _ _).alloc (Nat.le_refl _) _).alloc (by simp) _).trans (hb1.mono (by omega))
    repeat (refine Below.setCell ?_ (by simp) _)
    exact hW

set_option maxHeartbeats 400000 in
theorem New_any (n : Int) (w : World) :
    Calls Try.prog 11 #[.int .i64 n] w fun e w' => e = .returned (.tuple #[.agg #[.int .i64 (nG n), .int .i64 0], .int .i64 (nE n)]) ∧ Below w.heap.size w w' := by
  cases h : rightB n 0
  · rw [show nE n = 2 by simp [nE, h], show nG n = 0 by simp [nG, h]]
    go_enter Try.func11, Try.ntmps11
    go_wp2_with (first
      | (go_at_call 13; refine (right_any _ _ _).mono ?_; rintro e w1 ⟨rfl, hb1⟩; obtain ⟨hc1, hf1⟩ := bcell hb1; have hz1 := hb1.size; simp only [World.size_alloc] at hz1 hb1))
    have e0 : w1.cell? ⟨w.heap.size, 0, none⟩ = some (.int .i64 0) := by rw [hc1 _ _ (by simp only [World.size_alloc]; omega)]; go_simp
    have e1 : w1.cell? ⟨w.heap.size, 1, none⟩ = some (.int .i64 0) := by rw [hc1 _ _ (by simp only [World.size_alloc]; omega)]; go_simp
    refine bodyPost_ret (v := .tuple #[.agg #[.int .i64 0, .int .i64 0], .int .i64 2]) ?_ rfl ⟨rfl, ?_⟩
    · clear hz1 hb1
      simp [results, Try.results11, go_sem, e0, e1]
    · have hW : Below w.heap.size w w1 := (((Below.refl _ _).alloc (Nat.le_refl _) _).alloc (by simp) _).trans (hb1.mono (by omega))
      repeat (refine Below.setCell ?_ (by simp) _)
      exact hW
  · rw [show nE n = 0 by simp [nE, h], show nG n = n by simp [nG, h]]
    go_enter Try.func11, Try.ntmps11
    go_wp2_with (first
      | (go_at_call 13; refine (right_any _ _ _).mono ?_; rintro e w1 ⟨rfl, hb1⟩; obtain ⟨hc1, hf1⟩ := bcell hb1; have hz1 := hb1.size; simp only [World.size_alloc] at hz1 hb1))
    have e0 : w1.cell? ⟨w.heap.size, 0, none⟩ = some (.int .i64 0) := by rw [hc1 _ _ (by simp only [World.size_alloc]; omega)]; go_simp
    have e1 : w1.cell? ⟨w.heap.size, 1, none⟩ = some (.int .i64 0) := by rw [hc1 _ _ (by simp only [World.size_alloc]; omega)]; go_simp
    refine bodyPost_ret (v := .tuple #[.agg #[.int .i64 n, .int .i64 0], .int .i64 0]) ?_ rfl ⟨rfl, ?_⟩
    · clear hz1 hb1
      simp [results, Try.results11, go_sem, e0, e1]
    · have hW : Below w.heap.size w w1 := (((Below.refl _ _).alloc (Nat.le_refl _) _).alloc (by simp) _).trans (hb1.mono (by omega))
      repeat (refine Below.setCell ?_ (by simp) _)
      exact hW
end Go.Proofs.Ytbdklcdecknceaa

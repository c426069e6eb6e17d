/- wicketgatelaw13.CreditTurns: the walk. -/
import Derived.Test.YtbdklcdecknceaaJ
namespace Go.Proofs.Ytbdklcdecknceaa
open Go.RowKit

set_option maxRecDepth 100000 in
set_option maxHeartbeats 2000000 in
theorem turns_walk (g s n : Int) (w : World) (hn : -9223372036854775808 ≤ n) (hn' : n ≤ 9223372036854775807) :
    Calls Try.prog 4 #[.agg #[.int .i64 g, .int .i64 s], .int .i64 n] w fun e w' => e = .returned (.bool true) ∧ Below w.heap.size w w' := by
  go_enter Try.func4, Try.ntmps4
  go_wp2_with fail
  refine (shown_any _).mono ?_; rintro e w1 ⟨rfl, hb1⟩; obtain ⟨hc1, hf1⟩ := bcell hb1; have hz1 := hb1.size
  try simp only [World.size_alloc] at hz1
  have hW1 : Below w.heap.size w w1 := ((Below.refl w.heap.size w).alloc (by have := (Below.refl w.heap.size w).size; (try simp only [World.size_alloc]); omega) _).trans (hb1.mono (by have := (Below.refl w.heap.size w).size; (try simp only [World.size_alloc]); omega))
  have lt_w_w1 : w.heap.size < w1.heap.size := by omega
  clear hb1
  go_wp2_with fail
  refine (Grant_any _ _ _ _).mono ?_; rintro e w2 ⟨rfl, hb2⟩; obtain ⟨hc2, hf2⟩ := bcell hb2; have hz2 := hb2.size
  try simp only [World.size_alloc] at hz2
  have hW2 : Below w.heap.size w w2 := (hW1).trans (hb2.mono (by have := (hW1).size; (try simp only [World.size_alloc]); omega))
  have lt_w_w2 : w.heap.size < w2.heap.size := by omega
  clear hb2
  go_wp2_with fail
  refine (refGrant_any _ _ _ _ hn hn').mono ?_; rintro e w3 ⟨rfl, hb3⟩; obtain ⟨hc3, hf3⟩ := bcell hb3; have hz3 := hb3.size
  try simp only [World.size_alloc] at hz3
  have hW3 : Below w.heap.size w w3 := ((hW2).alloc (by have := (hW2).size; (try simp only [World.size_alloc]); omega) _).trans (hb3.mono (by have := (hW2).size; (try simp only [World.size_alloc]); omega))
  have lt_w_w3 : w.heap.size < w3.heap.size := by omega
  have lt_w2_w3 : w2.heap.size < w3.heap.size := by omega
  clear hb3
  go_wp2_with fail
  refine (Spend_any _ _ _ _).mono ?_; rintro e w4 ⟨rfl, hb4⟩; obtain ⟨hc4, hf4⟩ := bcell hb4; have hz4 := hb4.size
  try simp only [World.size_alloc] at hz4
  have hW4 : Below w.heap.size w w4 := ((hW3).alloc (by have := (hW3).size; (try simp only [World.size_alloc]); omega) _).trans (hb4.mono (by have := (hW3).size; (try simp only [World.size_alloc]); omega))
  have lt_w_w4 : w.heap.size < w4.heap.size := by omega
  have lt_w2_w4 : w2.heap.size < w4.heap.size := by omega
  have lt_w3_w4 : w3.heap.size < w4.heap.size := by omega
  clear hb4
  go_wp2_with fail
  refine (refSpend_any _ _ _ _ hn hn').mono ?_; rintro e w5 ⟨rfl, hb5⟩; obtain ⟨hc5, hf5⟩ := bcell hb5; have hz5 := hb5.size
  try simp only [World.size_alloc] at hz5
  have hW5 : Below w.heap.size w w5 := ((hW4).alloc (by have := (hW4).size; (try simp only [World.size_alloc]); omega) _).trans (hb5.mono (by have := (hW4).size; (try simp only [World.size_alloc]); omega))
  have lt_w_w5 : w.heap.size < w5.heap.size := by omega
  have lt_w2_w5 : w2.heap.size < w5.heap.size := by omega
  have lt_w3_w5 : w3.heap.size < w5.heap.size := by omega
  have lt_w4_w5 : w4.heap.size < w5.heap.size := by omega
  clear hb5
  go_wp2
  go_ret
  exact ⟨rfl, (hW5.alloc hW5.size _)⟩
end Go.Proofs.Ytbdklcdecknceaa

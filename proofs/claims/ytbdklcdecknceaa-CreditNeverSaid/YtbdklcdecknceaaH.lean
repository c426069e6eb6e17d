/- wicketgatelaw13.shown: true. -/
import Derived.Test.YtbdklcdecknceaaG
namespace Go.Proofs.Ytbdklcdecknceaa
open Go.RowKit

set_option maxRecDepth 100000 in
set_option maxHeartbeats 1000000 in
theorem shown_any (w : World) :
    Calls Try.prog 9 #[] w fun e w' => e = .returned (.bool true) ∧ Below w.heap.size w w' := by
  have e1 : nG 10 = 10 := by decide +kernel
  have e2 : nE 10 = 0 := by decide +kernel
  have e3 : sG 10 0 7 = 10 := by decide +kernel
  have e4 : sS 10 0 7 = 7 := by decide +kernel
  have e5 : sE 10 0 7 = 0 := by decide +kernel
  have e6 : gG 10 7 5 = 15 := by decide +kernel
  have e7 : gS 10 7 5 = 7 := by decide +kernel
  have e8 : gE 10 7 5 = 0 := by decide +kernel
  have e9 : sE 15 7 9 = 130 := by decide +kernel
  have e10 : (if rightB 15 7 = true then (15 : Int) - 7 else 0) = 8 := by decide +kernel
  have e11 : mostR 15 7 [9, 3] = 3 := by decide +kernel
  go_enter Try.func9, Try.ntmps9
  go_wp2_with fail
  refine (New_any _ _).mono ?_; rintro e w1 ⟨rfl, hb1⟩; have hz1 := hb1.size
  rw [e1, e2]
  go_wp2_with fail
  refine (Spend_any 10 0 7 _).mono ?_; rintro e w2 ⟨rfl, hb2⟩; obtain ⟨hc2, hf2⟩ := bcell hb2; have hz2 := hb2.size; simp only [World.size_alloc] at hz2 hb2; have hy2 : w1.heap.size < w2.heap.size := by omega
  rw [e3, e4, e5]
  go_wp2_with fail
  refine (Grant_any 10 7 5 _).mono ?_; rintro e w3 ⟨rfl, hb3⟩; obtain ⟨hc3, hf3⟩ := bcell hb3; have hz3 := hb3.size; simp only [World.size_alloc] at hz3 hb3; have hy3 : w2.heap.size < w3.heap.size := by omega
  rw [e6, e7, e8]
  go_wp2_with fail
  refine (Spend_any 15 7 9 _).mono ?_; rintro e w4 ⟨rfl, hb4⟩; obtain ⟨hc4, hf4⟩ := bcell hb4; have hz4 := hb4.size; simp only [World.size_alloc] at hz4 hb4; have hy4 : w3.heap.size < w4.heap.size := by omega
  rw [e9]
  go_wp2_with fail
  refine (left2_any 15 7 _).mono ?_; rintro e w5 ⟨rfl, hb5⟩; obtain ⟨hc5, hf5⟩ := bcell hb5; have hz5 := hb5.size; simp only [World.size_alloc] at hz5 hb5; have hy5 : w3.heap.size < w5.heap.size := by omega
  rw [e10]
  have hW : Below w.heap.size w w5 := ((((((((Below.refl _ _).trans hb1).alloc (by omega) _).trans (hb2.mono (by omega))).alloc (by omega) _).trans (hb3.mono (by omega))).alloc (by omega) _).trans (hb4.mono (by omega))).alloc (by omega) _ |>.trans (hb5.mono (by omega))
  have hz : w.heap.size ≤ w5.heap.size := hW.size
  clear hb1 hb2 hb3 hb4 hb5
  go_wp2_with fail
  refine (Most_any 15 7 _ _ _ [9, 3] (by decide) _ ?_).mono ?_
  · refine .inr ⟨w5.heap.size, 0, 2, rfl, by simp, fun j hj => ?_⟩
    match j, hj with
    | 0, _ => exact (by go_simp)
    | 1, _ => exact (by go_simp)
  rintro e w6 ⟨rfl, hb6⟩
  rw [e11]
  go_wp2
  go_ret
  exact ⟨rfl, (hW.alloc hz _).trans (hb6.mono (by simp; omega))⟩
end Go.Proofs.Ytbdklcdecknceaa

/- credit.Most; wicketgatelaw13.shown. -/
import Derived.Test.YtbdklcdecknceaaF
namespace Go.Proofs.Ytbdklcdecknceaa
open Go.RowKit

/-- What Most answers. -/
def mostR (g s : Int) (zs : List Int) : Int := if rightB g s = true ∧ ∀ x ∈ zs, 0 ≤ x then lowest (g - s) zs else 0

set_option maxRecDepth 100000 in
set_option maxHeartbeats 1000000 in
theorem Most_no (g s : Int) (a : Option Addr) (len cap : Nat) (w : World) (h : rightB g s = false) :
    Calls Try.prog 17 #[.agg #[.int .i64 g, .int .i64 s], .slice a len cap] w fun e w' => e = .returned (.int .i64 0) ∧ Below w.heap.size w w' := by
  go_enter Try.func17, Try.ntmps17
  go_wp2_with (first
    | (go_at_call 15; refine (left2_any _ _ _).mono ?_; rintro e w1 ⟨rfl, hb1⟩; obtain ⟨hc1, hf1⟩ := bcell hb1; have hz1 := hb1.size; simp only [World.size_alloc] at hz1 hb1; have hy1 : w.heap.size < w1.heap.size := by omega)
    | (go_at_call 13; refine (right_any _ _ _).mono ?_; rintro e w2 ⟨rfl, hb2⟩; obtain ⟨hc2, hf2⟩ := bcell hb2; have hz2 := hb2.size; simp only [World.size_alloc] at hz2 hb2))
  go_ret
  exact ⟨rfl, ((((Below.refl _ _).alloc (Nat.le_refl _) _).trans (hb1.mono (by omega))).alloc (by omega) _).trans (hb2.mono (by omega))⟩

set_option maxRecDepth 100000 in
set_option maxHeartbeats 1000000 in
theorem Most_yes (g s : Int) (a : Option Addr) (len cap : Nat) (zs : List Int) (hreach : zs.length * 8 ≤ 140737488351232) (w : World) (hI : Ints w.heap.size w (.slice a len cap) zs) (h : rightB g s = true) :
    Calls Try.prog 17 #[.agg #[.int .i64 g, .int .i64 s], .slice a len cap] w fun e w' => e = .returned (.int .i64 (mostR g s zs)) ∧ Below w.heap.size w w' := by
  have hI' := Lib.hid hI
  clear hI
  go_enter Try.func17, Try.ntmps17
  go_wp2_with (first
    | (go_at_call 15; refine (left2_any _ _ _).mono ?_; rintro e w1 ⟨rfl, hb1⟩; obtain ⟨hc1, hf1⟩ := bcell hb1; have hz1 := hb1.size; simp only [World.size_alloc] at hz1 hb1; have hy1 : w.heap.size < w1.heap.size := by omega)
    | (go_at_call 13; refine (right_any _ _ _).mono ?_; rintro e w2 ⟨rfl, hb2⟩; obtain ⟨hc2, hf2⟩ := bcell hb2; have hz2 := hb2.size; simp only [World.size_alloc] at hz2 hb2))
  have hy2 : w1.heap.size < w2.heap.size := by omega
  refine (through_any a len cap zs hreach w.heap.size w2.heap.size w1.heap.size (g - s) _ ?_ (by omega) ?_ ?_ (by omega) ?_ ?_ ?_ ?_).mono ?_
  · exact hI'.out.below ((((((Below.refl _ _).alloc (Nat.le_refl _) _).trans (hb1.mono (by omega))).alloc (by omega) _).trans (hb2.mono (by omega))).alloc (by omega) _)
  · simp only [World.size_alloc]; omega
  · simp only [World.size_alloc]; omega
  · go_simp
  · go_simp
  · go_simp
  · go_simp
  rintro e w3 ⟨rfl, hlow, hb3⟩
  have hW : Below w.heap.size w w3 := ((((((Below.refl _ _).alloc (Nat.le_refl _) _).trans (hb1.mono (by omega))).alloc (by omega) _).trans (hb2.mono (by omega))).alloc (by omega) _).trans hb3
  clear hc1 hf1 hc2 hf2 hb1 hb2 hb3 hz1 hz2
  by_cases hall : ∀ x ∈ zs, 0 ≤ x
  · rw [decide_eq_true hall]
    have hl := hlow hall
    have hA := Lib.hid hall
    clear hlow hall
    go_wp2
    go_ret
    exact ⟨ret_int (by unfold mostR; rw [if_pos ⟨h, hA.out⟩]), hW⟩
  · rw [decide_eq_false hall]
    have hA := Lib.hid hall
    clear hlow hall
    go_wp2
    go_ret
    exact ⟨ret_int (by unfold mostR; rw [if_neg (fun x => hA.out x.2)]), hW⟩

theorem Most_any (g s : Int) (a : Option Addr) (len cap : Nat) (zs : List Int) (hreach : zs.length * 8 ≤ 140737488351232) (w : World) (hI : Ints w.heap.size w (.slice a len cap) zs) :
    Calls Try.prog 17 #[.agg #[.int .i64 g, .int .i64 s], .slice a len cap] w fun e w' => e = .returned (.int .i64 (mostR g s zs)) ∧ Below w.heap.size w w' := by
  cases h : rightB g s
  · rw [show mostR g s zs = 0 by unfold mostR; rw [h]; simp]
    exact Most_no g s a len cap w h
  · exact Most_yes g s a len cap zs hreach w hI h
end Go.Proofs.Ytbdklcdecknceaa

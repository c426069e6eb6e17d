/- hasSizes, hasGens, check.All, Right. -/
import Derived.Test.YtbalebnhjpjhgaaE
import Derived.LoopN
namespace Go.Proofs.Ytbalebnhjpjhgaa
open Go.RowKit

def sz (L M K : Nat) : Bool := decide (1 ≤ L ∧ L ≤ 64 ∧ M = L ∧ K ≤ L)
def sizesB (gs : List Int) (us : List Bool) (fs : List Int) : Bool := sz gs.length us.length fs.length
theorem sz_no {L M K : Nat} (h : ¬ (1 ≤ L ∧ L ≤ 64 ∧ M = L ∧ K ≤ L)) : sz L M K = false := decide_eq_false h
theorem sz_yes {L M K : Nat} (h : 1 ≤ L ∧ L ≤ 64 ∧ M = L ∧ K ≤ L) : sz L M K = true := decide_eq_true h
def gensB (gs : List Int) : Bool := decide (∀ g ∈ gs, 0 ≤ g ∧ g ≤ 1000000000)
/-- What Right says. -/
def rightB (gs : List Int) (us : List Bool) (fs : List Int) : Bool := sizesB gs us fs && gensB gs && freeB gs us fs

set_option maxRecDepth 100000 in
set_option maxHeartbeats 1000000 in
theorem sizes_any (a1 a2 a3 : Option Addr) (c1 c2 c3 : Nat) (gs : List Int) (us : List Bool) (fs : List Int) (w : World) :
    Calls Try.prog 28 #[tabV a1 a2 a3 c1 c2 c3 gs us fs] w fun e w' => e = .returned (.bool (sizesB gs us fs)) ∧ Below w.heap.size w w' := by
  unfold tabV sizesB
  generalize gs.length = L
  generalize us.length = M
  generalize fs.length = K
  by_cases h1 : (L : Int) < 1
  · go_enter Try.func28, Try.ntmps28
    go_wp2
    go_ret
    exact ⟨ret_bool (sz_no (by omega)).symm, (Below.refl _ _).alloc (Nat.le_refl _) _⟩
  have g1 : (1 : Int) ≤ (L : Int) := by omega
  by_cases h2 : (L : Int) ≤ 64
  rotate_left
  · go_enter Try.func28, Try.ntmps28
    go_wp2
    go_ret
    exact ⟨ret_bool (sz_no (by omega)).symm, (Below.refl _ _).alloc (Nat.le_refl _) _⟩
  by_cases h3 : M = L
  rotate_left
  · have h3' : ¬ ((M : Int) = (L : Int)) := by omega
    go_enter Try.func28, Try.ntmps28
    go_wp2
    go_ret
    exact ⟨ret_bool (sz_no (by omega)).symm, (Below.refl _ _).alloc (Nat.le_refl _) _⟩
  subst h3
  by_cases h4 : (K : Int) ≤ (M : Int)
  · go_enter Try.func28, Try.ntmps28
    go_wp2
    go_ret
    exact ⟨ret_bool (sz_yes (by omega)).symm, (Below.refl _ _).alloc (Nat.le_refl _) _⟩
  · go_enter Try.func28, Try.ntmps28
    go_wp2
    go_ret
    exact ⟨ret_bool (sz_no (by omega)).symm, (Below.refl _ _).alloc (Nat.le_refl _) _⟩

set_option maxRecDepth 100000 in
set_option maxHeartbeats 1000000 in
theorem gens_any (a1 : Option Addr) (s2 s3 : Value) (c1 len : Nat) (gs : List Int) (hg : gs.length = len) (hlen : len ≤ 64) (hl1 : 1 ≤ len) (w : World) (hI : IntsAt w.heap.size w a1 gs) :
    Calls Try.prog 29 #[.agg #[.slice a1 len c1, s2, s3]] w fun e w' => e = .returned (.bool (gensB gs)) ∧ Below w.heap.size w w' := by
  match gs, hg, hI with
  | [], hg, _ => simp at hg; omega
  | x :: l, hg, hI =>
    have hmin := fun w' (hb : Below w.heap.size w w') => min_any a1 x l c1 w.heap.size w' (by omega) (hI.below hb)
    have hmax := fun w' (hb : Below w.heap.size w w') => max_any a1 x l c1 w.heap.size w' (by omega) (hI.below hb)
    rw [hg] at hmin hmax
    have hA : Below w.heap.size w (w.alloc (.cells #[.slice a1 len c1, s2, s3] 47)) := (Below.refl _ _).alloc (Nat.le_refl _) _
    have Hmin := Lib.hid (hmin _ hA)
    have Hmax := Lib.hid (hmax _ hA)
    have e1 := leastOf_ge 0 x l
    have e2 := mostOf_le 1000000000 x l
    have E : gensB (x :: l) = (decide (0 ≤ leastOf x l) && decide (mostOf x l ≤ 1000000000)) := by
      unfold gensB
      rw [Bool.eq_iff_iff]
      simp only [decide_eq_true_eq, Bool.and_eq_true, e1, e2, List.mem_cons, forall_eq_or_imp]
      constructor
      · rintro ⟨⟨h1, h2⟩, h3⟩; exact ⟨⟨h1, fun y hy => (h3 y hy).1⟩, h2, fun y hy => (h3 y hy).2⟩
      · rintro ⟨⟨h1, h2⟩, h3, h4⟩; exact ⟨⟨h1, h3⟩, fun y hy => ⟨h2 y hy, h4 y hy⟩⟩
    rw [E]
    clear hmin hmax hI e1 e2 E
    generalize leastOf x l = m at *
    generalize mostOf x l = q at *
    by_cases hm : 0 ≤ m
    · go_enter Try.func29, Try.ntmps29
      go_wp2_with (first | (go_at_call 42; refine Hmin.out.mono ?_; rintro e w' ⟨rfl, rfl⟩) | (go_at_call 43; refine Hmax.out.mono ?_; rintro e w' ⟨rfl, rfl⟩))
      go_ret
      exact ⟨ret_bool (by rw [decide_eq_true hm, Bool.true_and]), hA⟩
    · have hm' : m < 0 := by omega
      go_enter Try.func29, Try.ntmps29
      go_wp2_with (first | (go_at_call 42; refine Hmin.out.mono ?_; rintro e w' ⟨rfl, rfl⟩) | (go_at_call 43; refine Hmax.out.mono ?_; rintro e w' ⟨rfl, rfl⟩))
      go_ret
      exact ⟨ret_bool (by rw [decide_eq_false (by omega : ¬ 0 ≤ m), Bool.false_and]), hA⟩
end Go.Proofs.Ytbalebnhjpjhgaa

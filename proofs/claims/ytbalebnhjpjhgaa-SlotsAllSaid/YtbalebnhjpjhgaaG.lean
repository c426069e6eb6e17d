/- check.All at the table's three checks; Right. -/
import Derived.Test.YtbalebnhjpjhgaaF
namespace Go.Proofs.Ytbalebnhjpjhgaa
open Go.RowKit

/-- Slots in memory, below n₀. -/
structure SlotsAt (n₀ : Nat) (W : World) (a1 a2 a3 : Option Addr) (gs : List Int) (us : List Bool) (fs : List Int) : Prop where
  g : IntsAt n₀ W a1 gs
  u : BoolsAt n₀ W a2 us
  f : IntsAt n₀ W a3 fs
theorem SlotsAt.below {n₀ : Nat} {A B : World} (h : Below n₀ A B) {a1 a2 a3 : Option Addr} {gs : List Int} {us : List Bool} {fs : List Int} (k : SlotsAt n₀ A a1 a2 a3 gs us fs) : SlotsAt n₀ B a1 a2 a3 gs us fs := ⟨k.g.below h, k.u.below h, k.f.below h⟩
theorem SlotsAt.mono {n₀ m : Nat} (h : n₀ ≤ m) {W : World} {a1 a2 a3 : Option Addr} {gs : List Int} {us : List Bool} {fs : List Int} (k : SlotsAt n₀ W a1 a2 a3 gs us fs) : SlotsAt m W a1 a2 a3 gs us fs := ⟨k.g.mono h, k.u.mono h, k.f.mono h⟩
/-- Carried on to a later world, whole. -/
theorem SlotsAt.on {A B : World} (h : Below A.heap.size A B) {a1 a2 a3 : Option Addr} {gs : List Int} {us : List Bool} {fs : List Int} (k : SlotsAt A.heap.size A a1 a2 a3 gs us fs) : SlotsAt B.heap.size B a1 a2 a3 gs us fs := (k.below h).mono h.size

theorem free_any (a1 a2 a3 : Option Addr) (c1 c2 c3 : Nat) (gs : List Int) (us : List Bool) (fs : List Int) (hlu : us.length = gs.length) (hlf : fs.length ≤ gs.length) (hlen : gs.length ≤ 1000) (w : World) (h : SlotsAt w.heap.size w a1 a2 a3 gs us fs) :
    Calls Try.prog 30 #[tabV a1 a2 a3 c1 c2 c3 gs us fs] w fun e w' => e = .returned (.bool (freeB gs us fs)) ∧ Below w.heap.size w w' :=
  (callsIn_wide (n := 5)).1 (hasFree_in Fence.wide 5 trivial trivial trivial trivial trivial trivial rfl (Nat.le_refl _) a1 a2 a3 c1 c2 c3 gs us fs hlu hlf hlen w h.g h.u h.f)

theorem sizes_of {gs : List Int} {us : List Bool} {fs : List Int} (h : sizesB gs us fs = true) : 1 ≤ gs.length ∧ gs.length ≤ 64 ∧ us.length = gs.length ∧ fs.length ≤ gs.length := of_decide_eq_true h

set_option maxRecDepth 100000 in
set_option maxHeartbeats 1000000 in
theorem all3_any (a1 a2 a3 : Option Addr) (c1 c2 c3 bS : Nat) (gs : List Int) (us : List Bool) (fs : List Int) (w : World) (h : SlotsAt w.heap.size w a1 a2 a3 gs us fs)
    (k0 : w.cell? ⟨bS, 0, none⟩ = some (.func (.func 28) #[tabV a1 a2 a3 c1 c2 c3 gs us fs] #[])) (k1 : w.cell? ⟨bS, 1, none⟩ = some (.func (.func 29) #[tabV a1 a2 a3 c1 c2 c3 gs us fs] #[])) (k2 : w.cell? ⟨bS, 2, none⟩ = some (.func (.func 30) #[tabV a1 a2 a3 c1 c2 c3 gs us fs] #[])) :
    Calls Try.prog 27 #[.slice (some ⟨bS, 0, none⟩) 3 3] w fun e w' => e = .returned (.bool (rightB gs us fs)) ∧ Below w.heap.size w w' := by
  have hz := blt k0
  unfold rightB
  cases hs : sizesB gs us fs with
  | false =>
    have H1 := Lib.hid (fun w => sizes_any a1 a2 a3 c1 c2 c3 gs us fs w)
    rw [hs] at H1
    rw [Bool.false_and, Bool.false_and]
    generalize tabV a1 a2 a3 c1 c2 c3 gs us fs = T at *
    clear h hs
    go_enter Try.func27, Try.ntmps27
    go_wp2
    refine wp_loop_rounds 3 ?_
    rw [rounds_succ]
    go_wp2_with (go_at_call 28; refine (H1.out _).mono ?_; rintro e w1 ⟨rfl, hb1⟩)
    go_ret
    exact ⟨rfl, hb1⟩
  | true =>
    obtain ⟨l1, l2, l3, l4⟩ := sizes_of hs
    have H1 := Lib.hid (fun w => sizes_any a1 a2 a3 c1 c2 c3 gs us fs w)
    have H2 := Lib.hid (fun w hI => gens_any a1 (.slice a2 us.length c2) (.slice a3 fs.length c3) c1 gs.length gs rfl l2 l1 w hI)
    have H3 := Lib.hid (fun w hI => free_any a1 a2 a3 c1 c2 c3 gs us fs l3 l4 (by omega) w hI)
    rw [hs] at H1
    rw [Bool.true_and]
    have hT : (.agg #[.slice a1 gs.length c1, .slice a2 us.length c2, .slice a3 fs.length c3] : Value) = tabV a1 a2 a3 c1 c2 c3 gs us fs := rfl
    rw [hT] at H2
    generalize tabV a1 a2 a3 c1 c2 c3 gs us fs = T at *
    have HS := Lib.hid h
    clear h hs hT l1 l2 l3 l4
    cases hg : gensB gs with
    | false =>
      rw [hg] at H2
      rw [Bool.false_and]
      clear hg
      go_enter Try.func27, Try.ntmps27
      go_wp2
      refine wp_loop_rounds 3 ?_
      rw [rounds_succ]
      go_wp2_with (go_at_call 28; refine (H1.out _).mono ?_; rintro e w1 ⟨rfl, hb1⟩; obtain ⟨hc1, hf1⟩ := bcell hb1)
      rw [rounds_succ]
      go_wp2_with (go_at_call 29; refine (H2.out _ (HS.out.on hb1).g).mono ?_; rintro e w2 ⟨rfl, hb2⟩)
      go_ret
      exact ⟨rfl, hb1.trans (hb2.mono hb1.size)⟩
    | true =>
      rw [hg] at H2
      rw [Bool.true_and]
      clear hg
      cases hf : freeB gs us fs with
      | false =>
        rw [hf] at H3
        clear hf
        go_enter Try.func27, Try.ntmps27
        go_wp2
        refine wp_loop_rounds 4 ?_
        rw [rounds_succ]
        go_wp2_with (go_at_call 28; refine (H1.out _).mono ?_; rintro e w1 ⟨rfl, hb1⟩; obtain ⟨hc1, hf1⟩ := bcell hb1; have hz1 : bS < w1.heap.size := Nat.lt_of_lt_of_le hz hb1.size)
        rw [rounds_succ]
        go_wp2_with (go_at_call 29; refine (H2.out _ (HS.out.on hb1).g).mono ?_; rintro e w2 ⟨rfl, hb2⟩; obtain ⟨hc2, hf2⟩ := bcell hb2)
        rw [rounds_succ]
        go_wp2_with (go_at_call 30; refine (H3.out _ ((HS.out.on hb1).on hb2)).mono ?_; rintro e w3 ⟨rfl, hb3⟩)
        go_ret
        exact ⟨rfl, (hb1.trans (hb2.mono hb1.size)).trans (hb3.mono (Nat.le_trans hb1.size hb2.size))⟩
      | true =>
        rw [hf] at H3
        clear hf
        go_enter Try.func27, Try.ntmps27
        go_wp2
        refine wp_loop_rounds 4 ?_
        rw [rounds_succ]
        go_wp2_with (go_at_call 28; refine (H1.out _).mono ?_; rintro e w1 ⟨rfl, hb1⟩; obtain ⟨hc1, hf1⟩ := bcell hb1; have hz1 : bS < w1.heap.size := Nat.lt_of_lt_of_le hz hb1.size)
        rw [rounds_succ]
        go_wp2_with (go_at_call 29; refine (H2.out _ (HS.out.on hb1).g).mono ?_; rintro e w2 ⟨rfl, hb2⟩; obtain ⟨hc2, hf2⟩ := bcell hb2)
        rw [rounds_succ]
        go_wp2_with (go_at_call 30; refine (H3.out _ ((HS.out.on hb1).on hb2)).mono ?_; rintro e w3 ⟨rfl, hb3⟩)
        rw [rounds_succ]
        go_wp2
        go_ret
        exact ⟨rfl, (hb1.trans (hb2.mono hb1.size)).trans (hb3.mono (Nat.le_trans hb1.size hb2.size))⟩

set_option maxRecDepth 100000 in
set_option maxHeartbeats 1000000 in
theorem right_any (a1 a2 a3 : Option Addr) (c1 c2 c3 : Nat) (gs : List Int) (us : List Bool) (fs : List Int) (w : World) (h : SlotsAt w.heap.size w a1 a2 a3 gs us fs) :
    Calls Try.prog 14 #[tabV a1 a2 a3 c1 c2 c3 gs us fs] w fun e w' => e = .returned (.bool (rightB gs us fs)) ∧ Below w.heap.size w w' := by
  have H := Lib.hid (fun bS w hS k0 k1 k2 => all3_any a1 a2 a3 c1 c2 c3 bS gs us fs w hS k0 k1 k2)
  unfold tabV at *
  have HS := Lib.hid h
  clear h
  go_enter Try.func14, Try.ntmps14
  go_wp2_with fail
  refine (H.out _ _ ?_ ?_ ?_ ?_).mono ?_
  · exact HS.out.on ((((Below.refl _ _).alloc (Nat.le_refl _) _).alloc (by simp) _).alloc (by simp; omega) _)
  · go_simp
  · go_simp
  · go_simp
  rintro e w1 ⟨rfl, hb1⟩
  go_wp2
  go_ret
  exact ⟨rfl, ((((Below.refl _ _).alloc (Nat.le_refl _) _).alloc (by simp) _).alloc (by simp; omega) _).trans (hb1.mono (by simp; omega))⟩
end Go.Proofs.Ytbalebnhjpjhgaa

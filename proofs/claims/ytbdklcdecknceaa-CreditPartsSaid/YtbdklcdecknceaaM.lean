/- wicketgatelaw13.CreditParts: the walk. -/
import Derived.Test.YtbdklcdecknceaaJ
namespace Go.Proofs.Ytbdklcdecknceaa
open Go.RowKit

/-- What is spent at once is what is spent in parts. -/
theorem sE_parts (g s a b : Int) (ha : 0 ≤ a) (hb : 0 ≤ b) : sE g s (a + b) = 0 ↔ sE g s a = 0 ∧ sE (sG g s a) (sS g s a) b = 0 := by
  have key : ∀ (g s n : Int), 0 ≤ n → (sE g s n = 0 ↔ (0 ≤ s ∧ s + n ≤ g ∧ g ≤ 1000000000000 ∧ g - s ≤ 65536)) := by
    intro g s n hn
    unfold sE
    by_cases h : rightB g s = false ∨ n < 0
    · rw [if_pos h]
      refine ⟨fun e => by omega, fun e => ?_⟩
      rcases h with h | h
      · rw [← Bool.not_eq_true, right_iff] at h; omega
      · omega
    · rw [if_neg h]
      have hr : rightB g s = true := by cases hh : rightB g s; exact absurd (Or.inl hh) h; rfl
      rw [right_iff] at hr
      by_cases h2 : 65536 < n ∨ rightB g (s + n) = false
      · rw [if_pos h2]
        refine ⟨fun e => by omega, fun e => ?_⟩
        rcases h2 with h2 | h2
        · omega
        · rw [← Bool.not_eq_true, right_iff] at h2; omega
      · rw [if_neg h2]
        have hr2 : rightB g (s + n) = true := by cases hh : rightB g (s + n); exact absurd (Or.inr hh) h2; rfl
        rw [right_iff] at hr2
        exact ⟨fun _ => by omega, fun _ => rfl⟩
  constructor
  · intro h
    have h1 : sE g s a = 0 := by rw [key _ _ _ ha]; rw [key _ _ _ (by omega)] at h; omega
    refine ⟨h1, ?_⟩
    rw [show sG g s a = g by simp [sG, h1], show sS g s a = s + a by simp [sS, h1], key _ _ _ hb]
    rw [key _ _ _ (by omega)] at h
    omega
  · rintro ⟨h1, h2⟩
    rw [show sG g s a = g by simp [sG, h1], show sS g s a = s + a by simp [sS, h1], key _ _ _ hb] at h2
    rw [key _ _ _ ha] at h1
    rw [key _ _ _ (by omega)]
    omega
theorem gE_parts (g s a b : Int) (ha : 0 ≤ a) (hb : 0 ≤ b) : gE g s (a + b) = 0 ↔ gE g s a = 0 ∧ gE (gG g s a) (gS g s a) b = 0 := by
  have key : ∀ (g s n : Int), 0 ≤ n → (gE g s n = 0 ↔ (0 ≤ s ∧ s ≤ g ∧ g + n ≤ 1000000000000 ∧ g + n - s ≤ 65536)) := by
    intro g s n hn
    unfold gE
    by_cases h : rightB g s = false ∨ n < 0
    · rw [if_pos h]
      refine ⟨fun e => by omega, fun e => ?_⟩
      rcases h with h | h
      · rw [← Bool.not_eq_true, right_iff] at h; omega
      · omega
    · rw [if_neg h]
      have hr : rightB g s = true := by cases hh : rightB g s; exact absurd (Or.inl hh) h; rfl
      rw [right_iff] at hr
      by_cases h2 : 65536 < n ∨ rightB (g + n) s = false
      · rw [if_pos h2]
        refine ⟨fun e => by omega, fun e => ?_⟩
        rcases h2 with h2 | h2
        · omega
        · rw [← Bool.not_eq_true, right_iff] at h2; omega
      · rw [if_neg h2]
        have hr2 : rightB (g + n) s = true := by cases hh : rightB (g + n) s; exact absurd (Or.inr hh) h2; rfl
        rw [right_iff] at hr2
        exact ⟨fun _ => by omega, fun _ => rfl⟩
  constructor
  · intro h
    have h1 : gE g s a = 0 := by rw [key _ _ _ ha]; rw [key _ _ _ (by omega)] at h; omega
    refine ⟨h1, ?_⟩
    rw [show gG g s a = g + a by simp [gG, h1], show gS g s a = s by simp [gS, h1], key _ _ _ hb]
    rw [key _ _ _ (by omega)] at h
    omega
  · rintro ⟨h1, h2⟩
    rw [show gG g s a = g + a by simp [gG, h1], show gS g s a = s by simp [gS, h1], key _ _ _ hb] at h2
    rw [key _ _ _ ha] at h1
    rw [key _ _ _ (by omega)]
    omega

/-- How the two ways of spending (of granting) come out: all is done; the first part is refused; the second one is. -/
def Out (E1 F1 H1 X1 X2 Y1 Y2 : Int) : Prop :=
  ((E1 = 0 ∧ F1 = 0 ∧ H1 = 0) ∧ Y1 = X1 ∧ Y2 = X2) ∨ (E1 ≠ 0 ∧ F1 ≠ 0) ∨ (E1 ≠ 0 ∧ F1 = 0 ∧ H1 ≠ 0)
theorem spend_out (g s a b : Int) (ha : 0 ≤ a) (hb : 0 ≤ b) : Out (sE g s (a + b)) (sE g s a) (sE (sG g s a) (sS g s a) b) (sG g s (a + b)) (sS g s (a + b)) (sG (sG g s a) (sS g s a) b) (sS (sG g s a) (sS g s a) b) := by
  have h := sE_parts g s a b ha hb
  unfold Out
  by_cases h1 : sE g s (a + b) = 0
  · obtain ⟨h2, h3⟩ := h.1 h1
    have hG : sG g s a = g := by simp [sG, h2]
    have hS : sS g s a = s + a := by simp [sS, h2]
    have r : sE (g) (s + a) b = 0 := by rw [hG, hS] at h3; exact h3
    refine .inl ⟨⟨h1, h2, h3⟩, ?_, ?_⟩
    · rw [hG, hS]; unfold sG; rw [if_pos h1, if_pos r]
    · rw [hG, hS]; unfold sS; rw [if_pos h1, if_pos r]; omega
  · by_cases h2 : sE g s a = 0
    · exact .inr (.inr ⟨h1, h2, fun h3 => h1 (h.2 ⟨h2, h3⟩)⟩)
    · exact .inr (.inl ⟨h1, h2⟩)
theorem grant_out (g s a b : Int) (ha : 0 ≤ a) (hb : 0 ≤ b) : Out (gE g s (a + b)) (gE g s a) (gE (gG g s a) (gS g s a) b) (gG g s (a + b)) (gS g s (a + b)) (gG (gG g s a) (gS g s a) b) (gS (gG g s a) (gS g s a) b) := by
  have h := gE_parts g s a b ha hb
  unfold Out
  by_cases h1 : gE g s (a + b) = 0
  · obtain ⟨h2, h3⟩ := h.1 h1
    have hG : gG g s a = g + a := by simp [gG, h2]
    have hS : gS g s a = s := by simp [gS, h2]
    have r : gE (g + a) (s) b = 0 := by rw [hG, hS] at h3; exact h3
    refine .inl ⟨⟨h1, h2, h3⟩, ?_, ?_⟩
    · rw [hG, hS]; unfold gG; rw [if_pos h1, if_pos r]; omega
    · rw [hG, hS]; unfold gS; rw [if_pos h1, if_pos r]
  · by_cases h2 : gE g s a = 0
    · exact .inr (.inr ⟨h1, h2, fun h3 => h1 (h.2 ⟨h2, h3⟩)⟩)
    · exact .inr (.inl ⟨h1, h2⟩)

set_option maxRecDepth 100000 in
set_option maxHeartbeats 2000000 in
theorem parts_out (g s a b : Int) (w : World) (h : a < 0 ∨ (0 ≤ a ∧ b < 0) ∨ (0 ≤ a ∧ 0 ≤ b ∧ 1000000 < a) ∨ (0 ≤ a ∧ 0 ≤ b ∧ a ≤ 1000000 ∧ 1000000 < b)) :
    Calls Try.prog 5 #[.agg #[.int .i64 g, .int .i64 s], .int .i64 a, .int .i64 b] w fun e w' => e = .returned (.bool true) ∧ Below w.heap.size w w' := by
  rcases h with h1 | ⟨h1, h2⟩ | ⟨h1, h2, h3⟩ | ⟨h1, h2, h3, h4⟩
  · have d1 : decide (a < 0) = true := decide_eq_true h1
    go_enter Try.func5, Try.ntmps5
    go_wp2_with fail
    refine (shown_any _).mono ?_; rintro e w1 ⟨rfl, hb1⟩
    go_wp2
    go_ret
    exact ⟨rfl, ((Below.refl _ _).alloc (Nat.le_refl _) _).trans (hb1.mono (by simp))⟩
  · have d1 : decide (a < 0) = false := decide_eq_false (by omega)
    have d2 : decide (b < 0) = true := decide_eq_true h2
    go_enter Try.func5, Try.ntmps5
    go_wp2_with fail
    refine (shown_any _).mono ?_; rintro e w1 ⟨rfl, hb1⟩
    go_wp2
    go_ret
    exact ⟨rfl, ((Below.refl _ _).alloc (Nat.le_refl _) _).trans (hb1.mono (by simp))⟩
  · have d1 : decide (a < 0) = false := decide_eq_false (by omega)
    have d2 : decide (b < 0) = false := decide_eq_false (by omega)
    have d3 : decide (1000000 < a) = true := decide_eq_true h3
    go_enter Try.func5, Try.ntmps5
    go_wp2_with fail
    refine (shown_any _).mono ?_; rintro e w1 ⟨rfl, hb1⟩
    go_wp2
    go_ret
    exact ⟨rfl, ((Below.refl _ _).alloc (Nat.le_refl _) _).trans (hb1.mono (by simp))⟩
  · have d1 : decide (a < 0) = false := decide_eq_false (by omega)
    have d2 : decide (b < 0) = false := decide_eq_false (by omega)
    have d3 : decide (1000000 < a) = false := decide_eq_false (by omega)
    have d4 : decide (1000000 < b) = true := decide_eq_true h4
    go_enter Try.func5, Try.ntmps5
    go_wp2_with fail
    refine (shown_any _).mono ?_; rintro e w1 ⟨rfl, hb1⟩
    go_wp2
    go_ret
    exact ⟨rfl, ((Below.refl _ _).alloc (Nat.le_refl _) _).trans (hb1.mono (by simp))⟩


set_option maxRecDepth 100000 in
set_option maxHeartbeats 4000000 in
theorem parts_in (g s a b : Int) (w : World) (a0 : 0 ≤ a) (b0 : 0 ≤ b) (a1 : a ≤ 1000000) (b1 : b ≤ 1000000) (E1 F1 H1 X1 X2 Y1 Y2 E2 F2 H2 U1 U2 V1 V2 : Int)
    (p1 : sE g s (a + b) = E1) (p2 : sE g s a = F1) (p3 : sE (sG g s a) (sS g s a) b = H1) (p4 : sG g s (a + b) = X1) (p5 : sS g s (a + b) = X2) (p6 : sG (sG g s a) (sS g s a) b = Y1) (p7 : sS (sG g s a) (sS g s a) b = Y2)
    (q1 : gE g s (a + b) = E2) (q2 : gE g s a = F2) (q3 : gE (gG g s a) (gS g s a) b = H2) (q4 : gG g s (a + b) = U1) (q5 : gS g s (a + b) = U2) (q6 : gG (gG g s a) (gS g s a) b = V1) (q7 : gS (gG g s a) (gS g s a) b = V2)
    (hs : Out E1 F1 H1 X1 X2 Y1 Y2) (hg : Out E2 F2 H2 U1 U2 V1 V2) :
    Calls Try.prog 5 #[.agg #[.int .i64 g, .int .i64 s], .int .i64 a, .int .i64 b] w fun e w' => e = .returned (.bool true) ∧ Below w.heap.size w w' := by
  have d1 : decide (a < 0) = false := decide_eq_false (by omega)
  have d2 : decide (b < 0) = false := decide_eq_false (by omega)
  have d3 : decide (1000000 < a) = false := decide_eq_false (by omega)
  have d4 : decide (1000000 < b) = false := decide_eq_false (by omega)
  have Hs := Lib.hid hs
  have Hg := Lib.hid hg
  clear hs hg
  go_enter Try.func5, Try.ntmps5
  go_wp2_with fail
  refine (shown_any _).mono ?_; rintro e w1 ⟨rfl, hb1⟩; obtain ⟨hc1, hf1⟩ := bcell hb1; have hz1 := hb1.size
  try simp only [World.size_alloc] at hz1
  have hW1 : Below w.heap.size w w1 := ((Below.refl w.heap.size w).alloc (by have := (Below.refl w.heap.size w).size; (try simp only [World.size_alloc]); omega) _).trans (hb1.mono (by have := (Below.refl w.heap.size w).size; (try simp only [World.size_alloc]); omega))
  have lt_w_w1 : w.heap.size < w1.heap.size := by omega
  clear hb1
  go_wp2_with fail
  refine (Spend_any _ _ _ _).mono ?_; rintro e w2 ⟨rfl, hb2⟩; obtain ⟨hc2, hf2⟩ := bcell hb2; have hz2 := hb2.size
  try simp only [World.size_alloc] at hz2
  have hW2 : Below w.heap.size w w2 := (hW1).trans (hb2.mono (by have := (hW1).size; (try simp only [World.size_alloc]); omega))
  have lt_w_w2 : w.heap.size < w2.heap.size := by omega
  clear hb2
  rw [p1]
  rw [p4]
  rw [p5]
  go_wp2_with fail
  refine (Spend_any _ _ _ _).mono ?_; rintro e w3 ⟨rfl, hb3⟩; obtain ⟨hc3, hf3⟩ := bcell hb3; have hz3 := hb3.size
  try simp only [World.size_alloc] at hz3
  have hW3 : Below w.heap.size w w3 := ((hW2).alloc (by have := (hW2).size; (try simp only [World.size_alloc]); omega) _).trans (hb3.mono (by have := (hW2).size; (try simp only [World.size_alloc]); omega))
  have lt_w_w3 : w.heap.size < w3.heap.size := by omega
  have lt_w2_w3 : w2.heap.size < w3.heap.size := by omega
  clear hb3
  rw [p2]
  go_wp2_with fail
  refine (Spend_any _ _ _ _).mono ?_; rintro e w4 ⟨rfl, hb4⟩; obtain ⟨hc4, hf4⟩ := bcell hb4; have hz4 := hb4.size
  try simp only [World.size_alloc] at hz4
  have hW4 : Below w.heap.size w w4 := ((hW3).alloc (by have := (hW3).size; (try simp only [World.size_alloc]); omega) _).trans (hb4.mono (by have := (hW3).size; (try simp only [World.size_alloc]); omega))
  have lt_w_w4 : w.heap.size < w4.heap.size := by omega
  have lt_w2_w4 : w2.heap.size < w4.heap.size := by omega
  have lt_w3_w4 : w3.heap.size < w4.heap.size := by omega
  clear hb4
  rw [p3]
  rw [p6]
  rw [p7]
  go_wp2_with fail
  refine (Grant_any _ _ _ _).mono ?_; rintro e w5 ⟨rfl, hb5⟩; obtain ⟨hc5, hf5⟩ := bcell hb5; have hz5 := hb5.size
  try simp only [World.size_alloc] at hz5
  have hW5 : Below w.heap.size w w5 := ((hW4).alloc (by have := (hW4).size; (try simp only [World.size_alloc]); omega) _).trans (hb5.mono (by have := (hW4).size; (try simp only [World.size_alloc]); omega))
  have lt_w_w5 : w.heap.size < w5.heap.size := by omega
  have lt_w2_w5 : w2.heap.size < w5.heap.size := by omega
  have lt_w3_w5 : w3.heap.size < w5.heap.size := by omega
  have lt_w4_w5 : w4.heap.size < w5.heap.size := by omega
  clear hb5
  rw [q1]
  rw [q4]
  rw [q5]
  go_wp2_with fail
  refine (Grant_any _ _ _ _).mono ?_; rintro e w6 ⟨rfl, hb6⟩; obtain ⟨hc6, hf6⟩ := bcell hb6; have hz6 := hb6.size
  try simp only [World.size_alloc] at hz6
  have hW6 : Below w.heap.size w w6 := ((hW5).alloc (by have := (hW5).size; (try simp only [World.size_alloc]); omega) _).trans (hb6.mono (by have := (hW5).size; (try simp only [World.size_alloc]); omega))
  have lt_w_w6 : w.heap.size < w6.heap.size := by omega
  have lt_w2_w6 : w2.heap.size < w6.heap.size := by omega
  have lt_w3_w6 : w3.heap.size < w6.heap.size := by omega
  have lt_w4_w6 : w4.heap.size < w6.heap.size := by omega
  have lt_w5_w6 : w5.heap.size < w6.heap.size := by omega
  clear hb6
  rw [q2]
  go_wp2_with fail
  refine (Grant_any _ _ _ _).mono ?_; rintro e w7 ⟨rfl, hb7⟩; obtain ⟨hc7, hf7⟩ := bcell hb7; have hz7 := hb7.size
  try simp only [World.size_alloc] at hz7
  have hW7 : Below w.heap.size w w7 := ((hW6).alloc (by have := (hW6).size; (try simp only [World.size_alloc]); omega) _).trans (hb7.mono (by have := (hW6).size; (try simp only [World.size_alloc]); omega))
  have lt_w_w7 : w.heap.size < w7.heap.size := by omega
  have lt_w2_w7 : w2.heap.size < w7.heap.size := by omega
  have lt_w3_w7 : w3.heap.size < w7.heap.size := by omega
  have lt_w4_w7 : w4.heap.size < w7.heap.size := by omega
  have lt_w5_w7 : w5.heap.size < w7.heap.size := by omega
  have lt_w6_w7 : w6.heap.size < w7.heap.size := by omega
  clear hb7
  rw [q3]
  rw [q6]
  rw [q7]
  clear p1 p2 p3 p4 p5 p6 p7 q1 q2 q3 q4 q5 q6 q7
  rcases Hs.out with ⟨⟨rfl, rfl, rfl⟩, rfl, rfl⟩ | ⟨i1, i2⟩ | ⟨i1, rfl, i3⟩
  · clear Hs
    rcases Hg.out with ⟨⟨rfl, rfl, rfl⟩, rfl, rfl⟩ | ⟨j1, j2⟩ | ⟨j1, rfl, j3⟩
    · clear Hg
      go_wp2
      go_ret
      exact ⟨rfl, (hW7.alloc hW7.size _)⟩
    · clear Hg
      have j1a : (E2 == 0) = false := by simpa using j1
      have j1b : (E2 != 0) = true := by simpa using j1
      have j2a : (F2 == 0) = false := by simpa using j2
      have j2b : (F2 != 0) = true := by simpa using j2
      clear j1 j2
      go_wp2
      go_ret
      exact ⟨rfl, (hW7.alloc hW7.size _)⟩
    · clear Hg
      have j1a : (E2 == 0) = false := by simpa using j1
      have j1b : (E2 != 0) = true := by simpa using j1
      have j3a : (H2 == 0) = false := by simpa using j3
      have j3b : (H2 != 0) = true := by simpa using j3
      clear j1 j3
      go_wp2
      go_ret
      exact ⟨rfl, (hW7.alloc hW7.size _)⟩
  · clear Hs
    have i1a : (E1 == 0) = false := by simpa using i1
    have i1b : (E1 != 0) = true := by simpa using i1
    have i2a : (F1 == 0) = false := by simpa using i2
    have i2b : (F1 != 0) = true := by simpa using i2
    clear i1 i2
    rcases Hg.out with ⟨⟨rfl, rfl, rfl⟩, rfl, rfl⟩ | ⟨j1, j2⟩ | ⟨j1, rfl, j3⟩
    · clear Hg
      go_wp2
      go_ret
      exact ⟨rfl, (hW7.alloc hW7.size _)⟩
    · clear Hg
      have j1a : (E2 == 0) = false := by simpa using j1
      have j1b : (E2 != 0) = true := by simpa using j1
      have j2a : (F2 == 0) = false := by simpa using j2
      have j2b : (F2 != 0) = true := by simpa using j2
      clear j1 j2
      go_wp2
      go_ret
      exact ⟨rfl, (hW7.alloc hW7.size _)⟩
    · clear Hg
      have j1a : (E2 == 0) = false := by simpa using j1
      have j1b : (E2 != 0) = true := by simpa using j1
      have j3a : (H2 == 0) = false := by simpa using j3
      have j3b : (H2 != 0) = true := by simpa using j3
      clear j1 j3
      go_wp2
      go_ret
      exact ⟨rfl, (hW7.alloc hW7.size _)⟩
  · clear Hs
    have i1a : (E1 == 0) = false := by simpa using i1
    have i1b : (E1 != 0) = true := by simpa using i1
    have i3a : (H1 == 0) = false := by simpa using i3
    have i3b : (H1 != 0) = true := by simpa using i3
    clear i1 i3
    rcases Hg.out with ⟨⟨rfl, rfl, rfl⟩, rfl, rfl⟩ | ⟨j1, j2⟩ | ⟨j1, rfl, j3⟩
    · clear Hg
      go_wp2
      go_ret
      exact ⟨rfl, (hW7.alloc hW7.size _)⟩
    · clear Hg
      have j1a : (E2 == 0) = false := by simpa using j1
      have j1b : (E2 != 0) = true := by simpa using j1
      have j2a : (F2 == 0) = false := by simpa using j2
      have j2b : (F2 != 0) = true := by simpa using j2
      clear j1 j2
      go_wp2
      go_ret
      exact ⟨rfl, (hW7.alloc hW7.size _)⟩
    · clear Hg
      have j1a : (E2 == 0) = false := by simpa using j1
      have j1b : (E2 != 0) = true := by simpa using j1
      have j3a : (H2 == 0) = false := by simpa using j3
      have j3b : (H2 != 0) = true := by simpa using j3
      clear j1 j3
      go_wp2
      go_ret
      exact ⟨rfl, (hW7.alloc hW7.size _)⟩

theorem parts_walk (g s a b : Int) (w : World) :
    Calls Try.prog 5 #[.agg #[.int .i64 g, .int .i64 s], .int .i64 a, .int .i64 b] w fun e w' => e = .returned (.bool true) ∧ Below w.heap.size w w' := by
  by_cases h : 0 ≤ a ∧ 0 ≤ b ∧ a ≤ 1000000 ∧ b ≤ 1000000
  · exact parts_in g s a b w h.1 h.2.1 h.2.2.1 h.2.2.2 _ _ _ _ _ _ _ _ _ _ _ _ _ _ rfl rfl rfl rfl rfl rfl rfl rfl rfl rfl rfl rfl rfl rfl (spend_out g s a b h.1 h.2.1) (grant_out g s a b h.1 h.2.1)
  · exact parts_out g s a b w (by omega)
end Go.Proofs.Ytbdklcdecknceaa

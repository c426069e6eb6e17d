/- What ports' and targets' texts are. -/
import Derived.Test.YtlnjalhlbfbjcaaGreatDoorW
import Derived.Test.YtlnjalhlbfbjcaaGreatDoorT
namespace Go.Proofs.YtlnjalhlbfbjcaaGreatDoor

theorem nd_dash (r : List UInt8) : nd (45 :: r) := nd_cons (by unfold isDg; decide)
theorem snP_iff {L : List UInt8} {n : Int} : snP 65535 L = some n ↔ 0 ≤ n ∧ n ≤ 65535 ∧ L = Lib.itoa n := by
  unfold snP
  simp only [Option.bind_eq_some_iff, Prod.exists]
  constructor
  · rintro ⟨x, R, h, e⟩
    obtain ⟨h1, h2, h3, -⟩ := num_of (by omega) (by omega) h
    split at e
    · rename_i hR
      subst hR
      cases e
      exact ⟨h1, h2, by simpa using h3⟩
    · cases e
  · rintro ⟨h1, h2, h3⟩
    exact ⟨n, [], by rw [h3]; have := num_at (most := 65535) (by omega) (by omega) (n := n) (R := []) ⟨h1, h2⟩ nd_nil; simpa using this, by simp⟩
theorem dashP_iff {L : List UInt8} {f t : Int} : dashP L = some (f, t) ↔ (0 ≤ f ∧ f ≤ 65535) ∧ (0 ≤ t ∧ t ≤ 65535) ∧ L = (Lib.itoa f ++ [45]) ++ Lib.itoa t := by
  unfold dashP
  simp only [Option.bind_eq_some_iff, Prod.exists]
  constructor
  · rintro ⟨x, R1, h1, R2, h2, y, R3, h3, e⟩
    obtain ⟨a1, a2, rfl, -⟩ := num_of (by omega) (by omega) h1
    rw [mark_iff] at h2
    subst h2
    obtain ⟨b1, b2, rfl, -⟩ := num_of (by omega) (by omega) h3
    split at e
    · rename_i hR
      subst hR
      cases e
      exact ⟨⟨a1, a2⟩, ⟨b1, b2⟩, by simp⟩
    · cases e
  · rintro ⟨a, b, rfl⟩
    refine ⟨f, 45 :: Lib.itoa t, ?_, Lib.itoa t, by simp [markP], t, [], ?_, by simp⟩
    · have := num_at (most := 65535) (by omega) (by omega) (n := f) (R := 45 :: Lib.itoa t) a (nd_dash _)
      simpa using this
    · have := num_at (most := 65535) (by omega) (by omega) (n := t) (R := []) b nd_nil
      simpa using this
theorem sevP_iff {L : List UInt8} {f t : Int} : sevP L = some (f, t) ↔ rightQ f t = true ∧ f < t ∧ ¬ (f = 0 ∧ t = 65535) ∧ L = (Lib.itoa f ++ [45]) ++ Lib.itoa t := by
  unfold sevP
  simp only [Option.bind_eq_some_iff, Prod.exists]
  constructor
  · rintro ⟨x, y, h, e⟩
    obtain ⟨a, b, h3⟩ := dashP_iff.1 h
    split at e
    · rename_i hc
      cases e
      exact ⟨rightQ_iff.2 (by omega), hc.1, hc.2, h3⟩
    · cases e
  · rintro ⟨h1, h2, h3, h4⟩
    have := rightQ_iff.1 h1
    exact ⟨f, t, dashP_iff.2 ⟨by omega, by omega, h4⟩, by rw [if_pos ⟨h2, h3⟩]⟩
theorem itoa_dg {n : Int} (h : 0 ≤ n) : ∀ c ∈ Lib.itoa n, isDg c := by
  obtain ⟨v, rfl⟩ : ∃ v : Nat, n = v := ⟨n.toNat, by omega⟩
  exact itoa_dgs v
theorem not_in {n : Int} (h : 0 ≤ n) {c : UInt8} (hc : ¬ isDg c) : c ∉ Lib.itoa n := fun hm => hc (itoa_dg h c hm)
theorem dg42 : ¬ isDg 42 := by unfold isDg; decide
theorem dg45 : ¬ isDg 45 := by unfold isDg; decide
theorem rw_iff {L : List UInt8} {f t : Int} : rwP L = some (f, t) ↔ rightQ f t = true ∧ L = prS f t := by
  unfold rwP
  by_cases h0 : L = [42]
  · rw [if_pos h0]
    constructor
    · intro h
      cases h
      exact ⟨rfl, h0⟩
    · rintro ⟨h1, h2⟩
      have hb := rightQ_iff.1 h1
      unfold prS at h2
      rw [if_pos h1, h0] at h2
      by_cases h3 : f = 0 ∧ t = 65535
      · rw [h3.1, h3.2]
      · rw [if_neg h3] at h2
        exfalso
        have hm : (42 : UInt8) ∈ Lib.itoa f ∨ (42 : UInt8) ∈ Lib.itoa t ∨ (42 : UInt8) = 45 := by
          by_cases h4 : f = t
          · rw [if_pos h4] at h2; exact .inl (by rw [← h2]; simp)
          · rw [if_neg h4] at h2
            have : (42 : UInt8) ∈ (Lib.itoa f ++ [45]) ++ Lib.itoa t := by rw [← h2]; simp
            simp only [List.mem_append, List.mem_singleton] at this
            rcases this with (h | h) | h
            · exact .inl h
            · exact .inr (.inr h)
            · exact .inr (.inl h)
        rcases hm with h | h | h
        · exact not_in (by omega) dg42 h
        · exact not_in (by omega) dg42 h
        · cases h
  · rw [if_neg h0]
    cases hs : snP 65535 L with
    | some n =>
      obtain ⟨a1, a2, a3⟩ := snP_iff.1 hs
      simp only [Option.some.injEq, Prod.mk.injEq]
      constructor
      · rintro ⟨rfl, rfl⟩
        have hr : rightQ n n = true := rightQ_iff.2 (by omega)
        refine ⟨hr, ?_⟩
        unfold prS
        rw [if_pos hr, if_neg (by omega), if_pos rfl]; exact a3
      · rintro ⟨h1, h2⟩
        have hb := rightQ_iff.1 h1
        unfold prS at h2
        rw [if_pos h1] at h2
        by_cases h3 : f = 0 ∧ t = 65535
        · rw [if_pos h3] at h2; exact absurd h2 h0
        · rw [if_neg h3] at h2
          by_cases h4 : f = t
          · subst h4
            rw [if_pos rfl] at h2
            have := snP_iff.2 ⟨hb.1, by omega, h2⟩
            rw [hs] at this
            cases this
            exact ⟨rfl, rfl⟩
          · rw [if_neg h4] at h2
            have : (45 : UInt8) ∈ L := by rw [h2]; simp
            rw [a3] at this
            exact absurd this (not_in a1 dg45)
    | none =>
      simp only
      rw [sevP_iff]
      constructor
      · rintro ⟨h1, h2, h3, h4⟩
        refine ⟨h1, ?_⟩
        unfold prS
        rw [if_pos h1, if_neg h3, if_neg (by omega)]; exact h4
      · rintro ⟨h1, h2⟩
        have hb := rightQ_iff.1 h1
        unfold prS at h2
        rw [if_pos h1] at h2
        by_cases h3 : f = 0 ∧ t = 65535
        · rw [if_pos h3] at h2; exact absurd h2 h0
        · rw [if_neg h3] at h2
          by_cases h4 : f = t
          · subst h4
            rw [if_pos rfl] at h2
            have := snP_iff.2 ⟨hb.1, by omega, h2⟩
            rw [hs] at this
            cases this
          · rw [if_neg h4] at h2
            exact ⟨h1, by omega, h3, h2⟩

theorem cutL_at {c : UInt8} : ∀ {l r : List UInt8}, c ∉ l → cutL c (l ++ c :: r) = (l, r, true)
  | [], r, _ => by simp [cutL]
  | x :: l, r, h => by
    have h1 : ¬ x = c := fun e => h (by rw [e]; simp)
    have h2 : c ∉ l := fun e => h (by simp [e])
    simp [cutL, h1, cutL_at h2]
theorem cutL_of {c : UInt8} : ∀ {L : List UInt8}, ((cutL c L).2.2 = true ∧ L = (cutL c L).1 ++ c :: (cutL c L).2.1) ∨ (cutL c L).2.1 = []
  | [] => .inr rfl
  | x :: r => by
    by_cases h : x = c
    · exact .inl (by simp [cutL, h])
    · rcases @cutL_of c r with ⟨h1, h2⟩ | h2
      · refine .inl ?_
        simp only [cutL, if_neg h]
        exact ⟨h1, by rw [List.cons_append, ← h2]⟩
      · exact .inr (by simp only [cutL, if_neg h]; exact h2)
theorem colon_aT (a : Int) : (58 : UInt8) ∉ aT a := by
  rw [aT_eq]
  simp only [List.mem_append, List.mem_cons, not_or]
  have hd : ∀ n : Nat, (58 : UInt8) ∉ Lib.itoa (n : Int) := fun n => not_in (by omega) (by unfold isDg; decide)
  exact ⟨hd _, by decide, hd _, by decide, hd _, by decide, hd _⟩
theorem ptS_ok {A P : Int} (h : ptOk A P = true) : ptS A P = (aT A ++ [58]) ++ Lib.itoa P := by
  unfold ptS
  rw [if_pos h]
  have : isA A = true := by simp only [ptOk, Bool.and_eq_true] at h; exact h.1
  unfold printS
  rw [if_pos this]; rfl
theorem tg_iff {L : List UInt8} {a n : Int} : tgP L = some (a, n) ↔ ptOk a n = true ∧ L = ptS a n := by
  unfold tgP
  simp only [Option.bind_eq_some_iff]
  constructor
  · rintro ⟨x, h1, y, h2, e⟩
    obtain ⟨a1, a2⟩ := parse_iff.1 h1
    obtain ⟨b1, b2, b3⟩ := snP_iff.1 h2
    split at e
    · cases e
    · rename_i hz
      cases e
      have ho : ptOk a n = true := by unfold ptOk; rw [a1, decide_eq_true (by omega)]; rfl
      refine ⟨ho, ?_⟩
      rw [ptS_ok ho]
      rcases @cutL_of 58 L with ⟨-, h⟩ | h
      · rw [a2, b3] at h; rw [h]; simp
      · rw [h] at b3
        obtain ⟨v, rfl⟩ : ∃ v : Nat, n = v := ⟨n.toNat, by omega⟩
        exfalso
        by_cases hv : v < 10
        · rw [itoa_small hv] at b3; cases b3
        · rw [itoa_next hv] at b3; simp at b3
  · rintro ⟨h1, h2⟩
    have hp := h1
    simp only [ptOk, Bool.and_eq_true, decide_eq_true_eq] at hp
    rw [ptS_ok h1] at h2
    have e : L = aT a ++ 58 :: Lib.itoa n := by rw [h2]; simp
    rw [e, cutL_at (colon_aT a)]
    refine ⟨a, parse_iff.2 ⟨hp.1, rfl⟩, n, snP_iff.2 ⟨by omega, by omega, rfl⟩, ?_⟩
    rw [if_neg (by omega)]
/-- No text is of ports and of a target. -/
theorem both_not {L : List UInt8} (h1 : (rwP L).isSome = true) (h2 : (tgP L).isSome = true) : False := by
  obtain ⟨⟨f, t⟩, h1⟩ := Option.isSome_iff_exists.1 h1
  obtain ⟨⟨a, n⟩, h2⟩ := Option.isSome_iff_exists.1 h2
  obtain ⟨r1, r2⟩ := rw_iff.1 h1
  obtain ⟨t1, t2⟩ := tg_iff.1 h2
  rw [ptS_ok t1] at t2
  have hc : (58 : UInt8) ∈ L := by rw [t2]; simp
  have hb := rightQ_iff.1 r1
  rw [r2] at hc
  unfold prS at hc
  rw [if_pos r1] at hc
  have d58 : ¬ isDg 58 := by unfold isDg; decide
  split at hc
  · simp at hc
  · split at hc
    · exact not_in (by omega) d58 hc
    · simp only [List.mem_append, List.mem_singleton] at hc
      rcases hc with (h | h) | h
      · exact not_in (by omega) d58 h
      · cases h
      · exact not_in (by omega) d58 h
end Go.Proofs.YtlnjalhlbfbjcaaGreatDoor

/- What a text of digits tells: a number's text, and no other. -/
import Derived.Test.YtlmgdhhlflmghaaDoorJ
namespace Go.Proofs.YtlmgdhhlflmghaaDoor

def isDg (c : UInt8) : Prop := 48 ≤ c.toNat ∧ c.toNat ≤ 57
/-- No digit stands ahead. -/
def nd (R : List UInt8) : Prop := ∀ c r, R = c :: r → ¬ isDg c
theorem nd_nil : nd [] := fun _ _ h => by cases h
theorem nd_cons {c : UInt8} {r : List UInt8} (h : ¬ isDg c) : nd (c :: r) := fun _ _ e => by cases e; exact h
def itoa3 (v : Nat) : List UInt8 := if v < 10 then [UInt8.ofNat (48 + v)] else if v < 100 then [UInt8.ofNat (48 + v / 10), UInt8.ofNat (48 + v % 10)] else [UInt8.ofNat (48 + v / 100), UInt8.ofNat (48 + v / 10 % 10), UInt8.ofNat (48 + v % 10)]
theorem itoa_tab3 : ((List.range 1000).all fun v => decide (Lib.itoa (v : Int) = itoa3 v)) = true := by decide +kernel
theorem itoa_3 (v : Nat) (h : v < 1000) : Lib.itoa (v : Int) = itoa3 v := by
  have := List.all_eq_true.1 itoa_tab3 v (List.mem_range.2 h)
  simpa using this
theorem of_dg {c : UInt8} (h : isDg c) : UInt8.ofNat (48 + (c.toNat - 48)) = c := by
  have := h.1
  rw [show 48 + (c.toNat - 48) = c.toNat by omega]
  exact UInt8.ofNat_toNat
theorem dg_of {d : Nat} (h : d < 10) : isDg (UInt8.ofNat (48 + d)) ∧ (UInt8.ofNat (48 + d)).toNat - 48 = d := by
  have e : (UInt8.ofNat (48 + d)).toNat = 48 + d := by rw [UInt8.toNat_ofNat']; omega
  unfold isDg
  rw [e]
  omega

theorem digN_nd {R : List UInt8} (h : nd R) (i : Nat) : digN i R = [] := by
  cases R with
  | nil => rfl
  | cons c r =>
    simp only [digN]
    rw [dif_neg (fun e => h c r rfl e.1)]
theorem run_nd {most : Int} {st : Int × Int} {R : List UInt8} (h : nd R) (i : Nat) : runD most st (digN i R) = some st := by rw [digN_nd h]; rfl
theorem run_dg {most m k : Int} {i : Nat} {c : UInt8} {r : List UInt8} (h : isDg c) (hi : i ≤ 1000) :
    runD most (m, k) (digN i (c :: r)) = if (i = 1 ∧ m = 0) ∨ ((c.toNat - 48 : Nat) : Int) > most - 10 * m then none else runD most (10 * m + ((c.toNat - 48 : Nat) : Int), (i : Int) + 1) (digN (i + 1) r) := by
  simp only [digN]
  rw [dif_pos ⟨h, hi⟩]
  simp only [runD, stepD]
  split
  · rename_i he
    split at he
    · rename_i hc; rw [if_pos hc]
    · cases he
  · rename_i st' he
    split at he
    · cases he
    · rename_i hc
      cases he
      rw [if_neg hc]

theorem num_at {most : Int} (h0 : 0 ≤ most) (h1 : most ≤ 999) {n : Int} {R : List UInt8} (hn : 0 ≤ n ∧ n ≤ most) (hR : nd R) : numP most (Lib.itoa n ++ R) = some (n, R) := by
  obtain ⟨v, rfl⟩ : ∃ v : Nat, n = v := ⟨n.toNat, by omega⟩
  rw [itoa_3 v (by omega)]
  unfold itoa3 numP
  by_cases g1 : v < 10
  · rw [if_pos g1]
    obtain ⟨d1, d2⟩ := dg_of g1
    rw [show [UInt8.ofNat (48 + v)] ++ R = UInt8.ofNat (48 + v) :: R from rfl, run_dg d1 (by omega), d2, if_neg (by omega), run_nd hR]
    simp
  · rw [if_neg g1]
    by_cases g2 : v < 100
    · rw [if_pos g2]
      obtain ⟨d1, d2⟩ := dg_of (show v / 10 < 10 by omega)
      obtain ⟨e1, e2⟩ := dg_of (show v % 10 < 10 by omega)
      rw [show [UInt8.ofNat (48 + v / 10), UInt8.ofNat (48 + v % 10)] ++ R = UInt8.ofNat (48 + v / 10) :: UInt8.ofNat (48 + v % 10) :: R from rfl, run_dg d1 (by omega), d2, if_neg (by omega), run_dg e1 (by omega), e2, if_neg (by omega), run_nd hR]
      simp
      omega
    · rw [if_neg g2]
      obtain ⟨d1, d2⟩ := dg_of (show v / 100 < 10 by omega)
      obtain ⟨e1, e2⟩ := dg_of (show v / 10 % 10 < 10 by omega)
      obtain ⟨f1, f2⟩ := dg_of (show v % 10 < 10 by omega)
      rw [show [UInt8.ofNat (48 + v / 100), UInt8.ofNat (48 + v / 10 % 10), UInt8.ofNat (48 + v % 10)] ++ R = UInt8.ofNat (48 + v / 100) :: UInt8.ofNat (48 + v / 10 % 10) :: UInt8.ofNat (48 + v % 10) :: R from rfl,
        run_dg d1 (by omega), d2, if_neg (by omega), run_dg e1 (by omega), e2, if_neg (by omega), run_dg f1 (by omega), f2, if_neg (by omega), run_nd hR]
      simp
      omega

theorem num_of {most : Int} (h0 : 0 ≤ most) (h1 : most ≤ 999) {L : List UInt8} {n : Int} {R : List UInt8} (h : numP most L = some (n, R)) : 0 ≤ n ∧ n ≤ most ∧ L = Lib.itoa n ++ R ∧ nd R := by
  unfold numP at h
  cases L with
  | nil => simp [digN, runD] at h
  | cons c0 r0 =>
    by_cases d0 : isDg c0
    · rw [run_dg d0 (by omega)] at h
      have b0 := d0
      unfold isDg at b0
      split at h
      · cases h
      · rename_i n1 k1 hs
        split at hs
        · cases hs
        · rename_i g0
          have z0 := of_dg d0
          generalize hv0 : c0.toNat - 48 = v0 at *
          by_cases e1 : nd r0
          · rw [run_nd e1] at hs
            cases hs
            simp at h
            obtain ⟨rfl, rfl⟩ := h
            refine ⟨by omega, by omega, ?_, e1⟩
            rw [itoa_3 v0 (by omega)]; unfold itoa3; rw [if_pos (by omega), z0]; rfl
          · cases r0 with
            | nil => exact absurd nd_nil e1
            | cons c1 r1 =>
              by_cases d1 : isDg c1
              · rw [run_dg d1 (by omega)] at hs
                have b1 := d1
                unfold isDg at b1
                have z1 := of_dg d1
                generalize hv1 : c1.toNat - 48 = v1 at *
                split at hs
                · cases hs
                · rename_i g1
                  have p0 : v0 ≠ 0 := by omega
                  by_cases e2 : nd r1
                  · rw [run_nd e2] at hs
                    cases hs
                    simp at h
                    obtain ⟨rfl, rfl⟩ := h
                    refine ⟨by omega, by omega, ?_, e2⟩
                    rw [show (10 * (v0 : Int) + (v1 : Int)) = ((10 * v0 + v1 : Nat) : Int) by omega, itoa_3 (10 * v0 + v1) (by omega)]
                    unfold itoa3
                    rw [if_neg (by omega), if_pos (by omega), show (10 * v0 + v1) / 10 = v0 by omega, show (10 * v0 + v1) % 10 = v1 by omega, z0, z1]; rfl
                  · cases r1 with
                    | nil => exact absurd nd_nil e2
                    | cons c2 r2 =>
                      by_cases d2 : isDg c2
                      · rw [run_dg d2 (by omega)] at hs
                        have b2 := d2
                        unfold isDg at b2
                        have z2 := of_dg d2
                        generalize hv2 : c2.toNat - 48 = v2 at *
                        split at hs
                        · cases hs
                        · rename_i g2
                          by_cases e3 : nd r2
                          · rw [run_nd e3] at hs
                            cases hs
                            simp at h
                            obtain ⟨rfl, rfl⟩ := h
                            refine ⟨by omega, by omega, ?_, e3⟩
                            rw [show (10 * (10 * (v0 : Int) + (v1 : Int)) + (v2 : Int)) = ((10 * (10 * v0 + v1) + v2 : Nat) : Int) by omega, itoa_3 (10 * (10 * v0 + v1) + v2) (by omega)]
                            unfold itoa3
                            rw [if_neg (by omega), if_neg (by omega), show (10 * (10 * v0 + v1) + v2) / 100 = v0 by omega, show (10 * (10 * v0 + v1) + v2) / 10 % 10 = v1 by omega, show (10 * (10 * v0 + v1) + v2) % 10 = v2 by omega, z0, z1, z2]; rfl
                          · cases r2 with
                            | nil => exact absurd nd_nil e3
                            | cons c3 r3 =>
                              by_cases d3 : isDg c3
                              · rw [run_dg d3 (by omega), if_pos (.inr (by omega))] at hs
                                cases hs
                              · exact absurd (nd_cons d3) e3
                      · exact absurd (nd_cons d2) e2
              · exact absurd (nd_cons d1) e1
    · rw [run_nd (nd_cons d0)] at h
      simp at h
theorem num_iff {most : Int} (h0 : 0 ≤ most) (h1 : most ≤ 999) {L : List UInt8} {n : Int} {R : List UInt8} : numP most L = some (n, R) ↔ 0 ≤ n ∧ n ≤ most ∧ L = Lib.itoa n ++ R ∧ nd R :=
  ⟨num_of h0 h1, fun ⟨a, b, c, d⟩ => by rw [c]; exact num_at h0 h1 ⟨a, b⟩ d⟩
theorem mark_iff {c : UInt8} {L R : List UInt8} : markP c L = some R ↔ L = c :: R := by
  cases L with
  | nil => simp [markP]
  | cons x r =>
    simp only [markP]
    by_cases h : x = c
    · rw [if_pos h]; subst h; simp
    · rw [if_neg h]; simp [h]
end Go.Proofs.YtlmgdhhlflmghaaDoor

/- What a text of digits tells: a number's text, and no other. -/
import Derived.Test.YtlnjalhlbfbjcaaGreatDoorJ
import Derived.Lib.ItoaLen
import Derived.Lib.ItoaMem
namespace Go.Proofs.YtlnjalhlbfbjcaaGreatDoor
def isDg (c : UInt8) : Prop := 48 ≤ c.toNat ∧ c.toNat ≤ 57
/-- No digit stands ahead. -/
def nd (R : List UInt8) : Prop := ∀ c r, R = c :: r → ¬ isDg c
theorem nd_nil : nd [] := fun _ _ h => by cases h
theorem nd_cons {c : UInt8} {r : List UInt8} (h : ¬ isDg c) : nd (c :: r) := fun _ _ e => by cases e; exact h
theorem of_dg {c : UInt8} (h : isDg c) : UInt8.ofNat (48 + (c.toNat - 48)) = c := by
  have := h.1
  rw [show 48 + (c.toNat - 48) = c.toNat by omega]
  exact UInt8.ofNat_toNat
theorem dg_of {d : Nat} (h : d < 10) : isDg (UInt8.ofNat (48 + d)) ∧ (UInt8.ofNat (48 + d)).toNat - 48 = d := by
  have e : (UInt8.ofNat (48 + d)).toNat = 48 + d := by rw [UInt8.toNat_ofNat']; omega
  unfold isDg
  rw [e]
  omega
theorem itoa_small {v : Nat} (h : v < 10) : Lib.itoa (v : Int) = [UInt8.ofNat (48 + v)] := by rw [Lib.itoa_nonneg, Lib.decDigits, dif_pos h]
theorem itoa_next {v : Nat} (h : ¬ v < 10) : Lib.itoa (v : Int) = Lib.itoa ((v / 10 : Nat) : Int) ++ [UInt8.ofNat (48 + v % 10)] := by
  rw [Lib.itoa_nonneg, Lib.itoa_nonneg, Lib.decDigits, dif_neg h]
theorem itoa_dgs (v : Nat) : ∀ c ∈ Lib.itoa (v : Int), isDg c := by
  induction v using Nat.strongRecOn with
  | _ v ih =>
    by_cases h : v < 10
    · rw [itoa_small h]
      intro c hc
      rw [List.mem_singleton.1 hc]
      exact (dg_of h).1
    · rw [itoa_next h]
      intro c hc
      rcases List.mem_append.1 hc with hc | hc
      · exact ih (v / 10) (by omega) c hc
      · rw [List.mem_singleton.1 hc]
        exact (dg_of (by omega)).1
theorem snoc_indU {p : List UInt8 → Prop} (h0 : p []) (h1 : ∀ l x, p l → p (l ++ [x])) (l : List UInt8) : p l := by
  have : ∀ l : List UInt8, p l.reverse := by
    intro l
    induction l with
    | nil => simpa using h0
    | cons x l ih => simpa using h1 _ x ih
  simpa using this l.reverse

theorem digN_nd {R : List UInt8} (h : nd R) (i : Nat) : digN i R = [] := by
  cases R with
  | nil => rfl
  | cons c r =>
    simp only [digN]
    rw [dif_neg (fun e => h c r rfl e.1)]
theorem run_nd {most : Int} {st : Int × Int} {R : List UInt8} (h : nd R) (i : Nat) : runD most st (digN i R) = some st := by rw [digN_nd h]; rfl
theorem digN_app : ∀ (D R : List UInt8) (i : Nat), (∀ c ∈ D, isDg c) → i + D.length ≤ 1001 → digN i (D ++ R) = digN i D ++ digN (i + D.length) R
  | [], R, i, _, _ => by simp [digN]
  | c :: D, R, i, hd, hl => by
    have hc : isDg c := hd c (by simp)
    simp only [List.length_cons] at hl
    simp only [List.cons_append, digN]
    rw [dif_pos ⟨hc, by omega⟩, dif_pos ⟨hc, by omega⟩, digN_app D R (i + 1) (fun x hx => hd x (by simp [hx])) (by omega), List.cons_append, List.length_cons, show i + 1 + D.length = i + (D.length + 1) by omega]
theorem digN_one {c : UInt8} (hc : isDg c) {i : Nat} (hi : i ≤ 1000) : ∃ x : Dg, x.p = i ∧ x.d = c.toNat - 48 ∧ digN i [c] = [x] := by
  refine ⟨⟨i, c.toNat - 48, hi, by have := hc.2; omega⟩, rfl, rfl, ?_⟩
  simp only [digN]
  rw [dif_pos ⟨hc, hi⟩]
theorem run_app {most : Int} {st : Int × Int} : ∀ (D E : List Dg), runD most st (D ++ E) = (runD most st D).bind fun st' => runD most st' E := by
  intro D
  induction D generalizing st with
  | nil => intro E; rfl
  | cons x D ih =>
    intro E
    simp only [List.cons_append, runD]
    cases h : stepD most st x with
    | none => simp
    | some st' => simp [ih]

/-- A number's text is read as the number. -/
theorem run_itoa {most : Int} (v : Nat) (hv : (v : Int) ≤ most) (hm : most ≤ 100000) : runD most (0, 0) (digN 0 (Lib.itoa (v : Int))) = some ((v : Int), ((Lib.itoa (v : Int)).length : Int)) := by
  induction v using Nat.strongRecOn with
  | _ v ih =>
    by_cases h : v < 10
    · obtain ⟨d1, d2⟩ := dg_of h
      obtain ⟨x, h1, h2, h3⟩ := digN_one d1 (i := 0) (by omega)
      rw [itoa_small h, h3]
      simp only [runD]
      rw [step_some (by omega) (by omega)]
      simp only [List.length_singleton]
      rw [h2, d2, h1]
      simp
    · have hl := Lib.itoa_length_le ((v / 10 : Nat) : Int) (by omega) (by omega)
      obtain ⟨d1, d2⟩ := dg_of (show v % 10 < 10 by omega)
      obtain ⟨x, h1, h2, h3⟩ := digN_one d1 (i := 0 + (Lib.itoa ((v / 10 : Nat) : Int)).length) (by omega)
      rw [itoa_next h, digN_app _ _ 0 (itoa_dgs _) (by omega), h3, run_app, ih (v / 10) (by omega) (by omega), Option.bind_some]
      simp only [runD]
      have e1 : (((Lib.itoa ((v / 10 : Nat) : Int)).length : Nat) : Int) = (x.p : Int) := by rw [h1]; omega
      rw [e1, step_some (by omega) (by omega)]
      simp only [List.length_append, List.length_singleton]
      rw [h2, d2]
      refine congrArg some (Prod.ext ?_ ?_)
      · show 10 * ((v / 10 : Nat) : Int) + ((v % 10 : Nat) : Int) = v
        omega
      · show (x.p : Int) + 1 = (((Lib.itoa ((v / 10 : Nat) : Int)).length + 1 : Nat) : Int)
        omega
/-- What is read is a number's text. -/
theorem run_back {most : Int} (h0 : 0 ≤ most) (hm : most ≤ 100000) (D : List UInt8) : (∀ c ∈ D, isDg c) → D.length ≤ 1000 → D ≠ [] → ∀ n k, runD most (0, 0) (digN 0 D) = some (n, k) → 0 ≤ n ∧ n ≤ most ∧ D = Lib.itoa n ∧ k = (D.length : Int) := by
  induction D using snoc_indU with
  | h0 => intro _ _ h; exact absurd rfl h
  | h1 D c ih =>
    intro hd hl _ n k hr
    have hdc : isDg c := hd c (by simp)
    have hdD : ∀ x ∈ D, isDg x := fun x hx => hd x (by simp [hx])
    simp only [List.length_append, List.length_singleton] at hl
    obtain ⟨x, h1, h2, h3⟩ := digN_one hdc (i := 0 + D.length) (by omega)
    rw [digN_app D [c] 0 hdD (by omega), h3, run_app] at hr
    by_cases hD : D = []
    · subst hD
      simp only [digN, runD, Option.bind_some] at hr
      have hx : ¬ (((x.p : Int) = 1 ∧ (0 : Int) = 0) ∨ (x.d : Int) > most - 10 * 0) := by
        intro hx
        rw [step_none hx] at hr
        cases hr
      rw [step_some (by omega) (by omega)] at hr
      cases hr
      have hb := hdc
      unfold isDg at hb
      refine ⟨by omega, by omega, ?_, by rw [h1]; simp⟩
      rw [h2, show (10 * (0 : Int) + ((c.toNat - 48 : Nat) : Int)) = ((c.toNat - 48 : Nat) : Int) by omega, itoa_small (by omega), of_dg hdc]
      rfl
    · cases hrD : runD most (0, 0) (digN 0 D) with
      | none => rw [hrD] at hr; cases hr
      | some st =>
        obtain ⟨m, j⟩ := st
        obtain ⟨a1, a2, a3, a4⟩ := ih hdD (by omega) hD m j hrD
        rw [hrD, Option.bind_some] at hr
        simp only [runD] at hr
        have e1 : j = (x.p : Int) := by rw [a4, h1]; omega
        subst e1
        have hx : ¬ (((x.p : Int) = 1 ∧ m = 0) ∨ (x.d : Int) > most - 10 * m) := by
          intro hx
          rw [step_none hx] at hr
          cases hr
        rw [step_some (by omega) (by omega)] at hr
        cases hr
        obtain ⟨v, rfl⟩ : ∃ v : Nat, m = v := ⟨m.toNat, by omega⟩
        have hv : v ≠ 0 := by
          rintro rfl
          have : D.length = 1 := by rw [a3, itoa_small (v := 0) (by omega)]; rfl
          omega
        have hb := hdc
        unfold isDg at hb
        refine ⟨by omega, by omega, ?_, by rw [h1]; simp⟩
        have e2 : (10 * (v : Int) + (x.d : Int)) = ((10 * v + (c.toNat - 48) : Nat) : Int) := by rw [h2]; omega
        rw [e2, itoa_next (by omega), show (10 * v + (c.toNat - 48)) / 10 = v by omega, show (10 * v + (c.toNat - 48)) % 10 = c.toNat - 48 by omega, of_dg hdc, ← a3]
/-- The digits ahead, and the rest. -/
theorem span_dg (L : List UInt8) : ∃ D R, L = D ++ R ∧ (∀ c ∈ D, isDg c) ∧ nd R := by
  induction L with
  | nil => exact ⟨[], [], rfl, by simp, nd_nil⟩
  | cons c r ih =>
    by_cases h : isDg c
    · obtain ⟨D, R, e, hd, hr⟩ := ih
      exact ⟨c :: D, R, by rw [e]; rfl, fun x hx => by rcases List.mem_cons.1 hx with rfl | hx; exact h; exact hd x hx, hr⟩
    · exact ⟨[], c :: r, rfl, by simp, nd_cons h⟩
theorem num_at {most : Int} (_ : 0 ≤ most) (h1 : most ≤ 100000) {n : Int} {R : List UInt8} (hn : 0 ≤ n ∧ n ≤ most) (hR : nd R) : numP most (Lib.itoa n ++ R) = some (n, R) := by
  obtain ⟨v, rfl⟩ : ∃ v : Nat, n = v := ⟨n.toNat, by omega⟩
  have hl := Lib.itoa_length_le (v : Int) (by omega) (by omega)
  have hp : 0 < (Lib.itoa (v : Int)).length := by
    by_cases h : v < 10
    · rw [itoa_small h]; simp
    · rw [itoa_next h]; simp
  unfold numP
  rw [digN_app _ _ 0 (itoa_dgs _) (by omega), run_app, run_itoa v hn.2 h1, Option.bind_some, run_nd hR]
  simp only
  rw [if_pos (by omega)]
  simp
theorem num_of {most : Int} (h0 : 0 ≤ most) (h1 : most ≤ 100000) {L : List UInt8} {n : Int} {R : List UInt8} (h : numP most L = some (n, R)) : 0 ≤ n ∧ n ≤ most ∧ L = Lib.itoa n ++ R ∧ nd R := by
  obtain ⟨D, S, rfl, hd, hS⟩ := span_dg L
  unfold numP at h
  by_cases hl : D.length ≤ 1000
  · rw [digN_app D S 0 hd (by omega), run_app] at h
    cases hr : runD most (0, 0) (digN 0 D) with
    | none => rw [hr] at h; simp at h
    | some st =>
      obtain ⟨m, k⟩ := st
      rw [hr, Option.bind_some, run_nd hS] at h
      simp only at h
      by_cases hD : D = []
      · subst hD
        simp only [digN, runD, Option.some.injEq, Prod.mk.injEq] at hr
        obtain ⟨rfl, rfl⟩ := hr
        simp at h
      · obtain ⟨a1, a2, a3, a4⟩ := run_back h0 h1 D hd hl hD m k hr
        have : D.length ≠ 0 := by simpa using hD
        rw [if_pos (by omega)] at h
        simp only [Option.some.injEq, Prod.mk.injEq] at h
        obtain ⟨rfl, rfl⟩ := h
        refine ⟨a1, a2, ?_, ?_⟩
        · rw [← a3, a4]; simp
        · rw [a4]; simpa using hS
  · exfalso
    have e : D ++ S = D.take 30 ++ (D.drop 30 ++ S) := by rw [← List.append_assoc, List.take_append_drop]
    have hl30 : (D.take 30).length = 30 := by rw [List.length_take]; omega
    have hd30 : ∀ c ∈ D.take 30, isDg c := fun c hc => hd c (List.mem_of_mem_take hc)
    rw [e, digN_app _ _ 0 hd30 (by omega), run_app] at h
    cases hr : runD most (0, 0) (digN 0 (D.take 30)) with
    | none => rw [hr] at h; simp at h
    | some st =>
      obtain ⟨m, k⟩ := st
      obtain ⟨a1, a2, a3, a4⟩ := run_back h0 h1 (D.take 30) hd30 (by omega) (by intro e0; rw [e0] at hl30; simp at hl30) m k hr
      have := Lib.itoa_length_le m (by omega) (by omega)
      rw [← a3] at this
      omega
theorem num_iff {most : Int} (h0 : 0 ≤ most) (h1 : most ≤ 100000) {L : List UInt8} {n : Int} {R : List UInt8} : numP most L = some (n, R) ↔ 0 ≤ n ∧ n ≤ most ∧ L = Lib.itoa n ++ R ∧ nd R :=
  ⟨num_of h0 h1, fun ⟨a, b, c, d⟩ => by rw [c]; exact num_at h0 h1 ⟨a, b⟩ d⟩
theorem mark_iff {c : UInt8} {L R : List UInt8} : markP c L = some R ↔ L = c :: R := by
  cases L with
  | nil => simp [markP]
  | cons x r =>
    simp only [markP]
    by_cases h : x = c
    · rw [if_pos h]; subst h; simp
    · rw [if_neg h]; simp [h]
end Go.Proofs.YtlnjalhlbfbjcaaGreatDoor

/- The document's own reading of texts, as plain functions: the same addresses. -/
import Derived.Test.YtlnjalhlbfbjcaaGreatDoorW
namespace Go.Proofs.YtlnjalhlbfbjcaaGreatDoor

/-- The number that digits make. -/
def valD (L : List UInt8) : Int := L.foldl (fun n c => 10 * n + ((c.toNat - 48 : Nat) : Int)) 0
theorem valD_snoc (l : List UInt8) (c : UInt8) : valD (l ++ [c]) = 10 * valD l + ((c.toNat - 48 : Nat) : Int) := by simp [valD]
theorem valD_nonneg (l : List UInt8) : 0 ≤ valD l := by
  refine snoc_indU (p := fun l => 0 ≤ valD l) (by simp [valD]) ?_ l
  intro l x h
  rw [valD_snoc]; omega
theorem valD_le (l r : List UInt8) : valD l ≤ valD (l ++ r) := by
  refine snoc_indU (p := fun r => valD l ≤ valD (l ++ r)) (by simp) ?_ r
  intro r x h
  have := valD_nonneg (l ++ r)
  rw [← List.append_assoc, valD_snoc]; omega
theorem val_itoa {n : Int} (h0 : 0 ≤ n) (h1 : n ≤ 100000) : valD (Lib.itoa n) = n ∧ ∀ c ∈ Lib.itoa n, isDg c := by
  obtain ⟨v, rfl⟩ : ∃ v : Nat, n = v := ⟨n.toNat, by omega⟩
  clear h0 h1
  refine ⟨?_, itoa_dgs v⟩
  induction v using Nat.strongRecOn with
  | _ v ih =>
    by_cases h : v < 10
    · rw [itoa_small h]
      have := (dg_of h).2
      simp only [valD, List.foldl_cons, List.foldl_nil]
      rw [this]; omega
    · rw [itoa_next h, valD_snoc, ih (v / 10) (by omega), (dg_of (show v % 10 < 10 by omega)).2]
      omega
/-- The number of a text of digits, up to one. -/
def numR (most : Int) (L : List UInt8) : Option Int := if valD L ≤ most ∧ Lib.itoa (valD L) = L then some (valD L) else none
theorem numR_iff {most : Int} (h1 : most ≤ 100000) {L : List UInt8} {n : Int} : numR most L = some n ↔ 0 ≤ n ∧ n ≤ most ∧ L = Lib.itoa n := by
  unfold numR
  constructor
  · intro h
    split at h
    · rename_i hc
      cases h
      exact ⟨valD_nonneg L, hc.1, hc.2.symm⟩
    · cases h
  · rintro ⟨h0, h2, rfl⟩
    rw [(val_itoa h0 (by omega)).1, if_pos ⟨h2, rfl⟩]
theorem numR_bad {most : Int} (h1 : most ≤ 100000) {L : List UInt8} {c : UInt8} (hc : c ∈ L) (hd : ¬ isDg c) : numR most L = none := by
  cases h : numR most L with
  | none => rfl
  | some n =>
    obtain ⟨g0, g1, rfl⟩ := (numR_iff h1).1 h
    exact absurd ((val_itoa g0 (by omega)).2 c hc) hd
theorem numR_big {most : Int} {l r : List UInt8} (hb : most < valD l) : numR most (l ++ r) = none := by
  unfold numR
  rw [if_neg]
  rintro ⟨h, -⟩
  have := valD_le l r
  omega

/-- What stands ahead of, and behind, the first byte that is one. -/
def cutP (c : UInt8) : List UInt8 → Option (List UInt8 × List UInt8)
  | [] => none
  | x :: r => if x = c then some ([], r) else (cutP c r).map fun y => (x :: y.1, y.2)
theorem cutP_some {c : UInt8} : ∀ {l r : List UInt8}, c ∉ l → cutP c (l ++ c :: r) = some (l, r)
  | [], r, _ => by simp [cutP]
  | x :: l, r, h => by
    have h1 : x ≠ c := fun e => h (by simp [e])
    have h2 : c ∉ l := fun e => h (List.mem_cons_of_mem _ e)
    simp only [List.cons_append, cutP, if_neg h1, cutP_some h2, Option.map_some]
theorem cutP_none {c : UInt8} : ∀ {l : List UInt8}, c ∉ l → cutP c l = none
  | [], _ => rfl
  | x :: l, h => by
    have h1 : x ≠ c := fun e => h (by simp [e])
    have h2 : c ∉ l := fun e => h (List.mem_cons_of_mem _ e)
    simp only [cutP, if_neg h1, cutP_none h2, Option.map_none]
theorem cutP_of {c : UInt8} : ∀ {L l r : List UInt8}, cutP c L = some (l, r) → L = l ++ c :: r ∧ c ∉ l
  | [], l, r, h => by cases h
  | x :: L, l, r, h => by
    simp only [cutP] at h
    split at h
    · rename_i hx
      cases h
      exact ⟨by rw [hx]; rfl, by simp⟩
    · rename_i hx
      obtain ⟨⟨l', r'⟩, h', e⟩ := Option.map_eq_some_iff.1 h
      cases e
      obtain ⟨e1, e2⟩ := cutP_of h'
      refine ⟨by rw [e1]; rfl, ?_⟩
      intro hm
      rcases List.mem_cons.1 hm with e | e
      · exact hx e.symm
      · exact e2 e
theorem cutP_not {c : UInt8} : ∀ {L : List UInt8}, cutP c L = none → c ∉ L
  | [], _ => by simp
  | x :: L, h => by
    simp only [cutP] at h
    split at h
    · cases h
    · rename_i hx
      have h' : cutP c L = none := by simpa using h
      intro hm
      rcases List.mem_cons.1 hm with e | e
      · exact hx e.symm
      · exact cutP_not h' e

theorem not_itoa {n : Int} (h0 : 0 ≤ n) (h1 : n ≤ 100000) {c : UInt8} (hc : ¬ isDg c) : c ∉ Lib.itoa n := fun h => hc ((val_itoa h0 h1).2 c h)
theorem dg46 : ¬ isDg 46 := by unfold isDg; decide
theorem dg47 : ¬ isDg 47 := by unfold isDg; decide

/-- The rounds of the document's own Parse. -/
def prs : Nat → List UInt8 → Int → Option Int
  | 0, _, acc => some acc
  | j + 1, R, acc => match cutP 46 R with
    | none => if j = 0 then (numR 255 R).map fun n => 256 * acc + n else none
    | some (l, r) => if j = 0 then none else (numR 255 l).bind fun n => prs j r (256 * acc + n)
theorem prs_last {R : List UInt8} {acc a : Int} : prs 1 R acc = some a ↔ ∃ n, (0 ≤ n ∧ n ≤ 255) ∧ R = Lib.itoa n ∧ a = 256 * acc + n := by
  simp only [prs, if_true]
  constructor
  · intro h
    split at h
    · obtain ⟨n, hn, e⟩ := Option.map_eq_some_iff.1 h
      obtain ⟨g0, g1, g2⟩ := (numR_iff (by omega)).1 hn
      exact ⟨n, ⟨g0, g1⟩, g2, e.symm⟩
    · cases h
  · rintro ⟨n, ⟨g0, g1⟩, rfl, rfl⟩
    rw [cutP_none (not_itoa g0 (by omega) dg46)]
    simp only
    rw [(numR_iff (by omega)).2 ⟨g0, g1, rfl⟩]
    rfl
theorem prs_more {j : Nat} {R : List UInt8} {acc a : Int} : prs (j + 2) R acc = some a ↔ ∃ n r, (0 ≤ n ∧ n ≤ 255) ∧ R = Lib.itoa n ++ 46 :: r ∧ prs (j + 1) r (256 * acc + n) = some a := by
  rw [prs]
  constructor
  · intro h
    split at h
    · simp at h
    · rename_i l r hc
      rw [if_neg (by omega)] at h
      obtain ⟨n, hn, e⟩ := Option.bind_eq_some_iff.1 h
      obtain ⟨g0, g1, g2⟩ := (numR_iff (by omega)).1 hn
      obtain ⟨e1, -⟩ := cutP_of hc
      exact ⟨n, r, ⟨g0, g1⟩, by rw [e1, g2], e⟩
  · rintro ⟨n, r, ⟨g0, g1⟩, rfl, e⟩
    rw [cutP_some (not_itoa g0 (by omega) dg46)]
    simp only
    rw [if_neg (by omega), (numR_iff (by omega)).2 ⟨g0, g1, rfl⟩]
    exact e
theorem prs_parse (L : List UInt8) : prs 4 L 0 = parseP L := by
  apply Option.ext
  intro a
  rw [parse_iff, aT_eq]
  constructor
  · intro h
    obtain ⟨p, r1, hp, e1, h1⟩ := prs_more.1 h
    obtain ⟨q, r2, hq, e2, h2⟩ := prs_more.1 h1
    obtain ⟨r, r3, hr, e3, h3⟩ := prs_more.1 h2
    obtain ⟨s, hs, e4, e5⟩ := prs_last.1 h3
    clear h h1 h2 h3
    subst e4 e3 e2 e1 e5
    refine ⟨isA_iff.2 (by omega), ?_⟩
    rw [show ((((256 * (256 * (256 * (256 * 0 + p) + q) + r) + s).toNat / 16777216 % 256 : Nat)) : Int) = p by omega, show ((((256 * (256 * (256 * (256 * 0 + p) + q) + r) + s).toNat / 65536 % 256 : Nat)) : Int) = q by omega,
      show ((((256 * (256 * (256 * (256 * 0 + p) + q) + r) + s).toNat / 256 % 256 : Nat)) : Int) = r by omega, show ((((256 * (256 * (256 * (256 * 0 + p) + q) + r) + s).toNat % 256 : Nat)) : Int) = s by omega]
  · rintro ⟨ha, rfl⟩
    have ha' := isA_iff.1 ha
    exact prs_more.2 ⟨_, _, by omega, rfl, prs_more.2 ⟨_, _, by omega, rfl, prs_more.2 ⟨_, _, by omega, rfl, prs_last.2 ⟨_, by omega, rfl, by omega⟩⟩⟩⟩
end Go.Proofs.YtlnjalhlbfbjcaaGreatDoor

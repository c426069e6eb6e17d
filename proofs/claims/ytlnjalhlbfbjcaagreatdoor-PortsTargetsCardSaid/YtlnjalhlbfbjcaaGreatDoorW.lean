/- What addresses' texts are. -/
import Derived.Test.YtlnjalhlbfbjcaaGreatDoorV
namespace Go.Proofs.YtlnjalhlbfbjcaaGreatDoor

theorem nd_dot (r : List UInt8) : nd (46 :: r) := nd_cons (by unfold isDg; decide)
theorem nd_slash (r : List UInt8) : nd (47 :: r) := nd_cons (by unfold isDg; decide)
/-- An address's text. -/
def aT (a : Int) : List UInt8 := txt (btsOf a.toNat)
theorem aT_eq (a : Int) : aT a = Lib.itoa ((a.toNat / 16777216 % 256 : Nat) : Int) ++ 46 :: (Lib.itoa ((a.toNat / 65536 % 256 : Nat) : Int) ++ 46 :: (Lib.itoa ((a.toNat / 256 % 256 : Nat) : Int) ++ 46 :: Lib.itoa ((a.toNat % 256 : Nat) : Int))) := by
  simp [aT, txt, btsOf]

theorem addr_iff {L : List UInt8} {a : Int} {R : List UInt8} : addrP L = some (a, R) ↔ isA a = true ∧ L = aT a ++ R ∧ nd R := by
  constructor
  · intro h
    unfold addrP at h
    simp only [Option.bind_eq_some_iff, Option.some.injEq, Prod.mk.injEq, Prod.exists] at h
    obtain ⟨p, R1, h1, R2, h2, q, R3, h3, R4, h4, r, R5, h5, R6, h6, s, R7, h7, e, rfl⟩ := h
    obtain ⟨p0, p1, rfl, -⟩ := num_of (by omega) (by omega) h1
    rw [mark_iff] at h2
    subst h2
    obtain ⟨q0, q1, rfl, -⟩ := num_of (by omega) (by omega) h3
    rw [mark_iff] at h4
    subst h4
    obtain ⟨r0, r1, rfl, -⟩ := num_of (by omega) (by omega) h5
    rw [mark_iff] at h6
    subst h6
    obtain ⟨s0, s1, rfl, hn⟩ := num_of (by omega) (by omega) h7
    refine ⟨isA_iff.2 (by omega), ?_, hn⟩
    rw [aT_eq, show ((a.toNat / 16777216 % 256 : Nat) : Int) = p by omega, show ((a.toNat / 65536 % 256 : Nat) : Int) = q by omega, show ((a.toNat / 256 % 256 : Nat) : Int) = r by omega, show ((a.toNat % 256 : Nat) : Int) = s by omega]
    simp
  · rintro ⟨ha, rfl, hn⟩
    have ha' := isA_iff.1 ha
    unfold addrP
    rw [aT_eq]
    simp only [List.append_assoc, List.cons_append]
    rw [num_at (by omega) (by omega) (by omega) (nd_dot _)]
    simp only [Option.bind_some, markP, if_true]
    rw [num_at (by omega) (by omega) (by omega) (nd_dot _)]
    simp only [Option.bind_some, if_true]
    rw [num_at (by omega) (by omega) (by omega) (nd_dot _)]
    simp only [Option.bind_some, if_true]
    rw [num_at (by omega) (by omega) (by omega) hn]
    simp only [Option.bind_some, Option.some.injEq, Prod.mk.injEq, and_true]
    omega
theorem parse_iff {L : List UInt8} {a : Int} : parseP L = some a ↔ isA a = true ∧ L = aT a := by
  unfold parseP
  simp only [Option.bind_eq_some_iff, Prod.exists]
  constructor
  · rintro ⟨x, R, h, e⟩
    obtain ⟨h1, h2, -⟩ := addr_iff.1 h
    split at e
    · rename_i hR
      subst hR
      cases e
      exact ⟨h1, by simpa using h2⟩
    · cases e
  · rintro ⟨h1, h2⟩
    exact ⟨a, [], addr_iff.2 ⟨h1, by simpa using h2, nd_nil⟩, by simp⟩
theorem print_eq (a : Int) : printS a = if isA a = true then aT a else [] := rfl
end Go.Proofs.YtlnjalhlbfbjcaaGreatDoor

/- Layer 5 as plain functions: two texts compared, byte by byte. -/
import Derived.Test.YtjlpkndbnaknaaaGreatDoorPm
namespace Go.Proofs.YtjlpkndbnaknaaaGreatDoor

theorem xor_zero_iff (x y : Nat) : x ^^^ y = 0 ↔ x = y := by
  constructor
  · intro h
    have e : (x ^^^ y) ^^^ y = 0 ^^^ y := by rw [h]
    rwa [Nat.xor_assoc, Nat.xor_self, Nat.xor_zero, Nat.zero_xor] at e
  · rintro rfl
    exact Nat.xor_self x
/-- What differs, when k bytes are looked at. -/
def xorsN (a b : List Nat) : Nat → Nat
  | 0 => a.length ^^^ b.length
  | k + 1 => xorsN a b k ||| (a.getD k 0 ^^^ b.getD k 0)
theorem xorsN_zero (a b : List Nat) : ∀ k, xorsN a b k = 0 ↔ a.length = b.length ∧ ∀ i, i < k → a.getD i 0 = b.getD i 0
  | 0 => by
    rw [xorsN, xor_zero_iff]
    exact ⟨fun h => ⟨h, fun i hi => absurd hi (Nat.not_lt_zero i)⟩, fun h => h.1⟩
  | k + 1 => by
    rw [xorsN, Nat.or_eq_zero_iff, xorsN_zero a b k, xor_zero_iff]
    constructor
    · rintro ⟨⟨h1, h2⟩, h3⟩
      refine ⟨h1, fun i hi => ?_⟩
      by_cases h : i = k
      · rw [h]; exact h3
      · exact h2 i (by omega)
    · rintro ⟨h1, h2⟩
      exact ⟨⟨h1, fun i hi => h2 i (by omega)⟩, h2 k (by omega)⟩
/-- All bytes looked at that both have. -/
theorem xorsN_same (a b : List Nat) : xorsN a b (min a.length b.length) = 0 ↔ a = b := by
  rw [xorsN_zero]
  constructor
  · rintro ⟨h1, h2⟩
    apply List.ext_getElem? 
    intro i
    by_cases h : i < a.length
    · have := h2 i (by omega)
      rw [List.getD_eq_getElem?_getD, List.getD_eq_getElem?_getD, List.getElem?_eq_getElem h, List.getElem?_eq_getElem (show i < b.length by omega)] at this
      rw [List.getElem?_eq_getElem h, List.getElem?_eq_getElem (show i < b.length by omega)]
      exact congrArg some this
    · rw [List.getElem?_eq_none (by omega), List.getElem?_eq_none (by omega)]
  · rintro rfl
    exact ⟨rfl, fun _ _ => rfl⟩
theorem xorsN_lt (a b : List Nat) (ha : ∀ c ∈ a, c < 256) (hb : ∀ c ∈ b, c < 256) (hl : a.length < 2 ^ 32) (hm : b.length < 2 ^ 32) : ∀ k, xorsN a b k < 2 ^ 32
  | 0 => Nat.xor_lt_two_pow hl hm
  | k + 1 => by
    have h : ∀ (l : List Nat), (∀ c ∈ l, c < 256) → l.getD k 0 < 2 ^ 32 := fun l hl => by
      rw [List.getD_eq_getElem?_getD]
      cases h : l[k]? with
      | none => exact (by decide : (0 : Nat) < 2 ^ 32)
      | some x => exact Nat.lt_trans (hl x (List.mem_of_getElem? h)) (by decide)
    exact Nat.or_lt_two_pow (xorsN_lt a b ha hb hl hm k) (Nat.xor_lt_two_pow (h a ha) (h b hb))
end Go.Proofs.YtjlpkndbnaknaaaGreatDoor

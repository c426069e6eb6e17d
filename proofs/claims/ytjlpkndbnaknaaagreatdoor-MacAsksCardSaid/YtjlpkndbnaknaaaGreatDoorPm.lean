/- Layer 5 as plain functions: HMACs over lists of bytes (natural numbers below 256). -/
import Derived.Test.YtjlpkndbnaknaaaGreatDoorR
namespace Go.Proofs.YtjlpkndbnaknaaaGreatDoor

/-- A key, bytes 0 behind it, each put together with m. -/
def padK (key : List Nat) (m : Nat) : List Nat := (List.range 64).map fun i => (key.getD i 0) ^^^ m
/-- A key's HMAC of a text. -/
def macL (key s : List Nat) : List Nat := sumL (padK key 0x5c ++ sumL (padK key 0x36 ++ s))
theorem padK_length (key : List Nat) (m : Nat) : (padK key m).length = 64 := by rw [padK, List.length_map, List.length_range]
theorem padK_get (key : List Nat) (m i : Nat) (h : i < 64) : (padK key m)[i]? = some ((key.getD i 0) ^^^ m) := by
  rw [padK, List.getElem?_map, List.getElem?_range h]
  rfl
theorem getD_zeros (key : List Nat) (n i : Nat) : (key ++ List.replicate n 0).getD i 0 = key.getD i 0 := by
  rw [List.getD_eq_getElem?_getD, List.getD_eq_getElem?_getD]
  by_cases h : i < key.length
  · rw [List.getElem?_append_left h]
  · rw [List.getElem?_append_right (by omega), List.getElem?_eq_none (show key.length ≤ i by omega), List.getElem?_replicate]
    split <;> rfl
/-- Bytes 0 behind a key make no difference. -/
theorem padK_zeros (key : List Nat) (n m : Nat) : padK (key ++ List.replicate n 0) m = padK key m := by
  unfold padK
  refine List.map_congr_left fun i _ => ?_
  rw [getD_zeros]
theorem macL_zeros (key s : List Nat) (n : Nat) : macL (key ++ List.replicate n 0) s = macL key s := by
  unfold macL
  rw [padK_zeros, padK_zeros]
theorem padK_lt (key : List Nat) (m : Nat) (hk : ∀ c ∈ key, c < 256) (hm : m < 256) : ∀ c ∈ padK key m, c < 256 := by
  intro c hc
  obtain ⟨i, _, rfl⟩ := List.mem_map.1 hc
  have h1 : key.getD i 0 < 2 ^ 8 := by
    rw [List.getD_eq_getElem?_getD]
    cases h : key[i]? with
    | none => exact (by omega : (0 : Nat) < 2 ^ 8)
    | some x => exact hk x (List.mem_of_getElem? h)
  exact Nat.xor_lt_two_pow h1 (show m < 2 ^ 8 by omega)
/-- A known one. -/
theorem macL_known : hexL (macL ("key".toList.map Char.toNat) ("The quick brown fox jumps over the lazy dog".toList.map Char.toNat)) = "f7bc83f430538424b13298e6aa6fb143ef4d59a14946175997479dbc2d1a3cd8".toList.map Char.toNat := by decide +kernel
/-- A number in decimal digits. -/
def numL (n : Nat) : List Nat := (Nat.toDigits 10 n).map Char.toNat
end Go.Proofs.YtjlpkndbnaknaaaGreatDoor

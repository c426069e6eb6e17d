/- The checks: isKey, isAsked, isChallenge; Right. -/
import Derived.Test.YtjlpkndbnaknaaaGreatDoorEJ
import Derived.Test.YtjlpkndbnaknaaaGreatDoorFst
import Derived.Test.YtjlpkndbnaknaaaGreatDoorBy
namespace Go.Proofs.YtjlpkndbnaknaaaGreatDoor
open Go.RowKit Go.Shelf
attribute [local go_sem] Oper.semAt_some

def isKeyB (key : ByteArray) : Bool := decide (1 ≤ key.size ∧ key.size ≤ 64)
def isChB (s : ByteArray) : Bool := decide (s.size = 32)
def isAskB (n : Int) : Bool := decide (0 ≤ n ∧ n ≤ 2147483647)
theorem isKey_c (key : ByteArray) (w : World) : Calls Tryz.prog 19 #[.string key] w fun r w' => r = .returned (.func (.func 34) #[] #[.pointer (some ⟨w.heap.size, 0, none⟩)]) ∧ w' = w.alloc (.cells #[.string key] 9) := by
  go_enter Tryz.func19, Tryz.ntmps19
  go_wp2
  go_ret
  exact ⟨rfl, rfl⟩
theorem isChallenge_c (key : ByteArray) (w : World) : Calls Tryz.prog 31 #[.string key] w fun r w' => r = .returned (.func (.func 48) #[] #[.pointer (some ⟨w.heap.size, 0, none⟩)]) ∧ w' = w.alloc (.cells #[.string key] 9) := by
  go_enter Tryz.func31, Tryz.ntmps31
  go_wp2
  go_ret
  exact ⟨rfl, rfl⟩
set_option maxRecDepth 100000 in
set_option maxHeartbeats 4000000 in
theorem isAsked_c (n : Int) (w : World) : Calls Tryz.prog 28 #[.int .i64 n] w fun r w' => r = .returned (.func (.func 59) #[] #[.pointer (some ⟨w.heap.size, 0, none⟩), .pointer (some ⟨w.heap.size + 1, 0, none⟩), .pointer (some ⟨w.heap.size + 2, 0, none⟩), .pointer (some ⟨w.heap.size + 3, 0, none⟩)]) ∧ w' = (((w.alloc (.cells #[.int .i64 n] 3)).alloc (.cells #[.int .i64 0] 3)).alloc (.cells #[.int .i64 2147483647] 3)).alloc (.cells #[.int .i64 2] 24) := by
  go_enter Tryz.func28, Tryz.ntmps28
  go_wp2
  go_ret
  exact ⟨rfl, rfl⟩
theorem empty_ne (key : ByteArray) : (key ≠ ⟨#[]⟩) ↔ 1 ≤ key.size := by
  constructor
  · intro h
    rcases Nat.eq_zero_or_pos key.size with h0 | h1
    · exact absurd (ByteArray.ext (Array.eq_empty_of_size_eq_zero h0)) h
    · exact h1
  · rintro h rfl
    exact absurd h (by decide)
set_option maxRecDepth 100000 in
set_option maxHeartbeats 4000000 in
theorem isKey1_c (key : ByteArray) (b : Nat) (w : World) (hk : w.cell? ⟨b, 0, none⟩ = some (.string key)) : Calls Tryz.prog 34 #[.pointer (some ⟨b, 0, none⟩)] w fun r w' => r = .returned (errV (isKeyB key) 50) ∧ Below w.heap.size w w' := by
  have HU := Lib.hid (fun b => unless_c w b 50)
  by_cases h0 : 1 ≤ key.size
  · have hne := (empty_ne key).2 h0
    have hem : key.toList.isEmpty = false := by
      cases h : key.toList with
      | nil =>
        rw [Go.ByteArray.toList_eq] at h
        have hz : key.size = 0 := by show key.data.size = 0; rw [← Array.length_toList, h]; rfl
        omega
      | cons a l => rfl
    by_cases h1 : key.size ≤ 64
    · have h1' : (key.size : Int) ≤ 64 := by omega
      have he : isKeyB key = true := decide_eq_true ⟨h0, h1⟩
      go_enter Tryz.func34, Tryz.ntmps34
      go_wp2_with fail
      refine (HU.out true).mono ?_
      rintro e w1 ⟨rfl, rfl⟩
      go_wp2
      go_ret
      exact ⟨by rw [he]; rfl, Below.refl _ _⟩
    · have h1' : ¬ (key.size : Int) ≤ 64 := by omega
      have he : isKeyB key = false := decide_eq_false (by omega)
      go_enter Tryz.func34, Tryz.ntmps34
      go_wp2_with fail
      refine (HU.out false).mono ?_
      rintro e w1 ⟨rfl, rfl⟩
      go_wp2
      go_ret
      exact ⟨by rw [he]; rfl, Below.refl _ _⟩
  · obtain rfl : key = ⟨#[]⟩ := Classical.byContradiction fun h => h0 ((empty_ne key).1 h)
    go_enter Tryz.func34, Tryz.ntmps34
    go_wp2_with fail
    refine (HU.out false).mono ?_
    rintro e w1 ⟨rfl, rfl⟩
    go_wp2
    go_ret
    exact ⟨rfl, Below.refl _ _⟩
set_option maxRecDepth 100000 in
set_option maxHeartbeats 4000000 in
theorem isChallenge1_c (key : ByteArray) (b : Nat) (w : World) (hk : w.cell? ⟨b, 0, none⟩ = some (.string key)) : Calls Tryz.prog 48 #[.pointer (some ⟨b, 0, none⟩)] w fun r w' => r = .returned (errV (isChB key) 2) ∧ Below w.heap.size w w' := by
  have HU := Lib.hid (fun b => unless_c w b 2)
  by_cases h1 : key.size = 32
  · have h1' : (key.size : Int) = 32 := by omega
    have he : isChB key = true := decide_eq_true h1
    go_enter Tryz.func48, Tryz.ntmps48
    go_wp2_with fail
    refine (HU.out true).mono ?_
    rintro e w1 ⟨rfl, rfl⟩
    go_wp2
    go_ret
    exact ⟨by rw [he]; rfl, Below.refl _ _⟩
  · have h1' : ¬ (key.size : Int) = 32 := by omega
    have hbe : ((key.size : Int) == 32) = false := beq_eq_false_iff_ne.2 h1'
    have he : isChB key = false := decide_eq_false h1
    go_enter Tryz.func48, Tryz.ntmps48
    go_wp2_with fail
    try rw [hbe]
    refine (HU.out false).mono ?_
    rintro e w1 ⟨rfl, rfl⟩
    go_wp2
    go_ret
    exact ⟨by rw [he]; rfl, Below.refl _ _⟩
set_option maxRecDepth 100000 in
set_option maxHeartbeats 4000000 in
theorem between1_c (n : Int) (b0 b1 b2 b3 : Nat) (w : World) (h0 : w.cell? ⟨b0, 0, none⟩ = some (.int .i64 n)) (h1 : w.cell? ⟨b1, 0, none⟩ = some (.int .i64 0)) (h2 : w.cell? ⟨b2, 0, none⟩ = some (.int .i64 2147483647)) (h3 : w.cell? ⟨b3, 0, none⟩ = some (.int .i64 2)) : Calls Tryz.prog 59 #[.pointer (some ⟨b0, 0, none⟩), .pointer (some ⟨b1, 0, none⟩), .pointer (some ⟨b2, 0, none⟩), .pointer (some ⟨b3, 0, none⟩)] w fun r w' => r = .returned (errV (isAskB n) 2) ∧ Below w.heap.size w w' := by
  have HU := Lib.hid (fun b => unless_c w b 2)
  by_cases k0 : 0 ≤ n
  · by_cases k1 : n ≤ 2147483647
    · have he : isAskB n = true := decide_eq_true ⟨k0, k1⟩
      go_enter Tryz.func59, Tryz.ntmps59
      go_wp2_with fail
      refine (HU.out true).mono ?_
      rintro e w1 ⟨rfl, rfl⟩
      go_wp2
      go_ret
      exact ⟨by rw [he]; rfl, Below.refl _ _⟩
    · have he : isAskB n = false := decide_eq_false (by omega)
      go_enter Tryz.func59, Tryz.ntmps59
      go_wp2_with fail
      refine (HU.out false).mono ?_
      rintro e w1 ⟨rfl, rfl⟩
      go_wp2
      go_ret
      exact ⟨by rw [he]; rfl, Below.refl _ _⟩
  · have he : isAskB n = false := decide_eq_false (by omega)
    go_enter Tryz.func59, Tryz.ntmps59
    go_wp2_with fail
    refine (HU.out false).mono ?_
    rintro e w1 ⟨rfl, rfl⟩
    go_wp2
    go_ret
    exact ⟨by rw [he]; rfl, Below.refl _ _⟩
end Go.Proofs.YtjlpkndbnaknaaaGreatDoor

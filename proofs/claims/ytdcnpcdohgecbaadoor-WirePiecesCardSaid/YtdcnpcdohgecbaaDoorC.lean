/- Bytes; a payload's checks; what kinds ask for; Right: contracts. -/
import Derived.Test.YtdcnpcdohgecbaaDoorB
namespace Go.Proofs.YtdcnpcdohgecbaaDoor
open Go.RowKit Go.Shelf
attribute [local go_sem] Oper.semAt_some

def bytesOf (n : Int) : List UInt8 := [UInt8.ofNat (n.toNat / 256), UInt8.ofNat (n.toNat % 256)]
def isNum (n : Int) : Bool := decide (0 ≤ n ∧ n ≤ 65535)
def bytS (n : Int) : List UInt8 := if isNum n = true then bytesOf n else []
def bytE (n : Int) : Int := if isNum n = true then 0 else 2
set_option maxRecDepth 100000 in
set_option maxHeartbeats 2000000 in
theorem bytes_c (n : Int) (w : World) : Calls Tryd.prog 17 #[.int .i64 n] w fun x w' => x = .returned (.tuple #[.string ⟨(bytS n).toArray⟩, .int .i64 (bytE n)]) ∧ Below w.heap.size w w' := by
  unfold bytS bytE
  by_cases h0 : n < 0
  · rw [show isNum n = false by simp [isNum]; omega]
    simp only [Bool.false_eq_true, if_false]
    go_enter Tryd.func17, Tryd.ntmps17
    go_wp2
    go_ret2
    exact ⟨rfl, Below.refl _ _⟩
  · by_cases h1 : 65535 < n
    · rw [show isNum n = false by simp [isNum]; omega]
      simp only [Bool.false_eq_true, if_false]
      go_enter Tryd.func17, Tryd.ntmps17
      go_wp2
      go_ret2
      exact ⟨rfl, Below.refl _ _⟩
    · rw [show isNum n = true by simp [isNum]; omega]
      simp only [if_true]
      obtain ⟨m, rfl⟩ : ∃ m : Nat, n = m := ⟨n.toNat, by omega⟩
      have HP := Lib.hid (fun W => pair_c m (by omega) W)
      go_enter Tryd.func17, Tryd.ntmps17
      go_wp2_with (go_at_call 27; refine (HP.out _).mono ?_; rintro x w1 ⟨rfl, hb⟩)
      go_ret2
      exact ⟨rfl, hb⟩

/-- What a kind asks of its data. -/
def payB (k : Nat) (n : Nat) : Bool :=
  if k = 45 then decide (1 ≤ n) && decide (n ≤ 64) else if k = 46 then decide (n = 32) else if k = 47 then decide (1 ≤ n) && decide (n ≤ 512)
  else if k = 48 then decide (n = 2) else if k = 49 then decide (n = 0) else decide (n ≤ 8)
theorem isText_c (s : ByteArray) (w : World) : Calls Tryd.prog 45 #[.string s] w fun x w' => x = .returned (.bool (payB 45 s.size)) ∧ w = w' := by
  by_cases h0 : 1 ≤ s.size
  · by_cases h1 : s.size ≤ 64
    · have e : payB 45 s.size = true := by simp [payB, h0, h1]
      have g0 : (1 : Int) ≤ (s.size : Int) := by omega
      have g1 : (s.size : Int) ≤ 64 := by omega
      go_enter Tryd.func45, Tryd.ntmps45
      go_wp2
      go_ret
      exact ⟨ret_bool (by first | rfl | exact e.symm | (rw [e]; simp; done) | (rw [e]; simp; omega)), rfl⟩
    · have e : payB 45 s.size = false := by simp [payB, h1]
      have g0 : (1 : Int) ≤ (s.size : Int) := by omega
      have g1 : ¬ (s.size : Int) ≤ 64 := by omega
      go_enter Tryd.func45, Tryd.ntmps45
      go_wp2
      go_ret
      exact ⟨ret_bool (by first | rfl | exact e.symm | (rw [e]; simp; done) | (rw [e]; simp; omega)), rfl⟩
  · have e : payB 45 s.size = false := by simp [payB, h0]
    have g0 : ¬ (1 : Int) ≤ (s.size : Int) := by omega
    have g1 : s.size = 0 := by omega
    go_enter Tryd.func45, Tryd.ntmps45
    go_wp2
    go_ret
    exact ⟨ret_bool (by first | rfl | exact e.symm | (rw [e]; simp; done) | (rw [e]; simp; omega)), rfl⟩
theorem isBlock_c (s : ByteArray) (w : World) : Calls Tryd.prog 47 #[.string s] w fun x w' => x = .returned (.bool (payB 47 s.size)) ∧ w = w' := by
  by_cases h0 : 1 ≤ s.size
  · by_cases h1 : s.size ≤ 512
    · have e : payB 47 s.size = true := by simp [payB, h0, h1]
      have g0 : (1 : Int) ≤ (s.size : Int) := by omega
      have g1 : (s.size : Int) ≤ 512 := by omega
      go_enter Tryd.func47, Tryd.ntmps47
      go_wp2
      go_ret
      exact ⟨ret_bool (by first | rfl | exact e.symm | (rw [e]; simp; done) | (rw [e]; simp; omega)), rfl⟩
    · have e : payB 47 s.size = false := by simp [payB, h1]
      have g0 : (1 : Int) ≤ (s.size : Int) := by omega
      have g1 : ¬ (s.size : Int) ≤ 512 := by omega
      go_enter Tryd.func47, Tryd.ntmps47
      go_wp2
      go_ret
      exact ⟨ret_bool (by first | rfl | exact e.symm | (rw [e]; simp; done) | (rw [e]; simp; omega)), rfl⟩
  · have e : payB 47 s.size = false := by simp [payB, h0]
    have g0 : ¬ (1 : Int) ≤ (s.size : Int) := by omega
    have g1 : s.size = 0 := by omega
    go_enter Tryd.func47, Tryd.ntmps47
    go_wp2
    go_ret
    exact ⟨ret_bool (by first | rfl | exact e.symm | (rw [e]; simp; done) | (rw [e]; simp; omega)), rfl⟩
theorem isSum_c (s : ByteArray) (w : World) : Calls Tryd.prog 46 #[.string s] w fun x w' => x = .returned (.bool (payB 46 s.size)) ∧ w = w' := by
  go_enter Tryd.func46, Tryd.ntmps46
  go_wp2
  go_ret
  exact ⟨ret_bool (by simp [payB]; try (rw [Bool.eq_iff_iff]; simp; omega)), rfl⟩
theorem isNumber_c (s : ByteArray) (w : World) : Calls Tryd.prog 48 #[.string s] w fun x w' => x = .returned (.bool (payB 48 s.size)) ∧ w = w' := by
  go_enter Tryd.func48, Tryd.ntmps48
  go_wp2
  go_ret
  exact ⟨ret_bool (by simp [payB]; try (rw [Bool.eq_iff_iff]; simp; omega)), rfl⟩
theorem isEcho_c (s : ByteArray) (w : World) : Calls Tryd.prog 50 #[.string s] w fun x w' => x = .returned (.bool (payB 50 s.size)) ∧ w = w' := by
  go_enter Tryd.func50, Tryd.ntmps50
  go_wp2
  go_ret
  exact ⟨ret_bool (by simp [payB]; omega), rfl⟩
theorem isNone_c (s : ByteArray) (w : World) : Calls Tryd.prog 49 #[.string s] w fun x w' => x = .returned (.bool (payB 49 s.size)) ∧ w = w' := by
  by_cases h : s.size = 0
  · have hs : s = ⟨#[]⟩ := by obtain ⟨⟨l⟩⟩ := s; cases l with
      | nil => rfl
      | cons x r => cases h
    subst hs
    go_enter Tryd.func49, Tryd.ntmps49
    go_wp2
    go_ret
    exact ⟨rfl, rfl⟩
  · have he : s.toList.isEmpty = false := by
      rw [ByteArray.toList_eq]
      obtain ⟨⟨l⟩⟩ := s
      cases l with
      | nil => exact absurd rfl h
      | cons x r => rfl
    have e : payB 49 s.size = false := by simp [payB, h]
    go_enter Tryd.func49, Tryd.ntmps49
    go_wp2
    go_ret
    exact ⟨ret_bool (by first | rfl | exact e.symm), rfl⟩
end Go.Proofs.YtdcnpcdohgecbaaDoor

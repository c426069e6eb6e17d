/- repeat, Len, Room, New, Clear. -/
import Derived.Test.YtoddlldjhaacnaaC
namespace Go.Proofs.Ytoddlldjhaacnaa
open Go.RowKit

set_option maxRecDepth 100000 in
set_option maxHeartbeats 1000000 in
theorem repeat_any (F K cap : Nat) (l : List UInt8) (n : Nat) (hn : n ≤ 1000000) (w : World) (h : Qs w F K cap l) :
    Calls Try.prog 22 #[.pointer (some ⟨F, 0, none⟩), .int .i64 n, .func (.func 23) #[] #[]] w fun e w' => e = .returned (.int .i64 ((min n l.length : Nat) : Int)) ∧ Qs w' F K cap (l.drop n) ∧ Off F K w w' := by
  go_enter Try.func22, Try.ntmps22
  go_wp2
  go_loopw [7] (fun d wr => ∃ k : Nat, k ≤ n ∧ k ≤ l.length ∧ d = .int .i64 k ∧ Qs wr F K cap (l.drop k) ∧ Off F K w wr)
    (fun d _ => n - (intOf d).toNat)
  case atStart => exact ⟨0, Nat.zero_le _, Nat.zero_le _, rfl, h, Off.refl _ _ _⟩
  case round =>
    obtain ⟨k, hk, hkl, rfl, hq, ho⟩ := hrel
    by_cases hlt : k < n
    · by_cases hll : k < l.length
      · have hq' : Qs wr F K cap (l[k] :: l.drop (k + 1)) := by rw [← List.drop_eq_getElem_cons hll]; exact hq
        have Hq := Lib.hid hq'
        clear hq hq'
        go_wp2_with (first | (go_at_call 23; refine (drop_yes F K cap _ _ _ Hq.out).mono ?_; rintro e w1 ⟨rfl, hq1, ho1⟩))
        go_roundw
        case rel => exact ⟨k + 1, by omega, by omega, by go_num, hq1, ho.trans ho1⟩
        case measure => simp [intOf]; omega
      · have hq' : Qs wr F K cap [] := by rw [← List.drop_of_length_le (show l.length ≤ k by omega)]; exact hq
        have Hq := Lib.hid hq'
        clear hq hq'
        go_wp2_with (first | (go_at_call 23; refine (drop_no F K cap _ Hq.out).mono ?_; rintro e w1 ⟨rfl, hq1, ho1⟩))
        go_ret
        exact ⟨ret_int (by omega), by rw [List.drop_of_length_le (by omega)]; exact hq1, ho.trans ho1⟩
    · obtain rfl : k = n := by omega
      have Hq := Lib.hid hq
      clear hq
      go_wp2
      go_ret
      exact ⟨ret_int (by omega), Hq.out, ho⟩

set_option maxHeartbeats 400000 in
theorem len_any (F K cap : Nat) (l : List UInt8) (w : World) (h : Qs w F K cap l) :
    Calls Try.prog 12 #[.pointer (some ⟨F, 0, none⟩)] w fun e w' => e = .returned (.int .i64 l.length) ∧ w = w' := by
  obtain ⟨first, cs, h, _⟩ := h
  have c2 := h.c2
  clear h
  go_enter Try.func12, Try.ntmps12
  go_wp2
  go_ret
  exact ⟨rfl, rfl⟩
set_option maxHeartbeats 400000 in
theorem len_nil (w : World) :
    Calls Try.prog 12 #[.pointer none] w fun e w' => e = .returned (.int .i64 0) ∧ w = w' := by
  go_enter Try.func12, Try.ntmps12
  go_wp2
  go_ret
  exact ⟨rfl, rfl⟩

set_option maxHeartbeats 400000 in
theorem room_any (F K cap : Nat) (l : List UInt8) (w : World) (h : Qs w F K cap l) :
    Calls Try.prog 17 #[.pointer (some ⟨F, 0, none⟩)] w fun e w' => e = .returned (.int .i64 ((cap - l.length : Nat) : Int)) ∧ ∃ n, w' = w.drewN n := by
  have hle := h.le
  have hcl := h.cap_le
  obtain ⟨first, cs, h, _⟩ := h
  have c0 := h.c0
  have c2 := h.c2
  clear h
  have hs : IntKind.i64.wrap ((cap : Int) - (l.length : Int)) = (cap : Int) - (l.length : Int) := IntWalk.i64_in _ (by omega)
  have hb : ((cap - l.length : Nat) : Int) = (cap : Int) - (l.length : Int) := by omega
  rw [hb]
  clear hb
  go_enter Try.func17, Try.ntmps17
  go_wp2_with fail
  go_quiet (fail)
  go_wp2
  go_ret
  exact ⟨rfl, _, rfl⟩

/-- A new queue. -/
def Fresh (w : World) (cap : Nat) (e : Ending) (w' : World) : Prop := ∃ F K, e = .returned (.tuple #[.pointer (some ⟨F, 0, none⟩), .int .i64 0]) ∧ Qs w' F K cap [] ∧ Below w.heap.size w w' ∧ w.heap.size ≤ F ∧ w.heap.size ≤ K

set_option maxHeartbeats 1000000 in
theorem new_err (n : Int) (h : n < 1 ∨ 4096 < n) (w : World) :
    Calls Try.prog 10 #[.int .i64 n] w fun e w' => e = .returned (.tuple #[.pointer none, .int .i64 2]) ∧ w = w' := by
  go_enter Try.func10, Try.ntmps10
  rcases h with h | h
  · go_wp2
    go_ret2
    exact ⟨rfl, rfl⟩
  · have h' : ¬ n < 1 := by omega
    go_wp2
    go_ret2
    exact ⟨rfl, rfl⟩
end Go.Proofs.Ytoddlldjhaacnaa

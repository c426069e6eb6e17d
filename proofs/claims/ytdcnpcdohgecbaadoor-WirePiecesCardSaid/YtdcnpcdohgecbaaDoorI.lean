/- Encode: its contract, where the frame is not right; both in one. -/
import Derived.Test.YtdcnpcdohgecbaaDoorH
namespace Go.Proofs.YtdcnpcdohgecbaaDoor
open Go.RowKit Go.Shelf
attribute [local go_sem] Oper.semAt_some

set_option maxRecDepth 100000 in
set_option maxHeartbeats 4000000 in
theorem encode_no (k st : Int) (s : ByteArray) (hk : (Lit.int .i64 k).wf = true) (hr : rightW k st s.size = false) (w : World) : Calls Tryd.prog 13 #[.agg #[.int .i64 k, .int .i64 st, .string s]] w fun x w' => x = .returned (.tuple #[.string ⟨#[]⟩, .int .i64 33]) ∧ Below w.heap.size w w' := by
  have C1 := fun W => right_c k st s hk W
  rw [hr] at C1
  have H1 := Lib.hid C1
  clear C1 hr
  go_enter Tryd.func13, Tryd.ntmps13
  go_wp2_with fail
  have HA := Lib.hid (below_alloc w (.cells #[.int .i64 k, .int .i64 st, .string s] 23))
  generalize (w.alloc (.cells #[.int .i64 k, .int .i64 st, .string s] 23)) = U at *
  refine (H1.out _).mono ?_; rintro e w1 ⟨rfl, hb1⟩
  go_wp2
  go_ret2
  exact ⟨rfl, btr HA.out hb1⟩

/-- A frame's bytes, where it is right. -/
def frameB (k st : Nat) (s : ByteArray) : ByteArray := ⟨#[UInt8.ofNat k]⟩ ++ ⟨#[UInt8.ofNat (st / 256), UInt8.ofNat (st % 256)]⟩ ++ ⟨#[UInt8.ofNat (s.size / 256), UInt8.ofNat (s.size % 256)]⟩ ++ s
theorem pay_most {f n : Nat} (h : payB f n = true) : n ≤ 512 := by
  unfold payB at h
  repeat' (split at h)
  all_goals (simp at h; omega)
theorem right_facts {k st : Int} {n : Nat} (h : rightW k st n = true) : 1 ≤ k ∧ k ≤ 8 ∧ 0 ≤ st ∧ st ≤ 65535 ∧ n ≤ 512 := by
  unfold rightW at h
  cases hd : demOf k with
  | none => rw [hd] at h; cases h
  | some x =>
    obtain ⟨b, f⟩ := x
    rw [hd] at h
    simp only [Bool.and_eq_true, decide_eq_true_eq] at h
    have hp := pay_most h.2.2
    have hk : 1 ≤ k ∧ k ≤ 8 := by
      unfold demOf at hd
      repeat' (split at hd)
      all_goals (first | (cases hd; done) | omega)
    exact ⟨hk.1, hk.2, h.1.1, h.1.2, hp⟩
/-- What Encode gives. -/
def encOf (k st : Int) (s : ByteArray) : Value := if rightW k st s.size = true then .tuple #[.string (frameB k.toNat st.toNat s), .int .i64 0] else .tuple #[.string ⟨#[]⟩, .int .i64 33]
theorem encode_c (k st : Int) (s : ByteArray) (hk : (Lit.int .i64 k).wf = true) (w : World) : Calls Tryd.prog 13 #[.agg #[.int .i64 k, .int .i64 st, .string s]] w fun x w' => x = .returned (encOf k st s) ∧ Below w.heap.size w w' := by
  unfold encOf
  cases hr : rightW k st s.size with
  | false => exact encode_no k st s hk hr w
  | true =>
    obtain ⟨h1, h2, h3, h4, h5⟩ := right_facts hr
    obtain ⟨kn, rfl⟩ : ∃ n : Nat, k = n := ⟨k.toNat, by omega⟩
    obtain ⟨sn, rfl⟩ : ∃ n : Nat, st = n := ⟨st.toNat, by omega⟩
    exact encode_yes kn sn s (by omega) hk (by omega) (by omega) hr w
end Go.Proofs.YtdcnpcdohgecbaaDoor

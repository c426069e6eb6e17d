/- do, by what the call is. -/
import Derived.Test.YtoddlldjhaacnaaS
namespace Go.Proofs.Ytoddlldjhaacnaa
open Go.RowKit

theorem str_append (a b : List UInt8) : str a ++ str b = str (a ++ b) := by
  apply ByteArray.ext
  simp [str, ByteArray.data_append]
theorem do_push (F K cap : Nat) (l l2 : List UInt8) (n : Int) (s : ByteArray) (p : Nat) (hs : s.size ≤ 100) (hp : fits cap l.length s.size = p) (hl : l ++ s.data.toList.take (cap - l.length) = l2) (w : World) (h : Qs w F K cap l) :
    Calls Try.prog 15 #[.pointer (some ⟨F, 0, none⟩), .agg #[.int .i64 0, .int .i64 n, .string s]] w fun e w' =>
      e = .returned (.tuple #[.int .i64 p, .string (str [])]) ∧ Hid (Qs w' F K cap l2) ∧ Hid (Off F K w w') := by
  subst hp hl
  exact (do_any F K cap l ⟨0, n, s⟩ (by dsimp only; omega) w h)
theorem do_pop (F K cap : Nat) (l l2 t : List UInt8) (n : Int) (s : ByteArray) (hs : s.size ≤ 100) (ht : l.take n.toNat = t) (hl : l.drop n.toNat = l2) (w : World) (h : Qs w F K cap l) :
    Calls Try.prog 15 #[.pointer (some ⟨F, 0, none⟩), .agg #[.int .i64 1, .int .i64 n, .string s]] w fun e w' =>
      e = .returned (.tuple #[.int .i64 0, .string (str t)]) ∧ Hid (Qs w' F K cap l2) ∧ Hid (Off F K w w') := by
  subst ht hl
  exact (do_any F K cap l ⟨1, n, s⟩ (by dsimp only; omega) w h)
theorem do_peek (F K cap : Nat) (l t : List UInt8) (n : Int) (s : ByteArray) (hs : s.size ≤ 100) (ht : l.take n.toNat = t) (w : World) (h : Qs w F K cap l) :
    Calls Try.prog 15 #[.pointer (some ⟨F, 0, none⟩), .agg #[.int .i64 2, .int .i64 n, .string s]] w fun e w' =>
      e = .returned (.tuple #[.int .i64 0, .string (str t)]) ∧ Hid (Qs w' F K cap l) ∧ Hid (Off F K w w') := by
  subst ht
  exact (do_any F K cap l ⟨2, n, s⟩ (by dsimp only; omega) w h)
theorem do_clear (F K cap : Nat) (l : List UInt8) (n : Int) (s : ByteArray) (hs : s.size ≤ 100) (w : World) (h : Qs w F K cap l) :
    Calls Try.prog 15 #[.pointer (some ⟨F, 0, none⟩), .agg #[.int .i64 3, .int .i64 n, .string s]] w fun e w' =>
      e = .returned (.tuple #[.int .i64 l.length, .string (str [])]) ∧ Hid (Qs w' F K cap []) ∧ Hid (Off F K w w') := by
  exact (do_any F K cap l ⟨3, n, s⟩ (by dsimp only; omega) w h)
theorem do_else (F K cap : Nat) (l : List UInt8) (kd n : Int) (s : ByteArray) (hs : s.size ≤ 100) (k0 : kd ≠ 0) (k1 : kd ≠ 1) (k2 : kd ≠ 2) (k3 : kd ≠ 3) (w : World) (h : Qs w F K cap l) :
    Calls Try.prog 15 #[.pointer (some ⟨F, 0, none⟩), .agg #[.int .i64 kd, .int .i64 n, .string s]] w fun e w' =>
      e = .returned (.tuple #[.int .i64 0, .string (str [])]) ∧ Hid (Qs w' F K cap l) ∧ Hid (Off F K w w') := by
  refine (do_any F K cap l ⟨kd, n, s⟩ (by dsimp only; omega) w h).mono fun e w' ⟨h1, h2, h3⟩ => ⟨?_, Lib.hid ?_, Lib.hid h3⟩
  · rw [h1]; simp [Told, stepN, stepT, k0, k1, k2, k3]
  · have e1 : stepL cap l ⟨kd, n, s⟩ = l := by simp [stepL, k0, k1, k2, k3]
    rwa [e1] at h2
theorem room_q (F K cap : Nat) (l : List UInt8) (r : Nat) (hr : cap - l.length = r) (w : World) (h : Qs w F K cap l) :
    Calls Try.prog 17 #[.pointer (some ⟨F, 0, none⟩)] w fun e w' => e = .returned (.int .i64 (r : Nat)) ∧ ∃ n, w' = w.drewN n := by
  subst hr; exact room_any F K cap l w h
theorem peek_whole (F K cap : Nat) (l : List UInt8) (n : Int) (hn : l.length ≤ n) (w : World) (h : Qs w F K cap l) :
    Calls Try.prog 18 #[.pointer (some ⟨F, 0, none⟩), .int .i64 n] w fun e w' => e = .returned (.string (str l)) ∧ Hid (Below w.heap.size w w') :=
  (peek_any F K cap l n w h).mono fun e w' ⟨h1, h2⟩ => ⟨by rw [h1, List.take_of_length_le (by omega)], Lib.hid h2⟩
end Go.Proofs.Ytoddlldjhaacnaa

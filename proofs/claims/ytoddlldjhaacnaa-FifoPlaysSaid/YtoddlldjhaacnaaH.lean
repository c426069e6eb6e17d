/- Peek, Pop, Clear. -/
import Derived.Test.YtoddlldjhaacnaaG
import Derived.Laws.IdiomStrings
namespace Go.Proofs.Ytoddlldjhaacnaa
open Go.RowKit

/-- A list's string. -/
def str (l : List UInt8) : ByteArray := ⟨l.toArray⟩
theorem str_size (l : List UInt8) : (str l).size = l.length := by simp [str, ByteArray.size]
theorem str_list (s : ByteArray) : str s.data.toList = s := rfl
theorem str_toList (l : List UInt8) : (str l).toList = l := (ByteArray.toList_eq _).trans rfl
theorem str_inj {a b : List UInt8} (h : str a = str b) : a = b := by
  have := congrArg (fun s => s.data.toList) h
  simpa [str] using this

theorem front_n (F K cap : Nat) (l : List UInt8) (n : Int) (w : World) (h : Qs w F K cap l) :
    Calls Try.prog 28 #[.pointer (some ⟨F, 0, none⟩), .int .i64 n] w (Bytes w (l.take n.toNat)) := by
  obtain ⟨first, cs, hq, hr⟩ := h
  have e : l.take n.toNat = l.take (min n.toNat l.length) := by
    rcases Nat.le_total n.toNat l.length with h | h
    · rw [Nat.min_eq_left h]
    · rw [Nat.min_eq_right h, List.take_of_length_le h, List.take_length]
  rw [e]
  refine front_any F K cap first cs l n (min n.toNat l.length) w hq hr ?_
  omega

theorem conv_row (w1 : World) (G : Nat) (l : List UInt8) (hh : w1.heap[G]? = some (.cells ((l.map fun b => Value.int .u8 (b.toNat : Int)).toArray) 5 (0, 0))) :
    (convert 45 9 (.slice (some ⟨G, 0, none⟩) l.length l.length)).run Try.prog w1 = .ok (.string (str l)) w1 := by
  refine run_convert_bytes_back (P := Try.prog) w1 45 9 5 ⟨G, 0, none⟩ l.length l (by kernel_rfl) (by kernel_rfl) (by kernel_rfl) (fun j hj => ?_)
  rw [add_at]
  simp [World.cell?, hh, hj]

set_option maxHeartbeats 1000000 in
theorem peek_any (F K cap : Nat) (l : List UInt8) (n : Int) (w : World) (h : Qs w F K cap l) :
    Calls Try.prog 18 #[.pointer (some ⟨F, 0, none⟩), .int .i64 n] w fun e w' => e = .returned (.string (str (l.take n.toNat))) ∧ Below w.heap.size w w' := by
  have hF := front_n F K cap l n w h
  generalize l.take n.toNat = t at *
  have H := Lib.hid hF
  clear hF
  obtain ⟨first, cs, hq, hr⟩ := h
  have c0 := hq.c0
  clear hq hr
  go_enter Try.func18, Try.ntmps18
  go_wp2_with (first | (go_at_call 28; refine H.out.mono ?_; rintro e w1 ⟨rfl, hh, hb⟩; (have hcv := conv_row w1 w.heap.size _ hh); clear hh))
  go_ret
  exact ⟨rfl, hb⟩
set_option maxHeartbeats 400000 in
theorem peek_nil (n : Int) (w : World) :
    Calls Try.prog 18 #[.pointer none, .int .i64 n] w fun e w' => e = .returned (.string (str [])) ∧ w = w' := by
  go_enter Try.func18, Try.ntmps18
  go_wp2
  go_ret
  exact ⟨rfl, rfl⟩

set_option maxHeartbeats 1000000 in
theorem clear_any (F K cap : Nat) (l : List UInt8) (w : World) (h : Qs w F K cap l) :
    Calls Try.prog 19 #[.pointer (some ⟨F, 0, none⟩)] w fun e w' => e = .returned (.int .i64 l.length) ∧ Qs w' F K cap [] ∧ Off F K w w' := by
  have hle : l.length ≤ 1000000 := by have := h.le; have := h.cap_le; omega
  have c2 : w.cell? ⟨F, 2, none⟩ = some (.int .i64 l.length) := by obtain ⟨first, cs, hq, hr⟩ := h; exact hq.c2
  have H := Lib.hid h
  clear h
  go_enter Try.func19, Try.ntmps19
  go_wp2_with fail
  go_still_tail 8, (by kernel_rfl)
  change wpList _ _ _ _ _ w.drew
  go_wp2_with (first | (go_at_call 22; refine (repeat_any F K cap l l.length hle _ H.out.drew).mono ?_; rintro e w1 ⟨rfl, hq, ho⟩))
  go_ret
  exact ⟨ret_int (by omega), by simpa using hq, ((Off.refl F K w).drew).trans ho⟩
end Go.Proofs.Ytoddlldjhaacnaa

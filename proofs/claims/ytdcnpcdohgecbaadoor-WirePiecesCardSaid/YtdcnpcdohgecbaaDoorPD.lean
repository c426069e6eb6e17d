/- The cut of a text; the law WireNumbers. -/
import Derived.Test.YtdcnpcdohgecbaaDoorPC
namespace Go.Proofs.YtdcnpcdohgecbaaDoor
open Go.RowKit Go.Shelf
attribute [local go_sem] Oper.semAt_some

def cut2 (s : ByteArray) : ByteArray := s.extract 0 (min (s.size : Int) 2000).toNat
theorem cut2_size (s : ByteArray) : (cut2 s).size ≤ 2000 := by unfold cut2; rw [ByteArray.size_extract]; omega
set_option maxRecDepth 100000 in
theorem cut2_c (s : ByteArray) (w : World) : Calls Tryd.prog 12 #[.string s] w fun x w' => x = .returned (.string (cut2 s)) ∧ Below w.heap.size w w' := by
  go_enter Tryd.func12, Tryd.ntmps12
  go_wp2
  all_goals
    go_ret
    refine ⟨?_, Below.refl _ _⟩
    unfold cut2
    first
      | (rw [show (min (s.size : Int) 2000).toNat = 2000 by omega]; rfl)
      | (rw [show (min (s.size : Int) 2000).toNat = s.size by omega, ByteArray.extract_zero_size]; rfl)
theorem byt_yes {n : Int} (h : isNum n = true) (w : World) : Calls Tryd.prog 17 #[.int .i64 n] w fun x w' => x = .returned (.tuple #[.string ⟨(bytesOf n).toArray⟩, .int .i64 0]) ∧ Below w.heap.size w w' := by
  have := bytes_c n w
  unfold bytS bytE at this
  rw [h] at this
  exact this
theorem byt_no {n : Int} (h : isNum n = false) (w : World) : Calls Tryd.prog 17 #[.int .i64 n] w fun x w' => x = .returned (.tuple #[.string ⟨#[]⟩, .int .i64 2]) ∧ Below w.heap.size w w' := by
  have := bytes_c n w
  unfold bytS bytE at this
  rw [h] at this
  exact this
theorem num_of {n : Int} (h : isNum n = true) : numB (bytesOf n) = n := by
  simp only [isNum, decide_eq_true_eq] at h
  show 256 * (((UInt8.ofNat (n.toNat / 256)).toNat : Nat) : Int) + (((UInt8.ofNat (n.toNat % 256)).toNat : Nat) : Int) = n
  rw [UInt8.toNat_ofNat', UInt8.toNat_ofNat']; omega
theorem of_num {s : ByteArray} (h : s.size = 2) : (⟨(bytesOf (numB s.data.toList)).toArray⟩ : ByteArray) = s := by
  obtain ⟨a, b, rfl⟩ := size_two h
  have ha := a.toNat_lt
  have hb := b.toNat_lt
  show (⟨#[UInt8.ofNat ((256 * (a.toNat : Int) + (b.toNat : Int)).toNat / 256), UInt8.ofNat ((256 * (a.toNat : Int) + (b.toNat : Int)).toNat % 256)]⟩ : ByteArray) = ⟨#[a, b]⟩
  rw [show (256 * (a.toNat : Int) + (b.toNat : Int)).toNat = 256 * a.toNat + b.toNat by omega, show (256 * a.toNat + b.toNat) / 256 = a.toNat by omega, show (256 * a.toNat + b.toNat) % 256 = b.toNat by omega, ofNat_toNat, ofNat_toNat]
theorem isNum_numB (l : List UInt8) : isNum (numB l) = true := by
  have := numB_range l
  simp [isNum]; omega
set_option maxRecDepth 100000 in
set_option maxHeartbeats 4000000 in
theorem numbers_yy (n : Int) (s0 s : ByteArray) (T : ByteArray) (m : Int) (w : World) (hL : ErrT w) (S0 : Hid (∀ W, ErrT W → Calls Tryd.prog 10 #[] W fun x w' => x = .returned (.bool true) ∧ Below W.heap.size W w')) (CU : Hid (∀ W, Calls Tryd.prog 12 #[.string s0] W fun x w' => x = .returned (.string s) ∧ Below W.heap.size W w')) (Y1 : Hid (∀ W, Calls Tryd.prog 17 #[.int .i64 n] W fun x w' => x = .returned (.tuple #[.string T, .int .i64 0]) ∧ Below W.heap.size W w')) (N1 : Hid (∀ W, Calls Tryd.prog 21 #[.string s] W fun x w' => x = .returned (.int .i64 m) ∧ Below W.heap.size W w')) (Y2 : Hid (∀ W, Calls Tryd.prog 17 #[.int .i64 m] W fun x w' => x = .returned (.tuple #[.string s, .int .i64 0]) ∧ Below W.heap.size W w')) (hT : T.size = 2) (N2 : Hid (∀ W, Calls Tryd.prog 21 #[.string T] W fun x w' => x = .returned (.int .i64 n) ∧ Below W.heap.size W w')) (hs : s.size = 2) : Calls Tryd.prog 8 #[.int .i64 n, .string s0] w fun x w' => x = .returned (.bool true) ∧ Below w.heap.size w w' := by
  have HL := Lib.hid hL
  clear hL
  have hs' : ((s.size : Int) == 2) = true := by simp; omega
  have hs2 : ((s.size : Int) != 2) = false := by simp; omega
  go_enter Tryd.func8, Tryd.ntmps8
  go_wp2_with fail
  have B0 : Below w.heap.size w w := Below.refl _ w
  replace B0 := Lib.hid B0
  refine (S0.out _ (HL.out.on B0.out)).mono ?_; rintro e w1 ⟨rfl, hb⟩
  have B1 : RowKit.Hid (Below w.heap.size w w1) := Lib.hid (btr B0.out hb)
  clear hb
  go_wp2_with fail
  refine (CU.out _).mono ?_; rintro e w2 ⟨rfl, hb⟩
  have B2 : RowKit.Hid (Below w.heap.size w w2) := Lib.hid (btr B1.out hb)
  clear hb
  go_wp2_with fail
  refine (Y1.out _).mono ?_; rintro e w3 ⟨rfl, hb⟩
  have B3 : RowKit.Hid (Below w.heap.size w w3) := Lib.hid (btr B2.out hb)
  clear hb
  go_wp2_with fail
  refine (N1.out _).mono ?_; rintro e w4 ⟨rfl, hb⟩
  have B4 : RowKit.Hid (Below w.heap.size w w4) := Lib.hid (btr B3.out hb)
  clear hb
  go_wp2_with fail
  refine (Y2.out _).mono ?_; rintro e w5 ⟨rfl, hb⟩
  have B5 : RowKit.Hid (Below w.heap.size w w5) := Lib.hid (btr B4.out hb)
  clear hb
  go_wp2_with (refine (N2.out _).mono ?_; rintro e w6 ⟨rfl, hb6⟩)
  go_ret
  exact ⟨ret_bool (by first | rfl | (simp <;> omega)), btr B5.out hb6⟩

set_option maxRecDepth 100000 in
set_option maxHeartbeats 4000000 in
theorem numbers_yn (n : Int) (s0 s : ByteArray) (T : ByteArray) (u : ByteArray) (w : World) (hL : ErrT w) (S0 : Hid (∀ W, ErrT W → Calls Tryd.prog 10 #[] W fun x w' => x = .returned (.bool true) ∧ Below W.heap.size W w')) (CU : Hid (∀ W, Calls Tryd.prog 12 #[.string s0] W fun x w' => x = .returned (.string s) ∧ Below W.heap.size W w')) (Y1 : Hid (∀ W, Calls Tryd.prog 17 #[.int .i64 n] W fun x w' => x = .returned (.tuple #[.string T, .int .i64 0]) ∧ Below W.heap.size W w')) (N1 : Hid (∀ W, Calls Tryd.prog 21 #[.string s] W fun x w' => x = .returned (.int .i64 0) ∧ Below W.heap.size W w')) (Y2 : Hid (∀ W, Calls Tryd.prog 17 #[.int .i64 0] W fun x w' => x = .returned (.tuple #[.string u, .int .i64 0]) ∧ Below W.heap.size W w')) (hT : T.size = 2) (N2 : Hid (∀ W, Calls Tryd.prog 21 #[.string T] W fun x w' => x = .returned (.int .i64 n) ∧ Below W.heap.size W w')) (hs : ¬ s.size = 2) : Calls Tryd.prog 8 #[.int .i64 n, .string s0] w fun x w' => x = .returned (.bool true) ∧ Below w.heap.size w w' := by
  have HL := Lib.hid hL
  clear hL
  have hs' : ((s.size : Int) == 2) = false := by simp; omega
  have hs2 : ((s.size : Int) != 2) = true := by simp; omega
  go_enter Tryd.func8, Tryd.ntmps8
  go_wp2_with fail
  have B0 : Below w.heap.size w w := Below.refl _ w
  replace B0 := Lib.hid B0
  refine (S0.out _ (HL.out.on B0.out)).mono ?_; rintro e w1 ⟨rfl, hb⟩
  have B1 : RowKit.Hid (Below w.heap.size w w1) := Lib.hid (btr B0.out hb)
  clear hb
  go_wp2_with fail
  refine (CU.out _).mono ?_; rintro e w2 ⟨rfl, hb⟩
  have B2 : RowKit.Hid (Below w.heap.size w w2) := Lib.hid (btr B1.out hb)
  clear hb
  go_wp2_with fail
  refine (Y1.out _).mono ?_; rintro e w3 ⟨rfl, hb⟩
  have B3 : RowKit.Hid (Below w.heap.size w w3) := Lib.hid (btr B2.out hb)
  clear hb
  go_wp2_with fail
  refine (N1.out _).mono ?_; rintro e w4 ⟨rfl, hb⟩
  have B4 : RowKit.Hid (Below w.heap.size w w4) := Lib.hid (btr B3.out hb)
  clear hb
  go_wp2_with fail
  refine (Y2.out _).mono ?_; rintro e w5 ⟨rfl, hb⟩
  have B5 : RowKit.Hid (Below w.heap.size w w5) := Lib.hid (btr B4.out hb)
  clear hb
  go_wp2_with (refine (N2.out _).mono ?_; rintro e w6 ⟨rfl, hb6⟩)
  go_ret
  exact ⟨ret_bool (by first | rfl | (simp <;> omega)), btr B5.out hb6⟩

set_option maxRecDepth 100000 in
set_option maxHeartbeats 4000000 in
theorem numbers_ny (n : Int) (s0 s : ByteArray) (m : Int) (w : World) (hL : ErrT w) (S0 : Hid (∀ W, ErrT W → Calls Tryd.prog 10 #[] W fun x w' => x = .returned (.bool true) ∧ Below W.heap.size W w')) (CU : Hid (∀ W, Calls Tryd.prog 12 #[.string s0] W fun x w' => x = .returned (.string s) ∧ Below W.heap.size W w')) (Y1 : Hid (∀ W, Calls Tryd.prog 17 #[.int .i64 n] W fun x w' => x = .returned (.tuple #[.string ⟨#[]⟩, .int .i64 2]) ∧ Below W.heap.size W w')) (N1 : Hid (∀ W, Calls Tryd.prog 21 #[.string s] W fun x w' => x = .returned (.int .i64 m) ∧ Below W.heap.size W w')) (Y2 : Hid (∀ W, Calls Tryd.prog 17 #[.int .i64 m] W fun x w' => x = .returned (.tuple #[.string s, .int .i64 0]) ∧ Below W.heap.size W w')) (hs : s.size = 2) : Calls Tryd.prog 8 #[.int .i64 n, .string s0] w fun x w' => x = .returned (.bool true) ∧ Below w.heap.size w w' := by
  have HL := Lib.hid hL
  clear hL
  have hs' : ((s.size : Int) == 2) = true := by simp; omega
  have hs2 : ((s.size : Int) != 2) = false := by simp; omega
  go_enter Tryd.func8, Tryd.ntmps8
  go_wp2_with fail
  have B0 : Below w.heap.size w w := Below.refl _ w
  replace B0 := Lib.hid B0
  refine (S0.out _ (HL.out.on B0.out)).mono ?_; rintro e w1 ⟨rfl, hb⟩
  have B1 : RowKit.Hid (Below w.heap.size w w1) := Lib.hid (btr B0.out hb)
  clear hb
  go_wp2_with fail
  refine (CU.out _).mono ?_; rintro e w2 ⟨rfl, hb⟩
  have B2 : RowKit.Hid (Below w.heap.size w w2) := Lib.hid (btr B1.out hb)
  clear hb
  go_wp2_with fail
  refine (Y1.out _).mono ?_; rintro e w3 ⟨rfl, hb⟩
  have B3 : RowKit.Hid (Below w.heap.size w w3) := Lib.hid (btr B2.out hb)
  clear hb
  go_wp2_with fail
  refine (N1.out _).mono ?_; rintro e w4 ⟨rfl, hb⟩
  have B4 : RowKit.Hid (Below w.heap.size w w4) := Lib.hid (btr B3.out hb)
  clear hb
  go_wp2_with fail
  refine (Y2.out _).mono ?_; rintro e w5 ⟨rfl, hb⟩
  have B5 : RowKit.Hid (Below w.heap.size w w5) := Lib.hid (btr B4.out hb)
  clear hb
  go_wp2
  go_ret
  exact ⟨ret_bool (by first | rfl | (simp <;> omega)), B5.out⟩

set_option maxRecDepth 100000 in
set_option maxHeartbeats 4000000 in
theorem numbers_nn (n : Int) (s0 s : ByteArray) (u : ByteArray) (w : World) (hL : ErrT w) (S0 : Hid (∀ W, ErrT W → Calls Tryd.prog 10 #[] W fun x w' => x = .returned (.bool true) ∧ Below W.heap.size W w')) (CU : Hid (∀ W, Calls Tryd.prog 12 #[.string s0] W fun x w' => x = .returned (.string s) ∧ Below W.heap.size W w')) (Y1 : Hid (∀ W, Calls Tryd.prog 17 #[.int .i64 n] W fun x w' => x = .returned (.tuple #[.string ⟨#[]⟩, .int .i64 2]) ∧ Below W.heap.size W w')) (N1 : Hid (∀ W, Calls Tryd.prog 21 #[.string s] W fun x w' => x = .returned (.int .i64 0) ∧ Below W.heap.size W w')) (Y2 : Hid (∀ W, Calls Tryd.prog 17 #[.int .i64 0] W fun x w' => x = .returned (.tuple #[.string u, .int .i64 0]) ∧ Below W.heap.size W w')) (hs : ¬ s.size = 2) : Calls Tryd.prog 8 #[.int .i64 n, .string s0] w fun x w' => x = .returned (.bool true) ∧ Below w.heap.size w w' := by
  have HL := Lib.hid hL
  clear hL
  have hs' : ((s.size : Int) == 2) = false := by simp; omega
  have hs2 : ((s.size : Int) != 2) = true := by simp; omega
  go_enter Tryd.func8, Tryd.ntmps8
  go_wp2_with fail
  have B0 : Below w.heap.size w w := Below.refl _ w
  replace B0 := Lib.hid B0
  refine (S0.out _ (HL.out.on B0.out)).mono ?_; rintro e w1 ⟨rfl, hb⟩
  have B1 : RowKit.Hid (Below w.heap.size w w1) := Lib.hid (btr B0.out hb)
  clear hb
  go_wp2_with fail
  refine (CU.out _).mono ?_; rintro e w2 ⟨rfl, hb⟩
  have B2 : RowKit.Hid (Below w.heap.size w w2) := Lib.hid (btr B1.out hb)
  clear hb
  go_wp2_with fail
  refine (Y1.out _).mono ?_; rintro e w3 ⟨rfl, hb⟩
  have B3 : RowKit.Hid (Below w.heap.size w w3) := Lib.hid (btr B2.out hb)
  clear hb
  go_wp2_with fail
  refine (N1.out _).mono ?_; rintro e w4 ⟨rfl, hb⟩
  have B4 : RowKit.Hid (Below w.heap.size w w4) := Lib.hid (btr B3.out hb)
  clear hb
  go_wp2_with fail
  refine (Y2.out _).mono ?_; rintro e w5 ⟨rfl, hb⟩
  have B5 : RowKit.Hid (Below w.heap.size w w5) := Lib.hid (btr B4.out hb)
  clear hb
  go_wp2
  go_ret
  exact ⟨ret_bool (by first | rfl | (simp <;> omega)), B5.out⟩
theorem wireNumbers_c (n : Int) (s0 : ByteArray) (w : World) (hL : ErrT w) : Calls Tryd.prog 8 #[.int .i64 n, .string s0] w fun x w' => x = .returned (.bool true) ∧ Below w.heap.size w w' := by
  have S0 := Lib.hid (fun W h => shown_c W h)
  have CU := Lib.hid (fun W => cut2_c s0 W)
  have N1 := Lib.hid (fun W => number_c (cut2 s0) W)
  have B2 := Lib.hid (fun W => byt_yes (isNum_numB (cut2 s0).data.toList) W)
  by_cases hn : isNum n = true
  · have B1 := Lib.hid (fun W => byt_yes hn W)
    have N2 := Lib.hid (fun W => number_c ⟨(bytesOf n).toArray⟩ W)
    have e : numB (⟨(bytesOf n).toArray⟩ : ByteArray).data.toList = n := by simpa using num_of hn
    rw [e] at N2
    by_cases hs : (cut2 s0).size = 2
    · rw [of_num hs] at B2
      exact numbers_yy n s0 _ _ _ w hL S0 CU B1 N1 B2 rfl N2 hs
    · rw [numB_not hs] at N1 B2
      exact numbers_yn n s0 _ _ _ w hL S0 CU B1 N1 B2 rfl N2 hs
  · have B1 := Lib.hid (fun W => byt_no (by simpa using hn) W)
    by_cases hs : (cut2 s0).size = 2
    · rw [of_num hs] at B2
      exact numbers_ny n s0 _ _ w hL S0 CU B1 N1 B2 hs
    · rw [numB_not hs] at N1 B2
      exact numbers_nn n s0 _ _ w hL S0 CU B1 N1 B2 hs
end Go.Proofs.YtdcnpcdohgecbaaDoor

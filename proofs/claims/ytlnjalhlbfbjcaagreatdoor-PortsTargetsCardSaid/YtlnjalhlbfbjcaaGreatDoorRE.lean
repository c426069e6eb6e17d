/- The document's own Print, PrintPrefix, Parse: their contracts. -/
import Derived.Test.YtlnjalhlbfbjcaaGreatDoorRD
namespace Go.Proofs.YtlnjalhlbfbjcaaGreatDoor
open Go.RowKit
attribute [local go_sem] Oper.semAt_some

theorem rright1_c (a : Int) (w : World) : Calls Tryz.prog 49 #[.int .i64 a] w fun x w' => x = .returned (.bool (isA a)) ∧ w = w' := by
  by_cases h : 0 ≤ a
  · by_cases h' : a ≤ 4294967295
    · have e : isA a = true := by simp only [isA, decide_eq_true_eq]; omega
      go_enter Tryz.func49, Tryz.ntmps49
      go_wp2
      go_ret
      exact ⟨ret_bool (by first | rfl | rw [e] | exact e.symm), rfl⟩
    · have e : isA a = false := by simp only [isA, decide_eq_false_iff_not]; omega
      go_enter Tryz.func49, Tryz.ntmps49
      go_wp2
      go_ret
      exact ⟨ret_bool (by first | rfl | rw [e] | exact e.symm), rfl⟩
  · have e : isA a = false := by simp only [isA, decide_eq_false_iff_not]; omega
    go_enter Tryz.func49, Tryz.ntmps49
    go_wp2
    go_ret
    exact ⟨ret_bool (by first | rfl | rw [e] | exact e.symm), rfl⟩

set_option maxRecDepth 100000 in
set_option maxHeartbeats 4000000 in
theorem rprint_ok (v : Nat) (hv : v ≤ 4294967295) (w : World) : Calls Tryz.prog 34 #[.int .i64 (v : Int)] w fun x w' => x = .returned (.tuple #[.string ⟨(aT (v : Int)).toArray⟩, .int .i64 0]) ∧ Below w.heap.size w w' := by
  have HI' := fun W => rright1_c (v : Int) W
  rw [show isA (v : Int) = true from isA_iff.2 (by omega)] at HI'
  have HI := Lib.hid HI'
  have HN := fun (u : Nat) (h : u < 1000) => Lib.hid (fun W => num_c u (by omega) W)
  have e := aT_eq (v : Int)
  rw [Int.toNat_natCast, show v / 16777216 % 256 = v / 16777216 by omega] at e
  rw [e]
  have N1 := HN (v / 16777216) (by omega)
  have N2 := HN (v / 65536 % 256) (by omega)
  have N3 := HN (v / 256 % 256) (by omega)
  have N4 := HN (v % 256) (by omega)
  have l1 := itoa_len (v / 16777216) (by omega)
  have l2 := itoa_len (v / 65536 % 256) (by omega)
  have l3 := itoa_len (v / 256 % 256) (by omega)
  have l4 := itoa_len (v % 256) (by omega)
  have g1 : ((v : Int)).tdiv 16777216 = ((v / 16777216 : Nat) : Int) := by rw [Int.tdiv_eq_ediv_of_nonneg (by omega)]; omega
  have g2 : ((v : Int)).tdiv 65536 = ((v / 65536 : Nat) : Int) := by rw [Int.tdiv_eq_ediv_of_nonneg (by omega)]; omega
  have g3 : (((v / 65536 : Nat) : Int)).tmod 256 = ((v / 65536 % 256 : Nat) : Int) := by rw [Int.tmod_eq_emod_of_nonneg (by omega)]; omega
  have g4 : ((v : Int)).tdiv 256 = ((v / 256 : Nat) : Int) := by rw [Int.tdiv_eq_ediv_of_nonneg (by omega)]; omega
  have g5 : (((v / 256 : Nat) : Int)).tmod 256 = ((v / 256 % 256 : Nat) : Int) := by rw [Int.tmod_eq_emod_of_nonneg (by omega)]; omega
  have g6 : ((v : Int)).tmod 256 = ((v % 256 : Nat) : Int) := by rw [Int.tmod_eq_emod_of_nonneg (by omega)]; omega
  have b1 : v / 16777216 ≤ 255 := by omega
  have b2 : v / 65536 ≤ 65535 := by omega
  have b3 : v / 65536 % 256 ≤ 255 := by omega
  have b4 : v / 256 ≤ 16777215 := by omega
  have b5 : v / 256 % 256 ≤ 255 := by omega
  have b6 : v % 256 ≤ 255 := by omega
  clear e HN HI'
  generalize v / 65536 % 256 = q at *
  generalize v / 256 % 256 = r at *
  generalize v % 256 = s at *
  generalize v / 16777216 = p at *
  generalize v / 65536 = x1 at *
  generalize v / 256 = x2 at *
  have w1 : IntKind.i64.wrap (p : Int) = p := IntWalk.i64_in _ (by omega)
  have w2 : IntKind.i64.wrap (q : Int) = q := IntWalk.i64_in _ (by omega)
  have w3 : IntKind.i64.wrap (r : Int) = r := IntWalk.i64_in _ (by omega)
  have w4 : IntKind.i64.wrap (s : Int) = s := IntWalk.i64_in _ (by omega)
  have w5 : IntKind.i64.wrap (x1 : Int) = x1 := IntWalk.i64_in _ (by omega)
  have w6 : IntKind.i64.wrap (x2 : Int) = x2 := IntWalk.i64_in _ (by omega)
  generalize Lib.itoa (p : Int) = t1 at *
  generalize Lib.itoa (q : Int) = t2 at *
  generalize Lib.itoa (r : Int) = t3 at *
  generalize Lib.itoa (s : Int) = t4 at *
  have m1 : ¬ 9223372036854775807 < t1.length + 1 := by omega
  have m2 : ¬ 9223372036854775807 < t1.length + 1 + t2.length := by omega
  have m3 : ¬ 9223372036854775807 < t1.length + 1 + t2.length + 1 := by omega
  have m4 : ¬ 9223372036854775807 < t1.length + 1 + t2.length + 1 + t3.length := by omega
  have m5 : ¬ 9223372036854775807 < t1.length + 1 + t2.length + 1 + t3.length + 1 := by omega
  have m6 : ¬ 9223372036854775807 < t1.length + 1 + t2.length + 1 + t3.length + 1 + t4.length := by omega
  clear b1 b2 b3 b4 b5 b6
  go_enter Tryz.func34, Tryz.ntmps34
  go_wp2_with fail
  refine (HI.out _).mono ?_; rintro e _ ⟨rfl, rfl⟩
  go_wp2_with fail
  refine (N1.out _).mono ?_; rintro e W1 ⟨rfl, hb⟩
  have B1 := Lib.hid hb
  clear hb
  go_wp2_with fail
  refine (N2.out _).mono ?_; rintro e W2 ⟨rfl, hb⟩
  have B2 := Lib.hid (btr B1.out hb)
  clear hb
  go_wp2_with fail
  refine (N3.out _).mono ?_; rintro e W3 ⟨rfl, hb⟩
  have B3 := Lib.hid (btr B2.out hb)
  clear hb
  go_wp2_with fail
  refine (N4.out _).mono ?_; rintro e W4 ⟨rfl, hb⟩
  have B4 := Lib.hid (btr B3.out hb)
  clear hb
  go_wp2
  exact bodyPost_ret (v := .tuple #[.string ⟨(t1 ++ 46 :: (t2 ++ 46 :: (t3 ++ 46 :: t4))).toArray⟩, .int .i64 0]) (by simp [results, Tryz.results34, go_sem, bytes_append]) rfl ⟨rfl, B4.out⟩

theorem rprint_c (a : Int) (w : World) : Calls Tryz.prog 34 #[.int .i64 a] w fun x w' => x = .returned (.tuple #[.string ⟨(printS a).toArray⟩, .int .i64 (printE a)]) ∧ Below w.heap.size w w' := by
  cases ha : isA a with
  | false =>
    have HI' := fun W => rright1_c a W
    rw [ha] at HI'
    have HI := Lib.hid HI'
    have e1 : printS a = [] ∧ printE a = 60 := by unfold printS printE; rw [ha]; exact ⟨rfl, rfl⟩
    rw [e1.1, e1.2]
    clear HI' e1 ha
    go_enter Tryz.func34, Tryz.ntmps34
    go_wp2_with (go_at_call 49; refine (HI.out _).mono ?_; rintro x w1 ⟨rfl, rfl⟩)
    go_ret2
    exact ⟨rfl, Below.refl _ _⟩
  | true =>
    have hb := isA_iff.1 ha
    obtain ⟨n, rfl⟩ : ∃ n : Nat, a = n := ⟨a.toNat, by omega⟩
    rw [print_eq, if_pos ha, show printE (n : Int) = 0 by unfold printE; exact if_pos ha]
    exact rprint_ok n (by omega) w
end Go.Proofs.YtlnjalhlbfbjcaaGreatDoor

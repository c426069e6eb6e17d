/- The document's own Print, PrintPrefix, Parse: their contracts. -/
import Derived.Test.YtlmgdhhlflmghaaDoorDD
namespace Go.Proofs.YtlmgdhhlflmghaaDoor
open Go.RowKit
attribute [local go_sem] Oper.semAt_some

set_option maxRecDepth 100000 in
set_option maxHeartbeats 4000000 in
theorem rprint_ok (v : Nat) (hv : v ≤ 4294967295) (w : World) : Calls Tryd.prog 13 #[.int .i64 (v : Int)] w fun x w' => x = .returned (.tuple #[.string ⟨(aT (v : Int)).toArray⟩, .int .i64 0]) ∧ Below w.heap.size w w' := by
  have HI' := fun W => rright1_c (v : Int) W
  rw [show isA (v : Int) = true from isA_iff.2 (by omega)] at HI'
  have HI := Lib.hid HI'
  have HN := fun (u : Nat) (h : u < 1000) => Lib.hid (fun W => num_c u h W)
  have e := aT_eq (v : Int)
  rw [Int.toNat_natCast, show v / 16777216 % 256 = v / 16777216 by omega] at e
  rw [e]
  have N1 := HN (v / 16777216) (by omega)
  have N2 := HN (v / 65536 % 256) (by omega)
  have N3 := HN (v / 256 % 256) (by omega)
  have N4 := HN (v % 256) (by omega)
  have l1 := itoa_len (v / 16777216) (by omega)
  have l2 := itoa_len (v / 65536 % 256) (by omega)
  have l3 := itoa_len (v / 256 % 256) (by omega)
  have l4 := itoa_len (v % 256) (by omega)
  have g1 : ((v : Int)).tdiv 16777216 = ((v / 16777216 : Nat) : Int) := by rw [Int.tdiv_eq_ediv_of_nonneg (by omega)]; omega
  have g2 : ((v : Int)).tdiv 65536 = ((v / 65536 : Nat) : Int) := by rw [Int.tdiv_eq_ediv_of_nonneg (by omega)]; omega
  have g3 : (((v / 65536 : Nat) : Int)).tmod 256 = ((v / 65536 % 256 : Nat) : Int) := by rw [Int.tmod_eq_emod_of_nonneg (by omega)]; omega
  have g4 : ((v : Int)).tdiv 256 = ((v / 256 : Nat) : Int) := by rw [Int.tdiv_eq_ediv_of_nonneg (by omega)]; omega
  have g5 : (((v / 256 : Nat) : Int)).tmod 256 = ((v / 256 % 256 : Nat) : Int) := by rw [Int.tmod_eq_emod_of_nonneg (by omega)]; omega
  have g6 : ((v : Int)).tmod 256 = ((v % 256 : Nat) : Int) := by rw [Int.tmod_eq_emod_of_nonneg (by omega)]; omega
  have b1 : v / 16777216 ≤ 255 := by omega
  have b2 : v / 65536 ≤ 65535 := by omega
  have b3 : v / 65536 % 256 ≤ 255 := by omega
  have b4 : v / 256 ≤ 16777215 := by omega
  have b5 : v / 256 % 256 ≤ 255 := by omega
  have b6 : v % 256 ≤ 255 := by omega
  clear e HN HI'
  generalize v / 65536 % 256 = q at *
  generalize v / 256 % 256 = r at *
  generalize v % 256 = s at *
  generalize v / 16777216 = p at *
  generalize v / 65536 = x1 at *
  generalize v / 256 = x2 at *
  have w1 : IntKind.i64.wrap (p : Int) = p := IntWalk.i64_in _ (by omega)
  have w2 : IntKind.i64.wrap (q : Int) = q := IntWalk.i64_in _ (by omega)
  have w3 : IntKind.i64.wrap (r : Int) = r := IntWalk.i64_in _ (by omega)
  have w4 : IntKind.i64.wrap (s : Int) = s := IntWalk.i64_in _ (by omega)
  have w5 : IntKind.i64.wrap (x1 : Int) = x1 := IntWalk.i64_in _ (by omega)
  have w6 : IntKind.i64.wrap (x2 : Int) = x2 := IntWalk.i64_in _ (by omega)
  generalize Lib.itoa (p : Int) = t1 at *
  generalize Lib.itoa (q : Int) = t2 at *
  generalize Lib.itoa (r : Int) = t3 at *
  generalize Lib.itoa (s : Int) = t4 at *
  have m1 : ¬ 9223372036854775807 < t1.length + 1 := by omega
  have m2 : ¬ 9223372036854775807 < t1.length + 1 + t2.length := by omega
  have m3 : ¬ 9223372036854775807 < t1.length + 1 + t2.length + 1 := by omega
  have m4 : ¬ 9223372036854775807 < t1.length + 1 + t2.length + 1 + t3.length := by omega
  have m5 : ¬ 9223372036854775807 < t1.length + 1 + t2.length + 1 + t3.length + 1 := by omega
  have m6 : ¬ 9223372036854775807 < t1.length + 1 + t2.length + 1 + t3.length + 1 + t4.length := by omega
  clear b1 b2 b3 b4 b5 b6
  go_enter Tryd.func13, Tryd.ntmps13
  go_wp2_with fail
  refine (HI.out _).mono ?_; rintro e _ ⟨rfl, rfl⟩
  go_wp2_with fail
  refine (N1.out _).mono ?_; rintro e W1 ⟨rfl, hb⟩
  have B1 := Lib.hid hb
  clear hb
  go_wp2_with fail
  refine (N2.out _).mono ?_; rintro e W2 ⟨rfl, hb⟩
  have B2 := Lib.hid (btr B1.out hb)
  clear hb
  go_wp2_with fail
  refine (N3.out _).mono ?_; rintro e W3 ⟨rfl, hb⟩
  have B3 := Lib.hid (btr B2.out hb)
  clear hb
  go_wp2_with fail
  refine (N4.out _).mono ?_; rintro e W4 ⟨rfl, hb⟩
  have B4 := Lib.hid (btr B3.out hb)
  clear hb
  go_wp2
  exact bodyPost_ret (v := .tuple #[.string ⟨(t1 ++ 46 :: (t2 ++ 46 :: (t3 ++ 46 :: t4))).toArray⟩, .int .i64 0]) (by simp [results, Tryd.results13, go_sem, bytes_append]) rfl ⟨rfl, B4.out⟩

theorem rprint_c (a : Int) (w : World) : Calls Tryd.prog 13 #[.int .i64 a] w fun x w' => x = .returned (.tuple #[.string ⟨(printS a).toArray⟩, .int .i64 (printE a)]) ∧ Below w.heap.size w w' := by
  cases ha : isA a with
  | false =>
    have HI' := fun W => rright1_c a W
    rw [ha] at HI'
    have HI := Lib.hid HI'
    have e1 : printS a = [] ∧ printE a = 60 := by unfold printS printE; rw [ha]; exact ⟨rfl, rfl⟩
    rw [e1.1, e1.2]
    clear HI' e1 ha
    go_enter Tryd.func13, Tryd.ntmps13
    go_wp2_with (go_at_call 32; refine (HI.out _).mono ?_; rintro x w1 ⟨rfl, rfl⟩)
    go_ret2
    exact ⟨rfl, Below.refl _ _⟩
  | true =>
    have hb := isA_iff.1 ha
    obtain ⟨n, rfl⟩ : ∃ n : Nat, a = n := ⟨a.toNat, by omega⟩
    rw [print_eq, if_pos ha, show printE (n : Int) = 0 by unfold printE; exact if_pos ha]
    exact rprint_ok n (by omega) w

set_option maxRecDepth 100000 in
set_option maxHeartbeats 4000000 in
theorem rpp_no (A K : Int) (hr : rightB A K = false) (w : World) : Calls Tryd.prog 17 #[.agg #[.int .i64 A, .int .i64 K]] w fun x w' => x = .returned (.tuple #[.string ⟨#[]⟩, .int .i64 61]) ∧ Below w.heap.size w w' := by
  have HR := Lib.hid (fun W => rright_c A K W)
  rw [hr] at HR
  clear hr
  go_enter Tryd.func17, Tryd.ntmps17
  go_wp2_with (go_at_call 21; refine (HR.out _).mono ?_; rintro x w1 ⟨rfl, hB1⟩)
  exact bodyPost_ret (v := .tuple #[.string ⟨#[]⟩, .int .i64 61]) (by simp [results, Tryd.results17, go_sem]) rfl ⟨rfl, btr (below_alloc _ _) hB1⟩

set_option maxRecDepth 100000 in
set_option maxHeartbeats 4000000 in
theorem rpp_ok (A K : Int) (hr : rightB A K = true) (w : World) : Calls Tryd.prog 17 #[.agg #[.int .i64 A, .int .i64 K]] w fun x w' => x = .returned (.tuple #[.string ⟨(aT A ++ 47 :: Lib.itoa K).toArray⟩, .int .i64 0]) ∧ Below w.heap.size w w' := by
  obtain ⟨h1, h2, h3⟩ := right_parts hr
  have HR := Lib.hid (fun W => rright_c A K W)
  rw [hr] at HR
  have hK : 0 ≤ K ∧ K ≤ 32 := by simpa [okK] using h1
  have HP' := fun W => rprint_c A W
  rw [print_eq, if_pos h2, show printE A = 0 by unfold printE; exact if_pos h2] at HP'
  have HP := Lib.hid HP'
  obtain ⟨k, rfl⟩ : ∃ k : Nat, K = k := ⟨K.toNat, by omega⟩
  have HN := Lib.hid (fun W => num_c k (by omega) W)
  have l1 : (aT A).length ≤ 16 := txt_len
  have l2 := itoa_len k (by omega)
  generalize aT A = t at *
  generalize Lib.itoa (k : Int) = u at *
  clear hr h1 h2 h3 HP'
  have m1 : ¬ 9223372036854775807 < t.length + 1 := by omega
  have m2 : ¬ 9223372036854775807 < t.length + 1 + u.length := by omega
  go_enter Tryd.func17, Tryd.ntmps17
  go_wp2_with fail
  refine (HR.out _).mono ?_; rintro x w1 ⟨rfl, hb⟩
  have k0 : w1.cell? ⟨w.heap.size, 0, none⟩ = some (.int .i64 A) := (hb.cell (p := ⟨w.heap.size, 0, none⟩) (by simp)).trans (by go_simp)
  have k1 : w1.cell? ⟨w.heap.size, 1, none⟩ = some (.int .i64 k) := (hb.cell (p := ⟨w.heap.size, 1, none⟩) (by simp)).trans (by go_simp)
  have B1 := Lib.hid (btr (below_alloc w (.cells #[.int .i64 A, .int .i64 k] 23)) hb)
  clear hb
  go_wp2_with fail
  refine (HP.out _).mono ?_; rintro e w2 ⟨rfl, hb⟩
  have k2 : w2.cell? ⟨w.heap.size, 1, none⟩ = some (.int .i64 k) := (hb.cell (p := ⟨w.heap.size, 1, none⟩) (blt k1)).trans k1
  have B2 := Lib.hid (btr B1.out hb)
  clear hb k0 k1
  go_wp2_with fail
  refine (HN.out _).mono ?_; rintro e w3 ⟨rfl, hb⟩
  have B3 := Lib.hid (btr B2.out hb)
  clear hb k2
  go_wp2
  exact bodyPost_ret (v := .tuple #[.string ⟨(t ++ 47 :: u).toArray⟩, .int .i64 0]) (by simp [results, Tryd.results17, go_sem, bytes_append]) rfl ⟨rfl, B3.out⟩
theorem rppr_c (A K : Int) (w : World) : Calls Tryd.prog 17 #[.agg #[.int .i64 A, .int .i64 K]] w fun x w' => x = .returned (.tuple #[.string ⟨(ppS A K).toArray⟩, .int .i64 (ppF A K)]) ∧ Below w.heap.size w w' := by
  unfold ppS ppF
  cases hr : rightB A K with
  | false => exact rpp_no A K hr w
  | true => exact rpp_ok A K hr w

end Go.Proofs.YtlmgdhhlflmghaaDoor

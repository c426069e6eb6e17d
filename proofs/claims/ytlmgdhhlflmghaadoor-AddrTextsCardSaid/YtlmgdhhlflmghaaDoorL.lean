/- AddrEnds: what it says, walked. -/
import Derived.Test.YtlmgdhhlflmghaaDoorK
namespace Go.Proofs.YtlmgdhhlflmghaaDoor
open Go.RowKit Go.Shelf
attribute [local go_sem] Oper.semAt_some


set_option maxRecDepth 100000 in
set_option maxHeartbeats 4000000 in
theorem endsL_no (A K a : Int) (hr : rightB A K = false) (w : World) (hT : Tabs w) : Calls Tryd.prog 6 #[.agg #[.int .i64 A, .int .i64 K], .int .i64 a] w fun x w' => x = .returned (.bool true) ∧ Below w.heap.size w w' := by
  have HS := Lib.hid (fun W h => shown_c W h)
  have HT := Lib.hid hT
  have E' := fun W => ends_c A K W
  rw [show endsA A K = 0 by unfold endsA; rw [if_neg (by simp [hr])], show endsT A K = 0 by unfold endsT; rw [if_neg (by simp [hr])], show endsE A K = 61 by unfold endsE; rw [if_neg (by simp [hr])]] at E'
  have E := Lib.hid E'
  have H' := fun W => has_c A K a W
  rw [has_not hr] at H'
  have H := Lib.hid H'
  have R' := fun W => right_c A K W
  rw [hr] at R'
  have R := Lib.hid R'
  clear E' H' R' hr hT

  go_enter Tryd.func6, Tryd.ntmps6
  go_wp2_with fail
  have x00 : (w.alloc (.cells #[.int .i64 A, .int .i64 K] 23)).cell? ⟨w.heap.size, 0, none⟩ = some (.int .i64 A) := by go_simp
  have x01 : (w.alloc (.cells #[.int .i64 A, .int .i64 K] 23)).cell? ⟨w.heap.size, 1, none⟩ = some (.int .i64 K) := by go_simp
  have B0 : Below w.heap.size w (w.alloc (.cells #[.int .i64 A, .int .i64 K] 23)) := (bal (Below.refl _ _) _)
  generalize (w.alloc (.cells #[.int .i64 A, .int .i64 K] 23)) = U at *
  have KK := Lib.hid (show ∀ W, Below U.heap.size U W → W.cell? ⟨w.heap.size, 0, none⟩ = some (.int .i64 A) ∧ W.cell? ⟨w.heap.size, 1, none⟩ = some (.int .i64 K) from fun W h => ⟨(h.cell (p := ⟨w.heap.size, 0, none⟩) (blt x00)).trans x00, (h.cell (p := ⟨w.heap.size, 1, none⟩) (blt x00)).trans x01⟩)
  refine (HS.out _ (HT.out.on B0)).mono ?_; rintro e w1 ⟨rfl, hb⟩
  have B1 := Lib.hid (btr B0 hb)
  have C1 := Lib.hid (btr (Below.refl _ _) hb)
  clear hb x00 x01
  obtain ⟨c1_00, c1_01⟩ := KK.out w1 C1.out
  go_wp2_with fail
  refine (E.out _).mono ?_; rintro e w2 ⟨rfl, hb⟩
  have B2 := Lib.hid (btr B1.out hb)
  have C2 := Lib.hid (btr C1.out hb)
  clear hb c1_00 c1_01
  obtain ⟨c2_00, c2_01⟩ := KK.out w2 C2.out
  go_wp2_with fail
  refine (H.out _).mono ?_; rintro e w3 ⟨rfl, hb⟩
  have B3 := Lib.hid (btr B2.out hb)
  have C3 := Lib.hid (btr C2.out hb)
  clear hb c2_00 c2_01
  obtain ⟨c3_00, c3_01⟩ := KK.out w3 C3.out
  go_wp2_with fail
  refine (R.out _).mono ?_; rintro e w4 ⟨rfl, hb⟩
  have B4 := Lib.hid (btr B3.out hb)
  have C4 := Lib.hid (btr C3.out hb)
  clear hb c3_00 c3_01
  obtain ⟨c4_00, c4_01⟩ := KK.out w4 C4.out
  go_wp2
  go_ret
  exact ⟨ret_bool (by first | rfl | (simp <;> omega)), B4.out⟩

set_option maxRecDepth 100000 in
set_option maxHeartbeats 4000000 in
theorem endsL_at (A K a T : Int) (hTe : endT A K = T) (hr : rightB A K = true) (h1 : A ≤ T) (hA0 : 0 ≤ A) (hTm : T ≤ 4294967295) (r : Bool) (hrr : (a < A ∧ r = false) ∨ (A ≤ a ∧ a ≤ T ∧ r = true) ∨ (A ≤ a ∧ T < a ∧ r = false)) (hh : hasB A K a = r) (w : World) (hT : Tabs w) : Calls Tryd.prog 6 #[.agg #[.int .i64 A, .int .i64 K], .int .i64 a] w fun x w' => x = .returned (.bool true) ∧ Below w.heap.size w w' := by
  have HS := Lib.hid (fun W h => shown_c W h)
  have HT := Lib.hid hT
  have E' := fun W => ends_c A K W
  rw [show endsA A K = A by unfold endsA; rw [if_pos hr], show endsT A K = T by unfold endsT; rw [if_pos hr, hTe], show endsE A K = 0 by unfold endsE; rw [if_pos hr]] at E'
  have E := Lib.hid E'
  have H1' := fun W => has_c A K A W
  have H2' := fun W => has_c A K T W
  have H3' := fun W => has_c A K a W
  have H4' := fun W => has_c A K (A - 1) W
  have H5' := fun W => has_c A K (T + 1) W
  rw [show hasB A K A = true by rw [has_eq hr, hTe]; exact decide_eq_true ⟨by omega, h1⟩] at H1'
  rw [show hasB A K T = true by rw [has_eq hr, hTe]; exact decide_eq_true ⟨h1, by omega⟩] at H2'
  rw [hh] at H3'
  rw [show hasB A K (A - 1) = false by rw [has_eq hr, hTe]; exact decide_eq_false (by omega)] at H4'
  rw [show hasB A K (T + 1) = false by rw [has_eq hr, hTe]; exact decide_eq_false (by omega)] at H5'
  have H1 := Lib.hid H1'
  have H2 := Lib.hid H2'
  have H3 := Lib.hid H3'
  have H4 := Lib.hid H4'
  have H5 := Lib.hid H5'
  clear E' H1' H2' H3' H4' H5' hr hT hh hTe
  rcases hrr with ⟨g1, rfl⟩ | ⟨g1, g2, rfl⟩ | ⟨g1, g2, rfl⟩
  all_goals

    go_enter Tryd.func6, Tryd.ntmps6
    go_wp2_with fail
    have x00 : (w.alloc (.cells #[.int .i64 A, .int .i64 K] 23)).cell? ⟨w.heap.size, 0, none⟩ = some (.int .i64 A) := by go_simp
    have x01 : (w.alloc (.cells #[.int .i64 A, .int .i64 K] 23)).cell? ⟨w.heap.size, 1, none⟩ = some (.int .i64 K) := by go_simp
    have B0 : Below w.heap.size w (w.alloc (.cells #[.int .i64 A, .int .i64 K] 23)) := (bal (Below.refl _ _) _)
    generalize (w.alloc (.cells #[.int .i64 A, .int .i64 K] 23)) = U at *
    have KK := Lib.hid (show ∀ W, Below U.heap.size U W → W.cell? ⟨w.heap.size, 0, none⟩ = some (.int .i64 A) ∧ W.cell? ⟨w.heap.size, 1, none⟩ = some (.int .i64 K) from fun W h => ⟨(h.cell (p := ⟨w.heap.size, 0, none⟩) (blt x00)).trans x00, (h.cell (p := ⟨w.heap.size, 1, none⟩) (blt x00)).trans x01⟩)
    refine (HS.out _ (HT.out.on B0)).mono ?_; rintro e w1 ⟨rfl, hb⟩
    have B1 := Lib.hid (btr B0 hb)
    have C1 := Lib.hid (btr (Below.refl _ _) hb)
    clear hb x00 x01
    obtain ⟨c1_00, c1_01⟩ := KK.out w1 C1.out
    go_wp2_with fail
    refine (E.out _).mono ?_; rintro e w2 ⟨rfl, hb⟩
    have B2 := Lib.hid (btr B1.out hb)
    have C2 := Lib.hid (btr C1.out hb)
    clear hb c1_00 c1_01
    obtain ⟨c2_00, c2_01⟩ := KK.out w2 C2.out
    go_wp2_with fail
    refine (H1.out _).mono ?_; rintro e w3 ⟨rfl, hb⟩
    have B3 := Lib.hid (btr B2.out hb)
    have C3 := Lib.hid (btr C2.out hb)
    clear hb c2_00 c2_01
    obtain ⟨c3_00, c3_01⟩ := KK.out w3 C3.out
    go_wp2_with fail
    refine (H2.out _).mono ?_; rintro e w4 ⟨rfl, hb⟩
    have B4 := Lib.hid (btr B3.out hb)
    have C4 := Lib.hid (btr C3.out hb)
    clear hb c3_00 c3_01
    obtain ⟨c4_00, c4_01⟩ := KK.out w4 C4.out
    go_wp2_with fail
    refine (H3.out _).mono ?_; rintro e w5 ⟨rfl, hb⟩
    have B5 := Lib.hid (btr B4.out hb)
    have C5 := Lib.hid (btr C4.out hb)
    clear hb c4_00 c4_01
    obtain ⟨c5_00, c5_01⟩ := KK.out w5 C5.out
    go_wp2_with fail
    refine (H4.out _).mono ?_; rintro e w6 ⟨rfl, hb⟩
    have B6 := Lib.hid (btr B5.out hb)
    have C6 := Lib.hid (btr C5.out hb)
    clear hb c5_00 c5_01
    obtain ⟨c6_00, c6_01⟩ := KK.out w6 C6.out
    go_wp2_with fail
    refine (H5.out _).mono ?_; rintro e w7 ⟨rfl, hb⟩
    have B7 := Lib.hid (btr B6.out hb)
    have C7 := Lib.hid (btr C6.out hb)
    clear hb c6_00 c6_01
    obtain ⟨c7_00, c7_01⟩ := KK.out w7 C7.out
    go_wp2
    go_ret
    exact ⟨ret_bool (by first | rfl | (simp <;> omega)), B7.out⟩

theorem endsL_c (A K a : Int) (w : World) (hT : Tabs w) : Calls Tryd.prog 6 #[.agg #[.int .i64 A, .int .i64 K], .int .i64 a] w fun x w' => x = .returned (.bool true) ∧ Below w.heap.size w w' := by
  cases hr : rightB A K with
  | false => exact endsL_no A K a hr w hT
  | true =>
    obtain ⟨p1, p2, p3⟩ := right_parts hr
    have hp := blk_pos K
    refine endsL_at A K a _ rfl hr (by unfold endT; omega) (isA_iff.1 p2).1 (end_le p1 p2 p3) (hasB A K a) ?_ rfl w hT
    rw [has_eq hr]
    by_cases h1 : A ≤ a
    · by_cases h2 : a ≤ endT A K
      · exact .inr (.inl ⟨h1, h2, decide_eq_true ⟨h1, h2⟩⟩)
      · exact .inr (.inr ⟨h1, by omega, decide_eq_false (by omega)⟩)
    · exact .inl ⟨by omega, decide_eq_false (by omega)⟩
end Go.Proofs.YtlmgdhhlflmghaaDoor

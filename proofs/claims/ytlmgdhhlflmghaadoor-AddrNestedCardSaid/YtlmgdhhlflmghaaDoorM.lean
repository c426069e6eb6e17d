/- AddrNested: what it says, walked. -/
import Derived.Test.YtlmgdhhlflmghaaDoorK
namespace Go.Proofs.YtlmgdhhlflmghaaDoor
open Go.RowKit Go.Shelf
attribute [local go_sem] Oper.semAt_some


set_option maxRecDepth 100000 in
set_option maxHeartbeats 4000000 in
theorem nest_0 (A K B L a : Int) (hp : rightB A K = false) (w : World) (hT : Tabs w) : Calls Tryd.prog 7 #[.agg #[.int .i64 A, .int .i64 K], .agg #[.int .i64 B, .int .i64 L], .int .i64 a] w fun x w' => x = .returned (.bool true) ∧ Below w.heap.size w w' := by
  have HS := Lib.hid (fun W h => shown_c W h)
  have HT := Lib.hid hT
  have I1' := fun W => in_c A K B L W
  rw [in_not (.inl hp)] at I1'
  have I1 := Lib.hid I1'
  clear I1'
  have I2' := fun W => in_c B L A K W
  rw [in_not (.inr hp)] at I2'
  have I2 := Lib.hid I2'
  clear I2'
  have R1' := fun W => right_c A K W
  rw [hp] at R1'
  have R1 := Lib.hid R1'
  clear R1'
  clear hp hT

  go_enter Tryd.func7, Tryd.ntmps7
  go_wp2_with fail
  have x00 : ((w.alloc (.cells #[.int .i64 A, .int .i64 K] 23)).alloc (.cells #[.int .i64 B, .int .i64 L] 23)).cell? ⟨w.heap.size, 0, none⟩ = some (.int .i64 A) := by go_simp
  have x01 : ((w.alloc (.cells #[.int .i64 A, .int .i64 K] 23)).alloc (.cells #[.int .i64 B, .int .i64 L] 23)).cell? ⟨w.heap.size, 1, none⟩ = some (.int .i64 K) := by go_simp
  have x10 : ((w.alloc (.cells #[.int .i64 A, .int .i64 K] 23)).alloc (.cells #[.int .i64 B, .int .i64 L] 23)).cell? ⟨w.heap.size + 1, 0, none⟩ = some (.int .i64 B) := by go_simp
  have x11 : ((w.alloc (.cells #[.int .i64 A, .int .i64 K] 23)).alloc (.cells #[.int .i64 B, .int .i64 L] 23)).cell? ⟨w.heap.size + 1, 1, none⟩ = some (.int .i64 L) := by go_simp
  have B0 : Below w.heap.size w ((w.alloc (.cells #[.int .i64 A, .int .i64 K] 23)).alloc (.cells #[.int .i64 B, .int .i64 L] 23)) := (bal ((bal (Below.refl _ _) _)) _)
  generalize ((w.alloc (.cells #[.int .i64 A, .int .i64 K] 23)).alloc (.cells #[.int .i64 B, .int .i64 L] 23)) = U at *
  have KK := Lib.hid (show ∀ W, Below U.heap.size U W → W.cell? ⟨w.heap.size, 0, none⟩ = some (.int .i64 A) ∧ W.cell? ⟨w.heap.size, 1, none⟩ = some (.int .i64 K) ∧ W.cell? ⟨w.heap.size + 1, 0, none⟩ = some (.int .i64 B) ∧ W.cell? ⟨w.heap.size + 1, 1, none⟩ = some (.int .i64 L) from fun W h => ⟨(h.cell (p := ⟨w.heap.size, 0, none⟩) (blt x00)).trans x00, (h.cell (p := ⟨w.heap.size, 1, none⟩) (blt x00)).trans x01, (h.cell (p := ⟨w.heap.size + 1, 0, none⟩) (blt x10)).trans x10, (h.cell (p := ⟨w.heap.size + 1, 1, none⟩) (blt x10)).trans x11⟩)
  refine (HS.out _ (HT.out.on B0)).mono ?_; rintro e w1 ⟨rfl, hb⟩
  have B1 := Lib.hid (btr B0 hb)
  have C1 := Lib.hid (btr (Below.refl _ _) hb)
  clear hb x00 x01 x10 x11
  obtain ⟨c1_00, c1_01, c1_10, c1_11⟩ := KK.out w1 C1.out
  go_wp2_with fail
  refine (I1.out _).mono ?_; rintro e w2 ⟨rfl, hb⟩
  have B2 := Lib.hid (btr B1.out hb)
  have C2 := Lib.hid (btr C1.out hb)
  clear hb c1_00 c1_01 c1_10 c1_11
  obtain ⟨c2_00, c2_01, c2_10, c2_11⟩ := KK.out w2 C2.out
  go_wp2_with fail
  refine (I2.out _).mono ?_; rintro e w3 ⟨rfl, hb⟩
  have B3 := Lib.hid (btr B2.out hb)
  have C3 := Lib.hid (btr C2.out hb)
  clear hb c2_00 c2_01 c2_10 c2_11
  obtain ⟨c3_00, c3_01, c3_10, c3_11⟩ := KK.out w3 C3.out
  go_wp2_with fail
  refine (R1.out _).mono ?_; rintro e w4 ⟨rfl, hb⟩
  have B4 := Lib.hid (btr B3.out hb)
  have C4 := Lib.hid (btr C3.out hb)
  clear hb c3_00 c3_01 c3_10 c3_11
  obtain ⟨c4_00, c4_01, c4_10, c4_11⟩ := KK.out w4 C4.out
  go_wp2
  go_ret
  exact ⟨ret_bool (by first | rfl | (simp <;> omega)), B4.out⟩

set_option maxRecDepth 100000 in
set_option maxHeartbeats 4000000 in
theorem nest_1 (A K B L a : Int) (hp : rightB A K = true) (hq : rightB B L = false) (w : World) (hT : Tabs w) : Calls Tryd.prog 7 #[.agg #[.int .i64 A, .int .i64 K], .agg #[.int .i64 B, .int .i64 L], .int .i64 a] w fun x w' => x = .returned (.bool true) ∧ Below w.heap.size w w' := by
  have HS := Lib.hid (fun W h => shown_c W h)
  have HT := Lib.hid hT
  have I1' := fun W => in_c A K B L W
  rw [in_not (.inr hq)] at I1'
  have I1 := Lib.hid I1'
  clear I1'
  have I2' := fun W => in_c B L A K W
  rw [in_not (.inl hq)] at I2'
  have I2 := Lib.hid I2'
  clear I2'
  have R1' := fun W => right_c A K W
  rw [hp] at R1'
  have R1 := Lib.hid R1'
  clear R1'
  have R2' := fun W => right_c B L W
  rw [hq] at R2'
  have R2 := Lib.hid R2'
  clear R2'
  clear hp hq hT

  go_enter Tryd.func7, Tryd.ntmps7
  go_wp2_with fail
  have x00 : ((w.alloc (.cells #[.int .i64 A, .int .i64 K] 23)).alloc (.cells #[.int .i64 B, .int .i64 L] 23)).cell? ⟨w.heap.size, 0, none⟩ = some (.int .i64 A) := by go_simp
  have x01 : ((w.alloc (.cells #[.int .i64 A, .int .i64 K] 23)).alloc (.cells #[.int .i64 B, .int .i64 L] 23)).cell? ⟨w.heap.size, 1, none⟩ = some (.int .i64 K) := by go_simp
  have x10 : ((w.alloc (.cells #[.int .i64 A, .int .i64 K] 23)).alloc (.cells #[.int .i64 B, .int .i64 L] 23)).cell? ⟨w.heap.size + 1, 0, none⟩ = some (.int .i64 B) := by go_simp
  have x11 : ((w.alloc (.cells #[.int .i64 A, .int .i64 K] 23)).alloc (.cells #[.int .i64 B, .int .i64 L] 23)).cell? ⟨w.heap.size + 1, 1, none⟩ = some (.int .i64 L) := by go_simp
  have B0 : Below w.heap.size w ((w.alloc (.cells #[.int .i64 A, .int .i64 K] 23)).alloc (.cells #[.int .i64 B, .int .i64 L] 23)) := (bal ((bal (Below.refl _ _) _)) _)
  generalize ((w.alloc (.cells #[.int .i64 A, .int .i64 K] 23)).alloc (.cells #[.int .i64 B, .int .i64 L] 23)) = U at *
  have KK := Lib.hid (show ∀ W, Below U.heap.size U W → W.cell? ⟨w.heap.size, 0, none⟩ = some (.int .i64 A) ∧ W.cell? ⟨w.heap.size, 1, none⟩ = some (.int .i64 K) ∧ W.cell? ⟨w.heap.size + 1, 0, none⟩ = some (.int .i64 B) ∧ W.cell? ⟨w.heap.size + 1, 1, none⟩ = some (.int .i64 L) from fun W h => ⟨(h.cell (p := ⟨w.heap.size, 0, none⟩) (blt x00)).trans x00, (h.cell (p := ⟨w.heap.size, 1, none⟩) (blt x00)).trans x01, (h.cell (p := ⟨w.heap.size + 1, 0, none⟩) (blt x10)).trans x10, (h.cell (p := ⟨w.heap.size + 1, 1, none⟩) (blt x10)).trans x11⟩)
  refine (HS.out _ (HT.out.on B0)).mono ?_; rintro e w1 ⟨rfl, hb⟩
  have B1 := Lib.hid (btr B0 hb)
  have C1 := Lib.hid (btr (Below.refl _ _) hb)
  clear hb x00 x01 x10 x11
  obtain ⟨c1_00, c1_01, c1_10, c1_11⟩ := KK.out w1 C1.out
  go_wp2_with fail
  refine (I1.out _).mono ?_; rintro e w2 ⟨rfl, hb⟩
  have B2 := Lib.hid (btr B1.out hb)
  have C2 := Lib.hid (btr C1.out hb)
  clear hb c1_00 c1_01 c1_10 c1_11
  obtain ⟨c2_00, c2_01, c2_10, c2_11⟩ := KK.out w2 C2.out
  go_wp2_with fail
  refine (I2.out _).mono ?_; rintro e w3 ⟨rfl, hb⟩
  have B3 := Lib.hid (btr B2.out hb)
  have C3 := Lib.hid (btr C2.out hb)
  clear hb c2_00 c2_01 c2_10 c2_11
  obtain ⟨c3_00, c3_01, c3_10, c3_11⟩ := KK.out w3 C3.out
  go_wp2_with fail
  refine (R1.out _).mono ?_; rintro e w4 ⟨rfl, hb⟩
  have B4 := Lib.hid (btr B3.out hb)
  have C4 := Lib.hid (btr C3.out hb)
  clear hb c3_00 c3_01 c3_10 c3_11
  obtain ⟨c4_00, c4_01, c4_10, c4_11⟩ := KK.out w4 C4.out
  go_wp2_with fail
  refine (R2.out _).mono ?_; rintro e w5 ⟨rfl, hb⟩
  have B5 := Lib.hid (btr B4.out hb)
  have C5 := Lib.hid (btr C4.out hb)
  clear hb c4_00 c4_01 c4_10 c4_11
  obtain ⟨c5_00, c5_01, c5_10, c5_11⟩ := KK.out w5 C5.out
  go_wp2
  go_ret
  exact ⟨ret_bool (by first | rfl | (simp <;> omega)), B5.out⟩

set_option maxRecDepth 100000 in
set_option maxHeartbeats 4000000 in
theorem nest_0000a (A K B L a : Int) (hp : rightB A K = true) (hq : rightB B L = true) (hi1 : inB A K B L = false) (hi2 : inB B L A K = false) (hh1 : hasB A K a = false) (hh2 : hasB B L a = false) (hne : (A == B) = false) (w : World) (hT : Tabs w) : Calls Tryd.prog 7 #[.agg #[.int .i64 A, .int .i64 K], .agg #[.int .i64 B, .int .i64 L], .int .i64 a] w fun x w' => x = .returned (.bool true) ∧ Below w.heap.size w w' := by
  have HS := Lib.hid (fun W h => shown_c W h)
  have HT := Lib.hid hT
  have I1' := fun W => in_c A K B L W
  rw [hi1] at I1'
  have I1 := Lib.hid I1'
  clear I1'
  have I2' := fun W => in_c B L A K W
  rw [hi2] at I2'
  have I2 := Lib.hid I2'
  clear I2'
  have R1' := fun W => right_c A K W
  rw [hp] at R1'
  have R1 := Lib.hid R1'
  clear R1'
  have R2' := fun W => right_c B L W
  rw [hq] at R2'
  have R2 := Lib.hid R2'
  clear R2'
  have H1' := fun W => has_c A K a W
  rw [hh1] at H1'
  have H1 := Lib.hid H1'
  clear H1'
  have H2' := fun W => has_c B L a W
  rw [hh2] at H2'
  have H2 := Lib.hid H2'
  clear H2'
  clear hp hq hi1 hi2 hh1 hh2 hT

  go_enter Tryd.func7, Tryd.ntmps7
  go_wp2_with fail
  have x00 : ((w.alloc (.cells #[.int .i64 A, .int .i64 K] 23)).alloc (.cells #[.int .i64 B, .int .i64 L] 23)).cell? ⟨w.heap.size, 0, none⟩ = some (.int .i64 A) := by go_simp
  have x01 : ((w.alloc (.cells #[.int .i64 A, .int .i64 K] 23)).alloc (.cells #[.int .i64 B, .int .i64 L] 23)).cell? ⟨w.heap.size, 1, none⟩ = some (.int .i64 K) := by go_simp
  have x10 : ((w.alloc (.cells #[.int .i64 A, .int .i64 K] 23)).alloc (.cells #[.int .i64 B, .int .i64 L] 23)).cell? ⟨w.heap.size + 1, 0, none⟩ = some (.int .i64 B) := by go_simp
  have x11 : ((w.alloc (.cells #[.int .i64 A, .int .i64 K] 23)).alloc (.cells #[.int .i64 B, .int .i64 L] 23)).cell? ⟨w.heap.size + 1, 1, none⟩ = some (.int .i64 L) := by go_simp
  have B0 : Below w.heap.size w ((w.alloc (.cells #[.int .i64 A, .int .i64 K] 23)).alloc (.cells #[.int .i64 B, .int .i64 L] 23)) := (bal ((bal (Below.refl _ _) _)) _)
  generalize ((w.alloc (.cells #[.int .i64 A, .int .i64 K] 23)).alloc (.cells #[.int .i64 B, .int .i64 L] 23)) = U at *
  have KK := Lib.hid (show ∀ W, Below U.heap.size U W → W.cell? ⟨w.heap.size, 0, none⟩ = some (.int .i64 A) ∧ W.cell? ⟨w.heap.size, 1, none⟩ = some (.int .i64 K) ∧ W.cell? ⟨w.heap.size + 1, 0, none⟩ = some (.int .i64 B) ∧ W.cell? ⟨w.heap.size + 1, 1, none⟩ = some (.int .i64 L) from fun W h => ⟨(h.cell (p := ⟨w.heap.size, 0, none⟩) (blt x00)).trans x00, (h.cell (p := ⟨w.heap.size, 1, none⟩) (blt x00)).trans x01, (h.cell (p := ⟨w.heap.size + 1, 0, none⟩) (blt x10)).trans x10, (h.cell (p := ⟨w.heap.size + 1, 1, none⟩) (blt x10)).trans x11⟩)
  refine (HS.out _ (HT.out.on B0)).mono ?_; rintro e w1 ⟨rfl, hb⟩
  have B1 := Lib.hid (btr B0 hb)
  have C1 := Lib.hid (btr (Below.refl _ _) hb)
  clear hb x00 x01 x10 x11
  obtain ⟨c1_00, c1_01, c1_10, c1_11⟩ := KK.out w1 C1.out
  go_wp2_with fail
  refine (I1.out _).mono ?_; rintro e w2 ⟨rfl, hb⟩
  have B2 := Lib.hid (btr B1.out hb)
  have C2 := Lib.hid (btr C1.out hb)
  clear hb c1_00 c1_01 c1_10 c1_11
  obtain ⟨c2_00, c2_01, c2_10, c2_11⟩ := KK.out w2 C2.out
  go_wp2_with fail
  refine (I2.out _).mono ?_; rintro e w3 ⟨rfl, hb⟩
  have B3 := Lib.hid (btr B2.out hb)
  have C3 := Lib.hid (btr C2.out hb)
  clear hb c2_00 c2_01 c2_10 c2_11
  obtain ⟨c3_00, c3_01, c3_10, c3_11⟩ := KK.out w3 C3.out
  go_wp2_with fail
  refine (R1.out _).mono ?_; rintro e w4 ⟨rfl, hb⟩
  have B4 := Lib.hid (btr B3.out hb)
  have C4 := Lib.hid (btr C3.out hb)
  clear hb c3_00 c3_01 c3_10 c3_11
  obtain ⟨c4_00, c4_01, c4_10, c4_11⟩ := KK.out w4 C4.out
  go_wp2_with fail
  refine (R2.out _).mono ?_; rintro e w5 ⟨rfl, hb⟩
  have B5 := Lib.hid (btr B4.out hb)
  have C5 := Lib.hid (btr C4.out hb)
  clear hb c4_00 c4_01 c4_10 c4_11
  obtain ⟨c5_00, c5_01, c5_10, c5_11⟩ := KK.out w5 C5.out
  go_wp2_with fail
  refine (H1.out _).mono ?_; rintro e w6 ⟨rfl, hb⟩
  have B6 := Lib.hid (btr B5.out hb)
  have C6 := Lib.hid (btr C5.out hb)
  clear hb c5_00 c5_01 c5_10 c5_11
  obtain ⟨c6_00, c6_01, c6_10, c6_11⟩ := KK.out w6 C6.out
  go_wp2
  go_ret
  exact ⟨ret_bool (by first | rfl | (simp <;> omega)), B6.out⟩

set_option maxRecDepth 100000 in
set_option maxHeartbeats 4000000 in
theorem nest_0000k (A K B L a : Int) (hp : rightB A K = true) (hq : rightB B L = true) (hi1 : inB A K B L = false) (hi2 : inB B L A K = false) (hh1 : hasB A K a = false) (hh2 : hasB B L a = false) (hne : A = B) (hne' : (K == L) = false) (w : World) (hT : Tabs w) : Calls Tryd.prog 7 #[.agg #[.int .i64 A, .int .i64 K], .agg #[.int .i64 B, .int .i64 L], .int .i64 a] w fun x w' => x = .returned (.bool true) ∧ Below w.heap.size w w' := by
  have HS := Lib.hid (fun W h => shown_c W h)
  have HT := Lib.hid hT
  have I1' := fun W => in_c A K B L W
  rw [hi1] at I1'
  have I1 := Lib.hid I1'
  clear I1'
  have I2' := fun W => in_c B L A K W
  rw [hi2] at I2'
  have I2 := Lib.hid I2'
  clear I2'
  have R1' := fun W => right_c A K W
  rw [hp] at R1'
  have R1 := Lib.hid R1'
  clear R1'
  have R2' := fun W => right_c B L W
  rw [hq] at R2'
  have R2 := Lib.hid R2'
  clear R2'
  have H1' := fun W => has_c A K a W
  rw [hh1] at H1'
  have H1 := Lib.hid H1'
  clear H1'
  have H2' := fun W => has_c B L a W
  rw [hh2] at H2'
  have H2 := Lib.hid H2'
  clear H2'
  clear hp hq hi1 hi2 hh1 hh2 hT
  subst hne

  go_enter Tryd.func7, Tryd.ntmps7
  go_wp2_with fail
  have x00 : ((w.alloc (.cells #[.int .i64 A, .int .i64 K] 23)).alloc (.cells #[.int .i64 A, .int .i64 L] 23)).cell? ⟨w.heap.size, 0, none⟩ = some (.int .i64 A) := by go_simp
  have x01 : ((w.alloc (.cells #[.int .i64 A, .int .i64 K] 23)).alloc (.cells #[.int .i64 A, .int .i64 L] 23)).cell? ⟨w.heap.size, 1, none⟩ = some (.int .i64 K) := by go_simp
  have x10 : ((w.alloc (.cells #[.int .i64 A, .int .i64 K] 23)).alloc (.cells #[.int .i64 A, .int .i64 L] 23)).cell? ⟨w.heap.size + 1, 0, none⟩ = some (.int .i64 A) := by go_simp
  have x11 : ((w.alloc (.cells #[.int .i64 A, .int .i64 K] 23)).alloc (.cells #[.int .i64 A, .int .i64 L] 23)).cell? ⟨w.heap.size + 1, 1, none⟩ = some (.int .i64 L) := by go_simp
  have B0 : Below w.heap.size w ((w.alloc (.cells #[.int .i64 A, .int .i64 K] 23)).alloc (.cells #[.int .i64 A, .int .i64 L] 23)) := (bal ((bal (Below.refl _ _) _)) _)
  generalize ((w.alloc (.cells #[.int .i64 A, .int .i64 K] 23)).alloc (.cells #[.int .i64 A, .int .i64 L] 23)) = U at *
  have KK := Lib.hid (show ∀ W, Below U.heap.size U W → W.cell? ⟨w.heap.size, 0, none⟩ = some (.int .i64 A) ∧ W.cell? ⟨w.heap.size, 1, none⟩ = some (.int .i64 K) ∧ W.cell? ⟨w.heap.size + 1, 0, none⟩ = some (.int .i64 A) ∧ W.cell? ⟨w.heap.size + 1, 1, none⟩ = some (.int .i64 L) from fun W h => ⟨(h.cell (p := ⟨w.heap.size, 0, none⟩) (blt x00)).trans x00, (h.cell (p := ⟨w.heap.size, 1, none⟩) (blt x00)).trans x01, (h.cell (p := ⟨w.heap.size + 1, 0, none⟩) (blt x10)).trans x10, (h.cell (p := ⟨w.heap.size + 1, 1, none⟩) (blt x10)).trans x11⟩)
  refine (HS.out _ (HT.out.on B0)).mono ?_; rintro e w1 ⟨rfl, hb⟩
  have B1 := Lib.hid (btr B0 hb)
  have C1 := Lib.hid (btr (Below.refl _ _) hb)
  clear hb x00 x01 x10 x11
  obtain ⟨c1_00, c1_01, c1_10, c1_11⟩ := KK.out w1 C1.out
  go_wp2_with fail
  refine (I1.out _).mono ?_; rintro e w2 ⟨rfl, hb⟩
  have B2 := Lib.hid (btr B1.out hb)
  have C2 := Lib.hid (btr C1.out hb)
  clear hb c1_00 c1_01 c1_10 c1_11
  obtain ⟨c2_00, c2_01, c2_10, c2_11⟩ := KK.out w2 C2.out
  go_wp2_with fail
  refine (I2.out _).mono ?_; rintro e w3 ⟨rfl, hb⟩
  have B3 := Lib.hid (btr B2.out hb)
  have C3 := Lib.hid (btr C2.out hb)
  clear hb c2_00 c2_01 c2_10 c2_11
  obtain ⟨c3_00, c3_01, c3_10, c3_11⟩ := KK.out w3 C3.out
  go_wp2_with fail
  refine (R1.out _).mono ?_; rintro e w4 ⟨rfl, hb⟩
  have B4 := Lib.hid (btr B3.out hb)
  have C4 := Lib.hid (btr C3.out hb)
  clear hb c3_00 c3_01 c3_10 c3_11
  obtain ⟨c4_00, c4_01, c4_10, c4_11⟩ := KK.out w4 C4.out
  go_wp2_with fail
  refine (R2.out _).mono ?_; rintro e w5 ⟨rfl, hb⟩
  have B5 := Lib.hid (btr B4.out hb)
  have C5 := Lib.hid (btr C4.out hb)
  clear hb c4_00 c4_01 c4_10 c4_11
  obtain ⟨c5_00, c5_01, c5_10, c5_11⟩ := KK.out w5 C5.out
  go_wp2_with fail
  refine (H1.out _).mono ?_; rintro e w6 ⟨rfl, hb⟩
  have B6 := Lib.hid (btr B5.out hb)
  have C6 := Lib.hid (btr C5.out hb)
  clear hb c5_00 c5_01 c5_10 c5_11
  obtain ⟨c6_00, c6_01, c6_10, c6_11⟩ := KK.out w6 C6.out
  go_wp2
  go_ret
  exact ⟨ret_bool (by first | rfl | (simp <;> omega)), B6.out⟩

set_option maxRecDepth 100000 in
set_option maxHeartbeats 4000000 in
theorem nest_0001a (A K B L a : Int) (hp : rightB A K = true) (hq : rightB B L = true) (hi1 : inB A K B L = false) (hi2 : inB B L A K = false) (hh1 : hasB A K a = false) (hh2 : hasB B L a = true) (hne : (A == B) = false) (w : World) (hT : Tabs w) : Calls Tryd.prog 7 #[.agg #[.int .i64 A, .int .i64 K], .agg #[.int .i64 B, .int .i64 L], .int .i64 a] w fun x w' => x = .returned (.bool true) ∧ Below w.heap.size w w' := by
  have HS := Lib.hid (fun W h => shown_c W h)
  have HT := Lib.hid hT
  have I1' := fun W => in_c A K B L W
  rw [hi1] at I1'
  have I1 := Lib.hid I1'
  clear I1'
  have I2' := fun W => in_c B L A K W
  rw [hi2] at I2'
  have I2 := Lib.hid I2'
  clear I2'
  have R1' := fun W => right_c A K W
  rw [hp] at R1'
  have R1 := Lib.hid R1'
  clear R1'
  have R2' := fun W => right_c B L W
  rw [hq] at R2'
  have R2 := Lib.hid R2'
  clear R2'
  have H1' := fun W => has_c A K a W
  rw [hh1] at H1'
  have H1 := Lib.hid H1'
  clear H1'
  have H2' := fun W => has_c B L a W
  rw [hh2] at H2'
  have H2 := Lib.hid H2'
  clear H2'
  clear hp hq hi1 hi2 hh1 hh2 hT

  go_enter Tryd.func7, Tryd.ntmps7
  go_wp2_with fail
  have x00 : ((w.alloc (.cells #[.int .i64 A, .int .i64 K] 23)).alloc (.cells #[.int .i64 B, .int .i64 L] 23)).cell? ⟨w.heap.size, 0, none⟩ = some (.int .i64 A) := by go_simp
  have x01 : ((w.alloc (.cells #[.int .i64 A, .int .i64 K] 23)).alloc (.cells #[.int .i64 B, .int .i64 L] 23)).cell? ⟨w.heap.size, 1, none⟩ = some (.int .i64 K) := by go_simp
  have x10 : ((w.alloc (.cells #[.int .i64 A, .int .i64 K] 23)).alloc (.cells #[.int .i64 B, .int .i64 L] 23)).cell? ⟨w.heap.size + 1, 0, none⟩ = some (.int .i64 B) := by go_simp
  have x11 : ((w.alloc (.cells #[.int .i64 A, .int .i64 K] 23)).alloc (.cells #[.int .i64 B, .int .i64 L] 23)).cell? ⟨w.heap.size + 1, 1, none⟩ = some (.int .i64 L) := by go_simp
  have B0 : Below w.heap.size w ((w.alloc (.cells #[.int .i64 A, .int .i64 K] 23)).alloc (.cells #[.int .i64 B, .int .i64 L] 23)) := (bal ((bal (Below.refl _ _) _)) _)
  generalize ((w.alloc (.cells #[.int .i64 A, .int .i64 K] 23)).alloc (.cells #[.int .i64 B, .int .i64 L] 23)) = U at *
  have KK := Lib.hid (show ∀ W, Below U.heap.size U W → W.cell? ⟨w.heap.size, 0, none⟩ = some (.int .i64 A) ∧ W.cell? ⟨w.heap.size, 1, none⟩ = some (.int .i64 K) ∧ W.cell? ⟨w.heap.size + 1, 0, none⟩ = some (.int .i64 B) ∧ W.cell? ⟨w.heap.size + 1, 1, none⟩ = some (.int .i64 L) from fun W h => ⟨(h.cell (p := ⟨w.heap.size, 0, none⟩) (blt x00)).trans x00, (h.cell (p := ⟨w.heap.size, 1, none⟩) (blt x00)).trans x01, (h.cell (p := ⟨w.heap.size + 1, 0, none⟩) (blt x10)).trans x10, (h.cell (p := ⟨w.heap.size + 1, 1, none⟩) (blt x10)).trans x11⟩)
  refine (HS.out _ (HT.out.on B0)).mono ?_; rintro e w1 ⟨rfl, hb⟩
  have B1 := Lib.hid (btr B0 hb)
  have C1 := Lib.hid (btr (Below.refl _ _) hb)
  clear hb x00 x01 x10 x11
  obtain ⟨c1_00, c1_01, c1_10, c1_11⟩ := KK.out w1 C1.out
  go_wp2_with fail
  refine (I1.out _).mono ?_; rintro e w2 ⟨rfl, hb⟩
  have B2 := Lib.hid (btr B1.out hb)
  have C2 := Lib.hid (btr C1.out hb)
  clear hb c1_00 c1_01 c1_10 c1_11
  obtain ⟨c2_00, c2_01, c2_10, c2_11⟩ := KK.out w2 C2.out
  go_wp2_with fail
  refine (I2.out _).mono ?_; rintro e w3 ⟨rfl, hb⟩
  have B3 := Lib.hid (btr B2.out hb)
  have C3 := Lib.hid (btr C2.out hb)
  clear hb c2_00 c2_01 c2_10 c2_11
  obtain ⟨c3_00, c3_01, c3_10, c3_11⟩ := KK.out w3 C3.out
  go_wp2_with fail
  refine (R1.out _).mono ?_; rintro e w4 ⟨rfl, hb⟩
  have B4 := Lib.hid (btr B3.out hb)
  have C4 := Lib.hid (btr C3.out hb)
  clear hb c3_00 c3_01 c3_10 c3_11
  obtain ⟨c4_00, c4_01, c4_10, c4_11⟩ := KK.out w4 C4.out
  go_wp2_with fail
  refine (R2.out _).mono ?_; rintro e w5 ⟨rfl, hb⟩
  have B5 := Lib.hid (btr B4.out hb)
  have C5 := Lib.hid (btr C4.out hb)
  clear hb c4_00 c4_01 c4_10 c4_11
  obtain ⟨c5_00, c5_01, c5_10, c5_11⟩ := KK.out w5 C5.out
  go_wp2_with fail
  refine (H1.out _).mono ?_; rintro e w6 ⟨rfl, hb⟩
  have B6 := Lib.hid (btr B5.out hb)
  have C6 := Lib.hid (btr C5.out hb)
  clear hb c5_00 c5_01 c5_10 c5_11
  obtain ⟨c6_00, c6_01, c6_10, c6_11⟩ := KK.out w6 C6.out
  go_wp2
  go_ret
  exact ⟨ret_bool (by first | rfl | (simp <;> omega)), B6.out⟩

set_option maxRecDepth 100000 in
set_option maxHeartbeats 4000000 in
theorem nest_0001k (A K B L a : Int) (hp : rightB A K = true) (hq : rightB B L = true) (hi1 : inB A K B L = false) (hi2 : inB B L A K = false) (hh1 : hasB A K a = false) (hh2 : hasB B L a = true) (hne : A = B) (hne' : (K == L) = false) (w : World) (hT : Tabs w) : Calls Tryd.prog 7 #[.agg #[.int .i64 A, .int .i64 K], .agg #[.int .i64 B, .int .i64 L], .int .i64 a] w fun x w' => x = .returned (.bool true) ∧ Below w.heap.size w w' := by
  have HS := Lib.hid (fun W h => shown_c W h)
  have HT := Lib.hid hT
  have I1' := fun W => in_c A K B L W
  rw [hi1] at I1'
  have I1 := Lib.hid I1'
  clear I1'
  have I2' := fun W => in_c B L A K W
  rw [hi2] at I2'
  have I2 := Lib.hid I2'
  clear I2'
  have R1' := fun W => right_c A K W
  rw [hp] at R1'
  have R1 := Lib.hid R1'
  clear R1'
  have R2' := fun W => right_c B L W
  rw [hq] at R2'
  have R2 := Lib.hid R2'
  clear R2'
  have H1' := fun W => has_c A K a W
  rw [hh1] at H1'
  have H1 := Lib.hid H1'
  clear H1'
  have H2' := fun W => has_c B L a W
  rw [hh2] at H2'
  have H2 := Lib.hid H2'
  clear H2'
  clear hp hq hi1 hi2 hh1 hh2 hT
  subst hne

  go_enter Tryd.func7, Tryd.ntmps7
  go_wp2_with fail
  have x00 : ((w.alloc (.cells #[.int .i64 A, .int .i64 K] 23)).alloc (.cells #[.int .i64 A, .int .i64 L] 23)).cell? ⟨w.heap.size, 0, none⟩ = some (.int .i64 A) := by go_simp
  have x01 : ((w.alloc (.cells #[.int .i64 A, .int .i64 K] 23)).alloc (.cells #[.int .i64 A, .int .i64 L] 23)).cell? ⟨w.heap.size, 1, none⟩ = some (.int .i64 K) := by go_simp
  have x10 : ((w.alloc (.cells #[.int .i64 A, .int .i64 K] 23)).alloc (.cells #[.int .i64 A, .int .i64 L] 23)).cell? ⟨w.heap.size + 1, 0, none⟩ = some (.int .i64 A) := by go_simp
  have x11 : ((w.alloc (.cells #[.int .i64 A, .int .i64 K] 23)).alloc (.cells #[.int .i64 A, .int .i64 L] 23)).cell? ⟨w.heap.size + 1, 1, none⟩ = some (.int .i64 L) := by go_simp
  have B0 : Below w.heap.size w ((w.alloc (.cells #[.int .i64 A, .int .i64 K] 23)).alloc (.cells #[.int .i64 A, .int .i64 L] 23)) := (bal ((bal (Below.refl _ _) _)) _)
  generalize ((w.alloc (.cells #[.int .i64 A, .int .i64 K] 23)).alloc (.cells #[.int .i64 A, .int .i64 L] 23)) = U at *
  have KK := Lib.hid (show ∀ W, Below U.heap.size U W → W.cell? ⟨w.heap.size, 0, none⟩ = some (.int .i64 A) ∧ W.cell? ⟨w.heap.size, 1, none⟩ = some (.int .i64 K) ∧ W.cell? ⟨w.heap.size + 1, 0, none⟩ = some (.int .i64 A) ∧ W.cell? ⟨w.heap.size + 1, 1, none⟩ = some (.int .i64 L) from fun W h => ⟨(h.cell (p := ⟨w.heap.size, 0, none⟩) (blt x00)).trans x00, (h.cell (p := ⟨w.heap.size, 1, none⟩) (blt x00)).trans x01, (h.cell (p := ⟨w.heap.size + 1, 0, none⟩) (blt x10)).trans x10, (h.cell (p := ⟨w.heap.size + 1, 1, none⟩) (blt x10)).trans x11⟩)
  refine (HS.out _ (HT.out.on B0)).mono ?_; rintro e w1 ⟨rfl, hb⟩
  have B1 := Lib.hid (btr B0 hb)
  have C1 := Lib.hid (btr (Below.refl _ _) hb)
  clear hb x00 x01 x10 x11
  obtain ⟨c1_00, c1_01, c1_10, c1_11⟩ := KK.out w1 C1.out
  go_wp2_with fail
  refine (I1.out _).mono ?_; rintro e w2 ⟨rfl, hb⟩
  have B2 := Lib.hid (btr B1.out hb)
  have C2 := Lib.hid (btr C1.out hb)
  clear hb c1_00 c1_01 c1_10 c1_11
  obtain ⟨c2_00, c2_01, c2_10, c2_11⟩ := KK.out w2 C2.out
  go_wp2_with fail
  refine (I2.out _).mono ?_; rintro e w3 ⟨rfl, hb⟩
  have B3 := Lib.hid (btr B2.out hb)
  have C3 := Lib.hid (btr C2.out hb)
  clear hb c2_00 c2_01 c2_10 c2_11
  obtain ⟨c3_00, c3_01, c3_10, c3_11⟩ := KK.out w3 C3.out
  go_wp2_with fail
  refine (R1.out _).mono ?_; rintro e w4 ⟨rfl, hb⟩
  have B4 := Lib.hid (btr B3.out hb)
  have C4 := Lib.hid (btr C3.out hb)
  clear hb c3_00 c3_01 c3_10 c3_11
  obtain ⟨c4_00, c4_01, c4_10, c4_11⟩ := KK.out w4 C4.out
  go_wp2_with fail
  refine (R2.out _).mono ?_; rintro e w5 ⟨rfl, hb⟩
  have B5 := Lib.hid (btr B4.out hb)
  have C5 := Lib.hid (btr C4.out hb)
  clear hb c4_00 c4_01 c4_10 c4_11
  obtain ⟨c5_00, c5_01, c5_10, c5_11⟩ := KK.out w5 C5.out
  go_wp2_with fail
  refine (H1.out _).mono ?_; rintro e w6 ⟨rfl, hb⟩
  have B6 := Lib.hid (btr B5.out hb)
  have C6 := Lib.hid (btr C5.out hb)
  clear hb c5_00 c5_01 c5_10 c5_11
  obtain ⟨c6_00, c6_01, c6_10, c6_11⟩ := KK.out w6 C6.out
  go_wp2
  go_ret
  exact ⟨ret_bool (by first | rfl | (simp <;> omega)), B6.out⟩

set_option maxRecDepth 100000 in
set_option maxHeartbeats 4000000 in
theorem nest_0010a (A K B L a : Int) (hp : rightB A K = true) (hq : rightB B L = true) (hi1 : inB A K B L = false) (hi2 : inB B L A K = false) (hh1 : hasB A K a = true) (hh2 : hasB B L a = false) (hne : (A == B) = false) (w : World) (hT : Tabs w) : Calls Tryd.prog 7 #[.agg #[.int .i64 A, .int .i64 K], .agg #[.int .i64 B, .int .i64 L], .int .i64 a] w fun x w' => x = .returned (.bool true) ∧ Below w.heap.size w w' := by
  have HS := Lib.hid (fun W h => shown_c W h)
  have HT := Lib.hid hT
  have I1' := fun W => in_c A K B L W
  rw [hi1] at I1'
  have I1 := Lib.hid I1'
  clear I1'
  have I2' := fun W => in_c B L A K W
  rw [hi2] at I2'
  have I2 := Lib.hid I2'
  clear I2'
  have R1' := fun W => right_c A K W
  rw [hp] at R1'
  have R1 := Lib.hid R1'
  clear R1'
  have R2' := fun W => right_c B L W
  rw [hq] at R2'
  have R2 := Lib.hid R2'
  clear R2'
  have H1' := fun W => has_c A K a W
  rw [hh1] at H1'
  have H1 := Lib.hid H1'
  clear H1'
  have H2' := fun W => has_c B L a W
  rw [hh2] at H2'
  have H2 := Lib.hid H2'
  clear H2'
  clear hp hq hi1 hi2 hh1 hh2 hT

  go_enter Tryd.func7, Tryd.ntmps7
  go_wp2_with fail
  have x00 : ((w.alloc (.cells #[.int .i64 A, .int .i64 K] 23)).alloc (.cells #[.int .i64 B, .int .i64 L] 23)).cell? ⟨w.heap.size, 0, none⟩ = some (.int .i64 A) := by go_simp
  have x01 : ((w.alloc (.cells #[.int .i64 A, .int .i64 K] 23)).alloc (.cells #[.int .i64 B, .int .i64 L] 23)).cell? ⟨w.heap.size, 1, none⟩ = some (.int .i64 K) := by go_simp
  have x10 : ((w.alloc (.cells #[.int .i64 A, .int .i64 K] 23)).alloc (.cells #[.int .i64 B, .int .i64 L] 23)).cell? ⟨w.heap.size + 1, 0, none⟩ = some (.int .i64 B) := by go_simp
  have x11 : ((w.alloc (.cells #[.int .i64 A, .int .i64 K] 23)).alloc (.cells #[.int .i64 B, .int .i64 L] 23)).cell? ⟨w.heap.size + 1, 1, none⟩ = some (.int .i64 L) := by go_simp
  have B0 : Below w.heap.size w ((w.alloc (.cells #[.int .i64 A, .int .i64 K] 23)).alloc (.cells #[.int .i64 B, .int .i64 L] 23)) := (bal ((bal (Below.refl _ _) _)) _)
  generalize ((w.alloc (.cells #[.int .i64 A, .int .i64 K] 23)).alloc (.cells #[.int .i64 B, .int .i64 L] 23)) = U at *
  have KK := Lib.hid (show ∀ W, Below U.heap.size U W → W.cell? ⟨w.heap.size, 0, none⟩ = some (.int .i64 A) ∧ W.cell? ⟨w.heap.size, 1, none⟩ = some (.int .i64 K) ∧ W.cell? ⟨w.heap.size + 1, 0, none⟩ = some (.int .i64 B) ∧ W.cell? ⟨w.heap.size + 1, 1, none⟩ = some (.int .i64 L) from fun W h => ⟨(h.cell (p := ⟨w.heap.size, 0, none⟩) (blt x00)).trans x00, (h.cell (p := ⟨w.heap.size, 1, none⟩) (blt x00)).trans x01, (h.cell (p := ⟨w.heap.size + 1, 0, none⟩) (blt x10)).trans x10, (h.cell (p := ⟨w.heap.size + 1, 1, none⟩) (blt x10)).trans x11⟩)
  refine (HS.out _ (HT.out.on B0)).mono ?_; rintro e w1 ⟨rfl, hb⟩
  have B1 := Lib.hid (btr B0 hb)
  have C1 := Lib.hid (btr (Below.refl _ _) hb)
  clear hb x00 x01 x10 x11
  obtain ⟨c1_00, c1_01, c1_10, c1_11⟩ := KK.out w1 C1.out
  go_wp2_with fail
  refine (I1.out _).mono ?_; rintro e w2 ⟨rfl, hb⟩
  have B2 := Lib.hid (btr B1.out hb)
  have C2 := Lib.hid (btr C1.out hb)
  clear hb c1_00 c1_01 c1_10 c1_11
  obtain ⟨c2_00, c2_01, c2_10, c2_11⟩ := KK.out w2 C2.out
  go_wp2_with fail
  refine (I2.out _).mono ?_; rintro e w3 ⟨rfl, hb⟩
  have B3 := Lib.hid (btr B2.out hb)
  have C3 := Lib.hid (btr C2.out hb)
  clear hb c2_00 c2_01 c2_10 c2_11
  obtain ⟨c3_00, c3_01, c3_10, c3_11⟩ := KK.out w3 C3.out
  go_wp2_with fail
  refine (R1.out _).mono ?_; rintro e w4 ⟨rfl, hb⟩
  have B4 := Lib.hid (btr B3.out hb)
  have C4 := Lib.hid (btr C3.out hb)
  clear hb c3_00 c3_01 c3_10 c3_11
  obtain ⟨c4_00, c4_01, c4_10, c4_11⟩ := KK.out w4 C4.out
  go_wp2_with fail
  refine (R2.out _).mono ?_; rintro e w5 ⟨rfl, hb⟩
  have B5 := Lib.hid (btr B4.out hb)
  have C5 := Lib.hid (btr C4.out hb)
  clear hb c4_00 c4_01 c4_10 c4_11
  obtain ⟨c5_00, c5_01, c5_10, c5_11⟩ := KK.out w5 C5.out
  go_wp2_with fail
  refine (H1.out _).mono ?_; rintro e w6 ⟨rfl, hb⟩
  have B6 := Lib.hid (btr B5.out hb)
  have C6 := Lib.hid (btr C5.out hb)
  clear hb c5_00 c5_01 c5_10 c5_11
  obtain ⟨c6_00, c6_01, c6_10, c6_11⟩ := KK.out w6 C6.out
  go_wp2_with fail
  refine (H2.out _).mono ?_; rintro e w7 ⟨rfl, hb⟩
  have B7 := Lib.hid (btr B6.out hb)
  have C7 := Lib.hid (btr C6.out hb)
  clear hb c6_00 c6_01 c6_10 c6_11
  obtain ⟨c7_00, c7_01, c7_10, c7_11⟩ := KK.out w7 C7.out
  go_wp2
  go_ret
  exact ⟨ret_bool (by first | rfl | (simp <;> omega)), B7.out⟩

set_option maxRecDepth 100000 in
set_option maxHeartbeats 4000000 in
theorem nest_0010k (A K B L a : Int) (hp : rightB A K = true) (hq : rightB B L = true) (hi1 : inB A K B L = false) (hi2 : inB B L A K = false) (hh1 : hasB A K a = true) (hh2 : hasB B L a = false) (hne : A = B) (hne' : (K == L) = false) (w : World) (hT : Tabs w) : Calls Tryd.prog 7 #[.agg #[.int .i64 A, .int .i64 K], .agg #[.int .i64 B, .int .i64 L], .int .i64 a] w fun x w' => x = .returned (.bool true) ∧ Below w.heap.size w w' := by
  have HS := Lib.hid (fun W h => shown_c W h)
  have HT := Lib.hid hT
  have I1' := fun W => in_c A K B L W
  rw [hi1] at I1'
  have I1 := Lib.hid I1'
  clear I1'
  have I2' := fun W => in_c B L A K W
  rw [hi2] at I2'
  have I2 := Lib.hid I2'
  clear I2'
  have R1' := fun W => right_c A K W
  rw [hp] at R1'
  have R1 := Lib.hid R1'
  clear R1'
  have R2' := fun W => right_c B L W
  rw [hq] at R2'
  have R2 := Lib.hid R2'
  clear R2'
  have H1' := fun W => has_c A K a W
  rw [hh1] at H1'
  have H1 := Lib.hid H1'
  clear H1'
  have H2' := fun W => has_c B L a W
  rw [hh2] at H2'
  have H2 := Lib.hid H2'
  clear H2'
  clear hp hq hi1 hi2 hh1 hh2 hT
  subst hne

  go_enter Tryd.func7, Tryd.ntmps7
  go_wp2_with fail
  have x00 : ((w.alloc (.cells #[.int .i64 A, .int .i64 K] 23)).alloc (.cells #[.int .i64 A, .int .i64 L] 23)).cell? ⟨w.heap.size, 0, none⟩ = some (.int .i64 A) := by go_simp
  have x01 : ((w.alloc (.cells #[.int .i64 A, .int .i64 K] 23)).alloc (.cells #[.int .i64 A, .int .i64 L] 23)).cell? ⟨w.heap.size, 1, none⟩ = some (.int .i64 K) := by go_simp
  have x10 : ((w.alloc (.cells #[.int .i64 A, .int .i64 K] 23)).alloc (.cells #[.int .i64 A, .int .i64 L] 23)).cell? ⟨w.heap.size + 1, 0, none⟩ = some (.int .i64 A) := by go_simp
  have x11 : ((w.alloc (.cells #[.int .i64 A, .int .i64 K] 23)).alloc (.cells #[.int .i64 A, .int .i64 L] 23)).cell? ⟨w.heap.size + 1, 1, none⟩ = some (.int .i64 L) := by go_simp
  have B0 : Below w.heap.size w ((w.alloc (.cells #[.int .i64 A, .int .i64 K] 23)).alloc (.cells #[.int .i64 A, .int .i64 L] 23)) := (bal ((bal (Below.refl _ _) _)) _)
  generalize ((w.alloc (.cells #[.int .i64 A, .int .i64 K] 23)).alloc (.cells #[.int .i64 A, .int .i64 L] 23)) = U at *
  have KK := Lib.hid (show ∀ W, Below U.heap.size U W → W.cell? ⟨w.heap.size, 0, none⟩ = some (.int .i64 A) ∧ W.cell? ⟨w.heap.size, 1, none⟩ = some (.int .i64 K) ∧ W.cell? ⟨w.heap.size + 1, 0, none⟩ = some (.int .i64 A) ∧ W.cell? ⟨w.heap.size + 1, 1, none⟩ = some (.int .i64 L) from fun W h => ⟨(h.cell (p := ⟨w.heap.size, 0, none⟩) (blt x00)).trans x00, (h.cell (p := ⟨w.heap.size, 1, none⟩) (blt x00)).trans x01, (h.cell (p := ⟨w.heap.size + 1, 0, none⟩) (blt x10)).trans x10, (h.cell (p := ⟨w.heap.size + 1, 1, none⟩) (blt x10)).trans x11⟩)
  refine (HS.out _ (HT.out.on B0)).mono ?_; rintro e w1 ⟨rfl, hb⟩
  have B1 := Lib.hid (btr B0 hb)
  have C1 := Lib.hid (btr (Below.refl _ _) hb)
  clear hb x00 x01 x10 x11
  obtain ⟨c1_00, c1_01, c1_10, c1_11⟩ := KK.out w1 C1.out
  go_wp2_with fail
  refine (I1.out _).mono ?_; rintro e w2 ⟨rfl, hb⟩
  have B2 := Lib.hid (btr B1.out hb)
  have C2 := Lib.hid (btr C1.out hb)
  clear hb c1_00 c1_01 c1_10 c1_11
  obtain ⟨c2_00, c2_01, c2_10, c2_11⟩ := KK.out w2 C2.out
  go_wp2_with fail
  refine (I2.out _).mono ?_; rintro e w3 ⟨rfl, hb⟩
  have B3 := Lib.hid (btr B2.out hb)
  have C3 := Lib.hid (btr C2.out hb)
  clear hb c2_00 c2_01 c2_10 c2_11
  obtain ⟨c3_00, c3_01, c3_10, c3_11⟩ := KK.out w3 C3.out
  go_wp2_with fail
  refine (R1.out _).mono ?_; rintro e w4 ⟨rfl, hb⟩
  have B4 := Lib.hid (btr B3.out hb)
  have C4 := Lib.hid (btr C3.out hb)
  clear hb c3_00 c3_01 c3_10 c3_11
  obtain ⟨c4_00, c4_01, c4_10, c4_11⟩ := KK.out w4 C4.out
  go_wp2_with fail
  refine (R2.out _).mono ?_; rintro e w5 ⟨rfl, hb⟩
  have B5 := Lib.hid (btr B4.out hb)
  have C5 := Lib.hid (btr C4.out hb)
  clear hb c4_00 c4_01 c4_10 c4_11
  obtain ⟨c5_00, c5_01, c5_10, c5_11⟩ := KK.out w5 C5.out
  go_wp2_with fail
  refine (H1.out _).mono ?_; rintro e w6 ⟨rfl, hb⟩
  have B6 := Lib.hid (btr B5.out hb)
  have C6 := Lib.hid (btr C5.out hb)
  clear hb c5_00 c5_01 c5_10 c5_11
  obtain ⟨c6_00, c6_01, c6_10, c6_11⟩ := KK.out w6 C6.out
  go_wp2_with fail
  refine (H2.out _).mono ?_; rintro e w7 ⟨rfl, hb⟩
  have B7 := Lib.hid (btr B6.out hb)
  have C7 := Lib.hid (btr C6.out hb)
  clear hb c6_00 c6_01 c6_10 c6_11
  obtain ⟨c7_00, c7_01, c7_10, c7_11⟩ := KK.out w7 C7.out
  go_wp2
  go_ret
  exact ⟨ret_bool (by first | rfl | (simp <;> omega)), B7.out⟩

set_option maxRecDepth 100000 in
set_option maxHeartbeats 4000000 in
theorem nest_0100a (A K B L a : Int) (hp : rightB A K = true) (hq : rightB B L = true) (hi1 : inB A K B L = false) (hi2 : inB B L A K = true) (hh1 : hasB A K a = false) (hh2 : hasB B L a = false) (hne : (A == B) = false) (w : World) (hT : Tabs w) : Calls Tryd.prog 7 #[.agg #[.int .i64 A, .int .i64 K], .agg #[.int .i64 B, .int .i64 L], .int .i64 a] w fun x w' => x = .returned (.bool true) ∧ Below w.heap.size w w' := by
  have HS := Lib.hid (fun W h => shown_c W h)
  have HT := Lib.hid hT
  have I1' := fun W => in_c A K B L W
  rw [hi1] at I1'
  have I1 := Lib.hid I1'
  clear I1'
  have I2' := fun W => in_c B L A K W
  rw [hi2] at I2'
  have I2 := Lib.hid I2'
  clear I2'
  have R1' := fun W => right_c A K W
  rw [hp] at R1'
  have R1 := Lib.hid R1'
  clear R1'
  have R2' := fun W => right_c B L W
  rw [hq] at R2'
  have R2 := Lib.hid R2'
  clear R2'
  have H1' := fun W => has_c A K a W
  rw [hh1] at H1'
  have H1 := Lib.hid H1'
  clear H1'
  have H2' := fun W => has_c B L a W
  rw [hh2] at H2'
  have H2 := Lib.hid H2'
  clear H2'
  clear hp hq hi1 hi2 hh1 hh2 hT

  go_enter Tryd.func7, Tryd.ntmps7
  go_wp2_with fail
  have x00 : ((w.alloc (.cells #[.int .i64 A, .int .i64 K] 23)).alloc (.cells #[.int .i64 B, .int .i64 L] 23)).cell? ⟨w.heap.size, 0, none⟩ = some (.int .i64 A) := by go_simp
  have x01 : ((w.alloc (.cells #[.int .i64 A, .int .i64 K] 23)).alloc (.cells #[.int .i64 B, .int .i64 L] 23)).cell? ⟨w.heap.size, 1, none⟩ = some (.int .i64 K) := by go_simp
  have x10 : ((w.alloc (.cells #[.int .i64 A, .int .i64 K] 23)).alloc (.cells #[.int .i64 B, .int .i64 L] 23)).cell? ⟨w.heap.size + 1, 0, none⟩ = some (.int .i64 B) := by go_simp
  have x11 : ((w.alloc (.cells #[.int .i64 A, .int .i64 K] 23)).alloc (.cells #[.int .i64 B, .int .i64 L] 23)).cell? ⟨w.heap.size + 1, 1, none⟩ = some (.int .i64 L) := by go_simp
  have B0 : Below w.heap.size w ((w.alloc (.cells #[.int .i64 A, .int .i64 K] 23)).alloc (.cells #[.int .i64 B, .int .i64 L] 23)) := (bal ((bal (Below.refl _ _) _)) _)
  generalize ((w.alloc (.cells #[.int .i64 A, .int .i64 K] 23)).alloc (.cells #[.int .i64 B, .int .i64 L] 23)) = U at *
  have KK := Lib.hid (show ∀ W, Below U.heap.size U W → W.cell? ⟨w.heap.size, 0, none⟩ = some (.int .i64 A) ∧ W.cell? ⟨w.heap.size, 1, none⟩ = some (.int .i64 K) ∧ W.cell? ⟨w.heap.size + 1, 0, none⟩ = some (.int .i64 B) ∧ W.cell? ⟨w.heap.size + 1, 1, none⟩ = some (.int .i64 L) from fun W h => ⟨(h.cell (p := ⟨w.heap.size, 0, none⟩) (blt x00)).trans x00, (h.cell (p := ⟨w.heap.size, 1, none⟩) (blt x00)).trans x01, (h.cell (p := ⟨w.heap.size + 1, 0, none⟩) (blt x10)).trans x10, (h.cell (p := ⟨w.heap.size + 1, 1, none⟩) (blt x10)).trans x11⟩)
  refine (HS.out _ (HT.out.on B0)).mono ?_; rintro e w1 ⟨rfl, hb⟩
  have B1 := Lib.hid (btr B0 hb)
  have C1 := Lib.hid (btr (Below.refl _ _) hb)
  clear hb x00 x01 x10 x11
  obtain ⟨c1_00, c1_01, c1_10, c1_11⟩ := KK.out w1 C1.out
  go_wp2_with fail
  refine (I1.out _).mono ?_; rintro e w2 ⟨rfl, hb⟩
  have B2 := Lib.hid (btr B1.out hb)
  have C2 := Lib.hid (btr C1.out hb)
  clear hb c1_00 c1_01 c1_10 c1_11
  obtain ⟨c2_00, c2_01, c2_10, c2_11⟩ := KK.out w2 C2.out
  go_wp2_with fail
  refine (I2.out _).mono ?_; rintro e w3 ⟨rfl, hb⟩
  have B3 := Lib.hid (btr B2.out hb)
  have C3 := Lib.hid (btr C2.out hb)
  clear hb c2_00 c2_01 c2_10 c2_11
  obtain ⟨c3_00, c3_01, c3_10, c3_11⟩ := KK.out w3 C3.out
  go_wp2_with fail
  refine (R1.out _).mono ?_; rintro e w4 ⟨rfl, hb⟩
  have B4 := Lib.hid (btr B3.out hb)
  have C4 := Lib.hid (btr C3.out hb)
  clear hb c3_00 c3_01 c3_10 c3_11
  obtain ⟨c4_00, c4_01, c4_10, c4_11⟩ := KK.out w4 C4.out
  go_wp2_with fail
  refine (R2.out _).mono ?_; rintro e w5 ⟨rfl, hb⟩
  have B5 := Lib.hid (btr B4.out hb)
  have C5 := Lib.hid (btr C4.out hb)
  clear hb c4_00 c4_01 c4_10 c4_11
  obtain ⟨c5_00, c5_01, c5_10, c5_11⟩ := KK.out w5 C5.out
  go_wp2_with fail
  refine (H1.out _).mono ?_; rintro e w6 ⟨rfl, hb⟩
  have B6 := Lib.hid (btr B5.out hb)
  have C6 := Lib.hid (btr C5.out hb)
  clear hb c5_00 c5_01 c5_10 c5_11
  obtain ⟨c6_00, c6_01, c6_10, c6_11⟩ := KK.out w6 C6.out
  go_wp2
  go_ret
  exact ⟨ret_bool (by first | rfl | (simp <;> omega)), B6.out⟩

set_option maxRecDepth 100000 in
set_option maxHeartbeats 4000000 in
theorem nest_0100k (A K B L a : Int) (hp : rightB A K = true) (hq : rightB B L = true) (hi1 : inB A K B L = false) (hi2 : inB B L A K = true) (hh1 : hasB A K a = false) (hh2 : hasB B L a = false) (hne : A = B) (hne' : (K == L) = false) (w : World) (hT : Tabs w) : Calls Tryd.prog 7 #[.agg #[.int .i64 A, .int .i64 K], .agg #[.int .i64 B, .int .i64 L], .int .i64 a] w fun x w' => x = .returned (.bool true) ∧ Below w.heap.size w w' := by
  have HS := Lib.hid (fun W h => shown_c W h)
  have HT := Lib.hid hT
  have I1' := fun W => in_c A K B L W
  rw [hi1] at I1'
  have I1 := Lib.hid I1'
  clear I1'
  have I2' := fun W => in_c B L A K W
  rw [hi2] at I2'
  have I2 := Lib.hid I2'
  clear I2'
  have R1' := fun W => right_c A K W
  rw [hp] at R1'
  have R1 := Lib.hid R1'
  clear R1'
  have R2' := fun W => right_c B L W
  rw [hq] at R2'
  have R2 := Lib.hid R2'
  clear R2'
  have H1' := fun W => has_c A K a W
  rw [hh1] at H1'
  have H1 := Lib.hid H1'
  clear H1'
  have H2' := fun W => has_c B L a W
  rw [hh2] at H2'
  have H2 := Lib.hid H2'
  clear H2'
  clear hp hq hi1 hi2 hh1 hh2 hT
  subst hne

  go_enter Tryd.func7, Tryd.ntmps7
  go_wp2_with fail
  have x00 : ((w.alloc (.cells #[.int .i64 A, .int .i64 K] 23)).alloc (.cells #[.int .i64 A, .int .i64 L] 23)).cell? ⟨w.heap.size, 0, none⟩ = some (.int .i64 A) := by go_simp
  have x01 : ((w.alloc (.cells #[.int .i64 A, .int .i64 K] 23)).alloc (.cells #[.int .i64 A, .int .i64 L] 23)).cell? ⟨w.heap.size, 1, none⟩ = some (.int .i64 K) := by go_simp
  have x10 : ((w.alloc (.cells #[.int .i64 A, .int .i64 K] 23)).alloc (.cells #[.int .i64 A, .int .i64 L] 23)).cell? ⟨w.heap.size + 1, 0, none⟩ = some (.int .i64 A) := by go_simp
  have x11 : ((w.alloc (.cells #[.int .i64 A, .int .i64 K] 23)).alloc (.cells #[.int .i64 A, .int .i64 L] 23)).cell? ⟨w.heap.size + 1, 1, none⟩ = some (.int .i64 L) := by go_simp
  have B0 : Below w.heap.size w ((w.alloc (.cells #[.int .i64 A, .int .i64 K] 23)).alloc (.cells #[.int .i64 A, .int .i64 L] 23)) := (bal ((bal (Below.refl _ _) _)) _)
  generalize ((w.alloc (.cells #[.int .i64 A, .int .i64 K] 23)).alloc (.cells #[.int .i64 A, .int .i64 L] 23)) = U at *
  have KK := Lib.hid (show ∀ W, Below U.heap.size U W → W.cell? ⟨w.heap.size, 0, none⟩ = some (.int .i64 A) ∧ W.cell? ⟨w.heap.size, 1, none⟩ = some (.int .i64 K) ∧ W.cell? ⟨w.heap.size + 1, 0, none⟩ = some (.int .i64 A) ∧ W.cell? ⟨w.heap.size + 1, 1, none⟩ = some (.int .i64 L) from fun W h => ⟨(h.cell (p := ⟨w.heap.size, 0, none⟩) (blt x00)).trans x00, (h.cell (p := ⟨w.heap.size, 1, none⟩) (blt x00)).trans x01, (h.cell (p := ⟨w.heap.size + 1, 0, none⟩) (blt x10)).trans x10, (h.cell (p := ⟨w.heap.size + 1, 1, none⟩) (blt x10)).trans x11⟩)
  refine (HS.out _ (HT.out.on B0)).mono ?_; rintro e w1 ⟨rfl, hb⟩
  have B1 := Lib.hid (btr B0 hb)
  have C1 := Lib.hid (btr (Below.refl _ _) hb)
  clear hb x00 x01 x10 x11
  obtain ⟨c1_00, c1_01, c1_10, c1_11⟩ := KK.out w1 C1.out
  go_wp2_with fail
  refine (I1.out _).mono ?_; rintro e w2 ⟨rfl, hb⟩
  have B2 := Lib.hid (btr B1.out hb)
  have C2 := Lib.hid (btr C1.out hb)
  clear hb c1_00 c1_01 c1_10 c1_11
  obtain ⟨c2_00, c2_01, c2_10, c2_11⟩ := KK.out w2 C2.out
  go_wp2_with fail
  refine (I2.out _).mono ?_; rintro e w3 ⟨rfl, hb⟩
  have B3 := Lib.hid (btr B2.out hb)
  have C3 := Lib.hid (btr C2.out hb)
  clear hb c2_00 c2_01 c2_10 c2_11
  obtain ⟨c3_00, c3_01, c3_10, c3_11⟩ := KK.out w3 C3.out
  go_wp2_with fail
  refine (R1.out _).mono ?_; rintro e w4 ⟨rfl, hb⟩
  have B4 := Lib.hid (btr B3.out hb)
  have C4 := Lib.hid (btr C3.out hb)
  clear hb c3_00 c3_01 c3_10 c3_11
  obtain ⟨c4_00, c4_01, c4_10, c4_11⟩ := KK.out w4 C4.out
  go_wp2_with fail
  refine (R2.out _).mono ?_; rintro e w5 ⟨rfl, hb⟩
  have B5 := Lib.hid (btr B4.out hb)
  have C5 := Lib.hid (btr C4.out hb)
  clear hb c4_00 c4_01 c4_10 c4_11
  obtain ⟨c5_00, c5_01, c5_10, c5_11⟩ := KK.out w5 C5.out
  go_wp2_with fail
  refine (H1.out _).mono ?_; rintro e w6 ⟨rfl, hb⟩
  have B6 := Lib.hid (btr B5.out hb)
  have C6 := Lib.hid (btr C5.out hb)
  clear hb c5_00 c5_01 c5_10 c5_11
  obtain ⟨c6_00, c6_01, c6_10, c6_11⟩ := KK.out w6 C6.out
  go_wp2
  go_ret
  exact ⟨ret_bool (by first | rfl | (simp <;> omega)), B6.out⟩

set_option maxRecDepth 100000 in
set_option maxHeartbeats 4000000 in
theorem nest_0110a (A K B L a : Int) (hp : rightB A K = true) (hq : rightB B L = true) (hi1 : inB A K B L = false) (hi2 : inB B L A K = true) (hh1 : hasB A K a = true) (hh2 : hasB B L a = false) (hne : (A == B) = false) (w : World) (hT : Tabs w) : Calls Tryd.prog 7 #[.agg #[.int .i64 A, .int .i64 K], .agg #[.int .i64 B, .int .i64 L], .int .i64 a] w fun x w' => x = .returned (.bool true) ∧ Below w.heap.size w w' := by
  have HS := Lib.hid (fun W h => shown_c W h)
  have HT := Lib.hid hT
  have I1' := fun W => in_c A K B L W
  rw [hi1] at I1'
  have I1 := Lib.hid I1'
  clear I1'
  have I2' := fun W => in_c B L A K W
  rw [hi2] at I2'
  have I2 := Lib.hid I2'
  clear I2'
  have R1' := fun W => right_c A K W
  rw [hp] at R1'
  have R1 := Lib.hid R1'
  clear R1'
  have R2' := fun W => right_c B L W
  rw [hq] at R2'
  have R2 := Lib.hid R2'
  clear R2'
  have H1' := fun W => has_c A K a W
  rw [hh1] at H1'
  have H1 := Lib.hid H1'
  clear H1'
  have H2' := fun W => has_c B L a W
  rw [hh2] at H2'
  have H2 := Lib.hid H2'
  clear H2'
  clear hp hq hi1 hi2 hh1 hh2 hT

  go_enter Tryd.func7, Tryd.ntmps7
  go_wp2_with fail
  have x00 : ((w.alloc (.cells #[.int .i64 A, .int .i64 K] 23)).alloc (.cells #[.int .i64 B, .int .i64 L] 23)).cell? ⟨w.heap.size, 0, none⟩ = some (.int .i64 A) := by go_simp
  have x01 : ((w.alloc (.cells #[.int .i64 A, .int .i64 K] 23)).alloc (.cells #[.int .i64 B, .int .i64 L] 23)).cell? ⟨w.heap.size, 1, none⟩ = some (.int .i64 K) := by go_simp
  have x10 : ((w.alloc (.cells #[.int .i64 A, .int .i64 K] 23)).alloc (.cells #[.int .i64 B, .int .i64 L] 23)).cell? ⟨w.heap.size + 1, 0, none⟩ = some (.int .i64 B) := by go_simp
  have x11 : ((w.alloc (.cells #[.int .i64 A, .int .i64 K] 23)).alloc (.cells #[.int .i64 B, .int .i64 L] 23)).cell? ⟨w.heap.size + 1, 1, none⟩ = some (.int .i64 L) := by go_simp
  have B0 : Below w.heap.size w ((w.alloc (.cells #[.int .i64 A, .int .i64 K] 23)).alloc (.cells #[.int .i64 B, .int .i64 L] 23)) := (bal ((bal (Below.refl _ _) _)) _)
  generalize ((w.alloc (.cells #[.int .i64 A, .int .i64 K] 23)).alloc (.cells #[.int .i64 B, .int .i64 L] 23)) = U at *
  have KK := Lib.hid (show ∀ W, Below U.heap.size U W → W.cell? ⟨w.heap.size, 0, none⟩ = some (.int .i64 A) ∧ W.cell? ⟨w.heap.size, 1, none⟩ = some (.int .i64 K) ∧ W.cell? ⟨w.heap.size + 1, 0, none⟩ = some (.int .i64 B) ∧ W.cell? ⟨w.heap.size + 1, 1, none⟩ = some (.int .i64 L) from fun W h => ⟨(h.cell (p := ⟨w.heap.size, 0, none⟩) (blt x00)).trans x00, (h.cell (p := ⟨w.heap.size, 1, none⟩) (blt x00)).trans x01, (h.cell (p := ⟨w.heap.size + 1, 0, none⟩) (blt x10)).trans x10, (h.cell (p := ⟨w.heap.size + 1, 1, none⟩) (blt x10)).trans x11⟩)
  refine (HS.out _ (HT.out.on B0)).mono ?_; rintro e w1 ⟨rfl, hb⟩
  have B1 := Lib.hid (btr B0 hb)
  have C1 := Lib.hid (btr (Below.refl _ _) hb)
  clear hb x00 x01 x10 x11
  obtain ⟨c1_00, c1_01, c1_10, c1_11⟩ := KK.out w1 C1.out
  go_wp2_with fail
  refine (I1.out _).mono ?_; rintro e w2 ⟨rfl, hb⟩
  have B2 := Lib.hid (btr B1.out hb)
  have C2 := Lib.hid (btr C1.out hb)
  clear hb c1_00 c1_01 c1_10 c1_11
  obtain ⟨c2_00, c2_01, c2_10, c2_11⟩ := KK.out w2 C2.out
  go_wp2_with fail
  refine (I2.out _).mono ?_; rintro e w3 ⟨rfl, hb⟩
  have B3 := Lib.hid (btr B2.out hb)
  have C3 := Lib.hid (btr C2.out hb)
  clear hb c2_00 c2_01 c2_10 c2_11
  obtain ⟨c3_00, c3_01, c3_10, c3_11⟩ := KK.out w3 C3.out
  go_wp2_with fail
  refine (R1.out _).mono ?_; rintro e w4 ⟨rfl, hb⟩
  have B4 := Lib.hid (btr B3.out hb)
  have C4 := Lib.hid (btr C3.out hb)
  clear hb c3_00 c3_01 c3_10 c3_11
  obtain ⟨c4_00, c4_01, c4_10, c4_11⟩ := KK.out w4 C4.out
  go_wp2_with fail
  refine (R2.out _).mono ?_; rintro e w5 ⟨rfl, hb⟩
  have B5 := Lib.hid (btr B4.out hb)
  have C5 := Lib.hid (btr C4.out hb)
  clear hb c4_00 c4_01 c4_10 c4_11
  obtain ⟨c5_00, c5_01, c5_10, c5_11⟩ := KK.out w5 C5.out
  go_wp2_with fail
  refine (H1.out _).mono ?_; rintro e w6 ⟨rfl, hb⟩
  have B6 := Lib.hid (btr B5.out hb)
  have C6 := Lib.hid (btr C5.out hb)
  clear hb c5_00 c5_01 c5_10 c5_11
  obtain ⟨c6_00, c6_01, c6_10, c6_11⟩ := KK.out w6 C6.out
  go_wp2_with fail
  refine (H2.out _).mono ?_; rintro e w7 ⟨rfl, hb⟩
  have B7 := Lib.hid (btr B6.out hb)
  have C7 := Lib.hid (btr C6.out hb)
  clear hb c6_00 c6_01 c6_10 c6_11
  obtain ⟨c7_00, c7_01, c7_10, c7_11⟩ := KK.out w7 C7.out
  go_wp2
  go_ret
  exact ⟨ret_bool (by first | rfl | (simp <;> omega)), B7.out⟩

set_option maxRecDepth 100000 in
set_option maxHeartbeats 4000000 in
theorem nest_0110k (A K B L a : Int) (hp : rightB A K = true) (hq : rightB B L = true) (hi1 : inB A K B L = false) (hi2 : inB B L A K = true) (hh1 : hasB A K a = true) (hh2 : hasB B L a = false) (hne : A = B) (hne' : (K == L) = false) (w : World) (hT : Tabs w) : Calls Tryd.prog 7 #[.agg #[.int .i64 A, .int .i64 K], .agg #[.int .i64 B, .int .i64 L], .int .i64 a] w fun x w' => x = .returned (.bool true) ∧ Below w.heap.size w w' := by
  have HS := Lib.hid (fun W h => shown_c W h)
  have HT := Lib.hid hT
  have I1' := fun W => in_c A K B L W
  rw [hi1] at I1'
  have I1 := Lib.hid I1'
  clear I1'
  have I2' := fun W => in_c B L A K W
  rw [hi2] at I2'
  have I2 := Lib.hid I2'
  clear I2'
  have R1' := fun W => right_c A K W
  rw [hp] at R1'
  have R1 := Lib.hid R1'
  clear R1'
  have R2' := fun W => right_c B L W
  rw [hq] at R2'
  have R2 := Lib.hid R2'
  clear R2'
  have H1' := fun W => has_c A K a W
  rw [hh1] at H1'
  have H1 := Lib.hid H1'
  clear H1'
  have H2' := fun W => has_c B L a W
  rw [hh2] at H2'
  have H2 := Lib.hid H2'
  clear H2'
  clear hp hq hi1 hi2 hh1 hh2 hT
  subst hne

  go_enter Tryd.func7, Tryd.ntmps7
  go_wp2_with fail
  have x00 : ((w.alloc (.cells #[.int .i64 A, .int .i64 K] 23)).alloc (.cells #[.int .i64 A, .int .i64 L] 23)).cell? ⟨w.heap.size, 0, none⟩ = some (.int .i64 A) := by go_simp
  have x01 : ((w.alloc (.cells #[.int .i64 A, .int .i64 K] 23)).alloc (.cells #[.int .i64 A, .int .i64 L] 23)).cell? ⟨w.heap.size, 1, none⟩ = some (.int .i64 K) := by go_simp
  have x10 : ((w.alloc (.cells #[.int .i64 A, .int .i64 K] 23)).alloc (.cells #[.int .i64 A, .int .i64 L] 23)).cell? ⟨w.heap.size + 1, 0, none⟩ = some (.int .i64 A) := by go_simp
  have x11 : ((w.alloc (.cells #[.int .i64 A, .int .i64 K] 23)).alloc (.cells #[.int .i64 A, .int .i64 L] 23)).cell? ⟨w.heap.size + 1, 1, none⟩ = some (.int .i64 L) := by go_simp
  have B0 : Below w.heap.size w ((w.alloc (.cells #[.int .i64 A, .int .i64 K] 23)).alloc (.cells #[.int .i64 A, .int .i64 L] 23)) := (bal ((bal (Below.refl _ _) _)) _)
  generalize ((w.alloc (.cells #[.int .i64 A, .int .i64 K] 23)).alloc (.cells #[.int .i64 A, .int .i64 L] 23)) = U at *
  have KK := Lib.hid (show ∀ W, Below U.heap.size U W → W.cell? ⟨w.heap.size, 0, none⟩ = some (.int .i64 A) ∧ W.cell? ⟨w.heap.size, 1, none⟩ = some (.int .i64 K) ∧ W.cell? ⟨w.heap.size + 1, 0, none⟩ = some (.int .i64 A) ∧ W.cell? ⟨w.heap.size + 1, 1, none⟩ = some (.int .i64 L) from fun W h => ⟨(h.cell (p := ⟨w.heap.size, 0, none⟩) (blt x00)).trans x00, (h.cell (p := ⟨w.heap.size, 1, none⟩) (blt x00)).trans x01, (h.cell (p := ⟨w.heap.size + 1, 0, none⟩) (blt x10)).trans x10, (h.cell (p := ⟨w.heap.size + 1, 1, none⟩) (blt x10)).trans x11⟩)
  refine (HS.out _ (HT.out.on B0)).mono ?_; rintro e w1 ⟨rfl, hb⟩
  have B1 := Lib.hid (btr B0 hb)
  have C1 := Lib.hid (btr (Below.refl _ _) hb)
  clear hb x00 x01 x10 x11
  obtain ⟨c1_00, c1_01, c1_10, c1_11⟩ := KK.out w1 C1.out
  go_wp2_with fail
  refine (I1.out _).mono ?_; rintro e w2 ⟨rfl, hb⟩
  have B2 := Lib.hid (btr B1.out hb)
  have C2 := Lib.hid (btr C1.out hb)
  clear hb c1_00 c1_01 c1_10 c1_11
  obtain ⟨c2_00, c2_01, c2_10, c2_11⟩ := KK.out w2 C2.out
  go_wp2_with fail
  refine (I2.out _).mono ?_; rintro e w3 ⟨rfl, hb⟩
  have B3 := Lib.hid (btr B2.out hb)
  have C3 := Lib.hid (btr C2.out hb)
  clear hb c2_00 c2_01 c2_10 c2_11
  obtain ⟨c3_00, c3_01, c3_10, c3_11⟩ := KK.out w3 C3.out
  go_wp2_with fail
  refine (R1.out _).mono ?_; rintro e w4 ⟨rfl, hb⟩
  have B4 := Lib.hid (btr B3.out hb)
  have C4 := Lib.hid (btr C3.out hb)
  clear hb c3_00 c3_01 c3_10 c3_11
  obtain ⟨c4_00, c4_01, c4_10, c4_11⟩ := KK.out w4 C4.out
  go_wp2_with fail
  refine (R2.out _).mono ?_; rintro e w5 ⟨rfl, hb⟩
  have B5 := Lib.hid (btr B4.out hb)
  have C5 := Lib.hid (btr C4.out hb)
  clear hb c4_00 c4_01 c4_10 c4_11
  obtain ⟨c5_00, c5_01, c5_10, c5_11⟩ := KK.out w5 C5.out
  go_wp2_with fail
  refine (H1.out _).mono ?_; rintro e w6 ⟨rfl, hb⟩
  have B6 := Lib.hid (btr B5.out hb)
  have C6 := Lib.hid (btr C5.out hb)
  clear hb c5_00 c5_01 c5_10 c5_11
  obtain ⟨c6_00, c6_01, c6_10, c6_11⟩ := KK.out w6 C6.out
  go_wp2_with fail
  refine (H2.out _).mono ?_; rintro e w7 ⟨rfl, hb⟩
  have B7 := Lib.hid (btr B6.out hb)
  have C7 := Lib.hid (btr C6.out hb)
  clear hb c6_00 c6_01 c6_10 c6_11
  obtain ⟨c7_00, c7_01, c7_10, c7_11⟩ := KK.out w7 C7.out
  go_wp2
  go_ret
  exact ⟨ret_bool (by first | rfl | (simp <;> omega)), B7.out⟩

set_option maxRecDepth 100000 in
set_option maxHeartbeats 4000000 in
theorem nest_0111a (A K B L a : Int) (hp : rightB A K = true) (hq : rightB B L = true) (hi1 : inB A K B L = false) (hi2 : inB B L A K = true) (hh1 : hasB A K a = true) (hh2 : hasB B L a = true) (hne : (A == B) = false) (w : World) (hT : Tabs w) : Calls Tryd.prog 7 #[.agg #[.int .i64 A, .int .i64 K], .agg #[.int .i64 B, .int .i64 L], .int .i64 a] w fun x w' => x = .returned (.bool true) ∧ Below w.heap.size w w' := by
  have HS := Lib.hid (fun W h => shown_c W h)
  have HT := Lib.hid hT
  have I1' := fun W => in_c A K B L W
  rw [hi1] at I1'
  have I1 := Lib.hid I1'
  clear I1'
  have I2' := fun W => in_c B L A K W
  rw [hi2] at I2'
  have I2 := Lib.hid I2'
  clear I2'
  have R1' := fun W => right_c A K W
  rw [hp] at R1'
  have R1 := Lib.hid R1'
  clear R1'
  have R2' := fun W => right_c B L W
  rw [hq] at R2'
  have R2 := Lib.hid R2'
  clear R2'
  have H1' := fun W => has_c A K a W
  rw [hh1] at H1'
  have H1 := Lib.hid H1'
  clear H1'
  have H2' := fun W => has_c B L a W
  rw [hh2] at H2'
  have H2 := Lib.hid H2'
  clear H2'
  clear hp hq hi1 hi2 hh1 hh2 hT

  go_enter Tryd.func7, Tryd.ntmps7
  go_wp2_with fail
  have x00 : ((w.alloc (.cells #[.int .i64 A, .int .i64 K] 23)).alloc (.cells #[.int .i64 B, .int .i64 L] 23)).cell? ⟨w.heap.size, 0, none⟩ = some (.int .i64 A) := by go_simp
  have x01 : ((w.alloc (.cells #[.int .i64 A, .int .i64 K] 23)).alloc (.cells #[.int .i64 B, .int .i64 L] 23)).cell? ⟨w.heap.size, 1, none⟩ = some (.int .i64 K) := by go_simp
  have x10 : ((w.alloc (.cells #[.int .i64 A, .int .i64 K] 23)).alloc (.cells #[.int .i64 B, .int .i64 L] 23)).cell? ⟨w.heap.size + 1, 0, none⟩ = some (.int .i64 B) := by go_simp
  have x11 : ((w.alloc (.cells #[.int .i64 A, .int .i64 K] 23)).alloc (.cells #[.int .i64 B, .int .i64 L] 23)).cell? ⟨w.heap.size + 1, 1, none⟩ = some (.int .i64 L) := by go_simp
  have B0 : Below w.heap.size w ((w.alloc (.cells #[.int .i64 A, .int .i64 K] 23)).alloc (.cells #[.int .i64 B, .int .i64 L] 23)) := (bal ((bal (Below.refl _ _) _)) _)
  generalize ((w.alloc (.cells #[.int .i64 A, .int .i64 K] 23)).alloc (.cells #[.int .i64 B, .int .i64 L] 23)) = U at *
  have KK := Lib.hid (show ∀ W, Below U.heap.size U W → W.cell? ⟨w.heap.size, 0, none⟩ = some (.int .i64 A) ∧ W.cell? ⟨w.heap.size, 1, none⟩ = some (.int .i64 K) ∧ W.cell? ⟨w.heap.size + 1, 0, none⟩ = some (.int .i64 B) ∧ W.cell? ⟨w.heap.size + 1, 1, none⟩ = some (.int .i64 L) from fun W h => ⟨(h.cell (p := ⟨w.heap.size, 0, none⟩) (blt x00)).trans x00, (h.cell (p := ⟨w.heap.size, 1, none⟩) (blt x00)).trans x01, (h.cell (p := ⟨w.heap.size + 1, 0, none⟩) (blt x10)).trans x10, (h.cell (p := ⟨w.heap.size + 1, 1, none⟩) (blt x10)).trans x11⟩)
  refine (HS.out _ (HT.out.on B0)).mono ?_; rintro e w1 ⟨rfl, hb⟩
  have B1 := Lib.hid (btr B0 hb)
  have C1 := Lib.hid (btr (Below.refl _ _) hb)
  clear hb x00 x01 x10 x11
  obtain ⟨c1_00, c1_01, c1_10, c1_11⟩ := KK.out w1 C1.out
  go_wp2_with fail
  refine (I1.out _).mono ?_; rintro e w2 ⟨rfl, hb⟩
  have B2 := Lib.hid (btr B1.out hb)
  have C2 := Lib.hid (btr C1.out hb)
  clear hb c1_00 c1_01 c1_10 c1_11
  obtain ⟨c2_00, c2_01, c2_10, c2_11⟩ := KK.out w2 C2.out
  go_wp2_with fail
  refine (I2.out _).mono ?_; rintro e w3 ⟨rfl, hb⟩
  have B3 := Lib.hid (btr B2.out hb)
  have C3 := Lib.hid (btr C2.out hb)
  clear hb c2_00 c2_01 c2_10 c2_11
  obtain ⟨c3_00, c3_01, c3_10, c3_11⟩ := KK.out w3 C3.out
  go_wp2_with fail
  refine (R1.out _).mono ?_; rintro e w4 ⟨rfl, hb⟩
  have B4 := Lib.hid (btr B3.out hb)
  have C4 := Lib.hid (btr C3.out hb)
  clear hb c3_00 c3_01 c3_10 c3_11
  obtain ⟨c4_00, c4_01, c4_10, c4_11⟩ := KK.out w4 C4.out
  go_wp2_with fail
  refine (R2.out _).mono ?_; rintro e w5 ⟨rfl, hb⟩
  have B5 := Lib.hid (btr B4.out hb)
  have C5 := Lib.hid (btr C4.out hb)
  clear hb c4_00 c4_01 c4_10 c4_11
  obtain ⟨c5_00, c5_01, c5_10, c5_11⟩ := KK.out w5 C5.out
  go_wp2_with fail
  refine (H1.out _).mono ?_; rintro e w6 ⟨rfl, hb⟩
  have B6 := Lib.hid (btr B5.out hb)
  have C6 := Lib.hid (btr C5.out hb)
  clear hb c5_00 c5_01 c5_10 c5_11
  obtain ⟨c6_00, c6_01, c6_10, c6_11⟩ := KK.out w6 C6.out
  go_wp2_with fail
  refine (H2.out _).mono ?_; rintro e w7 ⟨rfl, hb⟩
  have B7 := Lib.hid (btr B6.out hb)
  have C7 := Lib.hid (btr C6.out hb)
  clear hb c6_00 c6_01 c6_10 c6_11
  obtain ⟨c7_00, c7_01, c7_10, c7_11⟩ := KK.out w7 C7.out
  go_wp2
  go_ret
  exact ⟨ret_bool (by first | rfl | (simp <;> omega)), B7.out⟩

set_option maxRecDepth 100000 in
set_option maxHeartbeats 4000000 in
theorem nest_0111k (A K B L a : Int) (hp : rightB A K = true) (hq : rightB B L = true) (hi1 : inB A K B L = false) (hi2 : inB B L A K = true) (hh1 : hasB A K a = true) (hh2 : hasB B L a = true) (hne : A = B) (hne' : (K == L) = false) (w : World) (hT : Tabs w) : Calls Tryd.prog 7 #[.agg #[.int .i64 A, .int .i64 K], .agg #[.int .i64 B, .int .i64 L], .int .i64 a] w fun x w' => x = .returned (.bool true) ∧ Below w.heap.size w w' := by
  have HS := Lib.hid (fun W h => shown_c W h)
  have HT := Lib.hid hT
  have I1' := fun W => in_c A K B L W
  rw [hi1] at I1'
  have I1 := Lib.hid I1'
  clear I1'
  have I2' := fun W => in_c B L A K W
  rw [hi2] at I2'
  have I2 := Lib.hid I2'
  clear I2'
  have R1' := fun W => right_c A K W
  rw [hp] at R1'
  have R1 := Lib.hid R1'
  clear R1'
  have R2' := fun W => right_c B L W
  rw [hq] at R2'
  have R2 := Lib.hid R2'
  clear R2'
  have H1' := fun W => has_c A K a W
  rw [hh1] at H1'
  have H1 := Lib.hid H1'
  clear H1'
  have H2' := fun W => has_c B L a W
  rw [hh2] at H2'
  have H2 := Lib.hid H2'
  clear H2'
  clear hp hq hi1 hi2 hh1 hh2 hT
  subst hne

  go_enter Tryd.func7, Tryd.ntmps7
  go_wp2_with fail
  have x00 : ((w.alloc (.cells #[.int .i64 A, .int .i64 K] 23)).alloc (.cells #[.int .i64 A, .int .i64 L] 23)).cell? ⟨w.heap.size, 0, none⟩ = some (.int .i64 A) := by go_simp
  have x01 : ((w.alloc (.cells #[.int .i64 A, .int .i64 K] 23)).alloc (.cells #[.int .i64 A, .int .i64 L] 23)).cell? ⟨w.heap.size, 1, none⟩ = some (.int .i64 K) := by go_simp
  have x10 : ((w.alloc (.cells #[.int .i64 A, .int .i64 K] 23)).alloc (.cells #[.int .i64 A, .int .i64 L] 23)).cell? ⟨w.heap.size + 1, 0, none⟩ = some (.int .i64 A) := by go_simp
  have x11 : ((w.alloc (.cells #[.int .i64 A, .int .i64 K] 23)).alloc (.cells #[.int .i64 A, .int .i64 L] 23)).cell? ⟨w.heap.size + 1, 1, none⟩ = some (.int .i64 L) := by go_simp
  have B0 : Below w.heap.size w ((w.alloc (.cells #[.int .i64 A, .int .i64 K] 23)).alloc (.cells #[.int .i64 A, .int .i64 L] 23)) := (bal ((bal (Below.refl _ _) _)) _)
  generalize ((w.alloc (.cells #[.int .i64 A, .int .i64 K] 23)).alloc (.cells #[.int .i64 A, .int .i64 L] 23)) = U at *
  have KK := Lib.hid (show ∀ W, Below U.heap.size U W → W.cell? ⟨w.heap.size, 0, none⟩ = some (.int .i64 A) ∧ W.cell? ⟨w.heap.size, 1, none⟩ = some (.int .i64 K) ∧ W.cell? ⟨w.heap.size + 1, 0, none⟩ = some (.int .i64 A) ∧ W.cell? ⟨w.heap.size + 1, 1, none⟩ = some (.int .i64 L) from fun W h => ⟨(h.cell (p := ⟨w.heap.size, 0, none⟩) (blt x00)).trans x00, (h.cell (p := ⟨w.heap.size, 1, none⟩) (blt x00)).trans x01, (h.cell (p := ⟨w.heap.size + 1, 0, none⟩) (blt x10)).trans x10, (h.cell (p := ⟨w.heap.size + 1, 1, none⟩) (blt x10)).trans x11⟩)
  refine (HS.out _ (HT.out.on B0)).mono ?_; rintro e w1 ⟨rfl, hb⟩
  have B1 := Lib.hid (btr B0 hb)
  have C1 := Lib.hid (btr (Below.refl _ _) hb)
  clear hb x00 x01 x10 x11
  obtain ⟨c1_00, c1_01, c1_10, c1_11⟩ := KK.out w1 C1.out
  go_wp2_with fail
  refine (I1.out _).mono ?_; rintro e w2 ⟨rfl, hb⟩
  have B2 := Lib.hid (btr B1.out hb)
  have C2 := Lib.hid (btr C1.out hb)
  clear hb c1_00 c1_01 c1_10 c1_11
  obtain ⟨c2_00, c2_01, c2_10, c2_11⟩ := KK.out w2 C2.out
  go_wp2_with fail
  refine (I2.out _).mono ?_; rintro e w3 ⟨rfl, hb⟩
  have B3 := Lib.hid (btr B2.out hb)
  have C3 := Lib.hid (btr C2.out hb)
  clear hb c2_00 c2_01 c2_10 c2_11
  obtain ⟨c3_00, c3_01, c3_10, c3_11⟩ := KK.out w3 C3.out
  go_wp2_with fail
  refine (R1.out _).mono ?_; rintro e w4 ⟨rfl, hb⟩
  have B4 := Lib.hid (btr B3.out hb)
  have C4 := Lib.hid (btr C3.out hb)
  clear hb c3_00 c3_01 c3_10 c3_11
  obtain ⟨c4_00, c4_01, c4_10, c4_11⟩ := KK.out w4 C4.out
  go_wp2_with fail
  refine (R2.out _).mono ?_; rintro e w5 ⟨rfl, hb⟩
  have B5 := Lib.hid (btr B4.out hb)
  have C5 := Lib.hid (btr C4.out hb)
  clear hb c4_00 c4_01 c4_10 c4_11
  obtain ⟨c5_00, c5_01, c5_10, c5_11⟩ := KK.out w5 C5.out
  go_wp2_with fail
  refine (H1.out _).mono ?_; rintro e w6 ⟨rfl, hb⟩
  have B6 := Lib.hid (btr B5.out hb)
  have C6 := Lib.hid (btr C5.out hb)
  clear hb c5_00 c5_01 c5_10 c5_11
  obtain ⟨c6_00, c6_01, c6_10, c6_11⟩ := KK.out w6 C6.out
  go_wp2_with fail
  refine (H2.out _).mono ?_; rintro e w7 ⟨rfl, hb⟩
  have B7 := Lib.hid (btr B6.out hb)
  have C7 := Lib.hid (btr C6.out hb)
  clear hb c6_00 c6_01 c6_10 c6_11
  obtain ⟨c7_00, c7_01, c7_10, c7_11⟩ := KK.out w7 C7.out
  go_wp2
  go_ret
  exact ⟨ret_bool (by first | rfl | (simp <;> omega)), B7.out⟩

set_option maxRecDepth 100000 in
set_option maxHeartbeats 4000000 in
theorem nest_1000a (A K B L a : Int) (hp : rightB A K = true) (hq : rightB B L = true) (hi1 : inB A K B L = true) (hi2 : inB B L A K = false) (hh1 : hasB A K a = false) (hh2 : hasB B L a = false) (hne : (A == B) = false) (w : World) (hT : Tabs w) : Calls Tryd.prog 7 #[.agg #[.int .i64 A, .int .i64 K], .agg #[.int .i64 B, .int .i64 L], .int .i64 a] w fun x w' => x = .returned (.bool true) ∧ Below w.heap.size w w' := by
  have HS := Lib.hid (fun W h => shown_c W h)
  have HT := Lib.hid hT
  have I1' := fun W => in_c A K B L W
  rw [hi1] at I1'
  have I1 := Lib.hid I1'
  clear I1'
  have I2' := fun W => in_c B L A K W
  rw [hi2] at I2'
  have I2 := Lib.hid I2'
  clear I2'
  have R1' := fun W => right_c A K W
  rw [hp] at R1'
  have R1 := Lib.hid R1'
  clear R1'
  have R2' := fun W => right_c B L W
  rw [hq] at R2'
  have R2 := Lib.hid R2'
  clear R2'
  have H1' := fun W => has_c A K a W
  rw [hh1] at H1'
  have H1 := Lib.hid H1'
  clear H1'
  have H2' := fun W => has_c B L a W
  rw [hh2] at H2'
  have H2 := Lib.hid H2'
  clear H2'
  clear hp hq hi1 hi2 hh1 hh2 hT

  go_enter Tryd.func7, Tryd.ntmps7
  go_wp2_with fail
  have x00 : ((w.alloc (.cells #[.int .i64 A, .int .i64 K] 23)).alloc (.cells #[.int .i64 B, .int .i64 L] 23)).cell? ⟨w.heap.size, 0, none⟩ = some (.int .i64 A) := by go_simp
  have x01 : ((w.alloc (.cells #[.int .i64 A, .int .i64 K] 23)).alloc (.cells #[.int .i64 B, .int .i64 L] 23)).cell? ⟨w.heap.size, 1, none⟩ = some (.int .i64 K) := by go_simp
  have x10 : ((w.alloc (.cells #[.int .i64 A, .int .i64 K] 23)).alloc (.cells #[.int .i64 B, .int .i64 L] 23)).cell? ⟨w.heap.size + 1, 0, none⟩ = some (.int .i64 B) := by go_simp
  have x11 : ((w.alloc (.cells #[.int .i64 A, .int .i64 K] 23)).alloc (.cells #[.int .i64 B, .int .i64 L] 23)).cell? ⟨w.heap.size + 1, 1, none⟩ = some (.int .i64 L) := by go_simp
  have B0 : Below w.heap.size w ((w.alloc (.cells #[.int .i64 A, .int .i64 K] 23)).alloc (.cells #[.int .i64 B, .int .i64 L] 23)) := (bal ((bal (Below.refl _ _) _)) _)
  generalize ((w.alloc (.cells #[.int .i64 A, .int .i64 K] 23)).alloc (.cells #[.int .i64 B, .int .i64 L] 23)) = U at *
  have KK := Lib.hid (show ∀ W, Below U.heap.size U W → W.cell? ⟨w.heap.size, 0, none⟩ = some (.int .i64 A) ∧ W.cell? ⟨w.heap.size, 1, none⟩ = some (.int .i64 K) ∧ W.cell? ⟨w.heap.size + 1, 0, none⟩ = some (.int .i64 B) ∧ W.cell? ⟨w.heap.size + 1, 1, none⟩ = some (.int .i64 L) from fun W h => ⟨(h.cell (p := ⟨w.heap.size, 0, none⟩) (blt x00)).trans x00, (h.cell (p := ⟨w.heap.size, 1, none⟩) (blt x00)).trans x01, (h.cell (p := ⟨w.heap.size + 1, 0, none⟩) (blt x10)).trans x10, (h.cell (p := ⟨w.heap.size + 1, 1, none⟩) (blt x10)).trans x11⟩)
  refine (HS.out _ (HT.out.on B0)).mono ?_; rintro e w1 ⟨rfl, hb⟩
  have B1 := Lib.hid (btr B0 hb)
  have C1 := Lib.hid (btr (Below.refl _ _) hb)
  clear hb x00 x01 x10 x11
  obtain ⟨c1_00, c1_01, c1_10, c1_11⟩ := KK.out w1 C1.out
  go_wp2_with fail
  refine (I1.out _).mono ?_; rintro e w2 ⟨rfl, hb⟩
  have B2 := Lib.hid (btr B1.out hb)
  have C2 := Lib.hid (btr C1.out hb)
  clear hb c1_00 c1_01 c1_10 c1_11
  obtain ⟨c2_00, c2_01, c2_10, c2_11⟩ := KK.out w2 C2.out
  go_wp2_with fail
  refine (I2.out _).mono ?_; rintro e w3 ⟨rfl, hb⟩
  have B3 := Lib.hid (btr B2.out hb)
  have C3 := Lib.hid (btr C2.out hb)
  clear hb c2_00 c2_01 c2_10 c2_11
  obtain ⟨c3_00, c3_01, c3_10, c3_11⟩ := KK.out w3 C3.out
  go_wp2_with fail
  refine (R1.out _).mono ?_; rintro e w4 ⟨rfl, hb⟩
  have B4 := Lib.hid (btr B3.out hb)
  have C4 := Lib.hid (btr C3.out hb)
  clear hb c3_00 c3_01 c3_10 c3_11
  obtain ⟨c4_00, c4_01, c4_10, c4_11⟩ := KK.out w4 C4.out
  go_wp2_with fail
  refine (R2.out _).mono ?_; rintro e w5 ⟨rfl, hb⟩
  have B5 := Lib.hid (btr B4.out hb)
  have C5 := Lib.hid (btr C4.out hb)
  clear hb c4_00 c4_01 c4_10 c4_11
  obtain ⟨c5_00, c5_01, c5_10, c5_11⟩ := KK.out w5 C5.out
  go_wp2_with fail
  refine (H1.out _).mono ?_; rintro e w6 ⟨rfl, hb⟩
  have B6 := Lib.hid (btr B5.out hb)
  have C6 := Lib.hid (btr C5.out hb)
  clear hb c5_00 c5_01 c5_10 c5_11
  obtain ⟨c6_00, c6_01, c6_10, c6_11⟩ := KK.out w6 C6.out
  go_wp2_with fail
  refine (H1.out _).mono ?_; rintro e w7 ⟨rfl, hb⟩
  have B7 := Lib.hid (btr B6.out hb)
  have C7 := Lib.hid (btr C6.out hb)
  clear hb c6_00 c6_01 c6_10 c6_11
  obtain ⟨c7_00, c7_01, c7_10, c7_11⟩ := KK.out w7 C7.out
  go_wp2
  go_ret
  exact ⟨ret_bool (by first | rfl | (simp <;> omega)), B7.out⟩

set_option maxRecDepth 100000 in
set_option maxHeartbeats 4000000 in
theorem nest_1000k (A K B L a : Int) (hp : rightB A K = true) (hq : rightB B L = true) (hi1 : inB A K B L = true) (hi2 : inB B L A K = false) (hh1 : hasB A K a = false) (hh2 : hasB B L a = false) (hne : A = B) (hne' : (K == L) = false) (w : World) (hT : Tabs w) : Calls Tryd.prog 7 #[.agg #[.int .i64 A, .int .i64 K], .agg #[.int .i64 B, .int .i64 L], .int .i64 a] w fun x w' => x = .returned (.bool true) ∧ Below w.heap.size w w' := by
  have HS := Lib.hid (fun W h => shown_c W h)
  have HT := Lib.hid hT
  have I1' := fun W => in_c A K B L W
  rw [hi1] at I1'
  have I1 := Lib.hid I1'
  clear I1'
  have I2' := fun W => in_c B L A K W
  rw [hi2] at I2'
  have I2 := Lib.hid I2'
  clear I2'
  have R1' := fun W => right_c A K W
  rw [hp] at R1'
  have R1 := Lib.hid R1'
  clear R1'
  have R2' := fun W => right_c B L W
  rw [hq] at R2'
  have R2 := Lib.hid R2'
  clear R2'
  have H1' := fun W => has_c A K a W
  rw [hh1] at H1'
  have H1 := Lib.hid H1'
  clear H1'
  have H2' := fun W => has_c B L a W
  rw [hh2] at H2'
  have H2 := Lib.hid H2'
  clear H2'
  clear hp hq hi1 hi2 hh1 hh2 hT
  subst hne

  go_enter Tryd.func7, Tryd.ntmps7
  go_wp2_with fail
  have x00 : ((w.alloc (.cells #[.int .i64 A, .int .i64 K] 23)).alloc (.cells #[.int .i64 A, .int .i64 L] 23)).cell? ⟨w.heap.size, 0, none⟩ = some (.int .i64 A) := by go_simp
  have x01 : ((w.alloc (.cells #[.int .i64 A, .int .i64 K] 23)).alloc (.cells #[.int .i64 A, .int .i64 L] 23)).cell? ⟨w.heap.size, 1, none⟩ = some (.int .i64 K) := by go_simp
  have x10 : ((w.alloc (.cells #[.int .i64 A, .int .i64 K] 23)).alloc (.cells #[.int .i64 A, .int .i64 L] 23)).cell? ⟨w.heap.size + 1, 0, none⟩ = some (.int .i64 A) := by go_simp
  have x11 : ((w.alloc (.cells #[.int .i64 A, .int .i64 K] 23)).alloc (.cells #[.int .i64 A, .int .i64 L] 23)).cell? ⟨w.heap.size + 1, 1, none⟩ = some (.int .i64 L) := by go_simp
  have B0 : Below w.heap.size w ((w.alloc (.cells #[.int .i64 A, .int .i64 K] 23)).alloc (.cells #[.int .i64 A, .int .i64 L] 23)) := (bal ((bal (Below.refl _ _) _)) _)
  generalize ((w.alloc (.cells #[.int .i64 A, .int .i64 K] 23)).alloc (.cells #[.int .i64 A, .int .i64 L] 23)) = U at *
  have KK := Lib.hid (show ∀ W, Below U.heap.size U W → W.cell? ⟨w.heap.size, 0, none⟩ = some (.int .i64 A) ∧ W.cell? ⟨w.heap.size, 1, none⟩ = some (.int .i64 K) ∧ W.cell? ⟨w.heap.size + 1, 0, none⟩ = some (.int .i64 A) ∧ W.cell? ⟨w.heap.size + 1, 1, none⟩ = some (.int .i64 L) from fun W h => ⟨(h.cell (p := ⟨w.heap.size, 0, none⟩) (blt x00)).trans x00, (h.cell (p := ⟨w.heap.size, 1, none⟩) (blt x00)).trans x01, (h.cell (p := ⟨w.heap.size + 1, 0, none⟩) (blt x10)).trans x10, (h.cell (p := ⟨w.heap.size + 1, 1, none⟩) (blt x10)).trans x11⟩)
  refine (HS.out _ (HT.out.on B0)).mono ?_; rintro e w1 ⟨rfl, hb⟩
  have B1 := Lib.hid (btr B0 hb)
  have C1 := Lib.hid (btr (Below.refl _ _) hb)
  clear hb x00 x01 x10 x11
  obtain ⟨c1_00, c1_01, c1_10, c1_11⟩ := KK.out w1 C1.out
  go_wp2_with fail
  refine (I1.out _).mono ?_; rintro e w2 ⟨rfl, hb⟩
  have B2 := Lib.hid (btr B1.out hb)
  have C2 := Lib.hid (btr C1.out hb)
  clear hb c1_00 c1_01 c1_10 c1_11
  obtain ⟨c2_00, c2_01, c2_10, c2_11⟩ := KK.out w2 C2.out
  go_wp2_with fail
  refine (I2.out _).mono ?_; rintro e w3 ⟨rfl, hb⟩
  have B3 := Lib.hid (btr B2.out hb)
  have C3 := Lib.hid (btr C2.out hb)
  clear hb c2_00 c2_01 c2_10 c2_11
  obtain ⟨c3_00, c3_01, c3_10, c3_11⟩ := KK.out w3 C3.out
  go_wp2_with fail
  refine (R1.out _).mono ?_; rintro e w4 ⟨rfl, hb⟩
  have B4 := Lib.hid (btr B3.out hb)
  have C4 := Lib.hid (btr C3.out hb)
  clear hb c3_00 c3_01 c3_10 c3_11
  obtain ⟨c4_00, c4_01, c4_10, c4_11⟩ := KK.out w4 C4.out
  go_wp2_with fail
  refine (R2.out _).mono ?_; rintro e w5 ⟨rfl, hb⟩
  have B5 := Lib.hid (btr B4.out hb)
  have C5 := Lib.hid (btr C4.out hb)
  clear hb c4_00 c4_01 c4_10 c4_11
  obtain ⟨c5_00, c5_01, c5_10, c5_11⟩ := KK.out w5 C5.out
  go_wp2_with fail
  refine (H1.out _).mono ?_; rintro e w6 ⟨rfl, hb⟩
  have B6 := Lib.hid (btr B5.out hb)
  have C6 := Lib.hid (btr C5.out hb)
  clear hb c5_00 c5_01 c5_10 c5_11
  obtain ⟨c6_00, c6_01, c6_10, c6_11⟩ := KK.out w6 C6.out
  go_wp2_with fail
  refine (H1.out _).mono ?_; rintro e w7 ⟨rfl, hb⟩
  have B7 := Lib.hid (btr B6.out hb)
  have C7 := Lib.hid (btr C6.out hb)
  clear hb c6_00 c6_01 c6_10 c6_11
  obtain ⟨c7_00, c7_01, c7_10, c7_11⟩ := KK.out w7 C7.out
  go_wp2
  go_ret
  exact ⟨ret_bool (by first | rfl | (simp <;> omega)), B7.out⟩

set_option maxRecDepth 100000 in
set_option maxHeartbeats 4000000 in
theorem nest_1001a (A K B L a : Int) (hp : rightB A K = true) (hq : rightB B L = true) (hi1 : inB A K B L = true) (hi2 : inB B L A K = false) (hh1 : hasB A K a = false) (hh2 : hasB B L a = true) (hne : (A == B) = false) (w : World) (hT : Tabs w) : Calls Tryd.prog 7 #[.agg #[.int .i64 A, .int .i64 K], .agg #[.int .i64 B, .int .i64 L], .int .i64 a] w fun x w' => x = .returned (.bool true) ∧ Below w.heap.size w w' := by
  have HS := Lib.hid (fun W h => shown_c W h)
  have HT := Lib.hid hT
  have I1' := fun W => in_c A K B L W
  rw [hi1] at I1'
  have I1 := Lib.hid I1'
  clear I1'
  have I2' := fun W => in_c B L A K W
  rw [hi2] at I2'
  have I2 := Lib.hid I2'
  clear I2'
  have R1' := fun W => right_c A K W
  rw [hp] at R1'
  have R1 := Lib.hid R1'
  clear R1'
  have R2' := fun W => right_c B L W
  rw [hq] at R2'
  have R2 := Lib.hid R2'
  clear R2'
  have H1' := fun W => has_c A K a W
  rw [hh1] at H1'
  have H1 := Lib.hid H1'
  clear H1'
  have H2' := fun W => has_c B L a W
  rw [hh2] at H2'
  have H2 := Lib.hid H2'
  clear H2'
  clear hp hq hi1 hi2 hh1 hh2 hT

  go_enter Tryd.func7, Tryd.ntmps7
  go_wp2_with fail
  have x00 : ((w.alloc (.cells #[.int .i64 A, .int .i64 K] 23)).alloc (.cells #[.int .i64 B, .int .i64 L] 23)).cell? ⟨w.heap.size, 0, none⟩ = some (.int .i64 A) := by go_simp
  have x01 : ((w.alloc (.cells #[.int .i64 A, .int .i64 K] 23)).alloc (.cells #[.int .i64 B, .int .i64 L] 23)).cell? ⟨w.heap.size, 1, none⟩ = some (.int .i64 K) := by go_simp
  have x10 : ((w.alloc (.cells #[.int .i64 A, .int .i64 K] 23)).alloc (.cells #[.int .i64 B, .int .i64 L] 23)).cell? ⟨w.heap.size + 1, 0, none⟩ = some (.int .i64 B) := by go_simp
  have x11 : ((w.alloc (.cells #[.int .i64 A, .int .i64 K] 23)).alloc (.cells #[.int .i64 B, .int .i64 L] 23)).cell? ⟨w.heap.size + 1, 1, none⟩ = some (.int .i64 L) := by go_simp
  have B0 : Below w.heap.size w ((w.alloc (.cells #[.int .i64 A, .int .i64 K] 23)).alloc (.cells #[.int .i64 B, .int .i64 L] 23)) := (bal ((bal (Below.refl _ _) _)) _)
  generalize ((w.alloc (.cells #[.int .i64 A, .int .i64 K] 23)).alloc (.cells #[.int .i64 B, .int .i64 L] 23)) = U at *
  have KK := Lib.hid (show ∀ W, Below U.heap.size U W → W.cell? ⟨w.heap.size, 0, none⟩ = some (.int .i64 A) ∧ W.cell? ⟨w.heap.size, 1, none⟩ = some (.int .i64 K) ∧ W.cell? ⟨w.heap.size + 1, 0, none⟩ = some (.int .i64 B) ∧ W.cell? ⟨w.heap.size + 1, 1, none⟩ = some (.int .i64 L) from fun W h => ⟨(h.cell (p := ⟨w.heap.size, 0, none⟩) (blt x00)).trans x00, (h.cell (p := ⟨w.heap.size, 1, none⟩) (blt x00)).trans x01, (h.cell (p := ⟨w.heap.size + 1, 0, none⟩) (blt x10)).trans x10, (h.cell (p := ⟨w.heap.size + 1, 1, none⟩) (blt x10)).trans x11⟩)
  refine (HS.out _ (HT.out.on B0)).mono ?_; rintro e w1 ⟨rfl, hb⟩
  have B1 := Lib.hid (btr B0 hb)
  have C1 := Lib.hid (btr (Below.refl _ _) hb)
  clear hb x00 x01 x10 x11
  obtain ⟨c1_00, c1_01, c1_10, c1_11⟩ := KK.out w1 C1.out
  go_wp2_with fail
  refine (I1.out _).mono ?_; rintro e w2 ⟨rfl, hb⟩
  have B2 := Lib.hid (btr B1.out hb)
  have C2 := Lib.hid (btr C1.out hb)
  clear hb c1_00 c1_01 c1_10 c1_11
  obtain ⟨c2_00, c2_01, c2_10, c2_11⟩ := KK.out w2 C2.out
  go_wp2_with fail
  refine (I2.out _).mono ?_; rintro e w3 ⟨rfl, hb⟩
  have B3 := Lib.hid (btr B2.out hb)
  have C3 := Lib.hid (btr C2.out hb)
  clear hb c2_00 c2_01 c2_10 c2_11
  obtain ⟨c3_00, c3_01, c3_10, c3_11⟩ := KK.out w3 C3.out
  go_wp2_with fail
  refine (R1.out _).mono ?_; rintro e w4 ⟨rfl, hb⟩
  have B4 := Lib.hid (btr B3.out hb)
  have C4 := Lib.hid (btr C3.out hb)
  clear hb c3_00 c3_01 c3_10 c3_11
  obtain ⟨c4_00, c4_01, c4_10, c4_11⟩ := KK.out w4 C4.out
  go_wp2_with fail
  refine (R2.out _).mono ?_; rintro e w5 ⟨rfl, hb⟩
  have B5 := Lib.hid (btr B4.out hb)
  have C5 := Lib.hid (btr C4.out hb)
  clear hb c4_00 c4_01 c4_10 c4_11
  obtain ⟨c5_00, c5_01, c5_10, c5_11⟩ := KK.out w5 C5.out
  go_wp2_with fail
  refine (H1.out _).mono ?_; rintro e w6 ⟨rfl, hb⟩
  have B6 := Lib.hid (btr B5.out hb)
  have C6 := Lib.hid (btr C5.out hb)
  clear hb c5_00 c5_01 c5_10 c5_11
  obtain ⟨c6_00, c6_01, c6_10, c6_11⟩ := KK.out w6 C6.out
  go_wp2_with fail
  refine (H1.out _).mono ?_; rintro e w7 ⟨rfl, hb⟩
  have B7 := Lib.hid (btr B6.out hb)
  have C7 := Lib.hid (btr C6.out hb)
  clear hb c6_00 c6_01 c6_10 c6_11
  obtain ⟨c7_00, c7_01, c7_10, c7_11⟩ := KK.out w7 C7.out
  go_wp2
  go_ret
  exact ⟨ret_bool (by first | rfl | (simp <;> omega)), B7.out⟩

set_option maxRecDepth 100000 in
set_option maxHeartbeats 4000000 in
theorem nest_1001k (A K B L a : Int) (hp : rightB A K = true) (hq : rightB B L = true) (hi1 : inB A K B L = true) (hi2 : inB B L A K = false) (hh1 : hasB A K a = false) (hh2 : hasB B L a = true) (hne : A = B) (hne' : (K == L) = false) (w : World) (hT : Tabs w) : Calls Tryd.prog 7 #[.agg #[.int .i64 A, .int .i64 K], .agg #[.int .i64 B, .int .i64 L], .int .i64 a] w fun x w' => x = .returned (.bool true) ∧ Below w.heap.size w w' := by
  have HS := Lib.hid (fun W h => shown_c W h)
  have HT := Lib.hid hT
  have I1' := fun W => in_c A K B L W
  rw [hi1] at I1'
  have I1 := Lib.hid I1'
  clear I1'
  have I2' := fun W => in_c B L A K W
  rw [hi2] at I2'
  have I2 := Lib.hid I2'
  clear I2'
  have R1' := fun W => right_c A K W
  rw [hp] at R1'
  have R1 := Lib.hid R1'
  clear R1'
  have R2' := fun W => right_c B L W
  rw [hq] at R2'
  have R2 := Lib.hid R2'
  clear R2'
  have H1' := fun W => has_c A K a W
  rw [hh1] at H1'
  have H1 := Lib.hid H1'
  clear H1'
  have H2' := fun W => has_c B L a W
  rw [hh2] at H2'
  have H2 := Lib.hid H2'
  clear H2'
  clear hp hq hi1 hi2 hh1 hh2 hT
  subst hne

  go_enter Tryd.func7, Tryd.ntmps7
  go_wp2_with fail
  have x00 : ((w.alloc (.cells #[.int .i64 A, .int .i64 K] 23)).alloc (.cells #[.int .i64 A, .int .i64 L] 23)).cell? ⟨w.heap.size, 0, none⟩ = some (.int .i64 A) := by go_simp
  have x01 : ((w.alloc (.cells #[.int .i64 A, .int .i64 K] 23)).alloc (.cells #[.int .i64 A, .int .i64 L] 23)).cell? ⟨w.heap.size, 1, none⟩ = some (.int .i64 K) := by go_simp
  have x10 : ((w.alloc (.cells #[.int .i64 A, .int .i64 K] 23)).alloc (.cells #[.int .i64 A, .int .i64 L] 23)).cell? ⟨w.heap.size + 1, 0, none⟩ = some (.int .i64 A) := by go_simp
  have x11 : ((w.alloc (.cells #[.int .i64 A, .int .i64 K] 23)).alloc (.cells #[.int .i64 A, .int .i64 L] 23)).cell? ⟨w.heap.size + 1, 1, none⟩ = some (.int .i64 L) := by go_simp
  have B0 : Below w.heap.size w ((w.alloc (.cells #[.int .i64 A, .int .i64 K] 23)).alloc (.cells #[.int .i64 A, .int .i64 L] 23)) := (bal ((bal (Below.refl _ _) _)) _)
  generalize ((w.alloc (.cells #[.int .i64 A, .int .i64 K] 23)).alloc (.cells #[.int .i64 A, .int .i64 L] 23)) = U at *
  have KK := Lib.hid (show ∀ W, Below U.heap.size U W → W.cell? ⟨w.heap.size, 0, none⟩ = some (.int .i64 A) ∧ W.cell? ⟨w.heap.size, 1, none⟩ = some (.int .i64 K) ∧ W.cell? ⟨w.heap.size + 1, 0, none⟩ = some (.int .i64 A) ∧ W.cell? ⟨w.heap.size + 1, 1, none⟩ = some (.int .i64 L) from fun W h => ⟨(h.cell (p := ⟨w.heap.size, 0, none⟩) (blt x00)).trans x00, (h.cell (p := ⟨w.heap.size, 1, none⟩) (blt x00)).trans x01, (h.cell (p := ⟨w.heap.size + 1, 0, none⟩) (blt x10)).trans x10, (h.cell (p := ⟨w.heap.size + 1, 1, none⟩) (blt x10)).trans x11⟩)
  refine (HS.out _ (HT.out.on B0)).mono ?_; rintro e w1 ⟨rfl, hb⟩
  have B1 := Lib.hid (btr B0 hb)
  have C1 := Lib.hid (btr (Below.refl _ _) hb)
  clear hb x00 x01 x10 x11
  obtain ⟨c1_00, c1_01, c1_10, c1_11⟩ := KK.out w1 C1.out
  go_wp2_with fail
  refine (I1.out _).mono ?_; rintro e w2 ⟨rfl, hb⟩
  have B2 := Lib.hid (btr B1.out hb)
  have C2 := Lib.hid (btr C1.out hb)
  clear hb c1_00 c1_01 c1_10 c1_11
  obtain ⟨c2_00, c2_01, c2_10, c2_11⟩ := KK.out w2 C2.out
  go_wp2_with fail
  refine (I2.out _).mono ?_; rintro e w3 ⟨rfl, hb⟩
  have B3 := Lib.hid (btr B2.out hb)
  have C3 := Lib.hid (btr C2.out hb)
  clear hb c2_00 c2_01 c2_10 c2_11
  obtain ⟨c3_00, c3_01, c3_10, c3_11⟩ := KK.out w3 C3.out
  go_wp2_with fail
  refine (R1.out _).mono ?_; rintro e w4 ⟨rfl, hb⟩
  have B4 := Lib.hid (btr B3.out hb)
  have C4 := Lib.hid (btr C3.out hb)
  clear hb c3_00 c3_01 c3_10 c3_11
  obtain ⟨c4_00, c4_01, c4_10, c4_11⟩ := KK.out w4 C4.out
  go_wp2_with fail
  refine (R2.out _).mono ?_; rintro e w5 ⟨rfl, hb⟩
  have B5 := Lib.hid (btr B4.out hb)
  have C5 := Lib.hid (btr C4.out hb)
  clear hb c4_00 c4_01 c4_10 c4_11
  obtain ⟨c5_00, c5_01, c5_10, c5_11⟩ := KK.out w5 C5.out
  go_wp2_with fail
  refine (H1.out _).mono ?_; rintro e w6 ⟨rfl, hb⟩
  have B6 := Lib.hid (btr B5.out hb)
  have C6 := Lib.hid (btr C5.out hb)
  clear hb c5_00 c5_01 c5_10 c5_11
  obtain ⟨c6_00, c6_01, c6_10, c6_11⟩ := KK.out w6 C6.out
  go_wp2_with fail
  refine (H1.out _).mono ?_; rintro e w7 ⟨rfl, hb⟩
  have B7 := Lib.hid (btr B6.out hb)
  have C7 := Lib.hid (btr C6.out hb)
  clear hb c6_00 c6_01 c6_10 c6_11
  obtain ⟨c7_00, c7_01, c7_10, c7_11⟩ := KK.out w7 C7.out
  go_wp2
  go_ret
  exact ⟨ret_bool (by first | rfl | (simp <;> omega)), B7.out⟩

set_option maxRecDepth 100000 in
set_option maxHeartbeats 4000000 in
theorem nest_1011a (A K B L a : Int) (hp : rightB A K = true) (hq : rightB B L = true) (hi1 : inB A K B L = true) (hi2 : inB B L A K = false) (hh1 : hasB A K a = true) (hh2 : hasB B L a = true) (hne : (A == B) = false) (w : World) (hT : Tabs w) : Calls Tryd.prog 7 #[.agg #[.int .i64 A, .int .i64 K], .agg #[.int .i64 B, .int .i64 L], .int .i64 a] w fun x w' => x = .returned (.bool true) ∧ Below w.heap.size w w' := by
  have HS := Lib.hid (fun W h => shown_c W h)
  have HT := Lib.hid hT
  have I1' := fun W => in_c A K B L W
  rw [hi1] at I1'
  have I1 := Lib.hid I1'
  clear I1'
  have I2' := fun W => in_c B L A K W
  rw [hi2] at I2'
  have I2 := Lib.hid I2'
  clear I2'
  have R1' := fun W => right_c A K W
  rw [hp] at R1'
  have R1 := Lib.hid R1'
  clear R1'
  have R2' := fun W => right_c B L W
  rw [hq] at R2'
  have R2 := Lib.hid R2'
  clear R2'
  have H1' := fun W => has_c A K a W
  rw [hh1] at H1'
  have H1 := Lib.hid H1'
  clear H1'
  have H2' := fun W => has_c B L a W
  rw [hh2] at H2'
  have H2 := Lib.hid H2'
  clear H2'
  clear hp hq hi1 hi2 hh1 hh2 hT

  go_enter Tryd.func7, Tryd.ntmps7
  go_wp2_with fail
  have x00 : ((w.alloc (.cells #[.int .i64 A, .int .i64 K] 23)).alloc (.cells #[.int .i64 B, .int .i64 L] 23)).cell? ⟨w.heap.size, 0, none⟩ = some (.int .i64 A) := by go_simp
  have x01 : ((w.alloc (.cells #[.int .i64 A, .int .i64 K] 23)).alloc (.cells #[.int .i64 B, .int .i64 L] 23)).cell? ⟨w.heap.size, 1, none⟩ = some (.int .i64 K) := by go_simp
  have x10 : ((w.alloc (.cells #[.int .i64 A, .int .i64 K] 23)).alloc (.cells #[.int .i64 B, .int .i64 L] 23)).cell? ⟨w.heap.size + 1, 0, none⟩ = some (.int .i64 B) := by go_simp
  have x11 : ((w.alloc (.cells #[.int .i64 A, .int .i64 K] 23)).alloc (.cells #[.int .i64 B, .int .i64 L] 23)).cell? ⟨w.heap.size + 1, 1, none⟩ = some (.int .i64 L) := by go_simp
  have B0 : Below w.heap.size w ((w.alloc (.cells #[.int .i64 A, .int .i64 K] 23)).alloc (.cells #[.int .i64 B, .int .i64 L] 23)) := (bal ((bal (Below.refl _ _) _)) _)
  generalize ((w.alloc (.cells #[.int .i64 A, .int .i64 K] 23)).alloc (.cells #[.int .i64 B, .int .i64 L] 23)) = U at *
  have KK := Lib.hid (show ∀ W, Below U.heap.size U W → W.cell? ⟨w.heap.size, 0, none⟩ = some (.int .i64 A) ∧ W.cell? ⟨w.heap.size, 1, none⟩ = some (.int .i64 K) ∧ W.cell? ⟨w.heap.size + 1, 0, none⟩ = some (.int .i64 B) ∧ W.cell? ⟨w.heap.size + 1, 1, none⟩ = some (.int .i64 L) from fun W h => ⟨(h.cell (p := ⟨w.heap.size, 0, none⟩) (blt x00)).trans x00, (h.cell (p := ⟨w.heap.size, 1, none⟩) (blt x00)).trans x01, (h.cell (p := ⟨w.heap.size + 1, 0, none⟩) (blt x10)).trans x10, (h.cell (p := ⟨w.heap.size + 1, 1, none⟩) (blt x10)).trans x11⟩)
  refine (HS.out _ (HT.out.on B0)).mono ?_; rintro e w1 ⟨rfl, hb⟩
  have B1 := Lib.hid (btr B0 hb)
  have C1 := Lib.hid (btr (Below.refl _ _) hb)
  clear hb x00 x01 x10 x11
  obtain ⟨c1_00, c1_01, c1_10, c1_11⟩ := KK.out w1 C1.out
  go_wp2_with fail
  refine (I1.out _).mono ?_; rintro e w2 ⟨rfl, hb⟩
  have B2 := Lib.hid (btr B1.out hb)
  have C2 := Lib.hid (btr C1.out hb)
  clear hb c1_00 c1_01 c1_10 c1_11
  obtain ⟨c2_00, c2_01, c2_10, c2_11⟩ := KK.out w2 C2.out
  go_wp2_with fail
  refine (I2.out _).mono ?_; rintro e w3 ⟨rfl, hb⟩
  have B3 := Lib.hid (btr B2.out hb)
  have C3 := Lib.hid (btr C2.out hb)
  clear hb c2_00 c2_01 c2_10 c2_11
  obtain ⟨c3_00, c3_01, c3_10, c3_11⟩ := KK.out w3 C3.out
  go_wp2_with fail
  refine (R1.out _).mono ?_; rintro e w4 ⟨rfl, hb⟩
  have B4 := Lib.hid (btr B3.out hb)
  have C4 := Lib.hid (btr C3.out hb)
  clear hb c3_00 c3_01 c3_10 c3_11
  obtain ⟨c4_00, c4_01, c4_10, c4_11⟩ := KK.out w4 C4.out
  go_wp2_with fail
  refine (R2.out _).mono ?_; rintro e w5 ⟨rfl, hb⟩
  have B5 := Lib.hid (btr B4.out hb)
  have C5 := Lib.hid (btr C4.out hb)
  clear hb c4_00 c4_01 c4_10 c4_11
  obtain ⟨c5_00, c5_01, c5_10, c5_11⟩ := KK.out w5 C5.out
  go_wp2_with fail
  refine (H1.out _).mono ?_; rintro e w6 ⟨rfl, hb⟩
  have B6 := Lib.hid (btr B5.out hb)
  have C6 := Lib.hid (btr C5.out hb)
  clear hb c5_00 c5_01 c5_10 c5_11
  obtain ⟨c6_00, c6_01, c6_10, c6_11⟩ := KK.out w6 C6.out
  go_wp2_with fail
  refine (H2.out _).mono ?_; rintro e w7 ⟨rfl, hb⟩
  have B7 := Lib.hid (btr B6.out hb)
  have C7 := Lib.hid (btr C6.out hb)
  clear hb c6_00 c6_01 c6_10 c6_11
  obtain ⟨c7_00, c7_01, c7_10, c7_11⟩ := KK.out w7 C7.out
  go_wp2_with fail
  refine (H1.out _).mono ?_; rintro e w8 ⟨rfl, hb⟩
  have B8 := Lib.hid (btr B7.out hb)
  have C8 := Lib.hid (btr C7.out hb)
  clear hb c7_00 c7_01 c7_10 c7_11
  obtain ⟨c8_00, c8_01, c8_10, c8_11⟩ := KK.out w8 C8.out
  go_wp2_with fail
  refine (H2.out _).mono ?_; rintro e w9 ⟨rfl, hb⟩
  have B9 := Lib.hid (btr B8.out hb)
  have C9 := Lib.hid (btr C8.out hb)
  clear hb c8_00 c8_01 c8_10 c8_11
  obtain ⟨c9_00, c9_01, c9_10, c9_11⟩ := KK.out w9 C9.out
  go_wp2
  go_ret
  exact ⟨ret_bool (by first | rfl | (simp <;> omega)), B9.out⟩

set_option maxRecDepth 100000 in
set_option maxHeartbeats 4000000 in
theorem nest_1011k (A K B L a : Int) (hp : rightB A K = true) (hq : rightB B L = true) (hi1 : inB A K B L = true) (hi2 : inB B L A K = false) (hh1 : hasB A K a = true) (hh2 : hasB B L a = true) (hne : A = B) (hne' : (K == L) = false) (w : World) (hT : Tabs w) : Calls Tryd.prog 7 #[.agg #[.int .i64 A, .int .i64 K], .agg #[.int .i64 B, .int .i64 L], .int .i64 a] w fun x w' => x = .returned (.bool true) ∧ Below w.heap.size w w' := by
  have HS := Lib.hid (fun W h => shown_c W h)
  have HT := Lib.hid hT
  have I1' := fun W => in_c A K B L W
  rw [hi1] at I1'
  have I1 := Lib.hid I1'
  clear I1'
  have I2' := fun W => in_c B L A K W
  rw [hi2] at I2'
  have I2 := Lib.hid I2'
  clear I2'
  have R1' := fun W => right_c A K W
  rw [hp] at R1'
  have R1 := Lib.hid R1'
  clear R1'
  have R2' := fun W => right_c B L W
  rw [hq] at R2'
  have R2 := Lib.hid R2'
  clear R2'
  have H1' := fun W => has_c A K a W
  rw [hh1] at H1'
  have H1 := Lib.hid H1'
  clear H1'
  have H2' := fun W => has_c B L a W
  rw [hh2] at H2'
  have H2 := Lib.hid H2'
  clear H2'
  clear hp hq hi1 hi2 hh1 hh2 hT
  subst hne

  go_enter Tryd.func7, Tryd.ntmps7
  go_wp2_with fail
  have x00 : ((w.alloc (.cells #[.int .i64 A, .int .i64 K] 23)).alloc (.cells #[.int .i64 A, .int .i64 L] 23)).cell? ⟨w.heap.size, 0, none⟩ = some (.int .i64 A) := by go_simp
  have x01 : ((w.alloc (.cells #[.int .i64 A, .int .i64 K] 23)).alloc (.cells #[.int .i64 A, .int .i64 L] 23)).cell? ⟨w.heap.size, 1, none⟩ = some (.int .i64 K) := by go_simp
  have x10 : ((w.alloc (.cells #[.int .i64 A, .int .i64 K] 23)).alloc (.cells #[.int .i64 A, .int .i64 L] 23)).cell? ⟨w.heap.size + 1, 0, none⟩ = some (.int .i64 A) := by go_simp
  have x11 : ((w.alloc (.cells #[.int .i64 A, .int .i64 K] 23)).alloc (.cells #[.int .i64 A, .int .i64 L] 23)).cell? ⟨w.heap.size + 1, 1, none⟩ = some (.int .i64 L) := by go_simp
  have B0 : Below w.heap.size w ((w.alloc (.cells #[.int .i64 A, .int .i64 K] 23)).alloc (.cells #[.int .i64 A, .int .i64 L] 23)) := (bal ((bal (Below.refl _ _) _)) _)
  generalize ((w.alloc (.cells #[.int .i64 A, .int .i64 K] 23)).alloc (.cells #[.int .i64 A, .int .i64 L] 23)) = U at *
  have KK := Lib.hid (show ∀ W, Below U.heap.size U W → W.cell? ⟨w.heap.size, 0, none⟩ = some (.int .i64 A) ∧ W.cell? ⟨w.heap.size, 1, none⟩ = some (.int .i64 K) ∧ W.cell? ⟨w.heap.size + 1, 0, none⟩ = some (.int .i64 A) ∧ W.cell? ⟨w.heap.size + 1, 1, none⟩ = some (.int .i64 L) from fun W h => ⟨(h.cell (p := ⟨w.heap.size, 0, none⟩) (blt x00)).trans x00, (h.cell (p := ⟨w.heap.size, 1, none⟩) (blt x00)).trans x01, (h.cell (p := ⟨w.heap.size + 1, 0, none⟩) (blt x10)).trans x10, (h.cell (p := ⟨w.heap.size + 1, 1, none⟩) (blt x10)).trans x11⟩)
  refine (HS.out _ (HT.out.on B0)).mono ?_; rintro e w1 ⟨rfl, hb⟩
  have B1 := Lib.hid (btr B0 hb)
  have C1 := Lib.hid (btr (Below.refl _ _) hb)
  clear hb x00 x01 x10 x11
  obtain ⟨c1_00, c1_01, c1_10, c1_11⟩ := KK.out w1 C1.out
  go_wp2_with fail
  refine (I1.out _).mono ?_; rintro e w2 ⟨rfl, hb⟩
  have B2 := Lib.hid (btr B1.out hb)
  have C2 := Lib.hid (btr C1.out hb)
  clear hb c1_00 c1_01 c1_10 c1_11
  obtain ⟨c2_00, c2_01, c2_10, c2_11⟩ := KK.out w2 C2.out
  go_wp2_with fail
  refine (I2.out _).mono ?_; rintro e w3 ⟨rfl, hb⟩
  have B3 := Lib.hid (btr B2.out hb)
  have C3 := Lib.hid (btr C2.out hb)
  clear hb c2_00 c2_01 c2_10 c2_11
  obtain ⟨c3_00, c3_01, c3_10, c3_11⟩ := KK.out w3 C3.out
  go_wp2_with fail
  refine (R1.out _).mono ?_; rintro e w4 ⟨rfl, hb⟩
  have B4 := Lib.hid (btr B3.out hb)
  have C4 := Lib.hid (btr C3.out hb)
  clear hb c3_00 c3_01 c3_10 c3_11
  obtain ⟨c4_00, c4_01, c4_10, c4_11⟩ := KK.out w4 C4.out
  go_wp2_with fail
  refine (R2.out _).mono ?_; rintro e w5 ⟨rfl, hb⟩
  have B5 := Lib.hid (btr B4.out hb)
  have C5 := Lib.hid (btr C4.out hb)
  clear hb c4_00 c4_01 c4_10 c4_11
  obtain ⟨c5_00, c5_01, c5_10, c5_11⟩ := KK.out w5 C5.out
  go_wp2_with fail
  refine (H1.out _).mono ?_; rintro e w6 ⟨rfl, hb⟩
  have B6 := Lib.hid (btr B5.out hb)
  have C6 := Lib.hid (btr C5.out hb)
  clear hb c5_00 c5_01 c5_10 c5_11
  obtain ⟨c6_00, c6_01, c6_10, c6_11⟩ := KK.out w6 C6.out
  go_wp2_with fail
  refine (H2.out _).mono ?_; rintro e w7 ⟨rfl, hb⟩
  have B7 := Lib.hid (btr B6.out hb)
  have C7 := Lib.hid (btr C6.out hb)
  clear hb c6_00 c6_01 c6_10 c6_11
  obtain ⟨c7_00, c7_01, c7_10, c7_11⟩ := KK.out w7 C7.out
  go_wp2_with fail
  refine (H1.out _).mono ?_; rintro e w8 ⟨rfl, hb⟩
  have B8 := Lib.hid (btr B7.out hb)
  have C8 := Lib.hid (btr C7.out hb)
  clear hb c7_00 c7_01 c7_10 c7_11
  obtain ⟨c8_00, c8_01, c8_10, c8_11⟩ := KK.out w8 C8.out
  go_wp2_with fail
  refine (H2.out _).mono ?_; rintro e w9 ⟨rfl, hb⟩
  have B9 := Lib.hid (btr B8.out hb)
  have C9 := Lib.hid (btr C8.out hb)
  clear hb c8_00 c8_01 c8_10 c8_11
  obtain ⟨c9_00, c9_01, c9_10, c9_11⟩ := KK.out w9 C9.out
  go_wp2
  go_ret
  exact ⟨ret_bool (by first | rfl | (simp <;> omega)), B9.out⟩

set_option maxRecDepth 100000 in
set_option maxHeartbeats 4000000 in
theorem nest_1100e (A K a : Int) (hp : rightB A K = true) (hi : inB A K A K = true) (hh : hasB A K a = false) (w : World) (hT : Tabs w) : Calls Tryd.prog 7 #[.agg #[.int .i64 A, .int .i64 K], .agg #[.int .i64 A, .int .i64 K], .int .i64 a] w fun x w' => x = .returned (.bool true) ∧ Below w.heap.size w w' := by
  have HS := Lib.hid (fun W h => shown_c W h)
  have HT := Lib.hid hT
  have I1' := fun W => in_c A K A K W
  rw [hi] at I1'
  have I1 := Lib.hid I1'
  clear I1'
  have I2' := fun W => in_c A K A K W
  rw [hi] at I2'
  have I2 := Lib.hid I2'
  clear I2'
  have R1' := fun W => right_c A K W
  rw [hp] at R1'
  have R1 := Lib.hid R1'
  clear R1'
  have R2' := fun W => right_c A K W
  rw [hp] at R2'
  have R2 := Lib.hid R2'
  clear R2'
  have H1' := fun W => has_c A K a W
  rw [hh] at H1'
  have H1 := Lib.hid H1'
  clear H1'
  have H2' := fun W => has_c A K a W
  rw [hh] at H2'
  have H2 := Lib.hid H2'
  clear H2'
  clear hp hi hh hT

  go_enter Tryd.func7, Tryd.ntmps7
  go_wp2_with fail
  have x00 : ((w.alloc (.cells #[.int .i64 A, .int .i64 K] 23)).alloc (.cells #[.int .i64 A, .int .i64 K] 23)).cell? ⟨w.heap.size, 0, none⟩ = some (.int .i64 A) := by go_simp
  have x01 : ((w.alloc (.cells #[.int .i64 A, .int .i64 K] 23)).alloc (.cells #[.int .i64 A, .int .i64 K] 23)).cell? ⟨w.heap.size, 1, none⟩ = some (.int .i64 K) := by go_simp
  have x10 : ((w.alloc (.cells #[.int .i64 A, .int .i64 K] 23)).alloc (.cells #[.int .i64 A, .int .i64 K] 23)).cell? ⟨w.heap.size + 1, 0, none⟩ = some (.int .i64 A) := by go_simp
  have x11 : ((w.alloc (.cells #[.int .i64 A, .int .i64 K] 23)).alloc (.cells #[.int .i64 A, .int .i64 K] 23)).cell? ⟨w.heap.size + 1, 1, none⟩ = some (.int .i64 K) := by go_simp
  have B0 : Below w.heap.size w ((w.alloc (.cells #[.int .i64 A, .int .i64 K] 23)).alloc (.cells #[.int .i64 A, .int .i64 K] 23)) := (bal ((bal (Below.refl _ _) _)) _)
  generalize ((w.alloc (.cells #[.int .i64 A, .int .i64 K] 23)).alloc (.cells #[.int .i64 A, .int .i64 K] 23)) = U at *
  have KK := Lib.hid (show ∀ W, Below U.heap.size U W → W.cell? ⟨w.heap.size, 0, none⟩ = some (.int .i64 A) ∧ W.cell? ⟨w.heap.size, 1, none⟩ = some (.int .i64 K) ∧ W.cell? ⟨w.heap.size + 1, 0, none⟩ = some (.int .i64 A) ∧ W.cell? ⟨w.heap.size + 1, 1, none⟩ = some (.int .i64 K) from fun W h => ⟨(h.cell (p := ⟨w.heap.size, 0, none⟩) (blt x00)).trans x00, (h.cell (p := ⟨w.heap.size, 1, none⟩) (blt x00)).trans x01, (h.cell (p := ⟨w.heap.size + 1, 0, none⟩) (blt x10)).trans x10, (h.cell (p := ⟨w.heap.size + 1, 1, none⟩) (blt x10)).trans x11⟩)
  refine (HS.out _ (HT.out.on B0)).mono ?_; rintro e w1 ⟨rfl, hb⟩
  have B1 := Lib.hid (btr B0 hb)
  have C1 := Lib.hid (btr (Below.refl _ _) hb)
  clear hb x00 x01 x10 x11
  obtain ⟨c1_00, c1_01, c1_10, c1_11⟩ := KK.out w1 C1.out
  go_wp2_with fail
  refine (I1.out _).mono ?_; rintro e w2 ⟨rfl, hb⟩
  have B2 := Lib.hid (btr B1.out hb)
  have C2 := Lib.hid (btr C1.out hb)
  clear hb c1_00 c1_01 c1_10 c1_11
  obtain ⟨c2_00, c2_01, c2_10, c2_11⟩ := KK.out w2 C2.out
  go_wp2_with fail
  refine (I2.out _).mono ?_; rintro e w3 ⟨rfl, hb⟩
  have B3 := Lib.hid (btr B2.out hb)
  have C3 := Lib.hid (btr C2.out hb)
  clear hb c2_00 c2_01 c2_10 c2_11
  obtain ⟨c3_00, c3_01, c3_10, c3_11⟩ := KK.out w3 C3.out
  go_wp2_with fail
  refine (R1.out _).mono ?_; rintro e w4 ⟨rfl, hb⟩
  have B4 := Lib.hid (btr B3.out hb)
  have C4 := Lib.hid (btr C3.out hb)
  clear hb c3_00 c3_01 c3_10 c3_11
  obtain ⟨c4_00, c4_01, c4_10, c4_11⟩ := KK.out w4 C4.out
  go_wp2_with fail
  refine (R2.out _).mono ?_; rintro e w5 ⟨rfl, hb⟩
  have B5 := Lib.hid (btr B4.out hb)
  have C5 := Lib.hid (btr C4.out hb)
  clear hb c4_00 c4_01 c4_10 c4_11
  obtain ⟨c5_00, c5_01, c5_10, c5_11⟩ := KK.out w5 C5.out
  go_wp2_with fail
  refine (H1.out _).mono ?_; rintro e w6 ⟨rfl, hb⟩
  have B6 := Lib.hid (btr B5.out hb)
  have C6 := Lib.hid (btr C5.out hb)
  clear hb c5_00 c5_01 c5_10 c5_11
  obtain ⟨c6_00, c6_01, c6_10, c6_11⟩ := KK.out w6 C6.out
  go_wp2_with fail
  refine (H1.out _).mono ?_; rintro e w7 ⟨rfl, hb⟩
  have B7 := Lib.hid (btr B6.out hb)
  have C7 := Lib.hid (btr C6.out hb)
  clear hb c6_00 c6_01 c6_10 c6_11
  obtain ⟨c7_00, c7_01, c7_10, c7_11⟩ := KK.out w7 C7.out
  go_wp2
  go_ret
  exact ⟨ret_bool (by first | rfl | (simp <;> omega)), B7.out⟩

set_option maxRecDepth 100000 in
set_option maxHeartbeats 4000000 in
theorem nest_1111e (A K a : Int) (hp : rightB A K = true) (hi : inB A K A K = true) (hh : hasB A K a = true) (w : World) (hT : Tabs w) : Calls Tryd.prog 7 #[.agg #[.int .i64 A, .int .i64 K], .agg #[.int .i64 A, .int .i64 K], .int .i64 a] w fun x w' => x = .returned (.bool true) ∧ Below w.heap.size w w' := by
  have HS := Lib.hid (fun W h => shown_c W h)
  have HT := Lib.hid hT
  have I1' := fun W => in_c A K A K W
  rw [hi] at I1'
  have I1 := Lib.hid I1'
  clear I1'
  have I2' := fun W => in_c A K A K W
  rw [hi] at I2'
  have I2 := Lib.hid I2'
  clear I2'
  have R1' := fun W => right_c A K W
  rw [hp] at R1'
  have R1 := Lib.hid R1'
  clear R1'
  have R2' := fun W => right_c A K W
  rw [hp] at R2'
  have R2 := Lib.hid R2'
  clear R2'
  have H1' := fun W => has_c A K a W
  rw [hh] at H1'
  have H1 := Lib.hid H1'
  clear H1'
  have H2' := fun W => has_c A K a W
  rw [hh] at H2'
  have H2 := Lib.hid H2'
  clear H2'
  clear hp hi hh hT

  go_enter Tryd.func7, Tryd.ntmps7
  go_wp2_with fail
  have x00 : ((w.alloc (.cells #[.int .i64 A, .int .i64 K] 23)).alloc (.cells #[.int .i64 A, .int .i64 K] 23)).cell? ⟨w.heap.size, 0, none⟩ = some (.int .i64 A) := by go_simp
  have x01 : ((w.alloc (.cells #[.int .i64 A, .int .i64 K] 23)).alloc (.cells #[.int .i64 A, .int .i64 K] 23)).cell? ⟨w.heap.size, 1, none⟩ = some (.int .i64 K) := by go_simp
  have x10 : ((w.alloc (.cells #[.int .i64 A, .int .i64 K] 23)).alloc (.cells #[.int .i64 A, .int .i64 K] 23)).cell? ⟨w.heap.size + 1, 0, none⟩ = some (.int .i64 A) := by go_simp
  have x11 : ((w.alloc (.cells #[.int .i64 A, .int .i64 K] 23)).alloc (.cells #[.int .i64 A, .int .i64 K] 23)).cell? ⟨w.heap.size + 1, 1, none⟩ = some (.int .i64 K) := by go_simp
  have B0 : Below w.heap.size w ((w.alloc (.cells #[.int .i64 A, .int .i64 K] 23)).alloc (.cells #[.int .i64 A, .int .i64 K] 23)) := (bal ((bal (Below.refl _ _) _)) _)
  generalize ((w.alloc (.cells #[.int .i64 A, .int .i64 K] 23)).alloc (.cells #[.int .i64 A, .int .i64 K] 23)) = U at *
  have KK := Lib.hid (show ∀ W, Below U.heap.size U W → W.cell? ⟨w.heap.size, 0, none⟩ = some (.int .i64 A) ∧ W.cell? ⟨w.heap.size, 1, none⟩ = some (.int .i64 K) ∧ W.cell? ⟨w.heap.size + 1, 0, none⟩ = some (.int .i64 A) ∧ W.cell? ⟨w.heap.size + 1, 1, none⟩ = some (.int .i64 K) from fun W h => ⟨(h.cell (p := ⟨w.heap.size, 0, none⟩) (blt x00)).trans x00, (h.cell (p := ⟨w.heap.size, 1, none⟩) (blt x00)).trans x01, (h.cell (p := ⟨w.heap.size + 1, 0, none⟩) (blt x10)).trans x10, (h.cell (p := ⟨w.heap.size + 1, 1, none⟩) (blt x10)).trans x11⟩)
  refine (HS.out _ (HT.out.on B0)).mono ?_; rintro e w1 ⟨rfl, hb⟩
  have B1 := Lib.hid (btr B0 hb)
  have C1 := Lib.hid (btr (Below.refl _ _) hb)
  clear hb x00 x01 x10 x11
  obtain ⟨c1_00, c1_01, c1_10, c1_11⟩ := KK.out w1 C1.out
  go_wp2_with fail
  refine (I1.out _).mono ?_; rintro e w2 ⟨rfl, hb⟩
  have B2 := Lib.hid (btr B1.out hb)
  have C2 := Lib.hid (btr C1.out hb)
  clear hb c1_00 c1_01 c1_10 c1_11
  obtain ⟨c2_00, c2_01, c2_10, c2_11⟩ := KK.out w2 C2.out
  go_wp2_with fail
  refine (I2.out _).mono ?_; rintro e w3 ⟨rfl, hb⟩
  have B3 := Lib.hid (btr B2.out hb)
  have C3 := Lib.hid (btr C2.out hb)
  clear hb c2_00 c2_01 c2_10 c2_11
  obtain ⟨c3_00, c3_01, c3_10, c3_11⟩ := KK.out w3 C3.out
  go_wp2_with fail
  refine (R1.out _).mono ?_; rintro e w4 ⟨rfl, hb⟩
  have B4 := Lib.hid (btr B3.out hb)
  have C4 := Lib.hid (btr C3.out hb)
  clear hb c3_00 c3_01 c3_10 c3_11
  obtain ⟨c4_00, c4_01, c4_10, c4_11⟩ := KK.out w4 C4.out
  go_wp2_with fail
  refine (R2.out _).mono ?_; rintro e w5 ⟨rfl, hb⟩
  have B5 := Lib.hid (btr B4.out hb)
  have C5 := Lib.hid (btr C4.out hb)
  clear hb c4_00 c4_01 c4_10 c4_11
  obtain ⟨c5_00, c5_01, c5_10, c5_11⟩ := KK.out w5 C5.out
  go_wp2_with fail
  refine (H1.out _).mono ?_; rintro e w6 ⟨rfl, hb⟩
  have B6 := Lib.hid (btr B5.out hb)
  have C6 := Lib.hid (btr C5.out hb)
  clear hb c5_00 c5_01 c5_10 c5_11
  obtain ⟨c6_00, c6_01, c6_10, c6_11⟩ := KK.out w6 C6.out
  go_wp2_with fail
  refine (H2.out _).mono ?_; rintro e w7 ⟨rfl, hb⟩
  have B7 := Lib.hid (btr B6.out hb)
  have C7 := Lib.hid (btr C6.out hb)
  clear hb c6_00 c6_01 c6_10 c6_11
  obtain ⟨c7_00, c7_01, c7_10, c7_11⟩ := KK.out w7 C7.out
  go_wp2_with fail
  refine (H1.out _).mono ?_; rintro e w8 ⟨rfl, hb⟩
  have B8 := Lib.hid (btr B7.out hb)
  have C8 := Lib.hid (btr C7.out hb)
  clear hb c7_00 c7_01 c7_10 c7_11
  obtain ⟨c8_00, c8_01, c8_10, c8_11⟩ := KK.out w8 C8.out
  go_wp2_with fail
  refine (H2.out _).mono ?_; rintro e w9 ⟨rfl, hb⟩
  have B9 := Lib.hid (btr B8.out hb)
  have C9 := Lib.hid (btr C8.out hb)
  clear hb c8_00 c8_01 c8_10 c8_11
  obtain ⟨c9_00, c9_01, c9_10, c9_11⟩ := KK.out w9 C9.out
  go_wp2
  go_ret
  exact ⟨ret_bool (by first | rfl | (simp <;> omega)), B9.out⟩

theorem nest_c (A K B L a : Int) (w : World) (hT : Tabs w) : Calls Tryd.prog 7 #[.agg #[.int .i64 A, .int .i64 K], .agg #[.int .i64 B, .int .i64 L], .int .i64 a] w fun x w' => x = .returned (.bool true) ∧ Below w.heap.size w w' := by
  cases hp : rightB A K with
  | false => exact nest_0 A K B L a hp w hT
  | true =>
    cases hq : rightB B L with
    | false => exact nest_1 A K B L a hp hq w hT
    | true =>
      have hor := @in_or A K B L a
      have hth := @in_has A K B L a
      have hth' := @in_has B L A K a
      have hbo := in_both hp hq
      cases hi1 : inB A K B L <;> cases hi2 : inB B L A K
      case true.true =>
        obtain ⟨rfl, rfl⟩ := hbo.1 ⟨hi1, hi2⟩
        cases hh : hasB A K a
        · exact nest_1100e A K a hp hi1 hh w hT
        · exact nest_1111e A K a hp hi1 hh w hT
      all_goals
        have hne : ¬ (A = B ∧ K = L) := fun h => by have := hbo.2 h; rw [hi1, hi2] at this; simp at this
        cases hh1 : hasB A K a <;> cases hh2 : hasB B L a
        all_goals
          rw [hi1, hi2, hh1, hh2] at hor
          rw [hi1, hh1, hh2] at hth
          rw [hi2, hh1, hh2] at hth'
          first
            | exact absurd (hth rfl rfl) (by decide)
            | exact absurd (hth' rfl rfl) (by decide)
            | (have h3 := hor rfl rfl; simp at h3)
            | skip
        all_goals
          by_cases hab : A = B
          · have hkl : (K == L) = false := by have : ¬ K = L := fun e => hne ⟨hab, e⟩
                                              simpa using this
            first
              | exact nest_0000k A K B L a hp hq hi1 hi2 hh1 hh2 hab hkl w hT
              | exact nest_0001k A K B L a hp hq hi1 hi2 hh1 hh2 hab hkl w hT
              | exact nest_0010k A K B L a hp hq hi1 hi2 hh1 hh2 hab hkl w hT
              | exact nest_0100k A K B L a hp hq hi1 hi2 hh1 hh2 hab hkl w hT
              | exact nest_0110k A K B L a hp hq hi1 hi2 hh1 hh2 hab hkl w hT
              | exact nest_0111k A K B L a hp hq hi1 hi2 hh1 hh2 hab hkl w hT
              | exact nest_1000k A K B L a hp hq hi1 hi2 hh1 hh2 hab hkl w hT
              | exact nest_1001k A K B L a hp hq hi1 hi2 hh1 hh2 hab hkl w hT
              | exact nest_1011k A K B L a hp hq hi1 hi2 hh1 hh2 hab hkl w hT
          · have hab' : (A == B) = false := by simpa using hab
            first
              | exact nest_0000a A K B L a hp hq hi1 hi2 hh1 hh2 hab' w hT
              | exact nest_0001a A K B L a hp hq hi1 hi2 hh1 hh2 hab' w hT
              | exact nest_0010a A K B L a hp hq hi1 hi2 hh1 hh2 hab' w hT
              | exact nest_0100a A K B L a hp hq hi1 hi2 hh1 hh2 hab' w hT
              | exact nest_0110a A K B L a hp hq hi1 hi2 hh1 hh2 hab' w hT
              | exact nest_0111a A K B L a hp hq hi1 hi2 hh1 hh2 hab' w hT
              | exact nest_1000a A K B L a hp hq hi1 hi2 hh1 hh2 hab' w hT
              | exact nest_1001a A K B L a hp hq hi1 hi2 hh1 hh2 hab' w hT
              | exact nest_1011a A K B L a hp hq hi1 hi2 hh1 hh2 hab' w hT

end Go.Proofs.YtlmgdhhlflmghaaDoor

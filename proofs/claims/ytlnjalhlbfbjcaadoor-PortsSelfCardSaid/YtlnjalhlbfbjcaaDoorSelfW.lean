/- Ports and themselves: the law's walk. -/
import Derived.Test.YtlnjalhlbfbjcaaDoorMeetW
namespace Go.Proofs.YtlnjalhlbfbjcaaDoor
open Go.RowKit Go.Shelf
attribute [local go_sem] Oper.semAt_some

set_option maxRecDepth 100000 in
set_option maxHeartbeats 4000000 in
theorem selfL_a (F T : Int) (w : World) (hL : Laid w) (S0 : Hid (∀ W, Laid W → Calls Tryd.prog 6 #[] W fun x w' => x = .returned (.bool true) ∧ Below W.heap.size W w')) (M1 : Hid (∀ W, Calls Tryd.prog 13 #[.agg #[.int .i64 F, .int .i64 T], .agg #[.int .i64 F, .int .i64 T]] W fun x w' => x = .returned (.tuple #[.agg #[.int .i64 0, .int .i64 0], .bool false]) ∧ Below W.heap.size W w')) (M2 : Hid (∀ W, Calls Tryd.prog 13 #[.agg #[.int .i64 F, .int .i64 T], .agg #[.int .i64 0, .int .i64 65535]] W fun x w' => x = .returned (.tuple #[.agg #[.int .i64 0, .int .i64 0], .bool false]) ∧ Below W.heap.size W w')) (R1 : Hid (∀ W, Calls Tryd.prog 12 #[.agg #[.int .i64 F, .int .i64 T]] W fun x w' => x = .returned (.bool false) ∧ Below W.heap.size W w')) : Calls Tryd.prog 5 #[.agg #[.int .i64 F, .int .i64 T]] w fun x w' => x = .returned (.bool true) ∧ Below w.heap.size w w' := by
  have HL := Lib.hid hL
  clear hL
  go_enter Tryd.func5, Tryd.ntmps5
  go_wp2_with fail
  have x0_0 : (w.alloc (.cells #[.int .i64 F, .int .i64 T] 23)).cell? ⟨w.heap.size, 0, none⟩ = some (.int .i64 F) := by go_simp
  have x0_1 : (w.alloc (.cells #[.int .i64 F, .int .i64 T] 23)).cell? ⟨w.heap.size, 1, none⟩ = some (.int .i64 T) := by go_simp
  have B0 : Below w.heap.size w (w.alloc (.cells #[.int .i64 F, .int .i64 T] 23)) := (bal (Below.refl _ w) _)
  generalize (w.alloc (.cells #[.int .i64 F, .int .i64 T] 23)) = U at *
  have KK0 := Lib.hid (show ∀ W, Below U.heap.size U W → W.cell? ⟨w.heap.size, 0, none⟩ = some (.int .i64 F) ∧ W.cell? ⟨w.heap.size, 1, none⟩ = some (.int .i64 T) from fun W h => ⟨(h.cell (p := ⟨w.heap.size, 0, none⟩) (blt x0_0)).trans x0_0, (h.cell (p := ⟨w.heap.size, 1, none⟩) (blt x0_1)).trans x0_1⟩)
  have C0_0 := Lib.hid (Below.refl U.heap.size U)
  replace B0 := Lib.hid B0
  refine (S0.out _ (HL.out.on B0.out)).mono ?_; rintro e w1 ⟨rfl, hb⟩
  have B1 : RowKit.Hid (Below w.heap.size w w1) := Lib.hid (btr B0.out hb)
  have C0_1 : RowKit.Hid (Below U.heap.size U w1) := Lib.hid (btr C0_0.out hb)
  clear x0_0 x0_1 hb
  obtain ⟨f1_0_0, f1_0_1⟩ := KK0.out w1 C0_1.out
  go_wp2_with fail
  refine (M1.out _).mono ?_; rintro e w2 ⟨rfl, hb⟩
  have B2 : RowKit.Hid (Below w.heap.size w (w2.alloc (.cells #[.int .i64 0, .int .i64 0] 23))) := Lib.hid (bal (btr B1.out hb) _)
  have C0_2 : RowKit.Hid (Below U.heap.size U (w2.alloc (.cells #[.int .i64 0, .int .i64 0] 23))) := Lib.hid (bal (btr C0_1.out hb) _)
  clear f1_0_0 f1_0_1 hb
  obtain ⟨f2_0_0, f2_0_1⟩ := KK0.out (w2.alloc (.cells #[.int .i64 0, .int .i64 0] 23)) C0_2.out
  have f2_1_0 : (w2.alloc (.cells #[.int .i64 0, .int .i64 0] 23)).cell? ⟨w2.heap.size, 0, none⟩ = some (.int .i64 0) := by go_simp
  have f2_1_1 : (w2.alloc (.cells #[.int .i64 0, .int .i64 0] 23)).cell? ⟨w2.heap.size, 1, none⟩ = some (.int .i64 0) := by go_simp
  have KK1 := Lib.hid (show ∀ W, Below (w2.alloc (.cells #[.int .i64 0, .int .i64 0] 23)).heap.size (w2.alloc (.cells #[.int .i64 0, .int .i64 0] 23)) W → W.cell? ⟨w2.heap.size, 0, none⟩ = some (.int .i64 0) ∧ W.cell? ⟨w2.heap.size, 1, none⟩ = some (.int .i64 0) from fun W h => ⟨(h.cell (p := ⟨w2.heap.size, 0, none⟩) (blt f2_1_0)).trans f2_1_0, (h.cell (p := ⟨w2.heap.size, 1, none⟩) (blt f2_1_1)).trans f2_1_1⟩)
  have C1_2 := Lib.hid (Below.refl (w2.alloc (.cells #[.int .i64 0, .int .i64 0] 23)).heap.size (w2.alloc (.cells #[.int .i64 0, .int .i64 0] 23)))
  go_wp2_with fail
  refine (M2.out _).mono ?_; rintro e w3 ⟨rfl, hb⟩
  have B3 : RowKit.Hid (Below w.heap.size w (w3.alloc (.cells #[.int .i64 0, .int .i64 0] 23))) := Lib.hid (bal (btr B2.out hb) _)
  have C0_3 : RowKit.Hid (Below U.heap.size U (w3.alloc (.cells #[.int .i64 0, .int .i64 0] 23))) := Lib.hid (bal (btr C0_2.out hb) _)
  have C1_3 : RowKit.Hid (Below (w2.alloc (.cells #[.int .i64 0, .int .i64 0] 23)).heap.size (w2.alloc (.cells #[.int .i64 0, .int .i64 0] 23)) (w3.alloc (.cells #[.int .i64 0, .int .i64 0] 23))) := Lib.hid (bal (btr C1_2.out hb) _)
  clear f2_0_0 f2_0_1 f2_1_0 f2_1_1 hb
  obtain ⟨f3_0_0, f3_0_1⟩ := KK0.out (w3.alloc (.cells #[.int .i64 0, .int .i64 0] 23)) C0_3.out
  obtain ⟨f3_1_0, f3_1_1⟩ := KK1.out (w3.alloc (.cells #[.int .i64 0, .int .i64 0] 23)) C1_3.out
  have f3_2_0 : (w3.alloc (.cells #[.int .i64 0, .int .i64 0] 23)).cell? ⟨w3.heap.size, 0, none⟩ = some (.int .i64 0) := by go_simp
  have f3_2_1 : (w3.alloc (.cells #[.int .i64 0, .int .i64 0] 23)).cell? ⟨w3.heap.size, 1, none⟩ = some (.int .i64 0) := by go_simp
  have KK2 := Lib.hid (show ∀ W, Below (w3.alloc (.cells #[.int .i64 0, .int .i64 0] 23)).heap.size (w3.alloc (.cells #[.int .i64 0, .int .i64 0] 23)) W → W.cell? ⟨w3.heap.size, 0, none⟩ = some (.int .i64 0) ∧ W.cell? ⟨w3.heap.size, 1, none⟩ = some (.int .i64 0) from fun W h => ⟨(h.cell (p := ⟨w3.heap.size, 0, none⟩) (blt f3_2_0)).trans f3_2_0, (h.cell (p := ⟨w3.heap.size, 1, none⟩) (blt f3_2_1)).trans f3_2_1⟩)
  have C2_3 := Lib.hid (Below.refl (w3.alloc (.cells #[.int .i64 0, .int .i64 0] 23)).heap.size (w3.alloc (.cells #[.int .i64 0, .int .i64 0] 23)))
  go_wp2_with fail
  refine (R1.out _).mono ?_; rintro e w4 ⟨rfl, hb⟩
  have B4 : RowKit.Hid (Below w.heap.size w w4) := Lib.hid (btr B3.out hb)
  have C0_4 : RowKit.Hid (Below U.heap.size U w4) := Lib.hid (btr C0_3.out hb)
  have C1_4 : RowKit.Hid (Below (w2.alloc (.cells #[.int .i64 0, .int .i64 0] 23)).heap.size (w2.alloc (.cells #[.int .i64 0, .int .i64 0] 23)) w4) := Lib.hid (btr C1_3.out hb)
  have C2_4 : RowKit.Hid (Below (w3.alloc (.cells #[.int .i64 0, .int .i64 0] 23)).heap.size (w3.alloc (.cells #[.int .i64 0, .int .i64 0] 23)) w4) := Lib.hid (btr C2_3.out hb)
  clear f3_0_0 f3_0_1 f3_1_0 f3_1_1 f3_2_0 f3_2_1 hb
  obtain ⟨f4_0_0, f4_0_1⟩ := KK0.out w4 C0_4.out
  obtain ⟨f4_1_0, f4_1_1⟩ := KK1.out w4 C1_4.out
  obtain ⟨f4_2_0, f4_2_1⟩ := KK2.out w4 C2_4.out
  go_wp2
  go_ret
  exact ⟨ret_bool (by first | rfl | (simp <;> omega)), B4.out⟩

set_option maxRecDepth 100000 in
set_option maxHeartbeats 4000000 in
theorem selfL_b (F T : Int) (w : World) (hL : Laid w) (S0 : Hid (∀ W, Laid W → Calls Tryd.prog 6 #[] W fun x w' => x = .returned (.bool true) ∧ Below W.heap.size W w')) (M1 : Hid (∀ W, Calls Tryd.prog 13 #[.agg #[.int .i64 F, .int .i64 T], .agg #[.int .i64 F, .int .i64 T]] W fun x w' => x = .returned (.tuple #[.agg #[.int .i64 F, .int .i64 T], .bool true]) ∧ Below W.heap.size W w')) (M2 : Hid (∀ W, Calls Tryd.prog 13 #[.agg #[.int .i64 F, .int .i64 T], .agg #[.int .i64 0, .int .i64 65535]] W fun x w' => x = .returned (.tuple #[.agg #[.int .i64 F, .int .i64 T], .bool true]) ∧ Below W.heap.size W w')) (R1 : Hid (∀ W, Calls Tryd.prog 12 #[.agg #[.int .i64 F, .int .i64 T]] W fun x w' => x = .returned (.bool true) ∧ Below W.heap.size W w')) (b1 : 0 ≤ F) (b2 : T ≤ 65535) (b3 : F ≤ T) (H1 : Hid (∀ W, Calls Tryd.prog 14 #[.agg #[.int .i64 F, .int .i64 T], .int .i64 F] W fun x w' => x = .returned (.bool true) ∧ Below W.heap.size W w')) (H2 : Hid (∀ W, Calls Tryd.prog 14 #[.agg #[.int .i64 F, .int .i64 T], .int .i64 T] W fun x w' => x = .returned (.bool true) ∧ Below W.heap.size W w')) (H3 : Hid (∀ W, Calls Tryd.prog 14 #[.agg #[.int .i64 F, .int .i64 T], .int .i64 (F - 1)] W fun x w' => x = .returned (.bool false) ∧ Below W.heap.size W w')) (H4 : Hid (∀ W, Calls Tryd.prog 14 #[.agg #[.int .i64 F, .int .i64 T], .int .i64 (T + 1)] W fun x w' => x = .returned (.bool false) ∧ Below W.heap.size W w')) : Calls Tryd.prog 5 #[.agg #[.int .i64 F, .int .i64 T]] w fun x w' => x = .returned (.bool true) ∧ Below w.heap.size w w' := by
  have HL := Lib.hid hL
  clear hL
  go_enter Tryd.func5, Tryd.ntmps5
  go_wp2_with fail
  have x0_0 : (w.alloc (.cells #[.int .i64 F, .int .i64 T] 23)).cell? ⟨w.heap.size, 0, none⟩ = some (.int .i64 F) := by go_simp
  have x0_1 : (w.alloc (.cells #[.int .i64 F, .int .i64 T] 23)).cell? ⟨w.heap.size, 1, none⟩ = some (.int .i64 T) := by go_simp
  have B0 : Below w.heap.size w (w.alloc (.cells #[.int .i64 F, .int .i64 T] 23)) := (bal (Below.refl _ w) _)
  generalize (w.alloc (.cells #[.int .i64 F, .int .i64 T] 23)) = U at *
  have KK0 := Lib.hid (show ∀ W, Below U.heap.size U W → W.cell? ⟨w.heap.size, 0, none⟩ = some (.int .i64 F) ∧ W.cell? ⟨w.heap.size, 1, none⟩ = some (.int .i64 T) from fun W h => ⟨(h.cell (p := ⟨w.heap.size, 0, none⟩) (blt x0_0)).trans x0_0, (h.cell (p := ⟨w.heap.size, 1, none⟩) (blt x0_1)).trans x0_1⟩)
  have C0_0 := Lib.hid (Below.refl U.heap.size U)
  replace B0 := Lib.hid B0
  refine (S0.out _ (HL.out.on B0.out)).mono ?_; rintro e w1 ⟨rfl, hb⟩
  have B1 : RowKit.Hid (Below w.heap.size w w1) := Lib.hid (btr B0.out hb)
  have C0_1 : RowKit.Hid (Below U.heap.size U w1) := Lib.hid (btr C0_0.out hb)
  clear x0_0 x0_1 hb
  obtain ⟨f1_0_0, f1_0_1⟩ := KK0.out w1 C0_1.out
  go_wp2_with fail
  refine (M1.out _).mono ?_; rintro e w2 ⟨rfl, hb⟩
  have B2 : RowKit.Hid (Below w.heap.size w (w2.alloc (.cells #[.int .i64 F, .int .i64 T] 23))) := Lib.hid (bal (btr B1.out hb) _)
  have C0_2 : RowKit.Hid (Below U.heap.size U (w2.alloc (.cells #[.int .i64 F, .int .i64 T] 23))) := Lib.hid (bal (btr C0_1.out hb) _)
  clear f1_0_0 f1_0_1 hb
  obtain ⟨f2_0_0, f2_0_1⟩ := KK0.out (w2.alloc (.cells #[.int .i64 F, .int .i64 T] 23)) C0_2.out
  have f2_1_0 : (w2.alloc (.cells #[.int .i64 F, .int .i64 T] 23)).cell? ⟨w2.heap.size, 0, none⟩ = some (.int .i64 F) := by go_simp
  have f2_1_1 : (w2.alloc (.cells #[.int .i64 F, .int .i64 T] 23)).cell? ⟨w2.heap.size, 1, none⟩ = some (.int .i64 T) := by go_simp
  have KK1 := Lib.hid (show ∀ W, Below (w2.alloc (.cells #[.int .i64 F, .int .i64 T] 23)).heap.size (w2.alloc (.cells #[.int .i64 F, .int .i64 T] 23)) W → W.cell? ⟨w2.heap.size, 0, none⟩ = some (.int .i64 F) ∧ W.cell? ⟨w2.heap.size, 1, none⟩ = some (.int .i64 T) from fun W h => ⟨(h.cell (p := ⟨w2.heap.size, 0, none⟩) (blt f2_1_0)).trans f2_1_0, (h.cell (p := ⟨w2.heap.size, 1, none⟩) (blt f2_1_1)).trans f2_1_1⟩)
  have C1_2 := Lib.hid (Below.refl (w2.alloc (.cells #[.int .i64 F, .int .i64 T] 23)).heap.size (w2.alloc (.cells #[.int .i64 F, .int .i64 T] 23)))
  go_wp2_with fail
  refine (M2.out _).mono ?_; rintro e w3 ⟨rfl, hb⟩
  have B3 : RowKit.Hid (Below w.heap.size w (w3.alloc (.cells #[.int .i64 F, .int .i64 T] 23))) := Lib.hid (bal (btr B2.out hb) _)
  have C0_3 : RowKit.Hid (Below U.heap.size U (w3.alloc (.cells #[.int .i64 F, .int .i64 T] 23))) := Lib.hid (bal (btr C0_2.out hb) _)
  have C1_3 : RowKit.Hid (Below (w2.alloc (.cells #[.int .i64 F, .int .i64 T] 23)).heap.size (w2.alloc (.cells #[.int .i64 F, .int .i64 T] 23)) (w3.alloc (.cells #[.int .i64 F, .int .i64 T] 23))) := Lib.hid (bal (btr C1_2.out hb) _)
  clear f2_0_0 f2_0_1 f2_1_0 f2_1_1 hb
  obtain ⟨f3_0_0, f3_0_1⟩ := KK0.out (w3.alloc (.cells #[.int .i64 F, .int .i64 T] 23)) C0_3.out
  obtain ⟨f3_1_0, f3_1_1⟩ := KK1.out (w3.alloc (.cells #[.int .i64 F, .int .i64 T] 23)) C1_3.out
  have f3_2_0 : (w3.alloc (.cells #[.int .i64 F, .int .i64 T] 23)).cell? ⟨w3.heap.size, 0, none⟩ = some (.int .i64 F) := by go_simp
  have f3_2_1 : (w3.alloc (.cells #[.int .i64 F, .int .i64 T] 23)).cell? ⟨w3.heap.size, 1, none⟩ = some (.int .i64 T) := by go_simp
  have KK2 := Lib.hid (show ∀ W, Below (w3.alloc (.cells #[.int .i64 F, .int .i64 T] 23)).heap.size (w3.alloc (.cells #[.int .i64 F, .int .i64 T] 23)) W → W.cell? ⟨w3.heap.size, 0, none⟩ = some (.int .i64 F) ∧ W.cell? ⟨w3.heap.size, 1, none⟩ = some (.int .i64 T) from fun W h => ⟨(h.cell (p := ⟨w3.heap.size, 0, none⟩) (blt f3_2_0)).trans f3_2_0, (h.cell (p := ⟨w3.heap.size, 1, none⟩) (blt f3_2_1)).trans f3_2_1⟩)
  have C2_3 := Lib.hid (Below.refl (w3.alloc (.cells #[.int .i64 F, .int .i64 T] 23)).heap.size (w3.alloc (.cells #[.int .i64 F, .int .i64 T] 23)))
  go_wp2_with fail
  refine (R1.out _).mono ?_; rintro e w4 ⟨rfl, hb⟩
  have B4 : RowKit.Hid (Below w.heap.size w w4) := Lib.hid (btr B3.out hb)
  have C0_4 : RowKit.Hid (Below U.heap.size U w4) := Lib.hid (btr C0_3.out hb)
  have C1_4 : RowKit.Hid (Below (w2.alloc (.cells #[.int .i64 F, .int .i64 T] 23)).heap.size (w2.alloc (.cells #[.int .i64 F, .int .i64 T] 23)) w4) := Lib.hid (btr C1_3.out hb)
  have C2_4 : RowKit.Hid (Below (w3.alloc (.cells #[.int .i64 F, .int .i64 T] 23)).heap.size (w3.alloc (.cells #[.int .i64 F, .int .i64 T] 23)) w4) := Lib.hid (btr C2_3.out hb)
  clear f3_0_0 f3_0_1 f3_1_0 f3_1_1 f3_2_0 f3_2_1 hb
  obtain ⟨f4_0_0, f4_0_1⟩ := KK0.out w4 C0_4.out
  obtain ⟨f4_1_0, f4_1_1⟩ := KK1.out w4 C1_4.out
  obtain ⟨f4_2_0, f4_2_1⟩ := KK2.out w4 C2_4.out
  go_wp2_with fail
  refine (H1.out _).mono ?_; rintro e w5 ⟨rfl, hb⟩
  have B5 : RowKit.Hid (Below w.heap.size w w5) := Lib.hid (btr B4.out hb)
  have C0_5 : RowKit.Hid (Below U.heap.size U w5) := Lib.hid (btr C0_4.out hb)
  have C1_5 : RowKit.Hid (Below (w2.alloc (.cells #[.int .i64 F, .int .i64 T] 23)).heap.size (w2.alloc (.cells #[.int .i64 F, .int .i64 T] 23)) w5) := Lib.hid (btr C1_4.out hb)
  have C2_5 : RowKit.Hid (Below (w3.alloc (.cells #[.int .i64 F, .int .i64 T] 23)).heap.size (w3.alloc (.cells #[.int .i64 F, .int .i64 T] 23)) w5) := Lib.hid (btr C2_4.out hb)
  clear f4_0_0 f4_0_1 f4_1_0 f4_1_1 f4_2_0 f4_2_1 hb
  obtain ⟨f5_0_0, f5_0_1⟩ := KK0.out w5 C0_5.out
  obtain ⟨f5_1_0, f5_1_1⟩ := KK1.out w5 C1_5.out
  obtain ⟨f5_2_0, f5_2_1⟩ := KK2.out w5 C2_5.out
  go_wp2_with fail
  refine (H2.out _).mono ?_; rintro e w6 ⟨rfl, hb⟩
  have B6 : RowKit.Hid (Below w.heap.size w w6) := Lib.hid (btr B5.out hb)
  have C0_6 : RowKit.Hid (Below U.heap.size U w6) := Lib.hid (btr C0_5.out hb)
  have C1_6 : RowKit.Hid (Below (w2.alloc (.cells #[.int .i64 F, .int .i64 T] 23)).heap.size (w2.alloc (.cells #[.int .i64 F, .int .i64 T] 23)) w6) := Lib.hid (btr C1_5.out hb)
  have C2_6 : RowKit.Hid (Below (w3.alloc (.cells #[.int .i64 F, .int .i64 T] 23)).heap.size (w3.alloc (.cells #[.int .i64 F, .int .i64 T] 23)) w6) := Lib.hid (btr C2_5.out hb)
  clear f5_0_0 f5_0_1 f5_1_0 f5_1_1 f5_2_0 f5_2_1 hb
  obtain ⟨f6_0_0, f6_0_1⟩ := KK0.out w6 C0_6.out
  obtain ⟨f6_1_0, f6_1_1⟩ := KK1.out w6 C1_6.out
  obtain ⟨f6_2_0, f6_2_1⟩ := KK2.out w6 C2_6.out
  go_wp2_with fail
  refine (H3.out _).mono ?_; rintro e w7 ⟨rfl, hb⟩
  have B7 : RowKit.Hid (Below w.heap.size w w7) := Lib.hid (btr B6.out hb)
  have C0_7 : RowKit.Hid (Below U.heap.size U w7) := Lib.hid (btr C0_6.out hb)
  have C1_7 : RowKit.Hid (Below (w2.alloc (.cells #[.int .i64 F, .int .i64 T] 23)).heap.size (w2.alloc (.cells #[.int .i64 F, .int .i64 T] 23)) w7) := Lib.hid (btr C1_6.out hb)
  have C2_7 : RowKit.Hid (Below (w3.alloc (.cells #[.int .i64 F, .int .i64 T] 23)).heap.size (w3.alloc (.cells #[.int .i64 F, .int .i64 T] 23)) w7) := Lib.hid (btr C2_6.out hb)
  clear f6_0_0 f6_0_1 f6_1_0 f6_1_1 f6_2_0 f6_2_1 hb
  obtain ⟨f7_0_0, f7_0_1⟩ := KK0.out w7 C0_7.out
  obtain ⟨f7_1_0, f7_1_1⟩ := KK1.out w7 C1_7.out
  obtain ⟨f7_2_0, f7_2_1⟩ := KK2.out w7 C2_7.out
  go_wp2_with fail
  refine (H4.out _).mono ?_; rintro e w8 ⟨rfl, hb⟩
  have B8 : RowKit.Hid (Below w.heap.size w w8) := Lib.hid (btr B7.out hb)
  have C0_8 : RowKit.Hid (Below U.heap.size U w8) := Lib.hid (btr C0_7.out hb)
  have C1_8 : RowKit.Hid (Below (w2.alloc (.cells #[.int .i64 F, .int .i64 T] 23)).heap.size (w2.alloc (.cells #[.int .i64 F, .int .i64 T] 23)) w8) := Lib.hid (btr C1_7.out hb)
  have C2_8 : RowKit.Hid (Below (w3.alloc (.cells #[.int .i64 F, .int .i64 T] 23)).heap.size (w3.alloc (.cells #[.int .i64 F, .int .i64 T] 23)) w8) := Lib.hid (btr C2_7.out hb)
  clear f7_0_0 f7_0_1 f7_1_0 f7_1_1 f7_2_0 f7_2_1 hb
  obtain ⟨f8_0_0, f8_0_1⟩ := KK0.out w8 C0_8.out
  obtain ⟨f8_1_0, f8_1_1⟩ := KK1.out w8 C1_8.out
  obtain ⟨f8_2_0, f8_2_1⟩ := KK2.out w8 C2_8.out
  go_wp2
  go_ret
  exact ⟨ret_bool (by first | rfl | (simp <;> omega)), B8.out⟩

theorem portsSelf_c (F T : Int) (w : World) (hL : Laid w) : Calls Tryd.prog 5 #[.agg #[.int .i64 F, .int .i64 T]] w fun x w' => x = .returned (.bool true) ∧ Below w.heap.size w w' := by
  have S0 := Lib.hid (fun W h => shown_c W h)
  have m1 := fun W => meet_c F T F T W
  have m2 := fun W => meet_c F T 0 65535 W
  have r1 := fun W => rightQ_c F T W
  cases hr : rightQ F T with
  | false =>
    have e1 : meetB F T F T = false := by unfold meetB; rw [hr]; rfl
    have e2 : meetB F T 0 65535 = false := by unfold meetB; rw [hr]; rfl
    have f1 := meet_false e1
    have f2 := meet_false e2
    rw [e1, f1.1, f1.2.1] at m1
    rw [e2, f2.1, f2.2.1] at m2
    rw [hr] at r1
    exact selfL_a F T w hL S0 (Lib.hid m1) (Lib.hid m2) (Lib.hid r1)
  | true =>
    have hb := rightQ_iff.1 hr
    have e1 : meetB F T F T = true := by unfold meetB; rw [hr, decide_eq_true (by omega)]; rfl
    have e2 : meetB F T 0 65535 = true := by unfold meetB; rw [hr, decide_eq_true (by omega)]; rfl
    have f1 := meet_true e1
    have f2 := meet_true e2
    rw [e1, f1.1, f1.2.1, show max F F = F by omega, show min T T = T by omega] at m1
    rw [e2, f2.1, f2.2.1, show max F 0 = F by omega, show min T 65535 = T by omega] at m2
    rw [hr] at r1
    have q1 := fun W => hasQ_c F T F W
    have q2 := fun W => hasQ_c F T T W
    have q3 := fun W => hasQ_c F T (F - 1) W
    have q4 := fun W => hasQ_c F T (T + 1) W
    rw [show hasQ F T F = true by unfold hasQ; rw [hr]; simp; omega] at q1
    rw [show hasQ F T T = true by unfold hasQ; rw [hr]; simp; omega] at q2
    rw [show hasQ F T (F - 1) = false by unfold hasQ; rw [hr]; simp; omega] at q3
    rw [show hasQ F T (T + 1) = false by unfold hasQ; rw [hr]; simp; omega] at q4
    exact selfL_b F T w hL S0 (Lib.hid m1) (Lib.hid m2) (Lib.hid r1) (by omega) (by omega) (by omega) (Lib.hid q1) (Lib.hid q2) (Lib.hid q3) (Lib.hid q4)
end Go.Proofs.YtlnjalhlbfbjcaaDoor

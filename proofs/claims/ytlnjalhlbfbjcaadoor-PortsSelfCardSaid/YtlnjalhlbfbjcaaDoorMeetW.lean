/- What both have, Meet has: the law's walk. -/
import Derived.Test.YtlnjalhlbfbjcaaDoorU
namespace Go.Proofs.YtlnjalhlbfbjcaaDoor
open Go.RowKit Go.Shelf
attribute [local go_sem] Oper.semAt_some

set_option maxRecDepth 100000 in
set_option maxHeartbeats 4000000 in
theorem meetL_a (F T G U0 n M N : Int) (w : World) (hL : Laid w) (S0 : Hid (∀ W, Laid W → Calls Tryd.prog 6 #[] W fun x w' => x = .returned (.bool true) ∧ Below W.heap.size W w')) (M1 : Hid (∀ W, Calls Tryd.prog 13 #[.agg #[.int .i64 F, .int .i64 T], .agg #[.int .i64 G, .int .i64 U0]] W fun x w' => x = .returned (.tuple #[.agg #[.int .i64 M, .int .i64 N], .bool false]) ∧ Below W.heap.size W w')) (M2 : Hid (∀ W, Calls Tryd.prog 13 #[.agg #[.int .i64 G, .int .i64 U0], .agg #[.int .i64 F, .int .i64 T]] W fun x w' => x = .returned (.tuple #[.agg #[.int .i64 M, .int .i64 N], .bool false]) ∧ Below W.heap.size W w')) (H1 : Hid (∀ W, Calls Tryd.prog 14 #[.agg #[.int .i64 F, .int .i64 T], .int .i64 n] W fun x w' => x = .returned (.bool false) ∧ Below W.heap.size W w')) : Calls Tryd.prog 4 #[.agg #[.int .i64 F, .int .i64 T], .agg #[.int .i64 G, .int .i64 U0], .int .i64 n] w fun x w' => x = .returned (.bool true) ∧ Below w.heap.size w w' := by
  have HL := Lib.hid hL
  clear hL
  go_enter Tryd.func4, Tryd.ntmps4
  go_wp2_with fail
  have x0_0 : ((w.alloc (.cells #[.int .i64 F, .int .i64 T] 23)).alloc (.cells #[.int .i64 G, .int .i64 U0] 23)).cell? ⟨w.heap.size, 0, none⟩ = some (.int .i64 F) := by go_simp
  have x0_1 : ((w.alloc (.cells #[.int .i64 F, .int .i64 T] 23)).alloc (.cells #[.int .i64 G, .int .i64 U0] 23)).cell? ⟨w.heap.size, 1, none⟩ = some (.int .i64 T) := by go_simp
  have x1_0 : ((w.alloc (.cells #[.int .i64 F, .int .i64 T] 23)).alloc (.cells #[.int .i64 G, .int .i64 U0] 23)).cell? ⟨w.heap.size + 1, 0, none⟩ = some (.int .i64 G) := by go_simp
  have x1_1 : ((w.alloc (.cells #[.int .i64 F, .int .i64 T] 23)).alloc (.cells #[.int .i64 G, .int .i64 U0] 23)).cell? ⟨w.heap.size + 1, 1, none⟩ = some (.int .i64 U0) := by go_simp
  have B0 : Below w.heap.size w ((w.alloc (.cells #[.int .i64 F, .int .i64 T] 23)).alloc (.cells #[.int .i64 G, .int .i64 U0] 23)) := (bal ((bal (Below.refl _ w) _)) _)
  generalize ((w.alloc (.cells #[.int .i64 F, .int .i64 T] 23)).alloc (.cells #[.int .i64 G, .int .i64 U0] 23)) = U at *
  have KK0 := Lib.hid (show ∀ W, Below U.heap.size U W → W.cell? ⟨w.heap.size, 0, none⟩ = some (.int .i64 F) ∧ W.cell? ⟨w.heap.size, 1, none⟩ = some (.int .i64 T) from fun W h => ⟨(h.cell (p := ⟨w.heap.size, 0, none⟩) (blt x0_0)).trans x0_0, (h.cell (p := ⟨w.heap.size, 1, none⟩) (blt x0_1)).trans x0_1⟩)
  have KK1 := Lib.hid (show ∀ W, Below U.heap.size U W → W.cell? ⟨w.heap.size + 1, 0, none⟩ = some (.int .i64 G) ∧ W.cell? ⟨w.heap.size + 1, 1, none⟩ = some (.int .i64 U0) from fun W h => ⟨(h.cell (p := ⟨w.heap.size + 1, 0, none⟩) (blt x1_0)).trans x1_0, (h.cell (p := ⟨w.heap.size + 1, 1, none⟩) (blt x1_1)).trans x1_1⟩)
  have C0_0 := Lib.hid (Below.refl U.heap.size U)
  have C1_0 := Lib.hid (Below.refl U.heap.size U)
  replace B0 := Lib.hid B0
  refine (S0.out _ (HL.out.on B0.out)).mono ?_; rintro e w1 ⟨rfl, hb⟩
  have B1 : RowKit.Hid (Below w.heap.size w w1) := Lib.hid (btr B0.out hb)
  have C0_1 : RowKit.Hid (Below U.heap.size U w1) := Lib.hid (btr C0_0.out hb)
  have C1_1 : RowKit.Hid (Below U.heap.size U w1) := Lib.hid (btr C1_0.out hb)
  clear x0_0 x0_1 x1_0 x1_1 hb
  obtain ⟨f1_0_0, f1_0_1⟩ := KK0.out w1 C0_1.out
  obtain ⟨f1_1_0, f1_1_1⟩ := KK1.out w1 C1_1.out
  go_wp2_with fail
  refine (M1.out _).mono ?_; rintro e w2 ⟨rfl, hb⟩
  have B2 : RowKit.Hid (Below w.heap.size w (w2.alloc (.cells #[.int .i64 M, .int .i64 N] 23))) := Lib.hid (bal (btr B1.out hb) _)
  have C0_2 : RowKit.Hid (Below U.heap.size U (w2.alloc (.cells #[.int .i64 M, .int .i64 N] 23))) := Lib.hid (bal (btr C0_1.out hb) _)
  have C1_2 : RowKit.Hid (Below U.heap.size U (w2.alloc (.cells #[.int .i64 M, .int .i64 N] 23))) := Lib.hid (bal (btr C1_1.out hb) _)
  clear f1_0_0 f1_0_1 f1_1_0 f1_1_1 hb
  obtain ⟨f2_0_0, f2_0_1⟩ := KK0.out (w2.alloc (.cells #[.int .i64 M, .int .i64 N] 23)) C0_2.out
  obtain ⟨f2_1_0, f2_1_1⟩ := KK1.out (w2.alloc (.cells #[.int .i64 M, .int .i64 N] 23)) C1_2.out
  have f2_2_0 : (w2.alloc (.cells #[.int .i64 M, .int .i64 N] 23)).cell? ⟨w2.heap.size, 0, none⟩ = some (.int .i64 M) := by go_simp
  have f2_2_1 : (w2.alloc (.cells #[.int .i64 M, .int .i64 N] 23)).cell? ⟨w2.heap.size, 1, none⟩ = some (.int .i64 N) := by go_simp
  have KK2 := Lib.hid (show ∀ W, Below (w2.alloc (.cells #[.int .i64 M, .int .i64 N] 23)).heap.size (w2.alloc (.cells #[.int .i64 M, .int .i64 N] 23)) W → W.cell? ⟨w2.heap.size, 0, none⟩ = some (.int .i64 M) ∧ W.cell? ⟨w2.heap.size, 1, none⟩ = some (.int .i64 N) from fun W h => ⟨(h.cell (p := ⟨w2.heap.size, 0, none⟩) (blt f2_2_0)).trans f2_2_0, (h.cell (p := ⟨w2.heap.size, 1, none⟩) (blt f2_2_1)).trans f2_2_1⟩)
  have C2_2 := Lib.hid (Below.refl (w2.alloc (.cells #[.int .i64 M, .int .i64 N] 23)).heap.size (w2.alloc (.cells #[.int .i64 M, .int .i64 N] 23)))
  go_wp2_with fail
  refine (M2.out _).mono ?_; rintro e w3 ⟨rfl, hb⟩
  have B3 : RowKit.Hid (Below w.heap.size w (w3.alloc (.cells #[.int .i64 M, .int .i64 N] 23))) := Lib.hid (bal (btr B2.out hb) _)
  have C0_3 : RowKit.Hid (Below U.heap.size U (w3.alloc (.cells #[.int .i64 M, .int .i64 N] 23))) := Lib.hid (bal (btr C0_2.out hb) _)
  have C1_3 : RowKit.Hid (Below U.heap.size U (w3.alloc (.cells #[.int .i64 M, .int .i64 N] 23))) := Lib.hid (bal (btr C1_2.out hb) _)
  have C2_3 : RowKit.Hid (Below (w2.alloc (.cells #[.int .i64 M, .int .i64 N] 23)).heap.size (w2.alloc (.cells #[.int .i64 M, .int .i64 N] 23)) (w3.alloc (.cells #[.int .i64 M, .int .i64 N] 23))) := Lib.hid (bal (btr C2_2.out hb) _)
  clear f2_0_0 f2_0_1 f2_1_0 f2_1_1 f2_2_0 f2_2_1 hb
  obtain ⟨f3_0_0, f3_0_1⟩ := KK0.out (w3.alloc (.cells #[.int .i64 M, .int .i64 N] 23)) C0_3.out
  obtain ⟨f3_1_0, f3_1_1⟩ := KK1.out (w3.alloc (.cells #[.int .i64 M, .int .i64 N] 23)) C1_3.out
  obtain ⟨f3_2_0, f3_2_1⟩ := KK2.out (w3.alloc (.cells #[.int .i64 M, .int .i64 N] 23)) C2_3.out
  have f3_3_0 : (w3.alloc (.cells #[.int .i64 M, .int .i64 N] 23)).cell? ⟨w3.heap.size, 0, none⟩ = some (.int .i64 M) := by go_simp
  have f3_3_1 : (w3.alloc (.cells #[.int .i64 M, .int .i64 N] 23)).cell? ⟨w3.heap.size, 1, none⟩ = some (.int .i64 N) := by go_simp
  have KK3 := Lib.hid (show ∀ W, Below (w3.alloc (.cells #[.int .i64 M, .int .i64 N] 23)).heap.size (w3.alloc (.cells #[.int .i64 M, .int .i64 N] 23)) W → W.cell? ⟨w3.heap.size, 0, none⟩ = some (.int .i64 M) ∧ W.cell? ⟨w3.heap.size, 1, none⟩ = some (.int .i64 N) from fun W h => ⟨(h.cell (p := ⟨w3.heap.size, 0, none⟩) (blt f3_3_0)).trans f3_3_0, (h.cell (p := ⟨w3.heap.size, 1, none⟩) (blt f3_3_1)).trans f3_3_1⟩)
  have C3_3 := Lib.hid (Below.refl (w3.alloc (.cells #[.int .i64 M, .int .i64 N] 23)).heap.size (w3.alloc (.cells #[.int .i64 M, .int .i64 N] 23)))
  go_wp2_with fail
  refine (H1.out _).mono ?_; rintro e w4 ⟨rfl, hb⟩
  have B4 : RowKit.Hid (Below w.heap.size w w4) := Lib.hid (btr B3.out hb)
  have C0_4 : RowKit.Hid (Below U.heap.size U w4) := Lib.hid (btr C0_3.out hb)
  have C1_4 : RowKit.Hid (Below U.heap.size U w4) := Lib.hid (btr C1_3.out hb)
  have C2_4 : RowKit.Hid (Below (w2.alloc (.cells #[.int .i64 M, .int .i64 N] 23)).heap.size (w2.alloc (.cells #[.int .i64 M, .int .i64 N] 23)) w4) := Lib.hid (btr C2_3.out hb)
  have C3_4 : RowKit.Hid (Below (w3.alloc (.cells #[.int .i64 M, .int .i64 N] 23)).heap.size (w3.alloc (.cells #[.int .i64 M, .int .i64 N] 23)) w4) := Lib.hid (btr C3_3.out hb)
  clear f3_0_0 f3_0_1 f3_1_0 f3_1_1 f3_2_0 f3_2_1 f3_3_0 f3_3_1 hb
  obtain ⟨f4_0_0, f4_0_1⟩ := KK0.out w4 C0_4.out
  obtain ⟨f4_1_0, f4_1_1⟩ := KK1.out w4 C1_4.out
  obtain ⟨f4_2_0, f4_2_1⟩ := KK2.out w4 C2_4.out
  obtain ⟨f4_3_0, f4_3_1⟩ := KK3.out w4 C3_4.out
  go_wp2
  go_ret
  exact ⟨ret_bool (by first | rfl | (simp <;> omega)), B4.out⟩

set_option maxRecDepth 100000 in
set_option maxHeartbeats 4000000 in
theorem meetL_b (F T G U0 n M N : Int) (w : World) (hL : Laid w) (S0 : Hid (∀ W, Laid W → Calls Tryd.prog 6 #[] W fun x w' => x = .returned (.bool true) ∧ Below W.heap.size W w')) (M1 : Hid (∀ W, Calls Tryd.prog 13 #[.agg #[.int .i64 F, .int .i64 T], .agg #[.int .i64 G, .int .i64 U0]] W fun x w' => x = .returned (.tuple #[.agg #[.int .i64 M, .int .i64 N], .bool false]) ∧ Below W.heap.size W w')) (M2 : Hid (∀ W, Calls Tryd.prog 13 #[.agg #[.int .i64 G, .int .i64 U0], .agg #[.int .i64 F, .int .i64 T]] W fun x w' => x = .returned (.tuple #[.agg #[.int .i64 M, .int .i64 N], .bool false]) ∧ Below W.heap.size W w')) (H1 : Hid (∀ W, Calls Tryd.prog 14 #[.agg #[.int .i64 F, .int .i64 T], .int .i64 n] W fun x w' => x = .returned (.bool true) ∧ Below W.heap.size W w')) (H2 : Hid (∀ W, Calls Tryd.prog 14 #[.agg #[.int .i64 G, .int .i64 U0], .int .i64 n] W fun x w' => x = .returned (.bool false) ∧ Below W.heap.size W w')) : Calls Tryd.prog 4 #[.agg #[.int .i64 F, .int .i64 T], .agg #[.int .i64 G, .int .i64 U0], .int .i64 n] w fun x w' => x = .returned (.bool true) ∧ Below w.heap.size w w' := by
  have HL := Lib.hid hL
  clear hL
  go_enter Tryd.func4, Tryd.ntmps4
  go_wp2_with fail
  have x0_0 : ((w.alloc (.cells #[.int .i64 F, .int .i64 T] 23)).alloc (.cells #[.int .i64 G, .int .i64 U0] 23)).cell? ⟨w.heap.size, 0, none⟩ = some (.int .i64 F) := by go_simp
  have x0_1 : ((w.alloc (.cells #[.int .i64 F, .int .i64 T] 23)).alloc (.cells #[.int .i64 G, .int .i64 U0] 23)).cell? ⟨w.heap.size, 1, none⟩ = some (.int .i64 T) := by go_simp
  have x1_0 : ((w.alloc (.cells #[.int .i64 F, .int .i64 T] 23)).alloc (.cells #[.int .i64 G, .int .i64 U0] 23)).cell? ⟨w.heap.size + 1, 0, none⟩ = some (.int .i64 G) := by go_simp
  have x1_1 : ((w.alloc (.cells #[.int .i64 F, .int .i64 T] 23)).alloc (.cells #[.int .i64 G, .int .i64 U0] 23)).cell? ⟨w.heap.size + 1, 1, none⟩ = some (.int .i64 U0) := by go_simp
  have B0 : Below w.heap.size w ((w.alloc (.cells #[.int .i64 F, .int .i64 T] 23)).alloc (.cells #[.int .i64 G, .int .i64 U0] 23)) := (bal ((bal (Below.refl _ w) _)) _)
  generalize ((w.alloc (.cells #[.int .i64 F, .int .i64 T] 23)).alloc (.cells #[.int .i64 G, .int .i64 U0] 23)) = U at *
  have KK0 := Lib.hid (show ∀ W, Below U.heap.size U W → W.cell? ⟨w.heap.size, 0, none⟩ = some (.int .i64 F) ∧ W.cell? ⟨w.heap.size, 1, none⟩ = some (.int .i64 T) from fun W h => ⟨(h.cell (p := ⟨w.heap.size, 0, none⟩) (blt x0_0)).trans x0_0, (h.cell (p := ⟨w.heap.size, 1, none⟩) (blt x0_1)).trans x0_1⟩)
  have KK1 := Lib.hid (show ∀ W, Below U.heap.size U W → W.cell? ⟨w.heap.size + 1, 0, none⟩ = some (.int .i64 G) ∧ W.cell? ⟨w.heap.size + 1, 1, none⟩ = some (.int .i64 U0) from fun W h => ⟨(h.cell (p := ⟨w.heap.size + 1, 0, none⟩) (blt x1_0)).trans x1_0, (h.cell (p := ⟨w.heap.size + 1, 1, none⟩) (blt x1_1)).trans x1_1⟩)
  have C0_0 := Lib.hid (Below.refl U.heap.size U)
  have C1_0 := Lib.hid (Below.refl U.heap.size U)
  replace B0 := Lib.hid B0
  refine (S0.out _ (HL.out.on B0.out)).mono ?_; rintro e w1 ⟨rfl, hb⟩
  have B1 : RowKit.Hid (Below w.heap.size w w1) := Lib.hid (btr B0.out hb)
  have C0_1 : RowKit.Hid (Below U.heap.size U w1) := Lib.hid (btr C0_0.out hb)
  have C1_1 : RowKit.Hid (Below U.heap.size U w1) := Lib.hid (btr C1_0.out hb)
  clear x0_0 x0_1 x1_0 x1_1 hb
  obtain ⟨f1_0_0, f1_0_1⟩ := KK0.out w1 C0_1.out
  obtain ⟨f1_1_0, f1_1_1⟩ := KK1.out w1 C1_1.out
  go_wp2_with fail
  refine (M1.out _).mono ?_; rintro e w2 ⟨rfl, hb⟩
  have B2 : RowKit.Hid (Below w.heap.size w (w2.alloc (.cells #[.int .i64 M, .int .i64 N] 23))) := Lib.hid (bal (btr B1.out hb) _)
  have C0_2 : RowKit.Hid (Below U.heap.size U (w2.alloc (.cells #[.int .i64 M, .int .i64 N] 23))) := Lib.hid (bal (btr C0_1.out hb) _)
  have C1_2 : RowKit.Hid (Below U.heap.size U (w2.alloc (.cells #[.int .i64 M, .int .i64 N] 23))) := Lib.hid (bal (btr C1_1.out hb) _)
  clear f1_0_0 f1_0_1 f1_1_0 f1_1_1 hb
  obtain ⟨f2_0_0, f2_0_1⟩ := KK0.out (w2.alloc (.cells #[.int .i64 M, .int .i64 N] 23)) C0_2.out
  obtain ⟨f2_1_0, f2_1_1⟩ := KK1.out (w2.alloc (.cells #[.int .i64 M, .int .i64 N] 23)) C1_2.out
  have f2_2_0 : (w2.alloc (.cells #[.int .i64 M, .int .i64 N] 23)).cell? ⟨w2.heap.size, 0, none⟩ = some (.int .i64 M) := by go_simp
  have f2_2_1 : (w2.alloc (.cells #[.int .i64 M, .int .i64 N] 23)).cell? ⟨w2.heap.size, 1, none⟩ = some (.int .i64 N) := by go_simp
  have KK2 := Lib.hid (show ∀ W, Below (w2.alloc (.cells #[.int .i64 M, .int .i64 N] 23)).heap.size (w2.alloc (.cells #[.int .i64 M, .int .i64 N] 23)) W → W.cell? ⟨w2.heap.size, 0, none⟩ = some (.int .i64 M) ∧ W.cell? ⟨w2.heap.size, 1, none⟩ = some (.int .i64 N) from fun W h => ⟨(h.cell (p := ⟨w2.heap.size, 0, none⟩) (blt f2_2_0)).trans f2_2_0, (h.cell (p := ⟨w2.heap.size, 1, none⟩) (blt f2_2_1)).trans f2_2_1⟩)
  have C2_2 := Lib.hid (Below.refl (w2.alloc (.cells #[.int .i64 M, .int .i64 N] 23)).heap.size (w2.alloc (.cells #[.int .i64 M, .int .i64 N] 23)))
  go_wp2_with fail
  refine (M2.out _).mono ?_; rintro e w3 ⟨rfl, hb⟩
  have B3 : RowKit.Hid (Below w.heap.size w (w3.alloc (.cells #[.int .i64 M, .int .i64 N] 23))) := Lib.hid (bal (btr B2.out hb) _)
  have C0_3 : RowKit.Hid (Below U.heap.size U (w3.alloc (.cells #[.int .i64 M, .int .i64 N] 23))) := Lib.hid (bal (btr C0_2.out hb) _)
  have C1_3 : RowKit.Hid (Below U.heap.size U (w3.alloc (.cells #[.int .i64 M, .int .i64 N] 23))) := Lib.hid (bal (btr C1_2.out hb) _)
  have C2_3 : RowKit.Hid (Below (w2.alloc (.cells #[.int .i64 M, .int .i64 N] 23)).heap.size (w2.alloc (.cells #[.int .i64 M, .int .i64 N] 23)) (w3.alloc (.cells #[.int .i64 M, .int .i64 N] 23))) := Lib.hid (bal (btr C2_2.out hb) _)
  clear f2_0_0 f2_0_1 f2_1_0 f2_1_1 f2_2_0 f2_2_1 hb
  obtain ⟨f3_0_0, f3_0_1⟩ := KK0.out (w3.alloc (.cells #[.int .i64 M, .int .i64 N] 23)) C0_3.out
  obtain ⟨f3_1_0, f3_1_1⟩ := KK1.out (w3.alloc (.cells #[.int .i64 M, .int .i64 N] 23)) C1_3.out
  obtain ⟨f3_2_0, f3_2_1⟩ := KK2.out (w3.alloc (.cells #[.int .i64 M, .int .i64 N] 23)) C2_3.out
  have f3_3_0 : (w3.alloc (.cells #[.int .i64 M, .int .i64 N] 23)).cell? ⟨w3.heap.size, 0, none⟩ = some (.int .i64 M) := by go_simp
  have f3_3_1 : (w3.alloc (.cells #[.int .i64 M, .int .i64 N] 23)).cell? ⟨w3.heap.size, 1, none⟩ = some (.int .i64 N) := by go_simp
  have KK3 := Lib.hid (show ∀ W, Below (w3.alloc (.cells #[.int .i64 M, .int .i64 N] 23)).heap.size (w3.alloc (.cells #[.int .i64 M, .int .i64 N] 23)) W → W.cell? ⟨w3.heap.size, 0, none⟩ = some (.int .i64 M) ∧ W.cell? ⟨w3.heap.size, 1, none⟩ = some (.int .i64 N) from fun W h => ⟨(h.cell (p := ⟨w3.heap.size, 0, none⟩) (blt f3_3_0)).trans f3_3_0, (h.cell (p := ⟨w3.heap.size, 1, none⟩) (blt f3_3_1)).trans f3_3_1⟩)
  have C3_3 := Lib.hid (Below.refl (w3.alloc (.cells #[.int .i64 M, .int .i64 N] 23)).heap.size (w3.alloc (.cells #[.int .i64 M, .int .i64 N] 23)))
  go_wp2_with fail
  refine (H1.out _).mono ?_; rintro e w4 ⟨rfl, hb⟩
  have B4 : RowKit.Hid (Below w.heap.size w w4) := Lib.hid (btr B3.out hb)
  have C0_4 : RowKit.Hid (Below U.heap.size U w4) := Lib.hid (btr C0_3.out hb)
  have C1_4 : RowKit.Hid (Below U.heap.size U w4) := Lib.hid (btr C1_3.out hb)
  have C2_4 : RowKit.Hid (Below (w2.alloc (.cells #[.int .i64 M, .int .i64 N] 23)).heap.size (w2.alloc (.cells #[.int .i64 M, .int .i64 N] 23)) w4) := Lib.hid (btr C2_3.out hb)
  have C3_4 : RowKit.Hid (Below (w3.alloc (.cells #[.int .i64 M, .int .i64 N] 23)).heap.size (w3.alloc (.cells #[.int .i64 M, .int .i64 N] 23)) w4) := Lib.hid (btr C3_3.out hb)
  clear f3_0_0 f3_0_1 f3_1_0 f3_1_1 f3_2_0 f3_2_1 f3_3_0 f3_3_1 hb
  obtain ⟨f4_0_0, f4_0_1⟩ := KK0.out w4 C0_4.out
  obtain ⟨f4_1_0, f4_1_1⟩ := KK1.out w4 C1_4.out
  obtain ⟨f4_2_0, f4_2_1⟩ := KK2.out w4 C2_4.out
  obtain ⟨f4_3_0, f4_3_1⟩ := KK3.out w4 C3_4.out
  go_wp2_with fail
  refine (H2.out _).mono ?_; rintro e w5 ⟨rfl, hb⟩
  have B5 : RowKit.Hid (Below w.heap.size w w5) := Lib.hid (btr B4.out hb)
  have C0_5 : RowKit.Hid (Below U.heap.size U w5) := Lib.hid (btr C0_4.out hb)
  have C1_5 : RowKit.Hid (Below U.heap.size U w5) := Lib.hid (btr C1_4.out hb)
  have C2_5 : RowKit.Hid (Below (w2.alloc (.cells #[.int .i64 M, .int .i64 N] 23)).heap.size (w2.alloc (.cells #[.int .i64 M, .int .i64 N] 23)) w5) := Lib.hid (btr C2_4.out hb)
  have C3_5 : RowKit.Hid (Below (w3.alloc (.cells #[.int .i64 M, .int .i64 N] 23)).heap.size (w3.alloc (.cells #[.int .i64 M, .int .i64 N] 23)) w5) := Lib.hid (btr C3_4.out hb)
  clear f4_0_0 f4_0_1 f4_1_0 f4_1_1 f4_2_0 f4_2_1 f4_3_0 f4_3_1 hb
  obtain ⟨f5_0_0, f5_0_1⟩ := KK0.out w5 C0_5.out
  obtain ⟨f5_1_0, f5_1_1⟩ := KK1.out w5 C1_5.out
  obtain ⟨f5_2_0, f5_2_1⟩ := KK2.out w5 C2_5.out
  obtain ⟨f5_3_0, f5_3_1⟩ := KK3.out w5 C3_5.out
  go_wp2
  go_ret
  exact ⟨ret_bool (by first | rfl | (simp <;> omega)), B5.out⟩

set_option maxRecDepth 100000 in
set_option maxHeartbeats 4000000 in
theorem meetL_c (F T G U0 n M N : Int) (w : World) (hL : Laid w) (S0 : Hid (∀ W, Laid W → Calls Tryd.prog 6 #[] W fun x w' => x = .returned (.bool true) ∧ Below W.heap.size W w')) (M1 : Hid (∀ W, Calls Tryd.prog 13 #[.agg #[.int .i64 F, .int .i64 T], .agg #[.int .i64 G, .int .i64 U0]] W fun x w' => x = .returned (.tuple #[.agg #[.int .i64 M, .int .i64 N], .bool true]) ∧ Below W.heap.size W w')) (M2 : Hid (∀ W, Calls Tryd.prog 13 #[.agg #[.int .i64 G, .int .i64 U0], .agg #[.int .i64 F, .int .i64 T]] W fun x w' => x = .returned (.tuple #[.agg #[.int .i64 M, .int .i64 N], .bool true]) ∧ Below W.heap.size W w')) (H1 : Hid (∀ W, Calls Tryd.prog 14 #[.agg #[.int .i64 F, .int .i64 T], .int .i64 n] W fun x w' => x = .returned (.bool false) ∧ Below W.heap.size W w')) (R1 : Hid (∀ W, Calls Tryd.prog 12 #[.agg #[.int .i64 M, .int .i64 N]] W fun x w' => x = .returned (.bool true) ∧ Below W.heap.size W w')) (H3 : Hid (∀ W, Calls Tryd.prog 14 #[.agg #[.int .i64 M, .int .i64 N], .int .i64 n] W fun x w' => x = .returned (.bool false) ∧ Below W.heap.size W w')) : Calls Tryd.prog 4 #[.agg #[.int .i64 F, .int .i64 T], .agg #[.int .i64 G, .int .i64 U0], .int .i64 n] w fun x w' => x = .returned (.bool true) ∧ Below w.heap.size w w' := by
  have HL := Lib.hid hL
  clear hL
  go_enter Tryd.func4, Tryd.ntmps4
  go_wp2_with fail
  have x0_0 : ((w.alloc (.cells #[.int .i64 F, .int .i64 T] 23)).alloc (.cells #[.int .i64 G, .int .i64 U0] 23)).cell? ⟨w.heap.size, 0, none⟩ = some (.int .i64 F) := by go_simp
  have x0_1 : ((w.alloc (.cells #[.int .i64 F, .int .i64 T] 23)).alloc (.cells #[.int .i64 G, .int .i64 U0] 23)).cell? ⟨w.heap.size, 1, none⟩ = some (.int .i64 T) := by go_simp
  have x1_0 : ((w.alloc (.cells #[.int .i64 F, .int .i64 T] 23)).alloc (.cells #[.int .i64 G, .int .i64 U0] 23)).cell? ⟨w.heap.size + 1, 0, none⟩ = some (.int .i64 G) := by go_simp
  have x1_1 : ((w.alloc (.cells #[.int .i64 F, .int .i64 T] 23)).alloc (.cells #[.int .i64 G, .int .i64 U0] 23)).cell? ⟨w.heap.size + 1, 1, none⟩ = some (.int .i64 U0) := by go_simp
  have B0 : Below w.heap.size w ((w.alloc (.cells #[.int .i64 F, .int .i64 T] 23)).alloc (.cells #[.int .i64 G, .int .i64 U0] 23)) := (bal ((bal (Below.refl _ w) _)) _)
  generalize ((w.alloc (.cells #[.int .i64 F, .int .i64 T] 23)).alloc (.cells #[.int .i64 G, .int .i64 U0] 23)) = U at *
  have KK0 := Lib.hid (show ∀ W, Below U.heap.size U W → W.cell? ⟨w.heap.size, 0, none⟩ = some (.int .i64 F) ∧ W.cell? ⟨w.heap.size, 1, none⟩ = some (.int .i64 T) from fun W h => ⟨(h.cell (p := ⟨w.heap.size, 0, none⟩) (blt x0_0)).trans x0_0, (h.cell (p := ⟨w.heap.size, 1, none⟩) (blt x0_1)).trans x0_1⟩)
  have KK1 := Lib.hid (show ∀ W, Below U.heap.size U W → W.cell? ⟨w.heap.size + 1, 0, none⟩ = some (.int .i64 G) ∧ W.cell? ⟨w.heap.size + 1, 1, none⟩ = some (.int .i64 U0) from fun W h => ⟨(h.cell (p := ⟨w.heap.size + 1, 0, none⟩) (blt x1_0)).trans x1_0, (h.cell (p := ⟨w.heap.size + 1, 1, none⟩) (blt x1_1)).trans x1_1⟩)
  have C0_0 := Lib.hid (Below.refl U.heap.size U)
  have C1_0 := Lib.hid (Below.refl U.heap.size U)
  replace B0 := Lib.hid B0
  refine (S0.out _ (HL.out.on B0.out)).mono ?_; rintro e w1 ⟨rfl, hb⟩
  have B1 : RowKit.Hid (Below w.heap.size w w1) := Lib.hid (btr B0.out hb)
  have C0_1 : RowKit.Hid (Below U.heap.size U w1) := Lib.hid (btr C0_0.out hb)
  have C1_1 : RowKit.Hid (Below U.heap.size U w1) := Lib.hid (btr C1_0.out hb)
  clear x0_0 x0_1 x1_0 x1_1 hb
  obtain ⟨f1_0_0, f1_0_1⟩ := KK0.out w1 C0_1.out
  obtain ⟨f1_1_0, f1_1_1⟩ := KK1.out w1 C1_1.out
  go_wp2_with fail
  refine (M1.out _).mono ?_; rintro e w2 ⟨rfl, hb⟩
  have B2 : RowKit.Hid (Below w.heap.size w (w2.alloc (.cells #[.int .i64 M, .int .i64 N] 23))) := Lib.hid (bal (btr B1.out hb) _)
  have C0_2 : RowKit.Hid (Below U.heap.size U (w2.alloc (.cells #[.int .i64 M, .int .i64 N] 23))) := Lib.hid (bal (btr C0_1.out hb) _)
  have C1_2 : RowKit.Hid (Below U.heap.size U (w2.alloc (.cells #[.int .i64 M, .int .i64 N] 23))) := Lib.hid (bal (btr C1_1.out hb) _)
  clear f1_0_0 f1_0_1 f1_1_0 f1_1_1 hb
  obtain ⟨f2_0_0, f2_0_1⟩ := KK0.out (w2.alloc (.cells #[.int .i64 M, .int .i64 N] 23)) C0_2.out
  obtain ⟨f2_1_0, f2_1_1⟩ := KK1.out (w2.alloc (.cells #[.int .i64 M, .int .i64 N] 23)) C1_2.out
  have f2_2_0 : (w2.alloc (.cells #[.int .i64 M, .int .i64 N] 23)).cell? ⟨w2.heap.size, 0, none⟩ = some (.int .i64 M) := by go_simp
  have f2_2_1 : (w2.alloc (.cells #[.int .i64 M, .int .i64 N] 23)).cell? ⟨w2.heap.size, 1, none⟩ = some (.int .i64 N) := by go_simp
  have KK2 := Lib.hid (show ∀ W, Below (w2.alloc (.cells #[.int .i64 M, .int .i64 N] 23)).heap.size (w2.alloc (.cells #[.int .i64 M, .int .i64 N] 23)) W → W.cell? ⟨w2.heap.size, 0, none⟩ = some (.int .i64 M) ∧ W.cell? ⟨w2.heap.size, 1, none⟩ = some (.int .i64 N) from fun W h => ⟨(h.cell (p := ⟨w2.heap.size, 0, none⟩) (blt f2_2_0)).trans f2_2_0, (h.cell (p := ⟨w2.heap.size, 1, none⟩) (blt f2_2_1)).trans f2_2_1⟩)
  have C2_2 := Lib.hid (Below.refl (w2.alloc (.cells #[.int .i64 M, .int .i64 N] 23)).heap.size (w2.alloc (.cells #[.int .i64 M, .int .i64 N] 23)))
  go_wp2_with fail
  refine (M2.out _).mono ?_; rintro e w3 ⟨rfl, hb⟩
  have B3 : RowKit.Hid (Below w.heap.size w (w3.alloc (.cells #[.int .i64 M, .int .i64 N] 23))) := Lib.hid (bal (btr B2.out hb) _)
  have C0_3 : RowKit.Hid (Below U.heap.size U (w3.alloc (.cells #[.int .i64 M, .int .i64 N] 23))) := Lib.hid (bal (btr C0_2.out hb) _)
  have C1_3 : RowKit.Hid (Below U.heap.size U (w3.alloc (.cells #[.int .i64 M, .int .i64 N] 23))) := Lib.hid (bal (btr C1_2.out hb) _)
  have C2_3 : RowKit.Hid (Below (w2.alloc (.cells #[.int .i64 M, .int .i64 N] 23)).heap.size (w2.alloc (.cells #[.int .i64 M, .int .i64 N] 23)) (w3.alloc (.cells #[.int .i64 M, .int .i64 N] 23))) := Lib.hid (bal (btr C2_2.out hb) _)
  clear f2_0_0 f2_0_1 f2_1_0 f2_1_1 f2_2_0 f2_2_1 hb
  obtain ⟨f3_0_0, f3_0_1⟩ := KK0.out (w3.alloc (.cells #[.int .i64 M, .int .i64 N] 23)) C0_3.out
  obtain ⟨f3_1_0, f3_1_1⟩ := KK1.out (w3.alloc (.cells #[.int .i64 M, .int .i64 N] 23)) C1_3.out
  obtain ⟨f3_2_0, f3_2_1⟩ := KK2.out (w3.alloc (.cells #[.int .i64 M, .int .i64 N] 23)) C2_3.out
  have f3_3_0 : (w3.alloc (.cells #[.int .i64 M, .int .i64 N] 23)).cell? ⟨w3.heap.size, 0, none⟩ = some (.int .i64 M) := by go_simp
  have f3_3_1 : (w3.alloc (.cells #[.int .i64 M, .int .i64 N] 23)).cell? ⟨w3.heap.size, 1, none⟩ = some (.int .i64 N) := by go_simp
  have KK3 := Lib.hid (show ∀ W, Below (w3.alloc (.cells #[.int .i64 M, .int .i64 N] 23)).heap.size (w3.alloc (.cells #[.int .i64 M, .int .i64 N] 23)) W → W.cell? ⟨w3.heap.size, 0, none⟩ = some (.int .i64 M) ∧ W.cell? ⟨w3.heap.size, 1, none⟩ = some (.int .i64 N) from fun W h => ⟨(h.cell (p := ⟨w3.heap.size, 0, none⟩) (blt f3_3_0)).trans f3_3_0, (h.cell (p := ⟨w3.heap.size, 1, none⟩) (blt f3_3_1)).trans f3_3_1⟩)
  have C3_3 := Lib.hid (Below.refl (w3.alloc (.cells #[.int .i64 M, .int .i64 N] 23)).heap.size (w3.alloc (.cells #[.int .i64 M, .int .i64 N] 23)))
  go_wp2_with fail
  refine (H1.out _).mono ?_; rintro e w4 ⟨rfl, hb⟩
  have B4 : RowKit.Hid (Below w.heap.size w w4) := Lib.hid (btr B3.out hb)
  have C0_4 : RowKit.Hid (Below U.heap.size U w4) := Lib.hid (btr C0_3.out hb)
  have C1_4 : RowKit.Hid (Below U.heap.size U w4) := Lib.hid (btr C1_3.out hb)
  have C2_4 : RowKit.Hid (Below (w2.alloc (.cells #[.int .i64 M, .int .i64 N] 23)).heap.size (w2.alloc (.cells #[.int .i64 M, .int .i64 N] 23)) w4) := Lib.hid (btr C2_3.out hb)
  have C3_4 : RowKit.Hid (Below (w3.alloc (.cells #[.int .i64 M, .int .i64 N] 23)).heap.size (w3.alloc (.cells #[.int .i64 M, .int .i64 N] 23)) w4) := Lib.hid (btr C3_3.out hb)
  clear f3_0_0 f3_0_1 f3_1_0 f3_1_1 f3_2_0 f3_2_1 f3_3_0 f3_3_1 hb
  obtain ⟨f4_0_0, f4_0_1⟩ := KK0.out w4 C0_4.out
  obtain ⟨f4_1_0, f4_1_1⟩ := KK1.out w4 C1_4.out
  obtain ⟨f4_2_0, f4_2_1⟩ := KK2.out w4 C2_4.out
  obtain ⟨f4_3_0, f4_3_1⟩ := KK3.out w4 C3_4.out
  go_wp2_with fail
  refine (R1.out _).mono ?_; rintro e w5 ⟨rfl, hb⟩
  have B5 : RowKit.Hid (Below w.heap.size w w5) := Lib.hid (btr B4.out hb)
  have C0_5 : RowKit.Hid (Below U.heap.size U w5) := Lib.hid (btr C0_4.out hb)
  have C1_5 : RowKit.Hid (Below U.heap.size U w5) := Lib.hid (btr C1_4.out hb)
  have C2_5 : RowKit.Hid (Below (w2.alloc (.cells #[.int .i64 M, .int .i64 N] 23)).heap.size (w2.alloc (.cells #[.int .i64 M, .int .i64 N] 23)) w5) := Lib.hid (btr C2_4.out hb)
  have C3_5 : RowKit.Hid (Below (w3.alloc (.cells #[.int .i64 M, .int .i64 N] 23)).heap.size (w3.alloc (.cells #[.int .i64 M, .int .i64 N] 23)) w5) := Lib.hid (btr C3_4.out hb)
  clear f4_0_0 f4_0_1 f4_1_0 f4_1_1 f4_2_0 f4_2_1 f4_3_0 f4_3_1 hb
  obtain ⟨f5_0_0, f5_0_1⟩ := KK0.out w5 C0_5.out
  obtain ⟨f5_1_0, f5_1_1⟩ := KK1.out w5 C1_5.out
  obtain ⟨f5_2_0, f5_2_1⟩ := KK2.out w5 C2_5.out
  obtain ⟨f5_3_0, f5_3_1⟩ := KK3.out w5 C3_5.out
  go_wp2_with fail
  refine (H3.out _).mono ?_; rintro e w6 ⟨rfl, hb⟩
  have B6 : RowKit.Hid (Below w.heap.size w w6) := Lib.hid (btr B5.out hb)
  have C0_6 : RowKit.Hid (Below U.heap.size U w6) := Lib.hid (btr C0_5.out hb)
  have C1_6 : RowKit.Hid (Below U.heap.size U w6) := Lib.hid (btr C1_5.out hb)
  have C2_6 : RowKit.Hid (Below (w2.alloc (.cells #[.int .i64 M, .int .i64 N] 23)).heap.size (w2.alloc (.cells #[.int .i64 M, .int .i64 N] 23)) w6) := Lib.hid (btr C2_5.out hb)
  have C3_6 : RowKit.Hid (Below (w3.alloc (.cells #[.int .i64 M, .int .i64 N] 23)).heap.size (w3.alloc (.cells #[.int .i64 M, .int .i64 N] 23)) w6) := Lib.hid (btr C3_5.out hb)
  clear f5_0_0 f5_0_1 f5_1_0 f5_1_1 f5_2_0 f5_2_1 f5_3_0 f5_3_1 hb
  obtain ⟨f6_0_0, f6_0_1⟩ := KK0.out w6 C0_6.out
  obtain ⟨f6_1_0, f6_1_1⟩ := KK1.out w6 C1_6.out
  obtain ⟨f6_2_0, f6_2_1⟩ := KK2.out w6 C2_6.out
  obtain ⟨f6_3_0, f6_3_1⟩ := KK3.out w6 C3_6.out
  go_wp2
  go_ret
  exact ⟨ret_bool (by first | rfl | (simp <;> omega)), B6.out⟩

set_option maxRecDepth 100000 in
set_option maxHeartbeats 4000000 in
theorem meetL_d (F T G U0 n M N : Int) (w : World) (hL : Laid w) (S0 : Hid (∀ W, Laid W → Calls Tryd.prog 6 #[] W fun x w' => x = .returned (.bool true) ∧ Below W.heap.size W w')) (M1 : Hid (∀ W, Calls Tryd.prog 13 #[.agg #[.int .i64 F, .int .i64 T], .agg #[.int .i64 G, .int .i64 U0]] W fun x w' => x = .returned (.tuple #[.agg #[.int .i64 M, .int .i64 N], .bool true]) ∧ Below W.heap.size W w')) (M2 : Hid (∀ W, Calls Tryd.prog 13 #[.agg #[.int .i64 G, .int .i64 U0], .agg #[.int .i64 F, .int .i64 T]] W fun x w' => x = .returned (.tuple #[.agg #[.int .i64 M, .int .i64 N], .bool true]) ∧ Below W.heap.size W w')) (H1 : Hid (∀ W, Calls Tryd.prog 14 #[.agg #[.int .i64 F, .int .i64 T], .int .i64 n] W fun x w' => x = .returned (.bool true) ∧ Below W.heap.size W w')) (H2 : Hid (∀ W, Calls Tryd.prog 14 #[.agg #[.int .i64 G, .int .i64 U0], .int .i64 n] W fun x w' => x = .returned (.bool false) ∧ Below W.heap.size W w')) (R1 : Hid (∀ W, Calls Tryd.prog 12 #[.agg #[.int .i64 M, .int .i64 N]] W fun x w' => x = .returned (.bool true) ∧ Below W.heap.size W w')) (H3 : Hid (∀ W, Calls Tryd.prog 14 #[.agg #[.int .i64 M, .int .i64 N], .int .i64 n] W fun x w' => x = .returned (.bool false) ∧ Below W.heap.size W w')) : Calls Tryd.prog 4 #[.agg #[.int .i64 F, .int .i64 T], .agg #[.int .i64 G, .int .i64 U0], .int .i64 n] w fun x w' => x = .returned (.bool true) ∧ Below w.heap.size w w' := by
  have HL := Lib.hid hL
  clear hL
  go_enter Tryd.func4, Tryd.ntmps4
  go_wp2_with fail
  have x0_0 : ((w.alloc (.cells #[.int .i64 F, .int .i64 T] 23)).alloc (.cells #[.int .i64 G, .int .i64 U0] 23)).cell? ⟨w.heap.size, 0, none⟩ = some (.int .i64 F) := by go_simp
  have x0_1 : ((w.alloc (.cells #[.int .i64 F, .int .i64 T] 23)).alloc (.cells #[.int .i64 G, .int .i64 U0] 23)).cell? ⟨w.heap.size, 1, none⟩ = some (.int .i64 T) := by go_simp
  have x1_0 : ((w.alloc (.cells #[.int .i64 F, .int .i64 T] 23)).alloc (.cells #[.int .i64 G, .int .i64 U0] 23)).cell? ⟨w.heap.size + 1, 0, none⟩ = some (.int .i64 G) := by go_simp
  have x1_1 : ((w.alloc (.cells #[.int .i64 F, .int .i64 T] 23)).alloc (.cells #[.int .i64 G, .int .i64 U0] 23)).cell? ⟨w.heap.size + 1, 1, none⟩ = some (.int .i64 U0) := by go_simp
  have B0 : Below w.heap.size w ((w.alloc (.cells #[.int .i64 F, .int .i64 T] 23)).alloc (.cells #[.int .i64 G, .int .i64 U0] 23)) := (bal ((bal (Below.refl _ w) _)) _)
  generalize ((w.alloc (.cells #[.int .i64 F, .int .i64 T] 23)).alloc (.cells #[.int .i64 G, .int .i64 U0] 23)) = U at *
  have KK0 := Lib.hid (show ∀ W, Below U.heap.size U W → W.cell? ⟨w.heap.size, 0, none⟩ = some (.int .i64 F) ∧ W.cell? ⟨w.heap.size, 1, none⟩ = some (.int .i64 T) from fun W h => ⟨(h.cell (p := ⟨w.heap.size, 0, none⟩) (blt x0_0)).trans x0_0, (h.cell (p := ⟨w.heap.size, 1, none⟩) (blt x0_1)).trans x0_1⟩)
  have KK1 := Lib.hid (show ∀ W, Below U.heap.size U W → W.cell? ⟨w.heap.size + 1, 0, none⟩ = some (.int .i64 G) ∧ W.cell? ⟨w.heap.size + 1, 1, none⟩ = some (.int .i64 U0) from fun W h => ⟨(h.cell (p := ⟨w.heap.size + 1, 0, none⟩) (blt x1_0)).trans x1_0, (h.cell (p := ⟨w.heap.size + 1, 1, none⟩) (blt x1_1)).trans x1_1⟩)
  have C0_0 := Lib.hid (Below.refl U.heap.size U)
  have C1_0 := Lib.hid (Below.refl U.heap.size U)
  replace B0 := Lib.hid B0
  refine (S0.out _ (HL.out.on B0.out)).mono ?_; rintro e w1 ⟨rfl, hb⟩
  have B1 : RowKit.Hid (Below w.heap.size w w1) := Lib.hid (btr B0.out hb)
  have C0_1 : RowKit.Hid (Below U.heap.size U w1) := Lib.hid (btr C0_0.out hb)
  have C1_1 : RowKit.Hid (Below U.heap.size U w1) := Lib.hid (btr C1_0.out hb)
  clear x0_0 x0_1 x1_0 x1_1 hb
  obtain ⟨f1_0_0, f1_0_1⟩ := KK0.out w1 C0_1.out
  obtain ⟨f1_1_0, f1_1_1⟩ := KK1.out w1 C1_1.out
  go_wp2_with fail
  refine (M1.out _).mono ?_; rintro e w2 ⟨rfl, hb⟩
  have B2 : RowKit.Hid (Below w.heap.size w (w2.alloc (.cells #[.int .i64 M, .int .i64 N] 23))) := Lib.hid (bal (btr B1.out hb) _)
  have C0_2 : RowKit.Hid (Below U.heap.size U (w2.alloc (.cells #[.int .i64 M, .int .i64 N] 23))) := Lib.hid (bal (btr C0_1.out hb) _)
  have C1_2 : RowKit.Hid (Below U.heap.size U (w2.alloc (.cells #[.int .i64 M, .int .i64 N] 23))) := Lib.hid (bal (btr C1_1.out hb) _)
  clear f1_0_0 f1_0_1 f1_1_0 f1_1_1 hb
  obtain ⟨f2_0_0, f2_0_1⟩ := KK0.out (w2.alloc (.cells #[.int .i64 M, .int .i64 N] 23)) C0_2.out
  obtain ⟨f2_1_0, f2_1_1⟩ := KK1.out (w2.alloc (.cells #[.int .i64 M, .int .i64 N] 23)) C1_2.out
  have f2_2_0 : (w2.alloc (.cells #[.int .i64 M, .int .i64 N] 23)).cell? ⟨w2.heap.size, 0, none⟩ = some (.int .i64 M) := by go_simp
  have f2_2_1 : (w2.alloc (.cells #[.int .i64 M, .int .i64 N] 23)).cell? ⟨w2.heap.size, 1, none⟩ = some (.int .i64 N) := by go_simp
  have KK2 := Lib.hid (show ∀ W, Below (w2.alloc (.cells #[.int .i64 M, .int .i64 N] 23)).heap.size (w2.alloc (.cells #[.int .i64 M, .int .i64 N] 23)) W → W.cell? ⟨w2.heap.size, 0, none⟩ = some (.int .i64 M) ∧ W.cell? ⟨w2.heap.size, 1, none⟩ = some (.int .i64 N) from fun W h => ⟨(h.cell (p := ⟨w2.heap.size, 0, none⟩) (blt f2_2_0)).trans f2_2_0, (h.cell (p := ⟨w2.heap.size, 1, none⟩) (blt f2_2_1)).trans f2_2_1⟩)
  have C2_2 := Lib.hid (Below.refl (w2.alloc (.cells #[.int .i64 M, .int .i64 N] 23)).heap.size (w2.alloc (.cells #[.int .i64 M, .int .i64 N] 23)))
  go_wp2_with fail
  refine (M2.out _).mono ?_; rintro e w3 ⟨rfl, hb⟩
  have B3 : RowKit.Hid (Below w.heap.size w (w3.alloc (.cells #[.int .i64 M, .int .i64 N] 23))) := Lib.hid (bal (btr B2.out hb) _)
  have C0_3 : RowKit.Hid (Below U.heap.size U (w3.alloc (.cells #[.int .i64 M, .int .i64 N] 23))) := Lib.hid (bal (btr C0_2.out hb) _)
  have C1_3 : RowKit.Hid (Below U.heap.size U (w3.alloc (.cells #[.int .i64 M, .int .i64 N] 23))) := Lib.hid (bal (btr C1_2.out hb) _)
  have C2_3 : RowKit.Hid (Below (w2.alloc (.cells #[.int .i64 M, .int .i64 N] 23)).heap.size (w2.alloc (.cells #[.int .i64 M, .int .i64 N] 23)) (w3.alloc (.cells #[.int .i64 M, .int .i64 N] 23))) := Lib.hid (bal (btr C2_2.out hb) _)
  clear f2_0_0 f2_0_1 f2_1_0 f2_1_1 f2_2_0 f2_2_1 hb
  obtain ⟨f3_0_0, f3_0_1⟩ := KK0.out (w3.alloc (.cells #[.int .i64 M, .int .i64 N] 23)) C0_3.out
  obtain ⟨f3_1_0, f3_1_1⟩ := KK1.out (w3.alloc (.cells #[.int .i64 M, .int .i64 N] 23)) C1_3.out
  obtain ⟨f3_2_0, f3_2_1⟩ := KK2.out (w3.alloc (.cells #[.int .i64 M, .int .i64 N] 23)) C2_3.out
  have f3_3_0 : (w3.alloc (.cells #[.int .i64 M, .int .i64 N] 23)).cell? ⟨w3.heap.size, 0, none⟩ = some (.int .i64 M) := by go_simp
  have f3_3_1 : (w3.alloc (.cells #[.int .i64 M, .int .i64 N] 23)).cell? ⟨w3.heap.size, 1, none⟩ = some (.int .i64 N) := by go_simp
  have KK3 := Lib.hid (show ∀ W, Below (w3.alloc (.cells #[.int .i64 M, .int .i64 N] 23)).heap.size (w3.alloc (.cells #[.int .i64 M, .int .i64 N] 23)) W → W.cell? ⟨w3.heap.size, 0, none⟩ = some (.int .i64 M) ∧ W.cell? ⟨w3.heap.size, 1, none⟩ = some (.int .i64 N) from fun W h => ⟨(h.cell (p := ⟨w3.heap.size, 0, none⟩) (blt f3_3_0)).trans f3_3_0, (h.cell (p := ⟨w3.heap.size, 1, none⟩) (blt f3_3_1)).trans f3_3_1⟩)
  have C3_3 := Lib.hid (Below.refl (w3.alloc (.cells #[.int .i64 M, .int .i64 N] 23)).heap.size (w3.alloc (.cells #[.int .i64 M, .int .i64 N] 23)))
  go_wp2_with fail
  refine (H1.out _).mono ?_; rintro e w4 ⟨rfl, hb⟩
  have B4 : RowKit.Hid (Below w.heap.size w w4) := Lib.hid (btr B3.out hb)
  have C0_4 : RowKit.Hid (Below U.heap.size U w4) := Lib.hid (btr C0_3.out hb)
  have C1_4 : RowKit.Hid (Below U.heap.size U w4) := Lib.hid (btr C1_3.out hb)
  have C2_4 : RowKit.Hid (Below (w2.alloc (.cells #[.int .i64 M, .int .i64 N] 23)).heap.size (w2.alloc (.cells #[.int .i64 M, .int .i64 N] 23)) w4) := Lib.hid (btr C2_3.out hb)
  have C3_4 : RowKit.Hid (Below (w3.alloc (.cells #[.int .i64 M, .int .i64 N] 23)).heap.size (w3.alloc (.cells #[.int .i64 M, .int .i64 N] 23)) w4) := Lib.hid (btr C3_3.out hb)
  clear f3_0_0 f3_0_1 f3_1_0 f3_1_1 f3_2_0 f3_2_1 f3_3_0 f3_3_1 hb
  obtain ⟨f4_0_0, f4_0_1⟩ := KK0.out w4 C0_4.out
  obtain ⟨f4_1_0, f4_1_1⟩ := KK1.out w4 C1_4.out
  obtain ⟨f4_2_0, f4_2_1⟩ := KK2.out w4 C2_4.out
  obtain ⟨f4_3_0, f4_3_1⟩ := KK3.out w4 C3_4.out
  go_wp2_with fail
  refine (H2.out _).mono ?_; rintro e w5 ⟨rfl, hb⟩
  have B5 : RowKit.Hid (Below w.heap.size w w5) := Lib.hid (btr B4.out hb)
  have C0_5 : RowKit.Hid (Below U.heap.size U w5) := Lib.hid (btr C0_4.out hb)
  have C1_5 : RowKit.Hid (Below U.heap.size U w5) := Lib.hid (btr C1_4.out hb)
  have C2_5 : RowKit.Hid (Below (w2.alloc (.cells #[.int .i64 M, .int .i64 N] 23)).heap.size (w2.alloc (.cells #[.int .i64 M, .int .i64 N] 23)) w5) := Lib.hid (btr C2_4.out hb)
  have C3_5 : RowKit.Hid (Below (w3.alloc (.cells #[.int .i64 M, .int .i64 N] 23)).heap.size (w3.alloc (.cells #[.int .i64 M, .int .i64 N] 23)) w5) := Lib.hid (btr C3_4.out hb)
  clear f4_0_0 f4_0_1 f4_1_0 f4_1_1 f4_2_0 f4_2_1 f4_3_0 f4_3_1 hb
  obtain ⟨f5_0_0, f5_0_1⟩ := KK0.out w5 C0_5.out
  obtain ⟨f5_1_0, f5_1_1⟩ := KK1.out w5 C1_5.out
  obtain ⟨f5_2_0, f5_2_1⟩ := KK2.out w5 C2_5.out
  obtain ⟨f5_3_0, f5_3_1⟩ := KK3.out w5 C3_5.out
  go_wp2_with fail
  refine (R1.out _).mono ?_; rintro e w6 ⟨rfl, hb⟩
  have B6 : RowKit.Hid (Below w.heap.size w w6) := Lib.hid (btr B5.out hb)
  have C0_6 : RowKit.Hid (Below U.heap.size U w6) := Lib.hid (btr C0_5.out hb)
  have C1_6 : RowKit.Hid (Below U.heap.size U w6) := Lib.hid (btr C1_5.out hb)
  have C2_6 : RowKit.Hid (Below (w2.alloc (.cells #[.int .i64 M, .int .i64 N] 23)).heap.size (w2.alloc (.cells #[.int .i64 M, .int .i64 N] 23)) w6) := Lib.hid (btr C2_5.out hb)
  have C3_6 : RowKit.Hid (Below (w3.alloc (.cells #[.int .i64 M, .int .i64 N] 23)).heap.size (w3.alloc (.cells #[.int .i64 M, .int .i64 N] 23)) w6) := Lib.hid (btr C3_5.out hb)
  clear f5_0_0 f5_0_1 f5_1_0 f5_1_1 f5_2_0 f5_2_1 f5_3_0 f5_3_1 hb
  obtain ⟨f6_0_0, f6_0_1⟩ := KK0.out w6 C0_6.out
  obtain ⟨f6_1_0, f6_1_1⟩ := KK1.out w6 C1_6.out
  obtain ⟨f6_2_0, f6_2_1⟩ := KK2.out w6 C2_6.out
  obtain ⟨f6_3_0, f6_3_1⟩ := KK3.out w6 C3_6.out
  go_wp2_with fail
  refine (H3.out _).mono ?_; rintro e w7 ⟨rfl, hb⟩
  have B7 : RowKit.Hid (Below w.heap.size w w7) := Lib.hid (btr B6.out hb)
  have C0_7 : RowKit.Hid (Below U.heap.size U w7) := Lib.hid (btr C0_6.out hb)
  have C1_7 : RowKit.Hid (Below U.heap.size U w7) := Lib.hid (btr C1_6.out hb)
  have C2_7 : RowKit.Hid (Below (w2.alloc (.cells #[.int .i64 M, .int .i64 N] 23)).heap.size (w2.alloc (.cells #[.int .i64 M, .int .i64 N] 23)) w7) := Lib.hid (btr C2_6.out hb)
  have C3_7 : RowKit.Hid (Below (w3.alloc (.cells #[.int .i64 M, .int .i64 N] 23)).heap.size (w3.alloc (.cells #[.int .i64 M, .int .i64 N] 23)) w7) := Lib.hid (btr C3_6.out hb)
  clear f6_0_0 f6_0_1 f6_1_0 f6_1_1 f6_2_0 f6_2_1 f6_3_0 f6_3_1 hb
  obtain ⟨f7_0_0, f7_0_1⟩ := KK0.out w7 C0_7.out
  obtain ⟨f7_1_0, f7_1_1⟩ := KK1.out w7 C1_7.out
  obtain ⟨f7_2_0, f7_2_1⟩ := KK2.out w7 C2_7.out
  obtain ⟨f7_3_0, f7_3_1⟩ := KK3.out w7 C3_7.out
  go_wp2
  go_ret
  exact ⟨ret_bool (by first | rfl | (simp <;> omega)), B7.out⟩

set_option maxRecDepth 100000 in
set_option maxHeartbeats 4000000 in
theorem meetL_e (F T G U0 n M N : Int) (w : World) (hL : Laid w) (S0 : Hid (∀ W, Laid W → Calls Tryd.prog 6 #[] W fun x w' => x = .returned (.bool true) ∧ Below W.heap.size W w')) (M1 : Hid (∀ W, Calls Tryd.prog 13 #[.agg #[.int .i64 F, .int .i64 T], .agg #[.int .i64 G, .int .i64 U0]] W fun x w' => x = .returned (.tuple #[.agg #[.int .i64 M, .int .i64 N], .bool true]) ∧ Below W.heap.size W w')) (M2 : Hid (∀ W, Calls Tryd.prog 13 #[.agg #[.int .i64 G, .int .i64 U0], .agg #[.int .i64 F, .int .i64 T]] W fun x w' => x = .returned (.tuple #[.agg #[.int .i64 M, .int .i64 N], .bool true]) ∧ Below W.heap.size W w')) (H1 : Hid (∀ W, Calls Tryd.prog 14 #[.agg #[.int .i64 F, .int .i64 T], .int .i64 n] W fun x w' => x = .returned (.bool true) ∧ Below W.heap.size W w')) (H2 : Hid (∀ W, Calls Tryd.prog 14 #[.agg #[.int .i64 G, .int .i64 U0], .int .i64 n] W fun x w' => x = .returned (.bool true) ∧ Below W.heap.size W w')) (R1 : Hid (∀ W, Calls Tryd.prog 12 #[.agg #[.int .i64 M, .int .i64 N]] W fun x w' => x = .returned (.bool true) ∧ Below W.heap.size W w')) (H3 : Hid (∀ W, Calls Tryd.prog 14 #[.agg #[.int .i64 M, .int .i64 N], .int .i64 n] W fun x w' => x = .returned (.bool true) ∧ Below W.heap.size W w')) : Calls Tryd.prog 4 #[.agg #[.int .i64 F, .int .i64 T], .agg #[.int .i64 G, .int .i64 U0], .int .i64 n] w fun x w' => x = .returned (.bool true) ∧ Below w.heap.size w w' := by
  have HL := Lib.hid hL
  clear hL
  go_enter Tryd.func4, Tryd.ntmps4
  go_wp2_with fail
  have x0_0 : ((w.alloc (.cells #[.int .i64 F, .int .i64 T] 23)).alloc (.cells #[.int .i64 G, .int .i64 U0] 23)).cell? ⟨w.heap.size, 0, none⟩ = some (.int .i64 F) := by go_simp
  have x0_1 : ((w.alloc (.cells #[.int .i64 F, .int .i64 T] 23)).alloc (.cells #[.int .i64 G, .int .i64 U0] 23)).cell? ⟨w.heap.size, 1, none⟩ = some (.int .i64 T) := by go_simp
  have x1_0 : ((w.alloc (.cells #[.int .i64 F, .int .i64 T] 23)).alloc (.cells #[.int .i64 G, .int .i64 U0] 23)).cell? ⟨w.heap.size + 1, 0, none⟩ = some (.int .i64 G) := by go_simp
  have x1_1 : ((w.alloc (.cells #[.int .i64 F, .int .i64 T] 23)).alloc (.cells #[.int .i64 G, .int .i64 U0] 23)).cell? ⟨w.heap.size + 1, 1, none⟩ = some (.int .i64 U0) := by go_simp
  have B0 : Below w.heap.size w ((w.alloc (.cells #[.int .i64 F, .int .i64 T] 23)).alloc (.cells #[.int .i64 G, .int .i64 U0] 23)) := (bal ((bal (Below.refl _ w) _)) _)
  generalize ((w.alloc (.cells #[.int .i64 F, .int .i64 T] 23)).alloc (.cells #[.int .i64 G, .int .i64 U0] 23)) = U at *
  have KK0 := Lib.hid (show ∀ W, Below U.heap.size U W → W.cell? ⟨w.heap.size, 0, none⟩ = some (.int .i64 F) ∧ W.cell? ⟨w.heap.size, 1, none⟩ = some (.int .i64 T) from fun W h => ⟨(h.cell (p := ⟨w.heap.size, 0, none⟩) (blt x0_0)).trans x0_0, (h.cell (p := ⟨w.heap.size, 1, none⟩) (blt x0_1)).trans x0_1⟩)
  have KK1 := Lib.hid (show ∀ W, Below U.heap.size U W → W.cell? ⟨w.heap.size + 1, 0, none⟩ = some (.int .i64 G) ∧ W.cell? ⟨w.heap.size + 1, 1, none⟩ = some (.int .i64 U0) from fun W h => ⟨(h.cell (p := ⟨w.heap.size + 1, 0, none⟩) (blt x1_0)).trans x1_0, (h.cell (p := ⟨w.heap.size + 1, 1, none⟩) (blt x1_1)).trans x1_1⟩)
  have C0_0 := Lib.hid (Below.refl U.heap.size U)
  have C1_0 := Lib.hid (Below.refl U.heap.size U)
  replace B0 := Lib.hid B0
  refine (S0.out _ (HL.out.on B0.out)).mono ?_; rintro e w1 ⟨rfl, hb⟩
  have B1 : RowKit.Hid (Below w.heap.size w w1) := Lib.hid (btr B0.out hb)
  have C0_1 : RowKit.Hid (Below U.heap.size U w1) := Lib.hid (btr C0_0.out hb)
  have C1_1 : RowKit.Hid (Below U.heap.size U w1) := Lib.hid (btr C1_0.out hb)
  clear x0_0 x0_1 x1_0 x1_1 hb
  obtain ⟨f1_0_0, f1_0_1⟩ := KK0.out w1 C0_1.out
  obtain ⟨f1_1_0, f1_1_1⟩ := KK1.out w1 C1_1.out
  go_wp2_with fail
  refine (M1.out _).mono ?_; rintro e w2 ⟨rfl, hb⟩
  have B2 : RowKit.Hid (Below w.heap.size w (w2.alloc (.cells #[.int .i64 M, .int .i64 N] 23))) := Lib.hid (bal (btr B1.out hb) _)
  have C0_2 : RowKit.Hid (Below U.heap.size U (w2.alloc (.cells #[.int .i64 M, .int .i64 N] 23))) := Lib.hid (bal (btr C0_1.out hb) _)
  have C1_2 : RowKit.Hid (Below U.heap.size U (w2.alloc (.cells #[.int .i64 M, .int .i64 N] 23))) := Lib.hid (bal (btr C1_1.out hb) _)
  clear f1_0_0 f1_0_1 f1_1_0 f1_1_1 hb
  obtain ⟨f2_0_0, f2_0_1⟩ := KK0.out (w2.alloc (.cells #[.int .i64 M, .int .i64 N] 23)) C0_2.out
  obtain ⟨f2_1_0, f2_1_1⟩ := KK1.out (w2.alloc (.cells #[.int .i64 M, .int .i64 N] 23)) C1_2.out
  have f2_2_0 : (w2.alloc (.cells #[.int .i64 M, .int .i64 N] 23)).cell? ⟨w2.heap.size, 0, none⟩ = some (.int .i64 M) := by go_simp
  have f2_2_1 : (w2.alloc (.cells #[.int .i64 M, .int .i64 N] 23)).cell? ⟨w2.heap.size, 1, none⟩ = some (.int .i64 N) := by go_simp
  have KK2 := Lib.hid (show ∀ W, Below (w2.alloc (.cells #[.int .i64 M, .int .i64 N] 23)).heap.size (w2.alloc (.cells #[.int .i64 M, .int .i64 N] 23)) W → W.cell? ⟨w2.heap.size, 0, none⟩ = some (.int .i64 M) ∧ W.cell? ⟨w2.heap.size, 1, none⟩ = some (.int .i64 N) from fun W h => ⟨(h.cell (p := ⟨w2.heap.size, 0, none⟩) (blt f2_2_0)).trans f2_2_0, (h.cell (p := ⟨w2.heap.size, 1, none⟩) (blt f2_2_1)).trans f2_2_1⟩)
  have C2_2 := Lib.hid (Below.refl (w2.alloc (.cells #[.int .i64 M, .int .i64 N] 23)).heap.size (w2.alloc (.cells #[.int .i64 M, .int .i64 N] 23)))
  go_wp2_with fail
  refine (M2.out _).mono ?_; rintro e w3 ⟨rfl, hb⟩
  have B3 : RowKit.Hid (Below w.heap.size w (w3.alloc (.cells #[.int .i64 M, .int .i64 N] 23))) := Lib.hid (bal (btr B2.out hb) _)
  have C0_3 : RowKit.Hid (Below U.heap.size U (w3.alloc (.cells #[.int .i64 M, .int .i64 N] 23))) := Lib.hid (bal (btr C0_2.out hb) _)
  have C1_3 : RowKit.Hid (Below U.heap.size U (w3.alloc (.cells #[.int .i64 M, .int .i64 N] 23))) := Lib.hid (bal (btr C1_2.out hb) _)
  have C2_3 : RowKit.Hid (Below (w2.alloc (.cells #[.int .i64 M, .int .i64 N] 23)).heap.size (w2.alloc (.cells #[.int .i64 M, .int .i64 N] 23)) (w3.alloc (.cells #[.int .i64 M, .int .i64 N] 23))) := Lib.hid (bal (btr C2_2.out hb) _)
  clear f2_0_0 f2_0_1 f2_1_0 f2_1_1 f2_2_0 f2_2_1 hb
  obtain ⟨f3_0_0, f3_0_1⟩ := KK0.out (w3.alloc (.cells #[.int .i64 M, .int .i64 N] 23)) C0_3.out
  obtain ⟨f3_1_0, f3_1_1⟩ := KK1.out (w3.alloc (.cells #[.int .i64 M, .int .i64 N] 23)) C1_3.out
  obtain ⟨f3_2_0, f3_2_1⟩ := KK2.out (w3.alloc (.cells #[.int .i64 M, .int .i64 N] 23)) C2_3.out
  have f3_3_0 : (w3.alloc (.cells #[.int .i64 M, .int .i64 N] 23)).cell? ⟨w3.heap.size, 0, none⟩ = some (.int .i64 M) := by go_simp
  have f3_3_1 : (w3.alloc (.cells #[.int .i64 M, .int .i64 N] 23)).cell? ⟨w3.heap.size, 1, none⟩ = some (.int .i64 N) := by go_simp
  have KK3 := Lib.hid (show ∀ W, Below (w3.alloc (.cells #[.int .i64 M, .int .i64 N] 23)).heap.size (w3.alloc (.cells #[.int .i64 M, .int .i64 N] 23)) W → W.cell? ⟨w3.heap.size, 0, none⟩ = some (.int .i64 M) ∧ W.cell? ⟨w3.heap.size, 1, none⟩ = some (.int .i64 N) from fun W h => ⟨(h.cell (p := ⟨w3.heap.size, 0, none⟩) (blt f3_3_0)).trans f3_3_0, (h.cell (p := ⟨w3.heap.size, 1, none⟩) (blt f3_3_1)).trans f3_3_1⟩)
  have C3_3 := Lib.hid (Below.refl (w3.alloc (.cells #[.int .i64 M, .int .i64 N] 23)).heap.size (w3.alloc (.cells #[.int .i64 M, .int .i64 N] 23)))
  go_wp2_with fail
  refine (H1.out _).mono ?_; rintro e w4 ⟨rfl, hb⟩
  have B4 : RowKit.Hid (Below w.heap.size w w4) := Lib.hid (btr B3.out hb)
  have C0_4 : RowKit.Hid (Below U.heap.size U w4) := Lib.hid (btr C0_3.out hb)
  have C1_4 : RowKit.Hid (Below U.heap.size U w4) := Lib.hid (btr C1_3.out hb)
  have C2_4 : RowKit.Hid (Below (w2.alloc (.cells #[.int .i64 M, .int .i64 N] 23)).heap.size (w2.alloc (.cells #[.int .i64 M, .int .i64 N] 23)) w4) := Lib.hid (btr C2_3.out hb)
  have C3_4 : RowKit.Hid (Below (w3.alloc (.cells #[.int .i64 M, .int .i64 N] 23)).heap.size (w3.alloc (.cells #[.int .i64 M, .int .i64 N] 23)) w4) := Lib.hid (btr C3_3.out hb)
  clear f3_0_0 f3_0_1 f3_1_0 f3_1_1 f3_2_0 f3_2_1 f3_3_0 f3_3_1 hb
  obtain ⟨f4_0_0, f4_0_1⟩ := KK0.out w4 C0_4.out
  obtain ⟨f4_1_0, f4_1_1⟩ := KK1.out w4 C1_4.out
  obtain ⟨f4_2_0, f4_2_1⟩ := KK2.out w4 C2_4.out
  obtain ⟨f4_3_0, f4_3_1⟩ := KK3.out w4 C3_4.out
  go_wp2_with fail
  refine (H2.out _).mono ?_; rintro e w5 ⟨rfl, hb⟩
  have B5 : RowKit.Hid (Below w.heap.size w w5) := Lib.hid (btr B4.out hb)
  have C0_5 : RowKit.Hid (Below U.heap.size U w5) := Lib.hid (btr C0_4.out hb)
  have C1_5 : RowKit.Hid (Below U.heap.size U w5) := Lib.hid (btr C1_4.out hb)
  have C2_5 : RowKit.Hid (Below (w2.alloc (.cells #[.int .i64 M, .int .i64 N] 23)).heap.size (w2.alloc (.cells #[.int .i64 M, .int .i64 N] 23)) w5) := Lib.hid (btr C2_4.out hb)
  have C3_5 : RowKit.Hid (Below (w3.alloc (.cells #[.int .i64 M, .int .i64 N] 23)).heap.size (w3.alloc (.cells #[.int .i64 M, .int .i64 N] 23)) w5) := Lib.hid (btr C3_4.out hb)
  clear f4_0_0 f4_0_1 f4_1_0 f4_1_1 f4_2_0 f4_2_1 f4_3_0 f4_3_1 hb
  obtain ⟨f5_0_0, f5_0_1⟩ := KK0.out w5 C0_5.out
  obtain ⟨f5_1_0, f5_1_1⟩ := KK1.out w5 C1_5.out
  obtain ⟨f5_2_0, f5_2_1⟩ := KK2.out w5 C2_5.out
  obtain ⟨f5_3_0, f5_3_1⟩ := KK3.out w5 C3_5.out
  go_wp2_with fail
  refine (R1.out _).mono ?_; rintro e w6 ⟨rfl, hb⟩
  have B6 : RowKit.Hid (Below w.heap.size w w6) := Lib.hid (btr B5.out hb)
  have C0_6 : RowKit.Hid (Below U.heap.size U w6) := Lib.hid (btr C0_5.out hb)
  have C1_6 : RowKit.Hid (Below U.heap.size U w6) := Lib.hid (btr C1_5.out hb)
  have C2_6 : RowKit.Hid (Below (w2.alloc (.cells #[.int .i64 M, .int .i64 N] 23)).heap.size (w2.alloc (.cells #[.int .i64 M, .int .i64 N] 23)) w6) := Lib.hid (btr C2_5.out hb)
  have C3_6 : RowKit.Hid (Below (w3.alloc (.cells #[.int .i64 M, .int .i64 N] 23)).heap.size (w3.alloc (.cells #[.int .i64 M, .int .i64 N] 23)) w6) := Lib.hid (btr C3_5.out hb)
  clear f5_0_0 f5_0_1 f5_1_0 f5_1_1 f5_2_0 f5_2_1 f5_3_0 f5_3_1 hb
  obtain ⟨f6_0_0, f6_0_1⟩ := KK0.out w6 C0_6.out
  obtain ⟨f6_1_0, f6_1_1⟩ := KK1.out w6 C1_6.out
  obtain ⟨f6_2_0, f6_2_1⟩ := KK2.out w6 C2_6.out
  obtain ⟨f6_3_0, f6_3_1⟩ := KK3.out w6 C3_6.out
  go_wp2_with fail
  refine (H3.out _).mono ?_; rintro e w7 ⟨rfl, hb⟩
  have B7 : RowKit.Hid (Below w.heap.size w w7) := Lib.hid (btr B6.out hb)
  have C0_7 : RowKit.Hid (Below U.heap.size U w7) := Lib.hid (btr C0_6.out hb)
  have C1_7 : RowKit.Hid (Below U.heap.size U w7) := Lib.hid (btr C1_6.out hb)
  have C2_7 : RowKit.Hid (Below (w2.alloc (.cells #[.int .i64 M, .int .i64 N] 23)).heap.size (w2.alloc (.cells #[.int .i64 M, .int .i64 N] 23)) w7) := Lib.hid (btr C2_6.out hb)
  have C3_7 : RowKit.Hid (Below (w3.alloc (.cells #[.int .i64 M, .int .i64 N] 23)).heap.size (w3.alloc (.cells #[.int .i64 M, .int .i64 N] 23)) w7) := Lib.hid (btr C3_6.out hb)
  clear f6_0_0 f6_0_1 f6_1_0 f6_1_1 f6_2_0 f6_2_1 f6_3_0 f6_3_1 hb
  obtain ⟨f7_0_0, f7_0_1⟩ := KK0.out w7 C0_7.out
  obtain ⟨f7_1_0, f7_1_1⟩ := KK1.out w7 C1_7.out
  obtain ⟨f7_2_0, f7_2_1⟩ := KK2.out w7 C2_7.out
  obtain ⟨f7_3_0, f7_3_1⟩ := KK3.out w7 C3_7.out
  go_wp2
  go_ret
  exact ⟨ret_bool (by first | rfl | (simp <;> omega)), B7.out⟩

theorem meet_sym (F T G U0 : Int) : meetF G U0 F T = meetF F T G U0 ∧ meetT G U0 F T = meetT F T G U0 ∧ meetB G U0 F T = meetB F T G U0 := by
  have hB : meetB G U0 F T = meetB F T G U0 := by
    unfold meetB
    rw [Int.max_comm G F, Int.min_comm U0 T]
    cases rightQ F T <;> cases rightQ G U0 <;> rfl
  unfold meetF meetT
  rw [hB, Int.max_comm G F, Int.min_comm U0 T]
  exact ⟨rfl, rfl, rfl⟩
theorem meet_true {F T G U0 : Int} (h : meetB F T G U0 = true) : meetF F T G U0 = max F G ∧ meetT F T G U0 = min T U0 ∧ rightQ (max F G) (min T U0) = true ∧ ∀ n, hasQ (max F G) (min T U0) n = (hasQ F T n && hasQ G U0 n) := by
  have e : meetF F T G U0 = max F G ∧ meetT F T G U0 = min T U0 := by unfold meetF meetT; rw [h]; exact ⟨rfl, rfl⟩
  simp only [meetB, Bool.and_eq_true, decide_eq_true_eq] at h
  obtain ⟨h1, h2, h3⟩ := h
  have r1 := rightQ_iff.1 h1
  have r2 := rightQ_iff.1 h2
  have hr : rightQ (max F G) (min T U0) = true := rightQ_iff.2 (by omega)
  refine ⟨e.1, e.2, hr, fun n => ?_⟩
  unfold hasQ
  rw [h1, h2, hr, Bool.eq_iff_iff]
  simp
  omega
theorem meet_false {F T G U0 : Int} (h : meetB F T G U0 = false) : meetF F T G U0 = 0 ∧ meetT F T G U0 = 0 ∧ ∀ n, (hasQ F T n && hasQ G U0 n) = false := by
  refine ⟨by unfold meetF; rw [h]; rfl, by unfold meetT; rw [h]; rfl, fun n => ?_⟩
  rw [Bool.eq_false_iff]
  intro hh
  simp only [hasQ, Bool.and_eq_true, decide_eq_true_eq] at hh
  obtain ⟨⟨h1, h2, h3⟩, h4, h5, h6⟩ := hh
  have : meetB F T G U0 = true := by unfold meetB; rw [h1, h4, decide_eq_true (by omega)]; rfl
  rw [this] at h; cases h
theorem portsMeet_c (F T G U0 n : Int) (w : World) (hL : Laid w) : Calls Tryd.prog 4 #[.agg #[.int .i64 F, .int .i64 T], .agg #[.int .i64 G, .int .i64 U0], .int .i64 n] w fun x w' => x = .returned (.bool true) ∧ Below w.heap.size w w' := by
  have S0 := Lib.hid (fun W h => shown_c W h)
  have hs := meet_sym F T G U0
  have m1 := fun W => meet_c F T G U0 W
  have m2 := fun W => meet_c G U0 F T W
  have q1 := fun W => hasQ_c F T n W
  have q2 := fun W => hasQ_c G U0 n W
  rw [hs.1, hs.2.1, hs.2.2] at m2
  cases hB : meetB F T G U0 with
  | false =>
    obtain ⟨e1, e2, e3⟩ := meet_false hB
    have e3 := e3 n
    rw [hB, e1, e2] at m1 m2
    cases h1 : hasQ F T n with
    | false => rw [h1] at q1; exact meetL_a F T G U0 n 0 0 w hL S0 (Lib.hid m1) (Lib.hid m2) (Lib.hid q1)
    | true =>
      have h2 : hasQ G U0 n = false := by rw [h1] at e3; simpa using e3
      rw [h1] at q1; rw [h2] at q2
      exact meetL_b F T G U0 n 0 0 w hL S0 (Lib.hid m1) (Lib.hid m2) (Lib.hid q1) (Lib.hid q2)
  | true =>
    obtain ⟨e1, e2, e3, e4⟩ := meet_true hB
    have e4 := e4 n
    rw [hB, e1, e2] at m1 m2
    have r1 := fun W => rightQ_c (max F G) (min T U0) W
    have q3 := fun W => hasQ_c (max F G) (min T U0) n W
    rw [e3] at r1
    rw [e4] at q3
    cases h1 : hasQ F T n with
    | false =>
      rw [h1, Bool.false_and] at q3
      rw [h1] at q1
      exact meetL_c F T G U0 n _ _ w hL S0 (Lib.hid m1) (Lib.hid m2) (Lib.hid q1) (Lib.hid r1) (Lib.hid q3)
    | true =>
      cases h2 : hasQ G U0 n with
      | false =>
        rw [h1, h2, Bool.and_false] at q3
        rw [h1] at q1; rw [h2] at q2
        exact meetL_d F T G U0 n _ _ w hL S0 (Lib.hid m1) (Lib.hid m2) (Lib.hid q1) (Lib.hid q2) (Lib.hid r1) (Lib.hid q3)
      | true =>
        rw [h1, h2, Bool.and_true] at q3
        rw [h1] at q1; rw [h2] at q2
        exact meetL_e F T G U0 n _ _ w hL S0 (Lib.hid m1) (Lib.hid m2) (Lib.hid q1) (Lib.hid q2) (Lib.hid r1) (Lib.hid q3)
end Go.Proofs.YtlnjalhlbfbjcaaDoor

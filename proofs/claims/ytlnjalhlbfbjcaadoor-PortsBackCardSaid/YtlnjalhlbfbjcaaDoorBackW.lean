/- Texts are parsed as what they are of: the law's walk. -/
import Derived.Test.YtlnjalhlbfbjcaaDoorY
namespace Go.Proofs.YtlnjalhlbfbjcaaDoor
open Go.RowKit Go.Shelf
attribute [local go_sem] Oper.semAt_some

set_option maxRecDepth 100000 in
set_option maxHeartbeats 4000000 in
theorem backL_rta (F T A P c0 c1 : Int) (s0 S sa sb : ByteArray) (w : World) (hL : Laid w)
    (S0 : Hid (∀ W, Laid W → Calls Tryd.prog 6 #[] W fun x w' => x = .returned (.bool true) ∧ Below W.heap.size W w'))
    (CU : Hid (∀ W, Calls Tryd.prog 7 #[.string s0] W fun x w' => x = .returned (.string S) ∧ Below W.heap.size W w'))
    (PR1 : Hid (∀ W, Tabs W → Calls Tryd.prog 8 #[.agg #[.int .i64 F, .int .i64 T]] W fun x w' => x = .returned (.tuple #[.string sa, .int .i64 0]) ∧ Below W.heap.size W w'))
    (PA1 : Hid (∀ W, ErrT W → Calls Tryd.prog 9 #[.string sa] W fun x w' => x = .returned (.tuple #[.agg #[.int .i64 F, .int .i64 T], .int .i64 0]) ∧ Below W.heap.size W w'))
    (PT1 : Hid (∀ W, Tabs W → Calls Tryd.prog 10 #[.agg #[.int .i64 A, .int .i64 P]] W fun x w' => x = .returned (.tuple #[.string sb, .int .i64 0]) ∧ Below W.heap.size W w'))
    (PA2 : Hid (∀ W, Calls Tryd.prog 11 #[.string sb] W fun x w' => x = .returned (.tuple #[.agg #[.int .i64 A, .int .i64 P], .int .i64 0]) ∧ Below W.heap.size W w'))
    (PA3 : Hid (∀ W, ErrT W → Calls Tryd.prog 9 #[.string S] W fun x w' => x = .returned (.tuple #[.agg #[.int .i64 c0, .int .i64 c1], .int .i64 0]) ∧ Below W.heap.size W w'))
    (PR2 : Hid (∀ W, Tabs W → Calls Tryd.prog 8 #[.agg #[.int .i64 c0, .int .i64 c1]] W fun x w' => x = .returned (.tuple #[.string S, .int .i64 0]) ∧ Below W.heap.size W w'))
    (PA4 : Hid (∀ W, Calls Tryd.prog 11 #[.string S] W fun x w' => x = .returned (.tuple #[.agg #[.int .i64 0, .int .i64 0], .int .i64 71]) ∧ Below W.heap.size W w'))
    (PT2 : Hid (∀ W, Tabs W → Calls Tryd.prog 10 #[.agg #[.int .i64 0, .int .i64 0]] W fun x w' => x = .returned (.tuple #[.string ⟨#[]⟩, .int .i64 71]) ∧ Below W.heap.size W w'))
    (R1 : Hid (∀ W, Calls Tryd.prog 12 #[.agg #[.int .i64 F, .int .i64 T]] W fun x w' => x = .returned (.bool true) ∧ Below W.heap.size W w'))
    : Calls Tryd.prog 3 #[.agg #[.int .i64 F, .int .i64 T], .agg #[.int .i64 A, .int .i64 P], .string s0] w fun x w' => x = .returned (.bool true) ∧ Below w.heap.size w w' := by
  have HL := Lib.hid hL
  clear hL
  go_enter Tryd.func3, Tryd.ntmps3
  go_wp2_with fail
  have x0_0 : ((w.alloc (.cells #[.int .i64 F, .int .i64 T] 23)).alloc (.cells #[.int .i64 A, .int .i64 P] 25)).cell? ⟨w.heap.size, 0, none⟩ = some (.int .i64 F) := by go_simp
  have x0_1 : ((w.alloc (.cells #[.int .i64 F, .int .i64 T] 23)).alloc (.cells #[.int .i64 A, .int .i64 P] 25)).cell? ⟨w.heap.size, 1, none⟩ = some (.int .i64 T) := by go_simp
  have x1_0 : ((w.alloc (.cells #[.int .i64 F, .int .i64 T] 23)).alloc (.cells #[.int .i64 A, .int .i64 P] 25)).cell? ⟨w.heap.size + 1, 0, none⟩ = some (.int .i64 A) := by go_simp
  have x1_1 : ((w.alloc (.cells #[.int .i64 F, .int .i64 T] 23)).alloc (.cells #[.int .i64 A, .int .i64 P] 25)).cell? ⟨w.heap.size + 1, 1, none⟩ = some (.int .i64 P) := by go_simp
  have B0 : Below w.heap.size w ((w.alloc (.cells #[.int .i64 F, .int .i64 T] 23)).alloc (.cells #[.int .i64 A, .int .i64 P] 25)) := (bal ((bal (Below.refl _ w) _)) _)
  generalize ((w.alloc (.cells #[.int .i64 F, .int .i64 T] 23)).alloc (.cells #[.int .i64 A, .int .i64 P] 25)) = U at *
  have KK0 := Lib.hid (show ∀ W, Below U.heap.size U W → W.cell? ⟨w.heap.size, 0, none⟩ = some (.int .i64 F) ∧ W.cell? ⟨w.heap.size, 1, none⟩ = some (.int .i64 T) from fun W h => ⟨(h.cell (p := ⟨w.heap.size, 0, none⟩) (blt x0_0)).trans x0_0, (h.cell (p := ⟨w.heap.size, 1, none⟩) (blt x0_1)).trans x0_1⟩)
  have KK1 := Lib.hid (show ∀ W, Below U.heap.size U W → W.cell? ⟨w.heap.size + 1, 0, none⟩ = some (.int .i64 A) ∧ W.cell? ⟨w.heap.size + 1, 1, none⟩ = some (.int .i64 P) from fun W h => ⟨(h.cell (p := ⟨w.heap.size + 1, 0, none⟩) (blt x1_0)).trans x1_0, (h.cell (p := ⟨w.heap.size + 1, 1, none⟩) (blt x1_1)).trans x1_1⟩)
  have C0_0 := Lib.hid (Below.refl U.heap.size U)
  have C1_0 := Lib.hid (Below.refl U.heap.size U)
  replace B0 := Lib.hid B0
  refine (S0.out _ (HL.out.on B0.out)).mono ?_; rintro e w1 ⟨rfl, hb⟩
  have B1 : RowKit.Hid (Below w.heap.size w w1) := Lib.hid (btr B0.out hb)
  have C0_1 : RowKit.Hid (Below U.heap.size U w1) := Lib.hid (btr C0_0.out hb)
  have C1_1 : RowKit.Hid (Below U.heap.size U w1) := Lib.hid (btr C1_0.out hb)
  clear x0_0 x0_1 x1_0 x1_1 hb
  obtain ⟨f1_0_0, f1_0_1⟩ := KK0.out w1 C0_1.out
  obtain ⟨f1_1_0, f1_1_1⟩ := KK1.out w1 C1_1.out
  go_wp2_with fail
  refine (CU.out _).mono ?_; rintro e w2 ⟨rfl, hb⟩
  have B2 : RowKit.Hid (Below w.heap.size w w2) := Lib.hid (btr B1.out hb)
  have C0_2 : RowKit.Hid (Below U.heap.size U w2) := Lib.hid (btr C0_1.out hb)
  have C1_2 : RowKit.Hid (Below U.heap.size U w2) := Lib.hid (btr C1_1.out hb)
  clear f1_0_0 f1_0_1 f1_1_0 f1_1_1 hb
  obtain ⟨f2_0_0, f2_0_1⟩ := KK0.out w2 C0_2.out
  obtain ⟨f2_1_0, f2_1_1⟩ := KK1.out w2 C1_2.out
  go_wp2_with fail
  refine (PR1.out _ (HL.out.on B2.out).1).mono ?_; rintro e w3 ⟨rfl, hb⟩
  have B3 : RowKit.Hid (Below w.heap.size w w3) := Lib.hid (btr B2.out hb)
  have C0_3 : RowKit.Hid (Below U.heap.size U w3) := Lib.hid (btr C0_2.out hb)
  have C1_3 : RowKit.Hid (Below U.heap.size U w3) := Lib.hid (btr C1_2.out hb)
  clear f2_0_0 f2_0_1 f2_1_0 f2_1_1 hb
  obtain ⟨f3_0_0, f3_0_1⟩ := KK0.out w3 C0_3.out
  obtain ⟨f3_1_0, f3_1_1⟩ := KK1.out w3 C1_3.out
  go_wp2_with fail
  refine (PA1.out _ (HL.out.on B3.out).2).mono ?_; rintro e w4 ⟨rfl, hb⟩
  have B4 : RowKit.Hid (Below w.heap.size w (w4.alloc (.cells #[.int .i64 F, .int .i64 T] 23))) := Lib.hid (bal (btr B3.out hb) _)
  have C0_4 : RowKit.Hid (Below U.heap.size U (w4.alloc (.cells #[.int .i64 F, .int .i64 T] 23))) := Lib.hid (bal (btr C0_3.out hb) _)
  have C1_4 : RowKit.Hid (Below U.heap.size U (w4.alloc (.cells #[.int .i64 F, .int .i64 T] 23))) := Lib.hid (bal (btr C1_3.out hb) _)
  clear f3_0_0 f3_0_1 f3_1_0 f3_1_1 hb
  obtain ⟨f4_0_0, f4_0_1⟩ := KK0.out (w4.alloc (.cells #[.int .i64 F, .int .i64 T] 23)) C0_4.out
  obtain ⟨f4_1_0, f4_1_1⟩ := KK1.out (w4.alloc (.cells #[.int .i64 F, .int .i64 T] 23)) C1_4.out
  have f4_2_0 : (w4.alloc (.cells #[.int .i64 F, .int .i64 T] 23)).cell? ⟨w4.heap.size, 0, none⟩ = some (.int .i64 F) := by go_simp
  have f4_2_1 : (w4.alloc (.cells #[.int .i64 F, .int .i64 T] 23)).cell? ⟨w4.heap.size, 1, none⟩ = some (.int .i64 T) := by go_simp
  have KK2 := Lib.hid (show ∀ W, Below (w4.alloc (.cells #[.int .i64 F, .int .i64 T] 23)).heap.size (w4.alloc (.cells #[.int .i64 F, .int .i64 T] 23)) W → W.cell? ⟨w4.heap.size, 0, none⟩ = some (.int .i64 F) ∧ W.cell? ⟨w4.heap.size, 1, none⟩ = some (.int .i64 T) from fun W h => ⟨(h.cell (p := ⟨w4.heap.size, 0, none⟩) (blt f4_2_0)).trans f4_2_0, (h.cell (p := ⟨w4.heap.size, 1, none⟩) (blt f4_2_1)).trans f4_2_1⟩)
  have C2_4 := Lib.hid (Below.refl (w4.alloc (.cells #[.int .i64 F, .int .i64 T] 23)).heap.size (w4.alloc (.cells #[.int .i64 F, .int .i64 T] 23)))
  go_wp2_with fail
  refine (PT1.out _ (HL.out.on B4.out).1).mono ?_; rintro e w5 ⟨rfl, hb⟩
  have B5 : RowKit.Hid (Below w.heap.size w w5) := Lib.hid (btr B4.out hb)
  have C0_5 : RowKit.Hid (Below U.heap.size U w5) := Lib.hid (btr C0_4.out hb)
  have C1_5 : RowKit.Hid (Below U.heap.size U w5) := Lib.hid (btr C1_4.out hb)
  have C2_5 : RowKit.Hid (Below (w4.alloc (.cells #[.int .i64 F, .int .i64 T] 23)).heap.size (w4.alloc (.cells #[.int .i64 F, .int .i64 T] 23)) w5) := Lib.hid (btr C2_4.out hb)
  clear f4_0_0 f4_0_1 f4_1_0 f4_1_1 f4_2_0 f4_2_1 hb
  obtain ⟨f5_0_0, f5_0_1⟩ := KK0.out w5 C0_5.out
  obtain ⟨f5_1_0, f5_1_1⟩ := KK1.out w5 C1_5.out
  obtain ⟨f5_2_0, f5_2_1⟩ := KK2.out w5 C2_5.out
  go_wp2_with fail
  refine (PA2.out _).mono ?_; rintro e w6 ⟨rfl, hb⟩
  have B6 : RowKit.Hid (Below w.heap.size w (w6.alloc (.cells #[.int .i64 A, .int .i64 P] 25))) := Lib.hid (bal (btr B5.out hb) _)
  have C0_6 : RowKit.Hid (Below U.heap.size U (w6.alloc (.cells #[.int .i64 A, .int .i64 P] 25))) := Lib.hid (bal (btr C0_5.out hb) _)
  have C1_6 : RowKit.Hid (Below U.heap.size U (w6.alloc (.cells #[.int .i64 A, .int .i64 P] 25))) := Lib.hid (bal (btr C1_5.out hb) _)
  have C2_6 : RowKit.Hid (Below (w4.alloc (.cells #[.int .i64 F, .int .i64 T] 23)).heap.size (w4.alloc (.cells #[.int .i64 F, .int .i64 T] 23)) (w6.alloc (.cells #[.int .i64 A, .int .i64 P] 25))) := Lib.hid (bal (btr C2_5.out hb) _)
  clear f5_0_0 f5_0_1 f5_1_0 f5_1_1 f5_2_0 f5_2_1 hb
  obtain ⟨f6_0_0, f6_0_1⟩ := KK0.out (w6.alloc (.cells #[.int .i64 A, .int .i64 P] 25)) C0_6.out
  obtain ⟨f6_1_0, f6_1_1⟩ := KK1.out (w6.alloc (.cells #[.int .i64 A, .int .i64 P] 25)) C1_6.out
  obtain ⟨f6_2_0, f6_2_1⟩ := KK2.out (w6.alloc (.cells #[.int .i64 A, .int .i64 P] 25)) C2_6.out
  have f6_3_0 : (w6.alloc (.cells #[.int .i64 A, .int .i64 P] 25)).cell? ⟨w6.heap.size, 0, none⟩ = some (.int .i64 A) := by go_simp
  have f6_3_1 : (w6.alloc (.cells #[.int .i64 A, .int .i64 P] 25)).cell? ⟨w6.heap.size, 1, none⟩ = some (.int .i64 P) := by go_simp
  have KK3 := Lib.hid (show ∀ W, Below (w6.alloc (.cells #[.int .i64 A, .int .i64 P] 25)).heap.size (w6.alloc (.cells #[.int .i64 A, .int .i64 P] 25)) W → W.cell? ⟨w6.heap.size, 0, none⟩ = some (.int .i64 A) ∧ W.cell? ⟨w6.heap.size, 1, none⟩ = some (.int .i64 P) from fun W h => ⟨(h.cell (p := ⟨w6.heap.size, 0, none⟩) (blt f6_3_0)).trans f6_3_0, (h.cell (p := ⟨w6.heap.size, 1, none⟩) (blt f6_3_1)).trans f6_3_1⟩)
  have C3_6 := Lib.hid (Below.refl (w6.alloc (.cells #[.int .i64 A, .int .i64 P] 25)).heap.size (w6.alloc (.cells #[.int .i64 A, .int .i64 P] 25)))
  go_wp2_with fail
  refine (PA3.out _ (HL.out.on B6.out).2).mono ?_; rintro e w7 ⟨rfl, hb⟩
  have B7 : RowKit.Hid (Below w.heap.size w (w7.alloc (.cells #[.int .i64 c0, .int .i64 c1] 23))) := Lib.hid (bal (btr B6.out hb) _)
  have C0_7 : RowKit.Hid (Below U.heap.size U (w7.alloc (.cells #[.int .i64 c0, .int .i64 c1] 23))) := Lib.hid (bal (btr C0_6.out hb) _)
  have C1_7 : RowKit.Hid (Below U.heap.size U (w7.alloc (.cells #[.int .i64 c0, .int .i64 c1] 23))) := Lib.hid (bal (btr C1_6.out hb) _)
  have C2_7 : RowKit.Hid (Below (w4.alloc (.cells #[.int .i64 F, .int .i64 T] 23)).heap.size (w4.alloc (.cells #[.int .i64 F, .int .i64 T] 23)) (w7.alloc (.cells #[.int .i64 c0, .int .i64 c1] 23))) := Lib.hid (bal (btr C2_6.out hb) _)
  have C3_7 : RowKit.Hid (Below (w6.alloc (.cells #[.int .i64 A, .int .i64 P] 25)).heap.size (w6.alloc (.cells #[.int .i64 A, .int .i64 P] 25)) (w7.alloc (.cells #[.int .i64 c0, .int .i64 c1] 23))) := Lib.hid (bal (btr C3_6.out hb) _)
  clear f6_0_0 f6_0_1 f6_1_0 f6_1_1 f6_2_0 f6_2_1 f6_3_0 f6_3_1 hb
  obtain ⟨f7_0_0, f7_0_1⟩ := KK0.out (w7.alloc (.cells #[.int .i64 c0, .int .i64 c1] 23)) C0_7.out
  obtain ⟨f7_1_0, f7_1_1⟩ := KK1.out (w7.alloc (.cells #[.int .i64 c0, .int .i64 c1] 23)) C1_7.out
  obtain ⟨f7_2_0, f7_2_1⟩ := KK2.out (w7.alloc (.cells #[.int .i64 c0, .int .i64 c1] 23)) C2_7.out
  obtain ⟨f7_3_0, f7_3_1⟩ := KK3.out (w7.alloc (.cells #[.int .i64 c0, .int .i64 c1] 23)) C3_7.out
  have f7_4_0 : (w7.alloc (.cells #[.int .i64 c0, .int .i64 c1] 23)).cell? ⟨w7.heap.size, 0, none⟩ = some (.int .i64 c0) := by go_simp
  have f7_4_1 : (w7.alloc (.cells #[.int .i64 c0, .int .i64 c1] 23)).cell? ⟨w7.heap.size, 1, none⟩ = some (.int .i64 c1) := by go_simp
  have KK4 := Lib.hid (show ∀ W, Below (w7.alloc (.cells #[.int .i64 c0, .int .i64 c1] 23)).heap.size (w7.alloc (.cells #[.int .i64 c0, .int .i64 c1] 23)) W → W.cell? ⟨w7.heap.size, 0, none⟩ = some (.int .i64 c0) ∧ W.cell? ⟨w7.heap.size, 1, none⟩ = some (.int .i64 c1) from fun W h => ⟨(h.cell (p := ⟨w7.heap.size, 0, none⟩) (blt f7_4_0)).trans f7_4_0, (h.cell (p := ⟨w7.heap.size, 1, none⟩) (blt f7_4_1)).trans f7_4_1⟩)
  have C4_7 := Lib.hid (Below.refl (w7.alloc (.cells #[.int .i64 c0, .int .i64 c1] 23)).heap.size (w7.alloc (.cells #[.int .i64 c0, .int .i64 c1] 23)))
  go_wp2_with fail
  refine (PR2.out _ (HL.out.on B7.out).1).mono ?_; rintro e w8 ⟨rfl, hb⟩
  have B8 : RowKit.Hid (Below w.heap.size w w8) := Lib.hid (btr B7.out hb)
  have C0_8 : RowKit.Hid (Below U.heap.size U w8) := Lib.hid (btr C0_7.out hb)
  have C1_8 : RowKit.Hid (Below U.heap.size U w8) := Lib.hid (btr C1_7.out hb)
  have C2_8 : RowKit.Hid (Below (w4.alloc (.cells #[.int .i64 F, .int .i64 T] 23)).heap.size (w4.alloc (.cells #[.int .i64 F, .int .i64 T] 23)) w8) := Lib.hid (btr C2_7.out hb)
  have C3_8 : RowKit.Hid (Below (w6.alloc (.cells #[.int .i64 A, .int .i64 P] 25)).heap.size (w6.alloc (.cells #[.int .i64 A, .int .i64 P] 25)) w8) := Lib.hid (btr C3_7.out hb)
  have C4_8 : RowKit.Hid (Below (w7.alloc (.cells #[.int .i64 c0, .int .i64 c1] 23)).heap.size (w7.alloc (.cells #[.int .i64 c0, .int .i64 c1] 23)) w8) := Lib.hid (btr C4_7.out hb)
  clear f7_0_0 f7_0_1 f7_1_0 f7_1_1 f7_2_0 f7_2_1 f7_3_0 f7_3_1 f7_4_0 f7_4_1 hb
  obtain ⟨f8_0_0, f8_0_1⟩ := KK0.out w8 C0_8.out
  obtain ⟨f8_1_0, f8_1_1⟩ := KK1.out w8 C1_8.out
  obtain ⟨f8_2_0, f8_2_1⟩ := KK2.out w8 C2_8.out
  obtain ⟨f8_3_0, f8_3_1⟩ := KK3.out w8 C3_8.out
  obtain ⟨f8_4_0, f8_4_1⟩ := KK4.out w8 C4_8.out
  go_wp2_with fail
  refine (PA4.out _).mono ?_; rintro e w9 ⟨rfl, hb⟩
  have B9 : RowKit.Hid (Below w.heap.size w (w9.alloc (.cells #[.int .i64 0, .int .i64 0] 25))) := Lib.hid (bal (btr B8.out hb) _)
  have C0_9 : RowKit.Hid (Below U.heap.size U (w9.alloc (.cells #[.int .i64 0, .int .i64 0] 25))) := Lib.hid (bal (btr C0_8.out hb) _)
  have C1_9 : RowKit.Hid (Below U.heap.size U (w9.alloc (.cells #[.int .i64 0, .int .i64 0] 25))) := Lib.hid (bal (btr C1_8.out hb) _)
  have C2_9 : RowKit.Hid (Below (w4.alloc (.cells #[.int .i64 F, .int .i64 T] 23)).heap.size (w4.alloc (.cells #[.int .i64 F, .int .i64 T] 23)) (w9.alloc (.cells #[.int .i64 0, .int .i64 0] 25))) := Lib.hid (bal (btr C2_8.out hb) _)
  have C3_9 : RowKit.Hid (Below (w6.alloc (.cells #[.int .i64 A, .int .i64 P] 25)).heap.size (w6.alloc (.cells #[.int .i64 A, .int .i64 P] 25)) (w9.alloc (.cells #[.int .i64 0, .int .i64 0] 25))) := Lib.hid (bal (btr C3_8.out hb) _)
  have C4_9 : RowKit.Hid (Below (w7.alloc (.cells #[.int .i64 c0, .int .i64 c1] 23)).heap.size (w7.alloc (.cells #[.int .i64 c0, .int .i64 c1] 23)) (w9.alloc (.cells #[.int .i64 0, .int .i64 0] 25))) := Lib.hid (bal (btr C4_8.out hb) _)
  clear f8_0_0 f8_0_1 f8_1_0 f8_1_1 f8_2_0 f8_2_1 f8_3_0 f8_3_1 f8_4_0 f8_4_1 hb
  obtain ⟨f9_0_0, f9_0_1⟩ := KK0.out (w9.alloc (.cells #[.int .i64 0, .int .i64 0] 25)) C0_9.out
  obtain ⟨f9_1_0, f9_1_1⟩ := KK1.out (w9.alloc (.cells #[.int .i64 0, .int .i64 0] 25)) C1_9.out
  obtain ⟨f9_2_0, f9_2_1⟩ := KK2.out (w9.alloc (.cells #[.int .i64 0, .int .i64 0] 25)) C2_9.out
  obtain ⟨f9_3_0, f9_3_1⟩ := KK3.out (w9.alloc (.cells #[.int .i64 0, .int .i64 0] 25)) C3_9.out
  obtain ⟨f9_4_0, f9_4_1⟩ := KK4.out (w9.alloc (.cells #[.int .i64 0, .int .i64 0] 25)) C4_9.out
  have f9_5_0 : (w9.alloc (.cells #[.int .i64 0, .int .i64 0] 25)).cell? ⟨w9.heap.size, 0, none⟩ = some (.int .i64 0) := by go_simp
  have f9_5_1 : (w9.alloc (.cells #[.int .i64 0, .int .i64 0] 25)).cell? ⟨w9.heap.size, 1, none⟩ = some (.int .i64 0) := by go_simp
  have KK5 := Lib.hid (show ∀ W, Below (w9.alloc (.cells #[.int .i64 0, .int .i64 0] 25)).heap.size (w9.alloc (.cells #[.int .i64 0, .int .i64 0] 25)) W → W.cell? ⟨w9.heap.size, 0, none⟩ = some (.int .i64 0) ∧ W.cell? ⟨w9.heap.size, 1, none⟩ = some (.int .i64 0) from fun W h => ⟨(h.cell (p := ⟨w9.heap.size, 0, none⟩) (blt f9_5_0)).trans f9_5_0, (h.cell (p := ⟨w9.heap.size, 1, none⟩) (blt f9_5_1)).trans f9_5_1⟩)
  have C5_9 := Lib.hid (Below.refl (w9.alloc (.cells #[.int .i64 0, .int .i64 0] 25)).heap.size (w9.alloc (.cells #[.int .i64 0, .int .i64 0] 25)))
  go_wp2_with fail
  refine (PT2.out _ (HL.out.on B9.out).1).mono ?_; rintro e w10 ⟨rfl, hb⟩
  have B10 : RowKit.Hid (Below w.heap.size w w10) := Lib.hid (btr B9.out hb)
  have C0_10 : RowKit.Hid (Below U.heap.size U w10) := Lib.hid (btr C0_9.out hb)
  have C1_10 : RowKit.Hid (Below U.heap.size U w10) := Lib.hid (btr C1_9.out hb)
  have C2_10 : RowKit.Hid (Below (w4.alloc (.cells #[.int .i64 F, .int .i64 T] 23)).heap.size (w4.alloc (.cells #[.int .i64 F, .int .i64 T] 23)) w10) := Lib.hid (btr C2_9.out hb)
  have C3_10 : RowKit.Hid (Below (w6.alloc (.cells #[.int .i64 A, .int .i64 P] 25)).heap.size (w6.alloc (.cells #[.int .i64 A, .int .i64 P] 25)) w10) := Lib.hid (btr C3_9.out hb)
  have C4_10 : RowKit.Hid (Below (w7.alloc (.cells #[.int .i64 c0, .int .i64 c1] 23)).heap.size (w7.alloc (.cells #[.int .i64 c0, .int .i64 c1] 23)) w10) := Lib.hid (btr C4_9.out hb)
  have C5_10 : RowKit.Hid (Below (w9.alloc (.cells #[.int .i64 0, .int .i64 0] 25)).heap.size (w9.alloc (.cells #[.int .i64 0, .int .i64 0] 25)) w10) := Lib.hid (btr C5_9.out hb)
  clear f9_0_0 f9_0_1 f9_1_0 f9_1_1 f9_2_0 f9_2_1 f9_3_0 f9_3_1 f9_4_0 f9_4_1 f9_5_0 f9_5_1 hb
  obtain ⟨f10_0_0, f10_0_1⟩ := KK0.out w10 C0_10.out
  obtain ⟨f10_1_0, f10_1_1⟩ := KK1.out w10 C1_10.out
  obtain ⟨f10_2_0, f10_2_1⟩ := KK2.out w10 C2_10.out
  obtain ⟨f10_3_0, f10_3_1⟩ := KK3.out w10 C3_10.out
  obtain ⟨f10_4_0, f10_4_1⟩ := KK4.out w10 C4_10.out
  obtain ⟨f10_5_0, f10_5_1⟩ := KK5.out w10 C5_10.out
  go_wp2_with fail
  refine (R1.out _).mono ?_; rintro e w11 ⟨rfl, hb⟩
  have B11 : RowKit.Hid (Below w.heap.size w w11) := Lib.hid (btr B10.out hb)
  have C0_11 : RowKit.Hid (Below U.heap.size U w11) := Lib.hid (btr C0_10.out hb)
  have C1_11 : RowKit.Hid (Below U.heap.size U w11) := Lib.hid (btr C1_10.out hb)
  have C2_11 : RowKit.Hid (Below (w4.alloc (.cells #[.int .i64 F, .int .i64 T] 23)).heap.size (w4.alloc (.cells #[.int .i64 F, .int .i64 T] 23)) w11) := Lib.hid (btr C2_10.out hb)
  have C3_11 : RowKit.Hid (Below (w6.alloc (.cells #[.int .i64 A, .int .i64 P] 25)).heap.size (w6.alloc (.cells #[.int .i64 A, .int .i64 P] 25)) w11) := Lib.hid (btr C3_10.out hb)
  have C4_11 : RowKit.Hid (Below (w7.alloc (.cells #[.int .i64 c0, .int .i64 c1] 23)).heap.size (w7.alloc (.cells #[.int .i64 c0, .int .i64 c1] 23)) w11) := Lib.hid (btr C4_10.out hb)
  have C5_11 : RowKit.Hid (Below (w9.alloc (.cells #[.int .i64 0, .int .i64 0] 25)).heap.size (w9.alloc (.cells #[.int .i64 0, .int .i64 0] 25)) w11) := Lib.hid (btr C5_10.out hb)
  clear f10_0_0 f10_0_1 f10_1_0 f10_1_1 f10_2_0 f10_2_1 f10_3_0 f10_3_1 f10_4_0 f10_4_1 f10_5_0 f10_5_1 hb
  obtain ⟨f11_0_0, f11_0_1⟩ := KK0.out w11 C0_11.out
  obtain ⟨f11_1_0, f11_1_1⟩ := KK1.out w11 C1_11.out
  obtain ⟨f11_2_0, f11_2_1⟩ := KK2.out w11 C2_11.out
  obtain ⟨f11_3_0, f11_3_1⟩ := KK3.out w11 C3_11.out
  obtain ⟨f11_4_0, f11_4_1⟩ := KK4.out w11 C4_11.out
  obtain ⟨f11_5_0, f11_5_1⟩ := KK5.out w11 C5_11.out
  go_wp2
  go_ret
  exact ⟨ret_bool (by first | rfl | (simp <;> omega)), B11.out⟩

set_option maxRecDepth 100000 in
set_option maxHeartbeats 4000000 in
theorem backL_rtb (F T A P d0 d1 : Int) (s0 S sa sb : ByteArray) (w : World) (hL : Laid w)
    (S0 : Hid (∀ W, Laid W → Calls Tryd.prog 6 #[] W fun x w' => x = .returned (.bool true) ∧ Below W.heap.size W w'))
    (CU : Hid (∀ W, Calls Tryd.prog 7 #[.string s0] W fun x w' => x = .returned (.string S) ∧ Below W.heap.size W w'))
    (PR1 : Hid (∀ W, Tabs W → Calls Tryd.prog 8 #[.agg #[.int .i64 F, .int .i64 T]] W fun x w' => x = .returned (.tuple #[.string sa, .int .i64 0]) ∧ Below W.heap.size W w'))
    (PA1 : Hid (∀ W, ErrT W → Calls Tryd.prog 9 #[.string sa] W fun x w' => x = .returned (.tuple #[.agg #[.int .i64 F, .int .i64 T], .int .i64 0]) ∧ Below W.heap.size W w'))
    (PT1 : Hid (∀ W, Tabs W → Calls Tryd.prog 10 #[.agg #[.int .i64 A, .int .i64 P]] W fun x w' => x = .returned (.tuple #[.string sb, .int .i64 0]) ∧ Below W.heap.size W w'))
    (PA2 : Hid (∀ W, Calls Tryd.prog 11 #[.string sb] W fun x w' => x = .returned (.tuple #[.agg #[.int .i64 A, .int .i64 P], .int .i64 0]) ∧ Below W.heap.size W w'))
    (PA3 : Hid (∀ W, ErrT W → Calls Tryd.prog 9 #[.string S] W fun x w' => x = .returned (.tuple #[.agg #[.int .i64 0, .int .i64 0], .int .i64 70]) ∧ Below W.heap.size W w'))
    (PR2 : Hid (∀ W, Tabs W → Calls Tryd.prog 8 #[.agg #[.int .i64 0, .int .i64 0]] W fun x w' => x = .returned (.tuple #[.string ⟨#[48]⟩, .int .i64 0]) ∧ Below W.heap.size W w'))
    (PA4 : Hid (∀ W, Calls Tryd.prog 11 #[.string S] W fun x w' => x = .returned (.tuple #[.agg #[.int .i64 d0, .int .i64 d1], .int .i64 0]) ∧ Below W.heap.size W w'))
    (PT2 : Hid (∀ W, Tabs W → Calls Tryd.prog 10 #[.agg #[.int .i64 d0, .int .i64 d1]] W fun x w' => x = .returned (.tuple #[.string S, .int .i64 0]) ∧ Below W.heap.size W w'))
    (R1 : Hid (∀ W, Calls Tryd.prog 12 #[.agg #[.int .i64 F, .int .i64 T]] W fun x w' => x = .returned (.bool true) ∧ Below W.heap.size W w'))
    : Calls Tryd.prog 3 #[.agg #[.int .i64 F, .int .i64 T], .agg #[.int .i64 A, .int .i64 P], .string s0] w fun x w' => x = .returned (.bool true) ∧ Below w.heap.size w w' := by
  have HL := Lib.hid hL
  clear hL
  go_enter Tryd.func3, Tryd.ntmps3
  go_wp2_with fail
  have x0_0 : ((w.alloc (.cells #[.int .i64 F, .int .i64 T] 23)).alloc (.cells #[.int .i64 A, .int .i64 P] 25)).cell? ⟨w.heap.size, 0, none⟩ = some (.int .i64 F) := by go_simp
  have x0_1 : ((w.alloc (.cells #[.int .i64 F, .int .i64 T] 23)).alloc (.cells #[.int .i64 A, .int .i64 P] 25)).cell? ⟨w.heap.size, 1, none⟩ = some (.int .i64 T) := by go_simp
  have x1_0 : ((w.alloc (.cells #[.int .i64 F, .int .i64 T] 23)).alloc (.cells #[.int .i64 A, .int .i64 P] 25)).cell? ⟨w.heap.size + 1, 0, none⟩ = some (.int .i64 A) := by go_simp
  have x1_1 : ((w.alloc (.cells #[.int .i64 F, .int .i64 T] 23)).alloc (.cells #[.int .i64 A, .int .i64 P] 25)).cell? ⟨w.heap.size + 1, 1, none⟩ = some (.int .i64 P) := by go_simp
  have B0 : Below w.heap.size w ((w.alloc (.cells #[.int .i64 F, .int .i64 T] 23)).alloc (.cells #[.int .i64 A, .int .i64 P] 25)) := (bal ((bal (Below.refl _ w) _)) _)
  generalize ((w.alloc (.cells #[.int .i64 F, .int .i64 T] 23)).alloc (.cells #[.int .i64 A, .int .i64 P] 25)) = U at *
  have KK0 := Lib.hid (show ∀ W, Below U.heap.size U W → W.cell? ⟨w.heap.size, 0, none⟩ = some (.int .i64 F) ∧ W.cell? ⟨w.heap.size, 1, none⟩ = some (.int .i64 T) from fun W h => ⟨(h.cell (p := ⟨w.heap.size, 0, none⟩) (blt x0_0)).trans x0_0, (h.cell (p := ⟨w.heap.size, 1, none⟩) (blt x0_1)).trans x0_1⟩)
  have KK1 := Lib.hid (show ∀ W, Below U.heap.size U W → W.cell? ⟨w.heap.size + 1, 0, none⟩ = some (.int .i64 A) ∧ W.cell? ⟨w.heap.size + 1, 1, none⟩ = some (.int .i64 P) from fun W h => ⟨(h.cell (p := ⟨w.heap.size + 1, 0, none⟩) (blt x1_0)).trans x1_0, (h.cell (p := ⟨w.heap.size + 1, 1, none⟩) (blt x1_1)).trans x1_1⟩)
  have C0_0 := Lib.hid (Below.refl U.heap.size U)
  have C1_0 := Lib.hid (Below.refl U.heap.size U)
  replace B0 := Lib.hid B0
  refine (S0.out _ (HL.out.on B0.out)).mono ?_; rintro e w1 ⟨rfl, hb⟩
  have B1 : RowKit.Hid (Below w.heap.size w w1) := Lib.hid (btr B0.out hb)
  have C0_1 : RowKit.Hid (Below U.heap.size U w1) := Lib.hid (btr C0_0.out hb)
  have C1_1 : RowKit.Hid (Below U.heap.size U w1) := Lib.hid (btr C1_0.out hb)
  clear x0_0 x0_1 x1_0 x1_1 hb
  obtain ⟨f1_0_0, f1_0_1⟩ := KK0.out w1 C0_1.out
  obtain ⟨f1_1_0, f1_1_1⟩ := KK1.out w1 C1_1.out
  go_wp2_with fail
  refine (CU.out _).mono ?_; rintro e w2 ⟨rfl, hb⟩
  have B2 : RowKit.Hid (Below w.heap.size w w2) := Lib.hid (btr B1.out hb)
  have C0_2 : RowKit.Hid (Below U.heap.size U w2) := Lib.hid (btr C0_1.out hb)
  have C1_2 : RowKit.Hid (Below U.heap.size U w2) := Lib.hid (btr C1_1.out hb)
  clear f1_0_0 f1_0_1 f1_1_0 f1_1_1 hb
  obtain ⟨f2_0_0, f2_0_1⟩ := KK0.out w2 C0_2.out
  obtain ⟨f2_1_0, f2_1_1⟩ := KK1.out w2 C1_2.out
  go_wp2_with fail
  refine (PR1.out _ (HL.out.on B2.out).1).mono ?_; rintro e w3 ⟨rfl, hb⟩
  have B3 : RowKit.Hid (Below w.heap.size w w3) := Lib.hid (btr B2.out hb)
  have C0_3 : RowKit.Hid (Below U.heap.size U w3) := Lib.hid (btr C0_2.out hb)
  have C1_3 : RowKit.Hid (Below U.heap.size U w3) := Lib.hid (btr C1_2.out hb)
  clear f2_0_0 f2_0_1 f2_1_0 f2_1_1 hb
  obtain ⟨f3_0_0, f3_0_1⟩ := KK0.out w3 C0_3.out
  obtain ⟨f3_1_0, f3_1_1⟩ := KK1.out w3 C1_3.out
  go_wp2_with fail
  refine (PA1.out _ (HL.out.on B3.out).2).mono ?_; rintro e w4 ⟨rfl, hb⟩
  have B4 : RowKit.Hid (Below w.heap.size w (w4.alloc (.cells #[.int .i64 F, .int .i64 T] 23))) := Lib.hid (bal (btr B3.out hb) _)
  have C0_4 : RowKit.Hid (Below U.heap.size U (w4.alloc (.cells #[.int .i64 F, .int .i64 T] 23))) := Lib.hid (bal (btr C0_3.out hb) _)
  have C1_4 : RowKit.Hid (Below U.heap.size U (w4.alloc (.cells #[.int .i64 F, .int .i64 T] 23))) := Lib.hid (bal (btr C1_3.out hb) _)
  clear f3_0_0 f3_0_1 f3_1_0 f3_1_1 hb
  obtain ⟨f4_0_0, f4_0_1⟩ := KK0.out (w4.alloc (.cells #[.int .i64 F, .int .i64 T] 23)) C0_4.out
  obtain ⟨f4_1_0, f4_1_1⟩ := KK1.out (w4.alloc (.cells #[.int .i64 F, .int .i64 T] 23)) C1_4.out
  have f4_2_0 : (w4.alloc (.cells #[.int .i64 F, .int .i64 T] 23)).cell? ⟨w4.heap.size, 0, none⟩ = some (.int .i64 F) := by go_simp
  have f4_2_1 : (w4.alloc (.cells #[.int .i64 F, .int .i64 T] 23)).cell? ⟨w4.heap.size, 1, none⟩ = some (.int .i64 T) := by go_simp
  have KK2 := Lib.hid (show ∀ W, Below (w4.alloc (.cells #[.int .i64 F, .int .i64 T] 23)).heap.size (w4.alloc (.cells #[.int .i64 F, .int .i64 T] 23)) W → W.cell? ⟨w4.heap.size, 0, none⟩ = some (.int .i64 F) ∧ W.cell? ⟨w4.heap.size, 1, none⟩ = some (.int .i64 T) from fun W h => ⟨(h.cell (p := ⟨w4.heap.size, 0, none⟩) (blt f4_2_0)).trans f4_2_0, (h.cell (p := ⟨w4.heap.size, 1, none⟩) (blt f4_2_1)).trans f4_2_1⟩)
  have C2_4 := Lib.hid (Below.refl (w4.alloc (.cells #[.int .i64 F, .int .i64 T] 23)).heap.size (w4.alloc (.cells #[.int .i64 F, .int .i64 T] 23)))
  go_wp2_with fail
  refine (PT1.out _ (HL.out.on B4.out).1).mono ?_; rintro e w5 ⟨rfl, hb⟩
  have B5 : RowKit.Hid (Below w.heap.size w w5) := Lib.hid (btr B4.out hb)
  have C0_5 : RowKit.Hid (Below U.heap.size U w5) := Lib.hid (btr C0_4.out hb)
  have C1_5 : RowKit.Hid (Below U.heap.size U w5) := Lib.hid (btr C1_4.out hb)
  have C2_5 : RowKit.Hid (Below (w4.alloc (.cells #[.int .i64 F, .int .i64 T] 23)).heap.size (w4.alloc (.cells #[.int .i64 F, .int .i64 T] 23)) w5) := Lib.hid (btr C2_4.out hb)
  clear f4_0_0 f4_0_1 f4_1_0 f4_1_1 f4_2_0 f4_2_1 hb
  obtain ⟨f5_0_0, f5_0_1⟩ := KK0.out w5 C0_5.out
  obtain ⟨f5_1_0, f5_1_1⟩ := KK1.out w5 C1_5.out
  obtain ⟨f5_2_0, f5_2_1⟩ := KK2.out w5 C2_5.out
  go_wp2_with fail
  refine (PA2.out _).mono ?_; rintro e w6 ⟨rfl, hb⟩
  have B6 : RowKit.Hid (Below w.heap.size w (w6.alloc (.cells #[.int .i64 A, .int .i64 P] 25))) := Lib.hid (bal (btr B5.out hb) _)
  have C0_6 : RowKit.Hid (Below U.heap.size U (w6.alloc (.cells #[.int .i64 A, .int .i64 P] 25))) := Lib.hid (bal (btr C0_5.out hb) _)
  have C1_6 : RowKit.Hid (Below U.heap.size U (w6.alloc (.cells #[.int .i64 A, .int .i64 P] 25))) := Lib.hid (bal (btr C1_5.out hb) _)
  have C2_6 : RowKit.Hid (Below (w4.alloc (.cells #[.int .i64 F, .int .i64 T] 23)).heap.size (w4.alloc (.cells #[.int .i64 F, .int .i64 T] 23)) (w6.alloc (.cells #[.int .i64 A, .int .i64 P] 25))) := Lib.hid (bal (btr C2_5.out hb) _)
  clear f5_0_0 f5_0_1 f5_1_0 f5_1_1 f5_2_0 f5_2_1 hb
  obtain ⟨f6_0_0, f6_0_1⟩ := KK0.out (w6.alloc (.cells #[.int .i64 A, .int .i64 P] 25)) C0_6.out
  obtain ⟨f6_1_0, f6_1_1⟩ := KK1.out (w6.alloc (.cells #[.int .i64 A, .int .i64 P] 25)) C1_6.out
  obtain ⟨f6_2_0, f6_2_1⟩ := KK2.out (w6.alloc (.cells #[.int .i64 A, .int .i64 P] 25)) C2_6.out
  have f6_3_0 : (w6.alloc (.cells #[.int .i64 A, .int .i64 P] 25)).cell? ⟨w6.heap.size, 0, none⟩ = some (.int .i64 A) := by go_simp
  have f6_3_1 : (w6.alloc (.cells #[.int .i64 A, .int .i64 P] 25)).cell? ⟨w6.heap.size, 1, none⟩ = some (.int .i64 P) := by go_simp
  have KK3 := Lib.hid (show ∀ W, Below (w6.alloc (.cells #[.int .i64 A, .int .i64 P] 25)).heap.size (w6.alloc (.cells #[.int .i64 A, .int .i64 P] 25)) W → W.cell? ⟨w6.heap.size, 0, none⟩ = some (.int .i64 A) ∧ W.cell? ⟨w6.heap.size, 1, none⟩ = some (.int .i64 P) from fun W h => ⟨(h.cell (p := ⟨w6.heap.size, 0, none⟩) (blt f6_3_0)).trans f6_3_0, (h.cell (p := ⟨w6.heap.size, 1, none⟩) (blt f6_3_1)).trans f6_3_1⟩)
  have C3_6 := Lib.hid (Below.refl (w6.alloc (.cells #[.int .i64 A, .int .i64 P] 25)).heap.size (w6.alloc (.cells #[.int .i64 A, .int .i64 P] 25)))
  go_wp2_with fail
  refine (PA3.out _ (HL.out.on B6.out).2).mono ?_; rintro e w7 ⟨rfl, hb⟩
  have B7 : RowKit.Hid (Below w.heap.size w (w7.alloc (.cells #[.int .i64 0, .int .i64 0] 23))) := Lib.hid (bal (btr B6.out hb) _)
  have C0_7 : RowKit.Hid (Below U.heap.size U (w7.alloc (.cells #[.int .i64 0, .int .i64 0] 23))) := Lib.hid (bal (btr C0_6.out hb) _)
  have C1_7 : RowKit.Hid (Below U.heap.size U (w7.alloc (.cells #[.int .i64 0, .int .i64 0] 23))) := Lib.hid (bal (btr C1_6.out hb) _)
  have C2_7 : RowKit.Hid (Below (w4.alloc (.cells #[.int .i64 F, .int .i64 T] 23)).heap.size (w4.alloc (.cells #[.int .i64 F, .int .i64 T] 23)) (w7.alloc (.cells #[.int .i64 0, .int .i64 0] 23))) := Lib.hid (bal (btr C2_6.out hb) _)
  have C3_7 : RowKit.Hid (Below (w6.alloc (.cells #[.int .i64 A, .int .i64 P] 25)).heap.size (w6.alloc (.cells #[.int .i64 A, .int .i64 P] 25)) (w7.alloc (.cells #[.int .i64 0, .int .i64 0] 23))) := Lib.hid (bal (btr C3_6.out hb) _)
  clear f6_0_0 f6_0_1 f6_1_0 f6_1_1 f6_2_0 f6_2_1 f6_3_0 f6_3_1 hb
  obtain ⟨f7_0_0, f7_0_1⟩ := KK0.out (w7.alloc (.cells #[.int .i64 0, .int .i64 0] 23)) C0_7.out
  obtain ⟨f7_1_0, f7_1_1⟩ := KK1.out (w7.alloc (.cells #[.int .i64 0, .int .i64 0] 23)) C1_7.out
  obtain ⟨f7_2_0, f7_2_1⟩ := KK2.out (w7.alloc (.cells #[.int .i64 0, .int .i64 0] 23)) C2_7.out
  obtain ⟨f7_3_0, f7_3_1⟩ := KK3.out (w7.alloc (.cells #[.int .i64 0, .int .i64 0] 23)) C3_7.out
  have f7_4_0 : (w7.alloc (.cells #[.int .i64 0, .int .i64 0] 23)).cell? ⟨w7.heap.size, 0, none⟩ = some (.int .i64 0) := by go_simp
  have f7_4_1 : (w7.alloc (.cells #[.int .i64 0, .int .i64 0] 23)).cell? ⟨w7.heap.size, 1, none⟩ = some (.int .i64 0) := by go_simp
  have KK4 := Lib.hid (show ∀ W, Below (w7.alloc (.cells #[.int .i64 0, .int .i64 0] 23)).heap.size (w7.alloc (.cells #[.int .i64 0, .int .i64 0] 23)) W → W.cell? ⟨w7.heap.size, 0, none⟩ = some (.int .i64 0) ∧ W.cell? ⟨w7.heap.size, 1, none⟩ = some (.int .i64 0) from fun W h => ⟨(h.cell (p := ⟨w7.heap.size, 0, none⟩) (blt f7_4_0)).trans f7_4_0, (h.cell (p := ⟨w7.heap.size, 1, none⟩) (blt f7_4_1)).trans f7_4_1⟩)
  have C4_7 := Lib.hid (Below.refl (w7.alloc (.cells #[.int .i64 0, .int .i64 0] 23)).heap.size (w7.alloc (.cells #[.int .i64 0, .int .i64 0] 23)))
  go_wp2_with fail
  refine (PR2.out _ (HL.out.on B7.out).1).mono ?_; rintro e w8 ⟨rfl, hb⟩
  have B8 : RowKit.Hid (Below w.heap.size w w8) := Lib.hid (btr B7.out hb)
  have C0_8 : RowKit.Hid (Below U.heap.size U w8) := Lib.hid (btr C0_7.out hb)
  have C1_8 : RowKit.Hid (Below U.heap.size U w8) := Lib.hid (btr C1_7.out hb)
  have C2_8 : RowKit.Hid (Below (w4.alloc (.cells #[.int .i64 F, .int .i64 T] 23)).heap.size (w4.alloc (.cells #[.int .i64 F, .int .i64 T] 23)) w8) := Lib.hid (btr C2_7.out hb)
  have C3_8 : RowKit.Hid (Below (w6.alloc (.cells #[.int .i64 A, .int .i64 P] 25)).heap.size (w6.alloc (.cells #[.int .i64 A, .int .i64 P] 25)) w8) := Lib.hid (btr C3_7.out hb)
  have C4_8 : RowKit.Hid (Below (w7.alloc (.cells #[.int .i64 0, .int .i64 0] 23)).heap.size (w7.alloc (.cells #[.int .i64 0, .int .i64 0] 23)) w8) := Lib.hid (btr C4_7.out hb)
  clear f7_0_0 f7_0_1 f7_1_0 f7_1_1 f7_2_0 f7_2_1 f7_3_0 f7_3_1 f7_4_0 f7_4_1 hb
  obtain ⟨f8_0_0, f8_0_1⟩ := KK0.out w8 C0_8.out
  obtain ⟨f8_1_0, f8_1_1⟩ := KK1.out w8 C1_8.out
  obtain ⟨f8_2_0, f8_2_1⟩ := KK2.out w8 C2_8.out
  obtain ⟨f8_3_0, f8_3_1⟩ := KK3.out w8 C3_8.out
  obtain ⟨f8_4_0, f8_4_1⟩ := KK4.out w8 C4_8.out
  go_wp2_with fail
  refine (PA4.out _).mono ?_; rintro e w9 ⟨rfl, hb⟩
  have B9 : RowKit.Hid (Below w.heap.size w (w9.alloc (.cells #[.int .i64 d0, .int .i64 d1] 25))) := Lib.hid (bal (btr B8.out hb) _)
  have C0_9 : RowKit.Hid (Below U.heap.size U (w9.alloc (.cells #[.int .i64 d0, .int .i64 d1] 25))) := Lib.hid (bal (btr C0_8.out hb) _)
  have C1_9 : RowKit.Hid (Below U.heap.size U (w9.alloc (.cells #[.int .i64 d0, .int .i64 d1] 25))) := Lib.hid (bal (btr C1_8.out hb) _)
  have C2_9 : RowKit.Hid (Below (w4.alloc (.cells #[.int .i64 F, .int .i64 T] 23)).heap.size (w4.alloc (.cells #[.int .i64 F, .int .i64 T] 23)) (w9.alloc (.cells #[.int .i64 d0, .int .i64 d1] 25))) := Lib.hid (bal (btr C2_8.out hb) _)
  have C3_9 : RowKit.Hid (Below (w6.alloc (.cells #[.int .i64 A, .int .i64 P] 25)).heap.size (w6.alloc (.cells #[.int .i64 A, .int .i64 P] 25)) (w9.alloc (.cells #[.int .i64 d0, .int .i64 d1] 25))) := Lib.hid (bal (btr C3_8.out hb) _)
  have C4_9 : RowKit.Hid (Below (w7.alloc (.cells #[.int .i64 0, .int .i64 0] 23)).heap.size (w7.alloc (.cells #[.int .i64 0, .int .i64 0] 23)) (w9.alloc (.cells #[.int .i64 d0, .int .i64 d1] 25))) := Lib.hid (bal (btr C4_8.out hb) _)
  clear f8_0_0 f8_0_1 f8_1_0 f8_1_1 f8_2_0 f8_2_1 f8_3_0 f8_3_1 f8_4_0 f8_4_1 hb
  obtain ⟨f9_0_0, f9_0_1⟩ := KK0.out (w9.alloc (.cells #[.int .i64 d0, .int .i64 d1] 25)) C0_9.out
  obtain ⟨f9_1_0, f9_1_1⟩ := KK1.out (w9.alloc (.cells #[.int .i64 d0, .int .i64 d1] 25)) C1_9.out
  obtain ⟨f9_2_0, f9_2_1⟩ := KK2.out (w9.alloc (.cells #[.int .i64 d0, .int .i64 d1] 25)) C2_9.out
  obtain ⟨f9_3_0, f9_3_1⟩ := KK3.out (w9.alloc (.cells #[.int .i64 d0, .int .i64 d1] 25)) C3_9.out
  obtain ⟨f9_4_0, f9_4_1⟩ := KK4.out (w9.alloc (.cells #[.int .i64 d0, .int .i64 d1] 25)) C4_9.out
  have f9_5_0 : (w9.alloc (.cells #[.int .i64 d0, .int .i64 d1] 25)).cell? ⟨w9.heap.size, 0, none⟩ = some (.int .i64 d0) := by go_simp
  have f9_5_1 : (w9.alloc (.cells #[.int .i64 d0, .int .i64 d1] 25)).cell? ⟨w9.heap.size, 1, none⟩ = some (.int .i64 d1) := by go_simp
  have KK5 := Lib.hid (show ∀ W, Below (w9.alloc (.cells #[.int .i64 d0, .int .i64 d1] 25)).heap.size (w9.alloc (.cells #[.int .i64 d0, .int .i64 d1] 25)) W → W.cell? ⟨w9.heap.size, 0, none⟩ = some (.int .i64 d0) ∧ W.cell? ⟨w9.heap.size, 1, none⟩ = some (.int .i64 d1) from fun W h => ⟨(h.cell (p := ⟨w9.heap.size, 0, none⟩) (blt f9_5_0)).trans f9_5_0, (h.cell (p := ⟨w9.heap.size, 1, none⟩) (blt f9_5_1)).trans f9_5_1⟩)
  have C5_9 := Lib.hid (Below.refl (w9.alloc (.cells #[.int .i64 d0, .int .i64 d1] 25)).heap.size (w9.alloc (.cells #[.int .i64 d0, .int .i64 d1] 25)))
  go_wp2_with fail
  refine (PT2.out _ (HL.out.on B9.out).1).mono ?_; rintro e w10 ⟨rfl, hb⟩
  have B10 : RowKit.Hid (Below w.heap.size w w10) := Lib.hid (btr B9.out hb)
  have C0_10 : RowKit.Hid (Below U.heap.size U w10) := Lib.hid (btr C0_9.out hb)
  have C1_10 : RowKit.Hid (Below U.heap.size U w10) := Lib.hid (btr C1_9.out hb)
  have C2_10 : RowKit.Hid (Below (w4.alloc (.cells #[.int .i64 F, .int .i64 T] 23)).heap.size (w4.alloc (.cells #[.int .i64 F, .int .i64 T] 23)) w10) := Lib.hid (btr C2_9.out hb)
  have C3_10 : RowKit.Hid (Below (w6.alloc (.cells #[.int .i64 A, .int .i64 P] 25)).heap.size (w6.alloc (.cells #[.int .i64 A, .int .i64 P] 25)) w10) := Lib.hid (btr C3_9.out hb)
  have C4_10 : RowKit.Hid (Below (w7.alloc (.cells #[.int .i64 0, .int .i64 0] 23)).heap.size (w7.alloc (.cells #[.int .i64 0, .int .i64 0] 23)) w10) := Lib.hid (btr C4_9.out hb)
  have C5_10 : RowKit.Hid (Below (w9.alloc (.cells #[.int .i64 d0, .int .i64 d1] 25)).heap.size (w9.alloc (.cells #[.int .i64 d0, .int .i64 d1] 25)) w10) := Lib.hid (btr C5_9.out hb)
  clear f9_0_0 f9_0_1 f9_1_0 f9_1_1 f9_2_0 f9_2_1 f9_3_0 f9_3_1 f9_4_0 f9_4_1 f9_5_0 f9_5_1 hb
  obtain ⟨f10_0_0, f10_0_1⟩ := KK0.out w10 C0_10.out
  obtain ⟨f10_1_0, f10_1_1⟩ := KK1.out w10 C1_10.out
  obtain ⟨f10_2_0, f10_2_1⟩ := KK2.out w10 C2_10.out
  obtain ⟨f10_3_0, f10_3_1⟩ := KK3.out w10 C3_10.out
  obtain ⟨f10_4_0, f10_4_1⟩ := KK4.out w10 C4_10.out
  obtain ⟨f10_5_0, f10_5_1⟩ := KK5.out w10 C5_10.out
  go_wp2_with fail
  refine (R1.out _).mono ?_; rintro e w11 ⟨rfl, hb⟩
  have B11 : RowKit.Hid (Below w.heap.size w w11) := Lib.hid (btr B10.out hb)
  have C0_11 : RowKit.Hid (Below U.heap.size U w11) := Lib.hid (btr C0_10.out hb)
  have C1_11 : RowKit.Hid (Below U.heap.size U w11) := Lib.hid (btr C1_10.out hb)
  have C2_11 : RowKit.Hid (Below (w4.alloc (.cells #[.int .i64 F, .int .i64 T] 23)).heap.size (w4.alloc (.cells #[.int .i64 F, .int .i64 T] 23)) w11) := Lib.hid (btr C2_10.out hb)
  have C3_11 : RowKit.Hid (Below (w6.alloc (.cells #[.int .i64 A, .int .i64 P] 25)).heap.size (w6.alloc (.cells #[.int .i64 A, .int .i64 P] 25)) w11) := Lib.hid (btr C3_10.out hb)
  have C4_11 : RowKit.Hid (Below (w7.alloc (.cells #[.int .i64 0, .int .i64 0] 23)).heap.size (w7.alloc (.cells #[.int .i64 0, .int .i64 0] 23)) w11) := Lib.hid (btr C4_10.out hb)
  have C5_11 : RowKit.Hid (Below (w9.alloc (.cells #[.int .i64 d0, .int .i64 d1] 25)).heap.size (w9.alloc (.cells #[.int .i64 d0, .int .i64 d1] 25)) w11) := Lib.hid (btr C5_10.out hb)
  clear f10_0_0 f10_0_1 f10_1_0 f10_1_1 f10_2_0 f10_2_1 f10_3_0 f10_3_1 f10_4_0 f10_4_1 f10_5_0 f10_5_1 hb
  obtain ⟨f11_0_0, f11_0_1⟩ := KK0.out w11 C0_11.out
  obtain ⟨f11_1_0, f11_1_1⟩ := KK1.out w11 C1_11.out
  obtain ⟨f11_2_0, f11_2_1⟩ := KK2.out w11 C2_11.out
  obtain ⟨f11_3_0, f11_3_1⟩ := KK3.out w11 C3_11.out
  obtain ⟨f11_4_0, f11_4_1⟩ := KK4.out w11 C4_11.out
  obtain ⟨f11_5_0, f11_5_1⟩ := KK5.out w11 C5_11.out
  go_wp2
  go_ret
  exact ⟨ret_bool (by first | rfl | (simp <;> omega)), B11.out⟩

set_option maxRecDepth 100000 in
set_option maxHeartbeats 4000000 in
theorem backL_rtc (F T A P : Int) (s0 S sa sb : ByteArray) (w : World) (hL : Laid w)
    (S0 : Hid (∀ W, Laid W → Calls Tryd.prog 6 #[] W fun x w' => x = .returned (.bool true) ∧ Below W.heap.size W w'))
    (CU : Hid (∀ W, Calls Tryd.prog 7 #[.string s0] W fun x w' => x = .returned (.string S) ∧ Below W.heap.size W w'))
    (PR1 : Hid (∀ W, Tabs W → Calls Tryd.prog 8 #[.agg #[.int .i64 F, .int .i64 T]] W fun x w' => x = .returned (.tuple #[.string sa, .int .i64 0]) ∧ Below W.heap.size W w'))
    (PA1 : Hid (∀ W, ErrT W → Calls Tryd.prog 9 #[.string sa] W fun x w' => x = .returned (.tuple #[.agg #[.int .i64 F, .int .i64 T], .int .i64 0]) ∧ Below W.heap.size W w'))
    (PT1 : Hid (∀ W, Tabs W → Calls Tryd.prog 10 #[.agg #[.int .i64 A, .int .i64 P]] W fun x w' => x = .returned (.tuple #[.string sb, .int .i64 0]) ∧ Below W.heap.size W w'))
    (PA2 : Hid (∀ W, Calls Tryd.prog 11 #[.string sb] W fun x w' => x = .returned (.tuple #[.agg #[.int .i64 A, .int .i64 P], .int .i64 0]) ∧ Below W.heap.size W w'))
    (PA3 : Hid (∀ W, ErrT W → Calls Tryd.prog 9 #[.string S] W fun x w' => x = .returned (.tuple #[.agg #[.int .i64 0, .int .i64 0], .int .i64 70]) ∧ Below W.heap.size W w'))
    (PR2 : Hid (∀ W, Tabs W → Calls Tryd.prog 8 #[.agg #[.int .i64 0, .int .i64 0]] W fun x w' => x = .returned (.tuple #[.string ⟨#[48]⟩, .int .i64 0]) ∧ Below W.heap.size W w'))
    (PA4 : Hid (∀ W, Calls Tryd.prog 11 #[.string S] W fun x w' => x = .returned (.tuple #[.agg #[.int .i64 0, .int .i64 0], .int .i64 71]) ∧ Below W.heap.size W w'))
    (PT2 : Hid (∀ W, Tabs W → Calls Tryd.prog 10 #[.agg #[.int .i64 0, .int .i64 0]] W fun x w' => x = .returned (.tuple #[.string ⟨#[]⟩, .int .i64 71]) ∧ Below W.heap.size W w'))
    (R1 : Hid (∀ W, Calls Tryd.prog 12 #[.agg #[.int .i64 F, .int .i64 T]] W fun x w' => x = .returned (.bool true) ∧ Below W.heap.size W w'))
    : Calls Tryd.prog 3 #[.agg #[.int .i64 F, .int .i64 T], .agg #[.int .i64 A, .int .i64 P], .string s0] w fun x w' => x = .returned (.bool true) ∧ Below w.heap.size w w' := by
  have HL := Lib.hid hL
  clear hL
  go_enter Tryd.func3, Tryd.ntmps3
  go_wp2_with fail
  have x0_0 : ((w.alloc (.cells #[.int .i64 F, .int .i64 T] 23)).alloc (.cells #[.int .i64 A, .int .i64 P] 25)).cell? ⟨w.heap.size, 0, none⟩ = some (.int .i64 F) := by go_simp
  have x0_1 : ((w.alloc (.cells #[.int .i64 F, .int .i64 T] 23)).alloc (.cells #[.int .i64 A, .int .i64 P] 25)).cell? ⟨w.heap.size, 1, none⟩ = some (.int .i64 T) := by go_simp
  have x1_0 : ((w.alloc (.cells #[.int .i64 F, .int .i64 T] 23)).alloc (.cells #[.int .i64 A, .int .i64 P] 25)).cell? ⟨w.heap.size + 1, 0, none⟩ = some (.int .i64 A) := by go_simp
  have x1_1 : ((w.alloc (.cells #[.int .i64 F, .int .i64 T] 23)).alloc (.cells #[.int .i64 A, .int .i64 P] 25)).cell? ⟨w.heap.size + 1, 1, none⟩ = some (.int .i64 P) := by go_simp
  have B0 : Below w.heap.size w ((w.alloc (.cells #[.int .i64 F, .int .i64 T] 23)).alloc (.cells #[.int .i64 A, .int .i64 P] 25)) := (bal ((bal (Below.refl _ w) _)) _)
  generalize ((w.alloc (.cells #[.int .i64 F, .int .i64 T] 23)).alloc (.cells #[.int .i64 A, .int .i64 P] 25)) = U at *
  have KK0 := Lib.hid (show ∀ W, Below U.heap.size U W → W.cell? ⟨w.heap.size, 0, none⟩ = some (.int .i64 F) ∧ W.cell? ⟨w.heap.size, 1, none⟩ = some (.int .i64 T) from fun W h => ⟨(h.cell (p := ⟨w.heap.size, 0, none⟩) (blt x0_0)).trans x0_0, (h.cell (p := ⟨w.heap.size, 1, none⟩) (blt x0_1)).trans x0_1⟩)
  have KK1 := Lib.hid (show ∀ W, Below U.heap.size U W → W.cell? ⟨w.heap.size + 1, 0, none⟩ = some (.int .i64 A) ∧ W.cell? ⟨w.heap.size + 1, 1, none⟩ = some (.int .i64 P) from fun W h => ⟨(h.cell (p := ⟨w.heap.size + 1, 0, none⟩) (blt x1_0)).trans x1_0, (h.cell (p := ⟨w.heap.size + 1, 1, none⟩) (blt x1_1)).trans x1_1⟩)
  have C0_0 := Lib.hid (Below.refl U.heap.size U)
  have C1_0 := Lib.hid (Below.refl U.heap.size U)
  replace B0 := Lib.hid B0
  refine (S0.out _ (HL.out.on B0.out)).mono ?_; rintro e w1 ⟨rfl, hb⟩
  have B1 : RowKit.Hid (Below w.heap.size w w1) := Lib.hid (btr B0.out hb)
  have C0_1 : RowKit.Hid (Below U.heap.size U w1) := Lib.hid (btr C0_0.out hb)
  have C1_1 : RowKit.Hid (Below U.heap.size U w1) := Lib.hid (btr C1_0.out hb)
  clear x0_0 x0_1 x1_0 x1_1 hb
  obtain ⟨f1_0_0, f1_0_1⟩ := KK0.out w1 C0_1.out
  obtain ⟨f1_1_0, f1_1_1⟩ := KK1.out w1 C1_1.out
  go_wp2_with fail
  refine (CU.out _).mono ?_; rintro e w2 ⟨rfl, hb⟩
  have B2 : RowKit.Hid (Below w.heap.size w w2) := Lib.hid (btr B1.out hb)
  have C0_2 : RowKit.Hid (Below U.heap.size U w2) := Lib.hid (btr C0_1.out hb)
  have C1_2 : RowKit.Hid (Below U.heap.size U w2) := Lib.hid (btr C1_1.out hb)
  clear f1_0_0 f1_0_1 f1_1_0 f1_1_1 hb
  obtain ⟨f2_0_0, f2_0_1⟩ := KK0.out w2 C0_2.out
  obtain ⟨f2_1_0, f2_1_1⟩ := KK1.out w2 C1_2.out
  go_wp2_with fail
  refine (PR1.out _ (HL.out.on B2.out).1).mono ?_; rintro e w3 ⟨rfl, hb⟩
  have B3 : RowKit.Hid (Below w.heap.size w w3) := Lib.hid (btr B2.out hb)
  have C0_3 : RowKit.Hid (Below U.heap.size U w3) := Lib.hid (btr C0_2.out hb)
  have C1_3 : RowKit.Hid (Below U.heap.size U w3) := Lib.hid (btr C1_2.out hb)
  clear f2_0_0 f2_0_1 f2_1_0 f2_1_1 hb
  obtain ⟨f3_0_0, f3_0_1⟩ := KK0.out w3 C0_3.out
  obtain ⟨f3_1_0, f3_1_1⟩ := KK1.out w3 C1_3.out
  go_wp2_with fail
  refine (PA1.out _ (HL.out.on B3.out).2).mono ?_; rintro e w4 ⟨rfl, hb⟩
  have B4 : RowKit.Hid (Below w.heap.size w (w4.alloc (.cells #[.int .i64 F, .int .i64 T] 23))) := Lib.hid (bal (btr B3.out hb) _)
  have C0_4 : RowKit.Hid (Below U.heap.size U (w4.alloc (.cells #[.int .i64 F, .int .i64 T] 23))) := Lib.hid (bal (btr C0_3.out hb) _)
  have C1_4 : RowKit.Hid (Below U.heap.size U (w4.alloc (.cells #[.int .i64 F, .int .i64 T] 23))) := Lib.hid (bal (btr C1_3.out hb) _)
  clear f3_0_0 f3_0_1 f3_1_0 f3_1_1 hb
  obtain ⟨f4_0_0, f4_0_1⟩ := KK0.out (w4.alloc (.cells #[.int .i64 F, .int .i64 T] 23)) C0_4.out
  obtain ⟨f4_1_0, f4_1_1⟩ := KK1.out (w4.alloc (.cells #[.int .i64 F, .int .i64 T] 23)) C1_4.out
  have f4_2_0 : (w4.alloc (.cells #[.int .i64 F, .int .i64 T] 23)).cell? ⟨w4.heap.size, 0, none⟩ = some (.int .i64 F) := by go_simp
  have f4_2_1 : (w4.alloc (.cells #[.int .i64 F, .int .i64 T] 23)).cell? ⟨w4.heap.size, 1, none⟩ = some (.int .i64 T) := by go_simp
  have KK2 := Lib.hid (show ∀ W, Below (w4.alloc (.cells #[.int .i64 F, .int .i64 T] 23)).heap.size (w4.alloc (.cells #[.int .i64 F, .int .i64 T] 23)) W → W.cell? ⟨w4.heap.size, 0, none⟩ = some (.int .i64 F) ∧ W.cell? ⟨w4.heap.size, 1, none⟩ = some (.int .i64 T) from fun W h => ⟨(h.cell (p := ⟨w4.heap.size, 0, none⟩) (blt f4_2_0)).trans f4_2_0, (h.cell (p := ⟨w4.heap.size, 1, none⟩) (blt f4_2_1)).trans f4_2_1⟩)
  have C2_4 := Lib.hid (Below.refl (w4.alloc (.cells #[.int .i64 F, .int .i64 T] 23)).heap.size (w4.alloc (.cells #[.int .i64 F, .int .i64 T] 23)))
  go_wp2_with fail
  refine (PT1.out _ (HL.out.on B4.out).1).mono ?_; rintro e w5 ⟨rfl, hb⟩
  have B5 : RowKit.Hid (Below w.heap.size w w5) := Lib.hid (btr B4.out hb)
  have C0_5 : RowKit.Hid (Below U.heap.size U w5) := Lib.hid (btr C0_4.out hb)
  have C1_5 : RowKit.Hid (Below U.heap.size U w5) := Lib.hid (btr C1_4.out hb)
  have C2_5 : RowKit.Hid (Below (w4.alloc (.cells #[.int .i64 F, .int .i64 T] 23)).heap.size (w4.alloc (.cells #[.int .i64 F, .int .i64 T] 23)) w5) := Lib.hid (btr C2_4.out hb)
  clear f4_0_0 f4_0_1 f4_1_0 f4_1_1 f4_2_0 f4_2_1 hb
  obtain ⟨f5_0_0, f5_0_1⟩ := KK0.out w5 C0_5.out
  obtain ⟨f5_1_0, f5_1_1⟩ := KK1.out w5 C1_5.out
  obtain ⟨f5_2_0, f5_2_1⟩ := KK2.out w5 C2_5.out
  go_wp2_with fail
  refine (PA2.out _).mono ?_; rintro e w6 ⟨rfl, hb⟩
  have B6 : RowKit.Hid (Below w.heap.size w (w6.alloc (.cells #[.int .i64 A, .int .i64 P] 25))) := Lib.hid (bal (btr B5.out hb) _)
  have C0_6 : RowKit.Hid (Below U.heap.size U (w6.alloc (.cells #[.int .i64 A, .int .i64 P] 25))) := Lib.hid (bal (btr C0_5.out hb) _)
  have C1_6 : RowKit.Hid (Below U.heap.size U (w6.alloc (.cells #[.int .i64 A, .int .i64 P] 25))) := Lib.hid (bal (btr C1_5.out hb) _)
  have C2_6 : RowKit.Hid (Below (w4.alloc (.cells #[.int .i64 F, .int .i64 T] 23)).heap.size (w4.alloc (.cells #[.int .i64 F, .int .i64 T] 23)) (w6.alloc (.cells #[.int .i64 A, .int .i64 P] 25))) := Lib.hid (bal (btr C2_5.out hb) _)
  clear f5_0_0 f5_0_1 f5_1_0 f5_1_1 f5_2_0 f5_2_1 hb
  obtain ⟨f6_0_0, f6_0_1⟩ := KK0.out (w6.alloc (.cells #[.int .i64 A, .int .i64 P] 25)) C0_6.out
  obtain ⟨f6_1_0, f6_1_1⟩ := KK1.out (w6.alloc (.cells #[.int .i64 A, .int .i64 P] 25)) C1_6.out
  obtain ⟨f6_2_0, f6_2_1⟩ := KK2.out (w6.alloc (.cells #[.int .i64 A, .int .i64 P] 25)) C2_6.out
  have f6_3_0 : (w6.alloc (.cells #[.int .i64 A, .int .i64 P] 25)).cell? ⟨w6.heap.size, 0, none⟩ = some (.int .i64 A) := by go_simp
  have f6_3_1 : (w6.alloc (.cells #[.int .i64 A, .int .i64 P] 25)).cell? ⟨w6.heap.size, 1, none⟩ = some (.int .i64 P) := by go_simp
  have KK3 := Lib.hid (show ∀ W, Below (w6.alloc (.cells #[.int .i64 A, .int .i64 P] 25)).heap.size (w6.alloc (.cells #[.int .i64 A, .int .i64 P] 25)) W → W.cell? ⟨w6.heap.size, 0, none⟩ = some (.int .i64 A) ∧ W.cell? ⟨w6.heap.size, 1, none⟩ = some (.int .i64 P) from fun W h => ⟨(h.cell (p := ⟨w6.heap.size, 0, none⟩) (blt f6_3_0)).trans f6_3_0, (h.cell (p := ⟨w6.heap.size, 1, none⟩) (blt f6_3_1)).trans f6_3_1⟩)
  have C3_6 := Lib.hid (Below.refl (w6.alloc (.cells #[.int .i64 A, .int .i64 P] 25)).heap.size (w6.alloc (.cells #[.int .i64 A, .int .i64 P] 25)))
  go_wp2_with fail
  refine (PA3.out _ (HL.out.on B6.out).2).mono ?_; rintro e w7 ⟨rfl, hb⟩
  have B7 : RowKit.Hid (Below w.heap.size w (w7.alloc (.cells #[.int .i64 0, .int .i64 0] 23))) := Lib.hid (bal (btr B6.out hb) _)
  have C0_7 : RowKit.Hid (Below U.heap.size U (w7.alloc (.cells #[.int .i64 0, .int .i64 0] 23))) := Lib.hid (bal (btr C0_6.out hb) _)
  have C1_7 : RowKit.Hid (Below U.heap.size U (w7.alloc (.cells #[.int .i64 0, .int .i64 0] 23))) := Lib.hid (bal (btr C1_6.out hb) _)
  have C2_7 : RowKit.Hid (Below (w4.alloc (.cells #[.int .i64 F, .int .i64 T] 23)).heap.size (w4.alloc (.cells #[.int .i64 F, .int .i64 T] 23)) (w7.alloc (.cells #[.int .i64 0, .int .i64 0] 23))) := Lib.hid (bal (btr C2_6.out hb) _)
  have C3_7 : RowKit.Hid (Below (w6.alloc (.cells #[.int .i64 A, .int .i64 P] 25)).heap.size (w6.alloc (.cells #[.int .i64 A, .int .i64 P] 25)) (w7.alloc (.cells #[.int .i64 0, .int .i64 0] 23))) := Lib.hid (bal (btr C3_6.out hb) _)
  clear f6_0_0 f6_0_1 f6_1_0 f6_1_1 f6_2_0 f6_2_1 f6_3_0 f6_3_1 hb
  obtain ⟨f7_0_0, f7_0_1⟩ := KK0.out (w7.alloc (.cells #[.int .i64 0, .int .i64 0] 23)) C0_7.out
  obtain ⟨f7_1_0, f7_1_1⟩ := KK1.out (w7.alloc (.cells #[.int .i64 0, .int .i64 0] 23)) C1_7.out
  obtain ⟨f7_2_0, f7_2_1⟩ := KK2.out (w7.alloc (.cells #[.int .i64 0, .int .i64 0] 23)) C2_7.out
  obtain ⟨f7_3_0, f7_3_1⟩ := KK3.out (w7.alloc (.cells #[.int .i64 0, .int .i64 0] 23)) C3_7.out
  have f7_4_0 : (w7.alloc (.cells #[.int .i64 0, .int .i64 0] 23)).cell? ⟨w7.heap.size, 0, none⟩ = some (.int .i64 0) := by go_simp
  have f7_4_1 : (w7.alloc (.cells #[.int .i64 0, .int .i64 0] 23)).cell? ⟨w7.heap.size, 1, none⟩ = some (.int .i64 0) := by go_simp
  have KK4 := Lib.hid (show ∀ W, Below (w7.alloc (.cells #[.int .i64 0, .int .i64 0] 23)).heap.size (w7.alloc (.cells #[.int .i64 0, .int .i64 0] 23)) W → W.cell? ⟨w7.heap.size, 0, none⟩ = some (.int .i64 0) ∧ W.cell? ⟨w7.heap.size, 1, none⟩ = some (.int .i64 0) from fun W h => ⟨(h.cell (p := ⟨w7.heap.size, 0, none⟩) (blt f7_4_0)).trans f7_4_0, (h.cell (p := ⟨w7.heap.size, 1, none⟩) (blt f7_4_1)).trans f7_4_1⟩)
  have C4_7 := Lib.hid (Below.refl (w7.alloc (.cells #[.int .i64 0, .int .i64 0] 23)).heap.size (w7.alloc (.cells #[.int .i64 0, .int .i64 0] 23)))
  go_wp2_with fail
  refine (PR2.out _ (HL.out.on B7.out).1).mono ?_; rintro e w8 ⟨rfl, hb⟩
  have B8 : RowKit.Hid (Below w.heap.size w w8) := Lib.hid (btr B7.out hb)
  have C0_8 : RowKit.Hid (Below U.heap.size U w8) := Lib.hid (btr C0_7.out hb)
  have C1_8 : RowKit.Hid (Below U.heap.size U w8) := Lib.hid (btr C1_7.out hb)
  have C2_8 : RowKit.Hid (Below (w4.alloc (.cells #[.int .i64 F, .int .i64 T] 23)).heap.size (w4.alloc (.cells #[.int .i64 F, .int .i64 T] 23)) w8) := Lib.hid (btr C2_7.out hb)
  have C3_8 : RowKit.Hid (Below (w6.alloc (.cells #[.int .i64 A, .int .i64 P] 25)).heap.size (w6.alloc (.cells #[.int .i64 A, .int .i64 P] 25)) w8) := Lib.hid (btr C3_7.out hb)
  have C4_8 : RowKit.Hid (Below (w7.alloc (.cells #[.int .i64 0, .int .i64 0] 23)).heap.size (w7.alloc (.cells #[.int .i64 0, .int .i64 0] 23)) w8) := Lib.hid (btr C4_7.out hb)
  clear f7_0_0 f7_0_1 f7_1_0 f7_1_1 f7_2_0 f7_2_1 f7_3_0 f7_3_1 f7_4_0 f7_4_1 hb
  obtain ⟨f8_0_0, f8_0_1⟩ := KK0.out w8 C0_8.out
  obtain ⟨f8_1_0, f8_1_1⟩ := KK1.out w8 C1_8.out
  obtain ⟨f8_2_0, f8_2_1⟩ := KK2.out w8 C2_8.out
  obtain ⟨f8_3_0, f8_3_1⟩ := KK3.out w8 C3_8.out
  obtain ⟨f8_4_0, f8_4_1⟩ := KK4.out w8 C4_8.out
  go_wp2_with fail
  refine (PA4.out _).mono ?_; rintro e w9 ⟨rfl, hb⟩
  have B9 : RowKit.Hid (Below w.heap.size w (w9.alloc (.cells #[.int .i64 0, .int .i64 0] 25))) := Lib.hid (bal (btr B8.out hb) _)
  have C0_9 : RowKit.Hid (Below U.heap.size U (w9.alloc (.cells #[.int .i64 0, .int .i64 0] 25))) := Lib.hid (bal (btr C0_8.out hb) _)
  have C1_9 : RowKit.Hid (Below U.heap.size U (w9.alloc (.cells #[.int .i64 0, .int .i64 0] 25))) := Lib.hid (bal (btr C1_8.out hb) _)
  have C2_9 : RowKit.Hid (Below (w4.alloc (.cells #[.int .i64 F, .int .i64 T] 23)).heap.size (w4.alloc (.cells #[.int .i64 F, .int .i64 T] 23)) (w9.alloc (.cells #[.int .i64 0, .int .i64 0] 25))) := Lib.hid (bal (btr C2_8.out hb) _)
  have C3_9 : RowKit.Hid (Below (w6.alloc (.cells #[.int .i64 A, .int .i64 P] 25)).heap.size (w6.alloc (.cells #[.int .i64 A, .int .i64 P] 25)) (w9.alloc (.cells #[.int .i64 0, .int .i64 0] 25))) := Lib.hid (bal (btr C3_8.out hb) _)
  have C4_9 : RowKit.Hid (Below (w7.alloc (.cells #[.int .i64 0, .int .i64 0] 23)).heap.size (w7.alloc (.cells #[.int .i64 0, .int .i64 0] 23)) (w9.alloc (.cells #[.int .i64 0, .int .i64 0] 25))) := Lib.hid (bal (btr C4_8.out hb) _)
  clear f8_0_0 f8_0_1 f8_1_0 f8_1_1 f8_2_0 f8_2_1 f8_3_0 f8_3_1 f8_4_0 f8_4_1 hb
  obtain ⟨f9_0_0, f9_0_1⟩ := KK0.out (w9.alloc (.cells #[.int .i64 0, .int .i64 0] 25)) C0_9.out
  obtain ⟨f9_1_0, f9_1_1⟩ := KK1.out (w9.alloc (.cells #[.int .i64 0, .int .i64 0] 25)) C1_9.out
  obtain ⟨f9_2_0, f9_2_1⟩ := KK2.out (w9.alloc (.cells #[.int .i64 0, .int .i64 0] 25)) C2_9.out
  obtain ⟨f9_3_0, f9_3_1⟩ := KK3.out (w9.alloc (.cells #[.int .i64 0, .int .i64 0] 25)) C3_9.out
  obtain ⟨f9_4_0, f9_4_1⟩ := KK4.out (w9.alloc (.cells #[.int .i64 0, .int .i64 0] 25)) C4_9.out
  have f9_5_0 : (w9.alloc (.cells #[.int .i64 0, .int .i64 0] 25)).cell? ⟨w9.heap.size, 0, none⟩ = some (.int .i64 0) := by go_simp
  have f9_5_1 : (w9.alloc (.cells #[.int .i64 0, .int .i64 0] 25)).cell? ⟨w9.heap.size, 1, none⟩ = some (.int .i64 0) := by go_simp
  have KK5 := Lib.hid (show ∀ W, Below (w9.alloc (.cells #[.int .i64 0, .int .i64 0] 25)).heap.size (w9.alloc (.cells #[.int .i64 0, .int .i64 0] 25)) W → W.cell? ⟨w9.heap.size, 0, none⟩ = some (.int .i64 0) ∧ W.cell? ⟨w9.heap.size, 1, none⟩ = some (.int .i64 0) from fun W h => ⟨(h.cell (p := ⟨w9.heap.size, 0, none⟩) (blt f9_5_0)).trans f9_5_0, (h.cell (p := ⟨w9.heap.size, 1, none⟩) (blt f9_5_1)).trans f9_5_1⟩)
  have C5_9 := Lib.hid (Below.refl (w9.alloc (.cells #[.int .i64 0, .int .i64 0] 25)).heap.size (w9.alloc (.cells #[.int .i64 0, .int .i64 0] 25)))
  go_wp2_with fail
  refine (PT2.out _ (HL.out.on B9.out).1).mono ?_; rintro e w10 ⟨rfl, hb⟩
  have B10 : RowKit.Hid (Below w.heap.size w w10) := Lib.hid (btr B9.out hb)
  have C0_10 : RowKit.Hid (Below U.heap.size U w10) := Lib.hid (btr C0_9.out hb)
  have C1_10 : RowKit.Hid (Below U.heap.size U w10) := Lib.hid (btr C1_9.out hb)
  have C2_10 : RowKit.Hid (Below (w4.alloc (.cells #[.int .i64 F, .int .i64 T] 23)).heap.size (w4.alloc (.cells #[.int .i64 F, .int .i64 T] 23)) w10) := Lib.hid (btr C2_9.out hb)
  have C3_10 : RowKit.Hid (Below (w6.alloc (.cells #[.int .i64 A, .int .i64 P] 25)).heap.size (w6.alloc (.cells #[.int .i64 A, .int .i64 P] 25)) w10) := Lib.hid (btr C3_9.out hb)
  have C4_10 : RowKit.Hid (Below (w7.alloc (.cells #[.int .i64 0, .int .i64 0] 23)).heap.size (w7.alloc (.cells #[.int .i64 0, .int .i64 0] 23)) w10) := Lib.hid (btr C4_9.out hb)
  have C5_10 : RowKit.Hid (Below (w9.alloc (.cells #[.int .i64 0, .int .i64 0] 25)).heap.size (w9.alloc (.cells #[.int .i64 0, .int .i64 0] 25)) w10) := Lib.hid (btr C5_9.out hb)
  clear f9_0_0 f9_0_1 f9_1_0 f9_1_1 f9_2_0 f9_2_1 f9_3_0 f9_3_1 f9_4_0 f9_4_1 f9_5_0 f9_5_1 hb
  obtain ⟨f10_0_0, f10_0_1⟩ := KK0.out w10 C0_10.out
  obtain ⟨f10_1_0, f10_1_1⟩ := KK1.out w10 C1_10.out
  obtain ⟨f10_2_0, f10_2_1⟩ := KK2.out w10 C2_10.out
  obtain ⟨f10_3_0, f10_3_1⟩ := KK3.out w10 C3_10.out
  obtain ⟨f10_4_0, f10_4_1⟩ := KK4.out w10 C4_10.out
  obtain ⟨f10_5_0, f10_5_1⟩ := KK5.out w10 C5_10.out
  go_wp2_with fail
  refine (R1.out _).mono ?_; rintro e w11 ⟨rfl, hb⟩
  have B11 : RowKit.Hid (Below w.heap.size w w11) := Lib.hid (btr B10.out hb)
  have C0_11 : RowKit.Hid (Below U.heap.size U w11) := Lib.hid (btr C0_10.out hb)
  have C1_11 : RowKit.Hid (Below U.heap.size U w11) := Lib.hid (btr C1_10.out hb)
  have C2_11 : RowKit.Hid (Below (w4.alloc (.cells #[.int .i64 F, .int .i64 T] 23)).heap.size (w4.alloc (.cells #[.int .i64 F, .int .i64 T] 23)) w11) := Lib.hid (btr C2_10.out hb)
  have C3_11 : RowKit.Hid (Below (w6.alloc (.cells #[.int .i64 A, .int .i64 P] 25)).heap.size (w6.alloc (.cells #[.int .i64 A, .int .i64 P] 25)) w11) := Lib.hid (btr C3_10.out hb)
  have C4_11 : RowKit.Hid (Below (w7.alloc (.cells #[.int .i64 0, .int .i64 0] 23)).heap.size (w7.alloc (.cells #[.int .i64 0, .int .i64 0] 23)) w11) := Lib.hid (btr C4_10.out hb)
  have C5_11 : RowKit.Hid (Below (w9.alloc (.cells #[.int .i64 0, .int .i64 0] 25)).heap.size (w9.alloc (.cells #[.int .i64 0, .int .i64 0] 25)) w11) := Lib.hid (btr C5_10.out hb)
  clear f10_0_0 f10_0_1 f10_1_0 f10_1_1 f10_2_0 f10_2_1 f10_3_0 f10_3_1 f10_4_0 f10_4_1 f10_5_0 f10_5_1 hb
  obtain ⟨f11_0_0, f11_0_1⟩ := KK0.out w11 C0_11.out
  obtain ⟨f11_1_0, f11_1_1⟩ := KK1.out w11 C1_11.out
  obtain ⟨f11_2_0, f11_2_1⟩ := KK2.out w11 C2_11.out
  obtain ⟨f11_3_0, f11_3_1⟩ := KK3.out w11 C3_11.out
  obtain ⟨f11_4_0, f11_4_1⟩ := KK4.out w11 C4_11.out
  obtain ⟨f11_5_0, f11_5_1⟩ := KK5.out w11 C5_11.out
  go_wp2
  go_ret
  exact ⟨ret_bool (by first | rfl | (simp <;> omega)), B11.out⟩

set_option maxRecDepth 100000 in
set_option maxHeartbeats 4000000 in
theorem backL_rna (F T A P c0 c1 : Int) (s0 S sa sb : ByteArray) (w : World) (hL : Laid w)
    (S0 : Hid (∀ W, Laid W → Calls Tryd.prog 6 #[] W fun x w' => x = .returned (.bool true) ∧ Below W.heap.size W w'))
    (CU : Hid (∀ W, Calls Tryd.prog 7 #[.string s0] W fun x w' => x = .returned (.string S) ∧ Below W.heap.size W w'))
    (PR1 : Hid (∀ W, Tabs W → Calls Tryd.prog 8 #[.agg #[.int .i64 F, .int .i64 T]] W fun x w' => x = .returned (.tuple #[.string sa, .int .i64 0]) ∧ Below W.heap.size W w'))
    (PA1 : Hid (∀ W, ErrT W → Calls Tryd.prog 9 #[.string sa] W fun x w' => x = .returned (.tuple #[.agg #[.int .i64 F, .int .i64 T], .int .i64 0]) ∧ Below W.heap.size W w'))
    (PT1 : Hid (∀ W, Tabs W → Calls Tryd.prog 10 #[.agg #[.int .i64 A, .int .i64 P]] W fun x w' => x = .returned (.tuple #[.string sb, .int .i64 71]) ∧ Below W.heap.size W w'))
    (PA2 : Hid (∀ W, Calls Tryd.prog 11 #[.string sb] W fun x w' => x = .returned (.tuple #[.agg #[.int .i64 0, .int .i64 0], .int .i64 71]) ∧ Below W.heap.size W w'))
    (PA3 : Hid (∀ W, ErrT W → Calls Tryd.prog 9 #[.string S] W fun x w' => x = .returned (.tuple #[.agg #[.int .i64 c0, .int .i64 c1], .int .i64 0]) ∧ Below W.heap.size W w'))
    (PR2 : Hid (∀ W, Tabs W → Calls Tryd.prog 8 #[.agg #[.int .i64 c0, .int .i64 c1]] W fun x w' => x = .returned (.tuple #[.string S, .int .i64 0]) ∧ Below W.heap.size W w'))
    (PA4 : Hid (∀ W, Calls Tryd.prog 11 #[.string S] W fun x w' => x = .returned (.tuple #[.agg #[.int .i64 0, .int .i64 0], .int .i64 71]) ∧ Below W.heap.size W w'))
    (PT2 : Hid (∀ W, Tabs W → Calls Tryd.prog 10 #[.agg #[.int .i64 0, .int .i64 0]] W fun x w' => x = .returned (.tuple #[.string ⟨#[]⟩, .int .i64 71]) ∧ Below W.heap.size W w'))
    (R1 : Hid (∀ W, Calls Tryd.prog 12 #[.agg #[.int .i64 F, .int .i64 T]] W fun x w' => x = .returned (.bool true) ∧ Below W.heap.size W w'))
    : Calls Tryd.prog 3 #[.agg #[.int .i64 F, .int .i64 T], .agg #[.int .i64 A, .int .i64 P], .string s0] w fun x w' => x = .returned (.bool true) ∧ Below w.heap.size w w' := by
  have HL := Lib.hid hL
  clear hL
  go_enter Tryd.func3, Tryd.ntmps3
  go_wp2_with fail
  have x0_0 : ((w.alloc (.cells #[.int .i64 F, .int .i64 T] 23)).alloc (.cells #[.int .i64 A, .int .i64 P] 25)).cell? ⟨w.heap.size, 0, none⟩ = some (.int .i64 F) := by go_simp
  have x0_1 : ((w.alloc (.cells #[.int .i64 F, .int .i64 T] 23)).alloc (.cells #[.int .i64 A, .int .i64 P] 25)).cell? ⟨w.heap.size, 1, none⟩ = some (.int .i64 T) := by go_simp
  have x1_0 : ((w.alloc (.cells #[.int .i64 F, .int .i64 T] 23)).alloc (.cells #[.int .i64 A, .int .i64 P] 25)).cell? ⟨w.heap.size + 1, 0, none⟩ = some (.int .i64 A) := by go_simp
  have x1_1 : ((w.alloc (.cells #[.int .i64 F, .int .i64 T] 23)).alloc (.cells #[.int .i64 A, .int .i64 P] 25)).cell? ⟨w.heap.size + 1, 1, none⟩ = some (.int .i64 P) := by go_simp
  have B0 : Below w.heap.size w ((w.alloc (.cells #[.int .i64 F, .int .i64 T] 23)).alloc (.cells #[.int .i64 A, .int .i64 P] 25)) := (bal ((bal (Below.refl _ w) _)) _)
  generalize ((w.alloc (.cells #[.int .i64 F, .int .i64 T] 23)).alloc (.cells #[.int .i64 A, .int .i64 P] 25)) = U at *
  have KK0 := Lib.hid (show ∀ W, Below U.heap.size U W → W.cell? ⟨w.heap.size, 0, none⟩ = some (.int .i64 F) ∧ W.cell? ⟨w.heap.size, 1, none⟩ = some (.int .i64 T) from fun W h => ⟨(h.cell (p := ⟨w.heap.size, 0, none⟩) (blt x0_0)).trans x0_0, (h.cell (p := ⟨w.heap.size, 1, none⟩) (blt x0_1)).trans x0_1⟩)
  have KK1 := Lib.hid (show ∀ W, Below U.heap.size U W → W.cell? ⟨w.heap.size + 1, 0, none⟩ = some (.int .i64 A) ∧ W.cell? ⟨w.heap.size + 1, 1, none⟩ = some (.int .i64 P) from fun W h => ⟨(h.cell (p := ⟨w.heap.size + 1, 0, none⟩) (blt x1_0)).trans x1_0, (h.cell (p := ⟨w.heap.size + 1, 1, none⟩) (blt x1_1)).trans x1_1⟩)
  have C0_0 := Lib.hid (Below.refl U.heap.size U)
  have C1_0 := Lib.hid (Below.refl U.heap.size U)
  replace B0 := Lib.hid B0
  refine (S0.out _ (HL.out.on B0.out)).mono ?_; rintro e w1 ⟨rfl, hb⟩
  have B1 : RowKit.Hid (Below w.heap.size w w1) := Lib.hid (btr B0.out hb)
  have C0_1 : RowKit.Hid (Below U.heap.size U w1) := Lib.hid (btr C0_0.out hb)
  have C1_1 : RowKit.Hid (Below U.heap.size U w1) := Lib.hid (btr C1_0.out hb)
  clear x0_0 x0_1 x1_0 x1_1 hb
  obtain ⟨f1_0_0, f1_0_1⟩ := KK0.out w1 C0_1.out
  obtain ⟨f1_1_0, f1_1_1⟩ := KK1.out w1 C1_1.out
  go_wp2_with fail
  refine (CU.out _).mono ?_; rintro e w2 ⟨rfl, hb⟩
  have B2 : RowKit.Hid (Below w.heap.size w w2) := Lib.hid (btr B1.out hb)
  have C0_2 : RowKit.Hid (Below U.heap.size U w2) := Lib.hid (btr C0_1.out hb)
  have C1_2 : RowKit.Hid (Below U.heap.size U w2) := Lib.hid (btr C1_1.out hb)
  clear f1_0_0 f1_0_1 f1_1_0 f1_1_1 hb
  obtain ⟨f2_0_0, f2_0_1⟩ := KK0.out w2 C0_2.out
  obtain ⟨f2_1_0, f2_1_1⟩ := KK1.out w2 C1_2.out
  go_wp2_with fail
  refine (PR1.out _ (HL.out.on B2.out).1).mono ?_; rintro e w3 ⟨rfl, hb⟩
  have B3 : RowKit.Hid (Below w.heap.size w w3) := Lib.hid (btr B2.out hb)
  have C0_3 : RowKit.Hid (Below U.heap.size U w3) := Lib.hid (btr C0_2.out hb)
  have C1_3 : RowKit.Hid (Below U.heap.size U w3) := Lib.hid (btr C1_2.out hb)
  clear f2_0_0 f2_0_1 f2_1_0 f2_1_1 hb
  obtain ⟨f3_0_0, f3_0_1⟩ := KK0.out w3 C0_3.out
  obtain ⟨f3_1_0, f3_1_1⟩ := KK1.out w3 C1_3.out
  go_wp2_with fail
  refine (PA1.out _ (HL.out.on B3.out).2).mono ?_; rintro e w4 ⟨rfl, hb⟩
  have B4 : RowKit.Hid (Below w.heap.size w (w4.alloc (.cells #[.int .i64 F, .int .i64 T] 23))) := Lib.hid (bal (btr B3.out hb) _)
  have C0_4 : RowKit.Hid (Below U.heap.size U (w4.alloc (.cells #[.int .i64 F, .int .i64 T] 23))) := Lib.hid (bal (btr C0_3.out hb) _)
  have C1_4 : RowKit.Hid (Below U.heap.size U (w4.alloc (.cells #[.int .i64 F, .int .i64 T] 23))) := Lib.hid (bal (btr C1_3.out hb) _)
  clear f3_0_0 f3_0_1 f3_1_0 f3_1_1 hb
  obtain ⟨f4_0_0, f4_0_1⟩ := KK0.out (w4.alloc (.cells #[.int .i64 F, .int .i64 T] 23)) C0_4.out
  obtain ⟨f4_1_0, f4_1_1⟩ := KK1.out (w4.alloc (.cells #[.int .i64 F, .int .i64 T] 23)) C1_4.out
  have f4_2_0 : (w4.alloc (.cells #[.int .i64 F, .int .i64 T] 23)).cell? ⟨w4.heap.size, 0, none⟩ = some (.int .i64 F) := by go_simp
  have f4_2_1 : (w4.alloc (.cells #[.int .i64 F, .int .i64 T] 23)).cell? ⟨w4.heap.size, 1, none⟩ = some (.int .i64 T) := by go_simp
  have KK2 := Lib.hid (show ∀ W, Below (w4.alloc (.cells #[.int .i64 F, .int .i64 T] 23)).heap.size (w4.alloc (.cells #[.int .i64 F, .int .i64 T] 23)) W → W.cell? ⟨w4.heap.size, 0, none⟩ = some (.int .i64 F) ∧ W.cell? ⟨w4.heap.size, 1, none⟩ = some (.int .i64 T) from fun W h => ⟨(h.cell (p := ⟨w4.heap.size, 0, none⟩) (blt f4_2_0)).trans f4_2_0, (h.cell (p := ⟨w4.heap.size, 1, none⟩) (blt f4_2_1)).trans f4_2_1⟩)
  have C2_4 := Lib.hid (Below.refl (w4.alloc (.cells #[.int .i64 F, .int .i64 T] 23)).heap.size (w4.alloc (.cells #[.int .i64 F, .int .i64 T] 23)))
  go_wp2_with fail
  refine (PT1.out _ (HL.out.on B4.out).1).mono ?_; rintro e w5 ⟨rfl, hb⟩
  have B5 : RowKit.Hid (Below w.heap.size w w5) := Lib.hid (btr B4.out hb)
  have C0_5 : RowKit.Hid (Below U.heap.size U w5) := Lib.hid (btr C0_4.out hb)
  have C1_5 : RowKit.Hid (Below U.heap.size U w5) := Lib.hid (btr C1_4.out hb)
  have C2_5 : RowKit.Hid (Below (w4.alloc (.cells #[.int .i64 F, .int .i64 T] 23)).heap.size (w4.alloc (.cells #[.int .i64 F, .int .i64 T] 23)) w5) := Lib.hid (btr C2_4.out hb)
  clear f4_0_0 f4_0_1 f4_1_0 f4_1_1 f4_2_0 f4_2_1 hb
  obtain ⟨f5_0_0, f5_0_1⟩ := KK0.out w5 C0_5.out
  obtain ⟨f5_1_0, f5_1_1⟩ := KK1.out w5 C1_5.out
  obtain ⟨f5_2_0, f5_2_1⟩ := KK2.out w5 C2_5.out
  go_wp2_with fail
  refine (PA2.out _).mono ?_; rintro e w6 ⟨rfl, hb⟩
  have B6 : RowKit.Hid (Below w.heap.size w (w6.alloc (.cells #[.int .i64 0, .int .i64 0] 25))) := Lib.hid (bal (btr B5.out hb) _)
  have C0_6 : RowKit.Hid (Below U.heap.size U (w6.alloc (.cells #[.int .i64 0, .int .i64 0] 25))) := Lib.hid (bal (btr C0_5.out hb) _)
  have C1_6 : RowKit.Hid (Below U.heap.size U (w6.alloc (.cells #[.int .i64 0, .int .i64 0] 25))) := Lib.hid (bal (btr C1_5.out hb) _)
  have C2_6 : RowKit.Hid (Below (w4.alloc (.cells #[.int .i64 F, .int .i64 T] 23)).heap.size (w4.alloc (.cells #[.int .i64 F, .int .i64 T] 23)) (w6.alloc (.cells #[.int .i64 0, .int .i64 0] 25))) := Lib.hid (bal (btr C2_5.out hb) _)
  clear f5_0_0 f5_0_1 f5_1_0 f5_1_1 f5_2_0 f5_2_1 hb
  obtain ⟨f6_0_0, f6_0_1⟩ := KK0.out (w6.alloc (.cells #[.int .i64 0, .int .i64 0] 25)) C0_6.out
  obtain ⟨f6_1_0, f6_1_1⟩ := KK1.out (w6.alloc (.cells #[.int .i64 0, .int .i64 0] 25)) C1_6.out
  obtain ⟨f6_2_0, f6_2_1⟩ := KK2.out (w6.alloc (.cells #[.int .i64 0, .int .i64 0] 25)) C2_6.out
  have f6_3_0 : (w6.alloc (.cells #[.int .i64 0, .int .i64 0] 25)).cell? ⟨w6.heap.size, 0, none⟩ = some (.int .i64 0) := by go_simp
  have f6_3_1 : (w6.alloc (.cells #[.int .i64 0, .int .i64 0] 25)).cell? ⟨w6.heap.size, 1, none⟩ = some (.int .i64 0) := by go_simp
  have KK3 := Lib.hid (show ∀ W, Below (w6.alloc (.cells #[.int .i64 0, .int .i64 0] 25)).heap.size (w6.alloc (.cells #[.int .i64 0, .int .i64 0] 25)) W → W.cell? ⟨w6.heap.size, 0, none⟩ = some (.int .i64 0) ∧ W.cell? ⟨w6.heap.size, 1, none⟩ = some (.int .i64 0) from fun W h => ⟨(h.cell (p := ⟨w6.heap.size, 0, none⟩) (blt f6_3_0)).trans f6_3_0, (h.cell (p := ⟨w6.heap.size, 1, none⟩) (blt f6_3_1)).trans f6_3_1⟩)
  have C3_6 := Lib.hid (Below.refl (w6.alloc (.cells #[.int .i64 0, .int .i64 0] 25)).heap.size (w6.alloc (.cells #[.int .i64 0, .int .i64 0] 25)))
  go_wp2_with fail
  refine (PA3.out _ (HL.out.on B6.out).2).mono ?_; rintro e w7 ⟨rfl, hb⟩
  have B7 : RowKit.Hid (Below w.heap.size w (w7.alloc (.cells #[.int .i64 c0, .int .i64 c1] 23))) := Lib.hid (bal (btr B6.out hb) _)
  have C0_7 : RowKit.Hid (Below U.heap.size U (w7.alloc (.cells #[.int .i64 c0, .int .i64 c1] 23))) := Lib.hid (bal (btr C0_6.out hb) _)
  have C1_7 : RowKit.Hid (Below U.heap.size U (w7.alloc (.cells #[.int .i64 c0, .int .i64 c1] 23))) := Lib.hid (bal (btr C1_6.out hb) _)
  have C2_7 : RowKit.Hid (Below (w4.alloc (.cells #[.int .i64 F, .int .i64 T] 23)).heap.size (w4.alloc (.cells #[.int .i64 F, .int .i64 T] 23)) (w7.alloc (.cells #[.int .i64 c0, .int .i64 c1] 23))) := Lib.hid (bal (btr C2_6.out hb) _)
  have C3_7 : RowKit.Hid (Below (w6.alloc (.cells #[.int .i64 0, .int .i64 0] 25)).heap.size (w6.alloc (.cells #[.int .i64 0, .int .i64 0] 25)) (w7.alloc (.cells #[.int .i64 c0, .int .i64 c1] 23))) := Lib.hid (bal (btr C3_6.out hb) _)
  clear f6_0_0 f6_0_1 f6_1_0 f6_1_1 f6_2_0 f6_2_1 f6_3_0 f6_3_1 hb
  obtain ⟨f7_0_0, f7_0_1⟩ := KK0.out (w7.alloc (.cells #[.int .i64 c0, .int .i64 c1] 23)) C0_7.out
  obtain ⟨f7_1_0, f7_1_1⟩ := KK1.out (w7.alloc (.cells #[.int .i64 c0, .int .i64 c1] 23)) C1_7.out
  obtain ⟨f7_2_0, f7_2_1⟩ := KK2.out (w7.alloc (.cells #[.int .i64 c0, .int .i64 c1] 23)) C2_7.out
  obtain ⟨f7_3_0, f7_3_1⟩ := KK3.out (w7.alloc (.cells #[.int .i64 c0, .int .i64 c1] 23)) C3_7.out
  have f7_4_0 : (w7.alloc (.cells #[.int .i64 c0, .int .i64 c1] 23)).cell? ⟨w7.heap.size, 0, none⟩ = some (.int .i64 c0) := by go_simp
  have f7_4_1 : (w7.alloc (.cells #[.int .i64 c0, .int .i64 c1] 23)).cell? ⟨w7.heap.size, 1, none⟩ = some (.int .i64 c1) := by go_simp
  have KK4 := Lib.hid (show ∀ W, Below (w7.alloc (.cells #[.int .i64 c0, .int .i64 c1] 23)).heap.size (w7.alloc (.cells #[.int .i64 c0, .int .i64 c1] 23)) W → W.cell? ⟨w7.heap.size, 0, none⟩ = some (.int .i64 c0) ∧ W.cell? ⟨w7.heap.size, 1, none⟩ = some (.int .i64 c1) from fun W h => ⟨(h.cell (p := ⟨w7.heap.size, 0, none⟩) (blt f7_4_0)).trans f7_4_0, (h.cell (p := ⟨w7.heap.size, 1, none⟩) (blt f7_4_1)).trans f7_4_1⟩)
  have C4_7 := Lib.hid (Below.refl (w7.alloc (.cells #[.int .i64 c0, .int .i64 c1] 23)).heap.size (w7.alloc (.cells #[.int .i64 c0, .int .i64 c1] 23)))
  go_wp2_with fail
  refine (PR2.out _ (HL.out.on B7.out).1).mono ?_; rintro e w8 ⟨rfl, hb⟩
  have B8 : RowKit.Hid (Below w.heap.size w w8) := Lib.hid (btr B7.out hb)
  have C0_8 : RowKit.Hid (Below U.heap.size U w8) := Lib.hid (btr C0_7.out hb)
  have C1_8 : RowKit.Hid (Below U.heap.size U w8) := Lib.hid (btr C1_7.out hb)
  have C2_8 : RowKit.Hid (Below (w4.alloc (.cells #[.int .i64 F, .int .i64 T] 23)).heap.size (w4.alloc (.cells #[.int .i64 F, .int .i64 T] 23)) w8) := Lib.hid (btr C2_7.out hb)
  have C3_8 : RowKit.Hid (Below (w6.alloc (.cells #[.int .i64 0, .int .i64 0] 25)).heap.size (w6.alloc (.cells #[.int .i64 0, .int .i64 0] 25)) w8) := Lib.hid (btr C3_7.out hb)
  have C4_8 : RowKit.Hid (Below (w7.alloc (.cells #[.int .i64 c0, .int .i64 c1] 23)).heap.size (w7.alloc (.cells #[.int .i64 c0, .int .i64 c1] 23)) w8) := Lib.hid (btr C4_7.out hb)
  clear f7_0_0 f7_0_1 f7_1_0 f7_1_1 f7_2_0 f7_2_1 f7_3_0 f7_3_1 f7_4_0 f7_4_1 hb
  obtain ⟨f8_0_0, f8_0_1⟩ := KK0.out w8 C0_8.out
  obtain ⟨f8_1_0, f8_1_1⟩ := KK1.out w8 C1_8.out
  obtain ⟨f8_2_0, f8_2_1⟩ := KK2.out w8 C2_8.out
  obtain ⟨f8_3_0, f8_3_1⟩ := KK3.out w8 C3_8.out
  obtain ⟨f8_4_0, f8_4_1⟩ := KK4.out w8 C4_8.out
  go_wp2_with fail
  refine (PA4.out _).mono ?_; rintro e w9 ⟨rfl, hb⟩
  have B9 : RowKit.Hid (Below w.heap.size w (w9.alloc (.cells #[.int .i64 0, .int .i64 0] 25))) := Lib.hid (bal (btr B8.out hb) _)
  have C0_9 : RowKit.Hid (Below U.heap.size U (w9.alloc (.cells #[.int .i64 0, .int .i64 0] 25))) := Lib.hid (bal (btr C0_8.out hb) _)
  have C1_9 : RowKit.Hid (Below U.heap.size U (w9.alloc (.cells #[.int .i64 0, .int .i64 0] 25))) := Lib.hid (bal (btr C1_8.out hb) _)
  have C2_9 : RowKit.Hid (Below (w4.alloc (.cells #[.int .i64 F, .int .i64 T] 23)).heap.size (w4.alloc (.cells #[.int .i64 F, .int .i64 T] 23)) (w9.alloc (.cells #[.int .i64 0, .int .i64 0] 25))) := Lib.hid (bal (btr C2_8.out hb) _)
  have C3_9 : RowKit.Hid (Below (w6.alloc (.cells #[.int .i64 0, .int .i64 0] 25)).heap.size (w6.alloc (.cells #[.int .i64 0, .int .i64 0] 25)) (w9.alloc (.cells #[.int .i64 0, .int .i64 0] 25))) := Lib.hid (bal (btr C3_8.out hb) _)
  have C4_9 : RowKit.Hid (Below (w7.alloc (.cells #[.int .i64 c0, .int .i64 c1] 23)).heap.size (w7.alloc (.cells #[.int .i64 c0, .int .i64 c1] 23)) (w9.alloc (.cells #[.int .i64 0, .int .i64 0] 25))) := Lib.hid (bal (btr C4_8.out hb) _)
  clear f8_0_0 f8_0_1 f8_1_0 f8_1_1 f8_2_0 f8_2_1 f8_3_0 f8_3_1 f8_4_0 f8_4_1 hb
  obtain ⟨f9_0_0, f9_0_1⟩ := KK0.out (w9.alloc (.cells #[.int .i64 0, .int .i64 0] 25)) C0_9.out
  obtain ⟨f9_1_0, f9_1_1⟩ := KK1.out (w9.alloc (.cells #[.int .i64 0, .int .i64 0] 25)) C1_9.out
  obtain ⟨f9_2_0, f9_2_1⟩ := KK2.out (w9.alloc (.cells #[.int .i64 0, .int .i64 0] 25)) C2_9.out
  obtain ⟨f9_3_0, f9_3_1⟩ := KK3.out (w9.alloc (.cells #[.int .i64 0, .int .i64 0] 25)) C3_9.out
  obtain ⟨f9_4_0, f9_4_1⟩ := KK4.out (w9.alloc (.cells #[.int .i64 0, .int .i64 0] 25)) C4_9.out
  have f9_5_0 : (w9.alloc (.cells #[.int .i64 0, .int .i64 0] 25)).cell? ⟨w9.heap.size, 0, none⟩ = some (.int .i64 0) := by go_simp
  have f9_5_1 : (w9.alloc (.cells #[.int .i64 0, .int .i64 0] 25)).cell? ⟨w9.heap.size, 1, none⟩ = some (.int .i64 0) := by go_simp
  have KK5 := Lib.hid (show ∀ W, Below (w9.alloc (.cells #[.int .i64 0, .int .i64 0] 25)).heap.size (w9.alloc (.cells #[.int .i64 0, .int .i64 0] 25)) W → W.cell? ⟨w9.heap.size, 0, none⟩ = some (.int .i64 0) ∧ W.cell? ⟨w9.heap.size, 1, none⟩ = some (.int .i64 0) from fun W h => ⟨(h.cell (p := ⟨w9.heap.size, 0, none⟩) (blt f9_5_0)).trans f9_5_0, (h.cell (p := ⟨w9.heap.size, 1, none⟩) (blt f9_5_1)).trans f9_5_1⟩)
  have C5_9 := Lib.hid (Below.refl (w9.alloc (.cells #[.int .i64 0, .int .i64 0] 25)).heap.size (w9.alloc (.cells #[.int .i64 0, .int .i64 0] 25)))
  go_wp2_with fail
  refine (PT2.out _ (HL.out.on B9.out).1).mono ?_; rintro e w10 ⟨rfl, hb⟩
  have B10 : RowKit.Hid (Below w.heap.size w w10) := Lib.hid (btr B9.out hb)
  have C0_10 : RowKit.Hid (Below U.heap.size U w10) := Lib.hid (btr C0_9.out hb)
  have C1_10 : RowKit.Hid (Below U.heap.size U w10) := Lib.hid (btr C1_9.out hb)
  have C2_10 : RowKit.Hid (Below (w4.alloc (.cells #[.int .i64 F, .int .i64 T] 23)).heap.size (w4.alloc (.cells #[.int .i64 F, .int .i64 T] 23)) w10) := Lib.hid (btr C2_9.out hb)
  have C3_10 : RowKit.Hid (Below (w6.alloc (.cells #[.int .i64 0, .int .i64 0] 25)).heap.size (w6.alloc (.cells #[.int .i64 0, .int .i64 0] 25)) w10) := Lib.hid (btr C3_9.out hb)
  have C4_10 : RowKit.Hid (Below (w7.alloc (.cells #[.int .i64 c0, .int .i64 c1] 23)).heap.size (w7.alloc (.cells #[.int .i64 c0, .int .i64 c1] 23)) w10) := Lib.hid (btr C4_9.out hb)
  have C5_10 : RowKit.Hid (Below (w9.alloc (.cells #[.int .i64 0, .int .i64 0] 25)).heap.size (w9.alloc (.cells #[.int .i64 0, .int .i64 0] 25)) w10) := Lib.hid (btr C5_9.out hb)
  clear f9_0_0 f9_0_1 f9_1_0 f9_1_1 f9_2_0 f9_2_1 f9_3_0 f9_3_1 f9_4_0 f9_4_1 f9_5_0 f9_5_1 hb
  obtain ⟨f10_0_0, f10_0_1⟩ := KK0.out w10 C0_10.out
  obtain ⟨f10_1_0, f10_1_1⟩ := KK1.out w10 C1_10.out
  obtain ⟨f10_2_0, f10_2_1⟩ := KK2.out w10 C2_10.out
  obtain ⟨f10_3_0, f10_3_1⟩ := KK3.out w10 C3_10.out
  obtain ⟨f10_4_0, f10_4_1⟩ := KK4.out w10 C4_10.out
  obtain ⟨f10_5_0, f10_5_1⟩ := KK5.out w10 C5_10.out
  go_wp2_with fail
  refine (R1.out _).mono ?_; rintro e w11 ⟨rfl, hb⟩
  have B11 : RowKit.Hid (Below w.heap.size w w11) := Lib.hid (btr B10.out hb)
  have C0_11 : RowKit.Hid (Below U.heap.size U w11) := Lib.hid (btr C0_10.out hb)
  have C1_11 : RowKit.Hid (Below U.heap.size U w11) := Lib.hid (btr C1_10.out hb)
  have C2_11 : RowKit.Hid (Below (w4.alloc (.cells #[.int .i64 F, .int .i64 T] 23)).heap.size (w4.alloc (.cells #[.int .i64 F, .int .i64 T] 23)) w11) := Lib.hid (btr C2_10.out hb)
  have C3_11 : RowKit.Hid (Below (w6.alloc (.cells #[.int .i64 0, .int .i64 0] 25)).heap.size (w6.alloc (.cells #[.int .i64 0, .int .i64 0] 25)) w11) := Lib.hid (btr C3_10.out hb)
  have C4_11 : RowKit.Hid (Below (w7.alloc (.cells #[.int .i64 c0, .int .i64 c1] 23)).heap.size (w7.alloc (.cells #[.int .i64 c0, .int .i64 c1] 23)) w11) := Lib.hid (btr C4_10.out hb)
  have C5_11 : RowKit.Hid (Below (w9.alloc (.cells #[.int .i64 0, .int .i64 0] 25)).heap.size (w9.alloc (.cells #[.int .i64 0, .int .i64 0] 25)) w11) := Lib.hid (btr C5_10.out hb)
  clear f10_0_0 f10_0_1 f10_1_0 f10_1_1 f10_2_0 f10_2_1 f10_3_0 f10_3_1 f10_4_0 f10_4_1 f10_5_0 f10_5_1 hb
  obtain ⟨f11_0_0, f11_0_1⟩ := KK0.out w11 C0_11.out
  obtain ⟨f11_1_0, f11_1_1⟩ := KK1.out w11 C1_11.out
  obtain ⟨f11_2_0, f11_2_1⟩ := KK2.out w11 C2_11.out
  obtain ⟨f11_3_0, f11_3_1⟩ := KK3.out w11 C3_11.out
  obtain ⟨f11_4_0, f11_4_1⟩ := KK4.out w11 C4_11.out
  obtain ⟨f11_5_0, f11_5_1⟩ := KK5.out w11 C5_11.out
  go_wp2
  go_ret
  exact ⟨ret_bool (by first | rfl | (simp <;> omega)), B11.out⟩

set_option maxRecDepth 100000 in
set_option maxHeartbeats 4000000 in
theorem backL_rnb (F T A P d0 d1 : Int) (s0 S sa sb : ByteArray) (w : World) (hL : Laid w)
    (S0 : Hid (∀ W, Laid W → Calls Tryd.prog 6 #[] W fun x w' => x = .returned (.bool true) ∧ Below W.heap.size W w'))
    (CU : Hid (∀ W, Calls Tryd.prog 7 #[.string s0] W fun x w' => x = .returned (.string S) ∧ Below W.heap.size W w'))
    (PR1 : Hid (∀ W, Tabs W → Calls Tryd.prog 8 #[.agg #[.int .i64 F, .int .i64 T]] W fun x w' => x = .returned (.tuple #[.string sa, .int .i64 0]) ∧ Below W.heap.size W w'))
    (PA1 : Hid (∀ W, ErrT W → Calls Tryd.prog 9 #[.string sa] W fun x w' => x = .returned (.tuple #[.agg #[.int .i64 F, .int .i64 T], .int .i64 0]) ∧ Below W.heap.size W w'))
    (PT1 : Hid (∀ W, Tabs W → Calls Tryd.prog 10 #[.agg #[.int .i64 A, .int .i64 P]] W fun x w' => x = .returned (.tuple #[.string sb, .int .i64 71]) ∧ Below W.heap.size W w'))
    (PA2 : Hid (∀ W, Calls Tryd.prog 11 #[.string sb] W fun x w' => x = .returned (.tuple #[.agg #[.int .i64 0, .int .i64 0], .int .i64 71]) ∧ Below W.heap.size W w'))
    (PA3 : Hid (∀ W, ErrT W → Calls Tryd.prog 9 #[.string S] W fun x w' => x = .returned (.tuple #[.agg #[.int .i64 0, .int .i64 0], .int .i64 70]) ∧ Below W.heap.size W w'))
    (PR2 : Hid (∀ W, Tabs W → Calls Tryd.prog 8 #[.agg #[.int .i64 0, .int .i64 0]] W fun x w' => x = .returned (.tuple #[.string ⟨#[48]⟩, .int .i64 0]) ∧ Below W.heap.size W w'))
    (PA4 : Hid (∀ W, Calls Tryd.prog 11 #[.string S] W fun x w' => x = .returned (.tuple #[.agg #[.int .i64 d0, .int .i64 d1], .int .i64 0]) ∧ Below W.heap.size W w'))
    (PT2 : Hid (∀ W, Tabs W → Calls Tryd.prog 10 #[.agg #[.int .i64 d0, .int .i64 d1]] W fun x w' => x = .returned (.tuple #[.string S, .int .i64 0]) ∧ Below W.heap.size W w'))
    (R1 : Hid (∀ W, Calls Tryd.prog 12 #[.agg #[.int .i64 F, .int .i64 T]] W fun x w' => x = .returned (.bool true) ∧ Below W.heap.size W w'))
    : Calls Tryd.prog 3 #[.agg #[.int .i64 F, .int .i64 T], .agg #[.int .i64 A, .int .i64 P], .string s0] w fun x w' => x = .returned (.bool true) ∧ Below w.heap.size w w' := by
  have HL := Lib.hid hL
  clear hL
  go_enter Tryd.func3, Tryd.ntmps3
  go_wp2_with fail
  have x0_0 : ((w.alloc (.cells #[.int .i64 F, .int .i64 T] 23)).alloc (.cells #[.int .i64 A, .int .i64 P] 25)).cell? ⟨w.heap.size, 0, none⟩ = some (.int .i64 F) := by go_simp
  have x0_1 : ((w.alloc (.cells #[.int .i64 F, .int .i64 T] 23)).alloc (.cells #[.int .i64 A, .int .i64 P] 25)).cell? ⟨w.heap.size, 1, none⟩ = some (.int .i64 T) := by go_simp
  have x1_0 : ((w.alloc (.cells #[.int .i64 F, .int .i64 T] 23)).alloc (.cells #[.int .i64 A, .int .i64 P] 25)).cell? ⟨w.heap.size + 1, 0, none⟩ = some (.int .i64 A) := by go_simp
  have x1_1 : ((w.alloc (.cells #[.int .i64 F, .int .i64 T] 23)).alloc (.cells #[.int .i64 A, .int .i64 P] 25)).cell? ⟨w.heap.size + 1, 1, none⟩ = some (.int .i64 P) := by go_simp
  have B0 : Below w.heap.size w ((w.alloc (.cells #[.int .i64 F, .int .i64 T] 23)).alloc (.cells #[.int .i64 A, .int .i64 P] 25)) := (bal ((bal (Below.refl _ w) _)) _)
  generalize ((w.alloc (.cells #[.int .i64 F, .int .i64 T] 23)).alloc (.cells #[.int .i64 A, .int .i64 P] 25)) = U at *
  have KK0 := Lib.hid (show ∀ W, Below U.heap.size U W → W.cell? ⟨w.heap.size, 0, none⟩ = some (.int .i64 F) ∧ W.cell? ⟨w.heap.size, 1, none⟩ = some (.int .i64 T) from fun W h => ⟨(h.cell (p := ⟨w.heap.size, 0, none⟩) (blt x0_0)).trans x0_0, (h.cell (p := ⟨w.heap.size, 1, none⟩) (blt x0_1)).trans x0_1⟩)
  have KK1 := Lib.hid (show ∀ W, Below U.heap.size U W → W.cell? ⟨w.heap.size + 1, 0, none⟩ = some (.int .i64 A) ∧ W.cell? ⟨w.heap.size + 1, 1, none⟩ = some (.int .i64 P) from fun W h => ⟨(h.cell (p := ⟨w.heap.size + 1, 0, none⟩) (blt x1_0)).trans x1_0, (h.cell (p := ⟨w.heap.size + 1, 1, none⟩) (blt x1_1)).trans x1_1⟩)
  have C0_0 := Lib.hid (Below.refl U.heap.size U)
  have C1_0 := Lib.hid (Below.refl U.heap.size U)
  replace B0 := Lib.hid B0
  refine (S0.out _ (HL.out.on B0.out)).mono ?_; rintro e w1 ⟨rfl, hb⟩
  have B1 : RowKit.Hid (Below w.heap.size w w1) := Lib.hid (btr B0.out hb)
  have C0_1 : RowKit.Hid (Below U.heap.size U w1) := Lib.hid (btr C0_0.out hb)
  have C1_1 : RowKit.Hid (Below U.heap.size U w1) := Lib.hid (btr C1_0.out hb)
  clear x0_0 x0_1 x1_0 x1_1 hb
  obtain ⟨f1_0_0, f1_0_1⟩ := KK0.out w1 C0_1.out
  obtain ⟨f1_1_0, f1_1_1⟩ := KK1.out w1 C1_1.out
  go_wp2_with fail
  refine (CU.out _).mono ?_; rintro e w2 ⟨rfl, hb⟩
  have B2 : RowKit.Hid (Below w.heap.size w w2) := Lib.hid (btr B1.out hb)
  have C0_2 : RowKit.Hid (Below U.heap.size U w2) := Lib.hid (btr C0_1.out hb)
  have C1_2 : RowKit.Hid (Below U.heap.size U w2) := Lib.hid (btr C1_1.out hb)
  clear f1_0_0 f1_0_1 f1_1_0 f1_1_1 hb
  obtain ⟨f2_0_0, f2_0_1⟩ := KK0.out w2 C0_2.out
  obtain ⟨f2_1_0, f2_1_1⟩ := KK1.out w2 C1_2.out
  go_wp2_with fail
  refine (PR1.out _ (HL.out.on B2.out).1).mono ?_; rintro e w3 ⟨rfl, hb⟩
  have B3 : RowKit.Hid (Below w.heap.size w w3) := Lib.hid (btr B2.out hb)
  have C0_3 : RowKit.Hid (Below U.heap.size U w3) := Lib.hid (btr C0_2.out hb)
  have C1_3 : RowKit.Hid (Below U.heap.size U w3) := Lib.hid (btr C1_2.out hb)
  clear f2_0_0 f2_0_1 f2_1_0 f2_1_1 hb
  obtain ⟨f3_0_0, f3_0_1⟩ := KK0.out w3 C0_3.out
  obtain ⟨f3_1_0, f3_1_1⟩ := KK1.out w3 C1_3.out
  go_wp2_with fail
  refine (PA1.out _ (HL.out.on B3.out).2).mono ?_; rintro e w4 ⟨rfl, hb⟩
  have B4 : RowKit.Hid (Below w.heap.size w (w4.alloc (.cells #[.int .i64 F, .int .i64 T] 23))) := Lib.hid (bal (btr B3.out hb) _)
  have C0_4 : RowKit.Hid (Below U.heap.size U (w4.alloc (.cells #[.int .i64 F, .int .i64 T] 23))) := Lib.hid (bal (btr C0_3.out hb) _)
  have C1_4 : RowKit.Hid (Below U.heap.size U (w4.alloc (.cells #[.int .i64 F, .int .i64 T] 23))) := Lib.hid (bal (btr C1_3.out hb) _)
  clear f3_0_0 f3_0_1 f3_1_0 f3_1_1 hb
  obtain ⟨f4_0_0, f4_0_1⟩ := KK0.out (w4.alloc (.cells #[.int .i64 F, .int .i64 T] 23)) C0_4.out
  obtain ⟨f4_1_0, f4_1_1⟩ := KK1.out (w4.alloc (.cells #[.int .i64 F, .int .i64 T] 23)) C1_4.out
  have f4_2_0 : (w4.alloc (.cells #[.int .i64 F, .int .i64 T] 23)).cell? ⟨w4.heap.size, 0, none⟩ = some (.int .i64 F) := by go_simp
  have f4_2_1 : (w4.alloc (.cells #[.int .i64 F, .int .i64 T] 23)).cell? ⟨w4.heap.size, 1, none⟩ = some (.int .i64 T) := by go_simp
  have KK2 := Lib.hid (show ∀ W, Below (w4.alloc (.cells #[.int .i64 F, .int .i64 T] 23)).heap.size (w4.alloc (.cells #[.int .i64 F, .int .i64 T] 23)) W → W.cell? ⟨w4.heap.size, 0, none⟩ = some (.int .i64 F) ∧ W.cell? ⟨w4.heap.size, 1, none⟩ = some (.int .i64 T) from fun W h => ⟨(h.cell (p := ⟨w4.heap.size, 0, none⟩) (blt f4_2_0)).trans f4_2_0, (h.cell (p := ⟨w4.heap.size, 1, none⟩) (blt f4_2_1)).trans f4_2_1⟩)
  have C2_4 := Lib.hid (Below.refl (w4.alloc (.cells #[.int .i64 F, .int .i64 T] 23)).heap.size (w4.alloc (.cells #[.int .i64 F, .int .i64 T] 23)))
  go_wp2_with fail
  refine (PT1.out _ (HL.out.on B4.out).1).mono ?_; rintro e w5 ⟨rfl, hb⟩
  have B5 : RowKit.Hid (Below w.heap.size w w5) := Lib.hid (btr B4.out hb)
  have C0_5 : RowKit.Hid (Below U.heap.size U w5) := Lib.hid (btr C0_4.out hb)
  have C1_5 : RowKit.Hid (Below U.heap.size U w5) := Lib.hid (btr C1_4.out hb)
  have C2_5 : RowKit.Hid (Below (w4.alloc (.cells #[.int .i64 F, .int .i64 T] 23)).heap.size (w4.alloc (.cells #[.int .i64 F, .int .i64 T] 23)) w5) := Lib.hid (btr C2_4.out hb)
  clear f4_0_0 f4_0_1 f4_1_0 f4_1_1 f4_2_0 f4_2_1 hb
  obtain ⟨f5_0_0, f5_0_1⟩ := KK0.out w5 C0_5.out
  obtain ⟨f5_1_0, f5_1_1⟩ := KK1.out w5 C1_5.out
  obtain ⟨f5_2_0, f5_2_1⟩ := KK2.out w5 C2_5.out
  go_wp2_with fail
  refine (PA2.out _).mono ?_; rintro e w6 ⟨rfl, hb⟩
  have B6 : RowKit.Hid (Below w.heap.size w (w6.alloc (.cells #[.int .i64 0, .int .i64 0] 25))) := Lib.hid (bal (btr B5.out hb) _)
  have C0_6 : RowKit.Hid (Below U.heap.size U (w6.alloc (.cells #[.int .i64 0, .int .i64 0] 25))) := Lib.hid (bal (btr C0_5.out hb) _)
  have C1_6 : RowKit.Hid (Below U.heap.size U (w6.alloc (.cells #[.int .i64 0, .int .i64 0] 25))) := Lib.hid (bal (btr C1_5.out hb) _)
  have C2_6 : RowKit.Hid (Below (w4.alloc (.cells #[.int .i64 F, .int .i64 T] 23)).heap.size (w4.alloc (.cells #[.int .i64 F, .int .i64 T] 23)) (w6.alloc (.cells #[.int .i64 0, .int .i64 0] 25))) := Lib.hid (bal (btr C2_5.out hb) _)
  clear f5_0_0 f5_0_1 f5_1_0 f5_1_1 f5_2_0 f5_2_1 hb
  obtain ⟨f6_0_0, f6_0_1⟩ := KK0.out (w6.alloc (.cells #[.int .i64 0, .int .i64 0] 25)) C0_6.out
  obtain ⟨f6_1_0, f6_1_1⟩ := KK1.out (w6.alloc (.cells #[.int .i64 0, .int .i64 0] 25)) C1_6.out
  obtain ⟨f6_2_0, f6_2_1⟩ := KK2.out (w6.alloc (.cells #[.int .i64 0, .int .i64 0] 25)) C2_6.out
  have f6_3_0 : (w6.alloc (.cells #[.int .i64 0, .int .i64 0] 25)).cell? ⟨w6.heap.size, 0, none⟩ = some (.int .i64 0) := by go_simp
  have f6_3_1 : (w6.alloc (.cells #[.int .i64 0, .int .i64 0] 25)).cell? ⟨w6.heap.size, 1, none⟩ = some (.int .i64 0) := by go_simp
  have KK3 := Lib.hid (show ∀ W, Below (w6.alloc (.cells #[.int .i64 0, .int .i64 0] 25)).heap.size (w6.alloc (.cells #[.int .i64 0, .int .i64 0] 25)) W → W.cell? ⟨w6.heap.size, 0, none⟩ = some (.int .i64 0) ∧ W.cell? ⟨w6.heap.size, 1, none⟩ = some (.int .i64 0) from fun W h => ⟨(h.cell (p := ⟨w6.heap.size, 0, none⟩) (blt f6_3_0)).trans f6_3_0, (h.cell (p := ⟨w6.heap.size, 1, none⟩) (blt f6_3_1)).trans f6_3_1⟩)
  have C3_6 := Lib.hid (Below.refl (w6.alloc (.cells #[.int .i64 0, .int .i64 0] 25)).heap.size (w6.alloc (.cells #[.int .i64 0, .int .i64 0] 25)))
  go_wp2_with fail
  refine (PA3.out _ (HL.out.on B6.out).2).mono ?_; rintro e w7 ⟨rfl, hb⟩
  have B7 : RowKit.Hid (Below w.heap.size w (w7.alloc (.cells #[.int .i64 0, .int .i64 0] 23))) := Lib.hid (bal (btr B6.out hb) _)
  have C0_7 : RowKit.Hid (Below U.heap.size U (w7.alloc (.cells #[.int .i64 0, .int .i64 0] 23))) := Lib.hid (bal (btr C0_6.out hb) _)
  have C1_7 : RowKit.Hid (Below U.heap.size U (w7.alloc (.cells #[.int .i64 0, .int .i64 0] 23))) := Lib.hid (bal (btr C1_6.out hb) _)
  have C2_7 : RowKit.Hid (Below (w4.alloc (.cells #[.int .i64 F, .int .i64 T] 23)).heap.size (w4.alloc (.cells #[.int .i64 F, .int .i64 T] 23)) (w7.alloc (.cells #[.int .i64 0, .int .i64 0] 23))) := Lib.hid (bal (btr C2_6.out hb) _)
  have C3_7 : RowKit.Hid (Below (w6.alloc (.cells #[.int .i64 0, .int .i64 0] 25)).heap.size (w6.alloc (.cells #[.int .i64 0, .int .i64 0] 25)) (w7.alloc (.cells #[.int .i64 0, .int .i64 0] 23))) := Lib.hid (bal (btr C3_6.out hb) _)
  clear f6_0_0 f6_0_1 f6_1_0 f6_1_1 f6_2_0 f6_2_1 f6_3_0 f6_3_1 hb
  obtain ⟨f7_0_0, f7_0_1⟩ := KK0.out (w7.alloc (.cells #[.int .i64 0, .int .i64 0] 23)) C0_7.out
  obtain ⟨f7_1_0, f7_1_1⟩ := KK1.out (w7.alloc (.cells #[.int .i64 0, .int .i64 0] 23)) C1_7.out
  obtain ⟨f7_2_0, f7_2_1⟩ := KK2.out (w7.alloc (.cells #[.int .i64 0, .int .i64 0] 23)) C2_7.out
  obtain ⟨f7_3_0, f7_3_1⟩ := KK3.out (w7.alloc (.cells #[.int .i64 0, .int .i64 0] 23)) C3_7.out
  have f7_4_0 : (w7.alloc (.cells #[.int .i64 0, .int .i64 0] 23)).cell? ⟨w7.heap.size, 0, none⟩ = some (.int .i64 0) := by go_simp
  have f7_4_1 : (w7.alloc (.cells #[.int .i64 0, .int .i64 0] 23)).cell? ⟨w7.heap.size, 1, none⟩ = some (.int .i64 0) := by go_simp
  have KK4 := Lib.hid (show ∀ W, Below (w7.alloc (.cells #[.int .i64 0, .int .i64 0] 23)).heap.size (w7.alloc (.cells #[.int .i64 0, .int .i64 0] 23)) W → W.cell? ⟨w7.heap.size, 0, none⟩ = some (.int .i64 0) ∧ W.cell? ⟨w7.heap.size, 1, none⟩ = some (.int .i64 0) from fun W h => ⟨(h.cell (p := ⟨w7.heap.size, 0, none⟩) (blt f7_4_0)).trans f7_4_0, (h.cell (p := ⟨w7.heap.size, 1, none⟩) (blt f7_4_1)).trans f7_4_1⟩)
  have C4_7 := Lib.hid (Below.refl (w7.alloc (.cells #[.int .i64 0, .int .i64 0] 23)).heap.size (w7.alloc (.cells #[.int .i64 0, .int .i64 0] 23)))
  go_wp2_with fail
  refine (PR2.out _ (HL.out.on B7.out).1).mono ?_; rintro e w8 ⟨rfl, hb⟩
  have B8 : RowKit.Hid (Below w.heap.size w w8) := Lib.hid (btr B7.out hb)
  have C0_8 : RowKit.Hid (Below U.heap.size U w8) := Lib.hid (btr C0_7.out hb)
  have C1_8 : RowKit.Hid (Below U.heap.size U w8) := Lib.hid (btr C1_7.out hb)
  have C2_8 : RowKit.Hid (Below (w4.alloc (.cells #[.int .i64 F, .int .i64 T] 23)).heap.size (w4.alloc (.cells #[.int .i64 F, .int .i64 T] 23)) w8) := Lib.hid (btr C2_7.out hb)
  have C3_8 : RowKit.Hid (Below (w6.alloc (.cells #[.int .i64 0, .int .i64 0] 25)).heap.size (w6.alloc (.cells #[.int .i64 0, .int .i64 0] 25)) w8) := Lib.hid (btr C3_7.out hb)
  have C4_8 : RowKit.Hid (Below (w7.alloc (.cells #[.int .i64 0, .int .i64 0] 23)).heap.size (w7.alloc (.cells #[.int .i64 0, .int .i64 0] 23)) w8) := Lib.hid (btr C4_7.out hb)
  clear f7_0_0 f7_0_1 f7_1_0 f7_1_1 f7_2_0 f7_2_1 f7_3_0 f7_3_1 f7_4_0 f7_4_1 hb
  obtain ⟨f8_0_0, f8_0_1⟩ := KK0.out w8 C0_8.out
  obtain ⟨f8_1_0, f8_1_1⟩ := KK1.out w8 C1_8.out
  obtain ⟨f8_2_0, f8_2_1⟩ := KK2.out w8 C2_8.out
  obtain ⟨f8_3_0, f8_3_1⟩ := KK3.out w8 C3_8.out
  obtain ⟨f8_4_0, f8_4_1⟩ := KK4.out w8 C4_8.out
  go_wp2_with fail
  refine (PA4.out _).mono ?_; rintro e w9 ⟨rfl, hb⟩
  have B9 : RowKit.Hid (Below w.heap.size w (w9.alloc (.cells #[.int .i64 d0, .int .i64 d1] 25))) := Lib.hid (bal (btr B8.out hb) _)
  have C0_9 : RowKit.Hid (Below U.heap.size U (w9.alloc (.cells #[.int .i64 d0, .int .i64 d1] 25))) := Lib.hid (bal (btr C0_8.out hb) _)
  have C1_9 : RowKit.Hid (Below U.heap.size U (w9.alloc (.cells #[.int .i64 d0, .int .i64 d1] 25))) := Lib.hid (bal (btr C1_8.out hb) _)
  have C2_9 : RowKit.Hid (Below (w4.alloc (.cells #[.int .i64 F, .int .i64 T] 23)).heap.size (w4.alloc (.cells #[.int .i64 F, .int .i64 T] 23)) (w9.alloc (.cells #[.int .i64 d0, .int .i64 d1] 25))) := Lib.hid (bal (btr C2_8.out hb) _)
  have C3_9 : RowKit.Hid (Below (w6.alloc (.cells #[.int .i64 0, .int .i64 0] 25)).heap.size (w6.alloc (.cells #[.int .i64 0, .int .i64 0] 25)) (w9.alloc (.cells #[.int .i64 d0, .int .i64 d1] 25))) := Lib.hid (bal (btr C3_8.out hb) _)
  have C4_9 : RowKit.Hid (Below (w7.alloc (.cells #[.int .i64 0, .int .i64 0] 23)).heap.size (w7.alloc (.cells #[.int .i64 0, .int .i64 0] 23)) (w9.alloc (.cells #[.int .i64 d0, .int .i64 d1] 25))) := Lib.hid (bal (btr C4_8.out hb) _)
  clear f8_0_0 f8_0_1 f8_1_0 f8_1_1 f8_2_0 f8_2_1 f8_3_0 f8_3_1 f8_4_0 f8_4_1 hb
  obtain ⟨f9_0_0, f9_0_1⟩ := KK0.out (w9.alloc (.cells #[.int .i64 d0, .int .i64 d1] 25)) C0_9.out
  obtain ⟨f9_1_0, f9_1_1⟩ := KK1.out (w9.alloc (.cells #[.int .i64 d0, .int .i64 d1] 25)) C1_9.out
  obtain ⟨f9_2_0, f9_2_1⟩ := KK2.out (w9.alloc (.cells #[.int .i64 d0, .int .i64 d1] 25)) C2_9.out
  obtain ⟨f9_3_0, f9_3_1⟩ := KK3.out (w9.alloc (.cells #[.int .i64 d0, .int .i64 d1] 25)) C3_9.out
  obtain ⟨f9_4_0, f9_4_1⟩ := KK4.out (w9.alloc (.cells #[.int .i64 d0, .int .i64 d1] 25)) C4_9.out
  have f9_5_0 : (w9.alloc (.cells #[.int .i64 d0, .int .i64 d1] 25)).cell? ⟨w9.heap.size, 0, none⟩ = some (.int .i64 d0) := by go_simp
  have f9_5_1 : (w9.alloc (.cells #[.int .i64 d0, .int .i64 d1] 25)).cell? ⟨w9.heap.size, 1, none⟩ = some (.int .i64 d1) := by go_simp
  have KK5 := Lib.hid (show ∀ W, Below (w9.alloc (.cells #[.int .i64 d0, .int .i64 d1] 25)).heap.size (w9.alloc (.cells #[.int .i64 d0, .int .i64 d1] 25)) W → W.cell? ⟨w9.heap.size, 0, none⟩ = some (.int .i64 d0) ∧ W.cell? ⟨w9.heap.size, 1, none⟩ = some (.int .i64 d1) from fun W h => ⟨(h.cell (p := ⟨w9.heap.size, 0, none⟩) (blt f9_5_0)).trans f9_5_0, (h.cell (p := ⟨w9.heap.size, 1, none⟩) (blt f9_5_1)).trans f9_5_1⟩)
  have C5_9 := Lib.hid (Below.refl (w9.alloc (.cells #[.int .i64 d0, .int .i64 d1] 25)).heap.size (w9.alloc (.cells #[.int .i64 d0, .int .i64 d1] 25)))
  go_wp2_with fail
  refine (PT2.out _ (HL.out.on B9.out).1).mono ?_; rintro e w10 ⟨rfl, hb⟩
  have B10 : RowKit.Hid (Below w.heap.size w w10) := Lib.hid (btr B9.out hb)
  have C0_10 : RowKit.Hid (Below U.heap.size U w10) := Lib.hid (btr C0_9.out hb)
  have C1_10 : RowKit.Hid (Below U.heap.size U w10) := Lib.hid (btr C1_9.out hb)
  have C2_10 : RowKit.Hid (Below (w4.alloc (.cells #[.int .i64 F, .int .i64 T] 23)).heap.size (w4.alloc (.cells #[.int .i64 F, .int .i64 T] 23)) w10) := Lib.hid (btr C2_9.out hb)
  have C3_10 : RowKit.Hid (Below (w6.alloc (.cells #[.int .i64 0, .int .i64 0] 25)).heap.size (w6.alloc (.cells #[.int .i64 0, .int .i64 0] 25)) w10) := Lib.hid (btr C3_9.out hb)
  have C4_10 : RowKit.Hid (Below (w7.alloc (.cells #[.int .i64 0, .int .i64 0] 23)).heap.size (w7.alloc (.cells #[.int .i64 0, .int .i64 0] 23)) w10) := Lib.hid (btr C4_9.out hb)
  have C5_10 : RowKit.Hid (Below (w9.alloc (.cells #[.int .i64 d0, .int .i64 d1] 25)).heap.size (w9.alloc (.cells #[.int .i64 d0, .int .i64 d1] 25)) w10) := Lib.hid (btr C5_9.out hb)
  clear f9_0_0 f9_0_1 f9_1_0 f9_1_1 f9_2_0 f9_2_1 f9_3_0 f9_3_1 f9_4_0 f9_4_1 f9_5_0 f9_5_1 hb
  obtain ⟨f10_0_0, f10_0_1⟩ := KK0.out w10 C0_10.out
  obtain ⟨f10_1_0, f10_1_1⟩ := KK1.out w10 C1_10.out
  obtain ⟨f10_2_0, f10_2_1⟩ := KK2.out w10 C2_10.out
  obtain ⟨f10_3_0, f10_3_1⟩ := KK3.out w10 C3_10.out
  obtain ⟨f10_4_0, f10_4_1⟩ := KK4.out w10 C4_10.out
  obtain ⟨f10_5_0, f10_5_1⟩ := KK5.out w10 C5_10.out
  go_wp2_with fail
  refine (R1.out _).mono ?_; rintro e w11 ⟨rfl, hb⟩
  have B11 : RowKit.Hid (Below w.heap.size w w11) := Lib.hid (btr B10.out hb)
  have C0_11 : RowKit.Hid (Below U.heap.size U w11) := Lib.hid (btr C0_10.out hb)
  have C1_11 : RowKit.Hid (Below U.heap.size U w11) := Lib.hid (btr C1_10.out hb)
  have C2_11 : RowKit.Hid (Below (w4.alloc (.cells #[.int .i64 F, .int .i64 T] 23)).heap.size (w4.alloc (.cells #[.int .i64 F, .int .i64 T] 23)) w11) := Lib.hid (btr C2_10.out hb)
  have C3_11 : RowKit.Hid (Below (w6.alloc (.cells #[.int .i64 0, .int .i64 0] 25)).heap.size (w6.alloc (.cells #[.int .i64 0, .int .i64 0] 25)) w11) := Lib.hid (btr C3_10.out hb)
  have C4_11 : RowKit.Hid (Below (w7.alloc (.cells #[.int .i64 0, .int .i64 0] 23)).heap.size (w7.alloc (.cells #[.int .i64 0, .int .i64 0] 23)) w11) := Lib.hid (btr C4_10.out hb)
  have C5_11 : RowKit.Hid (Below (w9.alloc (.cells #[.int .i64 d0, .int .i64 d1] 25)).heap.size (w9.alloc (.cells #[.int .i64 d0, .int .i64 d1] 25)) w11) := Lib.hid (btr C5_10.out hb)
  clear f10_0_0 f10_0_1 f10_1_0 f10_1_1 f10_2_0 f10_2_1 f10_3_0 f10_3_1 f10_4_0 f10_4_1 f10_5_0 f10_5_1 hb
  obtain ⟨f11_0_0, f11_0_1⟩ := KK0.out w11 C0_11.out
  obtain ⟨f11_1_0, f11_1_1⟩ := KK1.out w11 C1_11.out
  obtain ⟨f11_2_0, f11_2_1⟩ := KK2.out w11 C2_11.out
  obtain ⟨f11_3_0, f11_3_1⟩ := KK3.out w11 C3_11.out
  obtain ⟨f11_4_0, f11_4_1⟩ := KK4.out w11 C4_11.out
  obtain ⟨f11_5_0, f11_5_1⟩ := KK5.out w11 C5_11.out
  go_wp2
  go_ret
  exact ⟨ret_bool (by first | rfl | (simp <;> omega)), B11.out⟩

set_option maxRecDepth 100000 in
set_option maxHeartbeats 4000000 in
theorem backL_rnc (F T A P : Int) (s0 S sa sb : ByteArray) (w : World) (hL : Laid w)
    (S0 : Hid (∀ W, Laid W → Calls Tryd.prog 6 #[] W fun x w' => x = .returned (.bool true) ∧ Below W.heap.size W w'))
    (CU : Hid (∀ W, Calls Tryd.prog 7 #[.string s0] W fun x w' => x = .returned (.string S) ∧ Below W.heap.size W w'))
    (PR1 : Hid (∀ W, Tabs W → Calls Tryd.prog 8 #[.agg #[.int .i64 F, .int .i64 T]] W fun x w' => x = .returned (.tuple #[.string sa, .int .i64 0]) ∧ Below W.heap.size W w'))
    (PA1 : Hid (∀ W, ErrT W → Calls Tryd.prog 9 #[.string sa] W fun x w' => x = .returned (.tuple #[.agg #[.int .i64 F, .int .i64 T], .int .i64 0]) ∧ Below W.heap.size W w'))
    (PT1 : Hid (∀ W, Tabs W → Calls Tryd.prog 10 #[.agg #[.int .i64 A, .int .i64 P]] W fun x w' => x = .returned (.tuple #[.string sb, .int .i64 71]) ∧ Below W.heap.size W w'))
    (PA2 : Hid (∀ W, Calls Tryd.prog 11 #[.string sb] W fun x w' => x = .returned (.tuple #[.agg #[.int .i64 0, .int .i64 0], .int .i64 71]) ∧ Below W.heap.size W w'))
    (PA3 : Hid (∀ W, ErrT W → Calls Tryd.prog 9 #[.string S] W fun x w' => x = .returned (.tuple #[.agg #[.int .i64 0, .int .i64 0], .int .i64 70]) ∧ Below W.heap.size W w'))
    (PR2 : Hid (∀ W, Tabs W → Calls Tryd.prog 8 #[.agg #[.int .i64 0, .int .i64 0]] W fun x w' => x = .returned (.tuple #[.string ⟨#[48]⟩, .int .i64 0]) ∧ Below W.heap.size W w'))
    (PA4 : Hid (∀ W, Calls Tryd.prog 11 #[.string S] W fun x w' => x = .returned (.tuple #[.agg #[.int .i64 0, .int .i64 0], .int .i64 71]) ∧ Below W.heap.size W w'))
    (PT2 : Hid (∀ W, Tabs W → Calls Tryd.prog 10 #[.agg #[.int .i64 0, .int .i64 0]] W fun x w' => x = .returned (.tuple #[.string ⟨#[]⟩, .int .i64 71]) ∧ Below W.heap.size W w'))
    (R1 : Hid (∀ W, Calls Tryd.prog 12 #[.agg #[.int .i64 F, .int .i64 T]] W fun x w' => x = .returned (.bool true) ∧ Below W.heap.size W w'))
    : Calls Tryd.prog 3 #[.agg #[.int .i64 F, .int .i64 T], .agg #[.int .i64 A, .int .i64 P], .string s0] w fun x w' => x = .returned (.bool true) ∧ Below w.heap.size w w' := by
  have HL := Lib.hid hL
  clear hL
  go_enter Tryd.func3, Tryd.ntmps3
  go_wp2_with fail
  have x0_0 : ((w.alloc (.cells #[.int .i64 F, .int .i64 T] 23)).alloc (.cells #[.int .i64 A, .int .i64 P] 25)).cell? ⟨w.heap.size, 0, none⟩ = some (.int .i64 F) := by go_simp
  have x0_1 : ((w.alloc (.cells #[.int .i64 F, .int .i64 T] 23)).alloc (.cells #[.int .i64 A, .int .i64 P] 25)).cell? ⟨w.heap.size, 1, none⟩ = some (.int .i64 T) := by go_simp
  have x1_0 : ((w.alloc (.cells #[.int .i64 F, .int .i64 T] 23)).alloc (.cells #[.int .i64 A, .int .i64 P] 25)).cell? ⟨w.heap.size + 1, 0, none⟩ = some (.int .i64 A) := by go_simp
  have x1_1 : ((w.alloc (.cells #[.int .i64 F, .int .i64 T] 23)).alloc (.cells #[.int .i64 A, .int .i64 P] 25)).cell? ⟨w.heap.size + 1, 1, none⟩ = some (.int .i64 P) := by go_simp
  have B0 : Below w.heap.size w ((w.alloc (.cells #[.int .i64 F, .int .i64 T] 23)).alloc (.cells #[.int .i64 A, .int .i64 P] 25)) := (bal ((bal (Below.refl _ w) _)) _)
  generalize ((w.alloc (.cells #[.int .i64 F, .int .i64 T] 23)).alloc (.cells #[.int .i64 A, .int .i64 P] 25)) = U at *
  have KK0 := Lib.hid (show ∀ W, Below U.heap.size U W → W.cell? ⟨w.heap.size, 0, none⟩ = some (.int .i64 F) ∧ W.cell? ⟨w.heap.size, 1, none⟩ = some (.int .i64 T) from fun W h => ⟨(h.cell (p := ⟨w.heap.size, 0, none⟩) (blt x0_0)).trans x0_0, (h.cell (p := ⟨w.heap.size, 1, none⟩) (blt x0_1)).trans x0_1⟩)
  have KK1 := Lib.hid (show ∀ W, Below U.heap.size U W → W.cell? ⟨w.heap.size + 1, 0, none⟩ = some (.int .i64 A) ∧ W.cell? ⟨w.heap.size + 1, 1, none⟩ = some (.int .i64 P) from fun W h => ⟨(h.cell (p := ⟨w.heap.size + 1, 0, none⟩) (blt x1_0)).trans x1_0, (h.cell (p := ⟨w.heap.size + 1, 1, none⟩) (blt x1_1)).trans x1_1⟩)
  have C0_0 := Lib.hid (Below.refl U.heap.size U)
  have C1_0 := Lib.hid (Below.refl U.heap.size U)
  replace B0 := Lib.hid B0
  refine (S0.out _ (HL.out.on B0.out)).mono ?_; rintro e w1 ⟨rfl, hb⟩
  have B1 : RowKit.Hid (Below w.heap.size w w1) := Lib.hid (btr B0.out hb)
  have C0_1 : RowKit.Hid (Below U.heap.size U w1) := Lib.hid (btr C0_0.out hb)
  have C1_1 : RowKit.Hid (Below U.heap.size U w1) := Lib.hid (btr C1_0.out hb)
  clear x0_0 x0_1 x1_0 x1_1 hb
  obtain ⟨f1_0_0, f1_0_1⟩ := KK0.out w1 C0_1.out
  obtain ⟨f1_1_0, f1_1_1⟩ := KK1.out w1 C1_1.out
  go_wp2_with fail
  refine (CU.out _).mono ?_; rintro e w2 ⟨rfl, hb⟩
  have B2 : RowKit.Hid (Below w.heap.size w w2) := Lib.hid (btr B1.out hb)
  have C0_2 : RowKit.Hid (Below U.heap.size U w2) := Lib.hid (btr C0_1.out hb)
  have C1_2 : RowKit.Hid (Below U.heap.size U w2) := Lib.hid (btr C1_1.out hb)
  clear f1_0_0 f1_0_1 f1_1_0 f1_1_1 hb
  obtain ⟨f2_0_0, f2_0_1⟩ := KK0.out w2 C0_2.out
  obtain ⟨f2_1_0, f2_1_1⟩ := KK1.out w2 C1_2.out
  go_wp2_with fail
  refine (PR1.out _ (HL.out.on B2.out).1).mono ?_; rintro e w3 ⟨rfl, hb⟩
  have B3 : RowKit.Hid (Below w.heap.size w w3) := Lib.hid (btr B2.out hb)
  have C0_3 : RowKit.Hid (Below U.heap.size U w3) := Lib.hid (btr C0_2.out hb)
  have C1_3 : RowKit.Hid (Below U.heap.size U w3) := Lib.hid (btr C1_2.out hb)
  clear f2_0_0 f2_0_1 f2_1_0 f2_1_1 hb
  obtain ⟨f3_0_0, f3_0_1⟩ := KK0.out w3 C0_3.out
  obtain ⟨f3_1_0, f3_1_1⟩ := KK1.out w3 C1_3.out
  go_wp2_with fail
  refine (PA1.out _ (HL.out.on B3.out).2).mono ?_; rintro e w4 ⟨rfl, hb⟩
  have B4 : RowKit.Hid (Below w.heap.size w (w4.alloc (.cells #[.int .i64 F, .int .i64 T] 23))) := Lib.hid (bal (btr B3.out hb) _)
  have C0_4 : RowKit.Hid (Below U.heap.size U (w4.alloc (.cells #[.int .i64 F, .int .i64 T] 23))) := Lib.hid (bal (btr C0_3.out hb) _)
  have C1_4 : RowKit.Hid (Below U.heap.size U (w4.alloc (.cells #[.int .i64 F, .int .i64 T] 23))) := Lib.hid (bal (btr C1_3.out hb) _)
  clear f3_0_0 f3_0_1 f3_1_0 f3_1_1 hb
  obtain ⟨f4_0_0, f4_0_1⟩ := KK0.out (w4.alloc (.cells #[.int .i64 F, .int .i64 T] 23)) C0_4.out
  obtain ⟨f4_1_0, f4_1_1⟩ := KK1.out (w4.alloc (.cells #[.int .i64 F, .int .i64 T] 23)) C1_4.out
  have f4_2_0 : (w4.alloc (.cells #[.int .i64 F, .int .i64 T] 23)).cell? ⟨w4.heap.size, 0, none⟩ = some (.int .i64 F) := by go_simp
  have f4_2_1 : (w4.alloc (.cells #[.int .i64 F, .int .i64 T] 23)).cell? ⟨w4.heap.size, 1, none⟩ = some (.int .i64 T) := by go_simp
  have KK2 := Lib.hid (show ∀ W, Below (w4.alloc (.cells #[.int .i64 F, .int .i64 T] 23)).heap.size (w4.alloc (.cells #[.int .i64 F, .int .i64 T] 23)) W → W.cell? ⟨w4.heap.size, 0, none⟩ = some (.int .i64 F) ∧ W.cell? ⟨w4.heap.size, 1, none⟩ = some (.int .i64 T) from fun W h => ⟨(h.cell (p := ⟨w4.heap.size, 0, none⟩) (blt f4_2_0)).trans f4_2_0, (h.cell (p := ⟨w4.heap.size, 1, none⟩) (blt f4_2_1)).trans f4_2_1⟩)
  have C2_4 := Lib.hid (Below.refl (w4.alloc (.cells #[.int .i64 F, .int .i64 T] 23)).heap.size (w4.alloc (.cells #[.int .i64 F, .int .i64 T] 23)))
  go_wp2_with fail
  refine (PT1.out _ (HL.out.on B4.out).1).mono ?_; rintro e w5 ⟨rfl, hb⟩
  have B5 : RowKit.Hid (Below w.heap.size w w5) := Lib.hid (btr B4.out hb)
  have C0_5 : RowKit.Hid (Below U.heap.size U w5) := Lib.hid (btr C0_4.out hb)
  have C1_5 : RowKit.Hid (Below U.heap.size U w5) := Lib.hid (btr C1_4.out hb)
  have C2_5 : RowKit.Hid (Below (w4.alloc (.cells #[.int .i64 F, .int .i64 T] 23)).heap.size (w4.alloc (.cells #[.int .i64 F, .int .i64 T] 23)) w5) := Lib.hid (btr C2_4.out hb)
  clear f4_0_0 f4_0_1 f4_1_0 f4_1_1 f4_2_0 f4_2_1 hb
  obtain ⟨f5_0_0, f5_0_1⟩ := KK0.out w5 C0_5.out
  obtain ⟨f5_1_0, f5_1_1⟩ := KK1.out w5 C1_5.out
  obtain ⟨f5_2_0, f5_2_1⟩ := KK2.out w5 C2_5.out
  go_wp2_with fail
  refine (PA2.out _).mono ?_; rintro e w6 ⟨rfl, hb⟩
  have B6 : RowKit.Hid (Below w.heap.size w (w6.alloc (.cells #[.int .i64 0, .int .i64 0] 25))) := Lib.hid (bal (btr B5.out hb) _)
  have C0_6 : RowKit.Hid (Below U.heap.size U (w6.alloc (.cells #[.int .i64 0, .int .i64 0] 25))) := Lib.hid (bal (btr C0_5.out hb) _)
  have C1_6 : RowKit.Hid (Below U.heap.size U (w6.alloc (.cells #[.int .i64 0, .int .i64 0] 25))) := Lib.hid (bal (btr C1_5.out hb) _)
  have C2_6 : RowKit.Hid (Below (w4.alloc (.cells #[.int .i64 F, .int .i64 T] 23)).heap.size (w4.alloc (.cells #[.int .i64 F, .int .i64 T] 23)) (w6.alloc (.cells #[.int .i64 0, .int .i64 0] 25))) := Lib.hid (bal (btr C2_5.out hb) _)
  clear f5_0_0 f5_0_1 f5_1_0 f5_1_1 f5_2_0 f5_2_1 hb
  obtain ⟨f6_0_0, f6_0_1⟩ := KK0.out (w6.alloc (.cells #[.int .i64 0, .int .i64 0] 25)) C0_6.out
  obtain ⟨f6_1_0, f6_1_1⟩ := KK1.out (w6.alloc (.cells #[.int .i64 0, .int .i64 0] 25)) C1_6.out
  obtain ⟨f6_2_0, f6_2_1⟩ := KK2.out (w6.alloc (.cells #[.int .i64 0, .int .i64 0] 25)) C2_6.out
  have f6_3_0 : (w6.alloc (.cells #[.int .i64 0, .int .i64 0] 25)).cell? ⟨w6.heap.size, 0, none⟩ = some (.int .i64 0) := by go_simp
  have f6_3_1 : (w6.alloc (.cells #[.int .i64 0, .int .i64 0] 25)).cell? ⟨w6.heap.size, 1, none⟩ = some (.int .i64 0) := by go_simp
  have KK3 := Lib.hid (show ∀ W, Below (w6.alloc (.cells #[.int .i64 0, .int .i64 0] 25)).heap.size (w6.alloc (.cells #[.int .i64 0, .int .i64 0] 25)) W → W.cell? ⟨w6.heap.size, 0, none⟩ = some (.int .i64 0) ∧ W.cell? ⟨w6.heap.size, 1, none⟩ = some (.int .i64 0) from fun W h => ⟨(h.cell (p := ⟨w6.heap.size, 0, none⟩) (blt f6_3_0)).trans f6_3_0, (h.cell (p := ⟨w6.heap.size, 1, none⟩) (blt f6_3_1)).trans f6_3_1⟩)
  have C3_6 := Lib.hid (Below.refl (w6.alloc (.cells #[.int .i64 0, .int .i64 0] 25)).heap.size (w6.alloc (.cells #[.int .i64 0, .int .i64 0] 25)))
  go_wp2_with fail
  refine (PA3.out _ (HL.out.on B6.out).2).mono ?_; rintro e w7 ⟨rfl, hb⟩
  have B7 : RowKit.Hid (Below w.heap.size w (w7.alloc (.cells #[.int .i64 0, .int .i64 0] 23))) := Lib.hid (bal (btr B6.out hb) _)
  have C0_7 : RowKit.Hid (Below U.heap.size U (w7.alloc (.cells #[.int .i64 0, .int .i64 0] 23))) := Lib.hid (bal (btr C0_6.out hb) _)
  have C1_7 : RowKit.Hid (Below U.heap.size U (w7.alloc (.cells #[.int .i64 0, .int .i64 0] 23))) := Lib.hid (bal (btr C1_6.out hb) _)
  have C2_7 : RowKit.Hid (Below (w4.alloc (.cells #[.int .i64 F, .int .i64 T] 23)).heap.size (w4.alloc (.cells #[.int .i64 F, .int .i64 T] 23)) (w7.alloc (.cells #[.int .i64 0, .int .i64 0] 23))) := Lib.hid (bal (btr C2_6.out hb) _)
  have C3_7 : RowKit.Hid (Below (w6.alloc (.cells #[.int .i64 0, .int .i64 0] 25)).heap.size (w6.alloc (.cells #[.int .i64 0, .int .i64 0] 25)) (w7.alloc (.cells #[.int .i64 0, .int .i64 0] 23))) := Lib.hid (bal (btr C3_6.out hb) _)
  clear f6_0_0 f6_0_1 f6_1_0 f6_1_1 f6_2_0 f6_2_1 f6_3_0 f6_3_1 hb
  obtain ⟨f7_0_0, f7_0_1⟩ := KK0.out (w7.alloc (.cells #[.int .i64 0, .int .i64 0] 23)) C0_7.out
  obtain ⟨f7_1_0, f7_1_1⟩ := KK1.out (w7.alloc (.cells #[.int .i64 0, .int .i64 0] 23)) C1_7.out
  obtain ⟨f7_2_0, f7_2_1⟩ := KK2.out (w7.alloc (.cells #[.int .i64 0, .int .i64 0] 23)) C2_7.out
  obtain ⟨f7_3_0, f7_3_1⟩ := KK3.out (w7.alloc (.cells #[.int .i64 0, .int .i64 0] 23)) C3_7.out
  have f7_4_0 : (w7.alloc (.cells #[.int .i64 0, .int .i64 0] 23)).cell? ⟨w7.heap.size, 0, none⟩ = some (.int .i64 0) := by go_simp
  have f7_4_1 : (w7.alloc (.cells #[.int .i64 0, .int .i64 0] 23)).cell? ⟨w7.heap.size, 1, none⟩ = some (.int .i64 0) := by go_simp
  have KK4 := Lib.hid (show ∀ W, Below (w7.alloc (.cells #[.int .i64 0, .int .i64 0] 23)).heap.size (w7.alloc (.cells #[.int .i64 0, .int .i64 0] 23)) W → W.cell? ⟨w7.heap.size, 0, none⟩ = some (.int .i64 0) ∧ W.cell? ⟨w7.heap.size, 1, none⟩ = some (.int .i64 0) from fun W h => ⟨(h.cell (p := ⟨w7.heap.size, 0, none⟩) (blt f7_4_0)).trans f7_4_0, (h.cell (p := ⟨w7.heap.size, 1, none⟩) (blt f7_4_1)).trans f7_4_1⟩)
  have C4_7 := Lib.hid (Below.refl (w7.alloc (.cells #[.int .i64 0, .int .i64 0] 23)).heap.size (w7.alloc (.cells #[.int .i64 0, .int .i64 0] 23)))
  go_wp2_with fail
  refine (PR2.out _ (HL.out.on B7.out).1).mono ?_; rintro e w8 ⟨rfl, hb⟩
  have B8 : RowKit.Hid (Below w.heap.size w w8) := Lib.hid (btr B7.out hb)
  have C0_8 : RowKit.Hid (Below U.heap.size U w8) := Lib.hid (btr C0_7.out hb)
  have C1_8 : RowKit.Hid (Below U.heap.size U w8) := Lib.hid (btr C1_7.out hb)
  have C2_8 : RowKit.Hid (Below (w4.alloc (.cells #[.int .i64 F, .int .i64 T] 23)).heap.size (w4.alloc (.cells #[.int .i64 F, .int .i64 T] 23)) w8) := Lib.hid (btr C2_7.out hb)
  have C3_8 : RowKit.Hid (Below (w6.alloc (.cells #[.int .i64 0, .int .i64 0] 25)).heap.size (w6.alloc (.cells #[.int .i64 0, .int .i64 0] 25)) w8) := Lib.hid (btr C3_7.out hb)
  have C4_8 : RowKit.Hid (Below (w7.alloc (.cells #[.int .i64 0, .int .i64 0] 23)).heap.size (w7.alloc (.cells #[.int .i64 0, .int .i64 0] 23)) w8) := Lib.hid (btr C4_7.out hb)
  clear f7_0_0 f7_0_1 f7_1_0 f7_1_1 f7_2_0 f7_2_1 f7_3_0 f7_3_1 f7_4_0 f7_4_1 hb
  obtain ⟨f8_0_0, f8_0_1⟩ := KK0.out w8 C0_8.out
  obtain ⟨f8_1_0, f8_1_1⟩ := KK1.out w8 C1_8.out
  obtain ⟨f8_2_0, f8_2_1⟩ := KK2.out w8 C2_8.out
  obtain ⟨f8_3_0, f8_3_1⟩ := KK3.out w8 C3_8.out
  obtain ⟨f8_4_0, f8_4_1⟩ := KK4.out w8 C4_8.out
  go_wp2_with fail
  refine (PA4.out _).mono ?_; rintro e w9 ⟨rfl, hb⟩
  have B9 : RowKit.Hid (Below w.heap.size w (w9.alloc (.cells #[.int .i64 0, .int .i64 0] 25))) := Lib.hid (bal (btr B8.out hb) _)
  have C0_9 : RowKit.Hid (Below U.heap.size U (w9.alloc (.cells #[.int .i64 0, .int .i64 0] 25))) := Lib.hid (bal (btr C0_8.out hb) _)
  have C1_9 : RowKit.Hid (Below U.heap.size U (w9.alloc (.cells #[.int .i64 0, .int .i64 0] 25))) := Lib.hid (bal (btr C1_8.out hb) _)
  have C2_9 : RowKit.Hid (Below (w4.alloc (.cells #[.int .i64 F, .int .i64 T] 23)).heap.size (w4.alloc (.cells #[.int .i64 F, .int .i64 T] 23)) (w9.alloc (.cells #[.int .i64 0, .int .i64 0] 25))) := Lib.hid (bal (btr C2_8.out hb) _)
  have C3_9 : RowKit.Hid (Below (w6.alloc (.cells #[.int .i64 0, .int .i64 0] 25)).heap.size (w6.alloc (.cells #[.int .i64 0, .int .i64 0] 25)) (w9.alloc (.cells #[.int .i64 0, .int .i64 0] 25))) := Lib.hid (bal (btr C3_8.out hb) _)
  have C4_9 : RowKit.Hid (Below (w7.alloc (.cells #[.int .i64 0, .int .i64 0] 23)).heap.size (w7.alloc (.cells #[.int .i64 0, .int .i64 0] 23)) (w9.alloc (.cells #[.int .i64 0, .int .i64 0] 25))) := Lib.hid (bal (btr C4_8.out hb) _)
  clear f8_0_0 f8_0_1 f8_1_0 f8_1_1 f8_2_0 f8_2_1 f8_3_0 f8_3_1 f8_4_0 f8_4_1 hb
  obtain ⟨f9_0_0, f9_0_1⟩ := KK0.out (w9.alloc (.cells #[.int .i64 0, .int .i64 0] 25)) C0_9.out
  obtain ⟨f9_1_0, f9_1_1⟩ := KK1.out (w9.alloc (.cells #[.int .i64 0, .int .i64 0] 25)) C1_9.out
  obtain ⟨f9_2_0, f9_2_1⟩ := KK2.out (w9.alloc (.cells #[.int .i64 0, .int .i64 0] 25)) C2_9.out
  obtain ⟨f9_3_0, f9_3_1⟩ := KK3.out (w9.alloc (.cells #[.int .i64 0, .int .i64 0] 25)) C3_9.out
  obtain ⟨f9_4_0, f9_4_1⟩ := KK4.out (w9.alloc (.cells #[.int .i64 0, .int .i64 0] 25)) C4_9.out
  have f9_5_0 : (w9.alloc (.cells #[.int .i64 0, .int .i64 0] 25)).cell? ⟨w9.heap.size, 0, none⟩ = some (.int .i64 0) := by go_simp
  have f9_5_1 : (w9.alloc (.cells #[.int .i64 0, .int .i64 0] 25)).cell? ⟨w9.heap.size, 1, none⟩ = some (.int .i64 0) := by go_simp
  have KK5 := Lib.hid (show ∀ W, Below (w9.alloc (.cells #[.int .i64 0, .int .i64 0] 25)).heap.size (w9.alloc (.cells #[.int .i64 0, .int .i64 0] 25)) W → W.cell? ⟨w9.heap.size, 0, none⟩ = some (.int .i64 0) ∧ W.cell? ⟨w9.heap.size, 1, none⟩ = some (.int .i64 0) from fun W h => ⟨(h.cell (p := ⟨w9.heap.size, 0, none⟩) (blt f9_5_0)).trans f9_5_0, (h.cell (p := ⟨w9.heap.size, 1, none⟩) (blt f9_5_1)).trans f9_5_1⟩)
  have C5_9 := Lib.hid (Below.refl (w9.alloc (.cells #[.int .i64 0, .int .i64 0] 25)).heap.size (w9.alloc (.cells #[.int .i64 0, .int .i64 0] 25)))
  go_wp2_with fail
  refine (PT2.out _ (HL.out.on B9.out).1).mono ?_; rintro e w10 ⟨rfl, hb⟩
  have B10 : RowKit.Hid (Below w.heap.size w w10) := Lib.hid (btr B9.out hb)
  have C0_10 : RowKit.Hid (Below U.heap.size U w10) := Lib.hid (btr C0_9.out hb)
  have C1_10 : RowKit.Hid (Below U.heap.size U w10) := Lib.hid (btr C1_9.out hb)
  have C2_10 : RowKit.Hid (Below (w4.alloc (.cells #[.int .i64 F, .int .i64 T] 23)).heap.size (w4.alloc (.cells #[.int .i64 F, .int .i64 T] 23)) w10) := Lib.hid (btr C2_9.out hb)
  have C3_10 : RowKit.Hid (Below (w6.alloc (.cells #[.int .i64 0, .int .i64 0] 25)).heap.size (w6.alloc (.cells #[.int .i64 0, .int .i64 0] 25)) w10) := Lib.hid (btr C3_9.out hb)
  have C4_10 : RowKit.Hid (Below (w7.alloc (.cells #[.int .i64 0, .int .i64 0] 23)).heap.size (w7.alloc (.cells #[.int .i64 0, .int .i64 0] 23)) w10) := Lib.hid (btr C4_9.out hb)
  have C5_10 : RowKit.Hid (Below (w9.alloc (.cells #[.int .i64 0, .int .i64 0] 25)).heap.size (w9.alloc (.cells #[.int .i64 0, .int .i64 0] 25)) w10) := Lib.hid (btr C5_9.out hb)
  clear f9_0_0 f9_0_1 f9_1_0 f9_1_1 f9_2_0 f9_2_1 f9_3_0 f9_3_1 f9_4_0 f9_4_1 f9_5_0 f9_5_1 hb
  obtain ⟨f10_0_0, f10_0_1⟩ := KK0.out w10 C0_10.out
  obtain ⟨f10_1_0, f10_1_1⟩ := KK1.out w10 C1_10.out
  obtain ⟨f10_2_0, f10_2_1⟩ := KK2.out w10 C2_10.out
  obtain ⟨f10_3_0, f10_3_1⟩ := KK3.out w10 C3_10.out
  obtain ⟨f10_4_0, f10_4_1⟩ := KK4.out w10 C4_10.out
  obtain ⟨f10_5_0, f10_5_1⟩ := KK5.out w10 C5_10.out
  go_wp2_with fail
  refine (R1.out _).mono ?_; rintro e w11 ⟨rfl, hb⟩
  have B11 : RowKit.Hid (Below w.heap.size w w11) := Lib.hid (btr B10.out hb)
  have C0_11 : RowKit.Hid (Below U.heap.size U w11) := Lib.hid (btr C0_10.out hb)
  have C1_11 : RowKit.Hid (Below U.heap.size U w11) := Lib.hid (btr C1_10.out hb)
  have C2_11 : RowKit.Hid (Below (w4.alloc (.cells #[.int .i64 F, .int .i64 T] 23)).heap.size (w4.alloc (.cells #[.int .i64 F, .int .i64 T] 23)) w11) := Lib.hid (btr C2_10.out hb)
  have C3_11 : RowKit.Hid (Below (w6.alloc (.cells #[.int .i64 0, .int .i64 0] 25)).heap.size (w6.alloc (.cells #[.int .i64 0, .int .i64 0] 25)) w11) := Lib.hid (btr C3_10.out hb)
  have C4_11 : RowKit.Hid (Below (w7.alloc (.cells #[.int .i64 0, .int .i64 0] 23)).heap.size (w7.alloc (.cells #[.int .i64 0, .int .i64 0] 23)) w11) := Lib.hid (btr C4_10.out hb)
  have C5_11 : RowKit.Hid (Below (w9.alloc (.cells #[.int .i64 0, .int .i64 0] 25)).heap.size (w9.alloc (.cells #[.int .i64 0, .int .i64 0] 25)) w11) := Lib.hid (btr C5_10.out hb)
  clear f10_0_0 f10_0_1 f10_1_0 f10_1_1 f10_2_0 f10_2_1 f10_3_0 f10_3_1 f10_4_0 f10_4_1 f10_5_0 f10_5_1 hb
  obtain ⟨f11_0_0, f11_0_1⟩ := KK0.out w11 C0_11.out
  obtain ⟨f11_1_0, f11_1_1⟩ := KK1.out w11 C1_11.out
  obtain ⟨f11_2_0, f11_2_1⟩ := KK2.out w11 C2_11.out
  obtain ⟨f11_3_0, f11_3_1⟩ := KK3.out w11 C3_11.out
  obtain ⟨f11_4_0, f11_4_1⟩ := KK4.out w11 C4_11.out
  obtain ⟨f11_5_0, f11_5_1⟩ := KK5.out w11 C5_11.out
  go_wp2
  go_ret
  exact ⟨ret_bool (by first | rfl | (simp <;> omega)), B11.out⟩

set_option maxRecDepth 100000 in
set_option maxHeartbeats 4000000 in
theorem backL_nta (F T A P c0 c1 : Int) (s0 S sa sb : ByteArray) (w : World) (hL : Laid w)
    (S0 : Hid (∀ W, Laid W → Calls Tryd.prog 6 #[] W fun x w' => x = .returned (.bool true) ∧ Below W.heap.size W w'))
    (CU : Hid (∀ W, Calls Tryd.prog 7 #[.string s0] W fun x w' => x = .returned (.string S) ∧ Below W.heap.size W w'))
    (PR1 : Hid (∀ W, Tabs W → Calls Tryd.prog 8 #[.agg #[.int .i64 F, .int .i64 T]] W fun x w' => x = .returned (.tuple #[.string sa, .int .i64 70]) ∧ Below W.heap.size W w'))
    (PA1 : Hid (∀ W, ErrT W → Calls Tryd.prog 9 #[.string sa] W fun x w' => x = .returned (.tuple #[.agg #[.int .i64 0, .int .i64 0], .int .i64 70]) ∧ Below W.heap.size W w'))
    (PT1 : Hid (∀ W, Tabs W → Calls Tryd.prog 10 #[.agg #[.int .i64 A, .int .i64 P]] W fun x w' => x = .returned (.tuple #[.string sb, .int .i64 0]) ∧ Below W.heap.size W w'))
    (PA2 : Hid (∀ W, Calls Tryd.prog 11 #[.string sb] W fun x w' => x = .returned (.tuple #[.agg #[.int .i64 A, .int .i64 P], .int .i64 0]) ∧ Below W.heap.size W w'))
    (PA3 : Hid (∀ W, ErrT W → Calls Tryd.prog 9 #[.string S] W fun x w' => x = .returned (.tuple #[.agg #[.int .i64 c0, .int .i64 c1], .int .i64 0]) ∧ Below W.heap.size W w'))
    (PR2 : Hid (∀ W, Tabs W → Calls Tryd.prog 8 #[.agg #[.int .i64 c0, .int .i64 c1]] W fun x w' => x = .returned (.tuple #[.string S, .int .i64 0]) ∧ Below W.heap.size W w'))
    (PA4 : Hid (∀ W, Calls Tryd.prog 11 #[.string S] W fun x w' => x = .returned (.tuple #[.agg #[.int .i64 0, .int .i64 0], .int .i64 71]) ∧ Below W.heap.size W w'))
    (PT2 : Hid (∀ W, Tabs W → Calls Tryd.prog 10 #[.agg #[.int .i64 0, .int .i64 0]] W fun x w' => x = .returned (.tuple #[.string ⟨#[]⟩, .int .i64 71]) ∧ Below W.heap.size W w'))
    (R1 : Hid (∀ W, Calls Tryd.prog 12 #[.agg #[.int .i64 F, .int .i64 T]] W fun x w' => x = .returned (.bool false) ∧ Below W.heap.size W w'))
    : Calls Tryd.prog 3 #[.agg #[.int .i64 F, .int .i64 T], .agg #[.int .i64 A, .int .i64 P], .string s0] w fun x w' => x = .returned (.bool true) ∧ Below w.heap.size w w' := by
  have HL := Lib.hid hL
  clear hL
  go_enter Tryd.func3, Tryd.ntmps3
  go_wp2_with fail
  have x0_0 : ((w.alloc (.cells #[.int .i64 F, .int .i64 T] 23)).alloc (.cells #[.int .i64 A, .int .i64 P] 25)).cell? ⟨w.heap.size, 0, none⟩ = some (.int .i64 F) := by go_simp
  have x0_1 : ((w.alloc (.cells #[.int .i64 F, .int .i64 T] 23)).alloc (.cells #[.int .i64 A, .int .i64 P] 25)).cell? ⟨w.heap.size, 1, none⟩ = some (.int .i64 T) := by go_simp
  have x1_0 : ((w.alloc (.cells #[.int .i64 F, .int .i64 T] 23)).alloc (.cells #[.int .i64 A, .int .i64 P] 25)).cell? ⟨w.heap.size + 1, 0, none⟩ = some (.int .i64 A) := by go_simp
  have x1_1 : ((w.alloc (.cells #[.int .i64 F, .int .i64 T] 23)).alloc (.cells #[.int .i64 A, .int .i64 P] 25)).cell? ⟨w.heap.size + 1, 1, none⟩ = some (.int .i64 P) := by go_simp
  have B0 : Below w.heap.size w ((w.alloc (.cells #[.int .i64 F, .int .i64 T] 23)).alloc (.cells #[.int .i64 A, .int .i64 P] 25)) := (bal ((bal (Below.refl _ w) _)) _)
  generalize ((w.alloc (.cells #[.int .i64 F, .int .i64 T] 23)).alloc (.cells #[.int .i64 A, .int .i64 P] 25)) = U at *
  have KK0 := Lib.hid (show ∀ W, Below U.heap.size U W → W.cell? ⟨w.heap.size, 0, none⟩ = some (.int .i64 F) ∧ W.cell? ⟨w.heap.size, 1, none⟩ = some (.int .i64 T) from fun W h => ⟨(h.cell (p := ⟨w.heap.size, 0, none⟩) (blt x0_0)).trans x0_0, (h.cell (p := ⟨w.heap.size, 1, none⟩) (blt x0_1)).trans x0_1⟩)
  have KK1 := Lib.hid (show ∀ W, Below U.heap.size U W → W.cell? ⟨w.heap.size + 1, 0, none⟩ = some (.int .i64 A) ∧ W.cell? ⟨w.heap.size + 1, 1, none⟩ = some (.int .i64 P) from fun W h => ⟨(h.cell (p := ⟨w.heap.size + 1, 0, none⟩) (blt x1_0)).trans x1_0, (h.cell (p := ⟨w.heap.size + 1, 1, none⟩) (blt x1_1)).trans x1_1⟩)
  have C0_0 := Lib.hid (Below.refl U.heap.size U)
  have C1_0 := Lib.hid (Below.refl U.heap.size U)
  replace B0 := Lib.hid B0
  refine (S0.out _ (HL.out.on B0.out)).mono ?_; rintro e w1 ⟨rfl, hb⟩
  have B1 : RowKit.Hid (Below w.heap.size w w1) := Lib.hid (btr B0.out hb)
  have C0_1 : RowKit.Hid (Below U.heap.size U w1) := Lib.hid (btr C0_0.out hb)
  have C1_1 : RowKit.Hid (Below U.heap.size U w1) := Lib.hid (btr C1_0.out hb)
  clear x0_0 x0_1 x1_0 x1_1 hb
  obtain ⟨f1_0_0, f1_0_1⟩ := KK0.out w1 C0_1.out
  obtain ⟨f1_1_0, f1_1_1⟩ := KK1.out w1 C1_1.out
  go_wp2_with fail
  refine (CU.out _).mono ?_; rintro e w2 ⟨rfl, hb⟩
  have B2 : RowKit.Hid (Below w.heap.size w w2) := Lib.hid (btr B1.out hb)
  have C0_2 : RowKit.Hid (Below U.heap.size U w2) := Lib.hid (btr C0_1.out hb)
  have C1_2 : RowKit.Hid (Below U.heap.size U w2) := Lib.hid (btr C1_1.out hb)
  clear f1_0_0 f1_0_1 f1_1_0 f1_1_1 hb
  obtain ⟨f2_0_0, f2_0_1⟩ := KK0.out w2 C0_2.out
  obtain ⟨f2_1_0, f2_1_1⟩ := KK1.out w2 C1_2.out
  go_wp2_with fail
  refine (PR1.out _ (HL.out.on B2.out).1).mono ?_; rintro e w3 ⟨rfl, hb⟩
  have B3 : RowKit.Hid (Below w.heap.size w w3) := Lib.hid (btr B2.out hb)
  have C0_3 : RowKit.Hid (Below U.heap.size U w3) := Lib.hid (btr C0_2.out hb)
  have C1_3 : RowKit.Hid (Below U.heap.size U w3) := Lib.hid (btr C1_2.out hb)
  clear f2_0_0 f2_0_1 f2_1_0 f2_1_1 hb
  obtain ⟨f3_0_0, f3_0_1⟩ := KK0.out w3 C0_3.out
  obtain ⟨f3_1_0, f3_1_1⟩ := KK1.out w3 C1_3.out
  go_wp2_with fail
  refine (PA1.out _ (HL.out.on B3.out).2).mono ?_; rintro e w4 ⟨rfl, hb⟩
  have B4 : RowKit.Hid (Below w.heap.size w (w4.alloc (.cells #[.int .i64 0, .int .i64 0] 23))) := Lib.hid (bal (btr B3.out hb) _)
  have C0_4 : RowKit.Hid (Below U.heap.size U (w4.alloc (.cells #[.int .i64 0, .int .i64 0] 23))) := Lib.hid (bal (btr C0_3.out hb) _)
  have C1_4 : RowKit.Hid (Below U.heap.size U (w4.alloc (.cells #[.int .i64 0, .int .i64 0] 23))) := Lib.hid (bal (btr C1_3.out hb) _)
  clear f3_0_0 f3_0_1 f3_1_0 f3_1_1 hb
  obtain ⟨f4_0_0, f4_0_1⟩ := KK0.out (w4.alloc (.cells #[.int .i64 0, .int .i64 0] 23)) C0_4.out
  obtain ⟨f4_1_0, f4_1_1⟩ := KK1.out (w4.alloc (.cells #[.int .i64 0, .int .i64 0] 23)) C1_4.out
  have f4_2_0 : (w4.alloc (.cells #[.int .i64 0, .int .i64 0] 23)).cell? ⟨w4.heap.size, 0, none⟩ = some (.int .i64 0) := by go_simp
  have f4_2_1 : (w4.alloc (.cells #[.int .i64 0, .int .i64 0] 23)).cell? ⟨w4.heap.size, 1, none⟩ = some (.int .i64 0) := by go_simp
  have KK2 := Lib.hid (show ∀ W, Below (w4.alloc (.cells #[.int .i64 0, .int .i64 0] 23)).heap.size (w4.alloc (.cells #[.int .i64 0, .int .i64 0] 23)) W → W.cell? ⟨w4.heap.size, 0, none⟩ = some (.int .i64 0) ∧ W.cell? ⟨w4.heap.size, 1, none⟩ = some (.int .i64 0) from fun W h => ⟨(h.cell (p := ⟨w4.heap.size, 0, none⟩) (blt f4_2_0)).trans f4_2_0, (h.cell (p := ⟨w4.heap.size, 1, none⟩) (blt f4_2_1)).trans f4_2_1⟩)
  have C2_4 := Lib.hid (Below.refl (w4.alloc (.cells #[.int .i64 0, .int .i64 0] 23)).heap.size (w4.alloc (.cells #[.int .i64 0, .int .i64 0] 23)))
  go_wp2_with fail
  refine (PT1.out _ (HL.out.on B4.out).1).mono ?_; rintro e w5 ⟨rfl, hb⟩
  have B5 : RowKit.Hid (Below w.heap.size w w5) := Lib.hid (btr B4.out hb)
  have C0_5 : RowKit.Hid (Below U.heap.size U w5) := Lib.hid (btr C0_4.out hb)
  have C1_5 : RowKit.Hid (Below U.heap.size U w5) := Lib.hid (btr C1_4.out hb)
  have C2_5 : RowKit.Hid (Below (w4.alloc (.cells #[.int .i64 0, .int .i64 0] 23)).heap.size (w4.alloc (.cells #[.int .i64 0, .int .i64 0] 23)) w5) := Lib.hid (btr C2_4.out hb)
  clear f4_0_0 f4_0_1 f4_1_0 f4_1_1 f4_2_0 f4_2_1 hb
  obtain ⟨f5_0_0, f5_0_1⟩ := KK0.out w5 C0_5.out
  obtain ⟨f5_1_0, f5_1_1⟩ := KK1.out w5 C1_5.out
  obtain ⟨f5_2_0, f5_2_1⟩ := KK2.out w5 C2_5.out
  go_wp2_with fail
  refine (PA2.out _).mono ?_; rintro e w6 ⟨rfl, hb⟩
  have B6 : RowKit.Hid (Below w.heap.size w (w6.alloc (.cells #[.int .i64 A, .int .i64 P] 25))) := Lib.hid (bal (btr B5.out hb) _)
  have C0_6 : RowKit.Hid (Below U.heap.size U (w6.alloc (.cells #[.int .i64 A, .int .i64 P] 25))) := Lib.hid (bal (btr C0_5.out hb) _)
  have C1_6 : RowKit.Hid (Below U.heap.size U (w6.alloc (.cells #[.int .i64 A, .int .i64 P] 25))) := Lib.hid (bal (btr C1_5.out hb) _)
  have C2_6 : RowKit.Hid (Below (w4.alloc (.cells #[.int .i64 0, .int .i64 0] 23)).heap.size (w4.alloc (.cells #[.int .i64 0, .int .i64 0] 23)) (w6.alloc (.cells #[.int .i64 A, .int .i64 P] 25))) := Lib.hid (bal (btr C2_5.out hb) _)
  clear f5_0_0 f5_0_1 f5_1_0 f5_1_1 f5_2_0 f5_2_1 hb
  obtain ⟨f6_0_0, f6_0_1⟩ := KK0.out (w6.alloc (.cells #[.int .i64 A, .int .i64 P] 25)) C0_6.out
  obtain ⟨f6_1_0, f6_1_1⟩ := KK1.out (w6.alloc (.cells #[.int .i64 A, .int .i64 P] 25)) C1_6.out
  obtain ⟨f6_2_0, f6_2_1⟩ := KK2.out (w6.alloc (.cells #[.int .i64 A, .int .i64 P] 25)) C2_6.out
  have f6_3_0 : (w6.alloc (.cells #[.int .i64 A, .int .i64 P] 25)).cell? ⟨w6.heap.size, 0, none⟩ = some (.int .i64 A) := by go_simp
  have f6_3_1 : (w6.alloc (.cells #[.int .i64 A, .int .i64 P] 25)).cell? ⟨w6.heap.size, 1, none⟩ = some (.int .i64 P) := by go_simp
  have KK3 := Lib.hid (show ∀ W, Below (w6.alloc (.cells #[.int .i64 A, .int .i64 P] 25)).heap.size (w6.alloc (.cells #[.int .i64 A, .int .i64 P] 25)) W → W.cell? ⟨w6.heap.size, 0, none⟩ = some (.int .i64 A) ∧ W.cell? ⟨w6.heap.size, 1, none⟩ = some (.int .i64 P) from fun W h => ⟨(h.cell (p := ⟨w6.heap.size, 0, none⟩) (blt f6_3_0)).trans f6_3_0, (h.cell (p := ⟨w6.heap.size, 1, none⟩) (blt f6_3_1)).trans f6_3_1⟩)
  have C3_6 := Lib.hid (Below.refl (w6.alloc (.cells #[.int .i64 A, .int .i64 P] 25)).heap.size (w6.alloc (.cells #[.int .i64 A, .int .i64 P] 25)))
  go_wp2_with fail
  refine (PA3.out _ (HL.out.on B6.out).2).mono ?_; rintro e w7 ⟨rfl, hb⟩
  have B7 : RowKit.Hid (Below w.heap.size w (w7.alloc (.cells #[.int .i64 c0, .int .i64 c1] 23))) := Lib.hid (bal (btr B6.out hb) _)
  have C0_7 : RowKit.Hid (Below U.heap.size U (w7.alloc (.cells #[.int .i64 c0, .int .i64 c1] 23))) := Lib.hid (bal (btr C0_6.out hb) _)
  have C1_7 : RowKit.Hid (Below U.heap.size U (w7.alloc (.cells #[.int .i64 c0, .int .i64 c1] 23))) := Lib.hid (bal (btr C1_6.out hb) _)
  have C2_7 : RowKit.Hid (Below (w4.alloc (.cells #[.int .i64 0, .int .i64 0] 23)).heap.size (w4.alloc (.cells #[.int .i64 0, .int .i64 0] 23)) (w7.alloc (.cells #[.int .i64 c0, .int .i64 c1] 23))) := Lib.hid (bal (btr C2_6.out hb) _)
  have C3_7 : RowKit.Hid (Below (w6.alloc (.cells #[.int .i64 A, .int .i64 P] 25)).heap.size (w6.alloc (.cells #[.int .i64 A, .int .i64 P] 25)) (w7.alloc (.cells #[.int .i64 c0, .int .i64 c1] 23))) := Lib.hid (bal (btr C3_6.out hb) _)
  clear f6_0_0 f6_0_1 f6_1_0 f6_1_1 f6_2_0 f6_2_1 f6_3_0 f6_3_1 hb
  obtain ⟨f7_0_0, f7_0_1⟩ := KK0.out (w7.alloc (.cells #[.int .i64 c0, .int .i64 c1] 23)) C0_7.out
  obtain ⟨f7_1_0, f7_1_1⟩ := KK1.out (w7.alloc (.cells #[.int .i64 c0, .int .i64 c1] 23)) C1_7.out
  obtain ⟨f7_2_0, f7_2_1⟩ := KK2.out (w7.alloc (.cells #[.int .i64 c0, .int .i64 c1] 23)) C2_7.out
  obtain ⟨f7_3_0, f7_3_1⟩ := KK3.out (w7.alloc (.cells #[.int .i64 c0, .int .i64 c1] 23)) C3_7.out
  have f7_4_0 : (w7.alloc (.cells #[.int .i64 c0, .int .i64 c1] 23)).cell? ⟨w7.heap.size, 0, none⟩ = some (.int .i64 c0) := by go_simp
  have f7_4_1 : (w7.alloc (.cells #[.int .i64 c0, .int .i64 c1] 23)).cell? ⟨w7.heap.size, 1, none⟩ = some (.int .i64 c1) := by go_simp
  have KK4 := Lib.hid (show ∀ W, Below (w7.alloc (.cells #[.int .i64 c0, .int .i64 c1] 23)).heap.size (w7.alloc (.cells #[.int .i64 c0, .int .i64 c1] 23)) W → W.cell? ⟨w7.heap.size, 0, none⟩ = some (.int .i64 c0) ∧ W.cell? ⟨w7.heap.size, 1, none⟩ = some (.int .i64 c1) from fun W h => ⟨(h.cell (p := ⟨w7.heap.size, 0, none⟩) (blt f7_4_0)).trans f7_4_0, (h.cell (p := ⟨w7.heap.size, 1, none⟩) (blt f7_4_1)).trans f7_4_1⟩)
  have C4_7 := Lib.hid (Below.refl (w7.alloc (.cells #[.int .i64 c0, .int .i64 c1] 23)).heap.size (w7.alloc (.cells #[.int .i64 c0, .int .i64 c1] 23)))
  go_wp2_with fail
  refine (PR2.out _ (HL.out.on B7.out).1).mono ?_; rintro e w8 ⟨rfl, hb⟩
  have B8 : RowKit.Hid (Below w.heap.size w w8) := Lib.hid (btr B7.out hb)
  have C0_8 : RowKit.Hid (Below U.heap.size U w8) := Lib.hid (btr C0_7.out hb)
  have C1_8 : RowKit.Hid (Below U.heap.size U w8) := Lib.hid (btr C1_7.out hb)
  have C2_8 : RowKit.Hid (Below (w4.alloc (.cells #[.int .i64 0, .int .i64 0] 23)).heap.size (w4.alloc (.cells #[.int .i64 0, .int .i64 0] 23)) w8) := Lib.hid (btr C2_7.out hb)
  have C3_8 : RowKit.Hid (Below (w6.alloc (.cells #[.int .i64 A, .int .i64 P] 25)).heap.size (w6.alloc (.cells #[.int .i64 A, .int .i64 P] 25)) w8) := Lib.hid (btr C3_7.out hb)
  have C4_8 : RowKit.Hid (Below (w7.alloc (.cells #[.int .i64 c0, .int .i64 c1] 23)).heap.size (w7.alloc (.cells #[.int .i64 c0, .int .i64 c1] 23)) w8) := Lib.hid (btr C4_7.out hb)
  clear f7_0_0 f7_0_1 f7_1_0 f7_1_1 f7_2_0 f7_2_1 f7_3_0 f7_3_1 f7_4_0 f7_4_1 hb
  obtain ⟨f8_0_0, f8_0_1⟩ := KK0.out w8 C0_8.out
  obtain ⟨f8_1_0, f8_1_1⟩ := KK1.out w8 C1_8.out
  obtain ⟨f8_2_0, f8_2_1⟩ := KK2.out w8 C2_8.out
  obtain ⟨f8_3_0, f8_3_1⟩ := KK3.out w8 C3_8.out
  obtain ⟨f8_4_0, f8_4_1⟩ := KK4.out w8 C4_8.out
  go_wp2_with fail
  refine (PA4.out _).mono ?_; rintro e w9 ⟨rfl, hb⟩
  have B9 : RowKit.Hid (Below w.heap.size w (w9.alloc (.cells #[.int .i64 0, .int .i64 0] 25))) := Lib.hid (bal (btr B8.out hb) _)
  have C0_9 : RowKit.Hid (Below U.heap.size U (w9.alloc (.cells #[.int .i64 0, .int .i64 0] 25))) := Lib.hid (bal (btr C0_8.out hb) _)
  have C1_9 : RowKit.Hid (Below U.heap.size U (w9.alloc (.cells #[.int .i64 0, .int .i64 0] 25))) := Lib.hid (bal (btr C1_8.out hb) _)
  have C2_9 : RowKit.Hid (Below (w4.alloc (.cells #[.int .i64 0, .int .i64 0] 23)).heap.size (w4.alloc (.cells #[.int .i64 0, .int .i64 0] 23)) (w9.alloc (.cells #[.int .i64 0, .int .i64 0] 25))) := Lib.hid (bal (btr C2_8.out hb) _)
  have C3_9 : RowKit.Hid (Below (w6.alloc (.cells #[.int .i64 A, .int .i64 P] 25)).heap.size (w6.alloc (.cells #[.int .i64 A, .int .i64 P] 25)) (w9.alloc (.cells #[.int .i64 0, .int .i64 0] 25))) := Lib.hid (bal (btr C3_8.out hb) _)
  have C4_9 : RowKit.Hid (Below (w7.alloc (.cells #[.int .i64 c0, .int .i64 c1] 23)).heap.size (w7.alloc (.cells #[.int .i64 c0, .int .i64 c1] 23)) (w9.alloc (.cells #[.int .i64 0, .int .i64 0] 25))) := Lib.hid (bal (btr C4_8.out hb) _)
  clear f8_0_0 f8_0_1 f8_1_0 f8_1_1 f8_2_0 f8_2_1 f8_3_0 f8_3_1 f8_4_0 f8_4_1 hb
  obtain ⟨f9_0_0, f9_0_1⟩ := KK0.out (w9.alloc (.cells #[.int .i64 0, .int .i64 0] 25)) C0_9.out
  obtain ⟨f9_1_0, f9_1_1⟩ := KK1.out (w9.alloc (.cells #[.int .i64 0, .int .i64 0] 25)) C1_9.out
  obtain ⟨f9_2_0, f9_2_1⟩ := KK2.out (w9.alloc (.cells #[.int .i64 0, .int .i64 0] 25)) C2_9.out
  obtain ⟨f9_3_0, f9_3_1⟩ := KK3.out (w9.alloc (.cells #[.int .i64 0, .int .i64 0] 25)) C3_9.out
  obtain ⟨f9_4_0, f9_4_1⟩ := KK4.out (w9.alloc (.cells #[.int .i64 0, .int .i64 0] 25)) C4_9.out
  have f9_5_0 : (w9.alloc (.cells #[.int .i64 0, .int .i64 0] 25)).cell? ⟨w9.heap.size, 0, none⟩ = some (.int .i64 0) := by go_simp
  have f9_5_1 : (w9.alloc (.cells #[.int .i64 0, .int .i64 0] 25)).cell? ⟨w9.heap.size, 1, none⟩ = some (.int .i64 0) := by go_simp
  have KK5 := Lib.hid (show ∀ W, Below (w9.alloc (.cells #[.int .i64 0, .int .i64 0] 25)).heap.size (w9.alloc (.cells #[.int .i64 0, .int .i64 0] 25)) W → W.cell? ⟨w9.heap.size, 0, none⟩ = some (.int .i64 0) ∧ W.cell? ⟨w9.heap.size, 1, none⟩ = some (.int .i64 0) from fun W h => ⟨(h.cell (p := ⟨w9.heap.size, 0, none⟩) (blt f9_5_0)).trans f9_5_0, (h.cell (p := ⟨w9.heap.size, 1, none⟩) (blt f9_5_1)).trans f9_5_1⟩)
  have C5_9 := Lib.hid (Below.refl (w9.alloc (.cells #[.int .i64 0, .int .i64 0] 25)).heap.size (w9.alloc (.cells #[.int .i64 0, .int .i64 0] 25)))
  go_wp2_with fail
  refine (PT2.out _ (HL.out.on B9.out).1).mono ?_; rintro e w10 ⟨rfl, hb⟩
  have B10 : RowKit.Hid (Below w.heap.size w w10) := Lib.hid (btr B9.out hb)
  have C0_10 : RowKit.Hid (Below U.heap.size U w10) := Lib.hid (btr C0_9.out hb)
  have C1_10 : RowKit.Hid (Below U.heap.size U w10) := Lib.hid (btr C1_9.out hb)
  have C2_10 : RowKit.Hid (Below (w4.alloc (.cells #[.int .i64 0, .int .i64 0] 23)).heap.size (w4.alloc (.cells #[.int .i64 0, .int .i64 0] 23)) w10) := Lib.hid (btr C2_9.out hb)
  have C3_10 : RowKit.Hid (Below (w6.alloc (.cells #[.int .i64 A, .int .i64 P] 25)).heap.size (w6.alloc (.cells #[.int .i64 A, .int .i64 P] 25)) w10) := Lib.hid (btr C3_9.out hb)
  have C4_10 : RowKit.Hid (Below (w7.alloc (.cells #[.int .i64 c0, .int .i64 c1] 23)).heap.size (w7.alloc (.cells #[.int .i64 c0, .int .i64 c1] 23)) w10) := Lib.hid (btr C4_9.out hb)
  have C5_10 : RowKit.Hid (Below (w9.alloc (.cells #[.int .i64 0, .int .i64 0] 25)).heap.size (w9.alloc (.cells #[.int .i64 0, .int .i64 0] 25)) w10) := Lib.hid (btr C5_9.out hb)
  clear f9_0_0 f9_0_1 f9_1_0 f9_1_1 f9_2_0 f9_2_1 f9_3_0 f9_3_1 f9_4_0 f9_4_1 f9_5_0 f9_5_1 hb
  obtain ⟨f10_0_0, f10_0_1⟩ := KK0.out w10 C0_10.out
  obtain ⟨f10_1_0, f10_1_1⟩ := KK1.out w10 C1_10.out
  obtain ⟨f10_2_0, f10_2_1⟩ := KK2.out w10 C2_10.out
  obtain ⟨f10_3_0, f10_3_1⟩ := KK3.out w10 C3_10.out
  obtain ⟨f10_4_0, f10_4_1⟩ := KK4.out w10 C4_10.out
  obtain ⟨f10_5_0, f10_5_1⟩ := KK5.out w10 C5_10.out
  go_wp2_with fail
  refine (R1.out _).mono ?_; rintro e w11 ⟨rfl, hb⟩
  have B11 : RowKit.Hid (Below w.heap.size w w11) := Lib.hid (btr B10.out hb)
  have C0_11 : RowKit.Hid (Below U.heap.size U w11) := Lib.hid (btr C0_10.out hb)
  have C1_11 : RowKit.Hid (Below U.heap.size U w11) := Lib.hid (btr C1_10.out hb)
  have C2_11 : RowKit.Hid (Below (w4.alloc (.cells #[.int .i64 0, .int .i64 0] 23)).heap.size (w4.alloc (.cells #[.int .i64 0, .int .i64 0] 23)) w11) := Lib.hid (btr C2_10.out hb)
  have C3_11 : RowKit.Hid (Below (w6.alloc (.cells #[.int .i64 A, .int .i64 P] 25)).heap.size (w6.alloc (.cells #[.int .i64 A, .int .i64 P] 25)) w11) := Lib.hid (btr C3_10.out hb)
  have C4_11 : RowKit.Hid (Below (w7.alloc (.cells #[.int .i64 c0, .int .i64 c1] 23)).heap.size (w7.alloc (.cells #[.int .i64 c0, .int .i64 c1] 23)) w11) := Lib.hid (btr C4_10.out hb)
  have C5_11 : RowKit.Hid (Below (w9.alloc (.cells #[.int .i64 0, .int .i64 0] 25)).heap.size (w9.alloc (.cells #[.int .i64 0, .int .i64 0] 25)) w11) := Lib.hid (btr C5_10.out hb)
  clear f10_0_0 f10_0_1 f10_1_0 f10_1_1 f10_2_0 f10_2_1 f10_3_0 f10_3_1 f10_4_0 f10_4_1 f10_5_0 f10_5_1 hb
  obtain ⟨f11_0_0, f11_0_1⟩ := KK0.out w11 C0_11.out
  obtain ⟨f11_1_0, f11_1_1⟩ := KK1.out w11 C1_11.out
  obtain ⟨f11_2_0, f11_2_1⟩ := KK2.out w11 C2_11.out
  obtain ⟨f11_3_0, f11_3_1⟩ := KK3.out w11 C3_11.out
  obtain ⟨f11_4_0, f11_4_1⟩ := KK4.out w11 C4_11.out
  obtain ⟨f11_5_0, f11_5_1⟩ := KK5.out w11 C5_11.out
  go_wp2
  go_ret
  exact ⟨ret_bool (by first | rfl | (simp <;> omega)), B11.out⟩

set_option maxRecDepth 100000 in
set_option maxHeartbeats 4000000 in
theorem backL_ntb (F T A P d0 d1 : Int) (s0 S sa sb : ByteArray) (w : World) (hL : Laid w)
    (S0 : Hid (∀ W, Laid W → Calls Tryd.prog 6 #[] W fun x w' => x = .returned (.bool true) ∧ Below W.heap.size W w'))
    (CU : Hid (∀ W, Calls Tryd.prog 7 #[.string s0] W fun x w' => x = .returned (.string S) ∧ Below W.heap.size W w'))
    (PR1 : Hid (∀ W, Tabs W → Calls Tryd.prog 8 #[.agg #[.int .i64 F, .int .i64 T]] W fun x w' => x = .returned (.tuple #[.string sa, .int .i64 70]) ∧ Below W.heap.size W w'))
    (PA1 : Hid (∀ W, ErrT W → Calls Tryd.prog 9 #[.string sa] W fun x w' => x = .returned (.tuple #[.agg #[.int .i64 0, .int .i64 0], .int .i64 70]) ∧ Below W.heap.size W w'))
    (PT1 : Hid (∀ W, Tabs W → Calls Tryd.prog 10 #[.agg #[.int .i64 A, .int .i64 P]] W fun x w' => x = .returned (.tuple #[.string sb, .int .i64 0]) ∧ Below W.heap.size W w'))
    (PA2 : Hid (∀ W, Calls Tryd.prog 11 #[.string sb] W fun x w' => x = .returned (.tuple #[.agg #[.int .i64 A, .int .i64 P], .int .i64 0]) ∧ Below W.heap.size W w'))
    (PA3 : Hid (∀ W, ErrT W → Calls Tryd.prog 9 #[.string S] W fun x w' => x = .returned (.tuple #[.agg #[.int .i64 0, .int .i64 0], .int .i64 70]) ∧ Below W.heap.size W w'))
    (PR2 : Hid (∀ W, Tabs W → Calls Tryd.prog 8 #[.agg #[.int .i64 0, .int .i64 0]] W fun x w' => x = .returned (.tuple #[.string ⟨#[48]⟩, .int .i64 0]) ∧ Below W.heap.size W w'))
    (PA4 : Hid (∀ W, Calls Tryd.prog 11 #[.string S] W fun x w' => x = .returned (.tuple #[.agg #[.int .i64 d0, .int .i64 d1], .int .i64 0]) ∧ Below W.heap.size W w'))
    (PT2 : Hid (∀ W, Tabs W → Calls Tryd.prog 10 #[.agg #[.int .i64 d0, .int .i64 d1]] W fun x w' => x = .returned (.tuple #[.string S, .int .i64 0]) ∧ Below W.heap.size W w'))
    (R1 : Hid (∀ W, Calls Tryd.prog 12 #[.agg #[.int .i64 F, .int .i64 T]] W fun x w' => x = .returned (.bool false) ∧ Below W.heap.size W w'))
    : Calls Tryd.prog 3 #[.agg #[.int .i64 F, .int .i64 T], .agg #[.int .i64 A, .int .i64 P], .string s0] w fun x w' => x = .returned (.bool true) ∧ Below w.heap.size w w' := by
  have HL := Lib.hid hL
  clear hL
  go_enter Tryd.func3, Tryd.ntmps3
  go_wp2_with fail
  have x0_0 : ((w.alloc (.cells #[.int .i64 F, .int .i64 T] 23)).alloc (.cells #[.int .i64 A, .int .i64 P] 25)).cell? ⟨w.heap.size, 0, none⟩ = some (.int .i64 F) := by go_simp
  have x0_1 : ((w.alloc (.cells #[.int .i64 F, .int .i64 T] 23)).alloc (.cells #[.int .i64 A, .int .i64 P] 25)).cell? ⟨w.heap.size, 1, none⟩ = some (.int .i64 T) := by go_simp
  have x1_0 : ((w.alloc (.cells #[.int .i64 F, .int .i64 T] 23)).alloc (.cells #[.int .i64 A, .int .i64 P] 25)).cell? ⟨w.heap.size + 1, 0, none⟩ = some (.int .i64 A) := by go_simp
  have x1_1 : ((w.alloc (.cells #[.int .i64 F, .int .i64 T] 23)).alloc (.cells #[.int .i64 A, .int .i64 P] 25)).cell? ⟨w.heap.size + 1, 1, none⟩ = some (.int .i64 P) := by go_simp
  have B0 : Below w.heap.size w ((w.alloc (.cells #[.int .i64 F, .int .i64 T] 23)).alloc (.cells #[.int .i64 A, .int .i64 P] 25)) := (bal ((bal (Below.refl _ w) _)) _)
  generalize ((w.alloc (.cells #[.int .i64 F, .int .i64 T] 23)).alloc (.cells #[.int .i64 A, .int .i64 P] 25)) = U at *
  have KK0 := Lib.hid (show ∀ W, Below U.heap.size U W → W.cell? ⟨w.heap.size, 0, none⟩ = some (.int .i64 F) ∧ W.cell? ⟨w.heap.size, 1, none⟩ = some (.int .i64 T) from fun W h => ⟨(h.cell (p := ⟨w.heap.size, 0, none⟩) (blt x0_0)).trans x0_0, (h.cell (p := ⟨w.heap.size, 1, none⟩) (blt x0_1)).trans x0_1⟩)
  have KK1 := Lib.hid (show ∀ W, Below U.heap.size U W → W.cell? ⟨w.heap.size + 1, 0, none⟩ = some (.int .i64 A) ∧ W.cell? ⟨w.heap.size + 1, 1, none⟩ = some (.int .i64 P) from fun W h => ⟨(h.cell (p := ⟨w.heap.size + 1, 0, none⟩) (blt x1_0)).trans x1_0, (h.cell (p := ⟨w.heap.size + 1, 1, none⟩) (blt x1_1)).trans x1_1⟩)
  have C0_0 := Lib.hid (Below.refl U.heap.size U)
  have C1_0 := Lib.hid (Below.refl U.heap.size U)
  replace B0 := Lib.hid B0
  refine (S0.out _ (HL.out.on B0.out)).mono ?_; rintro e w1 ⟨rfl, hb⟩
  have B1 : RowKit.Hid (Below w.heap.size w w1) := Lib.hid (btr B0.out hb)
  have C0_1 : RowKit.Hid (Below U.heap.size U w1) := Lib.hid (btr C0_0.out hb)
  have C1_1 : RowKit.Hid (Below U.heap.size U w1) := Lib.hid (btr C1_0.out hb)
  clear x0_0 x0_1 x1_0 x1_1 hb
  obtain ⟨f1_0_0, f1_0_1⟩ := KK0.out w1 C0_1.out
  obtain ⟨f1_1_0, f1_1_1⟩ := KK1.out w1 C1_1.out
  go_wp2_with fail
  refine (CU.out _).mono ?_; rintro e w2 ⟨rfl, hb⟩
  have B2 : RowKit.Hid (Below w.heap.size w w2) := Lib.hid (btr B1.out hb)
  have C0_2 : RowKit.Hid (Below U.heap.size U w2) := Lib.hid (btr C0_1.out hb)
  have C1_2 : RowKit.Hid (Below U.heap.size U w2) := Lib.hid (btr C1_1.out hb)
  clear f1_0_0 f1_0_1 f1_1_0 f1_1_1 hb
  obtain ⟨f2_0_0, f2_0_1⟩ := KK0.out w2 C0_2.out
  obtain ⟨f2_1_0, f2_1_1⟩ := KK1.out w2 C1_2.out
  go_wp2_with fail
  refine (PR1.out _ (HL.out.on B2.out).1).mono ?_; rintro e w3 ⟨rfl, hb⟩
  have B3 : RowKit.Hid (Below w.heap.size w w3) := Lib.hid (btr B2.out hb)
  have C0_3 : RowKit.Hid (Below U.heap.size U w3) := Lib.hid (btr C0_2.out hb)
  have C1_3 : RowKit.Hid (Below U.heap.size U w3) := Lib.hid (btr C1_2.out hb)
  clear f2_0_0 f2_0_1 f2_1_0 f2_1_1 hb
  obtain ⟨f3_0_0, f3_0_1⟩ := KK0.out w3 C0_3.out
  obtain ⟨f3_1_0, f3_1_1⟩ := KK1.out w3 C1_3.out
  go_wp2_with fail
  refine (PA1.out _ (HL.out.on B3.out).2).mono ?_; rintro e w4 ⟨rfl, hb⟩
  have B4 : RowKit.Hid (Below w.heap.size w (w4.alloc (.cells #[.int .i64 0, .int .i64 0] 23))) := Lib.hid (bal (btr B3.out hb) _)
  have C0_4 : RowKit.Hid (Below U.heap.size U (w4.alloc (.cells #[.int .i64 0, .int .i64 0] 23))) := Lib.hid (bal (btr C0_3.out hb) _)
  have C1_4 : RowKit.Hid (Below U.heap.size U (w4.alloc (.cells #[.int .i64 0, .int .i64 0] 23))) := Lib.hid (bal (btr C1_3.out hb) _)
  clear f3_0_0 f3_0_1 f3_1_0 f3_1_1 hb
  obtain ⟨f4_0_0, f4_0_1⟩ := KK0.out (w4.alloc (.cells #[.int .i64 0, .int .i64 0] 23)) C0_4.out
  obtain ⟨f4_1_0, f4_1_1⟩ := KK1.out (w4.alloc (.cells #[.int .i64 0, .int .i64 0] 23)) C1_4.out
  have f4_2_0 : (w4.alloc (.cells #[.int .i64 0, .int .i64 0] 23)).cell? ⟨w4.heap.size, 0, none⟩ = some (.int .i64 0) := by go_simp
  have f4_2_1 : (w4.alloc (.cells #[.int .i64 0, .int .i64 0] 23)).cell? ⟨w4.heap.size, 1, none⟩ = some (.int .i64 0) := by go_simp
  have KK2 := Lib.hid (show ∀ W, Below (w4.alloc (.cells #[.int .i64 0, .int .i64 0] 23)).heap.size (w4.alloc (.cells #[.int .i64 0, .int .i64 0] 23)) W → W.cell? ⟨w4.heap.size, 0, none⟩ = some (.int .i64 0) ∧ W.cell? ⟨w4.heap.size, 1, none⟩ = some (.int .i64 0) from fun W h => ⟨(h.cell (p := ⟨w4.heap.size, 0, none⟩) (blt f4_2_0)).trans f4_2_0, (h.cell (p := ⟨w4.heap.size, 1, none⟩) (blt f4_2_1)).trans f4_2_1⟩)
  have C2_4 := Lib.hid (Below.refl (w4.alloc (.cells #[.int .i64 0, .int .i64 0] 23)).heap.size (w4.alloc (.cells #[.int .i64 0, .int .i64 0] 23)))
  go_wp2_with fail
  refine (PT1.out _ (HL.out.on B4.out).1).mono ?_; rintro e w5 ⟨rfl, hb⟩
  have B5 : RowKit.Hid (Below w.heap.size w w5) := Lib.hid (btr B4.out hb)
  have C0_5 : RowKit.Hid (Below U.heap.size U w5) := Lib.hid (btr C0_4.out hb)
  have C1_5 : RowKit.Hid (Below U.heap.size U w5) := Lib.hid (btr C1_4.out hb)
  have C2_5 : RowKit.Hid (Below (w4.alloc (.cells #[.int .i64 0, .int .i64 0] 23)).heap.size (w4.alloc (.cells #[.int .i64 0, .int .i64 0] 23)) w5) := Lib.hid (btr C2_4.out hb)
  clear f4_0_0 f4_0_1 f4_1_0 f4_1_1 f4_2_0 f4_2_1 hb
  obtain ⟨f5_0_0, f5_0_1⟩ := KK0.out w5 C0_5.out
  obtain ⟨f5_1_0, f5_1_1⟩ := KK1.out w5 C1_5.out
  obtain ⟨f5_2_0, f5_2_1⟩ := KK2.out w5 C2_5.out
  go_wp2_with fail
  refine (PA2.out _).mono ?_; rintro e w6 ⟨rfl, hb⟩
  have B6 : RowKit.Hid (Below w.heap.size w (w6.alloc (.cells #[.int .i64 A, .int .i64 P] 25))) := Lib.hid (bal (btr B5.out hb) _)
  have C0_6 : RowKit.Hid (Below U.heap.size U (w6.alloc (.cells #[.int .i64 A, .int .i64 P] 25))) := Lib.hid (bal (btr C0_5.out hb) _)
  have C1_6 : RowKit.Hid (Below U.heap.size U (w6.alloc (.cells #[.int .i64 A, .int .i64 P] 25))) := Lib.hid (bal (btr C1_5.out hb) _)
  have C2_6 : RowKit.Hid (Below (w4.alloc (.cells #[.int .i64 0, .int .i64 0] 23)).heap.size (w4.alloc (.cells #[.int .i64 0, .int .i64 0] 23)) (w6.alloc (.cells #[.int .i64 A, .int .i64 P] 25))) := Lib.hid (bal (btr C2_5.out hb) _)
  clear f5_0_0 f5_0_1 f5_1_0 f5_1_1 f5_2_0 f5_2_1 hb
  obtain ⟨f6_0_0, f6_0_1⟩ := KK0.out (w6.alloc (.cells #[.int .i64 A, .int .i64 P] 25)) C0_6.out
  obtain ⟨f6_1_0, f6_1_1⟩ := KK1.out (w6.alloc (.cells #[.int .i64 A, .int .i64 P] 25)) C1_6.out
  obtain ⟨f6_2_0, f6_2_1⟩ := KK2.out (w6.alloc (.cells #[.int .i64 A, .int .i64 P] 25)) C2_6.out
  have f6_3_0 : (w6.alloc (.cells #[.int .i64 A, .int .i64 P] 25)).cell? ⟨w6.heap.size, 0, none⟩ = some (.int .i64 A) := by go_simp
  have f6_3_1 : (w6.alloc (.cells #[.int .i64 A, .int .i64 P] 25)).cell? ⟨w6.heap.size, 1, none⟩ = some (.int .i64 P) := by go_simp
  have KK3 := Lib.hid (show ∀ W, Below (w6.alloc (.cells #[.int .i64 A, .int .i64 P] 25)).heap.size (w6.alloc (.cells #[.int .i64 A, .int .i64 P] 25)) W → W.cell? ⟨w6.heap.size, 0, none⟩ = some (.int .i64 A) ∧ W.cell? ⟨w6.heap.size, 1, none⟩ = some (.int .i64 P) from fun W h => ⟨(h.cell (p := ⟨w6.heap.size, 0, none⟩) (blt f6_3_0)).trans f6_3_0, (h.cell (p := ⟨w6.heap.size, 1, none⟩) (blt f6_3_1)).trans f6_3_1⟩)
  have C3_6 := Lib.hid (Below.refl (w6.alloc (.cells #[.int .i64 A, .int .i64 P] 25)).heap.size (w6.alloc (.cells #[.int .i64 A, .int .i64 P] 25)))
  go_wp2_with fail
  refine (PA3.out _ (HL.out.on B6.out).2).mono ?_; rintro e w7 ⟨rfl, hb⟩
  have B7 : RowKit.Hid (Below w.heap.size w (w7.alloc (.cells #[.int .i64 0, .int .i64 0] 23))) := Lib.hid (bal (btr B6.out hb) _)
  have C0_7 : RowKit.Hid (Below U.heap.size U (w7.alloc (.cells #[.int .i64 0, .int .i64 0] 23))) := Lib.hid (bal (btr C0_6.out hb) _)
  have C1_7 : RowKit.Hid (Below U.heap.size U (w7.alloc (.cells #[.int .i64 0, .int .i64 0] 23))) := Lib.hid (bal (btr C1_6.out hb) _)
  have C2_7 : RowKit.Hid (Below (w4.alloc (.cells #[.int .i64 0, .int .i64 0] 23)).heap.size (w4.alloc (.cells #[.int .i64 0, .int .i64 0] 23)) (w7.alloc (.cells #[.int .i64 0, .int .i64 0] 23))) := Lib.hid (bal (btr C2_6.out hb) _)
  have C3_7 : RowKit.Hid (Below (w6.alloc (.cells #[.int .i64 A, .int .i64 P] 25)).heap.size (w6.alloc (.cells #[.int .i64 A, .int .i64 P] 25)) (w7.alloc (.cells #[.int .i64 0, .int .i64 0] 23))) := Lib.hid (bal (btr C3_6.out hb) _)
  clear f6_0_0 f6_0_1 f6_1_0 f6_1_1 f6_2_0 f6_2_1 f6_3_0 f6_3_1 hb
  obtain ⟨f7_0_0, f7_0_1⟩ := KK0.out (w7.alloc (.cells #[.int .i64 0, .int .i64 0] 23)) C0_7.out
  obtain ⟨f7_1_0, f7_1_1⟩ := KK1.out (w7.alloc (.cells #[.int .i64 0, .int .i64 0] 23)) C1_7.out
  obtain ⟨f7_2_0, f7_2_1⟩ := KK2.out (w7.alloc (.cells #[.int .i64 0, .int .i64 0] 23)) C2_7.out
  obtain ⟨f7_3_0, f7_3_1⟩ := KK3.out (w7.alloc (.cells #[.int .i64 0, .int .i64 0] 23)) C3_7.out
  have f7_4_0 : (w7.alloc (.cells #[.int .i64 0, .int .i64 0] 23)).cell? ⟨w7.heap.size, 0, none⟩ = some (.int .i64 0) := by go_simp
  have f7_4_1 : (w7.alloc (.cells #[.int .i64 0, .int .i64 0] 23)).cell? ⟨w7.heap.size, 1, none⟩ = some (.int .i64 0) := by go_simp
  have KK4 := Lib.hid (show ∀ W, Below (w7.alloc (.cells #[.int .i64 0, .int .i64 0] 23)).heap.size (w7.alloc (.cells #[.int .i64 0, .int .i64 0] 23)) W → W.cell? ⟨w7.heap.size, 0, none⟩ = some (.int .i64 0) ∧ W.cell? ⟨w7.heap.size, 1, none⟩ = some (.int .i64 0) from fun W h => ⟨(h.cell (p := ⟨w7.heap.size, 0, none⟩) (blt f7_4_0)).trans f7_4_0, (h.cell (p := ⟨w7.heap.size, 1, none⟩) (blt f7_4_1)).trans f7_4_1⟩)
  have C4_7 := Lib.hid (Below.refl (w7.alloc (.cells #[.int .i64 0, .int .i64 0] 23)).heap.size (w7.alloc (.cells #[.int .i64 0, .int .i64 0] 23)))
  go_wp2_with fail
  refine (PR2.out _ (HL.out.on B7.out).1).mono ?_; rintro e w8 ⟨rfl, hb⟩
  have B8 : RowKit.Hid (Below w.heap.size w w8) := Lib.hid (btr B7.out hb)
  have C0_8 : RowKit.Hid (Below U.heap.size U w8) := Lib.hid (btr C0_7.out hb)
  have C1_8 : RowKit.Hid (Below U.heap.size U w8) := Lib.hid (btr C1_7.out hb)
  have C2_8 : RowKit.Hid (Below (w4.alloc (.cells #[.int .i64 0, .int .i64 0] 23)).heap.size (w4.alloc (.cells #[.int .i64 0, .int .i64 0] 23)) w8) := Lib.hid (btr C2_7.out hb)
  have C3_8 : RowKit.Hid (Below (w6.alloc (.cells #[.int .i64 A, .int .i64 P] 25)).heap.size (w6.alloc (.cells #[.int .i64 A, .int .i64 P] 25)) w8) := Lib.hid (btr C3_7.out hb)
  have C4_8 : RowKit.Hid (Below (w7.alloc (.cells #[.int .i64 0, .int .i64 0] 23)).heap.size (w7.alloc (.cells #[.int .i64 0, .int .i64 0] 23)) w8) := Lib.hid (btr C4_7.out hb)
  clear f7_0_0 f7_0_1 f7_1_0 f7_1_1 f7_2_0 f7_2_1 f7_3_0 f7_3_1 f7_4_0 f7_4_1 hb
  obtain ⟨f8_0_0, f8_0_1⟩ := KK0.out w8 C0_8.out
  obtain ⟨f8_1_0, f8_1_1⟩ := KK1.out w8 C1_8.out
  obtain ⟨f8_2_0, f8_2_1⟩ := KK2.out w8 C2_8.out
  obtain ⟨f8_3_0, f8_3_1⟩ := KK3.out w8 C3_8.out
  obtain ⟨f8_4_0, f8_4_1⟩ := KK4.out w8 C4_8.out
  go_wp2_with fail
  refine (PA4.out _).mono ?_; rintro e w9 ⟨rfl, hb⟩
  have B9 : RowKit.Hid (Below w.heap.size w (w9.alloc (.cells #[.int .i64 d0, .int .i64 d1] 25))) := Lib.hid (bal (btr B8.out hb) _)
  have C0_9 : RowKit.Hid (Below U.heap.size U (w9.alloc (.cells #[.int .i64 d0, .int .i64 d1] 25))) := Lib.hid (bal (btr C0_8.out hb) _)
  have C1_9 : RowKit.Hid (Below U.heap.size U (w9.alloc (.cells #[.int .i64 d0, .int .i64 d1] 25))) := Lib.hid (bal (btr C1_8.out hb) _)
  have C2_9 : RowKit.Hid (Below (w4.alloc (.cells #[.int .i64 0, .int .i64 0] 23)).heap.size (w4.alloc (.cells #[.int .i64 0, .int .i64 0] 23)) (w9.alloc (.cells #[.int .i64 d0, .int .i64 d1] 25))) := Lib.hid (bal (btr C2_8.out hb) _)
  have C3_9 : RowKit.Hid (Below (w6.alloc (.cells #[.int .i64 A, .int .i64 P] 25)).heap.size (w6.alloc (.cells #[.int .i64 A, .int .i64 P] 25)) (w9.alloc (.cells #[.int .i64 d0, .int .i64 d1] 25))) := Lib.hid (bal (btr C3_8.out hb) _)
  have C4_9 : RowKit.Hid (Below (w7.alloc (.cells #[.int .i64 0, .int .i64 0] 23)).heap.size (w7.alloc (.cells #[.int .i64 0, .int .i64 0] 23)) (w9.alloc (.cells #[.int .i64 d0, .int .i64 d1] 25))) := Lib.hid (bal (btr C4_8.out hb) _)
  clear f8_0_0 f8_0_1 f8_1_0 f8_1_1 f8_2_0 f8_2_1 f8_3_0 f8_3_1 f8_4_0 f8_4_1 hb
  obtain ⟨f9_0_0, f9_0_1⟩ := KK0.out (w9.alloc (.cells #[.int .i64 d0, .int .i64 d1] 25)) C0_9.out
  obtain ⟨f9_1_0, f9_1_1⟩ := KK1.out (w9.alloc (.cells #[.int .i64 d0, .int .i64 d1] 25)) C1_9.out
  obtain ⟨f9_2_0, f9_2_1⟩ := KK2.out (w9.alloc (.cells #[.int .i64 d0, .int .i64 d1] 25)) C2_9.out
  obtain ⟨f9_3_0, f9_3_1⟩ := KK3.out (w9.alloc (.cells #[.int .i64 d0, .int .i64 d1] 25)) C3_9.out
  obtain ⟨f9_4_0, f9_4_1⟩ := KK4.out (w9.alloc (.cells #[.int .i64 d0, .int .i64 d1] 25)) C4_9.out
  have f9_5_0 : (w9.alloc (.cells #[.int .i64 d0, .int .i64 d1] 25)).cell? ⟨w9.heap.size, 0, none⟩ = some (.int .i64 d0) := by go_simp
  have f9_5_1 : (w9.alloc (.cells #[.int .i64 d0, .int .i64 d1] 25)).cell? ⟨w9.heap.size, 1, none⟩ = some (.int .i64 d1) := by go_simp
  have KK5 := Lib.hid (show ∀ W, Below (w9.alloc (.cells #[.int .i64 d0, .int .i64 d1] 25)).heap.size (w9.alloc (.cells #[.int .i64 d0, .int .i64 d1] 25)) W → W.cell? ⟨w9.heap.size, 0, none⟩ = some (.int .i64 d0) ∧ W.cell? ⟨w9.heap.size, 1, none⟩ = some (.int .i64 d1) from fun W h => ⟨(h.cell (p := ⟨w9.heap.size, 0, none⟩) (blt f9_5_0)).trans f9_5_0, (h.cell (p := ⟨w9.heap.size, 1, none⟩) (blt f9_5_1)).trans f9_5_1⟩)
  have C5_9 := Lib.hid (Below.refl (w9.alloc (.cells #[.int .i64 d0, .int .i64 d1] 25)).heap.size (w9.alloc (.cells #[.int .i64 d0, .int .i64 d1] 25)))
  go_wp2_with fail
  refine (PT2.out _ (HL.out.on B9.out).1).mono ?_; rintro e w10 ⟨rfl, hb⟩
  have B10 : RowKit.Hid (Below w.heap.size w w10) := Lib.hid (btr B9.out hb)
  have C0_10 : RowKit.Hid (Below U.heap.size U w10) := Lib.hid (btr C0_9.out hb)
  have C1_10 : RowKit.Hid (Below U.heap.size U w10) := Lib.hid (btr C1_9.out hb)
  have C2_10 : RowKit.Hid (Below (w4.alloc (.cells #[.int .i64 0, .int .i64 0] 23)).heap.size (w4.alloc (.cells #[.int .i64 0, .int .i64 0] 23)) w10) := Lib.hid (btr C2_9.out hb)
  have C3_10 : RowKit.Hid (Below (w6.alloc (.cells #[.int .i64 A, .int .i64 P] 25)).heap.size (w6.alloc (.cells #[.int .i64 A, .int .i64 P] 25)) w10) := Lib.hid (btr C3_9.out hb)
  have C4_10 : RowKit.Hid (Below (w7.alloc (.cells #[.int .i64 0, .int .i64 0] 23)).heap.size (w7.alloc (.cells #[.int .i64 0, .int .i64 0] 23)) w10) := Lib.hid (btr C4_9.out hb)
  have C5_10 : RowKit.Hid (Below (w9.alloc (.cells #[.int .i64 d0, .int .i64 d1] 25)).heap.size (w9.alloc (.cells #[.int .i64 d0, .int .i64 d1] 25)) w10) := Lib.hid (btr C5_9.out hb)
  clear f9_0_0 f9_0_1 f9_1_0 f9_1_1 f9_2_0 f9_2_1 f9_3_0 f9_3_1 f9_4_0 f9_4_1 f9_5_0 f9_5_1 hb
  obtain ⟨f10_0_0, f10_0_1⟩ := KK0.out w10 C0_10.out
  obtain ⟨f10_1_0, f10_1_1⟩ := KK1.out w10 C1_10.out
  obtain ⟨f10_2_0, f10_2_1⟩ := KK2.out w10 C2_10.out
  obtain ⟨f10_3_0, f10_3_1⟩ := KK3.out w10 C3_10.out
  obtain ⟨f10_4_0, f10_4_1⟩ := KK4.out w10 C4_10.out
  obtain ⟨f10_5_0, f10_5_1⟩ := KK5.out w10 C5_10.out
  go_wp2_with fail
  refine (R1.out _).mono ?_; rintro e w11 ⟨rfl, hb⟩
  have B11 : RowKit.Hid (Below w.heap.size w w11) := Lib.hid (btr B10.out hb)
  have C0_11 : RowKit.Hid (Below U.heap.size U w11) := Lib.hid (btr C0_10.out hb)
  have C1_11 : RowKit.Hid (Below U.heap.size U w11) := Lib.hid (btr C1_10.out hb)
  have C2_11 : RowKit.Hid (Below (w4.alloc (.cells #[.int .i64 0, .int .i64 0] 23)).heap.size (w4.alloc (.cells #[.int .i64 0, .int .i64 0] 23)) w11) := Lib.hid (btr C2_10.out hb)
  have C3_11 : RowKit.Hid (Below (w6.alloc (.cells #[.int .i64 A, .int .i64 P] 25)).heap.size (w6.alloc (.cells #[.int .i64 A, .int .i64 P] 25)) w11) := Lib.hid (btr C3_10.out hb)
  have C4_11 : RowKit.Hid (Below (w7.alloc (.cells #[.int .i64 0, .int .i64 0] 23)).heap.size (w7.alloc (.cells #[.int .i64 0, .int .i64 0] 23)) w11) := Lib.hid (btr C4_10.out hb)
  have C5_11 : RowKit.Hid (Below (w9.alloc (.cells #[.int .i64 d0, .int .i64 d1] 25)).heap.size (w9.alloc (.cells #[.int .i64 d0, .int .i64 d1] 25)) w11) := Lib.hid (btr C5_10.out hb)
  clear f10_0_0 f10_0_1 f10_1_0 f10_1_1 f10_2_0 f10_2_1 f10_3_0 f10_3_1 f10_4_0 f10_4_1 f10_5_0 f10_5_1 hb
  obtain ⟨f11_0_0, f11_0_1⟩ := KK0.out w11 C0_11.out
  obtain ⟨f11_1_0, f11_1_1⟩ := KK1.out w11 C1_11.out
  obtain ⟨f11_2_0, f11_2_1⟩ := KK2.out w11 C2_11.out
  obtain ⟨f11_3_0, f11_3_1⟩ := KK3.out w11 C3_11.out
  obtain ⟨f11_4_0, f11_4_1⟩ := KK4.out w11 C4_11.out
  obtain ⟨f11_5_0, f11_5_1⟩ := KK5.out w11 C5_11.out
  go_wp2
  go_ret
  exact ⟨ret_bool (by first | rfl | (simp <;> omega)), B11.out⟩

set_option maxRecDepth 100000 in
set_option maxHeartbeats 4000000 in
theorem backL_ntc (F T A P : Int) (s0 S sa sb : ByteArray) (w : World) (hL : Laid w)
    (S0 : Hid (∀ W, Laid W → Calls Tryd.prog 6 #[] W fun x w' => x = .returned (.bool true) ∧ Below W.heap.size W w'))
    (CU : Hid (∀ W, Calls Tryd.prog 7 #[.string s0] W fun x w' => x = .returned (.string S) ∧ Below W.heap.size W w'))
    (PR1 : Hid (∀ W, Tabs W → Calls Tryd.prog 8 #[.agg #[.int .i64 F, .int .i64 T]] W fun x w' => x = .returned (.tuple #[.string sa, .int .i64 70]) ∧ Below W.heap.size W w'))
    (PA1 : Hid (∀ W, ErrT W → Calls Tryd.prog 9 #[.string sa] W fun x w' => x = .returned (.tuple #[.agg #[.int .i64 0, .int .i64 0], .int .i64 70]) ∧ Below W.heap.size W w'))
    (PT1 : Hid (∀ W, Tabs W → Calls Tryd.prog 10 #[.agg #[.int .i64 A, .int .i64 P]] W fun x w' => x = .returned (.tuple #[.string sb, .int .i64 0]) ∧ Below W.heap.size W w'))
    (PA2 : Hid (∀ W, Calls Tryd.prog 11 #[.string sb] W fun x w' => x = .returned (.tuple #[.agg #[.int .i64 A, .int .i64 P], .int .i64 0]) ∧ Below W.heap.size W w'))
    (PA3 : Hid (∀ W, ErrT W → Calls Tryd.prog 9 #[.string S] W fun x w' => x = .returned (.tuple #[.agg #[.int .i64 0, .int .i64 0], .int .i64 70]) ∧ Below W.heap.size W w'))
    (PR2 : Hid (∀ W, Tabs W → Calls Tryd.prog 8 #[.agg #[.int .i64 0, .int .i64 0]] W fun x w' => x = .returned (.tuple #[.string ⟨#[48]⟩, .int .i64 0]) ∧ Below W.heap.size W w'))
    (PA4 : Hid (∀ W, Calls Tryd.prog 11 #[.string S] W fun x w' => x = .returned (.tuple #[.agg #[.int .i64 0, .int .i64 0], .int .i64 71]) ∧ Below W.heap.size W w'))
    (PT2 : Hid (∀ W, Tabs W → Calls Tryd.prog 10 #[.agg #[.int .i64 0, .int .i64 0]] W fun x w' => x = .returned (.tuple #[.string ⟨#[]⟩, .int .i64 71]) ∧ Below W.heap.size W w'))
    (R1 : Hid (∀ W, Calls Tryd.prog 12 #[.agg #[.int .i64 F, .int .i64 T]] W fun x w' => x = .returned (.bool false) ∧ Below W.heap.size W w'))
    : Calls Tryd.prog 3 #[.agg #[.int .i64 F, .int .i64 T], .agg #[.int .i64 A, .int .i64 P], .string s0] w fun x w' => x = .returned (.bool true) ∧ Below w.heap.size w w' := by
  have HL := Lib.hid hL
  clear hL
  go_enter Tryd.func3, Tryd.ntmps3
  go_wp2_with fail
  have x0_0 : ((w.alloc (.cells #[.int .i64 F, .int .i64 T] 23)).alloc (.cells #[.int .i64 A, .int .i64 P] 25)).cell? ⟨w.heap.size, 0, none⟩ = some (.int .i64 F) := by go_simp
  have x0_1 : ((w.alloc (.cells #[.int .i64 F, .int .i64 T] 23)).alloc (.cells #[.int .i64 A, .int .i64 P] 25)).cell? ⟨w.heap.size, 1, none⟩ = some (.int .i64 T) := by go_simp
  have x1_0 : ((w.alloc (.cells #[.int .i64 F, .int .i64 T] 23)).alloc (.cells #[.int .i64 A, .int .i64 P] 25)).cell? ⟨w.heap.size + 1, 0, none⟩ = some (.int .i64 A) := by go_simp
  have x1_1 : ((w.alloc (.cells #[.int .i64 F, .int .i64 T] 23)).alloc (.cells #[.int .i64 A, .int .i64 P] 25)).cell? ⟨w.heap.size + 1, 1, none⟩ = some (.int .i64 P) := by go_simp
  have B0 : Below w.heap.size w ((w.alloc (.cells #[.int .i64 F, .int .i64 T] 23)).alloc (.cells #[.int .i64 A, .int .i64 P] 25)) := (bal ((bal (Below.refl _ w) _)) _)
  generalize ((w.alloc (.cells #[.int .i64 F, .int .i64 T] 23)).alloc (.cells #[.int .i64 A, .int .i64 P] 25)) = U at *
  have KK0 := Lib.hid (show ∀ W, Below U.heap.size U W → W.cell? ⟨w.heap.size, 0, none⟩ = some (.int .i64 F) ∧ W.cell? ⟨w.heap.size, 1, none⟩ = some (.int .i64 T) from fun W h => ⟨(h.cell (p := ⟨w.heap.size, 0, none⟩) (blt x0_0)).trans x0_0, (h.cell (p := ⟨w.heap.size, 1, none⟩) (blt x0_1)).trans x0_1⟩)
  have KK1 := Lib.hid (show ∀ W, Below U.heap.size U W → W.cell? ⟨w.heap.size + 1, 0, none⟩ = some (.int .i64 A) ∧ W.cell? ⟨w.heap.size + 1, 1, none⟩ = some (.int .i64 P) from fun W h => ⟨(h.cell (p := ⟨w.heap.size + 1, 0, none⟩) (blt x1_0)).trans x1_0, (h.cell (p := ⟨w.heap.size + 1, 1, none⟩) (blt x1_1)).trans x1_1⟩)
  have C0_0 := Lib.hid (Below.refl U.heap.size U)
  have C1_0 := Lib.hid (Below.refl U.heap.size U)
  replace B0 := Lib.hid B0
  refine (S0.out _ (HL.out.on B0.out)).mono ?_; rintro e w1 ⟨rfl, hb⟩
  have B1 : RowKit.Hid (Below w.heap.size w w1) := Lib.hid (btr B0.out hb)
  have C0_1 : RowKit.Hid (Below U.heap.size U w1) := Lib.hid (btr C0_0.out hb)
  have C1_1 : RowKit.Hid (Below U.heap.size U w1) := Lib.hid (btr C1_0.out hb)
  clear x0_0 x0_1 x1_0 x1_1 hb
  obtain ⟨f1_0_0, f1_0_1⟩ := KK0.out w1 C0_1.out
  obtain ⟨f1_1_0, f1_1_1⟩ := KK1.out w1 C1_1.out
  go_wp2_with fail
  refine (CU.out _).mono ?_; rintro e w2 ⟨rfl, hb⟩
  have B2 : RowKit.Hid (Below w.heap.size w w2) := Lib.hid (btr B1.out hb)
  have C0_2 : RowKit.Hid (Below U.heap.size U w2) := Lib.hid (btr C0_1.out hb)
  have C1_2 : RowKit.Hid (Below U.heap.size U w2) := Lib.hid (btr C1_1.out hb)
  clear f1_0_0 f1_0_1 f1_1_0 f1_1_1 hb
  obtain ⟨f2_0_0, f2_0_1⟩ := KK0.out w2 C0_2.out
  obtain ⟨f2_1_0, f2_1_1⟩ := KK1.out w2 C1_2.out
  go_wp2_with fail
  refine (PR1.out _ (HL.out.on B2.out).1).mono ?_; rintro e w3 ⟨rfl, hb⟩
  have B3 : RowKit.Hid (Below w.heap.size w w3) := Lib.hid (btr B2.out hb)
  have C0_3 : RowKit.Hid (Below U.heap.size U w3) := Lib.hid (btr C0_2.out hb)
  have C1_3 : RowKit.Hid (Below U.heap.size U w3) := Lib.hid (btr C1_2.out hb)
  clear f2_0_0 f2_0_1 f2_1_0 f2_1_1 hb
  obtain ⟨f3_0_0, f3_0_1⟩ := KK0.out w3 C0_3.out
  obtain ⟨f3_1_0, f3_1_1⟩ := KK1.out w3 C1_3.out
  go_wp2_with fail
  refine (PA1.out _ (HL.out.on B3.out).2).mono ?_; rintro e w4 ⟨rfl, hb⟩
  have B4 : RowKit.Hid (Below w.heap.size w (w4.alloc (.cells #[.int .i64 0, .int .i64 0] 23))) := Lib.hid (bal (btr B3.out hb) _)
  have C0_4 : RowKit.Hid (Below U.heap.size U (w4.alloc (.cells #[.int .i64 0, .int .i64 0] 23))) := Lib.hid (bal (btr C0_3.out hb) _)
  have C1_4 : RowKit.Hid (Below U.heap.size U (w4.alloc (.cells #[.int .i64 0, .int .i64 0] 23))) := Lib.hid (bal (btr C1_3.out hb) _)
  clear f3_0_0 f3_0_1 f3_1_0 f3_1_1 hb
  obtain ⟨f4_0_0, f4_0_1⟩ := KK0.out (w4.alloc (.cells #[.int .i64 0, .int .i64 0] 23)) C0_4.out
  obtain ⟨f4_1_0, f4_1_1⟩ := KK1.out (w4.alloc (.cells #[.int .i64 0, .int .i64 0] 23)) C1_4.out
  have f4_2_0 : (w4.alloc (.cells #[.int .i64 0, .int .i64 0] 23)).cell? ⟨w4.heap.size, 0, none⟩ = some (.int .i64 0) := by go_simp
  have f4_2_1 : (w4.alloc (.cells #[.int .i64 0, .int .i64 0] 23)).cell? ⟨w4.heap.size, 1, none⟩ = some (.int .i64 0) := by go_simp
  have KK2 := Lib.hid (show ∀ W, Below (w4.alloc (.cells #[.int .i64 0, .int .i64 0] 23)).heap.size (w4.alloc (.cells #[.int .i64 0, .int .i64 0] 23)) W → W.cell? ⟨w4.heap.size, 0, none⟩ = some (.int .i64 0) ∧ W.cell? ⟨w4.heap.size, 1, none⟩ = some (.int .i64 0) from fun W h => ⟨(h.cell (p := ⟨w4.heap.size, 0, none⟩) (blt f4_2_0)).trans f4_2_0, (h.cell (p := ⟨w4.heap.size, 1, none⟩) (blt f4_2_1)).trans f4_2_1⟩)
  have C2_4 := Lib.hid (Below.refl (w4.alloc (.cells #[.int .i64 0, .int .i64 0] 23)).heap.size (w4.alloc (.cells #[.int .i64 0, .int .i64 0] 23)))
  go_wp2_with fail
  refine (PT1.out _ (HL.out.on B4.out).1).mono ?_; rintro e w5 ⟨rfl, hb⟩
  have B5 : RowKit.Hid (Below w.heap.size w w5) := Lib.hid (btr B4.out hb)
  have C0_5 : RowKit.Hid (Below U.heap.size U w5) := Lib.hid (btr C0_4.out hb)
  have C1_5 : RowKit.Hid (Below U.heap.size U w5) := Lib.hid (btr C1_4.out hb)
  have C2_5 : RowKit.Hid (Below (w4.alloc (.cells #[.int .i64 0, .int .i64 0] 23)).heap.size (w4.alloc (.cells #[.int .i64 0, .int .i64 0] 23)) w5) := Lib.hid (btr C2_4.out hb)
  clear f4_0_0 f4_0_1 f4_1_0 f4_1_1 f4_2_0 f4_2_1 hb
  obtain ⟨f5_0_0, f5_0_1⟩ := KK0.out w5 C0_5.out
  obtain ⟨f5_1_0, f5_1_1⟩ := KK1.out w5 C1_5.out
  obtain ⟨f5_2_0, f5_2_1⟩ := KK2.out w5 C2_5.out
  go_wp2_with fail
  refine (PA2.out _).mono ?_; rintro e w6 ⟨rfl, hb⟩
  have B6 : RowKit.Hid (Below w.heap.size w (w6.alloc (.cells #[.int .i64 A, .int .i64 P] 25))) := Lib.hid (bal (btr B5.out hb) _)
  have C0_6 : RowKit.Hid (Below U.heap.size U (w6.alloc (.cells #[.int .i64 A, .int .i64 P] 25))) := Lib.hid (bal (btr C0_5.out hb) _)
  have C1_6 : RowKit.Hid (Below U.heap.size U (w6.alloc (.cells #[.int .i64 A, .int .i64 P] 25))) := Lib.hid (bal (btr C1_5.out hb) _)
  have C2_6 : RowKit.Hid (Below (w4.alloc (.cells #[.int .i64 0, .int .i64 0] 23)).heap.size (w4.alloc (.cells #[.int .i64 0, .int .i64 0] 23)) (w6.alloc (.cells #[.int .i64 A, .int .i64 P] 25))) := Lib.hid (bal (btr C2_5.out hb) _)
  clear f5_0_0 f5_0_1 f5_1_0 f5_1_1 f5_2_0 f5_2_1 hb
  obtain ⟨f6_0_0, f6_0_1⟩ := KK0.out (w6.alloc (.cells #[.int .i64 A, .int .i64 P] 25)) C0_6.out
  obtain ⟨f6_1_0, f6_1_1⟩ := KK1.out (w6.alloc (.cells #[.int .i64 A, .int .i64 P] 25)) C1_6.out
  obtain ⟨f6_2_0, f6_2_1⟩ := KK2.out (w6.alloc (.cells #[.int .i64 A, .int .i64 P] 25)) C2_6.out
  have f6_3_0 : (w6.alloc (.cells #[.int .i64 A, .int .i64 P] 25)).cell? ⟨w6.heap.size, 0, none⟩ = some (.int .i64 A) := by go_simp
  have f6_3_1 : (w6.alloc (.cells #[.int .i64 A, .int .i64 P] 25)).cell? ⟨w6.heap.size, 1, none⟩ = some (.int .i64 P) := by go_simp
  have KK3 := Lib.hid (show ∀ W, Below (w6.alloc (.cells #[.int .i64 A, .int .i64 P] 25)).heap.size (w6.alloc (.cells #[.int .i64 A, .int .i64 P] 25)) W → W.cell? ⟨w6.heap.size, 0, none⟩ = some (.int .i64 A) ∧ W.cell? ⟨w6.heap.size, 1, none⟩ = some (.int .i64 P) from fun W h => ⟨(h.cell (p := ⟨w6.heap.size, 0, none⟩) (blt f6_3_0)).trans f6_3_0, (h.cell (p := ⟨w6.heap.size, 1, none⟩) (blt f6_3_1)).trans f6_3_1⟩)
  have C3_6 := Lib.hid (Below.refl (w6.alloc (.cells #[.int .i64 A, .int .i64 P] 25)).heap.size (w6.alloc (.cells #[.int .i64 A, .int .i64 P] 25)))
  go_wp2_with fail
  refine (PA3.out _ (HL.out.on B6.out).2).mono ?_; rintro e w7 ⟨rfl, hb⟩
  have B7 : RowKit.Hid (Below w.heap.size w (w7.alloc (.cells #[.int .i64 0, .int .i64 0] 23))) := Lib.hid (bal (btr B6.out hb) _)
  have C0_7 : RowKit.Hid (Below U.heap.size U (w7.alloc (.cells #[.int .i64 0, .int .i64 0] 23))) := Lib.hid (bal (btr C0_6.out hb) _)
  have C1_7 : RowKit.Hid (Below U.heap.size U (w7.alloc (.cells #[.int .i64 0, .int .i64 0] 23))) := Lib.hid (bal (btr C1_6.out hb) _)
  have C2_7 : RowKit.Hid (Below (w4.alloc (.cells #[.int .i64 0, .int .i64 0] 23)).heap.size (w4.alloc (.cells #[.int .i64 0, .int .i64 0] 23)) (w7.alloc (.cells #[.int .i64 0, .int .i64 0] 23))) := Lib.hid (bal (btr C2_6.out hb) _)
  have C3_7 : RowKit.Hid (Below (w6.alloc (.cells #[.int .i64 A, .int .i64 P] 25)).heap.size (w6.alloc (.cells #[.int .i64 A, .int .i64 P] 25)) (w7.alloc (.cells #[.int .i64 0, .int .i64 0] 23))) := Lib.hid (bal (btr C3_6.out hb) _)
  clear f6_0_0 f6_0_1 f6_1_0 f6_1_1 f6_2_0 f6_2_1 f6_3_0 f6_3_1 hb
  obtain ⟨f7_0_0, f7_0_1⟩ := KK0.out (w7.alloc (.cells #[.int .i64 0, .int .i64 0] 23)) C0_7.out
  obtain ⟨f7_1_0, f7_1_1⟩ := KK1.out (w7.alloc (.cells #[.int .i64 0, .int .i64 0] 23)) C1_7.out
  obtain ⟨f7_2_0, f7_2_1⟩ := KK2.out (w7.alloc (.cells #[.int .i64 0, .int .i64 0] 23)) C2_7.out
  obtain ⟨f7_3_0, f7_3_1⟩ := KK3.out (w7.alloc (.cells #[.int .i64 0, .int .i64 0] 23)) C3_7.out
  have f7_4_0 : (w7.alloc (.cells #[.int .i64 0, .int .i64 0] 23)).cell? ⟨w7.heap.size, 0, none⟩ = some (.int .i64 0) := by go_simp
  have f7_4_1 : (w7.alloc (.cells #[.int .i64 0, .int .i64 0] 23)).cell? ⟨w7.heap.size, 1, none⟩ = some (.int .i64 0) := by go_simp
  have KK4 := Lib.hid (show ∀ W, Below (w7.alloc (.cells #[.int .i64 0, .int .i64 0] 23)).heap.size (w7.alloc (.cells #[.int .i64 0, .int .i64 0] 23)) W → W.cell? ⟨w7.heap.size, 0, none⟩ = some (.int .i64 0) ∧ W.cell? ⟨w7.heap.size, 1, none⟩ = some (.int .i64 0) from fun W h => ⟨(h.cell (p := ⟨w7.heap.size, 0, none⟩) (blt f7_4_0)).trans f7_4_0, (h.cell (p := ⟨w7.heap.size, 1, none⟩) (blt f7_4_1)).trans f7_4_1⟩)
  have C4_7 := Lib.hid (Below.refl (w7.alloc (.cells #[.int .i64 0, .int .i64 0] 23)).heap.size (w7.alloc (.cells #[.int .i64 0, .int .i64 0] 23)))
  go_wp2_with fail
  refine (PR2.out _ (HL.out.on B7.out).1).mono ?_; rintro e w8 ⟨rfl, hb⟩
  have B8 : RowKit.Hid (Below w.heap.size w w8) := Lib.hid (btr B7.out hb)
  have C0_8 : RowKit.Hid (Below U.heap.size U w8) := Lib.hid (btr C0_7.out hb)
  have C1_8 : RowKit.Hid (Below U.heap.size U w8) := Lib.hid (btr C1_7.out hb)
  have C2_8 : RowKit.Hid (Below (w4.alloc (.cells #[.int .i64 0, .int .i64 0] 23)).heap.size (w4.alloc (.cells #[.int .i64 0, .int .i64 0] 23)) w8) := Lib.hid (btr C2_7.out hb)
  have C3_8 : RowKit.Hid (Below (w6.alloc (.cells #[.int .i64 A, .int .i64 P] 25)).heap.size (w6.alloc (.cells #[.int .i64 A, .int .i64 P] 25)) w8) := Lib.hid (btr C3_7.out hb)
  have C4_8 : RowKit.Hid (Below (w7.alloc (.cells #[.int .i64 0, .int .i64 0] 23)).heap.size (w7.alloc (.cells #[.int .i64 0, .int .i64 0] 23)) w8) := Lib.hid (btr C4_7.out hb)
  clear f7_0_0 f7_0_1 f7_1_0 f7_1_1 f7_2_0 f7_2_1 f7_3_0 f7_3_1 f7_4_0 f7_4_1 hb
  obtain ⟨f8_0_0, f8_0_1⟩ := KK0.out w8 C0_8.out
  obtain ⟨f8_1_0, f8_1_1⟩ := KK1.out w8 C1_8.out
  obtain ⟨f8_2_0, f8_2_1⟩ := KK2.out w8 C2_8.out
  obtain ⟨f8_3_0, f8_3_1⟩ := KK3.out w8 C3_8.out
  obtain ⟨f8_4_0, f8_4_1⟩ := KK4.out w8 C4_8.out
  go_wp2_with fail
  refine (PA4.out _).mono ?_; rintro e w9 ⟨rfl, hb⟩
  have B9 : RowKit.Hid (Below w.heap.size w (w9.alloc (.cells #[.int .i64 0, .int .i64 0] 25))) := Lib.hid (bal (btr B8.out hb) _)
  have C0_9 : RowKit.Hid (Below U.heap.size U (w9.alloc (.cells #[.int .i64 0, .int .i64 0] 25))) := Lib.hid (bal (btr C0_8.out hb) _)
  have C1_9 : RowKit.Hid (Below U.heap.size U (w9.alloc (.cells #[.int .i64 0, .int .i64 0] 25))) := Lib.hid (bal (btr C1_8.out hb) _)
  have C2_9 : RowKit.Hid (Below (w4.alloc (.cells #[.int .i64 0, .int .i64 0] 23)).heap.size (w4.alloc (.cells #[.int .i64 0, .int .i64 0] 23)) (w9.alloc (.cells #[.int .i64 0, .int .i64 0] 25))) := Lib.hid (bal (btr C2_8.out hb) _)
  have C3_9 : RowKit.Hid (Below (w6.alloc (.cells #[.int .i64 A, .int .i64 P] 25)).heap.size (w6.alloc (.cells #[.int .i64 A, .int .i64 P] 25)) (w9.alloc (.cells #[.int .i64 0, .int .i64 0] 25))) := Lib.hid (bal (btr C3_8.out hb) _)
  have C4_9 : RowKit.Hid (Below (w7.alloc (.cells #[.int .i64 0, .int .i64 0] 23)).heap.size (w7.alloc (.cells #[.int .i64 0, .int .i64 0] 23)) (w9.alloc (.cells #[.int .i64 0, .int .i64 0] 25))) := Lib.hid (bal (btr C4_8.out hb) _)
  clear f8_0_0 f8_0_1 f8_1_0 f8_1_1 f8_2_0 f8_2_1 f8_3_0 f8_3_1 f8_4_0 f8_4_1 hb
  obtain ⟨f9_0_0, f9_0_1⟩ := KK0.out (w9.alloc (.cells #[.int .i64 0, .int .i64 0] 25)) C0_9.out
  obtain ⟨f9_1_0, f9_1_1⟩ := KK1.out (w9.alloc (.cells #[.int .i64 0, .int .i64 0] 25)) C1_9.out
  obtain ⟨f9_2_0, f9_2_1⟩ := KK2.out (w9.alloc (.cells #[.int .i64 0, .int .i64 0] 25)) C2_9.out
  obtain ⟨f9_3_0, f9_3_1⟩ := KK3.out (w9.alloc (.cells #[.int .i64 0, .int .i64 0] 25)) C3_9.out
  obtain ⟨f9_4_0, f9_4_1⟩ := KK4.out (w9.alloc (.cells #[.int .i64 0, .int .i64 0] 25)) C4_9.out
  have f9_5_0 : (w9.alloc (.cells #[.int .i64 0, .int .i64 0] 25)).cell? ⟨w9.heap.size, 0, none⟩ = some (.int .i64 0) := by go_simp
  have f9_5_1 : (w9.alloc (.cells #[.int .i64 0, .int .i64 0] 25)).cell? ⟨w9.heap.size, 1, none⟩ = some (.int .i64 0) := by go_simp
  have KK5 := Lib.hid (show ∀ W, Below (w9.alloc (.cells #[.int .i64 0, .int .i64 0] 25)).heap.size (w9.alloc (.cells #[.int .i64 0, .int .i64 0] 25)) W → W.cell? ⟨w9.heap.size, 0, none⟩ = some (.int .i64 0) ∧ W.cell? ⟨w9.heap.size, 1, none⟩ = some (.int .i64 0) from fun W h => ⟨(h.cell (p := ⟨w9.heap.size, 0, none⟩) (blt f9_5_0)).trans f9_5_0, (h.cell (p := ⟨w9.heap.size, 1, none⟩) (blt f9_5_1)).trans f9_5_1⟩)
  have C5_9 := Lib.hid (Below.refl (w9.alloc (.cells #[.int .i64 0, .int .i64 0] 25)).heap.size (w9.alloc (.cells #[.int .i64 0, .int .i64 0] 25)))
  go_wp2_with fail
  refine (PT2.out _ (HL.out.on B9.out).1).mono ?_; rintro e w10 ⟨rfl, hb⟩
  have B10 : RowKit.Hid (Below w.heap.size w w10) := Lib.hid (btr B9.out hb)
  have C0_10 : RowKit.Hid (Below U.heap.size U w10) := Lib.hid (btr C0_9.out hb)
  have C1_10 : RowKit.Hid (Below U.heap.size U w10) := Lib.hid (btr C1_9.out hb)
  have C2_10 : RowKit.Hid (Below (w4.alloc (.cells #[.int .i64 0, .int .i64 0] 23)).heap.size (w4.alloc (.cells #[.int .i64 0, .int .i64 0] 23)) w10) := Lib.hid (btr C2_9.out hb)
  have C3_10 : RowKit.Hid (Below (w6.alloc (.cells #[.int .i64 A, .int .i64 P] 25)).heap.size (w6.alloc (.cells #[.int .i64 A, .int .i64 P] 25)) w10) := Lib.hid (btr C3_9.out hb)
  have C4_10 : RowKit.Hid (Below (w7.alloc (.cells #[.int .i64 0, .int .i64 0] 23)).heap.size (w7.alloc (.cells #[.int .i64 0, .int .i64 0] 23)) w10) := Lib.hid (btr C4_9.out hb)
  have C5_10 : RowKit.Hid (Below (w9.alloc (.cells #[.int .i64 0, .int .i64 0] 25)).heap.size (w9.alloc (.cells #[.int .i64 0, .int .i64 0] 25)) w10) := Lib.hid (btr C5_9.out hb)
  clear f9_0_0 f9_0_1 f9_1_0 f9_1_1 f9_2_0 f9_2_1 f9_3_0 f9_3_1 f9_4_0 f9_4_1 f9_5_0 f9_5_1 hb
  obtain ⟨f10_0_0, f10_0_1⟩ := KK0.out w10 C0_10.out
  obtain ⟨f10_1_0, f10_1_1⟩ := KK1.out w10 C1_10.out
  obtain ⟨f10_2_0, f10_2_1⟩ := KK2.out w10 C2_10.out
  obtain ⟨f10_3_0, f10_3_1⟩ := KK3.out w10 C3_10.out
  obtain ⟨f10_4_0, f10_4_1⟩ := KK4.out w10 C4_10.out
  obtain ⟨f10_5_0, f10_5_1⟩ := KK5.out w10 C5_10.out
  go_wp2_with fail
  refine (R1.out _).mono ?_; rintro e w11 ⟨rfl, hb⟩
  have B11 : RowKit.Hid (Below w.heap.size w w11) := Lib.hid (btr B10.out hb)
  have C0_11 : RowKit.Hid (Below U.heap.size U w11) := Lib.hid (btr C0_10.out hb)
  have C1_11 : RowKit.Hid (Below U.heap.size U w11) := Lib.hid (btr C1_10.out hb)
  have C2_11 : RowKit.Hid (Below (w4.alloc (.cells #[.int .i64 0, .int .i64 0] 23)).heap.size (w4.alloc (.cells #[.int .i64 0, .int .i64 0] 23)) w11) := Lib.hid (btr C2_10.out hb)
  have C3_11 : RowKit.Hid (Below (w6.alloc (.cells #[.int .i64 A, .int .i64 P] 25)).heap.size (w6.alloc (.cells #[.int .i64 A, .int .i64 P] 25)) w11) := Lib.hid (btr C3_10.out hb)
  have C4_11 : RowKit.Hid (Below (w7.alloc (.cells #[.int .i64 0, .int .i64 0] 23)).heap.size (w7.alloc (.cells #[.int .i64 0, .int .i64 0] 23)) w11) := Lib.hid (btr C4_10.out hb)
  have C5_11 : RowKit.Hid (Below (w9.alloc (.cells #[.int .i64 0, .int .i64 0] 25)).heap.size (w9.alloc (.cells #[.int .i64 0, .int .i64 0] 25)) w11) := Lib.hid (btr C5_10.out hb)
  clear f10_0_0 f10_0_1 f10_1_0 f10_1_1 f10_2_0 f10_2_1 f10_3_0 f10_3_1 f10_4_0 f10_4_1 f10_5_0 f10_5_1 hb
  obtain ⟨f11_0_0, f11_0_1⟩ := KK0.out w11 C0_11.out
  obtain ⟨f11_1_0, f11_1_1⟩ := KK1.out w11 C1_11.out
  obtain ⟨f11_2_0, f11_2_1⟩ := KK2.out w11 C2_11.out
  obtain ⟨f11_3_0, f11_3_1⟩ := KK3.out w11 C3_11.out
  obtain ⟨f11_4_0, f11_4_1⟩ := KK4.out w11 C4_11.out
  obtain ⟨f11_5_0, f11_5_1⟩ := KK5.out w11 C5_11.out
  go_wp2
  go_ret
  exact ⟨ret_bool (by first | rfl | (simp <;> omega)), B11.out⟩

set_option maxRecDepth 100000 in
set_option maxHeartbeats 4000000 in
theorem backL_nna (F T A P c0 c1 : Int) (s0 S sa sb : ByteArray) (w : World) (hL : Laid w)
    (S0 : Hid (∀ W, Laid W → Calls Tryd.prog 6 #[] W fun x w' => x = .returned (.bool true) ∧ Below W.heap.size W w'))
    (CU : Hid (∀ W, Calls Tryd.prog 7 #[.string s0] W fun x w' => x = .returned (.string S) ∧ Below W.heap.size W w'))
    (PR1 : Hid (∀ W, Tabs W → Calls Tryd.prog 8 #[.agg #[.int .i64 F, .int .i64 T]] W fun x w' => x = .returned (.tuple #[.string sa, .int .i64 70]) ∧ Below W.heap.size W w'))
    (PA1 : Hid (∀ W, ErrT W → Calls Tryd.prog 9 #[.string sa] W fun x w' => x = .returned (.tuple #[.agg #[.int .i64 0, .int .i64 0], .int .i64 70]) ∧ Below W.heap.size W w'))
    (PT1 : Hid (∀ W, Tabs W → Calls Tryd.prog 10 #[.agg #[.int .i64 A, .int .i64 P]] W fun x w' => x = .returned (.tuple #[.string sb, .int .i64 71]) ∧ Below W.heap.size W w'))
    (PA2 : Hid (∀ W, Calls Tryd.prog 11 #[.string sb] W fun x w' => x = .returned (.tuple #[.agg #[.int .i64 0, .int .i64 0], .int .i64 71]) ∧ Below W.heap.size W w'))
    (PA3 : Hid (∀ W, ErrT W → Calls Tryd.prog 9 #[.string S] W fun x w' => x = .returned (.tuple #[.agg #[.int .i64 c0, .int .i64 c1], .int .i64 0]) ∧ Below W.heap.size W w'))
    (PR2 : Hid (∀ W, Tabs W → Calls Tryd.prog 8 #[.agg #[.int .i64 c0, .int .i64 c1]] W fun x w' => x = .returned (.tuple #[.string S, .int .i64 0]) ∧ Below W.heap.size W w'))
    (PA4 : Hid (∀ W, Calls Tryd.prog 11 #[.string S] W fun x w' => x = .returned (.tuple #[.agg #[.int .i64 0, .int .i64 0], .int .i64 71]) ∧ Below W.heap.size W w'))
    (PT2 : Hid (∀ W, Tabs W → Calls Tryd.prog 10 #[.agg #[.int .i64 0, .int .i64 0]] W fun x w' => x = .returned (.tuple #[.string ⟨#[]⟩, .int .i64 71]) ∧ Below W.heap.size W w'))
    (R1 : Hid (∀ W, Calls Tryd.prog 12 #[.agg #[.int .i64 F, .int .i64 T]] W fun x w' => x = .returned (.bool false) ∧ Below W.heap.size W w'))
    : Calls Tryd.prog 3 #[.agg #[.int .i64 F, .int .i64 T], .agg #[.int .i64 A, .int .i64 P], .string s0] w fun x w' => x = .returned (.bool true) ∧ Below w.heap.size w w' := by
  have HL := Lib.hid hL
  clear hL
  go_enter Tryd.func3, Tryd.ntmps3
  go_wp2_with fail
  have x0_0 : ((w.alloc (.cells #[.int .i64 F, .int .i64 T] 23)).alloc (.cells #[.int .i64 A, .int .i64 P] 25)).cell? ⟨w.heap.size, 0, none⟩ = some (.int .i64 F) := by go_simp
  have x0_1 : ((w.alloc (.cells #[.int .i64 F, .int .i64 T] 23)).alloc (.cells #[.int .i64 A, .int .i64 P] 25)).cell? ⟨w.heap.size, 1, none⟩ = some (.int .i64 T) := by go_simp
  have x1_0 : ((w.alloc (.cells #[.int .i64 F, .int .i64 T] 23)).alloc (.cells #[.int .i64 A, .int .i64 P] 25)).cell? ⟨w.heap.size + 1, 0, none⟩ = some (.int .i64 A) := by go_simp
  have x1_1 : ((w.alloc (.cells #[.int .i64 F, .int .i64 T] 23)).alloc (.cells #[.int .i64 A, .int .i64 P] 25)).cell? ⟨w.heap.size + 1, 1, none⟩ = some (.int .i64 P) := by go_simp
  have B0 : Below w.heap.size w ((w.alloc (.cells #[.int .i64 F, .int .i64 T] 23)).alloc (.cells #[.int .i64 A, .int .i64 P] 25)) := (bal ((bal (Below.refl _ w) _)) _)
  generalize ((w.alloc (.cells #[.int .i64 F, .int .i64 T] 23)).alloc (.cells #[.int .i64 A, .int .i64 P] 25)) = U at *
  have KK0 := Lib.hid (show ∀ W, Below U.heap.size U W → W.cell? ⟨w.heap.size, 0, none⟩ = some (.int .i64 F) ∧ W.cell? ⟨w.heap.size, 1, none⟩ = some (.int .i64 T) from fun W h => ⟨(h.cell (p := ⟨w.heap.size, 0, none⟩) (blt x0_0)).trans x0_0, (h.cell (p := ⟨w.heap.size, 1, none⟩) (blt x0_1)).trans x0_1⟩)
  have KK1 := Lib.hid (show ∀ W, Below U.heap.size U W → W.cell? ⟨w.heap.size + 1, 0, none⟩ = some (.int .i64 A) ∧ W.cell? ⟨w.heap.size + 1, 1, none⟩ = some (.int .i64 P) from fun W h => ⟨(h.cell (p := ⟨w.heap.size + 1, 0, none⟩) (blt x1_0)).trans x1_0, (h.cell (p := ⟨w.heap.size + 1, 1, none⟩) (blt x1_1)).trans x1_1⟩)
  have C0_0 := Lib.hid (Below.refl U.heap.size U)
  have C1_0 := Lib.hid (Below.refl U.heap.size U)
  replace B0 := Lib.hid B0
  refine (S0.out _ (HL.out.on B0.out)).mono ?_; rintro e w1 ⟨rfl, hb⟩
  have B1 : RowKit.Hid (Below w.heap.size w w1) := Lib.hid (btr B0.out hb)
  have C0_1 : RowKit.Hid (Below U.heap.size U w1) := Lib.hid (btr C0_0.out hb)
  have C1_1 : RowKit.Hid (Below U.heap.size U w1) := Lib.hid (btr C1_0.out hb)
  clear x0_0 x0_1 x1_0 x1_1 hb
  obtain ⟨f1_0_0, f1_0_1⟩ := KK0.out w1 C0_1.out
  obtain ⟨f1_1_0, f1_1_1⟩ := KK1.out w1 C1_1.out
  go_wp2_with fail
  refine (CU.out _).mono ?_; rintro e w2 ⟨rfl, hb⟩
  have B2 : RowKit.Hid (Below w.heap.size w w2) := Lib.hid (btr B1.out hb)
  have C0_2 : RowKit.Hid (Below U.heap.size U w2) := Lib.hid (btr C0_1.out hb)
  have C1_2 : RowKit.Hid (Below U.heap.size U w2) := Lib.hid (btr C1_1.out hb)
  clear f1_0_0 f1_0_1 f1_1_0 f1_1_1 hb
  obtain ⟨f2_0_0, f2_0_1⟩ := KK0.out w2 C0_2.out
  obtain ⟨f2_1_0, f2_1_1⟩ := KK1.out w2 C1_2.out
  go_wp2_with fail
  refine (PR1.out _ (HL.out.on B2.out).1).mono ?_; rintro e w3 ⟨rfl, hb⟩
  have B3 : RowKit.Hid (Below w.heap.size w w3) := Lib.hid (btr B2.out hb)
  have C0_3 : RowKit.Hid (Below U.heap.size U w3) := Lib.hid (btr C0_2.out hb)
  have C1_3 : RowKit.Hid (Below U.heap.size U w3) := Lib.hid (btr C1_2.out hb)
  clear f2_0_0 f2_0_1 f2_1_0 f2_1_1 hb
  obtain ⟨f3_0_0, f3_0_1⟩ := KK0.out w3 C0_3.out
  obtain ⟨f3_1_0, f3_1_1⟩ := KK1.out w3 C1_3.out
  go_wp2_with fail
  refine (PA1.out _ (HL.out.on B3.out).2).mono ?_; rintro e w4 ⟨rfl, hb⟩
  have B4 : RowKit.Hid (Below w.heap.size w (w4.alloc (.cells #[.int .i64 0, .int .i64 0] 23))) := Lib.hid (bal (btr B3.out hb) _)
  have C0_4 : RowKit.Hid (Below U.heap.size U (w4.alloc (.cells #[.int .i64 0, .int .i64 0] 23))) := Lib.hid (bal (btr C0_3.out hb) _)
  have C1_4 : RowKit.Hid (Below U.heap.size U (w4.alloc (.cells #[.int .i64 0, .int .i64 0] 23))) := Lib.hid (bal (btr C1_3.out hb) _)
  clear f3_0_0 f3_0_1 f3_1_0 f3_1_1 hb
  obtain ⟨f4_0_0, f4_0_1⟩ := KK0.out (w4.alloc (.cells #[.int .i64 0, .int .i64 0] 23)) C0_4.out
  obtain ⟨f4_1_0, f4_1_1⟩ := KK1.out (w4.alloc (.cells #[.int .i64 0, .int .i64 0] 23)) C1_4.out
  have f4_2_0 : (w4.alloc (.cells #[.int .i64 0, .int .i64 0] 23)).cell? ⟨w4.heap.size, 0, none⟩ = some (.int .i64 0) := by go_simp
  have f4_2_1 : (w4.alloc (.cells #[.int .i64 0, .int .i64 0] 23)).cell? ⟨w4.heap.size, 1, none⟩ = some (.int .i64 0) := by go_simp
  have KK2 := Lib.hid (show ∀ W, Below (w4.alloc (.cells #[.int .i64 0, .int .i64 0] 23)).heap.size (w4.alloc (.cells #[.int .i64 0, .int .i64 0] 23)) W → W.cell? ⟨w4.heap.size, 0, none⟩ = some (.int .i64 0) ∧ W.cell? ⟨w4.heap.size, 1, none⟩ = some (.int .i64 0) from fun W h => ⟨(h.cell (p := ⟨w4.heap.size, 0, none⟩) (blt f4_2_0)).trans f4_2_0, (h.cell (p := ⟨w4.heap.size, 1, none⟩) (blt f4_2_1)).trans f4_2_1⟩)
  have C2_4 := Lib.hid (Below.refl (w4.alloc (.cells #[.int .i64 0, .int .i64 0] 23)).heap.size (w4.alloc (.cells #[.int .i64 0, .int .i64 0] 23)))
  go_wp2_with fail
  refine (PT1.out _ (HL.out.on B4.out).1).mono ?_; rintro e w5 ⟨rfl, hb⟩
  have B5 : RowKit.Hid (Below w.heap.size w w5) := Lib.hid (btr B4.out hb)
  have C0_5 : RowKit.Hid (Below U.heap.size U w5) := Lib.hid (btr C0_4.out hb)
  have C1_5 : RowKit.Hid (Below U.heap.size U w5) := Lib.hid (btr C1_4.out hb)
  have C2_5 : RowKit.Hid (Below (w4.alloc (.cells #[.int .i64 0, .int .i64 0] 23)).heap.size (w4.alloc (.cells #[.int .i64 0, .int .i64 0] 23)) w5) := Lib.hid (btr C2_4.out hb)
  clear f4_0_0 f4_0_1 f4_1_0 f4_1_1 f4_2_0 f4_2_1 hb
  obtain ⟨f5_0_0, f5_0_1⟩ := KK0.out w5 C0_5.out
  obtain ⟨f5_1_0, f5_1_1⟩ := KK1.out w5 C1_5.out
  obtain ⟨f5_2_0, f5_2_1⟩ := KK2.out w5 C2_5.out
  go_wp2_with fail
  refine (PA2.out _).mono ?_; rintro e w6 ⟨rfl, hb⟩
  have B6 : RowKit.Hid (Below w.heap.size w (w6.alloc (.cells #[.int .i64 0, .int .i64 0] 25))) := Lib.hid (bal (btr B5.out hb) _)
  have C0_6 : RowKit.Hid (Below U.heap.size U (w6.alloc (.cells #[.int .i64 0, .int .i64 0] 25))) := Lib.hid (bal (btr C0_5.out hb) _)
  have C1_6 : RowKit.Hid (Below U.heap.size U (w6.alloc (.cells #[.int .i64 0, .int .i64 0] 25))) := Lib.hid (bal (btr C1_5.out hb) _)
  have C2_6 : RowKit.Hid (Below (w4.alloc (.cells #[.int .i64 0, .int .i64 0] 23)).heap.size (w4.alloc (.cells #[.int .i64 0, .int .i64 0] 23)) (w6.alloc (.cells #[.int .i64 0, .int .i64 0] 25))) := Lib.hid (bal (btr C2_5.out hb) _)
  clear f5_0_0 f5_0_1 f5_1_0 f5_1_1 f5_2_0 f5_2_1 hb
  obtain ⟨f6_0_0, f6_0_1⟩ := KK0.out (w6.alloc (.cells #[.int .i64 0, .int .i64 0] 25)) C0_6.out
  obtain ⟨f6_1_0, f6_1_1⟩ := KK1.out (w6.alloc (.cells #[.int .i64 0, .int .i64 0] 25)) C1_6.out
  obtain ⟨f6_2_0, f6_2_1⟩ := KK2.out (w6.alloc (.cells #[.int .i64 0, .int .i64 0] 25)) C2_6.out
  have f6_3_0 : (w6.alloc (.cells #[.int .i64 0, .int .i64 0] 25)).cell? ⟨w6.heap.size, 0, none⟩ = some (.int .i64 0) := by go_simp
  have f6_3_1 : (w6.alloc (.cells #[.int .i64 0, .int .i64 0] 25)).cell? ⟨w6.heap.size, 1, none⟩ = some (.int .i64 0) := by go_simp
  have KK3 := Lib.hid (show ∀ W, Below (w6.alloc (.cells #[.int .i64 0, .int .i64 0] 25)).heap.size (w6.alloc (.cells #[.int .i64 0, .int .i64 0] 25)) W → W.cell? ⟨w6.heap.size, 0, none⟩ = some (.int .i64 0) ∧ W.cell? ⟨w6.heap.size, 1, none⟩ = some (.int .i64 0) from fun W h => ⟨(h.cell (p := ⟨w6.heap.size, 0, none⟩) (blt f6_3_0)).trans f6_3_0, (h.cell (p := ⟨w6.heap.size, 1, none⟩) (blt f6_3_1)).trans f6_3_1⟩)
  have C3_6 := Lib.hid (Below.refl (w6.alloc (.cells #[.int .i64 0, .int .i64 0] 25)).heap.size (w6.alloc (.cells #[.int .i64 0, .int .i64 0] 25)))
  go_wp2_with fail
  refine (PA3.out _ (HL.out.on B6.out).2).mono ?_; rintro e w7 ⟨rfl, hb⟩
  have B7 : RowKit.Hid (Below w.heap.size w (w7.alloc (.cells #[.int .i64 c0, .int .i64 c1] 23))) := Lib.hid (bal (btr B6.out hb) _)
  have C0_7 : RowKit.Hid (Below U.heap.size U (w7.alloc (.cells #[.int .i64 c0, .int .i64 c1] 23))) := Lib.hid (bal (btr C0_6.out hb) _)
  have C1_7 : RowKit.Hid (Below U.heap.size U (w7.alloc (.cells #[.int .i64 c0, .int .i64 c1] 23))) := Lib.hid (bal (btr C1_6.out hb) _)
  have C2_7 : RowKit.Hid (Below (w4.alloc (.cells #[.int .i64 0, .int .i64 0] 23)).heap.size (w4.alloc (.cells #[.int .i64 0, .int .i64 0] 23)) (w7.alloc (.cells #[.int .i64 c0, .int .i64 c1] 23))) := Lib.hid (bal (btr C2_6.out hb) _)
  have C3_7 : RowKit.Hid (Below (w6.alloc (.cells #[.int .i64 0, .int .i64 0] 25)).heap.size (w6.alloc (.cells #[.int .i64 0, .int .i64 0] 25)) (w7.alloc (.cells #[.int .i64 c0, .int .i64 c1] 23))) := Lib.hid (bal (btr C3_6.out hb) _)
  clear f6_0_0 f6_0_1 f6_1_0 f6_1_1 f6_2_0 f6_2_1 f6_3_0 f6_3_1 hb
  obtain ⟨f7_0_0, f7_0_1⟩ := KK0.out (w7.alloc (.cells #[.int .i64 c0, .int .i64 c1] 23)) C0_7.out
  obtain ⟨f7_1_0, f7_1_1⟩ := KK1.out (w7.alloc (.cells #[.int .i64 c0, .int .i64 c1] 23)) C1_7.out
  obtain ⟨f7_2_0, f7_2_1⟩ := KK2.out (w7.alloc (.cells #[.int .i64 c0, .int .i64 c1] 23)) C2_7.out
  obtain ⟨f7_3_0, f7_3_1⟩ := KK3.out (w7.alloc (.cells #[.int .i64 c0, .int .i64 c1] 23)) C3_7.out
  have f7_4_0 : (w7.alloc (.cells #[.int .i64 c0, .int .i64 c1] 23)).cell? ⟨w7.heap.size, 0, none⟩ = some (.int .i64 c0) := by go_simp
  have f7_4_1 : (w7.alloc (.cells #[.int .i64 c0, .int .i64 c1] 23)).cell? ⟨w7.heap.size, 1, none⟩ = some (.int .i64 c1) := by go_simp
  have KK4 := Lib.hid (show ∀ W, Below (w7.alloc (.cells #[.int .i64 c0, .int .i64 c1] 23)).heap.size (w7.alloc (.cells #[.int .i64 c0, .int .i64 c1] 23)) W → W.cell? ⟨w7.heap.size, 0, none⟩ = some (.int .i64 c0) ∧ W.cell? ⟨w7.heap.size, 1, none⟩ = some (.int .i64 c1) from fun W h => ⟨(h.cell (p := ⟨w7.heap.size, 0, none⟩) (blt f7_4_0)).trans f7_4_0, (h.cell (p := ⟨w7.heap.size, 1, none⟩) (blt f7_4_1)).trans f7_4_1⟩)
  have C4_7 := Lib.hid (Below.refl (w7.alloc (.cells #[.int .i64 c0, .int .i64 c1] 23)).heap.size (w7.alloc (.cells #[.int .i64 c0, .int .i64 c1] 23)))
  go_wp2_with fail
  refine (PR2.out _ (HL.out.on B7.out).1).mono ?_; rintro e w8 ⟨rfl, hb⟩
  have B8 : RowKit.Hid (Below w.heap.size w w8) := Lib.hid (btr B7.out hb)
  have C0_8 : RowKit.Hid (Below U.heap.size U w8) := Lib.hid (btr C0_7.out hb)
  have C1_8 : RowKit.Hid (Below U.heap.size U w8) := Lib.hid (btr C1_7.out hb)
  have C2_8 : RowKit.Hid (Below (w4.alloc (.cells #[.int .i64 0, .int .i64 0] 23)).heap.size (w4.alloc (.cells #[.int .i64 0, .int .i64 0] 23)) w8) := Lib.hid (btr C2_7.out hb)
  have C3_8 : RowKit.Hid (Below (w6.alloc (.cells #[.int .i64 0, .int .i64 0] 25)).heap.size (w6.alloc (.cells #[.int .i64 0, .int .i64 0] 25)) w8) := Lib.hid (btr C3_7.out hb)
  have C4_8 : RowKit.Hid (Below (w7.alloc (.cells #[.int .i64 c0, .int .i64 c1] 23)).heap.size (w7.alloc (.cells #[.int .i64 c0, .int .i64 c1] 23)) w8) := Lib.hid (btr C4_7.out hb)
  clear f7_0_0 f7_0_1 f7_1_0 f7_1_1 f7_2_0 f7_2_1 f7_3_0 f7_3_1 f7_4_0 f7_4_1 hb
  obtain ⟨f8_0_0, f8_0_1⟩ := KK0.out w8 C0_8.out
  obtain ⟨f8_1_0, f8_1_1⟩ := KK1.out w8 C1_8.out
  obtain ⟨f8_2_0, f8_2_1⟩ := KK2.out w8 C2_8.out
  obtain ⟨f8_3_0, f8_3_1⟩ := KK3.out w8 C3_8.out
  obtain ⟨f8_4_0, f8_4_1⟩ := KK4.out w8 C4_8.out
  go_wp2_with fail
  refine (PA4.out _).mono ?_; rintro e w9 ⟨rfl, hb⟩
  have B9 : RowKit.Hid (Below w.heap.size w (w9.alloc (.cells #[.int .i64 0, .int .i64 0] 25))) := Lib.hid (bal (btr B8.out hb) _)
  have C0_9 : RowKit.Hid (Below U.heap.size U (w9.alloc (.cells #[.int .i64 0, .int .i64 0] 25))) := Lib.hid (bal (btr C0_8.out hb) _)
  have C1_9 : RowKit.Hid (Below U.heap.size U (w9.alloc (.cells #[.int .i64 0, .int .i64 0] 25))) := Lib.hid (bal (btr C1_8.out hb) _)
  have C2_9 : RowKit.Hid (Below (w4.alloc (.cells #[.int .i64 0, .int .i64 0] 23)).heap.size (w4.alloc (.cells #[.int .i64 0, .int .i64 0] 23)) (w9.alloc (.cells #[.int .i64 0, .int .i64 0] 25))) := Lib.hid (bal (btr C2_8.out hb) _)
  have C3_9 : RowKit.Hid (Below (w6.alloc (.cells #[.int .i64 0, .int .i64 0] 25)).heap.size (w6.alloc (.cells #[.int .i64 0, .int .i64 0] 25)) (w9.alloc (.cells #[.int .i64 0, .int .i64 0] 25))) := Lib.hid (bal (btr C3_8.out hb) _)
  have C4_9 : RowKit.Hid (Below (w7.alloc (.cells #[.int .i64 c0, .int .i64 c1] 23)).heap.size (w7.alloc (.cells #[.int .i64 c0, .int .i64 c1] 23)) (w9.alloc (.cells #[.int .i64 0, .int .i64 0] 25))) := Lib.hid (bal (btr C4_8.out hb) _)
  clear f8_0_0 f8_0_1 f8_1_0 f8_1_1 f8_2_0 f8_2_1 f8_3_0 f8_3_1 f8_4_0 f8_4_1 hb
  obtain ⟨f9_0_0, f9_0_1⟩ := KK0.out (w9.alloc (.cells #[.int .i64 0, .int .i64 0] 25)) C0_9.out
  obtain ⟨f9_1_0, f9_1_1⟩ := KK1.out (w9.alloc (.cells #[.int .i64 0, .int .i64 0] 25)) C1_9.out
  obtain ⟨f9_2_0, f9_2_1⟩ := KK2.out (w9.alloc (.cells #[.int .i64 0, .int .i64 0] 25)) C2_9.out
  obtain ⟨f9_3_0, f9_3_1⟩ := KK3.out (w9.alloc (.cells #[.int .i64 0, .int .i64 0] 25)) C3_9.out
  obtain ⟨f9_4_0, f9_4_1⟩ := KK4.out (w9.alloc (.cells #[.int .i64 0, .int .i64 0] 25)) C4_9.out
  have f9_5_0 : (w9.alloc (.cells #[.int .i64 0, .int .i64 0] 25)).cell? ⟨w9.heap.size, 0, none⟩ = some (.int .i64 0) := by go_simp
  have f9_5_1 : (w9.alloc (.cells #[.int .i64 0, .int .i64 0] 25)).cell? ⟨w9.heap.size, 1, none⟩ = some (.int .i64 0) := by go_simp
  have KK5 := Lib.hid (show ∀ W, Below (w9.alloc (.cells #[.int .i64 0, .int .i64 0] 25)).heap.size (w9.alloc (.cells #[.int .i64 0, .int .i64 0] 25)) W → W.cell? ⟨w9.heap.size, 0, none⟩ = some (.int .i64 0) ∧ W.cell? ⟨w9.heap.size, 1, none⟩ = some (.int .i64 0) from fun W h => ⟨(h.cell (p := ⟨w9.heap.size, 0, none⟩) (blt f9_5_0)).trans f9_5_0, (h.cell (p := ⟨w9.heap.size, 1, none⟩) (blt f9_5_1)).trans f9_5_1⟩)
  have C5_9 := Lib.hid (Below.refl (w9.alloc (.cells #[.int .i64 0, .int .i64 0] 25)).heap.size (w9.alloc (.cells #[.int .i64 0, .int .i64 0] 25)))
  go_wp2_with fail
  refine (PT2.out _ (HL.out.on B9.out).1).mono ?_; rintro e w10 ⟨rfl, hb⟩
  have B10 : RowKit.Hid (Below w.heap.size w w10) := Lib.hid (btr B9.out hb)
  have C0_10 : RowKit.Hid (Below U.heap.size U w10) := Lib.hid (btr C0_9.out hb)
  have C1_10 : RowKit.Hid (Below U.heap.size U w10) := Lib.hid (btr C1_9.out hb)
  have C2_10 : RowKit.Hid (Below (w4.alloc (.cells #[.int .i64 0, .int .i64 0] 23)).heap.size (w4.alloc (.cells #[.int .i64 0, .int .i64 0] 23)) w10) := Lib.hid (btr C2_9.out hb)
  have C3_10 : RowKit.Hid (Below (w6.alloc (.cells #[.int .i64 0, .int .i64 0] 25)).heap.size (w6.alloc (.cells #[.int .i64 0, .int .i64 0] 25)) w10) := Lib.hid (btr C3_9.out hb)
  have C4_10 : RowKit.Hid (Below (w7.alloc (.cells #[.int .i64 c0, .int .i64 c1] 23)).heap.size (w7.alloc (.cells #[.int .i64 c0, .int .i64 c1] 23)) w10) := Lib.hid (btr C4_9.out hb)
  have C5_10 : RowKit.Hid (Below (w9.alloc (.cells #[.int .i64 0, .int .i64 0] 25)).heap.size (w9.alloc (.cells #[.int .i64 0, .int .i64 0] 25)) w10) := Lib.hid (btr C5_9.out hb)
  clear f9_0_0 f9_0_1 f9_1_0 f9_1_1 f9_2_0 f9_2_1 f9_3_0 f9_3_1 f9_4_0 f9_4_1 f9_5_0 f9_5_1 hb
  obtain ⟨f10_0_0, f10_0_1⟩ := KK0.out w10 C0_10.out
  obtain ⟨f10_1_0, f10_1_1⟩ := KK1.out w10 C1_10.out
  obtain ⟨f10_2_0, f10_2_1⟩ := KK2.out w10 C2_10.out
  obtain ⟨f10_3_0, f10_3_1⟩ := KK3.out w10 C3_10.out
  obtain ⟨f10_4_0, f10_4_1⟩ := KK4.out w10 C4_10.out
  obtain ⟨f10_5_0, f10_5_1⟩ := KK5.out w10 C5_10.out
  go_wp2_with fail
  refine (R1.out _).mono ?_; rintro e w11 ⟨rfl, hb⟩
  have B11 : RowKit.Hid (Below w.heap.size w w11) := Lib.hid (btr B10.out hb)
  have C0_11 : RowKit.Hid (Below U.heap.size U w11) := Lib.hid (btr C0_10.out hb)
  have C1_11 : RowKit.Hid (Below U.heap.size U w11) := Lib.hid (btr C1_10.out hb)
  have C2_11 : RowKit.Hid (Below (w4.alloc (.cells #[.int .i64 0, .int .i64 0] 23)).heap.size (w4.alloc (.cells #[.int .i64 0, .int .i64 0] 23)) w11) := Lib.hid (btr C2_10.out hb)
  have C3_11 : RowKit.Hid (Below (w6.alloc (.cells #[.int .i64 0, .int .i64 0] 25)).heap.size (w6.alloc (.cells #[.int .i64 0, .int .i64 0] 25)) w11) := Lib.hid (btr C3_10.out hb)
  have C4_11 : RowKit.Hid (Below (w7.alloc (.cells #[.int .i64 c0, .int .i64 c1] 23)).heap.size (w7.alloc (.cells #[.int .i64 c0, .int .i64 c1] 23)) w11) := Lib.hid (btr C4_10.out hb)
  have C5_11 : RowKit.Hid (Below (w9.alloc (.cells #[.int .i64 0, .int .i64 0] 25)).heap.size (w9.alloc (.cells #[.int .i64 0, .int .i64 0] 25)) w11) := Lib.hid (btr C5_10.out hb)
  clear f10_0_0 f10_0_1 f10_1_0 f10_1_1 f10_2_0 f10_2_1 f10_3_0 f10_3_1 f10_4_0 f10_4_1 f10_5_0 f10_5_1 hb
  obtain ⟨f11_0_0, f11_0_1⟩ := KK0.out w11 C0_11.out
  obtain ⟨f11_1_0, f11_1_1⟩ := KK1.out w11 C1_11.out
  obtain ⟨f11_2_0, f11_2_1⟩ := KK2.out w11 C2_11.out
  obtain ⟨f11_3_0, f11_3_1⟩ := KK3.out w11 C3_11.out
  obtain ⟨f11_4_0, f11_4_1⟩ := KK4.out w11 C4_11.out
  obtain ⟨f11_5_0, f11_5_1⟩ := KK5.out w11 C5_11.out
  go_wp2
  go_ret
  exact ⟨ret_bool (by first | rfl | (simp <;> omega)), B11.out⟩

set_option maxRecDepth 100000 in
set_option maxHeartbeats 4000000 in
theorem backL_nnb (F T A P d0 d1 : Int) (s0 S sa sb : ByteArray) (w : World) (hL : Laid w)
    (S0 : Hid (∀ W, Laid W → Calls Tryd.prog 6 #[] W fun x w' => x = .returned (.bool true) ∧ Below W.heap.size W w'))
    (CU : Hid (∀ W, Calls Tryd.prog 7 #[.string s0] W fun x w' => x = .returned (.string S) ∧ Below W.heap.size W w'))
    (PR1 : Hid (∀ W, Tabs W → Calls Tryd.prog 8 #[.agg #[.int .i64 F, .int .i64 T]] W fun x w' => x = .returned (.tuple #[.string sa, .int .i64 70]) ∧ Below W.heap.size W w'))
    (PA1 : Hid (∀ W, ErrT W → Calls Tryd.prog 9 #[.string sa] W fun x w' => x = .returned (.tuple #[.agg #[.int .i64 0, .int .i64 0], .int .i64 70]) ∧ Below W.heap.size W w'))
    (PT1 : Hid (∀ W, Tabs W → Calls Tryd.prog 10 #[.agg #[.int .i64 A, .int .i64 P]] W fun x w' => x = .returned (.tuple #[.string sb, .int .i64 71]) ∧ Below W.heap.size W w'))
    (PA2 : Hid (∀ W, Calls Tryd.prog 11 #[.string sb] W fun x w' => x = .returned (.tuple #[.agg #[.int .i64 0, .int .i64 0], .int .i64 71]) ∧ Below W.heap.size W w'))
    (PA3 : Hid (∀ W, ErrT W → Calls Tryd.prog 9 #[.string S] W fun x w' => x = .returned (.tuple #[.agg #[.int .i64 0, .int .i64 0], .int .i64 70]) ∧ Below W.heap.size W w'))
    (PR2 : Hid (∀ W, Tabs W → Calls Tryd.prog 8 #[.agg #[.int .i64 0, .int .i64 0]] W fun x w' => x = .returned (.tuple #[.string ⟨#[48]⟩, .int .i64 0]) ∧ Below W.heap.size W w'))
    (PA4 : Hid (∀ W, Calls Tryd.prog 11 #[.string S] W fun x w' => x = .returned (.tuple #[.agg #[.int .i64 d0, .int .i64 d1], .int .i64 0]) ∧ Below W.heap.size W w'))
    (PT2 : Hid (∀ W, Tabs W → Calls Tryd.prog 10 #[.agg #[.int .i64 d0, .int .i64 d1]] W fun x w' => x = .returned (.tuple #[.string S, .int .i64 0]) ∧ Below W.heap.size W w'))
    (R1 : Hid (∀ W, Calls Tryd.prog 12 #[.agg #[.int .i64 F, .int .i64 T]] W fun x w' => x = .returned (.bool false) ∧ Below W.heap.size W w'))
    : Calls Tryd.prog 3 #[.agg #[.int .i64 F, .int .i64 T], .agg #[.int .i64 A, .int .i64 P], .string s0] w fun x w' => x = .returned (.bool true) ∧ Below w.heap.size w w' := by
  have HL := Lib.hid hL
  clear hL
  go_enter Tryd.func3, Tryd.ntmps3
  go_wp2_with fail
  have x0_0 : ((w.alloc (.cells #[.int .i64 F, .int .i64 T] 23)).alloc (.cells #[.int .i64 A, .int .i64 P] 25)).cell? ⟨w.heap.size, 0, none⟩ = some (.int .i64 F) := by go_simp
  have x0_1 : ((w.alloc (.cells #[.int .i64 F, .int .i64 T] 23)).alloc (.cells #[.int .i64 A, .int .i64 P] 25)).cell? ⟨w.heap.size, 1, none⟩ = some (.int .i64 T) := by go_simp
  have x1_0 : ((w.alloc (.cells #[.int .i64 F, .int .i64 T] 23)).alloc (.cells #[.int .i64 A, .int .i64 P] 25)).cell? ⟨w.heap.size + 1, 0, none⟩ = some (.int .i64 A) := by go_simp
  have x1_1 : ((w.alloc (.cells #[.int .i64 F, .int .i64 T] 23)).alloc (.cells #[.int .i64 A, .int .i64 P] 25)).cell? ⟨w.heap.size + 1, 1, none⟩ = some (.int .i64 P) := by go_simp
  have B0 : Below w.heap.size w ((w.alloc (.cells #[.int .i64 F, .int .i64 T] 23)).alloc (.cells #[.int .i64 A, .int .i64 P] 25)) := (bal ((bal (Below.refl _ w) _)) _)
  generalize ((w.alloc (.cells #[.int .i64 F, .int .i64 T] 23)).alloc (.cells #[.int .i64 A, .int .i64 P] 25)) = U at *
  have KK0 := Lib.hid (show ∀ W, Below U.heap.size U W → W.cell? ⟨w.heap.size, 0, none⟩ = some (.int .i64 F) ∧ W.cell? ⟨w.heap.size, 1, none⟩ = some (.int .i64 T) from fun W h => ⟨(h.cell (p := ⟨w.heap.size, 0, none⟩) (blt x0_0)).trans x0_0, (h.cell (p := ⟨w.heap.size, 1, none⟩) (blt x0_1)).trans x0_1⟩)
  have KK1 := Lib.hid (show ∀ W, Below U.heap.size U W → W.cell? ⟨w.heap.size + 1, 0, none⟩ = some (.int .i64 A) ∧ W.cell? ⟨w.heap.size + 1, 1, none⟩ = some (.int .i64 P) from fun W h => ⟨(h.cell (p := ⟨w.heap.size + 1, 0, none⟩) (blt x1_0)).trans x1_0, (h.cell (p := ⟨w.heap.size + 1, 1, none⟩) (blt x1_1)).trans x1_1⟩)
  have C0_0 := Lib.hid (Below.refl U.heap.size U)
  have C1_0 := Lib.hid (Below.refl U.heap.size U)
  replace B0 := Lib.hid B0
  refine (S0.out _ (HL.out.on B0.out)).mono ?_; rintro e w1 ⟨rfl, hb⟩
  have B1 : RowKit.Hid (Below w.heap.size w w1) := Lib.hid (btr B0.out hb)
  have C0_1 : RowKit.Hid (Below U.heap.size U w1) := Lib.hid (btr C0_0.out hb)
  have C1_1 : RowKit.Hid (Below U.heap.size U w1) := Lib.hid (btr C1_0.out hb)
  clear x0_0 x0_1 x1_0 x1_1 hb
  obtain ⟨f1_0_0, f1_0_1⟩ := KK0.out w1 C0_1.out
  obtain ⟨f1_1_0, f1_1_1⟩ := KK1.out w1 C1_1.out
  go_wp2_with fail
  refine (CU.out _).mono ?_; rintro e w2 ⟨rfl, hb⟩
  have B2 : RowKit.Hid (Below w.heap.size w w2) := Lib.hid (btr B1.out hb)
  have C0_2 : RowKit.Hid (Below U.heap.size U w2) := Lib.hid (btr C0_1.out hb)
  have C1_2 : RowKit.Hid (Below U.heap.size U w2) := Lib.hid (btr C1_1.out hb)
  clear f1_0_0 f1_0_1 f1_1_0 f1_1_1 hb
  obtain ⟨f2_0_0, f2_0_1⟩ := KK0.out w2 C0_2.out
  obtain ⟨f2_1_0, f2_1_1⟩ := KK1.out w2 C1_2.out
  go_wp2_with fail
  refine (PR1.out _ (HL.out.on B2.out).1).mono ?_; rintro e w3 ⟨rfl, hb⟩
  have B3 : RowKit.Hid (Below w.heap.size w w3) := Lib.hid (btr B2.out hb)
  have C0_3 : RowKit.Hid (Below U.heap.size U w3) := Lib.hid (btr C0_2.out hb)
  have C1_3 : RowKit.Hid (Below U.heap.size U w3) := Lib.hid (btr C1_2.out hb)
  clear f2_0_0 f2_0_1 f2_1_0 f2_1_1 hb
  obtain ⟨f3_0_0, f3_0_1⟩ := KK0.out w3 C0_3.out
  obtain ⟨f3_1_0, f3_1_1⟩ := KK1.out w3 C1_3.out
  go_wp2_with fail
  refine (PA1.out _ (HL.out.on B3.out).2).mono ?_; rintro e w4 ⟨rfl, hb⟩
  have B4 : RowKit.Hid (Below w.heap.size w (w4.alloc (.cells #[.int .i64 0, .int .i64 0] 23))) := Lib.hid (bal (btr B3.out hb) _)
  have C0_4 : RowKit.Hid (Below U.heap.size U (w4.alloc (.cells #[.int .i64 0, .int .i64 0] 23))) := Lib.hid (bal (btr C0_3.out hb) _)
  have C1_4 : RowKit.Hid (Below U.heap.size U (w4.alloc (.cells #[.int .i64 0, .int .i64 0] 23))) := Lib.hid (bal (btr C1_3.out hb) _)
  clear f3_0_0 f3_0_1 f3_1_0 f3_1_1 hb
  obtain ⟨f4_0_0, f4_0_1⟩ := KK0.out (w4.alloc (.cells #[.int .i64 0, .int .i64 0] 23)) C0_4.out
  obtain ⟨f4_1_0, f4_1_1⟩ := KK1.out (w4.alloc (.cells #[.int .i64 0, .int .i64 0] 23)) C1_4.out
  have f4_2_0 : (w4.alloc (.cells #[.int .i64 0, .int .i64 0] 23)).cell? ⟨w4.heap.size, 0, none⟩ = some (.int .i64 0) := by go_simp
  have f4_2_1 : (w4.alloc (.cells #[.int .i64 0, .int .i64 0] 23)).cell? ⟨w4.heap.size, 1, none⟩ = some (.int .i64 0) := by go_simp
  have KK2 := Lib.hid (show ∀ W, Below (w4.alloc (.cells #[.int .i64 0, .int .i64 0] 23)).heap.size (w4.alloc (.cells #[.int .i64 0, .int .i64 0] 23)) W → W.cell? ⟨w4.heap.size, 0, none⟩ = some (.int .i64 0) ∧ W.cell? ⟨w4.heap.size, 1, none⟩ = some (.int .i64 0) from fun W h => ⟨(h.cell (p := ⟨w4.heap.size, 0, none⟩) (blt f4_2_0)).trans f4_2_0, (h.cell (p := ⟨w4.heap.size, 1, none⟩) (blt f4_2_1)).trans f4_2_1⟩)
  have C2_4 := Lib.hid (Below.refl (w4.alloc (.cells #[.int .i64 0, .int .i64 0] 23)).heap.size (w4.alloc (.cells #[.int .i64 0, .int .i64 0] 23)))
  go_wp2_with fail
  refine (PT1.out _ (HL.out.on B4.out).1).mono ?_; rintro e w5 ⟨rfl, hb⟩
  have B5 : RowKit.Hid (Below w.heap.size w w5) := Lib.hid (btr B4.out hb)
  have C0_5 : RowKit.Hid (Below U.heap.size U w5) := Lib.hid (btr C0_4.out hb)
  have C1_5 : RowKit.Hid (Below U.heap.size U w5) := Lib.hid (btr C1_4.out hb)
  have C2_5 : RowKit.Hid (Below (w4.alloc (.cells #[.int .i64 0, .int .i64 0] 23)).heap.size (w4.alloc (.cells #[.int .i64 0, .int .i64 0] 23)) w5) := Lib.hid (btr C2_4.out hb)
  clear f4_0_0 f4_0_1 f4_1_0 f4_1_1 f4_2_0 f4_2_1 hb
  obtain ⟨f5_0_0, f5_0_1⟩ := KK0.out w5 C0_5.out
  obtain ⟨f5_1_0, f5_1_1⟩ := KK1.out w5 C1_5.out
  obtain ⟨f5_2_0, f5_2_1⟩ := KK2.out w5 C2_5.out
  go_wp2_with fail
  refine (PA2.out _).mono ?_; rintro e w6 ⟨rfl, hb⟩
  have B6 : RowKit.Hid (Below w.heap.size w (w6.alloc (.cells #[.int .i64 0, .int .i64 0] 25))) := Lib.hid (bal (btr B5.out hb) _)
  have C0_6 : RowKit.Hid (Below U.heap.size U (w6.alloc (.cells #[.int .i64 0, .int .i64 0] 25))) := Lib.hid (bal (btr C0_5.out hb) _)
  have C1_6 : RowKit.Hid (Below U.heap.size U (w6.alloc (.cells #[.int .i64 0, .int .i64 0] 25))) := Lib.hid (bal (btr C1_5.out hb) _)
  have C2_6 : RowKit.Hid (Below (w4.alloc (.cells #[.int .i64 0, .int .i64 0] 23)).heap.size (w4.alloc (.cells #[.int .i64 0, .int .i64 0] 23)) (w6.alloc (.cells #[.int .i64 0, .int .i64 0] 25))) := Lib.hid (bal (btr C2_5.out hb) _)
  clear f5_0_0 f5_0_1 f5_1_0 f5_1_1 f5_2_0 f5_2_1 hb
  obtain ⟨f6_0_0, f6_0_1⟩ := KK0.out (w6.alloc (.cells #[.int .i64 0, .int .i64 0] 25)) C0_6.out
  obtain ⟨f6_1_0, f6_1_1⟩ := KK1.out (w6.alloc (.cells #[.int .i64 0, .int .i64 0] 25)) C1_6.out
  obtain ⟨f6_2_0, f6_2_1⟩ := KK2.out (w6.alloc (.cells #[.int .i64 0, .int .i64 0] 25)) C2_6.out
  have f6_3_0 : (w6.alloc (.cells #[.int .i64 0, .int .i64 0] 25)).cell? ⟨w6.heap.size, 0, none⟩ = some (.int .i64 0) := by go_simp
  have f6_3_1 : (w6.alloc (.cells #[.int .i64 0, .int .i64 0] 25)).cell? ⟨w6.heap.size, 1, none⟩ = some (.int .i64 0) := by go_simp
  have KK3 := Lib.hid (show ∀ W, Below (w6.alloc (.cells #[.int .i64 0, .int .i64 0] 25)).heap.size (w6.alloc (.cells #[.int .i64 0, .int .i64 0] 25)) W → W.cell? ⟨w6.heap.size, 0, none⟩ = some (.int .i64 0) ∧ W.cell? ⟨w6.heap.size, 1, none⟩ = some (.int .i64 0) from fun W h => ⟨(h.cell (p := ⟨w6.heap.size, 0, none⟩) (blt f6_3_0)).trans f6_3_0, (h.cell (p := ⟨w6.heap.size, 1, none⟩) (blt f6_3_1)).trans f6_3_1⟩)
  have C3_6 := Lib.hid (Below.refl (w6.alloc (.cells #[.int .i64 0, .int .i64 0] 25)).heap.size (w6.alloc (.cells #[.int .i64 0, .int .i64 0] 25)))
  go_wp2_with fail
  refine (PA3.out _ (HL.out.on B6.out).2).mono ?_; rintro e w7 ⟨rfl, hb⟩
  have B7 : RowKit.Hid (Below w.heap.size w (w7.alloc (.cells #[.int .i64 0, .int .i64 0] 23))) := Lib.hid (bal (btr B6.out hb) _)
  have C0_7 : RowKit.Hid (Below U.heap.size U (w7.alloc (.cells #[.int .i64 0, .int .i64 0] 23))) := Lib.hid (bal (btr C0_6.out hb) _)
  have C1_7 : RowKit.Hid (Below U.heap.size U (w7.alloc (.cells #[.int .i64 0, .int .i64 0] 23))) := Lib.hid (bal (btr C1_6.out hb) _)
  have C2_7 : RowKit.Hid (Below (w4.alloc (.cells #[.int .i64 0, .int .i64 0] 23)).heap.size (w4.alloc (.cells #[.int .i64 0, .int .i64 0] 23)) (w7.alloc (.cells #[.int .i64 0, .int .i64 0] 23))) := Lib.hid (bal (btr C2_6.out hb) _)
  have C3_7 : RowKit.Hid (Below (w6.alloc (.cells #[.int .i64 0, .int .i64 0] 25)).heap.size (w6.alloc (.cells #[.int .i64 0, .int .i64 0] 25)) (w7.alloc (.cells #[.int .i64 0, .int .i64 0] 23))) := Lib.hid (bal (btr C3_6.out hb) _)
  clear f6_0_0 f6_0_1 f6_1_0 f6_1_1 f6_2_0 f6_2_1 f6_3_0 f6_3_1 hb
  obtain ⟨f7_0_0, f7_0_1⟩ := KK0.out (w7.alloc (.cells #[.int .i64 0, .int .i64 0] 23)) C0_7.out
  obtain ⟨f7_1_0, f7_1_1⟩ := KK1.out (w7.alloc (.cells #[.int .i64 0, .int .i64 0] 23)) C1_7.out
  obtain ⟨f7_2_0, f7_2_1⟩ := KK2.out (w7.alloc (.cells #[.int .i64 0, .int .i64 0] 23)) C2_7.out
  obtain ⟨f7_3_0, f7_3_1⟩ := KK3.out (w7.alloc (.cells #[.int .i64 0, .int .i64 0] 23)) C3_7.out
  have f7_4_0 : (w7.alloc (.cells #[.int .i64 0, .int .i64 0] 23)).cell? ⟨w7.heap.size, 0, none⟩ = some (.int .i64 0) := by go_simp
  have f7_4_1 : (w7.alloc (.cells #[.int .i64 0, .int .i64 0] 23)).cell? ⟨w7.heap.size, 1, none⟩ = some (.int .i64 0) := by go_simp
  have KK4 := Lib.hid (show ∀ W, Below (w7.alloc (.cells #[.int .i64 0, .int .i64 0] 23)).heap.size (w7.alloc (.cells #[.int .i64 0, .int .i64 0] 23)) W → W.cell? ⟨w7.heap.size, 0, none⟩ = some (.int .i64 0) ∧ W.cell? ⟨w7.heap.size, 1, none⟩ = some (.int .i64 0) from fun W h => ⟨(h.cell (p := ⟨w7.heap.size, 0, none⟩) (blt f7_4_0)).trans f7_4_0, (h.cell (p := ⟨w7.heap.size, 1, none⟩) (blt f7_4_1)).trans f7_4_1⟩)
  have C4_7 := Lib.hid (Below.refl (w7.alloc (.cells #[.int .i64 0, .int .i64 0] 23)).heap.size (w7.alloc (.cells #[.int .i64 0, .int .i64 0] 23)))
  go_wp2_with fail
  refine (PR2.out _ (HL.out.on B7.out).1).mono ?_; rintro e w8 ⟨rfl, hb⟩
  have B8 : RowKit.Hid (Below w.heap.size w w8) := Lib.hid (btr B7.out hb)
  have C0_8 : RowKit.Hid (Below U.heap.size U w8) := Lib.hid (btr C0_7.out hb)
  have C1_8 : RowKit.Hid (Below U.heap.size U w8) := Lib.hid (btr C1_7.out hb)
  have C2_8 : RowKit.Hid (Below (w4.alloc (.cells #[.int .i64 0, .int .i64 0] 23)).heap.size (w4.alloc (.cells #[.int .i64 0, .int .i64 0] 23)) w8) := Lib.hid (btr C2_7.out hb)
  have C3_8 : RowKit.Hid (Below (w6.alloc (.cells #[.int .i64 0, .int .i64 0] 25)).heap.size (w6.alloc (.cells #[.int .i64 0, .int .i64 0] 25)) w8) := Lib.hid (btr C3_7.out hb)
  have C4_8 : RowKit.Hid (Below (w7.alloc (.cells #[.int .i64 0, .int .i64 0] 23)).heap.size (w7.alloc (.cells #[.int .i64 0, .int .i64 0] 23)) w8) := Lib.hid (btr C4_7.out hb)
  clear f7_0_0 f7_0_1 f7_1_0 f7_1_1 f7_2_0 f7_2_1 f7_3_0 f7_3_1 f7_4_0 f7_4_1 hb
  obtain ⟨f8_0_0, f8_0_1⟩ := KK0.out w8 C0_8.out
  obtain ⟨f8_1_0, f8_1_1⟩ := KK1.out w8 C1_8.out
  obtain ⟨f8_2_0, f8_2_1⟩ := KK2.out w8 C2_8.out
  obtain ⟨f8_3_0, f8_3_1⟩ := KK3.out w8 C3_8.out
  obtain ⟨f8_4_0, f8_4_1⟩ := KK4.out w8 C4_8.out
  go_wp2_with fail
  refine (PA4.out _).mono ?_; rintro e w9 ⟨rfl, hb⟩
  have B9 : RowKit.Hid (Below w.heap.size w (w9.alloc (.cells #[.int .i64 d0, .int .i64 d1] 25))) := Lib.hid (bal (btr B8.out hb) _)
  have C0_9 : RowKit.Hid (Below U.heap.size U (w9.alloc (.cells #[.int .i64 d0, .int .i64 d1] 25))) := Lib.hid (bal (btr C0_8.out hb) _)
  have C1_9 : RowKit.Hid (Below U.heap.size U (w9.alloc (.cells #[.int .i64 d0, .int .i64 d1] 25))) := Lib.hid (bal (btr C1_8.out hb) _)
  have C2_9 : RowKit.Hid (Below (w4.alloc (.cells #[.int .i64 0, .int .i64 0] 23)).heap.size (w4.alloc (.cells #[.int .i64 0, .int .i64 0] 23)) (w9.alloc (.cells #[.int .i64 d0, .int .i64 d1] 25))) := Lib.hid (bal (btr C2_8.out hb) _)
  have C3_9 : RowKit.Hid (Below (w6.alloc (.cells #[.int .i64 0, .int .i64 0] 25)).heap.size (w6.alloc (.cells #[.int .i64 0, .int .i64 0] 25)) (w9.alloc (.cells #[.int .i64 d0, .int .i64 d1] 25))) := Lib.hid (bal (btr C3_8.out hb) _)
  have C4_9 : RowKit.Hid (Below (w7.alloc (.cells #[.int .i64 0, .int .i64 0] 23)).heap.size (w7.alloc (.cells #[.int .i64 0, .int .i64 0] 23)) (w9.alloc (.cells #[.int .i64 d0, .int .i64 d1] 25))) := Lib.hid (bal (btr C4_8.out hb) _)
  clear f8_0_0 f8_0_1 f8_1_0 f8_1_1 f8_2_0 f8_2_1 f8_3_0 f8_3_1 f8_4_0 f8_4_1 hb
  obtain ⟨f9_0_0, f9_0_1⟩ := KK0.out (w9.alloc (.cells #[.int .i64 d0, .int .i64 d1] 25)) C0_9.out
  obtain ⟨f9_1_0, f9_1_1⟩ := KK1.out (w9.alloc (.cells #[.int .i64 d0, .int .i64 d1] 25)) C1_9.out
  obtain ⟨f9_2_0, f9_2_1⟩ := KK2.out (w9.alloc (.cells #[.int .i64 d0, .int .i64 d1] 25)) C2_9.out
  obtain ⟨f9_3_0, f9_3_1⟩ := KK3.out (w9.alloc (.cells #[.int .i64 d0, .int .i64 d1] 25)) C3_9.out
  obtain ⟨f9_4_0, f9_4_1⟩ := KK4.out (w9.alloc (.cells #[.int .i64 d0, .int .i64 d1] 25)) C4_9.out
  have f9_5_0 : (w9.alloc (.cells #[.int .i64 d0, .int .i64 d1] 25)).cell? ⟨w9.heap.size, 0, none⟩ = some (.int .i64 d0) := by go_simp
  have f9_5_1 : (w9.alloc (.cells #[.int .i64 d0, .int .i64 d1] 25)).cell? ⟨w9.heap.size, 1, none⟩ = some (.int .i64 d1) := by go_simp
  have KK5 := Lib.hid (show ∀ W, Below (w9.alloc (.cells #[.int .i64 d0, .int .i64 d1] 25)).heap.size (w9.alloc (.cells #[.int .i64 d0, .int .i64 d1] 25)) W → W.cell? ⟨w9.heap.size, 0, none⟩ = some (.int .i64 d0) ∧ W.cell? ⟨w9.heap.size, 1, none⟩ = some (.int .i64 d1) from fun W h => ⟨(h.cell (p := ⟨w9.heap.size, 0, none⟩) (blt f9_5_0)).trans f9_5_0, (h.cell (p := ⟨w9.heap.size, 1, none⟩) (blt f9_5_1)).trans f9_5_1⟩)
  have C5_9 := Lib.hid (Below.refl (w9.alloc (.cells #[.int .i64 d0, .int .i64 d1] 25)).heap.size (w9.alloc (.cells #[.int .i64 d0, .int .i64 d1] 25)))
  go_wp2_with fail
  refine (PT2.out _ (HL.out.on B9.out).1).mono ?_; rintro e w10 ⟨rfl, hb⟩
  have B10 : RowKit.Hid (Below w.heap.size w w10) := Lib.hid (btr B9.out hb)
  have C0_10 : RowKit.Hid (Below U.heap.size U w10) := Lib.hid (btr C0_9.out hb)
  have C1_10 : RowKit.Hid (Below U.heap.size U w10) := Lib.hid (btr C1_9.out hb)
  have C2_10 : RowKit.Hid (Below (w4.alloc (.cells #[.int .i64 0, .int .i64 0] 23)).heap.size (w4.alloc (.cells #[.int .i64 0, .int .i64 0] 23)) w10) := Lib.hid (btr C2_9.out hb)
  have C3_10 : RowKit.Hid (Below (w6.alloc (.cells #[.int .i64 0, .int .i64 0] 25)).heap.size (w6.alloc (.cells #[.int .i64 0, .int .i64 0] 25)) w10) := Lib.hid (btr C3_9.out hb)
  have C4_10 : RowKit.Hid (Below (w7.alloc (.cells #[.int .i64 0, .int .i64 0] 23)).heap.size (w7.alloc (.cells #[.int .i64 0, .int .i64 0] 23)) w10) := Lib.hid (btr C4_9.out hb)
  have C5_10 : RowKit.Hid (Below (w9.alloc (.cells #[.int .i64 d0, .int .i64 d1] 25)).heap.size (w9.alloc (.cells #[.int .i64 d0, .int .i64 d1] 25)) w10) := Lib.hid (btr C5_9.out hb)
  clear f9_0_0 f9_0_1 f9_1_0 f9_1_1 f9_2_0 f9_2_1 f9_3_0 f9_3_1 f9_4_0 f9_4_1 f9_5_0 f9_5_1 hb
  obtain ⟨f10_0_0, f10_0_1⟩ := KK0.out w10 C0_10.out
  obtain ⟨f10_1_0, f10_1_1⟩ := KK1.out w10 C1_10.out
  obtain ⟨f10_2_0, f10_2_1⟩ := KK2.out w10 C2_10.out
  obtain ⟨f10_3_0, f10_3_1⟩ := KK3.out w10 C3_10.out
  obtain ⟨f10_4_0, f10_4_1⟩ := KK4.out w10 C4_10.out
  obtain ⟨f10_5_0, f10_5_1⟩ := KK5.out w10 C5_10.out
  go_wp2_with fail
  refine (R1.out _).mono ?_; rintro e w11 ⟨rfl, hb⟩
  have B11 : RowKit.Hid (Below w.heap.size w w11) := Lib.hid (btr B10.out hb)
  have C0_11 : RowKit.Hid (Below U.heap.size U w11) := Lib.hid (btr C0_10.out hb)
  have C1_11 : RowKit.Hid (Below U.heap.size U w11) := Lib.hid (btr C1_10.out hb)
  have C2_11 : RowKit.Hid (Below (w4.alloc (.cells #[.int .i64 0, .int .i64 0] 23)).heap.size (w4.alloc (.cells #[.int .i64 0, .int .i64 0] 23)) w11) := Lib.hid (btr C2_10.out hb)
  have C3_11 : RowKit.Hid (Below (w6.alloc (.cells #[.int .i64 0, .int .i64 0] 25)).heap.size (w6.alloc (.cells #[.int .i64 0, .int .i64 0] 25)) w11) := Lib.hid (btr C3_10.out hb)
  have C4_11 : RowKit.Hid (Below (w7.alloc (.cells #[.int .i64 0, .int .i64 0] 23)).heap.size (w7.alloc (.cells #[.int .i64 0, .int .i64 0] 23)) w11) := Lib.hid (btr C4_10.out hb)
  have C5_11 : RowKit.Hid (Below (w9.alloc (.cells #[.int .i64 d0, .int .i64 d1] 25)).heap.size (w9.alloc (.cells #[.int .i64 d0, .int .i64 d1] 25)) w11) := Lib.hid (btr C5_10.out hb)
  clear f10_0_0 f10_0_1 f10_1_0 f10_1_1 f10_2_0 f10_2_1 f10_3_0 f10_3_1 f10_4_0 f10_4_1 f10_5_0 f10_5_1 hb
  obtain ⟨f11_0_0, f11_0_1⟩ := KK0.out w11 C0_11.out
  obtain ⟨f11_1_0, f11_1_1⟩ := KK1.out w11 C1_11.out
  obtain ⟨f11_2_0, f11_2_1⟩ := KK2.out w11 C2_11.out
  obtain ⟨f11_3_0, f11_3_1⟩ := KK3.out w11 C3_11.out
  obtain ⟨f11_4_0, f11_4_1⟩ := KK4.out w11 C4_11.out
  obtain ⟨f11_5_0, f11_5_1⟩ := KK5.out w11 C5_11.out
  go_wp2
  go_ret
  exact ⟨ret_bool (by first | rfl | (simp <;> omega)), B11.out⟩

set_option maxRecDepth 100000 in
set_option maxHeartbeats 4000000 in
theorem backL_nnc (F T A P : Int) (s0 S sa sb : ByteArray) (w : World) (hL : Laid w)
    (S0 : Hid (∀ W, Laid W → Calls Tryd.prog 6 #[] W fun x w' => x = .returned (.bool true) ∧ Below W.heap.size W w'))
    (CU : Hid (∀ W, Calls Tryd.prog 7 #[.string s0] W fun x w' => x = .returned (.string S) ∧ Below W.heap.size W w'))
    (PR1 : Hid (∀ W, Tabs W → Calls Tryd.prog 8 #[.agg #[.int .i64 F, .int .i64 T]] W fun x w' => x = .returned (.tuple #[.string sa, .int .i64 70]) ∧ Below W.heap.size W w'))
    (PA1 : Hid (∀ W, ErrT W → Calls Tryd.prog 9 #[.string sa] W fun x w' => x = .returned (.tuple #[.agg #[.int .i64 0, .int .i64 0], .int .i64 70]) ∧ Below W.heap.size W w'))
    (PT1 : Hid (∀ W, Tabs W → Calls Tryd.prog 10 #[.agg #[.int .i64 A, .int .i64 P]] W fun x w' => x = .returned (.tuple #[.string sb, .int .i64 71]) ∧ Below W.heap.size W w'))
    (PA2 : Hid (∀ W, Calls Tryd.prog 11 #[.string sb] W fun x w' => x = .returned (.tuple #[.agg #[.int .i64 0, .int .i64 0], .int .i64 71]) ∧ Below W.heap.size W w'))
    (PA3 : Hid (∀ W, ErrT W → Calls Tryd.prog 9 #[.string S] W fun x w' => x = .returned (.tuple #[.agg #[.int .i64 0, .int .i64 0], .int .i64 70]) ∧ Below W.heap.size W w'))
    (PR2 : Hid (∀ W, Tabs W → Calls Tryd.prog 8 #[.agg #[.int .i64 0, .int .i64 0]] W fun x w' => x = .returned (.tuple #[.string ⟨#[48]⟩, .int .i64 0]) ∧ Below W.heap.size W w'))
    (PA4 : Hid (∀ W, Calls Tryd.prog 11 #[.string S] W fun x w' => x = .returned (.tuple #[.agg #[.int .i64 0, .int .i64 0], .int .i64 71]) ∧ Below W.heap.size W w'))
    (PT2 : Hid (∀ W, Tabs W → Calls Tryd.prog 10 #[.agg #[.int .i64 0, .int .i64 0]] W fun x w' => x = .returned (.tuple #[.string ⟨#[]⟩, .int .i64 71]) ∧ Below W.heap.size W w'))
    (R1 : Hid (∀ W, Calls Tryd.prog 12 #[.agg #[.int .i64 F, .int .i64 T]] W fun x w' => x = .returned (.bool false) ∧ Below W.heap.size W w'))
    : Calls Tryd.prog 3 #[.agg #[.int .i64 F, .int .i64 T], .agg #[.int .i64 A, .int .i64 P], .string s0] w fun x w' => x = .returned (.bool true) ∧ Below w.heap.size w w' := by
  have HL := Lib.hid hL
  clear hL
  go_enter Tryd.func3, Tryd.ntmps3
  go_wp2_with fail
  have x0_0 : ((w.alloc (.cells #[.int .i64 F, .int .i64 T] 23)).alloc (.cells #[.int .i64 A, .int .i64 P] 25)).cell? ⟨w.heap.size, 0, none⟩ = some (.int .i64 F) := by go_simp
  have x0_1 : ((w.alloc (.cells #[.int .i64 F, .int .i64 T] 23)).alloc (.cells #[.int .i64 A, .int .i64 P] 25)).cell? ⟨w.heap.size, 1, none⟩ = some (.int .i64 T) := by go_simp
  have x1_0 : ((w.alloc (.cells #[.int .i64 F, .int .i64 T] 23)).alloc (.cells #[.int .i64 A, .int .i64 P] 25)).cell? ⟨w.heap.size + 1, 0, none⟩ = some (.int .i64 A) := by go_simp
  have x1_1 : ((w.alloc (.cells #[.int .i64 F, .int .i64 T] 23)).alloc (.cells #[.int .i64 A, .int .i64 P] 25)).cell? ⟨w.heap.size + 1, 1, none⟩ = some (.int .i64 P) := by go_simp
  have B0 : Below w.heap.size w ((w.alloc (.cells #[.int .i64 F, .int .i64 T] 23)).alloc (.cells #[.int .i64 A, .int .i64 P] 25)) := (bal ((bal (Below.refl _ w) _)) _)
  generalize ((w.alloc (.cells #[.int .i64 F, .int .i64 T] 23)).alloc (.cells #[.int .i64 A, .int .i64 P] 25)) = U at *
  have KK0 := Lib.hid (show ∀ W, Below U.heap.size U W → W.cell? ⟨w.heap.size, 0, none⟩ = some (.int .i64 F) ∧ W.cell? ⟨w.heap.size, 1, none⟩ = some (.int .i64 T) from fun W h => ⟨(h.cell (p := ⟨w.heap.size, 0, none⟩) (blt x0_0)).trans x0_0, (h.cell (p := ⟨w.heap.size, 1, none⟩) (blt x0_1)).trans x0_1⟩)
  have KK1 := Lib.hid (show ∀ W, Below U.heap.size U W → W.cell? ⟨w.heap.size + 1, 0, none⟩ = some (.int .i64 A) ∧ W.cell? ⟨w.heap.size + 1, 1, none⟩ = some (.int .i64 P) from fun W h => ⟨(h.cell (p := ⟨w.heap.size + 1, 0, none⟩) (blt x1_0)).trans x1_0, (h.cell (p := ⟨w.heap.size + 1, 1, none⟩) (blt x1_1)).trans x1_1⟩)
  have C0_0 := Lib.hid (Below.refl U.heap.size U)
  have C1_0 := Lib.hid (Below.refl U.heap.size U)
  replace B0 := Lib.hid B0
  refine (S0.out _ (HL.out.on B0.out)).mono ?_; rintro e w1 ⟨rfl, hb⟩
  have B1 : RowKit.Hid (Below w.heap.size w w1) := Lib.hid (btr B0.out hb)
  have C0_1 : RowKit.Hid (Below U.heap.size U w1) := Lib.hid (btr C0_0.out hb)
  have C1_1 : RowKit.Hid (Below U.heap.size U w1) := Lib.hid (btr C1_0.out hb)
  clear x0_0 x0_1 x1_0 x1_1 hb
  obtain ⟨f1_0_0, f1_0_1⟩ := KK0.out w1 C0_1.out
  obtain ⟨f1_1_0, f1_1_1⟩ := KK1.out w1 C1_1.out
  go_wp2_with fail
  refine (CU.out _).mono ?_; rintro e w2 ⟨rfl, hb⟩
  have B2 : RowKit.Hid (Below w.heap.size w w2) := Lib.hid (btr B1.out hb)
  have C0_2 : RowKit.Hid (Below U.heap.size U w2) := Lib.hid (btr C0_1.out hb)
  have C1_2 : RowKit.Hid (Below U.heap.size U w2) := Lib.hid (btr C1_1.out hb)
  clear f1_0_0 f1_0_1 f1_1_0 f1_1_1 hb
  obtain ⟨f2_0_0, f2_0_1⟩ := KK0.out w2 C0_2.out
  obtain ⟨f2_1_0, f2_1_1⟩ := KK1.out w2 C1_2.out
  go_wp2_with fail
  refine (PR1.out _ (HL.out.on B2.out).1).mono ?_; rintro e w3 ⟨rfl, hb⟩
  have B3 : RowKit.Hid (Below w.heap.size w w3) := Lib.hid (btr B2.out hb)
  have C0_3 : RowKit.Hid (Below U.heap.size U w3) := Lib.hid (btr C0_2.out hb)
  have C1_3 : RowKit.Hid (Below U.heap.size U w3) := Lib.hid (btr C1_2.out hb)
  clear f2_0_0 f2_0_1 f2_1_0 f2_1_1 hb
  obtain ⟨f3_0_0, f3_0_1⟩ := KK0.out w3 C0_3.out
  obtain ⟨f3_1_0, f3_1_1⟩ := KK1.out w3 C1_3.out
  go_wp2_with fail
  refine (PA1.out _ (HL.out.on B3.out).2).mono ?_; rintro e w4 ⟨rfl, hb⟩
  have B4 : RowKit.Hid (Below w.heap.size w (w4.alloc (.cells #[.int .i64 0, .int .i64 0] 23))) := Lib.hid (bal (btr B3.out hb) _)
  have C0_4 : RowKit.Hid (Below U.heap.size U (w4.alloc (.cells #[.int .i64 0, .int .i64 0] 23))) := Lib.hid (bal (btr C0_3.out hb) _)
  have C1_4 : RowKit.Hid (Below U.heap.size U (w4.alloc (.cells #[.int .i64 0, .int .i64 0] 23))) := Lib.hid (bal (btr C1_3.out hb) _)
  clear f3_0_0 f3_0_1 f3_1_0 f3_1_1 hb
  obtain ⟨f4_0_0, f4_0_1⟩ := KK0.out (w4.alloc (.cells #[.int .i64 0, .int .i64 0] 23)) C0_4.out
  obtain ⟨f4_1_0, f4_1_1⟩ := KK1.out (w4.alloc (.cells #[.int .i64 0, .int .i64 0] 23)) C1_4.out
  have f4_2_0 : (w4.alloc (.cells #[.int .i64 0, .int .i64 0] 23)).cell? ⟨w4.heap.size, 0, none⟩ = some (.int .i64 0) := by go_simp
  have f4_2_1 : (w4.alloc (.cells #[.int .i64 0, .int .i64 0] 23)).cell? ⟨w4.heap.size, 1, none⟩ = some (.int .i64 0) := by go_simp
  have KK2 := Lib.hid (show ∀ W, Below (w4.alloc (.cells #[.int .i64 0, .int .i64 0] 23)).heap.size (w4.alloc (.cells #[.int .i64 0, .int .i64 0] 23)) W → W.cell? ⟨w4.heap.size, 0, none⟩ = some (.int .i64 0) ∧ W.cell? ⟨w4.heap.size, 1, none⟩ = some (.int .i64 0) from fun W h => ⟨(h.cell (p := ⟨w4.heap.size, 0, none⟩) (blt f4_2_0)).trans f4_2_0, (h.cell (p := ⟨w4.heap.size, 1, none⟩) (blt f4_2_1)).trans f4_2_1⟩)
  have C2_4 := Lib.hid (Below.refl (w4.alloc (.cells #[.int .i64 0, .int .i64 0] 23)).heap.size (w4.alloc (.cells #[.int .i64 0, .int .i64 0] 23)))
  go_wp2_with fail
  refine (PT1.out _ (HL.out.on B4.out).1).mono ?_; rintro e w5 ⟨rfl, hb⟩
  have B5 : RowKit.Hid (Below w.heap.size w w5) := Lib.hid (btr B4.out hb)
  have C0_5 : RowKit.Hid (Below U.heap.size U w5) := Lib.hid (btr C0_4.out hb)
  have C1_5 : RowKit.Hid (Below U.heap.size U w5) := Lib.hid (btr C1_4.out hb)
  have C2_5 : RowKit.Hid (Below (w4.alloc (.cells #[.int .i64 0, .int .i64 0] 23)).heap.size (w4.alloc (.cells #[.int .i64 0, .int .i64 0] 23)) w5) := Lib.hid (btr C2_4.out hb)
  clear f4_0_0 f4_0_1 f4_1_0 f4_1_1 f4_2_0 f4_2_1 hb
  obtain ⟨f5_0_0, f5_0_1⟩ := KK0.out w5 C0_5.out
  obtain ⟨f5_1_0, f5_1_1⟩ := KK1.out w5 C1_5.out
  obtain ⟨f5_2_0, f5_2_1⟩ := KK2.out w5 C2_5.out
  go_wp2_with fail
  refine (PA2.out _).mono ?_; rintro e w6 ⟨rfl, hb⟩
  have B6 : RowKit.Hid (Below w.heap.size w (w6.alloc (.cells #[.int .i64 0, .int .i64 0] 25))) := Lib.hid (bal (btr B5.out hb) _)
  have C0_6 : RowKit.Hid (Below U.heap.size U (w6.alloc (.cells #[.int .i64 0, .int .i64 0] 25))) := Lib.hid (bal (btr C0_5.out hb) _)
  have C1_6 : RowKit.Hid (Below U.heap.size U (w6.alloc (.cells #[.int .i64 0, .int .i64 0] 25))) := Lib.hid (bal (btr C1_5.out hb) _)
  have C2_6 : RowKit.Hid (Below (w4.alloc (.cells #[.int .i64 0, .int .i64 0] 23)).heap.size (w4.alloc (.cells #[.int .i64 0, .int .i64 0] 23)) (w6.alloc (.cells #[.int .i64 0, .int .i64 0] 25))) := Lib.hid (bal (btr C2_5.out hb) _)
  clear f5_0_0 f5_0_1 f5_1_0 f5_1_1 f5_2_0 f5_2_1 hb
  obtain ⟨f6_0_0, f6_0_1⟩ := KK0.out (w6.alloc (.cells #[.int .i64 0, .int .i64 0] 25)) C0_6.out
  obtain ⟨f6_1_0, f6_1_1⟩ := KK1.out (w6.alloc (.cells #[.int .i64 0, .int .i64 0] 25)) C1_6.out
  obtain ⟨f6_2_0, f6_2_1⟩ := KK2.out (w6.alloc (.cells #[.int .i64 0, .int .i64 0] 25)) C2_6.out
  have f6_3_0 : (w6.alloc (.cells #[.int .i64 0, .int .i64 0] 25)).cell? ⟨w6.heap.size, 0, none⟩ = some (.int .i64 0) := by go_simp
  have f6_3_1 : (w6.alloc (.cells #[.int .i64 0, .int .i64 0] 25)).cell? ⟨w6.heap.size, 1, none⟩ = some (.int .i64 0) := by go_simp
  have KK3 := Lib.hid (show ∀ W, Below (w6.alloc (.cells #[.int .i64 0, .int .i64 0] 25)).heap.size (w6.alloc (.cells #[.int .i64 0, .int .i64 0] 25)) W → W.cell? ⟨w6.heap.size, 0, none⟩ = some (.int .i64 0) ∧ W.cell? ⟨w6.heap.size, 1, none⟩ = some (.int .i64 0) from fun W h => ⟨(h.cell (p := ⟨w6.heap.size, 0, none⟩) (blt f6_3_0)).trans f6_3_0, (h.cell (p := ⟨w6.heap.size, 1, none⟩) (blt f6_3_1)).trans f6_3_1⟩)
  have C3_6 := Lib.hid (Below.refl (w6.alloc (.cells #[.int .i64 0, .int .i64 0] 25)).heap.size (w6.alloc (.cells #[.int .i64 0, .int .i64 0] 25)))
  go_wp2_with fail
  refine (PA3.out _ (HL.out.on B6.out).2).mono ?_; rintro e w7 ⟨rfl, hb⟩
  have B7 : RowKit.Hid (Below w.heap.size w (w7.alloc (.cells #[.int .i64 0, .int .i64 0] 23))) := Lib.hid (bal (btr B6.out hb) _)
  have C0_7 : RowKit.Hid (Below U.heap.size U (w7.alloc (.cells #[.int .i64 0, .int .i64 0] 23))) := Lib.hid (bal (btr C0_6.out hb) _)
  have C1_7 : RowKit.Hid (Below U.heap.size U (w7.alloc (.cells #[.int .i64 0, .int .i64 0] 23))) := Lib.hid (bal (btr C1_6.out hb) _)
  have C2_7 : RowKit.Hid (Below (w4.alloc (.cells #[.int .i64 0, .int .i64 0] 23)).heap.size (w4.alloc (.cells #[.int .i64 0, .int .i64 0] 23)) (w7.alloc (.cells #[.int .i64 0, .int .i64 0] 23))) := Lib.hid (bal (btr C2_6.out hb) _)
  have C3_7 : RowKit.Hid (Below (w6.alloc (.cells #[.int .i64 0, .int .i64 0] 25)).heap.size (w6.alloc (.cells #[.int .i64 0, .int .i64 0] 25)) (w7.alloc (.cells #[.int .i64 0, .int .i64 0] 23))) := Lib.hid (bal (btr C3_6.out hb) _)
  clear f6_0_0 f6_0_1 f6_1_0 f6_1_1 f6_2_0 f6_2_1 f6_3_0 f6_3_1 hb
  obtain ⟨f7_0_0, f7_0_1⟩ := KK0.out (w7.alloc (.cells #[.int .i64 0, .int .i64 0] 23)) C0_7.out
  obtain ⟨f7_1_0, f7_1_1⟩ := KK1.out (w7.alloc (.cells #[.int .i64 0, .int .i64 0] 23)) C1_7.out
  obtain ⟨f7_2_0, f7_2_1⟩ := KK2.out (w7.alloc (.cells #[.int .i64 0, .int .i64 0] 23)) C2_7.out
  obtain ⟨f7_3_0, f7_3_1⟩ := KK3.out (w7.alloc (.cells #[.int .i64 0, .int .i64 0] 23)) C3_7.out
  have f7_4_0 : (w7.alloc (.cells #[.int .i64 0, .int .i64 0] 23)).cell? ⟨w7.heap.size, 0, none⟩ = some (.int .i64 0) := by go_simp
  have f7_4_1 : (w7.alloc (.cells #[.int .i64 0, .int .i64 0] 23)).cell? ⟨w7.heap.size, 1, none⟩ = some (.int .i64 0) := by go_simp
  have KK4 := Lib.hid (show ∀ W, Below (w7.alloc (.cells #[.int .i64 0, .int .i64 0] 23)).heap.size (w7.alloc (.cells #[.int .i64 0, .int .i64 0] 23)) W → W.cell? ⟨w7.heap.size, 0, none⟩ = some (.int .i64 0) ∧ W.cell? ⟨w7.heap.size, 1, none⟩ = some (.int .i64 0) from fun W h => ⟨(h.cell (p := ⟨w7.heap.size, 0, none⟩) (blt f7_4_0)).trans f7_4_0, (h.cell (p := ⟨w7.heap.size, 1, none⟩) (blt f7_4_1)).trans f7_4_1⟩)
  have C4_7 := Lib.hid (Below.refl (w7.alloc (.cells #[.int .i64 0, .int .i64 0] 23)).heap.size (w7.alloc (.cells #[.int .i64 0, .int .i64 0] 23)))
  go_wp2_with fail
  refine (PR2.out _ (HL.out.on B7.out).1).mono ?_; rintro e w8 ⟨rfl, hb⟩
  have B8 : RowKit.Hid (Below w.heap.size w w8) := Lib.hid (btr B7.out hb)
  have C0_8 : RowKit.Hid (Below U.heap.size U w8) := Lib.hid (btr C0_7.out hb)
  have C1_8 : RowKit.Hid (Below U.heap.size U w8) := Lib.hid (btr C1_7.out hb)
  have C2_8 : RowKit.Hid (Below (w4.alloc (.cells #[.int .i64 0, .int .i64 0] 23)).heap.size (w4.alloc (.cells #[.int .i64 0, .int .i64 0] 23)) w8) := Lib.hid (btr C2_7.out hb)
  have C3_8 : RowKit.Hid (Below (w6.alloc (.cells #[.int .i64 0, .int .i64 0] 25)).heap.size (w6.alloc (.cells #[.int .i64 0, .int .i64 0] 25)) w8) := Lib.hid (btr C3_7.out hb)
  have C4_8 : RowKit.Hid (Below (w7.alloc (.cells #[.int .i64 0, .int .i64 0] 23)).heap.size (w7.alloc (.cells #[.int .i64 0, .int .i64 0] 23)) w8) := Lib.hid (btr C4_7.out hb)
  clear f7_0_0 f7_0_1 f7_1_0 f7_1_1 f7_2_0 f7_2_1 f7_3_0 f7_3_1 f7_4_0 f7_4_1 hb
  obtain ⟨f8_0_0, f8_0_1⟩ := KK0.out w8 C0_8.out
  obtain ⟨f8_1_0, f8_1_1⟩ := KK1.out w8 C1_8.out
  obtain ⟨f8_2_0, f8_2_1⟩ := KK2.out w8 C2_8.out
  obtain ⟨f8_3_0, f8_3_1⟩ := KK3.out w8 C3_8.out
  obtain ⟨f8_4_0, f8_4_1⟩ := KK4.out w8 C4_8.out
  go_wp2_with fail
  refine (PA4.out _).mono ?_; rintro e w9 ⟨rfl, hb⟩
  have B9 : RowKit.Hid (Below w.heap.size w (w9.alloc (.cells #[.int .i64 0, .int .i64 0] 25))) := Lib.hid (bal (btr B8.out hb) _)
  have C0_9 : RowKit.Hid (Below U.heap.size U (w9.alloc (.cells #[.int .i64 0, .int .i64 0] 25))) := Lib.hid (bal (btr C0_8.out hb) _)
  have C1_9 : RowKit.Hid (Below U.heap.size U (w9.alloc (.cells #[.int .i64 0, .int .i64 0] 25))) := Lib.hid (bal (btr C1_8.out hb) _)
  have C2_9 : RowKit.Hid (Below (w4.alloc (.cells #[.int .i64 0, .int .i64 0] 23)).heap.size (w4.alloc (.cells #[.int .i64 0, .int .i64 0] 23)) (w9.alloc (.cells #[.int .i64 0, .int .i64 0] 25))) := Lib.hid (bal (btr C2_8.out hb) _)
  have C3_9 : RowKit.Hid (Below (w6.alloc (.cells #[.int .i64 0, .int .i64 0] 25)).heap.size (w6.alloc (.cells #[.int .i64 0, .int .i64 0] 25)) (w9.alloc (.cells #[.int .i64 0, .int .i64 0] 25))) := Lib.hid (bal (btr C3_8.out hb) _)
  have C4_9 : RowKit.Hid (Below (w7.alloc (.cells #[.int .i64 0, .int .i64 0] 23)).heap.size (w7.alloc (.cells #[.int .i64 0, .int .i64 0] 23)) (w9.alloc (.cells #[.int .i64 0, .int .i64 0] 25))) := Lib.hid (bal (btr C4_8.out hb) _)
  clear f8_0_0 f8_0_1 f8_1_0 f8_1_1 f8_2_0 f8_2_1 f8_3_0 f8_3_1 f8_4_0 f8_4_1 hb
  obtain ⟨f9_0_0, f9_0_1⟩ := KK0.out (w9.alloc (.cells #[.int .i64 0, .int .i64 0] 25)) C0_9.out
  obtain ⟨f9_1_0, f9_1_1⟩ := KK1.out (w9.alloc (.cells #[.int .i64 0, .int .i64 0] 25)) C1_9.out
  obtain ⟨f9_2_0, f9_2_1⟩ := KK2.out (w9.alloc (.cells #[.int .i64 0, .int .i64 0] 25)) C2_9.out
  obtain ⟨f9_3_0, f9_3_1⟩ := KK3.out (w9.alloc (.cells #[.int .i64 0, .int .i64 0] 25)) C3_9.out
  obtain ⟨f9_4_0, f9_4_1⟩ := KK4.out (w9.alloc (.cells #[.int .i64 0, .int .i64 0] 25)) C4_9.out
  have f9_5_0 : (w9.alloc (.cells #[.int .i64 0, .int .i64 0] 25)).cell? ⟨w9.heap.size, 0, none⟩ = some (.int .i64 0) := by go_simp
  have f9_5_1 : (w9.alloc (.cells #[.int .i64 0, .int .i64 0] 25)).cell? ⟨w9.heap.size, 1, none⟩ = some (.int .i64 0) := by go_simp
  have KK5 := Lib.hid (show ∀ W, Below (w9.alloc (.cells #[.int .i64 0, .int .i64 0] 25)).heap.size (w9.alloc (.cells #[.int .i64 0, .int .i64 0] 25)) W → W.cell? ⟨w9.heap.size, 0, none⟩ = some (.int .i64 0) ∧ W.cell? ⟨w9.heap.size, 1, none⟩ = some (.int .i64 0) from fun W h => ⟨(h.cell (p := ⟨w9.heap.size, 0, none⟩) (blt f9_5_0)).trans f9_5_0, (h.cell (p := ⟨w9.heap.size, 1, none⟩) (blt f9_5_1)).trans f9_5_1⟩)
  have C5_9 := Lib.hid (Below.refl (w9.alloc (.cells #[.int .i64 0, .int .i64 0] 25)).heap.size (w9.alloc (.cells #[.int .i64 0, .int .i64 0] 25)))
  go_wp2_with fail
  refine (PT2.out _ (HL.out.on B9.out).1).mono ?_; rintro e w10 ⟨rfl, hb⟩
  have B10 : RowKit.Hid (Below w.heap.size w w10) := Lib.hid (btr B9.out hb)
  have C0_10 : RowKit.Hid (Below U.heap.size U w10) := Lib.hid (btr C0_9.out hb)
  have C1_10 : RowKit.Hid (Below U.heap.size U w10) := Lib.hid (btr C1_9.out hb)
  have C2_10 : RowKit.Hid (Below (w4.alloc (.cells #[.int .i64 0, .int .i64 0] 23)).heap.size (w4.alloc (.cells #[.int .i64 0, .int .i64 0] 23)) w10) := Lib.hid (btr C2_9.out hb)
  have C3_10 : RowKit.Hid (Below (w6.alloc (.cells #[.int .i64 0, .int .i64 0] 25)).heap.size (w6.alloc (.cells #[.int .i64 0, .int .i64 0] 25)) w10) := Lib.hid (btr C3_9.out hb)
  have C4_10 : RowKit.Hid (Below (w7.alloc (.cells #[.int .i64 0, .int .i64 0] 23)).heap.size (w7.alloc (.cells #[.int .i64 0, .int .i64 0] 23)) w10) := Lib.hid (btr C4_9.out hb)
  have C5_10 : RowKit.Hid (Below (w9.alloc (.cells #[.int .i64 0, .int .i64 0] 25)).heap.size (w9.alloc (.cells #[.int .i64 0, .int .i64 0] 25)) w10) := Lib.hid (btr C5_9.out hb)
  clear f9_0_0 f9_0_1 f9_1_0 f9_1_1 f9_2_0 f9_2_1 f9_3_0 f9_3_1 f9_4_0 f9_4_1 f9_5_0 f9_5_1 hb
  obtain ⟨f10_0_0, f10_0_1⟩ := KK0.out w10 C0_10.out
  obtain ⟨f10_1_0, f10_1_1⟩ := KK1.out w10 C1_10.out
  obtain ⟨f10_2_0, f10_2_1⟩ := KK2.out w10 C2_10.out
  obtain ⟨f10_3_0, f10_3_1⟩ := KK3.out w10 C3_10.out
  obtain ⟨f10_4_0, f10_4_1⟩ := KK4.out w10 C4_10.out
  obtain ⟨f10_5_0, f10_5_1⟩ := KK5.out w10 C5_10.out
  go_wp2_with fail
  refine (R1.out _).mono ?_; rintro e w11 ⟨rfl, hb⟩
  have B11 : RowKit.Hid (Below w.heap.size w w11) := Lib.hid (btr B10.out hb)
  have C0_11 : RowKit.Hid (Below U.heap.size U w11) := Lib.hid (btr C0_10.out hb)
  have C1_11 : RowKit.Hid (Below U.heap.size U w11) := Lib.hid (btr C1_10.out hb)
  have C2_11 : RowKit.Hid (Below (w4.alloc (.cells #[.int .i64 0, .int .i64 0] 23)).heap.size (w4.alloc (.cells #[.int .i64 0, .int .i64 0] 23)) w11) := Lib.hid (btr C2_10.out hb)
  have C3_11 : RowKit.Hid (Below (w6.alloc (.cells #[.int .i64 0, .int .i64 0] 25)).heap.size (w6.alloc (.cells #[.int .i64 0, .int .i64 0] 25)) w11) := Lib.hid (btr C3_10.out hb)
  have C4_11 : RowKit.Hid (Below (w7.alloc (.cells #[.int .i64 0, .int .i64 0] 23)).heap.size (w7.alloc (.cells #[.int .i64 0, .int .i64 0] 23)) w11) := Lib.hid (btr C4_10.out hb)
  have C5_11 : RowKit.Hid (Below (w9.alloc (.cells #[.int .i64 0, .int .i64 0] 25)).heap.size (w9.alloc (.cells #[.int .i64 0, .int .i64 0] 25)) w11) := Lib.hid (btr C5_10.out hb)
  clear f10_0_0 f10_0_1 f10_1_0 f10_1_1 f10_2_0 f10_2_1 f10_3_0 f10_3_1 f10_4_0 f10_4_1 f10_5_0 f10_5_1 hb
  obtain ⟨f11_0_0, f11_0_1⟩ := KK0.out w11 C0_11.out
  obtain ⟨f11_1_0, f11_1_1⟩ := KK1.out w11 C1_11.out
  obtain ⟨f11_2_0, f11_2_1⟩ := KK2.out w11 C2_11.out
  obtain ⟨f11_3_0, f11_3_1⟩ := KK3.out w11 C3_11.out
  obtain ⟨f11_4_0, f11_4_1⟩ := KK4.out w11 C4_11.out
  obtain ⟨f11_5_0, f11_5_1⟩ := KK5.out w11 C5_11.out
  go_wp2
  go_ret
  exact ⟨ret_bool (by first | rfl | (simp <;> omega)), B11.out⟩

theorem portsBack_c (F T A P : Int) (s0 : ByteArray) (w : World) (hL : Laid w) : Calls Tryd.prog 3 #[.agg #[.int .i64 F, .int .i64 T], .agg #[.int .i64 A, .int .i64 P], .string s0] w fun x w' => x = .returned (.bool true) ∧ Below w.heap.size w w' := by
  have S0 := Lib.hid (fun W h => shown_c W h)
  have CU : Hid (∀ W, Calls Tryd.prog 7 #[.string s0] W fun x w' => x = .returned (.string (cut40 s0)) ∧ Below W.heap.size W w') := Lib.hid (fun W => (cut40_c s0 W).mono fun x w' ⟨h1, h2⟩ => ⟨h1, by rw [← h2]; exact Below.refl _ _⟩)
  have hS : (cut40 s0).size ≤ 1000 := by have := cut_size s0; omega
  generalize cut40 s0 = S at *
  have pr1 := fun W h => ports_print_c F T W h
  have pt1 := fun W h => printT_c A P W h
  have pa3 := fun W h => ports_parse_c S hS W h
  have pa4 := fun W => parseT_c S hS W
  have r1 := fun W => rightQ_c F T W
  have hl1 : (prS F T).length ≤ 1000 := by
    unfold prS
    split
    · rename_i hr
      have hb := rightQ_iff.1 hr
      have g1 := itoa21 (n := F) (by omega) (by omega)
      have g2 := itoa21 (n := T) (by omega) (by omega)
      split
      · simp
      · split
        · omega
        · simp only [List.length_append, List.length_singleton]; omega
    · simp
  have hl2 : (ptS A P).length ≤ 1000 := by
    unfold ptS
    split
    · rename_i hr
      simp only [ptOk, Bool.and_eq_true, decide_eq_true_eq] at hr
      have g1 := itoa21 (n := P) (by omega) (by omega)
      have g2 := printS_len A
      simp only [List.length_append, List.length_singleton]; omega
    · simp
  have pa1 := fun W h => ports_parse_c ⟨(prS F T).toArray⟩ hl1 W h
  have pa2 := fun W => parseT_c ⟨(ptS A P).toArray⟩ hl2 W
  have e1 : (⟨(prS F T).toArray⟩ : ByteArray).data.toList = prS F T := by simp
  have e2 : (⟨(ptS A P).toArray⟩ : ByteArray).data.toList = ptS A P := by simp
  rw [e1] at pa1
  rw [e2] at pa2
  have S1 := Lib.hid S0.out
  clear S0
  have key : ∀ (c0 c1 ci d0 d1 dk : Int) (v z : ByteArray) (l : Int), ((ci = 0 ∧ dk = 71 ∧ v = S ∧ d0 = 0 ∧ d1 = 0 ∧ z = ⟨#[]⟩ ∧ l = 71) ∨ (ci = 70 ∧ dk = 0 ∧ z = S ∧ l = 0 ∧ c0 = 0 ∧ c1 = 0 ∧ v = ⟨#[48]⟩) ∨ (ci = 70 ∧ dk = 71 ∧ c0 = 0 ∧ c1 = 0 ∧ v = ⟨#[48]⟩ ∧ d0 = 0 ∧ d1 = 0 ∧ z = ⟨#[]⟩ ∧ l = 71)) →
      (∀ W, ErrT W → Calls Tryd.prog 9 #[.string S] W fun x w' => x = .returned (.tuple #[.agg #[.int .i64 c0, .int .i64 c1], .int .i64 ci]) ∧ Below W.heap.size W w') →
      (∀ W, Tabs W → Calls Tryd.prog 8 #[.agg #[.int .i64 c0, .int .i64 c1]] W fun x w' => x = .returned (.tuple #[.string v, .int .i64 0]) ∧ Below W.heap.size W w') →
      (∀ W, Calls Tryd.prog 11 #[.string S] W fun x w' => x = .returned (.tuple #[.agg #[.int .i64 d0, .int .i64 d1], .int .i64 dk]) ∧ Below W.heap.size W w') →
      (∀ W, Tabs W → Calls Tryd.prog 10 #[.agg #[.int .i64 d0, .int .i64 d1]] W fun x w' => x = .returned (.tuple #[.string z, .int .i64 l]) ∧ Below W.heap.size W w') →
      Calls Tryd.prog 3 #[.agg #[.int .i64 F, .int .i64 T], .agg #[.int .i64 A, .int .i64 P], .string s0] w fun x w' => x = .returned (.bool true) ∧ Below w.heap.size w w' := by
    intro c0 c1 ci d0 d1 dk v z l hc k3 k4 k5 k6
    cases hr : rightQ F T with
    | true =>
      have hq := pq_some (rw_iff.2 ⟨hr, rfl⟩)
      have hE : prE F T = 0 := by unfold prE; rw [hr]; rfl
      rw [hq.1, hq.2.1, hq.2.2] at pa1
      rw [hE] at pr1
      rw [hr] at r1
      cases ht : ptOk A P with
      | true =>
        have hg := tg_some (tg_iff.2 ⟨ht, rfl⟩)
        have hF : ptE A P = 0 := by unfold ptE; rw [ht]; rfl
        rw [hg.1, hg.2.1, hg.2.2] at pa2
        rw [hF] at pt1
        rcases hc with ⟨rfl, rfl, rfl, rfl, rfl, rfl, rfl⟩ | ⟨rfl, rfl, rfl, rfl, rfl, rfl, rfl⟩ | ⟨rfl, rfl, rfl, rfl, rfl, rfl, rfl, rfl, rfl⟩
        · exact backL_rta F T A P c0 c1 s0 _ _ _ w hL S1 CU (Lib.hid pr1) (Lib.hid pa1) (Lib.hid pt1) (Lib.hid pa2) (Lib.hid k3) (Lib.hid k4) (Lib.hid k5) (Lib.hid k6) (Lib.hid r1)
        · exact backL_rtb F T A P d0 d1 s0 _ _ _ w hL S1 CU (Lib.hid pr1) (Lib.hid pa1) (Lib.hid pt1) (Lib.hid pa2) (Lib.hid k3) (Lib.hid k4) (Lib.hid k5) (Lib.hid k6) (Lib.hid r1)
        · exact backL_rtc F T A P s0 _ _ _ w hL S1 CU (Lib.hid pr1) (Lib.hid pa1) (Lib.hid pt1) (Lib.hid pa2) (Lib.hid k3) (Lib.hid k4) (Lib.hid k5) (Lib.hid k6) (Lib.hid r1)
      | false =>
        have hz : ptS A P = [] := by unfold ptS; rw [ht]; rfl
        have hg : tgA (ptS A P) = 0 ∧ tgN (ptS A P) = 0 ∧ tgE (ptS A P) = 71 := by rw [hz]; exact tg_none (by decide +kernel)
        have hF : ptE A P = 71 := by unfold ptE; rw [ht]; rfl
        rw [hg.1, hg.2.1, hg.2.2] at pa2
        rw [hF] at pt1
        rcases hc with ⟨rfl, rfl, rfl, rfl, rfl, rfl, rfl⟩ | ⟨rfl, rfl, rfl, rfl, rfl, rfl, rfl⟩ | ⟨rfl, rfl, rfl, rfl, rfl, rfl, rfl, rfl, rfl⟩
        · exact backL_rna F T A P c0 c1 s0 _ _ _ w hL S1 CU (Lib.hid pr1) (Lib.hid pa1) (Lib.hid pt1) (Lib.hid pa2) (Lib.hid k3) (Lib.hid k4) (Lib.hid k5) (Lib.hid k6) (Lib.hid r1)
        · exact backL_rnb F T A P d0 d1 s0 _ _ _ w hL S1 CU (Lib.hid pr1) (Lib.hid pa1) (Lib.hid pt1) (Lib.hid pa2) (Lib.hid k3) (Lib.hid k4) (Lib.hid k5) (Lib.hid k6) (Lib.hid r1)
        · exact backL_rnc F T A P s0 _ _ _ w hL S1 CU (Lib.hid pr1) (Lib.hid pa1) (Lib.hid pt1) (Lib.hid pa2) (Lib.hid k3) (Lib.hid k4) (Lib.hid k5) (Lib.hid k6) (Lib.hid r1)
    | false =>
      have hy : prS F T = [] := by unfold prS; rw [hr]; rfl
      have hq : pqF (prS F T) = 0 ∧ pqT (prS F T) = 0 ∧ pqE (prS F T) = 70 := by rw [hy]; exact pq_none (by decide +kernel)
      have hE : prE F T = 70 := by unfold prE; rw [hr]; rfl
      rw [hq.1, hq.2.1, hq.2.2] at pa1
      rw [hE] at pr1
      rw [hr] at r1
      cases ht : ptOk A P with
      | true =>
        have hg := tg_some (tg_iff.2 ⟨ht, rfl⟩)
        have hF : ptE A P = 0 := by unfold ptE; rw [ht]; rfl
        rw [hg.1, hg.2.1, hg.2.2] at pa2
        rw [hF] at pt1
        rcases hc with ⟨rfl, rfl, rfl, rfl, rfl, rfl, rfl⟩ | ⟨rfl, rfl, rfl, rfl, rfl, rfl, rfl⟩ | ⟨rfl, rfl, rfl, rfl, rfl, rfl, rfl, rfl, rfl⟩
        · exact backL_nta F T A P c0 c1 s0 _ _ _ w hL S1 CU (Lib.hid pr1) (Lib.hid pa1) (Lib.hid pt1) (Lib.hid pa2) (Lib.hid k3) (Lib.hid k4) (Lib.hid k5) (Lib.hid k6) (Lib.hid r1)
        · exact backL_ntb F T A P d0 d1 s0 _ _ _ w hL S1 CU (Lib.hid pr1) (Lib.hid pa1) (Lib.hid pt1) (Lib.hid pa2) (Lib.hid k3) (Lib.hid k4) (Lib.hid k5) (Lib.hid k6) (Lib.hid r1)
        · exact backL_ntc F T A P s0 _ _ _ w hL S1 CU (Lib.hid pr1) (Lib.hid pa1) (Lib.hid pt1) (Lib.hid pa2) (Lib.hid k3) (Lib.hid k4) (Lib.hid k5) (Lib.hid k6) (Lib.hid r1)
      | false =>
        have hz : ptS A P = [] := by unfold ptS; rw [ht]; rfl
        have hg : tgA (ptS A P) = 0 ∧ tgN (ptS A P) = 0 ∧ tgE (ptS A P) = 71 := by rw [hz]; exact tg_none (by decide +kernel)
        have hF : ptE A P = 71 := by unfold ptE; rw [ht]; rfl
        rw [hg.1, hg.2.1, hg.2.2] at pa2
        rw [hF] at pt1
        rcases hc with ⟨rfl, rfl, rfl, rfl, rfl, rfl, rfl⟩ | ⟨rfl, rfl, rfl, rfl, rfl, rfl, rfl⟩ | ⟨rfl, rfl, rfl, rfl, rfl, rfl, rfl, rfl, rfl⟩
        · exact backL_nna F T A P c0 c1 s0 _ _ _ w hL S1 CU (Lib.hid pr1) (Lib.hid pa1) (Lib.hid pt1) (Lib.hid pa2) (Lib.hid k3) (Lib.hid k4) (Lib.hid k5) (Lib.hid k6) (Lib.hid r1)
        · exact backL_nnb F T A P d0 d1 s0 _ _ _ w hL S1 CU (Lib.hid pr1) (Lib.hid pa1) (Lib.hid pt1) (Lib.hid pa2) (Lib.hid k3) (Lib.hid k4) (Lib.hid k5) (Lib.hid k6) (Lib.hid r1)
        · exact backL_nnc F T A P s0 _ _ _ w hL S1 CU (Lib.hid pr1) (Lib.hid pa1) (Lib.hid pt1) (Lib.hid pa2) (Lib.hid k3) (Lib.hid k4) (Lib.hid k5) (Lib.hid k6) (Lib.hid r1)
  have z00 : ∀ W, Tabs W → Calls Tryd.prog 8 #[.agg #[.int .i64 0, .int .i64 0]] W fun x w' => x = .returned (.tuple #[.string ⟨#[48]⟩, .int .i64 0]) ∧ Below W.heap.size W w' := fun W h => by
    have := ports_print_c 0 0 W h
    rw [show prS 0 0 = [48] by decide +kernel, show prE 0 0 = 0 by decide +kernel] at this
    exact this
  have z01 : ∀ W, Tabs W → Calls Tryd.prog 10 #[.agg #[.int .i64 0, .int .i64 0]] W fun x w' => x = .returned (.tuple #[.string ⟨#[]⟩, .int .i64 71]) ∧ Below W.heap.size W w' := fun W h => by
    have := printT_c 0 0 W h
    rw [show ptS 0 0 = [] by decide +kernel, show ptE 0 0 = 71 by decide +kernel] at this
    exact this
  cases h3 : rwP S.data.toList with
  | some x =>
    obtain ⟨f, t⟩ := x
    have q3 := pq_some h3
    obtain ⟨v1, v2⟩ := rw_iff.1 h3
    have h4 : tgP S.data.toList = none := by
      cases h4 : tgP S.data.toList with
      | none => rfl
      | some y => exact (both_not (L := S.data.toList) (by rw [h3]; rfl) (by rw [h4]; rfl)).elim
    have q4 := tg_none h4
    rw [q3.1, q3.2.1, q3.2.2] at pa3
    rw [q4.1, q4.2.1, q4.2.2] at pa4
    have k4 := fun W h => ports_print_c f t W h
    rw [← str_eq v2, show prE f t = 0 by unfold prE; rw [v1]; rfl] at k4
    exact key f t 0 0 0 71 S ⟨#[]⟩ 71 (.inl ⟨rfl, rfl, rfl, rfl, rfl, rfl, rfl⟩) pa3 k4 pa4 z01
  | none =>
    have q3 := pq_none h3
    rw [q3.1, q3.2.1, q3.2.2] at pa3
    cases h4 : tgP S.data.toList with
    | some y =>
      obtain ⟨a, n⟩ := y
      have q4 := tg_some h4
      obtain ⟨v1, v2⟩ := tg_iff.1 h4
      rw [q4.1, q4.2.1, q4.2.2] at pa4
      have k6 := fun W h => printT_c a n W h
      rw [← str_eq v2, show ptE a n = 0 by unfold ptE; rw [v1]; rfl] at k6
      exact key 0 0 70 a n 0 ⟨#[48]⟩ S 0 (.inr (.inl ⟨rfl, rfl, rfl, rfl, rfl, rfl, rfl⟩)) pa3 z00 pa4 k6
    | none =>
      have q4 := tg_none h4
      rw [q4.1, q4.2.1, q4.2.2] at pa4
      exact key 0 0 70 0 0 71 ⟨#[48]⟩ ⟨#[]⟩ 71 (.inr (.inr ⟨rfl, rfl, rfl, rfl, rfl, rfl, rfl, rfl, rfl⟩)) pa3 z00 pa4 z01
end Go.Proofs.YtlnjalhlbfbjcaaDoor

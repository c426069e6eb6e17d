/- Ports' and targets' texts, by the program and by the document: the laws' walks. -/
import Derived.Test.YtlnjalhlbfbjcaaGreatDoorRI
import Derived.Test.YtlnjalhlbfbjcaaGreatDoorU
namespace Go.Proofs.YtlnjalhlbfbjcaaGreatDoor
open Go.RowKit Go.Shelf
attribute [local go_sem] Oper.semAt_some

set_option maxRecDepth 100000 in
set_option maxHeartbeats 4000000 in
theorem targetsL (A P e c0 c1 g : Int) (s0 S sa : ByteArray) (w : World) (hL : Laid w)
    (S0 : Hid (∀ W, Laid W → Calls Tryz.prog 5 #[] W fun x w' => x = .returned (.bool true) ∧ Below W.heap.size W w'))
    (CU : Hid (∀ W, Calls Tryz.prog 6 #[.string s0] W fun x w' => x = .returned (.string S) ∧ Below W.heap.size W w'))
    (PT1 : Hid (∀ W, Tabs W → Calls Tryz.prog 17 #[.agg #[.int .i64 A, .int .i64 P]] W fun x w' => x = .returned (.tuple #[.string sa, .int .i64 e]) ∧ Below W.heap.size W w'))
    (PT2 : Hid (∀ W, Calls Tryz.prog 18 #[.agg #[.int .i64 A, .int .i64 P]] W fun x w' => x = .returned (.tuple #[.string sa, .int .i64 e]) ∧ Below W.heap.size W w'))
    (PA1 : Hid (∀ W, Calls Tryz.prog 19 #[.string S] W fun x w' => x = .returned (.tuple #[.agg #[.int .i64 c0, .int .i64 c1], .int .i64 g]) ∧ Below W.heap.size W w'))
    (PA2 : Hid (∀ W, Calls Tryz.prog 20 #[.string S] W fun x w' => x = .returned (.tuple #[.agg #[.int .i64 c0, .int .i64 c1], .int .i64 g]) ∧ Below W.heap.size W w'))
    : Calls Tryz.prog 4 #[.agg #[.int .i64 A, .int .i64 P], .string s0] w fun x w' => x = .returned (.bool true) ∧ Below w.heap.size w w' := by
  have HL := Lib.hid hL
  clear hL
  go_enter Tryz.func4, Tryz.ntmps4
  go_wp2_with fail
  have x0_0 : (w.alloc (.cells #[.int .i64 A, .int .i64 P] 37)).cell? ⟨w.heap.size, 0, none⟩ = some (.int .i64 A) := by go_simp
  have x0_1 : (w.alloc (.cells #[.int .i64 A, .int .i64 P] 37)).cell? ⟨w.heap.size, 1, none⟩ = some (.int .i64 P) := by go_simp
  have B0 : Below w.heap.size w (w.alloc (.cells #[.int .i64 A, .int .i64 P] 37)) := (bal (Below.refl _ w) _)
  generalize (w.alloc (.cells #[.int .i64 A, .int .i64 P] 37)) = U at *
  have KK0 := Lib.hid (show ∀ W, Below U.heap.size U W → W.cell? ⟨w.heap.size, 0, none⟩ = some (.int .i64 A) ∧ W.cell? ⟨w.heap.size, 1, none⟩ = some (.int .i64 P) from fun W h => ⟨(h.cell (p := ⟨w.heap.size, 0, none⟩) (blt x0_0)).trans x0_0, (h.cell (p := ⟨w.heap.size, 1, none⟩) (blt x0_1)).trans x0_1⟩)
  have C0_0 := Lib.hid (Below.refl U.heap.size U)
  replace B0 := Lib.hid B0
  refine (S0.out _ (HL.out.on B0.out)).mono ?_; rintro e w1 ⟨rfl, hb⟩
  have B1 : RowKit.Hid (Below w.heap.size w w1) := Lib.hid (btr B0.out hb)
  have C0_1 : RowKit.Hid (Below U.heap.size U w1) := Lib.hid (btr C0_0.out hb)
  clear x0_0 x0_1 hb
  obtain ⟨f1_0_0, f1_0_1⟩ := KK0.out w1 C0_1.out
  go_wp2_with fail
  refine (CU.out _).mono ?_; rintro e w2 ⟨rfl, hb⟩
  have B2 : RowKit.Hid (Below w.heap.size w w2) := Lib.hid (btr B1.out hb)
  have C0_2 : RowKit.Hid (Below U.heap.size U w2) := Lib.hid (btr C0_1.out hb)
  clear f1_0_0 f1_0_1 hb
  obtain ⟨f2_0_0, f2_0_1⟩ := KK0.out w2 C0_2.out
  go_wp2_with fail
  refine (PT1.out _ (HL.out.on B2.out).1).mono ?_; rintro e w3 ⟨rfl, hb⟩
  have B3 : RowKit.Hid (Below w.heap.size w w3) := Lib.hid (btr B2.out hb)
  have C0_3 : RowKit.Hid (Below U.heap.size U w3) := Lib.hid (btr C0_2.out hb)
  clear f2_0_0 f2_0_1 hb
  obtain ⟨f3_0_0, f3_0_1⟩ := KK0.out w3 C0_3.out
  go_wp2_with fail
  refine (PT2.out _).mono ?_; rintro e w4 ⟨rfl, hb⟩
  have B4 : RowKit.Hid (Below w.heap.size w w4) := Lib.hid (btr B3.out hb)
  have C0_4 : RowKit.Hid (Below U.heap.size U w4) := Lib.hid (btr C0_3.out hb)
  clear f3_0_0 f3_0_1 hb
  obtain ⟨f4_0_0, f4_0_1⟩ := KK0.out w4 C0_4.out
  go_wp2_with fail
  refine (PA1.out _).mono ?_; rintro e w5 ⟨rfl, hb⟩
  have B5 : RowKit.Hid (Below w.heap.size w (w5.alloc (.cells #[.int .i64 c0, .int .i64 c1] 37))) := Lib.hid (bal (btr B4.out hb) _)
  have C0_5 : RowKit.Hid (Below U.heap.size U (w5.alloc (.cells #[.int .i64 c0, .int .i64 c1] 37))) := Lib.hid (bal (btr C0_4.out hb) _)
  clear f4_0_0 f4_0_1 hb
  obtain ⟨f5_0_0, f5_0_1⟩ := KK0.out (w5.alloc (.cells #[.int .i64 c0, .int .i64 c1] 37)) C0_5.out
  have f5_1_0 : (w5.alloc (.cells #[.int .i64 c0, .int .i64 c1] 37)).cell? ⟨w5.heap.size, 0, none⟩ = some (.int .i64 c0) := by go_simp
  have f5_1_1 : (w5.alloc (.cells #[.int .i64 c0, .int .i64 c1] 37)).cell? ⟨w5.heap.size, 1, none⟩ = some (.int .i64 c1) := by go_simp
  have KK1 := Lib.hid (show ∀ W, Below (w5.alloc (.cells #[.int .i64 c0, .int .i64 c1] 37)).heap.size (w5.alloc (.cells #[.int .i64 c0, .int .i64 c1] 37)) W → W.cell? ⟨w5.heap.size, 0, none⟩ = some (.int .i64 c0) ∧ W.cell? ⟨w5.heap.size, 1, none⟩ = some (.int .i64 c1) from fun W h => ⟨(h.cell (p := ⟨w5.heap.size, 0, none⟩) (blt f5_1_0)).trans f5_1_0, (h.cell (p := ⟨w5.heap.size, 1, none⟩) (blt f5_1_1)).trans f5_1_1⟩)
  have C1_5 := Lib.hid (Below.refl (w5.alloc (.cells #[.int .i64 c0, .int .i64 c1] 37)).heap.size (w5.alloc (.cells #[.int .i64 c0, .int .i64 c1] 37)))
  go_wp2_with fail
  refine (PA2.out _).mono ?_; rintro e w6 ⟨rfl, hb⟩
  have B6 : RowKit.Hid (Below w.heap.size w (w6.alloc (.cells #[.int .i64 c0, .int .i64 c1] 37))) := Lib.hid (bal (btr B5.out hb) _)
  have C0_6 : RowKit.Hid (Below U.heap.size U (w6.alloc (.cells #[.int .i64 c0, .int .i64 c1] 37))) := Lib.hid (bal (btr C0_5.out hb) _)
  have C1_6 : RowKit.Hid (Below (w5.alloc (.cells #[.int .i64 c0, .int .i64 c1] 37)).heap.size (w5.alloc (.cells #[.int .i64 c0, .int .i64 c1] 37)) (w6.alloc (.cells #[.int .i64 c0, .int .i64 c1] 37))) := Lib.hid (bal (btr C1_5.out hb) _)
  clear f5_0_0 f5_0_1 f5_1_0 f5_1_1 hb
  obtain ⟨f6_0_0, f6_0_1⟩ := KK0.out (w6.alloc (.cells #[.int .i64 c0, .int .i64 c1] 37)) C0_6.out
  obtain ⟨f6_1_0, f6_1_1⟩ := KK1.out (w6.alloc (.cells #[.int .i64 c0, .int .i64 c1] 37)) C1_6.out
  have f6_2_0 : (w6.alloc (.cells #[.int .i64 c0, .int .i64 c1] 37)).cell? ⟨w6.heap.size, 0, none⟩ = some (.int .i64 c0) := by go_simp
  have f6_2_1 : (w6.alloc (.cells #[.int .i64 c0, .int .i64 c1] 37)).cell? ⟨w6.heap.size, 1, none⟩ = some (.int .i64 c1) := by go_simp
  have KK2 := Lib.hid (show ∀ W, Below (w6.alloc (.cells #[.int .i64 c0, .int .i64 c1] 37)).heap.size (w6.alloc (.cells #[.int .i64 c0, .int .i64 c1] 37)) W → W.cell? ⟨w6.heap.size, 0, none⟩ = some (.int .i64 c0) ∧ W.cell? ⟨w6.heap.size, 1, none⟩ = some (.int .i64 c1) from fun W h => ⟨(h.cell (p := ⟨w6.heap.size, 0, none⟩) (blt f6_2_0)).trans f6_2_0, (h.cell (p := ⟨w6.heap.size, 1, none⟩) (blt f6_2_1)).trans f6_2_1⟩)
  have C2_6 := Lib.hid (Below.refl (w6.alloc (.cells #[.int .i64 c0, .int .i64 c1] 37)).heap.size (w6.alloc (.cells #[.int .i64 c0, .int .i64 c1] 37)))
  go_wp2
  go_ret
  exact ⟨ret_bool (by first | rfl | (simp <;> omega)), B6.out⟩
theorem portsTargets_c (A P : Int) (s0 : ByteArray) (w : World) (hL : Laid w) : Calls Tryz.prog 4 #[.agg #[.int .i64 A, .int .i64 P], .string s0] w fun x w' => x = .returned (.bool true) ∧ Below w.heap.size w w' := by
  have S0 := Lib.hid (fun W h => shown_c W h)
  have CU : Hid (∀ W, Calls Tryz.prog 6 #[.string s0] W fun x w' => x = .returned (.string (cut40 s0)) ∧ Below W.heap.size W w') := Lib.hid (fun W => (cut40_c s0 W).mono fun x w' ⟨h1, h2⟩ => ⟨h1, by rw [← h2]; exact Below.refl _ _⟩)
  have hS : (cut40 s0).size ≤ 1000 := by have := cut_size s0; omega
  exact targetsL A P _ _ _ _ s0 _ _ w hL S0 CU (Lib.hid fun W h => printT_c A P W h) (Lib.hid fun W => rprintT7_c A P W) (Lib.hid fun W => parseT_c _ hS W) (Lib.hid fun W => rparseT7_c _ hS W)

set_option maxRecDepth 100000 in
set_option maxHeartbeats 4000000 in
theorem textsL (F T G U0 n e c0 c1 g m0 m1 : Int) (ok r hh : Bool) (s0 S sa : ByteArray) (w : World) (hL : Laid w)
    (S0 : Hid (∀ W, Laid W → Calls Tryz.prog 5 #[] W fun x w' => x = .returned (.bool true) ∧ Below W.heap.size W w'))
    (CU : Hid (∀ W, Calls Tryz.prog 6 #[.string s0] W fun x w' => x = .returned (.string S) ∧ Below W.heap.size W w'))
    (PR1 : Hid (∀ W, Tabs W → Calls Tryz.prog 7 #[.agg #[.int .i64 F, .int .i64 T]] W fun x w' => x = .returned (.tuple #[.string sa, .int .i64 e]) ∧ Below W.heap.size W w'))
    (PR2 : Hid (∀ W, Calls Tryz.prog 8 #[.agg #[.int .i64 F, .int .i64 T]] W fun x w' => x = .returned (.tuple #[.string sa, .int .i64 e]) ∧ Below W.heap.size W w'))
    (PA1 : Hid (∀ W, ErrT W → Calls Tryz.prog 9 #[.string S] W fun x w' => x = .returned (.tuple #[.agg #[.int .i64 c0, .int .i64 c1], .int .i64 g]) ∧ Below W.heap.size W w'))
    (PA2 : Hid (∀ W, Calls Tryz.prog 10 #[.string S] W fun x w' => x = .returned (.tuple #[.agg #[.int .i64 c0, .int .i64 c1], .int .i64 g]) ∧ Below W.heap.size W w'))
    (M1 : Hid (∀ W, Calls Tryz.prog 11 #[.agg #[.int .i64 F, .int .i64 T], .agg #[.int .i64 G, .int .i64 U0]] W fun x w' => x = .returned (.tuple #[.agg #[.int .i64 m0, .int .i64 m1], .bool ok]) ∧ Below W.heap.size W w'))
    (M2 : Hid (∀ W, Calls Tryz.prog 12 #[.agg #[.int .i64 F, .int .i64 T], .agg #[.int .i64 G, .int .i64 U0]] W fun x w' => x = .returned (.tuple #[.agg #[.int .i64 m0, .int .i64 m1], .bool ok]) ∧ Below W.heap.size W w'))
    (R1 : Hid (∀ W, Calls Tryz.prog 13 #[.agg #[.int .i64 F, .int .i64 T]] W fun x w' => x = .returned (.bool r) ∧ Below W.heap.size W w'))
    (R2 : Hid (∀ W, Calls Tryz.prog 14 #[.agg #[.int .i64 F, .int .i64 T]] W fun x w' => x = .returned (.bool r) ∧ Below W.heap.size W w'))
    (H1 : Hid (∀ W, Calls Tryz.prog 15 #[.agg #[.int .i64 F, .int .i64 T], .int .i64 n] W fun x w' => x = .returned (.bool hh) ∧ Below W.heap.size W w'))
    (H2 : Hid (∀ W, Calls Tryz.prog 16 #[.agg #[.int .i64 F, .int .i64 T], .int .i64 n] W fun x w' => x = .returned (.bool hh) ∧ Below W.heap.size W w'))
    : Calls Tryz.prog 3 #[.agg #[.int .i64 F, .int .i64 T], .agg #[.int .i64 G, .int .i64 U0], .string s0, .int .i64 n] w fun x w' => x = .returned (.bool true) ∧ Below w.heap.size w w' := by
  have HL := Lib.hid hL
  clear hL
  go_enter Tryz.func3, Tryz.ntmps3
  go_wp2_with fail
  have x0_0 : ((w.alloc (.cells #[.int .i64 F, .int .i64 T] 23)).alloc (.cells #[.int .i64 G, .int .i64 U0] 23)).cell? ⟨w.heap.size, 0, none⟩ = some (.int .i64 F) := by go_simp
  have x0_1 : ((w.alloc (.cells #[.int .i64 F, .int .i64 T] 23)).alloc (.cells #[.int .i64 G, .int .i64 U0] 23)).cell? ⟨w.heap.size, 1, none⟩ = some (.int .i64 T) := by go_simp
  have x1_0 : ((w.alloc (.cells #[.int .i64 F, .int .i64 T] 23)).alloc (.cells #[.int .i64 G, .int .i64 U0] 23)).cell? ⟨w.heap.size + 1, 0, none⟩ = some (.int .i64 G) := by go_simp
  have x1_1 : ((w.alloc (.cells #[.int .i64 F, .int .i64 T] 23)).alloc (.cells #[.int .i64 G, .int .i64 U0] 23)).cell? ⟨w.heap.size + 1, 1, none⟩ = some (.int .i64 U0) := by go_simp
  have B0 : Below w.heap.size w ((w.alloc (.cells #[.int .i64 F, .int .i64 T] 23)).alloc (.cells #[.int .i64 G, .int .i64 U0] 23)) := (bal ((bal (Below.refl _ w) _)) _)
  generalize ((w.alloc (.cells #[.int .i64 F, .int .i64 T] 23)).alloc (.cells #[.int .i64 G, .int .i64 U0] 23)) = U at *
  have KK0 := Lib.hid (show ∀ W, Below U.heap.size U W → W.cell? ⟨w.heap.size, 0, none⟩ = some (.int .i64 F) ∧ W.cell? ⟨w.heap.size, 1, none⟩ = some (.int .i64 T) from fun W h => ⟨(h.cell (p := ⟨w.heap.size, 0, none⟩) (blt x0_0)).trans x0_0, (h.cell (p := ⟨w.heap.size, 1, none⟩) (blt x0_1)).trans x0_1⟩)
  have KK1 := Lib.hid (show ∀ W, Below U.heap.size U W → W.cell? ⟨w.heap.size + 1, 0, none⟩ = some (.int .i64 G) ∧ W.cell? ⟨w.heap.size + 1, 1, none⟩ = some (.int .i64 U0) from fun W h => ⟨(h.cell (p := ⟨w.heap.size + 1, 0, none⟩) (blt x1_0)).trans x1_0, (h.cell (p := ⟨w.heap.size + 1, 1, none⟩) (blt x1_1)).trans x1_1⟩)
  have C0_0 := Lib.hid (Below.refl U.heap.size U)
  have C1_0 := Lib.hid (Below.refl U.heap.size U)
  replace B0 := Lib.hid B0
  refine (S0.out _ (HL.out.on B0.out)).mono ?_; rintro e w1 ⟨rfl, hb⟩
  have B1 : RowKit.Hid (Below w.heap.size w w1) := Lib.hid (btr B0.out hb)
  have C0_1 : RowKit.Hid (Below U.heap.size U w1) := Lib.hid (btr C0_0.out hb)
  have C1_1 : RowKit.Hid (Below U.heap.size U w1) := Lib.hid (btr C1_0.out hb)
  clear x0_0 x0_1 x1_0 x1_1 hb
  obtain ⟨f1_0_0, f1_0_1⟩ := KK0.out w1 C0_1.out
  obtain ⟨f1_1_0, f1_1_1⟩ := KK1.out w1 C1_1.out
  go_wp2_with fail
  refine (CU.out _).mono ?_; rintro e w2 ⟨rfl, hb⟩
  have B2 : RowKit.Hid (Below w.heap.size w w2) := Lib.hid (btr B1.out hb)
  have C0_2 : RowKit.Hid (Below U.heap.size U w2) := Lib.hid (btr C0_1.out hb)
  have C1_2 : RowKit.Hid (Below U.heap.size U w2) := Lib.hid (btr C1_1.out hb)
  clear f1_0_0 f1_0_1 f1_1_0 f1_1_1 hb
  obtain ⟨f2_0_0, f2_0_1⟩ := KK0.out w2 C0_2.out
  obtain ⟨f2_1_0, f2_1_1⟩ := KK1.out w2 C1_2.out
  go_wp2_with fail
  refine (PR1.out _ (HL.out.on B2.out).1).mono ?_; rintro e w3 ⟨rfl, hb⟩
  have B3 : RowKit.Hid (Below w.heap.size w w3) := Lib.hid (btr B2.out hb)
  have C0_3 : RowKit.Hid (Below U.heap.size U w3) := Lib.hid (btr C0_2.out hb)
  have C1_3 : RowKit.Hid (Below U.heap.size U w3) := Lib.hid (btr C1_2.out hb)
  clear f2_0_0 f2_0_1 f2_1_0 f2_1_1 hb
  obtain ⟨f3_0_0, f3_0_1⟩ := KK0.out w3 C0_3.out
  obtain ⟨f3_1_0, f3_1_1⟩ := KK1.out w3 C1_3.out
  go_wp2_with fail
  refine (PR2.out _).mono ?_; rintro e w4 ⟨rfl, hb⟩
  have B4 : RowKit.Hid (Below w.heap.size w w4) := Lib.hid (btr B3.out hb)
  have C0_4 : RowKit.Hid (Below U.heap.size U w4) := Lib.hid (btr C0_3.out hb)
  have C1_4 : RowKit.Hid (Below U.heap.size U w4) := Lib.hid (btr C1_3.out hb)
  clear f3_0_0 f3_0_1 f3_1_0 f3_1_1 hb
  obtain ⟨f4_0_0, f4_0_1⟩ := KK0.out w4 C0_4.out
  obtain ⟨f4_1_0, f4_1_1⟩ := KK1.out w4 C1_4.out
  go_wp2_with fail
  refine (PA1.out _ (HL.out.on B4.out).2).mono ?_; rintro e w5 ⟨rfl, hb⟩
  have B5 : RowKit.Hid (Below w.heap.size w (w5.alloc (.cells #[.int .i64 c0, .int .i64 c1] 23))) := Lib.hid (bal (btr B4.out hb) _)
  have C0_5 : RowKit.Hid (Below U.heap.size U (w5.alloc (.cells #[.int .i64 c0, .int .i64 c1] 23))) := Lib.hid (bal (btr C0_4.out hb) _)
  have C1_5 : RowKit.Hid (Below U.heap.size U (w5.alloc (.cells #[.int .i64 c0, .int .i64 c1] 23))) := Lib.hid (bal (btr C1_4.out hb) _)
  clear f4_0_0 f4_0_1 f4_1_0 f4_1_1 hb
  obtain ⟨f5_0_0, f5_0_1⟩ := KK0.out (w5.alloc (.cells #[.int .i64 c0, .int .i64 c1] 23)) C0_5.out
  obtain ⟨f5_1_0, f5_1_1⟩ := KK1.out (w5.alloc (.cells #[.int .i64 c0, .int .i64 c1] 23)) C1_5.out
  have f5_2_0 : (w5.alloc (.cells #[.int .i64 c0, .int .i64 c1] 23)).cell? ⟨w5.heap.size, 0, none⟩ = some (.int .i64 c0) := by go_simp
  have f5_2_1 : (w5.alloc (.cells #[.int .i64 c0, .int .i64 c1] 23)).cell? ⟨w5.heap.size, 1, none⟩ = some (.int .i64 c1) := by go_simp
  have KK2 := Lib.hid (show ∀ W, Below (w5.alloc (.cells #[.int .i64 c0, .int .i64 c1] 23)).heap.size (w5.alloc (.cells #[.int .i64 c0, .int .i64 c1] 23)) W → W.cell? ⟨w5.heap.size, 0, none⟩ = some (.int .i64 c0) ∧ W.cell? ⟨w5.heap.size, 1, none⟩ = some (.int .i64 c1) from fun W h => ⟨(h.cell (p := ⟨w5.heap.size, 0, none⟩) (blt f5_2_0)).trans f5_2_0, (h.cell (p := ⟨w5.heap.size, 1, none⟩) (blt f5_2_1)).trans f5_2_1⟩)
  have C2_5 := Lib.hid (Below.refl (w5.alloc (.cells #[.int .i64 c0, .int .i64 c1] 23)).heap.size (w5.alloc (.cells #[.int .i64 c0, .int .i64 c1] 23)))
  go_wp2_with fail
  refine (PA2.out _).mono ?_; rintro e w6 ⟨rfl, hb⟩
  have B6 : RowKit.Hid (Below w.heap.size w (w6.alloc (.cells #[.int .i64 c0, .int .i64 c1] 23))) := Lib.hid (bal (btr B5.out hb) _)
  have C0_6 : RowKit.Hid (Below U.heap.size U (w6.alloc (.cells #[.int .i64 c0, .int .i64 c1] 23))) := Lib.hid (bal (btr C0_5.out hb) _)
  have C1_6 : RowKit.Hid (Below U.heap.size U (w6.alloc (.cells #[.int .i64 c0, .int .i64 c1] 23))) := Lib.hid (bal (btr C1_5.out hb) _)
  have C2_6 : RowKit.Hid (Below (w5.alloc (.cells #[.int .i64 c0, .int .i64 c1] 23)).heap.size (w5.alloc (.cells #[.int .i64 c0, .int .i64 c1] 23)) (w6.alloc (.cells #[.int .i64 c0, .int .i64 c1] 23))) := Lib.hid (bal (btr C2_5.out hb) _)
  clear f5_0_0 f5_0_1 f5_1_0 f5_1_1 f5_2_0 f5_2_1 hb
  obtain ⟨f6_0_0, f6_0_1⟩ := KK0.out (w6.alloc (.cells #[.int .i64 c0, .int .i64 c1] 23)) C0_6.out
  obtain ⟨f6_1_0, f6_1_1⟩ := KK1.out (w6.alloc (.cells #[.int .i64 c0, .int .i64 c1] 23)) C1_6.out
  obtain ⟨f6_2_0, f6_2_1⟩ := KK2.out (w6.alloc (.cells #[.int .i64 c0, .int .i64 c1] 23)) C2_6.out
  have f6_3_0 : (w6.alloc (.cells #[.int .i64 c0, .int .i64 c1] 23)).cell? ⟨w6.heap.size, 0, none⟩ = some (.int .i64 c0) := by go_simp
  have f6_3_1 : (w6.alloc (.cells #[.int .i64 c0, .int .i64 c1] 23)).cell? ⟨w6.heap.size, 1, none⟩ = some (.int .i64 c1) := by go_simp
  have KK3 := Lib.hid (show ∀ W, Below (w6.alloc (.cells #[.int .i64 c0, .int .i64 c1] 23)).heap.size (w6.alloc (.cells #[.int .i64 c0, .int .i64 c1] 23)) W → W.cell? ⟨w6.heap.size, 0, none⟩ = some (.int .i64 c0) ∧ W.cell? ⟨w6.heap.size, 1, none⟩ = some (.int .i64 c1) from fun W h => ⟨(h.cell (p := ⟨w6.heap.size, 0, none⟩) (blt f6_3_0)).trans f6_3_0, (h.cell (p := ⟨w6.heap.size, 1, none⟩) (blt f6_3_1)).trans f6_3_1⟩)
  have C3_6 := Lib.hid (Below.refl (w6.alloc (.cells #[.int .i64 c0, .int .i64 c1] 23)).heap.size (w6.alloc (.cells #[.int .i64 c0, .int .i64 c1] 23)))
  go_wp2_with fail
  refine (M1.out _).mono ?_; rintro e w7 ⟨rfl, hb⟩
  have B7 : RowKit.Hid (Below w.heap.size w (w7.alloc (.cells #[.int .i64 m0, .int .i64 m1] 23))) := Lib.hid (bal (btr B6.out hb) _)
  have C0_7 : RowKit.Hid (Below U.heap.size U (w7.alloc (.cells #[.int .i64 m0, .int .i64 m1] 23))) := Lib.hid (bal (btr C0_6.out hb) _)
  have C1_7 : RowKit.Hid (Below U.heap.size U (w7.alloc (.cells #[.int .i64 m0, .int .i64 m1] 23))) := Lib.hid (bal (btr C1_6.out hb) _)
  have C2_7 : RowKit.Hid (Below (w5.alloc (.cells #[.int .i64 c0, .int .i64 c1] 23)).heap.size (w5.alloc (.cells #[.int .i64 c0, .int .i64 c1] 23)) (w7.alloc (.cells #[.int .i64 m0, .int .i64 m1] 23))) := Lib.hid (bal (btr C2_6.out hb) _)
  have C3_7 : RowKit.Hid (Below (w6.alloc (.cells #[.int .i64 c0, .int .i64 c1] 23)).heap.size (w6.alloc (.cells #[.int .i64 c0, .int .i64 c1] 23)) (w7.alloc (.cells #[.int .i64 m0, .int .i64 m1] 23))) := Lib.hid (bal (btr C3_6.out hb) _)
  clear f6_0_0 f6_0_1 f6_1_0 f6_1_1 f6_2_0 f6_2_1 f6_3_0 f6_3_1 hb
  obtain ⟨f7_0_0, f7_0_1⟩ := KK0.out (w7.alloc (.cells #[.int .i64 m0, .int .i64 m1] 23)) C0_7.out
  obtain ⟨f7_1_0, f7_1_1⟩ := KK1.out (w7.alloc (.cells #[.int .i64 m0, .int .i64 m1] 23)) C1_7.out
  obtain ⟨f7_2_0, f7_2_1⟩ := KK2.out (w7.alloc (.cells #[.int .i64 m0, .int .i64 m1] 23)) C2_7.out
  obtain ⟨f7_3_0, f7_3_1⟩ := KK3.out (w7.alloc (.cells #[.int .i64 m0, .int .i64 m1] 23)) C3_7.out
  have f7_4_0 : (w7.alloc (.cells #[.int .i64 m0, .int .i64 m1] 23)).cell? ⟨w7.heap.size, 0, none⟩ = some (.int .i64 m0) := by go_simp
  have f7_4_1 : (w7.alloc (.cells #[.int .i64 m0, .int .i64 m1] 23)).cell? ⟨w7.heap.size, 1, none⟩ = some (.int .i64 m1) := by go_simp
  have KK4 := Lib.hid (show ∀ W, Below (w7.alloc (.cells #[.int .i64 m0, .int .i64 m1] 23)).heap.size (w7.alloc (.cells #[.int .i64 m0, .int .i64 m1] 23)) W → W.cell? ⟨w7.heap.size, 0, none⟩ = some (.int .i64 m0) ∧ W.cell? ⟨w7.heap.size, 1, none⟩ = some (.int .i64 m1) from fun W h => ⟨(h.cell (p := ⟨w7.heap.size, 0, none⟩) (blt f7_4_0)).trans f7_4_0, (h.cell (p := ⟨w7.heap.size, 1, none⟩) (blt f7_4_1)).trans f7_4_1⟩)
  have C4_7 := Lib.hid (Below.refl (w7.alloc (.cells #[.int .i64 m0, .int .i64 m1] 23)).heap.size (w7.alloc (.cells #[.int .i64 m0, .int .i64 m1] 23)))
  go_wp2_with fail
  refine (M2.out _).mono ?_; rintro e w8 ⟨rfl, hb⟩
  have B8 : RowKit.Hid (Below w.heap.size w (w8.alloc (.cells #[.int .i64 m0, .int .i64 m1] 23))) := Lib.hid (bal (btr B7.out hb) _)
  have C0_8 : RowKit.Hid (Below U.heap.size U (w8.alloc (.cells #[.int .i64 m0, .int .i64 m1] 23))) := Lib.hid (bal (btr C0_7.out hb) _)
  have C1_8 : RowKit.Hid (Below U.heap.size U (w8.alloc (.cells #[.int .i64 m0, .int .i64 m1] 23))) := Lib.hid (bal (btr C1_7.out hb) _)
  have C2_8 : RowKit.Hid (Below (w5.alloc (.cells #[.int .i64 c0, .int .i64 c1] 23)).heap.size (w5.alloc (.cells #[.int .i64 c0, .int .i64 c1] 23)) (w8.alloc (.cells #[.int .i64 m0, .int .i64 m1] 23))) := Lib.hid (bal (btr C2_7.out hb) _)
  have C3_8 : RowKit.Hid (Below (w6.alloc (.cells #[.int .i64 c0, .int .i64 c1] 23)).heap.size (w6.alloc (.cells #[.int .i64 c0, .int .i64 c1] 23)) (w8.alloc (.cells #[.int .i64 m0, .int .i64 m1] 23))) := Lib.hid (bal (btr C3_7.out hb) _)
  have C4_8 : RowKit.Hid (Below (w7.alloc (.cells #[.int .i64 m0, .int .i64 m1] 23)).heap.size (w7.alloc (.cells #[.int .i64 m0, .int .i64 m1] 23)) (w8.alloc (.cells #[.int .i64 m0, .int .i64 m1] 23))) := Lib.hid (bal (btr C4_7.out hb) _)
  clear f7_0_0 f7_0_1 f7_1_0 f7_1_1 f7_2_0 f7_2_1 f7_3_0 f7_3_1 f7_4_0 f7_4_1 hb
  obtain ⟨f8_0_0, f8_0_1⟩ := KK0.out (w8.alloc (.cells #[.int .i64 m0, .int .i64 m1] 23)) C0_8.out
  obtain ⟨f8_1_0, f8_1_1⟩ := KK1.out (w8.alloc (.cells #[.int .i64 m0, .int .i64 m1] 23)) C1_8.out
  obtain ⟨f8_2_0, f8_2_1⟩ := KK2.out (w8.alloc (.cells #[.int .i64 m0, .int .i64 m1] 23)) C2_8.out
  obtain ⟨f8_3_0, f8_3_1⟩ := KK3.out (w8.alloc (.cells #[.int .i64 m0, .int .i64 m1] 23)) C3_8.out
  obtain ⟨f8_4_0, f8_4_1⟩ := KK4.out (w8.alloc (.cells #[.int .i64 m0, .int .i64 m1] 23)) C4_8.out
  have f8_5_0 : (w8.alloc (.cells #[.int .i64 m0, .int .i64 m1] 23)).cell? ⟨w8.heap.size, 0, none⟩ = some (.int .i64 m0) := by go_simp
  have f8_5_1 : (w8.alloc (.cells #[.int .i64 m0, .int .i64 m1] 23)).cell? ⟨w8.heap.size, 1, none⟩ = some (.int .i64 m1) := by go_simp
  have KK5 := Lib.hid (show ∀ W, Below (w8.alloc (.cells #[.int .i64 m0, .int .i64 m1] 23)).heap.size (w8.alloc (.cells #[.int .i64 m0, .int .i64 m1] 23)) W → W.cell? ⟨w8.heap.size, 0, none⟩ = some (.int .i64 m0) ∧ W.cell? ⟨w8.heap.size, 1, none⟩ = some (.int .i64 m1) from fun W h => ⟨(h.cell (p := ⟨w8.heap.size, 0, none⟩) (blt f8_5_0)).trans f8_5_0, (h.cell (p := ⟨w8.heap.size, 1, none⟩) (blt f8_5_1)).trans f8_5_1⟩)
  have C5_8 := Lib.hid (Below.refl (w8.alloc (.cells #[.int .i64 m0, .int .i64 m1] 23)).heap.size (w8.alloc (.cells #[.int .i64 m0, .int .i64 m1] 23)))
  go_wp2_with fail
  have BZ := Lib.hid B8.out
  generalize hVV : (w8.alloc (.cells #[.int .i64 m0, .int .i64 m1] 23)) = VV at *
  clear hVV
  have u0 : Below VV.heap.size VV VV := Below.refl _ VV
  have MK := Lib.hid (show ∀ w', Below VV.heap.size VV w' → w'.cell? ⟨w.heap.size, 0, none⟩ = some (.int .i64 F) ∧ w'.cell? ⟨w.heap.size, 1, none⟩ = some (.int .i64 T) ∧ w'.cell? ⟨w5.heap.size, 0, none⟩ = some (.int .i64 c0) ∧ w'.cell? ⟨w5.heap.size, 1, none⟩ = some (.int .i64 c1) ∧ w'.cell? ⟨w6.heap.size, 0, none⟩ = some (.int .i64 c0) ∧ w'.cell? ⟨w6.heap.size, 1, none⟩ = some (.int .i64 c1) ∧ w'.cell? ⟨w7.heap.size, 0, none⟩ = some (.int .i64 m0) ∧ w'.cell? ⟨w7.heap.size, 1, none⟩ = some (.int .i64 m1) ∧ w'.cell? ⟨w8.heap.size, 0, none⟩ = some (.int .i64 m0) ∧ w'.cell? ⟨w8.heap.size, 1, none⟩ = some (.int .i64 m1) ∧ Below VV.heap.size VV w' from
    (fun w' h => ⟨(h.cell (p := ⟨w.heap.size, 0, none⟩) (blt f8_0_0)).trans f8_0_0, (h.cell (p := ⟨w.heap.size, 1, none⟩) (blt f8_0_0)).trans f8_0_1, (h.cell (p := ⟨w5.heap.size, 0, none⟩) (blt f8_2_0)).trans f8_2_0, (h.cell (p := ⟨w5.heap.size, 1, none⟩) (blt f8_2_0)).trans f8_2_1, (h.cell (p := ⟨w6.heap.size, 0, none⟩) (blt f8_3_0)).trans f8_3_0, (h.cell (p := ⟨w6.heap.size, 1, none⟩) (blt f8_3_0)).trans f8_3_1, (h.cell (p := ⟨w7.heap.size, 0, none⟩) (blt f8_4_0)).trans f8_4_0, (h.cell (p := ⟨w7.heap.size, 1, none⟩) (blt f8_4_0)).trans f8_4_1, (h.cell (p := ⟨w8.heap.size, 0, none⟩) (blt f8_5_0)).trans f8_5_0, (h.cell (p := ⟨w8.heap.size, 1, none⟩) (blt f8_5_0)).trans f8_5_1, h⟩))
  refine wp_region_held_drew (S := (fun w' => w'.cell? ⟨w.heap.size, 0, none⟩ = some (.int .i64 F) ∧ w'.cell? ⟨w.heap.size, 1, none⟩ = some (.int .i64 T) ∧ w'.cell? ⟨w5.heap.size, 0, none⟩ = some (.int .i64 c0) ∧ w'.cell? ⟨w5.heap.size, 1, none⟩ = some (.int .i64 c1) ∧ w'.cell? ⟨w6.heap.size, 0, none⟩ = some (.int .i64 c0) ∧ w'.cell? ⟨w6.heap.size, 1, none⟩ = some (.int .i64 c1) ∧ w'.cell? ⟨w7.heap.size, 0, none⟩ = some (.int .i64 m0) ∧ w'.cell? ⟨w7.heap.size, 1, none⟩ = some (.int .i64 m1) ∧ w'.cell? ⟨w8.heap.size, 0, none⟩ = some (.int .i64 m0) ∧ w'.cell? ⟨w8.heap.size, 1, none⟩ = some (.int .i64 m1) ∧ Below VV.heap.size VV w')) (by kernel_rfl) ?_ (fun hHeld => ?_)
  · (first | with_reducible assumption | exact MK.out _ (by with_reducible assumption) | exact MK.out _ (below_drew (by with_reducible assumption)))
  refine takeH (i := 0) (some 57) (v := ?_) rfl rfl (by kernel_rfl) (by kernel_rfl) (by kernel_rfl) (fun _ _ _ h => h) (Or.inl ⟨by rfl, ?hy0⟩) hHeld ?rest0
  case hy0 => (intro w hSw; (try dsimp only at hSw); go_simp; (try with_reducible rfl))
  try simp only [Act.put, List.setIfInBounds_toArray, List.set_cons_zero, List.set_cons_succ]
  refine takeH (i := 1) (some 58) (v := ?_) rfl rfl (by kernel_rfl) (by kernel_rfl) (by kernel_rfl) (fun _ _ _ h => h) (Or.inl ⟨by rfl, ?hy1⟩) hHeld ?rest1
  case hy1 => (intro w hSw; (try dsimp only at hSw); go_simp; (try with_reducible rfl))
  try simp only [Act.put, List.setIfInBounds_toArray, List.set_cons_zero, List.set_cons_succ]
  refine takeH (i := 2) (some 59) (v := ?_) rfl rfl (by kernel_rfl) (by kernel_rfl) (by kernel_rfl) (fun _ _ _ h => h) (Or.inl ⟨by rfl, ?hy2⟩) hHeld ?rest2
  case hy2 => (intro w hSw; (try dsimp only at hSw); go_simp; (try with_reducible rfl))
  try simp only [Act.put, List.setIfInBounds_toArray, List.set_cons_zero, List.set_cons_succ]
  refine takeH (i := 4) (some 61) (v := ?_) rfl rfl (by kernel_rfl) (by kernel_rfl) (by kernel_rfl) (fun _ _ _ h => h) (Or.inl ⟨by rfl, ?hy4⟩) hHeld ?rest4
  case hy4 => (intro w hSw; (try dsimp only at hSw); go_simp; (try with_reducible rfl))
  try simp only [Act.put, List.setIfInBounds_toArray, List.set_cons_zero, List.set_cons_succ]
  refine wpAnyH_ready (rs := [3]) (by kernel_rfl) (by simp) ?_
  refine AllReadyH.cons rfl (fun K hK => ?_) AllReadyH.nil
  go_simp
  with_reducible refine (R1.out _).mono ?_; rintro e wn ⟨rfl, pB⟩; have sB := btr hHeld.2.2.2.2.2.2.2.2.2.2 pB; clear pB hHeld
  refine hK.out _ _ ?_ (fun hHeld => ?_)
  · (first | with_reducible assumption | exact MK.out _ (by with_reducible assumption) | exact MK.out _ (below_drew (by with_reducible assumption)))
  clear hK K
  try simp only [Act.put, List.setIfInBounds_toArray, List.set_cons_zero, List.set_cons_succ]
  refine wpAnyH_ready (rs := [5]) (by kernel_rfl) (by simp) ?_
  refine AllReadyH.cons rfl (fun K hK => ?_) AllReadyH.nil
  go_simp
  with_reducible refine (R2.out _).mono ?_; rintro e wn ⟨rfl, pB⟩; have sB := btr hHeld.2.2.2.2.2.2.2.2.2.2 pB; clear pB hHeld
  refine hK.out _ _ ?_ (fun hHeld => ?_)
  · (first | with_reducible assumption | exact MK.out _ (by with_reducible assumption) | exact MK.out _ (below_drew (by with_reducible assumption)))
  clear hK K
  try simp only [Act.put, List.setIfInBounds_toArray, List.set_cons_zero, List.set_cons_succ]
  refine takeH (i := 6) (some 63) (v := ?_) rfl rfl (by kernel_rfl) (by kernel_rfl) (by kernel_rfl) (fun _ _ _ h => h) (Or.inl ⟨by rfl, ?hy6⟩) hHeld ?rest6
  case hy6 => (intro w hSw; (try dsimp only at hSw); go_simp; (try with_reducible rfl))
  try simp only [Act.put, List.setIfInBounds_toArray, List.set_cons_zero, List.set_cons_succ]
  refine takeH (i := 7) (some 64) (v := ?_) rfl rfl (by kernel_rfl) (by kernel_rfl) (by kernel_rfl) (fun _ _ _ h => h) (Or.inl ⟨by rfl, ?hy7⟩) hHeld ?rest7
  case hy7 => (intro w hSw; (try dsimp only at hSw); go_simp; (try with_reducible rfl))
  try simp only [Act.put, List.setIfInBounds_toArray, List.set_cons_zero, List.set_cons_succ]
  refine takeH (i := 8) (some 65) (v := ?_) rfl rfl (by kernel_rfl) (by kernel_rfl) (by kernel_rfl) (fun _ _ _ h => h) (Or.inl ⟨by rfl, ?hy8⟩) hHeld ?rest8
  case hy8 => (intro w hSw; (try dsimp only at hSw); go_simp; (try with_reducible rfl))
  try simp only [Act.put, List.setIfInBounds_toArray, List.set_cons_zero, List.set_cons_succ]
  refine takeH (i := 9) (some 66) (v := ?_) rfl rfl (by kernel_rfl) (by kernel_rfl) (by kernel_rfl) (fun _ _ _ h => h) (Or.inl ⟨by rfl, ?hy9⟩) hHeld ?rest9
  case hy9 => (intro w hSw; (try dsimp only at hSw); go_simp; (try with_reducible rfl))
  try simp only [Act.put, List.setIfInBounds_toArray, List.set_cons_zero, List.set_cons_succ]
  refine takeH (i := 10) (some 67) (v := ?_) rfl rfl (by kernel_rfl) (by kernel_rfl) (by kernel_rfl) (fun _ _ _ h => h) (Or.inl ⟨by rfl, ?hy10⟩) hHeld ?rest10
  case hy10 => (intro w hSw; (try dsimp only at hSw); go_simp; (try with_reducible rfl))
  try simp only [Act.put, List.setIfInBounds_toArray, List.set_cons_zero, List.set_cons_succ]
  refine takeH (i := 11) (some 68) (v := ?_) rfl rfl (by kernel_rfl) (by kernel_rfl) (by kernel_rfl) (fun _ _ _ h => h) (Or.inl ⟨by rfl, ?hy11⟩) hHeld ?rest11
  case hy11 => (intro w hSw; (try dsimp only at hSw); go_simp; (try with_reducible rfl))
  try simp only [Act.put, List.setIfInBounds_toArray, List.set_cons_zero, List.set_cons_succ]
  refine takeH (i := 12) (some 69) (v := ?_) rfl rfl (by kernel_rfl) (by kernel_rfl) (by kernel_rfl) (fun _ _ _ h => h) (Or.inl ⟨by rfl, ?hy12⟩) hHeld ?rest12
  case hy12 => (intro w hSw; (try dsimp only at hSw); go_simp; (try with_reducible rfl))
  try simp only [Act.put, List.setIfInBounds_toArray, List.set_cons_zero, List.set_cons_succ]
  refine takeH (i := 13) (some 70) (v := ?_) rfl rfl (by kernel_rfl) (by kernel_rfl) (by kernel_rfl) (fun _ _ _ h => h) (Or.inl ⟨by rfl, ?hy13⟩) hHeld ?rest13
  case hy13 => (intro w hSw; (try dsimp only at hSw); go_simp; (try with_reducible rfl))
  try simp only [Act.put, List.setIfInBounds_toArray, List.set_cons_zero, List.set_cons_succ]
  refine takeH (i := 14) (some 71) (v := ?_) rfl rfl (by kernel_rfl) (by kernel_rfl) (by kernel_rfl) (fun _ _ _ h => h) (Or.inl ⟨by rfl, ?hy14⟩) hHeld ?rest14
  case hy14 => (intro w hSw; (try dsimp only at hSw); go_simp; (try with_reducible rfl))
  try simp only [Act.put, List.setIfInBounds_toArray, List.set_cons_zero, List.set_cons_succ]
  refine takeH (i := 15) (some 72) (v := ?_) rfl rfl (by kernel_rfl) (by kernel_rfl) (by kernel_rfl) (fun _ _ _ h => h) (Or.inl ⟨by rfl, ?hy15⟩) hHeld ?rest15
  case hy15 => (intro w hSw; (try dsimp only at hSw); go_simp; (try with_reducible rfl))
  try simp only [Act.put, List.setIfInBounds_toArray, List.set_cons_zero, List.set_cons_succ]
  refine takeH (i := 16) (some 73) (v := ?_) rfl rfl (by kernel_rfl) (by kernel_rfl) (by kernel_rfl) (fun _ _ _ h => h) (Or.inl ⟨by rfl, ?hy16⟩) hHeld ?rest16
  case hy16 => (intro w hSw; (try dsimp only at hSw); go_simp; (try with_reducible rfl))
  try simp only [Act.put, List.setIfInBounds_toArray, List.set_cons_zero, List.set_cons_succ]
  refine takeH (i := 17) (some 74) (v := ?_) rfl rfl (by kernel_rfl) (by kernel_rfl) (by kernel_rfl) (fun _ _ _ h => h) (Or.inl ⟨by rfl, ?hy17⟩) hHeld ?rest17
  case hy17 => (intro w hSw; (try dsimp only at hSw); go_simp; (try with_reducible rfl))
  try simp only [Act.put, List.setIfInBounds_toArray, List.set_cons_zero, List.set_cons_succ]
  refine takeH (i := 18) (some 75) (v := ?_) rfl rfl (by kernel_rfl) (by kernel_rfl) (by kernel_rfl) (fun _ _ _ h => h) (Or.inl ⟨by rfl, ?hy18⟩) hHeld ?rest18
  case hy18 => (intro w hSw; (try dsimp only at hSw); go_simp; (try with_reducible rfl))
  try simp only [Act.put, List.setIfInBounds_toArray, List.set_cons_zero, List.set_cons_succ]
  refine takeH (i := 19) (some 76) (v := ?_) rfl rfl (by kernel_rfl) (by kernel_rfl) (by kernel_rfl) (fun _ _ _ h => h) (Or.inl ⟨by rfl, ?hy19⟩) hHeld ?rest19
  case hy19 => (intro w hSw; (try dsimp only at hSw); go_simp; (try with_reducible rfl))
  try simp only [Act.put, List.setIfInBounds_toArray, List.set_cons_zero, List.set_cons_succ]
  refine takeH (i := 20) (some 77) (v := ?_) rfl rfl (by kernel_rfl) (by kernel_rfl) (by kernel_rfl) (fun _ _ _ h => h) (Or.inl ⟨by rfl, ?hy20⟩) hHeld ?rest20
  case hy20 => (intro w hSw; (try dsimp only at hSw); go_simp; (try with_reducible rfl))
  try simp only [Act.put, List.setIfInBounds_toArray, List.set_cons_zero, List.set_cons_succ]
  refine takeH (i := 21) (some 78) (v := ?_) rfl rfl (by kernel_rfl) (by kernel_rfl) (by kernel_rfl) (fun _ _ _ h => h) (Or.inl ⟨by rfl, ?hy21⟩) hHeld ?rest21
  case hy21 => (intro w hSw; (try dsimp only at hSw); go_simp; (try with_reducible rfl))
  try simp only [Act.put, List.setIfInBounds_toArray, List.set_cons_zero, List.set_cons_succ]
  refine takeH (i := 22) (some 79) (v := ?_) rfl rfl (by kernel_rfl) (by kernel_rfl) (by kernel_rfl) (fun _ _ _ h => h) (Or.inl ⟨by rfl, ?hy22⟩) hHeld ?rest22
  case hy22 => (intro w hSw; (try dsimp only at hSw); go_simp; (try with_reducible rfl))
  try simp only [Act.put, List.setIfInBounds_toArray, List.set_cons_zero, List.set_cons_succ]
  refine takeH (i := 23) (some 80) (v := ?_) rfl rfl (by kernel_rfl) (by kernel_rfl) (by kernel_rfl) (fun _ _ _ h => h) (Or.inl ⟨by rfl, ?hy23⟩) hHeld ?rest23
  case hy23 => (intro w hSw; (try dsimp only at hSw); go_simp; (try with_reducible rfl))
  try simp only [Act.put, List.setIfInBounds_toArray, List.set_cons_zero, List.set_cons_succ]
  refine takeH (i := 24) (some 81) (v := ?_) rfl rfl (by kernel_rfl) (by kernel_rfl) (by kernel_rfl) (fun _ _ _ h => h) (Or.inl ⟨by rfl, ?hy24⟩) hHeld ?rest24
  case hy24 => (intro w hSw; (try dsimp only at hSw); go_simp; (try with_reducible rfl))
  try simp only [Act.put, List.setIfInBounds_toArray, List.set_cons_zero, List.set_cons_succ]
  refine takeH (i := 25) (some 82) (v := ?_) rfl rfl (by kernel_rfl) (by kernel_rfl) (by kernel_rfl) (fun _ _ _ h => h) (Or.inl ⟨by rfl, ?hy25⟩) hHeld ?rest25
  case hy25 => (intro w hSw; (try dsimp only at hSw); go_simp; (try with_reducible rfl))
  try simp only [Act.put, List.setIfInBounds_toArray, List.set_cons_zero, List.set_cons_succ]
  refine takeH (i := 26) (some 83) (v := ?_) rfl rfl (by kernel_rfl) (by kernel_rfl) (by kernel_rfl) (fun _ _ _ h => h) (Or.inl ⟨by rfl, ?hy26⟩) hHeld ?rest26
  case hy26 => (intro w hSw; (try dsimp only at hSw); go_simp; (try with_reducible rfl))
  try simp only [Act.put, List.setIfInBounds_toArray, List.set_cons_zero, List.set_cons_succ]
  refine takeH (i := 27) (some 84) (v := ?_) rfl rfl (by kernel_rfl) (by kernel_rfl) (by kernel_rfl) (fun _ _ _ h => h) (Or.inl ⟨by rfl, ?hy27⟩) hHeld ?rest27
  case hy27 => (intro w hSw; (try dsimp only at hSw); go_simp; (try with_reducible rfl))
  try simp only [Act.put, List.setIfInBounds_toArray, List.set_cons_zero, List.set_cons_succ]
  refine takeH (i := 28) (some 85) (v := ?_) rfl rfl (by kernel_rfl) (by kernel_rfl) (by kernel_rfl) (fun _ _ _ h => h) (Or.inl ⟨by rfl, ?hy28⟩) hHeld ?rest28
  case hy28 => (intro w hSw; (try dsimp only at hSw); go_simp; (try with_reducible rfl))
  try simp only [Act.put, List.setIfInBounds_toArray, List.set_cons_zero, List.set_cons_succ]
  refine takeH (i := 29) (some 86) (v := ?_) rfl rfl (by kernel_rfl) (by kernel_rfl) (by kernel_rfl) (fun _ _ _ h => h) (Or.inl ⟨by rfl, ?hy29⟩) hHeld ?rest29
  case hy29 => (intro w hSw; (try dsimp only at hSw); go_simp; (try with_reducible rfl))
  try simp only [Act.put, List.setIfInBounds_toArray, List.set_cons_zero, List.set_cons_succ]
  refine takeH (i := 30) (some 87) (v := ?_) rfl rfl (by kernel_rfl) (by kernel_rfl) (by kernel_rfl) (fun _ _ _ h => h) (Or.inl ⟨by rfl, ?hy30⟩) hHeld ?rest30
  case hy30 => (intro w hSw; (try dsimp only at hSw); go_simp; (try with_reducible rfl))
  try simp only [Act.put, List.setIfInBounds_toArray, List.set_cons_zero, List.set_cons_succ]
  refine takeH (i := 31) (some 88) (v := ?_) rfl rfl (by kernel_rfl) (by kernel_rfl) (by kernel_rfl) (fun _ _ _ h => h) (Or.inl ⟨by rfl, ?hy31⟩) hHeld ?rest31
  case hy31 => (intro w hSw; (try dsimp only at hSw); go_simp; (try with_reducible rfl))
  try simp only [Act.put, List.setIfInBounds_toArray, List.set_cons_zero, List.set_cons_succ]
  refine takeH (i := 32) (some 89) (v := ?_) rfl rfl (by kernel_rfl) (by kernel_rfl) (by kernel_rfl) (fun _ _ _ h => h) (Or.inl ⟨by rfl, ?hy32⟩) hHeld ?rest32
  case hy32 => (intro w hSw; (try dsimp only at hSw); go_simp; (try with_reducible rfl))
  try simp only [Act.put, List.setIfInBounds_toArray, List.set_cons_zero, List.set_cons_succ]
  refine takeH (i := 33) (some 90) (v := ?_) rfl rfl (by kernel_rfl) (by kernel_rfl) (by kernel_rfl) (fun _ _ _ h => h) (Or.inl ⟨by rfl, ?hy33⟩) hHeld ?rest33
  case hy33 => (intro w hSw; (try dsimp only at hSw); go_simp; (try with_reducible rfl))
  try simp only [Act.put, List.setIfInBounds_toArray, List.set_cons_zero, List.set_cons_succ]
  refine takeH (i := 34) (some 91) (v := ?_) rfl rfl (by kernel_rfl) (by kernel_rfl) (by kernel_rfl) (fun _ _ _ h => h) (Or.inl ⟨by rfl, ?hy34⟩) hHeld ?rest34
  case hy34 => (intro w hSw; (try dsimp only at hSw); go_simp; (try with_reducible rfl))
  try simp only [Act.put, List.setIfInBounds_toArray, List.set_cons_zero, List.set_cons_succ]
  refine takeH (i := 35) (some 92) (v := ?_) rfl rfl (by kernel_rfl) (by kernel_rfl) (by kernel_rfl) (fun _ _ _ h => h) (Or.inl ⟨by rfl, ?hy35⟩) hHeld ?rest35
  case hy35 => (intro w hSw; (try dsimp only at hSw); go_simp; (try with_reducible rfl))
  try simp only [Act.put, List.setIfInBounds_toArray, List.set_cons_zero, List.set_cons_succ]
  refine takeH (i := 36) (some 93) (v := ?_) rfl rfl (by kernel_rfl) (by kernel_rfl) (by kernel_rfl) (fun _ _ _ h => h) (Or.inl ⟨by rfl, ?hy36⟩) hHeld ?rest36
  case hy36 => (intro w hSw; (try dsimp only at hSw); go_simp; (try with_reducible rfl))
  try simp only [Act.put, List.setIfInBounds_toArray, List.set_cons_zero, List.set_cons_succ]
  refine takeH (i := 37) (some 94) (v := ?_) rfl rfl (by kernel_rfl) (by kernel_rfl) (by kernel_rfl) (fun _ _ _ h => h) (Or.inl ⟨by rfl, ?hy37⟩) hHeld ?rest37
  case hy37 => (intro w hSw; (try dsimp only at hSw); go_simp; (try with_reducible rfl))
  try simp only [Act.put, List.setIfInBounds_toArray, List.set_cons_zero, List.set_cons_succ]
  refine takeH (i := 38) (some 95) (v := ?_) rfl rfl (by kernel_rfl) (by kernel_rfl) (by kernel_rfl) (fun _ _ _ h => h) (Or.inl ⟨by rfl, ?hy38⟩) hHeld ?rest38
  case hy38 => (intro w hSw; (try dsimp only at hSw); go_simp; (try with_reducible rfl))
  try simp only [Act.put, List.setIfInBounds_toArray, List.set_cons_zero, List.set_cons_succ]
  refine takeH (i := 39) (some 96) (v := ?_) rfl rfl (by kernel_rfl) (by kernel_rfl) (by kernel_rfl) (fun _ _ _ h => h) (Or.inl ⟨by rfl, ?hy39⟩) hHeld ?rest39
  case hy39 => (intro w hSw; (try dsimp only at hSw); go_simp; (try with_reducible rfl))
  try simp only [Act.put, List.setIfInBounds_toArray, List.set_cons_zero, List.set_cons_succ]
  refine takeH (i := 40) (some 97) (v := ?_) rfl rfl (by kernel_rfl) (by kernel_rfl) (by kernel_rfl) (fun _ _ _ h => h) (Or.inl ⟨by rfl, ?hy40⟩) hHeld ?rest40
  case hy40 => (intro w hSw; (try dsimp only at hSw); go_simp; (try with_reducible rfl))
  try simp only [Act.put, List.setIfInBounds_toArray, List.set_cons_zero, List.set_cons_succ]
  refine takeH (i := 42) (some 99) (v := ?_) rfl rfl (by kernel_rfl) (by kernel_rfl) (by kernel_rfl) (fun _ _ _ h => h) (Or.inl ⟨by rfl, ?hy42⟩) hHeld ?rest42
  case hy42 => (intro w hSw; (try dsimp only at hSw); go_simp; (try with_reducible rfl))
  try simp only [Act.put, List.setIfInBounds_toArray, List.set_cons_zero, List.set_cons_succ]
  refine takeH (i := 43) (some 100) (v := ?_) rfl rfl (by kernel_rfl) (by kernel_rfl) (by kernel_rfl) (fun _ _ _ h => h) (Or.inl ⟨by rfl, ?hy43⟩) hHeld ?rest43
  case hy43 => (intro w hSw; (try dsimp only at hSw); go_simp; (try with_reducible rfl))
  try simp only [Act.put, List.setIfInBounds_toArray, List.set_cons_zero, List.set_cons_succ]
  refine wpAnyH_ready (rs := [41]) (by kernel_rfl) (by simp) ?_
  refine AllReadyH.cons rfl (fun K hK => ?_) AllReadyH.nil
  go_simp
  with_reducible refine (H1.out _).mono ?_; rintro e wn ⟨rfl, pB⟩; have sB := btr hHeld.2.2.2.2.2.2.2.2.2.2 pB; clear pB hHeld
  refine hK.out _ _ ?_ (fun hHeld => ?_)
  · (first | with_reducible assumption | exact MK.out _ (by with_reducible assumption) | exact MK.out _ (below_drew (by with_reducible assumption)))
  clear hK K
  try simp only [Act.put, List.setIfInBounds_toArray, List.set_cons_zero, List.set_cons_succ]
  refine wpAnyH_ready (rs := [44]) (by kernel_rfl) (by simp) ?_
  refine AllReadyH.cons rfl (fun K hK => ?_) AllReadyH.nil
  go_simp
  with_reducible refine (H2.out _).mono ?_; rintro e wn ⟨rfl, pB⟩; have sB := btr hHeld.2.2.2.2.2.2.2.2.2.2 pB; clear pB hHeld
  refine hK.out _ _ ?_ (fun hHeld => ?_)
  · (first | with_reducible assumption | exact MK.out _ (by with_reducible assumption) | exact MK.out _ (below_drew (by with_reducible assumption)))
  clear hK K
  try simp only [Act.put, List.setIfInBounds_toArray, List.set_cons_zero, List.set_cons_succ]
  refine takeH (i := 45) (some 102) (v := ?_) rfl rfl (by kernel_rfl) (by kernel_rfl) (by kernel_rfl) (fun _ _ _ h => h) (Or.inl ⟨by rfl, ?hy45⟩) hHeld ?rest45
  case hy45 => (intro w hSw; (try dsimp only at hSw); go_simp; (try with_reducible rfl))
  try simp only [Act.put, List.setIfInBounds_toArray, List.set_cons_zero, List.set_cons_succ]
  refine takeH (i := 46) (some 103) (v := ?_) rfl rfl (by kernel_rfl) (by kernel_rfl) (by kernel_rfl) (fun _ _ _ h => h) (Or.inl ⟨by rfl, ?hy46⟩) hHeld ?rest46
  case hy46 => (intro w hSw; (try dsimp only at hSw); go_simp; (try with_reducible rfl))
  try simp only [Act.put, List.setIfInBounds_toArray, List.set_cons_zero, List.set_cons_succ]
  refine takeH (i := 47) (some 8) (v := ?_) rfl rfl (by kernel_rfl) (by kernel_rfl) (by kernel_rfl) (fun _ _ _ h => h) (Or.inl ⟨by rfl, ?hy47⟩) hHeld ?rest47
  case hy47 => (intro w hSw; (try dsimp only at hSw); go_simp; (try with_reducible rfl))
  try simp only [Act.put, List.setIfInBounds_toArray, List.set_cons_zero, List.set_cons_succ]
  refine wpAnyH_done (by kernel_rfl) ?_ _
  go_wp2
  go_ret
  exact ⟨ret_bool (by first | rfl | simp), btr BZ.out (by first | exact sB | assumption)⟩
theorem portsTexts_c (F T G U0 n : Int) (s0 : ByteArray) (w : World) (hL : Laid w) : Calls Tryz.prog 3 #[.agg #[.int .i64 F, .int .i64 T], .agg #[.int .i64 G, .int .i64 U0], .string s0, .int .i64 n] w fun x w' => x = .returned (.bool true) ∧ Below w.heap.size w w' := by
  have S0 := Lib.hid (fun W h => shown_c W h)
  have CU : Hid (∀ W, Calls Tryz.prog 6 #[.string s0] W fun x w' => x = .returned (.string (cut40 s0)) ∧ Below W.heap.size W w') := Lib.hid (fun W => (cut40_c s0 W).mono fun x w' ⟨h1, h2⟩ => ⟨h1, by rw [← h2]; exact Below.refl _ _⟩)
  have hS : (cut40 s0).size ≤ 1000 := by have := cut_size s0; omega
  exact textsL F T G U0 n _ _ _ _ _ _ _ _ _ s0 _ _ w hL S0 CU (Lib.hid fun W h => ports_print_c F T W h) (Lib.hid fun W => rprint7_c F T W) (Lib.hid fun W h => ports_parse_c _ hS W h) (Lib.hid fun W => rparse7_c _ hS W)
    (Lib.hid fun W => meet_c F T G U0 W) (Lib.hid fun W => rmeet7_c F T G U0 W) (Lib.hid fun W => rightQ_c F T W) (Lib.hid fun W => rright7_c F T W) (Lib.hid fun W => hasQ_c F T n W) (Lib.hid fun W => rhas7_c F T n W)
end Go.Proofs.YtlnjalhlbfbjcaaGreatDoor

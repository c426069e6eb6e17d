/- shown: some ports are known. -/
import Derived.Test.YtlnjalhlbfbjcaaGreatDoorT
namespace Go.Proofs.YtlnjalhlbfbjcaaGreatDoor
open Go.RowKit Go.Shelf
attribute [local go_sem] Oper.semAt_some

/-- The tables that a law reads. -/
def Laid (w : World) : Prop := Tabs w ∧ ErrT w
theorem Laid.on {a w : World} (h : Laid a) (b : Below a.heap.size a w) : Laid w := ⟨h.1.on b, h.2.on b⟩
set_option maxRecDepth 100000 in
set_option maxHeartbeats 4000000 in
theorem shown_c (w : World) (hL : Laid w) : Calls Tryz.prog 5 #[] w fun x w' => x = .returned (.bool true) ∧ Below w.heap.size w w' := by
  have HL := Lib.hid hL
  clear hL
  have P1' := fun W (h : ErrT W) => ports_parse_c ⟨#[56, 48, 45, 57, 48]⟩ (by decide) W h
  rw [show pqF ((⟨#[56, 48, 45, 57, 48]⟩ : ByteArray).data.toList) = 80 by decide +kernel, show pqT ((⟨#[56, 48, 45, 57, 48]⟩ : ByteArray).data.toList) = 90 by decide +kernel, show pqE ((⟨#[56, 48, 45, 57, 48]⟩ : ByteArray).data.toList) = 0 by decide +kernel] at P1'
  have P1 := Lib.hid P1'
  clear P1'
  have P2' := fun W (h : ErrT W) => ports_parse_c ⟨#[42]⟩ (by decide) W h
  rw [show pqF ((⟨#[42]⟩ : ByteArray).data.toList) = 0 by decide +kernel, show pqT ((⟨#[42]⟩ : ByteArray).data.toList) = 65535 by decide +kernel, show pqE ((⟨#[42]⟩ : ByteArray).data.toList) = 0 by decide +kernel] at P2'
  have P2 := Lib.hid P2'
  clear P2'
  have P3' := fun W => parseT_c ⟨#[49, 46, 50, 46, 51, 46, 52, 58, 56, 48]⟩ (by decide) W
  rw [show tgA ((⟨#[49, 46, 50, 46, 51, 46, 52, 58, 56, 48]⟩ : ByteArray).data.toList) = 16909060 by decide +kernel, show tgN ((⟨#[49, 46, 50, 46, 51, 46, 52, 58, 56, 48]⟩ : ByteArray).data.toList) = 80 by decide +kernel, show tgE ((⟨#[49, 46, 50, 46, 51, 46, 52, 58, 56, 48]⟩ : ByteArray).data.toList) = 0 by decide +kernel] at P3'
  have P3 := Lib.hid P3'
  clear P3'
  have P4' := fun W (h : Tabs W) => printT_c 16909060 80 W h
  rw [show ptS 16909060 80 = [49, 46, 50, 46, 51, 46, 52, 58, 56, 48] by decide +kernel, show ptE 16909060 80 = 0 by decide +kernel] at P4'
  have P4 := Lib.hid P4'
  clear P4'
  have P5' := fun W (h : ErrT W) => ports_parse_c ⟨#[56, 48, 45, 56, 48]⟩ (by decide) W h
  rw [show pqF ((⟨#[56, 48, 45, 56, 48]⟩ : ByteArray).data.toList) = 0 by decide +kernel, show pqT ((⟨#[56, 48, 45, 56, 48]⟩ : ByteArray).data.toList) = 0 by decide +kernel, show pqE ((⟨#[56, 48, 45, 56, 48]⟩ : ByteArray).data.toList) = 70 by decide +kernel] at P5'
  have P5 := Lib.hid P5'
  clear P5'
  have P6' := fun W => parseT_c ⟨#[49, 46, 50, 46, 51, 46, 52, 58, 48]⟩ (by decide) W
  rw [show tgA ((⟨#[49, 46, 50, 46, 51, 46, 52, 58, 48]⟩ : ByteArray).data.toList) = 0 by decide +kernel, show tgN ((⟨#[49, 46, 50, 46, 51, 46, 52, 58, 48]⟩ : ByteArray).data.toList) = 0 by decide +kernel, show tgE ((⟨#[49, 46, 50, 46, 51, 46, 52, 58, 48]⟩ : ByteArray).data.toList) = 71 by decide +kernel] at P6'
  have P6 := Lib.hid P6'
  clear P6'
  have P7' := fun W => meet_c 80 90 0 65535 W
  rw [show meetF 80 90 0 65535 = 80 by decide +kernel, show meetT 80 90 0 65535 = 90 by decide +kernel, show meetB 80 90 0 65535 = true by decide +kernel] at P7'
  have P7 := Lib.hid P7'
  clear P7'
  have P8' := fun W => hasQ_c 80 90 80 W
  rw [show hasQ 80 90 80 = true by decide +kernel] at P8'
  have P8 := Lib.hid P8'
  clear P8'
  have P9' := fun W => hasQ_c 80 90 91 W
  rw [show hasQ 80 90 91 = false by decide +kernel] at P9'
  have P9 := Lib.hid P9'
  clear P9'
  go_enter Tryz.func5, Tryz.ntmps5
  go_wp2_with fail
  have B0 : Below w.heap.size w w := Below.refl _ w
  replace B0 := Lib.hid B0
  refine (P1.out _ (HL.out.on B0.out).2).mono ?_; rintro e w1 ⟨rfl, hb⟩
  have B1 : RowKit.Hid (Below w.heap.size w (w1.alloc (.cells #[.int .i64 80, .int .i64 90] 23))) := Lib.hid (bal (btr B0.out hb) _)
  clear hb
  have f1_0_0 : (w1.alloc (.cells #[.int .i64 80, .int .i64 90] 23)).cell? ⟨w1.heap.size, 0, none⟩ = some (.int .i64 80) := by go_simp
  have f1_0_1 : (w1.alloc (.cells #[.int .i64 80, .int .i64 90] 23)).cell? ⟨w1.heap.size, 1, none⟩ = some (.int .i64 90) := by go_simp
  have KK0 := Lib.hid (show ∀ W, Below (w1.alloc (.cells #[.int .i64 80, .int .i64 90] 23)).heap.size (w1.alloc (.cells #[.int .i64 80, .int .i64 90] 23)) W → W.cell? ⟨w1.heap.size, 0, none⟩ = some (.int .i64 80) ∧ W.cell? ⟨w1.heap.size, 1, none⟩ = some (.int .i64 90) from fun W h => ⟨(h.cell (p := ⟨w1.heap.size, 0, none⟩) (blt f1_0_0)).trans f1_0_0, (h.cell (p := ⟨w1.heap.size, 1, none⟩) (blt f1_0_1)).trans f1_0_1⟩)
  have C0_1 := Lib.hid (Below.refl (w1.alloc (.cells #[.int .i64 80, .int .i64 90] 23)).heap.size (w1.alloc (.cells #[.int .i64 80, .int .i64 90] 23)))
  go_wp2_with fail
  refine (P2.out _ (HL.out.on B1.out).2).mono ?_; rintro e w2 ⟨rfl, hb⟩
  have B2 : RowKit.Hid (Below w.heap.size w (w2.alloc (.cells #[.int .i64 0, .int .i64 65535] 23))) := Lib.hid (bal (btr B1.out hb) _)
  have C0_2 : RowKit.Hid (Below (w1.alloc (.cells #[.int .i64 80, .int .i64 90] 23)).heap.size (w1.alloc (.cells #[.int .i64 80, .int .i64 90] 23)) (w2.alloc (.cells #[.int .i64 0, .int .i64 65535] 23))) := Lib.hid (bal (btr C0_1.out hb) _)
  clear f1_0_0 f1_0_1 hb
  obtain ⟨f2_0_0, f2_0_1⟩ := KK0.out (w2.alloc (.cells #[.int .i64 0, .int .i64 65535] 23)) C0_2.out
  have f2_1_0 : (w2.alloc (.cells #[.int .i64 0, .int .i64 65535] 23)).cell? ⟨w2.heap.size, 0, none⟩ = some (.int .i64 0) := by go_simp
  have f2_1_1 : (w2.alloc (.cells #[.int .i64 0, .int .i64 65535] 23)).cell? ⟨w2.heap.size, 1, none⟩ = some (.int .i64 65535) := by go_simp
  have KK1 := Lib.hid (show ∀ W, Below (w2.alloc (.cells #[.int .i64 0, .int .i64 65535] 23)).heap.size (w2.alloc (.cells #[.int .i64 0, .int .i64 65535] 23)) W → W.cell? ⟨w2.heap.size, 0, none⟩ = some (.int .i64 0) ∧ W.cell? ⟨w2.heap.size, 1, none⟩ = some (.int .i64 65535) from fun W h => ⟨(h.cell (p := ⟨w2.heap.size, 0, none⟩) (blt f2_1_0)).trans f2_1_0, (h.cell (p := ⟨w2.heap.size, 1, none⟩) (blt f2_1_1)).trans f2_1_1⟩)
  have C1_2 := Lib.hid (Below.refl (w2.alloc (.cells #[.int .i64 0, .int .i64 65535] 23)).heap.size (w2.alloc (.cells #[.int .i64 0, .int .i64 65535] 23)))
  go_wp2_with fail
  refine (P3.out _).mono ?_; rintro e w3 ⟨rfl, hb⟩
  have B3 : RowKit.Hid (Below w.heap.size w (w3.alloc (.cells #[.int .i64 16909060, .int .i64 80] 37))) := Lib.hid (bal (btr B2.out hb) _)
  have C0_3 : RowKit.Hid (Below (w1.alloc (.cells #[.int .i64 80, .int .i64 90] 23)).heap.size (w1.alloc (.cells #[.int .i64 80, .int .i64 90] 23)) (w3.alloc (.cells #[.int .i64 16909060, .int .i64 80] 37))) := Lib.hid (bal (btr C0_2.out hb) _)
  have C1_3 : RowKit.Hid (Below (w2.alloc (.cells #[.int .i64 0, .int .i64 65535] 23)).heap.size (w2.alloc (.cells #[.int .i64 0, .int .i64 65535] 23)) (w3.alloc (.cells #[.int .i64 16909060, .int .i64 80] 37))) := Lib.hid (bal (btr C1_2.out hb) _)
  clear f2_0_0 f2_0_1 f2_1_0 f2_1_1 hb
  obtain ⟨f3_0_0, f3_0_1⟩ := KK0.out (w3.alloc (.cells #[.int .i64 16909060, .int .i64 80] 37)) C0_3.out
  obtain ⟨f3_1_0, f3_1_1⟩ := KK1.out (w3.alloc (.cells #[.int .i64 16909060, .int .i64 80] 37)) C1_3.out
  have f3_2_0 : (w3.alloc (.cells #[.int .i64 16909060, .int .i64 80] 37)).cell? ⟨w3.heap.size, 0, none⟩ = some (.int .i64 16909060) := by go_simp
  have f3_2_1 : (w3.alloc (.cells #[.int .i64 16909060, .int .i64 80] 37)).cell? ⟨w3.heap.size, 1, none⟩ = some (.int .i64 80) := by go_simp
  have KK2 := Lib.hid (show ∀ W, Below (w3.alloc (.cells #[.int .i64 16909060, .int .i64 80] 37)).heap.size (w3.alloc (.cells #[.int .i64 16909060, .int .i64 80] 37)) W → W.cell? ⟨w3.heap.size, 0, none⟩ = some (.int .i64 16909060) ∧ W.cell? ⟨w3.heap.size, 1, none⟩ = some (.int .i64 80) from fun W h => ⟨(h.cell (p := ⟨w3.heap.size, 0, none⟩) (blt f3_2_0)).trans f3_2_0, (h.cell (p := ⟨w3.heap.size, 1, none⟩) (blt f3_2_1)).trans f3_2_1⟩)
  have C2_3 := Lib.hid (Below.refl (w3.alloc (.cells #[.int .i64 16909060, .int .i64 80] 37)).heap.size (w3.alloc (.cells #[.int .i64 16909060, .int .i64 80] 37)))
  go_wp2_with fail
  refine (P4.out _ (HL.out.on B3.out).1).mono ?_; rintro e w4 ⟨rfl, hb⟩
  have B4 : RowKit.Hid (Below w.heap.size w w4) := Lib.hid (btr B3.out hb)
  have C0_4 : RowKit.Hid (Below (w1.alloc (.cells #[.int .i64 80, .int .i64 90] 23)).heap.size (w1.alloc (.cells #[.int .i64 80, .int .i64 90] 23)) w4) := Lib.hid (btr C0_3.out hb)
  have C1_4 : RowKit.Hid (Below (w2.alloc (.cells #[.int .i64 0, .int .i64 65535] 23)).heap.size (w2.alloc (.cells #[.int .i64 0, .int .i64 65535] 23)) w4) := Lib.hid (btr C1_3.out hb)
  have C2_4 : RowKit.Hid (Below (w3.alloc (.cells #[.int .i64 16909060, .int .i64 80] 37)).heap.size (w3.alloc (.cells #[.int .i64 16909060, .int .i64 80] 37)) w4) := Lib.hid (btr C2_3.out hb)
  clear f3_0_0 f3_0_1 f3_1_0 f3_1_1 f3_2_0 f3_2_1 hb
  obtain ⟨f4_0_0, f4_0_1⟩ := KK0.out w4 C0_4.out
  obtain ⟨f4_1_0, f4_1_1⟩ := KK1.out w4 C1_4.out
  obtain ⟨f4_2_0, f4_2_1⟩ := KK2.out w4 C2_4.out
  go_wp2_with fail
  refine (P5.out _ (HL.out.on B4.out).2).mono ?_; rintro e w5 ⟨rfl, hb⟩
  have B5 : RowKit.Hid (Below w.heap.size w (w5.alloc (.cells #[.int .i64 0, .int .i64 0] 23))) := Lib.hid (bal (btr B4.out hb) _)
  have C0_5 : RowKit.Hid (Below (w1.alloc (.cells #[.int .i64 80, .int .i64 90] 23)).heap.size (w1.alloc (.cells #[.int .i64 80, .int .i64 90] 23)) (w5.alloc (.cells #[.int .i64 0, .int .i64 0] 23))) := Lib.hid (bal (btr C0_4.out hb) _)
  have C1_5 : RowKit.Hid (Below (w2.alloc (.cells #[.int .i64 0, .int .i64 65535] 23)).heap.size (w2.alloc (.cells #[.int .i64 0, .int .i64 65535] 23)) (w5.alloc (.cells #[.int .i64 0, .int .i64 0] 23))) := Lib.hid (bal (btr C1_4.out hb) _)
  have C2_5 : RowKit.Hid (Below (w3.alloc (.cells #[.int .i64 16909060, .int .i64 80] 37)).heap.size (w3.alloc (.cells #[.int .i64 16909060, .int .i64 80] 37)) (w5.alloc (.cells #[.int .i64 0, .int .i64 0] 23))) := Lib.hid (bal (btr C2_4.out hb) _)
  clear f4_0_0 f4_0_1 f4_1_0 f4_1_1 f4_2_0 f4_2_1 hb
  obtain ⟨f5_0_0, f5_0_1⟩ := KK0.out (w5.alloc (.cells #[.int .i64 0, .int .i64 0] 23)) C0_5.out
  obtain ⟨f5_1_0, f5_1_1⟩ := KK1.out (w5.alloc (.cells #[.int .i64 0, .int .i64 0] 23)) C1_5.out
  obtain ⟨f5_2_0, f5_2_1⟩ := KK2.out (w5.alloc (.cells #[.int .i64 0, .int .i64 0] 23)) C2_5.out
  have f5_3_0 : (w5.alloc (.cells #[.int .i64 0, .int .i64 0] 23)).cell? ⟨w5.heap.size, 0, none⟩ = some (.int .i64 0) := by go_simp
  have f5_3_1 : (w5.alloc (.cells #[.int .i64 0, .int .i64 0] 23)).cell? ⟨w5.heap.size, 1, none⟩ = some (.int .i64 0) := by go_simp
  have KK3 := Lib.hid (show ∀ W, Below (w5.alloc (.cells #[.int .i64 0, .int .i64 0] 23)).heap.size (w5.alloc (.cells #[.int .i64 0, .int .i64 0] 23)) W → W.cell? ⟨w5.heap.size, 0, none⟩ = some (.int .i64 0) ∧ W.cell? ⟨w5.heap.size, 1, none⟩ = some (.int .i64 0) from fun W h => ⟨(h.cell (p := ⟨w5.heap.size, 0, none⟩) (blt f5_3_0)).trans f5_3_0, (h.cell (p := ⟨w5.heap.size, 1, none⟩) (blt f5_3_1)).trans f5_3_1⟩)
  have C3_5 := Lib.hid (Below.refl (w5.alloc (.cells #[.int .i64 0, .int .i64 0] 23)).heap.size (w5.alloc (.cells #[.int .i64 0, .int .i64 0] 23)))
  go_wp2_with fail
  refine (P6.out _).mono ?_; rintro e w6 ⟨rfl, hb⟩
  have B6 : RowKit.Hid (Below w.heap.size w (w6.alloc (.cells #[.int .i64 0, .int .i64 0] 37))) := Lib.hid (bal (btr B5.out hb) _)
  have C0_6 : RowKit.Hid (Below (w1.alloc (.cells #[.int .i64 80, .int .i64 90] 23)).heap.size (w1.alloc (.cells #[.int .i64 80, .int .i64 90] 23)) (w6.alloc (.cells #[.int .i64 0, .int .i64 0] 37))) := Lib.hid (bal (btr C0_5.out hb) _)
  have C1_6 : RowKit.Hid (Below (w2.alloc (.cells #[.int .i64 0, .int .i64 65535] 23)).heap.size (w2.alloc (.cells #[.int .i64 0, .int .i64 65535] 23)) (w6.alloc (.cells #[.int .i64 0, .int .i64 0] 37))) := Lib.hid (bal (btr C1_5.out hb) _)
  have C2_6 : RowKit.Hid (Below (w3.alloc (.cells #[.int .i64 16909060, .int .i64 80] 37)).heap.size (w3.alloc (.cells #[.int .i64 16909060, .int .i64 80] 37)) (w6.alloc (.cells #[.int .i64 0, .int .i64 0] 37))) := Lib.hid (bal (btr C2_5.out hb) _)
  have C3_6 : RowKit.Hid (Below (w5.alloc (.cells #[.int .i64 0, .int .i64 0] 23)).heap.size (w5.alloc (.cells #[.int .i64 0, .int .i64 0] 23)) (w6.alloc (.cells #[.int .i64 0, .int .i64 0] 37))) := Lib.hid (bal (btr C3_5.out hb) _)
  clear f5_0_0 f5_0_1 f5_1_0 f5_1_1 f5_2_0 f5_2_1 f5_3_0 f5_3_1 hb
  obtain ⟨f6_0_0, f6_0_1⟩ := KK0.out (w6.alloc (.cells #[.int .i64 0, .int .i64 0] 37)) C0_6.out
  obtain ⟨f6_1_0, f6_1_1⟩ := KK1.out (w6.alloc (.cells #[.int .i64 0, .int .i64 0] 37)) C1_6.out
  obtain ⟨f6_2_0, f6_2_1⟩ := KK2.out (w6.alloc (.cells #[.int .i64 0, .int .i64 0] 37)) C2_6.out
  obtain ⟨f6_3_0, f6_3_1⟩ := KK3.out (w6.alloc (.cells #[.int .i64 0, .int .i64 0] 37)) C3_6.out
  have f6_4_0 : (w6.alloc (.cells #[.int .i64 0, .int .i64 0] 37)).cell? ⟨w6.heap.size, 0, none⟩ = some (.int .i64 0) := by go_simp
  have f6_4_1 : (w6.alloc (.cells #[.int .i64 0, .int .i64 0] 37)).cell? ⟨w6.heap.size, 1, none⟩ = some (.int .i64 0) := by go_simp
  have KK4 := Lib.hid (show ∀ W, Below (w6.alloc (.cells #[.int .i64 0, .int .i64 0] 37)).heap.size (w6.alloc (.cells #[.int .i64 0, .int .i64 0] 37)) W → W.cell? ⟨w6.heap.size, 0, none⟩ = some (.int .i64 0) ∧ W.cell? ⟨w6.heap.size, 1, none⟩ = some (.int .i64 0) from fun W h => ⟨(h.cell (p := ⟨w6.heap.size, 0, none⟩) (blt f6_4_0)).trans f6_4_0, (h.cell (p := ⟨w6.heap.size, 1, none⟩) (blt f6_4_1)).trans f6_4_1⟩)
  have C4_6 := Lib.hid (Below.refl (w6.alloc (.cells #[.int .i64 0, .int .i64 0] 37)).heap.size (w6.alloc (.cells #[.int .i64 0, .int .i64 0] 37)))
  go_wp2_with fail
  refine (P7.out _).mono ?_; rintro e w7 ⟨rfl, hb⟩
  have B7 : RowKit.Hid (Below w.heap.size w (w7.alloc (.cells #[.int .i64 80, .int .i64 90] 23))) := Lib.hid (bal (btr B6.out hb) _)
  have C0_7 : RowKit.Hid (Below (w1.alloc (.cells #[.int .i64 80, .int .i64 90] 23)).heap.size (w1.alloc (.cells #[.int .i64 80, .int .i64 90] 23)) (w7.alloc (.cells #[.int .i64 80, .int .i64 90] 23))) := Lib.hid (bal (btr C0_6.out hb) _)
  have C1_7 : RowKit.Hid (Below (w2.alloc (.cells #[.int .i64 0, .int .i64 65535] 23)).heap.size (w2.alloc (.cells #[.int .i64 0, .int .i64 65535] 23)) (w7.alloc (.cells #[.int .i64 80, .int .i64 90] 23))) := Lib.hid (bal (btr C1_6.out hb) _)
  have C2_7 : RowKit.Hid (Below (w3.alloc (.cells #[.int .i64 16909060, .int .i64 80] 37)).heap.size (w3.alloc (.cells #[.int .i64 16909060, .int .i64 80] 37)) (w7.alloc (.cells #[.int .i64 80, .int .i64 90] 23))) := Lib.hid (bal (btr C2_6.out hb) _)
  have C3_7 : RowKit.Hid (Below (w5.alloc (.cells #[.int .i64 0, .int .i64 0] 23)).heap.size (w5.alloc (.cells #[.int .i64 0, .int .i64 0] 23)) (w7.alloc (.cells #[.int .i64 80, .int .i64 90] 23))) := Lib.hid (bal (btr C3_6.out hb) _)
  have C4_7 : RowKit.Hid (Below (w6.alloc (.cells #[.int .i64 0, .int .i64 0] 37)).heap.size (w6.alloc (.cells #[.int .i64 0, .int .i64 0] 37)) (w7.alloc (.cells #[.int .i64 80, .int .i64 90] 23))) := Lib.hid (bal (btr C4_6.out hb) _)
  clear f6_0_0 f6_0_1 f6_1_0 f6_1_1 f6_2_0 f6_2_1 f6_3_0 f6_3_1 f6_4_0 f6_4_1 hb
  obtain ⟨f7_0_0, f7_0_1⟩ := KK0.out (w7.alloc (.cells #[.int .i64 80, .int .i64 90] 23)) C0_7.out
  obtain ⟨f7_1_0, f7_1_1⟩ := KK1.out (w7.alloc (.cells #[.int .i64 80, .int .i64 90] 23)) C1_7.out
  obtain ⟨f7_2_0, f7_2_1⟩ := KK2.out (w7.alloc (.cells #[.int .i64 80, .int .i64 90] 23)) C2_7.out
  obtain ⟨f7_3_0, f7_3_1⟩ := KK3.out (w7.alloc (.cells #[.int .i64 80, .int .i64 90] 23)) C3_7.out
  obtain ⟨f7_4_0, f7_4_1⟩ := KK4.out (w7.alloc (.cells #[.int .i64 80, .int .i64 90] 23)) C4_7.out
  have f7_5_0 : (w7.alloc (.cells #[.int .i64 80, .int .i64 90] 23)).cell? ⟨w7.heap.size, 0, none⟩ = some (.int .i64 80) := by go_simp
  have f7_5_1 : (w7.alloc (.cells #[.int .i64 80, .int .i64 90] 23)).cell? ⟨w7.heap.size, 1, none⟩ = some (.int .i64 90) := by go_simp
  have KK5 := Lib.hid (show ∀ W, Below (w7.alloc (.cells #[.int .i64 80, .int .i64 90] 23)).heap.size (w7.alloc (.cells #[.int .i64 80, .int .i64 90] 23)) W → W.cell? ⟨w7.heap.size, 0, none⟩ = some (.int .i64 80) ∧ W.cell? ⟨w7.heap.size, 1, none⟩ = some (.int .i64 90) from fun W h => ⟨(h.cell (p := ⟨w7.heap.size, 0, none⟩) (blt f7_5_0)).trans f7_5_0, (h.cell (p := ⟨w7.heap.size, 1, none⟩) (blt f7_5_1)).trans f7_5_1⟩)
  have C5_7 := Lib.hid (Below.refl (w7.alloc (.cells #[.int .i64 80, .int .i64 90] 23)).heap.size (w7.alloc (.cells #[.int .i64 80, .int .i64 90] 23)))
  go_wp2_with fail
  refine (P8.out _).mono ?_; rintro e w8 ⟨rfl, hb⟩
  have B8 : RowKit.Hid (Below w.heap.size w w8) := Lib.hid (btr B7.out hb)
  have C0_8 : RowKit.Hid (Below (w1.alloc (.cells #[.int .i64 80, .int .i64 90] 23)).heap.size (w1.alloc (.cells #[.int .i64 80, .int .i64 90] 23)) w8) := Lib.hid (btr C0_7.out hb)
  have C1_8 : RowKit.Hid (Below (w2.alloc (.cells #[.int .i64 0, .int .i64 65535] 23)).heap.size (w2.alloc (.cells #[.int .i64 0, .int .i64 65535] 23)) w8) := Lib.hid (btr C1_7.out hb)
  have C2_8 : RowKit.Hid (Below (w3.alloc (.cells #[.int .i64 16909060, .int .i64 80] 37)).heap.size (w3.alloc (.cells #[.int .i64 16909060, .int .i64 80] 37)) w8) := Lib.hid (btr C2_7.out hb)
  have C3_8 : RowKit.Hid (Below (w5.alloc (.cells #[.int .i64 0, .int .i64 0] 23)).heap.size (w5.alloc (.cells #[.int .i64 0, .int .i64 0] 23)) w8) := Lib.hid (btr C3_7.out hb)
  have C4_8 : RowKit.Hid (Below (w6.alloc (.cells #[.int .i64 0, .int .i64 0] 37)).heap.size (w6.alloc (.cells #[.int .i64 0, .int .i64 0] 37)) w8) := Lib.hid (btr C4_7.out hb)
  have C5_8 : RowKit.Hid (Below (w7.alloc (.cells #[.int .i64 80, .int .i64 90] 23)).heap.size (w7.alloc (.cells #[.int .i64 80, .int .i64 90] 23)) w8) := Lib.hid (btr C5_7.out hb)
  clear f7_0_0 f7_0_1 f7_1_0 f7_1_1 f7_2_0 f7_2_1 f7_3_0 f7_3_1 f7_4_0 f7_4_1 f7_5_0 f7_5_1 hb
  obtain ⟨f8_0_0, f8_0_1⟩ := KK0.out w8 C0_8.out
  obtain ⟨f8_1_0, f8_1_1⟩ := KK1.out w8 C1_8.out
  obtain ⟨f8_2_0, f8_2_1⟩ := KK2.out w8 C2_8.out
  obtain ⟨f8_3_0, f8_3_1⟩ := KK3.out w8 C3_8.out
  obtain ⟨f8_4_0, f8_4_1⟩ := KK4.out w8 C4_8.out
  obtain ⟨f8_5_0, f8_5_1⟩ := KK5.out w8 C5_8.out
  go_wp2_with fail
  refine (P9.out _).mono ?_; rintro e w9 ⟨rfl, hb⟩
  have B9 : RowKit.Hid (Below w.heap.size w w9) := Lib.hid (btr B8.out hb)
  have C0_9 : RowKit.Hid (Below (w1.alloc (.cells #[.int .i64 80, .int .i64 90] 23)).heap.size (w1.alloc (.cells #[.int .i64 80, .int .i64 90] 23)) w9) := Lib.hid (btr C0_8.out hb)
  have C1_9 : RowKit.Hid (Below (w2.alloc (.cells #[.int .i64 0, .int .i64 65535] 23)).heap.size (w2.alloc (.cells #[.int .i64 0, .int .i64 65535] 23)) w9) := Lib.hid (btr C1_8.out hb)
  have C2_9 : RowKit.Hid (Below (w3.alloc (.cells #[.int .i64 16909060, .int .i64 80] 37)).heap.size (w3.alloc (.cells #[.int .i64 16909060, .int .i64 80] 37)) w9) := Lib.hid (btr C2_8.out hb)
  have C3_9 : RowKit.Hid (Below (w5.alloc (.cells #[.int .i64 0, .int .i64 0] 23)).heap.size (w5.alloc (.cells #[.int .i64 0, .int .i64 0] 23)) w9) := Lib.hid (btr C3_8.out hb)
  have C4_9 : RowKit.Hid (Below (w6.alloc (.cells #[.int .i64 0, .int .i64 0] 37)).heap.size (w6.alloc (.cells #[.int .i64 0, .int .i64 0] 37)) w9) := Lib.hid (btr C4_8.out hb)
  have C5_9 : RowKit.Hid (Below (w7.alloc (.cells #[.int .i64 80, .int .i64 90] 23)).heap.size (w7.alloc (.cells #[.int .i64 80, .int .i64 90] 23)) w9) := Lib.hid (btr C5_8.out hb)
  clear f8_0_0 f8_0_1 f8_1_0 f8_1_1 f8_2_0 f8_2_1 f8_3_0 f8_3_1 f8_4_0 f8_4_1 f8_5_0 f8_5_1 hb
  obtain ⟨f9_0_0, f9_0_1⟩ := KK0.out w9 C0_9.out
  obtain ⟨f9_1_0, f9_1_1⟩ := KK1.out w9 C1_9.out
  obtain ⟨f9_2_0, f9_2_1⟩ := KK2.out w9 C2_9.out
  obtain ⟨f9_3_0, f9_3_1⟩ := KK3.out w9 C3_9.out
  obtain ⟨f9_4_0, f9_4_1⟩ := KK4.out w9 C4_9.out
  obtain ⟨f9_5_0, f9_5_1⟩ := KK5.out w9 C5_9.out
  go_wp2
  go_ret
  exact ⟨ret_bool (by first | rfl | (simp <;> omega)), B9.out⟩
end Go.Proofs.YtlnjalhlbfbjcaaGreatDoor

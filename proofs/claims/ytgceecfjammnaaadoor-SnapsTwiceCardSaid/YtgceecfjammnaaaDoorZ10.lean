/- Td, Te, Ol -/
import Derived.Test.YtgceecfjammnaaaDoorZ9
import Derived.ChangeShapes
import Derived.ChangeArms
import Derived.Deep.Slices
import Derived.Deep.Strs
import Derived.Lib.SmallJoins
set_option linter.unusedVariables false
set_option linter.unusedSimpArgs false
/- shown. -/
namespace Go.Proofs.YtgceecfjammnaaaDoor.L16
open Go.RowKit Go.Shelf
attribute [local go_sem] Oper.semAt_some
set_option linter.unusedSimpArgs false
set_option linter.unusedVariables false
set_option maxRecDepth 100000 in
set_option maxHeartbeats 4000000 in
theorem shown_c (w : World) (hE : ErrT w) : Calls Tryd.prog 9 #[] w fun y w' => y = .returned (.bool true) ∧ Below w.heap.size w w' := by
  have HE := Lib.hid hE
  clear hE
  go_enter Tryd.func9, Tryd.ntmps9
  go_wp2_with fail
  have B0 : Below w.heap.size w w := Below.refl _ w
  replace B0 := Lib.hid B0
  refine (pNew_c _).mono ?_; rintro e w1 ⟨rfl, hb⟩
  have B1 : RowKit.Hid (Below w.heap.size w w1) := Lib.hid (btr B0.out hb)
  clear hb
  go_wp2_with fail
  refine (pin_v Pl.new sh1 none [] 0 (some ⟨w1.heap.size, 0, none⟩) 3 [txA, txB, txC] 5 1 0 shn1.1 shn1.2.1 shn1.2.2 ⟨by decide, by decide⟩ _ ⟨⟨SnMAt.nil _ _ _, fun x hx => nomatch hx⟩, rfl, small_new⟩ (strs_lit _ [txA, txB, txC]) (HE.out.onB (bal B1.out _))).mono ?_; rintro e w2 ⟨a2, c2, l2, rfl, hp, hb⟩
  have B2 : RowKit.Hid (Below w.heap.size w (w2.alloc (.cells #[.slice a2 l2.length c2, .int .i64 sh1.n] 24))) := Lib.hid (bal (btr (bal B1.out _) hb) _)
  have HP2 := Lib.hid (hp.on (show Below w2.heap.size w2 (w2.alloc (.cells #[.slice a2 l2.length c2, .int .i64 sh1.n] 24)) from (bal (Below.refl w2.heap.size w2) _)))
  clear hp
  clear hb
  have f2_0_0 : (w2.alloc (.cells #[.slice a2 l2.length c2, .int .i64 sh1.n] 24)).cell? ⟨w2.heap.size, 0, none⟩ = some (.slice a2 l2.length c2) := by go_simp
  have f2_0_1 : (w2.alloc (.cells #[.slice a2 l2.length c2, .int .i64 sh1.n] 24)).cell? ⟨w2.heap.size, 1, none⟩ = some (.int .i64 sh1.n) := by go_simp
  have KK0 := Lib.hid (show ∀ W, Below (w2.alloc (.cells #[.slice a2 l2.length c2, .int .i64 sh1.n] 24)).heap.size (w2.alloc (.cells #[.slice a2 l2.length c2, .int .i64 sh1.n] 24)) W → W.cell? ⟨w2.heap.size, 0, none⟩ = some (.slice a2 l2.length c2) ∧ W.cell? ⟨w2.heap.size, 1, none⟩ = some (.int .i64 sh1.n) from fun W h => ⟨(h.cell (p := ⟨w2.heap.size, 0, none⟩) (blt f2_0_0)).trans f2_0_0, (h.cell (p := ⟨w2.heap.size, 1, none⟩) (blt f2_0_1)).trans f2_0_1⟩)
  have C0_2 := Lib.hid (Below.refl (w2.alloc (.cells #[.slice a2 l2.length c2, .int .i64 sh1.n] 24)).heap.size (w2.alloc (.cells #[.slice a2 l2.length c2, .int .i64 sh1.n] 24)))
  go_wp2_with fail
  refine (page_v sh1 sh2 a2 l2 c2 1 0 2 6 [txA, txB] 2 0 shn2.1 shn2.2.1 shn2.2.2.1 shn2.2.2.2 _ (HP2.out.on C0_2.out) (HE.out.onB B2.out)).mono ?_; rintro e w3 ⟨a3, c3, l3, b3, d3, rfl, hp, hs, hb⟩
  have B3 : RowKit.Hid (Below w.heap.size w (w3.alloc (.cells #[.slice a3 l3.length c3, .int .i64 sh2.n] 24))) := Lib.hid (bal (btr B2.out hb) _)
  have C0_3 : RowKit.Hid (Below (w2.alloc (.cells #[.slice a2 l2.length c2, .int .i64 sh1.n] 24)).heap.size (w2.alloc (.cells #[.slice a2 l2.length c2, .int .i64 sh1.n] 24)) (w3.alloc (.cells #[.slice a3 l3.length c3, .int .i64 sh2.n] 24))) := Lib.hid (bal (btr C0_2.out hb) _)
  have HP3 := Lib.hid (hp.on (show Below w3.heap.size w3 (w3.alloc (.cells #[.slice a3 l3.length c3, .int .i64 sh2.n] 24)) from (bal (Below.refl w3.heap.size w3) _)))
  have HS3 := Lib.hid (hs.onB (show Below w3.heap.size w3 (w3.alloc (.cells #[.slice a3 l3.length c3, .int .i64 sh2.n] 24)) from (bal (Below.refl w3.heap.size w3) _)))
  clear hp hs
  clear f2_0_0 f2_0_1 hb
  obtain ⟨f3_0_0, f3_0_1⟩ := KK0.out (w3.alloc (.cells #[.slice a3 l3.length c3, .int .i64 sh2.n] 24)) C0_3.out
  have f3_1_0 : (w3.alloc (.cells #[.slice a3 l3.length c3, .int .i64 sh2.n] 24)).cell? ⟨w3.heap.size, 0, none⟩ = some (.slice a3 l3.length c3) := by go_simp
  have f3_1_1 : (w3.alloc (.cells #[.slice a3 l3.length c3, .int .i64 sh2.n] 24)).cell? ⟨w3.heap.size, 1, none⟩ = some (.int .i64 sh2.n) := by go_simp
  have KK1 := Lib.hid (show ∀ W, Below (w3.alloc (.cells #[.slice a3 l3.length c3, .int .i64 sh2.n] 24)).heap.size (w3.alloc (.cells #[.slice a3 l3.length c3, .int .i64 sh2.n] 24)) W → W.cell? ⟨w3.heap.size, 0, none⟩ = some (.slice a3 l3.length c3) ∧ W.cell? ⟨w3.heap.size, 1, none⟩ = some (.int .i64 sh2.n) from fun W h => ⟨(h.cell (p := ⟨w3.heap.size, 0, none⟩) (blt f3_1_0)).trans f3_1_0, (h.cell (p := ⟨w3.heap.size, 1, none⟩) (blt f3_1_1)).trans f3_1_1⟩)
  have C1_3 := Lib.hid (Below.refl (w3.alloc (.cells #[.slice a3 l3.length c3, .int .i64 sh2.n] 24)).heap.size (w3.alloc (.cells #[.slice a3 l3.length c3, .int .i64 sh2.n] 24)))
  go_wp2_with fail
  refine (page_v sh2 sh3 a3 l3 c3 1 2 2 7 [txC] (-1) 0 shn3.1 shn3.2.1 shn3.2.2.1 shn3.2.2.2 _ (HP3.out.on C1_3.out) (HE.out.onB B3.out)).mono ?_; rintro e w4 ⟨a4, c4, l4, b4, d4, rfl, hp, hs, hb⟩
  have B4 : RowKit.Hid (Below w.heap.size w (w4.alloc (.cells #[.slice a4 l4.length c4, .int .i64 sh3.n] 24))) := Lib.hid (bal (btr B3.out hb) _)
  have C0_4 : RowKit.Hid (Below (w2.alloc (.cells #[.slice a2 l2.length c2, .int .i64 sh1.n] 24)).heap.size (w2.alloc (.cells #[.slice a2 l2.length c2, .int .i64 sh1.n] 24)) (w4.alloc (.cells #[.slice a4 l4.length c4, .int .i64 sh3.n] 24))) := Lib.hid (bal (btr C0_3.out hb) _)
  have C1_4 : RowKit.Hid (Below (w3.alloc (.cells #[.slice a3 l3.length c3, .int .i64 sh2.n] 24)).heap.size (w3.alloc (.cells #[.slice a3 l3.length c3, .int .i64 sh2.n] 24)) (w4.alloc (.cells #[.slice a4 l4.length c4, .int .i64 sh3.n] 24))) := Lib.hid (bal (btr C1_3.out hb) _)
  have HP4 := Lib.hid (hp.on (show Below w4.heap.size w4 (w4.alloc (.cells #[.slice a4 l4.length c4, .int .i64 sh3.n] 24)) from (bal (Below.refl w4.heap.size w4) _)))
  have HS4 := Lib.hid (hs.onB (show Below w4.heap.size w4 (w4.alloc (.cells #[.slice a4 l4.length c4, .int .i64 sh3.n] 24)) from (bal (Below.refl w4.heap.size w4) _)))
  clear hp hs
  clear f3_0_0 f3_0_1 f3_1_0 f3_1_1 hb
  obtain ⟨f4_0_0, f4_0_1⟩ := KK0.out (w4.alloc (.cells #[.slice a4 l4.length c4, .int .i64 sh3.n] 24)) C0_4.out
  obtain ⟨f4_1_0, f4_1_1⟩ := KK1.out (w4.alloc (.cells #[.slice a4 l4.length c4, .int .i64 sh3.n] 24)) C1_4.out
  have f4_2_0 : (w4.alloc (.cells #[.slice a4 l4.length c4, .int .i64 sh3.n] 24)).cell? ⟨w4.heap.size, 0, none⟩ = some (.slice a4 l4.length c4) := by go_simp
  have f4_2_1 : (w4.alloc (.cells #[.slice a4 l4.length c4, .int .i64 sh3.n] 24)).cell? ⟨w4.heap.size, 1, none⟩ = some (.int .i64 sh3.n) := by go_simp
  have KK2 := Lib.hid (show ∀ W, Below (w4.alloc (.cells #[.slice a4 l4.length c4, .int .i64 sh3.n] 24)).heap.size (w4.alloc (.cells #[.slice a4 l4.length c4, .int .i64 sh3.n] 24)) W → W.cell? ⟨w4.heap.size, 0, none⟩ = some (.slice a4 l4.length c4) ∧ W.cell? ⟨w4.heap.size, 1, none⟩ = some (.int .i64 sh3.n) from fun W h => ⟨(h.cell (p := ⟨w4.heap.size, 0, none⟩) (blt f4_2_0)).trans f4_2_0, (h.cell (p := ⟨w4.heap.size, 1, none⟩) (blt f4_2_1)).trans f4_2_1⟩)
  have C2_4 := Lib.hid (Below.refl (w4.alloc (.cells #[.slice a4 l4.length c4, .int .i64 sh3.n] 24)).heap.size (w4.alloc (.cells #[.slice a4 l4.length c4, .int .i64 sh3.n] 24)))
  go_wp2_with fail
  refine (page_v sh3 Pl.nil a4 l4 c4 1 0 2 1007 [] 0 161 shn4.1 shn4.2.1 shn4.2.2.1 shn4.2.2.2 _ (HP4.out.on C2_4.out) (HE.out.onB B4.out)).mono ?_; rintro e w5 ⟨a5, c5, l5, b5, d5, rfl, hp, hs, hb⟩
  have B5 : RowKit.Hid (Below w.heap.size w (w5.alloc (.cells #[.slice a5 l5.length c5, .int .i64 Pl.nil.n] 24))) := Lib.hid (bal (btr B4.out hb) _)
  have C0_5 : RowKit.Hid (Below (w2.alloc (.cells #[.slice a2 l2.length c2, .int .i64 sh1.n] 24)).heap.size (w2.alloc (.cells #[.slice a2 l2.length c2, .int .i64 sh1.n] 24)) (w5.alloc (.cells #[.slice a5 l5.length c5, .int .i64 Pl.nil.n] 24))) := Lib.hid (bal (btr C0_4.out hb) _)
  have C1_5 : RowKit.Hid (Below (w3.alloc (.cells #[.slice a3 l3.length c3, .int .i64 sh2.n] 24)).heap.size (w3.alloc (.cells #[.slice a3 l3.length c3, .int .i64 sh2.n] 24)) (w5.alloc (.cells #[.slice a5 l5.length c5, .int .i64 Pl.nil.n] 24))) := Lib.hid (bal (btr C1_4.out hb) _)
  have C2_5 : RowKit.Hid (Below (w4.alloc (.cells #[.slice a4 l4.length c4, .int .i64 sh3.n] 24)).heap.size (w4.alloc (.cells #[.slice a4 l4.length c4, .int .i64 sh3.n] 24)) (w5.alloc (.cells #[.slice a5 l5.length c5, .int .i64 Pl.nil.n] 24))) := Lib.hid (bal (btr C2_4.out hb) _)
  clear hp hs
  clear f4_0_0 f4_0_1 f4_1_0 f4_1_1 f4_2_0 f4_2_1 hb
  obtain ⟨f5_0_0, f5_0_1⟩ := KK0.out (w5.alloc (.cells #[.slice a5 l5.length c5, .int .i64 Pl.nil.n] 24)) C0_5.out
  obtain ⟨f5_1_0, f5_1_1⟩ := KK1.out (w5.alloc (.cells #[.slice a5 l5.length c5, .int .i64 Pl.nil.n] 24)) C1_5.out
  obtain ⟨f5_2_0, f5_2_1⟩ := KK2.out (w5.alloc (.cells #[.slice a5 l5.length c5, .int .i64 Pl.nil.n] 24)) C2_5.out
  have f5_3_0 : (w5.alloc (.cells #[.slice a5 l5.length c5, .int .i64 Pl.nil.n] 24)).cell? ⟨w5.heap.size, 0, none⟩ = some (.slice a5 l5.length c5) := by go_simp
  have f5_3_1 : (w5.alloc (.cells #[.slice a5 l5.length c5, .int .i64 Pl.nil.n] 24)).cell? ⟨w5.heap.size, 1, none⟩ = some (.int .i64 Pl.nil.n) := by go_simp
  have KK3 := Lib.hid (show ∀ W, Below (w5.alloc (.cells #[.slice a5 l5.length c5, .int .i64 Pl.nil.n] 24)).heap.size (w5.alloc (.cells #[.slice a5 l5.length c5, .int .i64 Pl.nil.n] 24)) W → W.cell? ⟨w5.heap.size, 0, none⟩ = some (.slice a5 l5.length c5) ∧ W.cell? ⟨w5.heap.size, 1, none⟩ = some (.int .i64 Pl.nil.n) from fun W h => ⟨(h.cell (p := ⟨w5.heap.size, 0, none⟩) (blt f5_3_0)).trans f5_3_0, (h.cell (p := ⟨w5.heap.size, 1, none⟩) (blt f5_3_1)).trans f5_3_1⟩)
  have C3_5 := Lib.hid (Below.refl (w5.alloc (.cells #[.slice a5 l5.length c5, .int .i64 Pl.nil.n] 24)).heap.size (w5.alloc (.cells #[.slice a5 l5.length c5, .int .i64 Pl.nil.n] 24)))
  go_wp2_with fail
  refine (page_v sh3 Pl.nil a4 l4 c4 9 0 2 7 [] 0 161 shn5.1 shn5.2.1 shn5.2.2.1 shn5.2.2.2 _ (HP4.out.on C2_5.out) (HE.out.onB B5.out)).mono ?_; rintro e w6 ⟨a6, c6, l6, b6, d6, rfl, hp, hs, hb⟩
  have B6 : RowKit.Hid (Below w.heap.size w (w6.alloc (.cells #[.slice a6 l6.length c6, .int .i64 Pl.nil.n] 24))) := Lib.hid (bal (btr B5.out hb) _)
  have C0_6 : RowKit.Hid (Below (w2.alloc (.cells #[.slice a2 l2.length c2, .int .i64 sh1.n] 24)).heap.size (w2.alloc (.cells #[.slice a2 l2.length c2, .int .i64 sh1.n] 24)) (w6.alloc (.cells #[.slice a6 l6.length c6, .int .i64 Pl.nil.n] 24))) := Lib.hid (bal (btr C0_5.out hb) _)
  have C1_6 : RowKit.Hid (Below (w3.alloc (.cells #[.slice a3 l3.length c3, .int .i64 sh2.n] 24)).heap.size (w3.alloc (.cells #[.slice a3 l3.length c3, .int .i64 sh2.n] 24)) (w6.alloc (.cells #[.slice a6 l6.length c6, .int .i64 Pl.nil.n] 24))) := Lib.hid (bal (btr C1_5.out hb) _)
  have C2_6 : RowKit.Hid (Below (w4.alloc (.cells #[.slice a4 l4.length c4, .int .i64 sh3.n] 24)).heap.size (w4.alloc (.cells #[.slice a4 l4.length c4, .int .i64 sh3.n] 24)) (w6.alloc (.cells #[.slice a6 l6.length c6, .int .i64 Pl.nil.n] 24))) := Lib.hid (bal (btr C2_5.out hb) _)
  have C3_6 : RowKit.Hid (Below (w5.alloc (.cells #[.slice a5 l5.length c5, .int .i64 Pl.nil.n] 24)).heap.size (w5.alloc (.cells #[.slice a5 l5.length c5, .int .i64 Pl.nil.n] 24)) (w6.alloc (.cells #[.slice a6 l6.length c6, .int .i64 Pl.nil.n] 24))) := Lib.hid (bal (btr C3_5.out hb) _)
  clear hp hs
  clear f5_0_0 f5_0_1 f5_1_0 f5_1_1 f5_2_0 f5_2_1 f5_3_0 f5_3_1 hb
  obtain ⟨f6_0_0, f6_0_1⟩ := KK0.out (w6.alloc (.cells #[.slice a6 l6.length c6, .int .i64 Pl.nil.n] 24)) C0_6.out
  obtain ⟨f6_1_0, f6_1_1⟩ := KK1.out (w6.alloc (.cells #[.slice a6 l6.length c6, .int .i64 Pl.nil.n] 24)) C1_6.out
  obtain ⟨f6_2_0, f6_2_1⟩ := KK2.out (w6.alloc (.cells #[.slice a6 l6.length c6, .int .i64 Pl.nil.n] 24)) C2_6.out
  obtain ⟨f6_3_0, f6_3_1⟩ := KK3.out (w6.alloc (.cells #[.slice a6 l6.length c6, .int .i64 Pl.nil.n] 24)) C3_6.out
  have f6_4_0 : (w6.alloc (.cells #[.slice a6 l6.length c6, .int .i64 Pl.nil.n] 24)).cell? ⟨w6.heap.size, 0, none⟩ = some (.slice a6 l6.length c6) := by go_simp
  have f6_4_1 : (w6.alloc (.cells #[.slice a6 l6.length c6, .int .i64 Pl.nil.n] 24)).cell? ⟨w6.heap.size, 1, none⟩ = some (.int .i64 Pl.nil.n) := by go_simp
  have KK4 := Lib.hid (show ∀ W, Below (w6.alloc (.cells #[.slice a6 l6.length c6, .int .i64 Pl.nil.n] 24)).heap.size (w6.alloc (.cells #[.slice a6 l6.length c6, .int .i64 Pl.nil.n] 24)) W → W.cell? ⟨w6.heap.size, 0, none⟩ = some (.slice a6 l6.length c6) ∧ W.cell? ⟨w6.heap.size, 1, none⟩ = some (.int .i64 Pl.nil.n) from fun W h => ⟨(h.cell (p := ⟨w6.heap.size, 0, none⟩) (blt f6_4_0)).trans f6_4_0, (h.cell (p := ⟨w6.heap.size, 1, none⟩) (blt f6_4_1)).trans f6_4_1⟩)
  have C4_6 := Lib.hid (Below.refl (w6.alloc (.cells #[.slice a6 l6.length c6, .int .i64 Pl.nil.n] 24)).heap.size (w6.alloc (.cells #[.slice a6 l6.length c6, .int .i64 Pl.nil.n] 24)))
  go_wp2_with fail
  refine (same_v b3 (some ⟨w6.heap.size + 1, 0, none⟩) d3 2 [txA, txB] [txA, txB] true (by decide) _ (by decide) (by decide) (HS3.out.onB (bal C1_6.out _)) (strs_litB _ _ (World.size_alloc _ _) [txA, txB])).mono ?_; rintro e w7 ⟨rfl, hb⟩
  have B7 : RowKit.Hid (Below w.heap.size w w7) := Lib.hid (btr (bal B6.out _) hb)
  have C0_7 : RowKit.Hid (Below (w2.alloc (.cells #[.slice a2 l2.length c2, .int .i64 sh1.n] 24)).heap.size (w2.alloc (.cells #[.slice a2 l2.length c2, .int .i64 sh1.n] 24)) w7) := Lib.hid (btr (bal C0_6.out _) hb)
  have C1_7 : RowKit.Hid (Below (w3.alloc (.cells #[.slice a3 l3.length c3, .int .i64 sh2.n] 24)).heap.size (w3.alloc (.cells #[.slice a3 l3.length c3, .int .i64 sh2.n] 24)) w7) := Lib.hid (btr (bal C1_6.out _) hb)
  have C2_7 : RowKit.Hid (Below (w4.alloc (.cells #[.slice a4 l4.length c4, .int .i64 sh3.n] 24)).heap.size (w4.alloc (.cells #[.slice a4 l4.length c4, .int .i64 sh3.n] 24)) w7) := Lib.hid (btr (bal C2_6.out _) hb)
  have C3_7 : RowKit.Hid (Below (w5.alloc (.cells #[.slice a5 l5.length c5, .int .i64 Pl.nil.n] 24)).heap.size (w5.alloc (.cells #[.slice a5 l5.length c5, .int .i64 Pl.nil.n] 24)) w7) := Lib.hid (btr (bal C3_6.out _) hb)
  have C4_7 : RowKit.Hid (Below (w6.alloc (.cells #[.slice a6 l6.length c6, .int .i64 Pl.nil.n] 24)).heap.size (w6.alloc (.cells #[.slice a6 l6.length c6, .int .i64 Pl.nil.n] 24)) w7) := Lib.hid (btr (bal C4_6.out _) hb)
  clear f6_0_0 f6_0_1 f6_1_0 f6_1_1 f6_2_0 f6_2_1 f6_3_0 f6_3_1 f6_4_0 f6_4_1 hb
  obtain ⟨f7_0_0, f7_0_1⟩ := KK0.out w7 C0_7.out
  obtain ⟨f7_1_0, f7_1_1⟩ := KK1.out w7 C1_7.out
  obtain ⟨f7_2_0, f7_2_1⟩ := KK2.out w7 C2_7.out
  obtain ⟨f7_3_0, f7_3_1⟩ := KK3.out w7 C3_7.out
  obtain ⟨f7_4_0, f7_4_1⟩ := KK4.out w7 C4_7.out
  go_wp2_with fail
  refine (same_v b4 (some ⟨w7.heap.size, 0, none⟩) d4 1 [txC] [txC] true (by decide) _ (by decide) (by decide) (HS4.out.onB (bal C2_7.out _)) (strs_lit _ [txC])).mono ?_; rintro e w8 ⟨rfl, hb⟩
  have B8 : RowKit.Hid (Below w.heap.size w w8) := Lib.hid (btr (bal B7.out _) hb)
  have C0_8 : RowKit.Hid (Below (w2.alloc (.cells #[.slice a2 l2.length c2, .int .i64 sh1.n] 24)).heap.size (w2.alloc (.cells #[.slice a2 l2.length c2, .int .i64 sh1.n] 24)) w8) := Lib.hid (btr (bal C0_7.out _) hb)
  have C1_8 : RowKit.Hid (Below (w3.alloc (.cells #[.slice a3 l3.length c3, .int .i64 sh2.n] 24)).heap.size (w3.alloc (.cells #[.slice a3 l3.length c3, .int .i64 sh2.n] 24)) w8) := Lib.hid (btr (bal C1_7.out _) hb)
  have C2_8 : RowKit.Hid (Below (w4.alloc (.cells #[.slice a4 l4.length c4, .int .i64 sh3.n] 24)).heap.size (w4.alloc (.cells #[.slice a4 l4.length c4, .int .i64 sh3.n] 24)) w8) := Lib.hid (btr (bal C2_7.out _) hb)
  have C3_8 : RowKit.Hid (Below (w5.alloc (.cells #[.slice a5 l5.length c5, .int .i64 Pl.nil.n] 24)).heap.size (w5.alloc (.cells #[.slice a5 l5.length c5, .int .i64 Pl.nil.n] 24)) w8) := Lib.hid (btr (bal C3_7.out _) hb)
  have C4_8 : RowKit.Hid (Below (w6.alloc (.cells #[.slice a6 l6.length c6, .int .i64 Pl.nil.n] 24)).heap.size (w6.alloc (.cells #[.slice a6 l6.length c6, .int .i64 Pl.nil.n] 24)) w8) := Lib.hid (btr (bal C4_7.out _) hb)
  clear f7_0_0 f7_0_1 f7_1_0 f7_1_1 f7_2_0 f7_2_1 f7_3_0 f7_3_1 f7_4_0 f7_4_1 hb
  obtain ⟨f8_0_0, f8_0_1⟩ := KK0.out w8 C0_8.out
  obtain ⟨f8_1_0, f8_1_1⟩ := KK1.out w8 C1_8.out
  obtain ⟨f8_2_0, f8_2_1⟩ := KK2.out w8 C2_8.out
  obtain ⟨f8_3_0, f8_3_1⟩ := KK3.out w8 C3_8.out
  obtain ⟨f8_4_0, f8_4_1⟩ := KK4.out w8 C4_8.out
  go_wp2
  go_ret
  exact ⟨rfl, B8.out⟩
end Go.Proofs.YtgceecfjammnaaaDoor.L16

/- SnapsNone. -/
namespace Go.Proofs.YtgceecfjammnaaaDoor.L16
open Go.RowKit Go.Shelf
attribute [local go_sem] Oper.semAt_some
set_option linter.unusedSimpArgs false
set_option linter.unusedVariables false

theorem pin_no {p : Pl} {items : List ByteArray} {t : Int} (h : pinB wordB p items t = false) : pinR p items t = Pl.nil ∧ pinC p items t = 0 ∧ pinE p items t = 160 := by
  unfold pinR pinC pinE; rw [h]; exact ⟨rfl, rfl, rfl⟩
theorem pin_yes {p : Pl} {items : List ByteArray} {t : Int} (h : pinB wordB p items t = true) : pinR p items t = pinT p items t ∧ pinC p items t = p.n ∧ pinE p items t = 0 := by
  unfold pinR pinC pinE; rw [h]; exact ⟨rfl, rfl, rfl⟩
theorem page_val {p : Pl} {c fr k t : Int} {s : Snp} (h : PageOk wordB p c fr k t s) : pageE wordB p c fr k t = 0 ∧ pageS p c fr k t = pageT p c t s ∧ pageL p c fr k t = pageI s fr k ∧ pageB p c fr k t = pageN s fr k := by
  have e : pageE wordB p c fr k t = 0 := page_iff.2 ⟨s, h⟩
  have es : sOf p c = s := by unfold sOf; rw [h.f]; rfl
  refine ⟨e, ?_, ?_, ?_⟩
  · unfold pageS; rw [if_pos e, es]
  · unfold pageL; rw [if_pos e, es]
  · unfold pageB; rw [if_pos e, es]
theorem pin_pageOk {p : Pl} {items : List ByteArray} {t k t' : Int} (h : PinOk wordB p items t) (k1 : 1 ≤ k) (k2 : k ≤ 10) (h1 : t ≤ t') (h2 : t' ≤ 1000000000000) (h3 : t' - t < 1000) : PageOk wordB (pinT p items t) p.n 0 k t' ⟨p.n, items, t⟩ :=
  ⟨pin_right (pin_iff.2 h), pin_now h1 h2, k1, k2, pin_find h, h3, Int.le_refl _, by omega⟩
theorem pin_page {p : Pl} {items : List ByteArray} {t k : Int} (h : PinOk wordB p items t) (k1 : 1 ≤ k) (k2 : k ≤ 10) : pageE wordB (pinT p items t) p.n 0 k t = 0 ∧ pageL (pinT p items t) p.n 0 k t = items.take k.toNat ∧ pageB (pinT p items t) p.n 0 k t = (if k ≥ items.length then -1 else k) := by
  obtain ⟨e, _, el, eb⟩ := page_val (pin_pageOk h k1 k2 (Int.le_refl _) h.hi (by omega))
  refine ⟨e, el, eb.trans ?_⟩
  unfold pageN
  rw [Int.zero_add]
theorem pin_page_nil {p : Pl} {t : Int} (h : PinOk wordB p [] t) : pageE wordB (pinT p [] t) p.n 0 1 t = 0 ∧ pageL (pinT p [] t) p.n 0 1 t = [] ∧ pageB (pinT p [] t) p.n 0 1 t = -1 := by
  obtain ⟨e, l, b⟩ := pin_page (k := 1) h (by decide) (by decide)
  exact ⟨e, by simpa using l, by rw [b, if_pos (by simp)]⟩
set_option maxRecDepth 100000 in
set_option maxHeartbeats 4000000 in
theorem Wno_c (a : Option Addr) (cap : Nat) (n : Int) (l : List SnM) (hs : l.length ≤ 9223372036854775807) (hi : ∀ x ∈ l, x.it.length ≤ 9223372036854775807 ∧ ∀ s ∈ x.it, s.size ≤ 9223372036854775807) (hn : -9223372036854775808 ≤ n ∧ n ≤ 9223372036854775807) (ia : Option Addr) (icap : Nat) (items : List ByteArray) (t : Int) (his : items.length ≤ 9223372036854775807) (hiz : ∀ s ∈ items, s.size ≤ 9223372036854775807) (w : World) (hA : PlAt w.heap.size w a l) (hS : StrsAt w.heap.size w ia items) (hE : ErrT w) :
    Calls Tryd.prog 8 #[.agg #[.slice a l.length cap, .int .i64 n], .slice ia items.length icap, .int .i64 t] w fun y w' => y = .returned (.bool true) ∧ Below w.heap.size w w' := by
  have HE := Lib.hid hE
  have HA := Lib.hid hA
  have HS := Lib.hid hS
  have HIT := Lib.hid (fun W h => Items_c ia icap items his hiz W h)
  have HCU := Lib.hid (fun W h => Cut_c a cap n l hs hi W h)
  have HQS := Lib.hid (small_cut ⟨l.map SnM.p, n⟩ hn)
  obtain ⟨q, hq⟩ : ∃ q, cutP ⟨l.map SnM.p, n⟩ = q := ⟨_, rfl⟩
  have HQN := Lib.hid (show n = q.n by rw [← hq]; rfl)
  have HQL := Lib.hid (show cutL (l.map SnM.p) = q.l by rw [← hq]; rfl)
  rw [hq] at HQS
  clear hE hA hi hs hn hq hS his hiz
  go_enter Tryd.func8, Tryd.ntmps8
  go_wp2_with fail
  have p0 : (w.alloc (.cells #[.slice a l.length cap, .int .i64 n] 24)).cell? ⟨w.heap.size, 0, none⟩ = some (.slice a l.length cap) := by go_simp
  have g0 : (w.alloc (.cells #[.slice a l.length cap, .int .i64 n] 24)).frozen? ⟨w.heap.size, 0, none⟩ = false := by go_simp
  have p1 : (w.alloc (.cells #[.slice a l.length cap, .int .i64 n] 24)).cell? ⟨w.heap.size, 1, none⟩ = some (.int .i64 n) := by go_simp
  have g1 : (w.alloc (.cells #[.slice a l.length cap, .int .i64 n] 24)).frozen? ⟨w.heap.size, 1, none⟩ = false := by go_simp
  have HB := Lib.hid (below_alloc w (.cells #[.slice a l.length cap, .int .i64 n] 24))
  refine (shown_c _ (HE.out.onB HB.out)).mono ?_
  rintro e w1 ⟨rfl, hb⟩
  replace g0 := (hb.frozen (blt p0)).trans g0
  replace g1 := (hb.frozen (blt p1)).trans g1
  replace p0 := (hb.cell (blt p0)).trans p0
  replace p1 := (hb.cell (blt p1)).trans p1
  have HB1 := Lib.hid (btr HB.out hb)
  have hz1 := blt p0
  clear hb
  go_wp2_with fail
  refine (HCU.out _ (HA.out.on HB1.out)).mono ?_
  rintro e w2 ⟨a2, c2, l2, rfl, hown, hmap, hb⟩
  replace g0 := (hb.frozen (blt p0)).trans g0
  replace g1 := (hb.frozen (blt p1)).trans g1
  replace p0 := (hb.cell (blt p0)).trans p0
  replace p1 := (hb.cell (blt p1)).trans p1
  have hp : PlAt ((w2.setCell ⟨w.heap.size, 0, none⟩ (.slice a2 l2.length c2)).setCell ⟨w.heap.size, 1, none⟩ (.int .i64 n)).heap.size ((w2.setCell ⟨w.heap.size, 0, none⟩ (.slice a2 l2.length c2)).setCell ⟨w.heap.size, 1, none⟩ (.int .i64 n)) a2 l2 := cut_store hz1 hown
  have hB2 : Below w.heap.size w ((w2.setCell ⟨w.heap.size, 0, none⟩ (.slice a2 l2.length c2)).setCell ⟨w.heap.size, 1, none⟩ (.int .i64 n)) := (((btr HB1.out hb).setCell (p := ⟨w.heap.size, 0, none⟩) (Nat.le_refl _) _).setCell (p := ⟨w.heap.size, 1, none⟩) (Nat.le_refl _) _)
  rw [HQL.out] at hmap
  clear hb hown hz1 HB HB1 HCU HA
  go_wp2_with fail
  have t0 : ((w2.setCell ⟨w.heap.size, 0, none⟩ (.slice a2 l2.length c2)).setCell ⟨w.heap.size, 1, none⟩ (.int .i64 n)).cell? ⟨w.heap.size, 0, none⟩ = some (.slice a2 l2.length c2) := by go_simp
  have t1 : ((w2.setCell ⟨w.heap.size, 0, none⟩ (.slice a2 l2.length c2)).setCell ⟨w.heap.size, 1, none⟩ (.int .i64 n)).cell? ⟨w.heap.size, 1, none⟩ = some (.int .i64 n) := by go_simp
  clear p0 p1 g0 g1
  generalize ((w2.setCell ⟨w.heap.size, 0, none⟩ (.slice a2 l2.length c2)).setCell ⟨w.heap.size, 1, none⟩ (.int .i64 n)) = T at *
  have hqn := HQN.out
  clear HQN
  subst hqn
  have HPQ := Lib.hid (show PoolIn q a2 l2 T from ⟨hp, hmap, HQS.out⟩)
  clear hp hmap HQL HQS
  have B0 := Lib.hid hB2
  have KK0 := Lib.hid (show ∀ W, Below T.heap.size T W → W.cell? ⟨w.heap.size, 0, none⟩ = some (.slice a2 l2.length c2) ∧ W.cell? ⟨w.heap.size, 1, none⟩ = some (.int .i64 q.n) from fun W h => ⟨(h.cell (p := ⟨w.heap.size, 0, none⟩) (blt t0)).trans t0, (h.cell (p := ⟨w.heap.size, 1, none⟩) (blt t1)).trans t1⟩)
  have C0_0 := Lib.hid (Below.refl T.heap.size T)
  clear hB2
  refine (HIT.out _ (StrsAt.onB HS.out B0.out)).mono ?_; rintro e w1 ⟨ia2, ic2, rfl, hs2, hb⟩
  have B1 : RowKit.Hid (Below w.heap.size w w1) := Lib.hid (btr B0.out hb)
  have C0_1 : RowKit.Hid (Below T.heap.size T w1) := Lib.hid (btr C0_0.out hb)
  have HSI := Lib.hid (OwnS.at' hs2)
  clear hs2
  clear t0 t1 hb
  obtain ⟨f1_0_0, f1_0_1⟩ := KK0.out w1 C0_1.out
  have HITS := Lib.hid (smallI_items items)
  generalize hit0 : itemsL items = its at *
  clear hit0
  have M0_1 := Lib.hid (Below.refl w1.heap.size w1)
  cases hk : pinB wordB q [] t
  · skip
    have hE1 : pinR q [] t = Pl.nil ∧ pinC q [] t = 0 ∧ pinE q [] t = 160 := pin_no hk
    clear hk
    go_wp2_with fail
    refine (pin_v q Pl.nil a2 l2 c2 none 0 [] t 0 160 hE1.1 hE1.2.1 hE1.2.2 ⟨by decide, fun s hs => nomatch hs⟩ _ (HPQ.out.on C0_1.out) (StrsAt.nil _ _ _) (HE.out.onB B1.out)).mono ?_; rintro e w2 ⟨a3, c3, l3, rfl, hp, hb⟩
    have B2 : RowKit.Hid (Below w.heap.size w (w2.alloc (.cells #[.slice a3 l3.length c3, .int .i64 Pl.nil.n] 24))) := Lib.hid (bal (btr B1.out hb) _)
    have C0_2 : RowKit.Hid (Below T.heap.size T (w2.alloc (.cells #[.slice a3 l3.length c3, .int .i64 Pl.nil.n] 24))) := Lib.hid (bal (btr C0_1.out hb) _)
    have M0_2 : RowKit.Hid (Below w1.heap.size w1 (w2.alloc (.cells #[.slice a3 l3.length c3, .int .i64 Pl.nil.n] 24))) := Lib.hid (bal (btr M0_1.out hb) _)
    clear hp
    clear f1_0_0 f1_0_1 hb
    obtain ⟨f2_0_0, f2_0_1⟩ := KK0.out (w2.alloc (.cells #[.slice a3 l3.length c3, .int .i64 Pl.nil.n] 24)) C0_2.out
    have f2_1_0 : (w2.alloc (.cells #[.slice a3 l3.length c3, .int .i64 Pl.nil.n] 24)).cell? ⟨w2.heap.size, 0, none⟩ = some (.slice a3 l3.length c3) := by go_simp
    have f2_1_1 : (w2.alloc (.cells #[.slice a3 l3.length c3, .int .i64 Pl.nil.n] 24)).cell? ⟨w2.heap.size, 1, none⟩ = some (.int .i64 Pl.nil.n) := by go_simp
    have KK1 := Lib.hid (show ∀ W, Below (w2.alloc (.cells #[.slice a3 l3.length c3, .int .i64 Pl.nil.n] 24)).heap.size (w2.alloc (.cells #[.slice a3 l3.length c3, .int .i64 Pl.nil.n] 24)) W → W.cell? ⟨w2.heap.size, 0, none⟩ = some (.slice a3 l3.length c3) ∧ W.cell? ⟨w2.heap.size, 1, none⟩ = some (.int .i64 Pl.nil.n) from fun W h => ⟨(h.cell (p := ⟨w2.heap.size, 0, none⟩) (blt f2_1_0)).trans f2_1_0, (h.cell (p := ⟨w2.heap.size, 1, none⟩) (blt f2_1_1)).trans f2_1_1⟩)
    have C1_2 := Lib.hid (Below.refl (w2.alloc (.cells #[.slice a3 l3.length c3, .int .i64 Pl.nil.n] 24)).heap.size (w2.alloc (.cells #[.slice a3 l3.length c3, .int .i64 Pl.nil.n] 24)))
    go_wp2
    go_ret
    exact ⟨rfl, B2.out⟩
  · skip
    have hok := pin_iff.1 hk
    have hE1 : pinR q [] t = pinT q [] t ∧ pinC q [] t = q.n ∧ pinE q [] t = 0 := pin_yes hk
    have hG1 := pin_page_nil hok
    have HRS := Lib.hid (pin_right hk)
    have hqb := And.intro hok.r.n1 hok.n
    clear hk
    have HR1N := Lib.hid (show (pinT q [] t).n = q.n + 1 from rfl)
    have HOK := Lib.hid hok
    clear hok
    generalize pinT q [] t = r1 at *
    obtain ⟨g1, hg1⟩ : ∃ g1, pageS r1 q.n 0 1 t = g1 := ⟨_, rfl⟩
    go_wp2_with fail
    refine (pin_v q r1 a2 l2 c2 none 0 [] t q.n 0 hE1.1 hE1.2.1 hE1.2.2 ⟨by decide, fun s hs => nomatch hs⟩ _ (HPQ.out.on C0_1.out) (StrsAt.nil _ _ _) (HE.out.onB B1.out)).mono ?_; rintro e w2 ⟨a3, c3, l3, rfl, hp, hb⟩
    have B2 : RowKit.Hid (Below w.heap.size w (w2.alloc (.cells #[.slice a3 l3.length c3, .int .i64 r1.n] 24))) := Lib.hid (bal (btr B1.out hb) _)
    have C0_2 : RowKit.Hid (Below T.heap.size T (w2.alloc (.cells #[.slice a3 l3.length c3, .int .i64 r1.n] 24))) := Lib.hid (bal (btr C0_1.out hb) _)
    have M0_2 : RowKit.Hid (Below w1.heap.size w1 (w2.alloc (.cells #[.slice a3 l3.length c3, .int .i64 r1.n] 24))) := Lib.hid (bal (btr M0_1.out hb) _)
    have HP3 := Lib.hid (hp.on (show Below w2.heap.size w2 (w2.alloc (.cells #[.slice a3 l3.length c3, .int .i64 r1.n] 24)) from (bal (Below.refl w2.heap.size w2) _)))
    clear hp hE1
    clear f1_0_0 f1_0_1 hb
    obtain ⟨f2_0_0, f2_0_1⟩ := KK0.out (w2.alloc (.cells #[.slice a3 l3.length c3, .int .i64 r1.n] 24)) C0_2.out
    have f2_1_0 : (w2.alloc (.cells #[.slice a3 l3.length c3, .int .i64 r1.n] 24)).cell? ⟨w2.heap.size, 0, none⟩ = some (.slice a3 l3.length c3) := by go_simp
    have f2_1_1 : (w2.alloc (.cells #[.slice a3 l3.length c3, .int .i64 r1.n] 24)).cell? ⟨w2.heap.size, 1, none⟩ = some (.int .i64 r1.n) := by go_simp
    have KK1 := Lib.hid (show ∀ W, Below (w2.alloc (.cells #[.slice a3 l3.length c3, .int .i64 r1.n] 24)).heap.size (w2.alloc (.cells #[.slice a3 l3.length c3, .int .i64 r1.n] 24)) W → W.cell? ⟨w2.heap.size, 0, none⟩ = some (.slice a3 l3.length c3) ∧ W.cell? ⟨w2.heap.size, 1, none⟩ = some (.int .i64 r1.n) from fun W h => ⟨(h.cell (p := ⟨w2.heap.size, 0, none⟩) (blt f2_1_0)).trans f2_1_0, (h.cell (p := ⟨w2.heap.size, 1, none⟩) (blt f2_1_1)).trans f2_1_1⟩)
    have C1_2 := Lib.hid (Below.refl (w2.alloc (.cells #[.slice a3 l3.length c3, .int .i64 r1.n] 24)).heap.size (w2.alloc (.cells #[.slice a3 l3.length c3, .int .i64 r1.n] 24)))
    go_wp2_with fail
    refine (page_v r1 g1 a3 l3 c3 q.n 0 1 t [] (-1) 0 hg1 hG1.2.1 hG1.2.2 hG1.1 _ (HP3.out.on C1_2.out) (HE.out.onB B2.out)).mono ?_; rintro e w3 ⟨a4, c4, l4, b4, d4, rfl, hp, hs, hb⟩
    have B3 : RowKit.Hid (Below w.heap.size w (w3.alloc (.cells #[.slice a4 l4.length c4, .int .i64 g1.n] 24))) := Lib.hid (bal (btr B2.out hb) _)
    have C0_3 : RowKit.Hid (Below T.heap.size T (w3.alloc (.cells #[.slice a4 l4.length c4, .int .i64 g1.n] 24))) := Lib.hid (bal (btr C0_2.out hb) _)
    have C1_3 : RowKit.Hid (Below (w2.alloc (.cells #[.slice a3 l3.length c3, .int .i64 r1.n] 24)).heap.size (w2.alloc (.cells #[.slice a3 l3.length c3, .int .i64 r1.n] 24)) (w3.alloc (.cells #[.slice a4 l4.length c4, .int .i64 g1.n] 24))) := Lib.hid (bal (btr C1_2.out hb) _)
    have M0_3 : RowKit.Hid (Below w1.heap.size w1 (w3.alloc (.cells #[.slice a4 l4.length c4, .int .i64 g1.n] 24))) := Lib.hid (bal (btr M0_2.out hb) _)
    clear hp hs hG1 hg1
    clear f2_0_0 f2_0_1 f2_1_0 f2_1_1 hb
    obtain ⟨f3_0_0, f3_0_1⟩ := KK0.out (w3.alloc (.cells #[.slice a4 l4.length c4, .int .i64 g1.n] 24)) C0_3.out
    obtain ⟨f3_1_0, f3_1_1⟩ := KK1.out (w3.alloc (.cells #[.slice a4 l4.length c4, .int .i64 g1.n] 24)) C1_3.out
    have f3_2_0 : (w3.alloc (.cells #[.slice a4 l4.length c4, .int .i64 g1.n] 24)).cell? ⟨w3.heap.size, 0, none⟩ = some (.slice a4 l4.length c4) := by go_simp
    have f3_2_1 : (w3.alloc (.cells #[.slice a4 l4.length c4, .int .i64 g1.n] 24)).cell? ⟨w3.heap.size, 1, none⟩ = some (.int .i64 g1.n) := by go_simp
    have KK2 := Lib.hid (show ∀ W, Below (w3.alloc (.cells #[.slice a4 l4.length c4, .int .i64 g1.n] 24)).heap.size (w3.alloc (.cells #[.slice a4 l4.length c4, .int .i64 g1.n] 24)) W → W.cell? ⟨w3.heap.size, 0, none⟩ = some (.slice a4 l4.length c4) ∧ W.cell? ⟨w3.heap.size, 1, none⟩ = some (.int .i64 g1.n) from fun W h => ⟨(h.cell (p := ⟨w3.heap.size, 0, none⟩) (blt f3_2_0)).trans f3_2_0, (h.cell (p := ⟨w3.heap.size, 1, none⟩) (blt f3_2_1)).trans f3_2_1⟩)
    have C2_3 := Lib.hid (Below.refl (w3.alloc (.cells #[.slice a4 l4.length c4, .int .i64 g1.n] 24)).heap.size (w3.alloc (.cells #[.slice a4 l4.length c4, .int .i64 g1.n] 24)))
    cases hk2 : pinB wordB r1 its t
    · skip
      have hE2 := pin_no hk2
      clear hk2
      go_wp2_with fail
      refine (pin_v r1 Pl.nil a3 l3 c3 ia2 ic2 its t 0 160 hE2.1 hE2.2.1 hE2.2.2 HITS.out _ (HP3.out.on C1_3.out) (HSI.out.onB M0_3.out) (HE.out.onB B3.out)).mono ?_; rintro e w4 ⟨a5, c5, l5, rfl, hp, hb⟩
      have B4 : RowKit.Hid (Below w.heap.size w (w4.alloc (.cells #[.slice a5 l5.length c5, .int .i64 Pl.nil.n] 24))) := Lib.hid (bal (btr B3.out hb) _)
      have C0_4 : RowKit.Hid (Below T.heap.size T (w4.alloc (.cells #[.slice a5 l5.length c5, .int .i64 Pl.nil.n] 24))) := Lib.hid (bal (btr C0_3.out hb) _)
      have C1_4 : RowKit.Hid (Below (w2.alloc (.cells #[.slice a3 l3.length c3, .int .i64 r1.n] 24)).heap.size (w2.alloc (.cells #[.slice a3 l3.length c3, .int .i64 r1.n] 24)) (w4.alloc (.cells #[.slice a5 l5.length c5, .int .i64 Pl.nil.n] 24))) := Lib.hid (bal (btr C1_3.out hb) _)
      have C2_4 : RowKit.Hid (Below (w3.alloc (.cells #[.slice a4 l4.length c4, .int .i64 g1.n] 24)).heap.size (w3.alloc (.cells #[.slice a4 l4.length c4, .int .i64 g1.n] 24)) (w4.alloc (.cells #[.slice a5 l5.length c5, .int .i64 Pl.nil.n] 24))) := Lib.hid (bal (btr C2_3.out hb) _)
      have M0_4 : RowKit.Hid (Below w1.heap.size w1 (w4.alloc (.cells #[.slice a5 l5.length c5, .int .i64 Pl.nil.n] 24))) := Lib.hid (bal (btr M0_3.out hb) _)
      clear hp
      clear f3_0_0 f3_0_1 f3_1_0 f3_1_1 f3_2_0 f3_2_1 hb
      obtain ⟨f4_0_0, f4_0_1⟩ := KK0.out (w4.alloc (.cells #[.slice a5 l5.length c5, .int .i64 Pl.nil.n] 24)) C0_4.out
      obtain ⟨f4_1_0, f4_1_1⟩ := KK1.out (w4.alloc (.cells #[.slice a5 l5.length c5, .int .i64 Pl.nil.n] 24)) C1_4.out
      obtain ⟨f4_2_0, f4_2_1⟩ := KK2.out (w4.alloc (.cells #[.slice a5 l5.length c5, .int .i64 Pl.nil.n] 24)) C2_4.out
      have f4_3_0 : (w4.alloc (.cells #[.slice a5 l5.length c5, .int .i64 Pl.nil.n] 24)).cell? ⟨w4.heap.size, 0, none⟩ = some (.slice a5 l5.length c5) := by go_simp
      have f4_3_1 : (w4.alloc (.cells #[.slice a5 l5.length c5, .int .i64 Pl.nil.n] 24)).cell? ⟨w4.heap.size, 1, none⟩ = some (.int .i64 Pl.nil.n) := by go_simp
      have KK3 := Lib.hid (show ∀ W, Below (w4.alloc (.cells #[.slice a5 l5.length c5, .int .i64 Pl.nil.n] 24)).heap.size (w4.alloc (.cells #[.slice a5 l5.length c5, .int .i64 Pl.nil.n] 24)) W → W.cell? ⟨w4.heap.size, 0, none⟩ = some (.slice a5 l5.length c5) ∧ W.cell? ⟨w4.heap.size, 1, none⟩ = some (.int .i64 Pl.nil.n) from fun W h => ⟨(h.cell (p := ⟨w4.heap.size, 0, none⟩) (blt f4_3_0)).trans f4_3_0, (h.cell (p := ⟨w4.heap.size, 1, none⟩) (blt f4_3_1)).trans f4_3_1⟩)
      have C3_4 := Lib.hid (Below.refl (w4.alloc (.cells #[.slice a5 l5.length c5, .int .i64 Pl.nil.n] 24)).heap.size (w4.alloc (.cells #[.slice a5 l5.length c5, .int .i64 Pl.nil.n] 24)))
      go_wp2
      go_ret
      exact ⟨rfl, B4.out⟩
    · skip
      have hok2 := pin_iff.1 hk2
      have hE2 := pin_yes hk2
      have hG2 := pin_page (k := 10) hok2 (by decide) (by decide)
      clear hk2
      have hr1b : r1.n < 1000000000000 := hok2.n
      have HOK2 := Lib.hid hok2
      clear hok2
      generalize pinT r1 its t = r2 at *
      obtain ⟨g2, hg2⟩ : ∃ g2, pageS r2 r1.n 0 10 t = g2 := ⟨_, rfl⟩
      have hlen := HITS.out.1
      have HWQ := Lib.hid (show IntKind.i64.wrap (q.n + 1) = r1.n from (IntWalk.i64_in _ (by omega)).trans HR1N.out.symm)
      go_wp2_with fail
      refine (pin_v r1 r2 a3 l3 c3 ia2 ic2 its t r1.n 0 hE2.1 hE2.2.1 hE2.2.2 HITS.out _ (HP3.out.on C1_3.out) (HSI.out.onB M0_3.out) (HE.out.onB B3.out)).mono ?_; rintro e w4 ⟨a5, c5, l5, rfl, hp, hb⟩
      have B4 : RowKit.Hid (Below w.heap.size w (w4.alloc (.cells #[.slice a5 l5.length c5, .int .i64 r2.n] 24))) := Lib.hid (bal (btr B3.out hb) _)
      have C0_4 : RowKit.Hid (Below T.heap.size T (w4.alloc (.cells #[.slice a5 l5.length c5, .int .i64 r2.n] 24))) := Lib.hid (bal (btr C0_3.out hb) _)
      have C1_4 : RowKit.Hid (Below (w2.alloc (.cells #[.slice a3 l3.length c3, .int .i64 r1.n] 24)).heap.size (w2.alloc (.cells #[.slice a3 l3.length c3, .int .i64 r1.n] 24)) (w4.alloc (.cells #[.slice a5 l5.length c5, .int .i64 r2.n] 24))) := Lib.hid (bal (btr C1_3.out hb) _)
      have C2_4 : RowKit.Hid (Below (w3.alloc (.cells #[.slice a4 l4.length c4, .int .i64 g1.n] 24)).heap.size (w3.alloc (.cells #[.slice a4 l4.length c4, .int .i64 g1.n] 24)) (w4.alloc (.cells #[.slice a5 l5.length c5, .int .i64 r2.n] 24))) := Lib.hid (bal (btr C2_3.out hb) _)
      have M0_4 : RowKit.Hid (Below w1.heap.size w1 (w4.alloc (.cells #[.slice a5 l5.length c5, .int .i64 r2.n] 24))) := Lib.hid (bal (btr M0_3.out hb) _)
      have HP5 := Lib.hid (hp.on (show Below w4.heap.size w4 (w4.alloc (.cells #[.slice a5 l5.length c5, .int .i64 r2.n] 24)) from (bal (Below.refl w4.heap.size w4) _)))
      clear hp hE2
      clear f3_0_0 f3_0_1 f3_1_0 f3_1_1 f3_2_0 f3_2_1 hb
      obtain ⟨f4_0_0, f4_0_1⟩ := KK0.out (w4.alloc (.cells #[.slice a5 l5.length c5, .int .i64 r2.n] 24)) C0_4.out
      obtain ⟨f4_1_0, f4_1_1⟩ := KK1.out (w4.alloc (.cells #[.slice a5 l5.length c5, .int .i64 r2.n] 24)) C1_4.out
      obtain ⟨f4_2_0, f4_2_1⟩ := KK2.out (w4.alloc (.cells #[.slice a5 l5.length c5, .int .i64 r2.n] 24)) C2_4.out
      have f4_3_0 : (w4.alloc (.cells #[.slice a5 l5.length c5, .int .i64 r2.n] 24)).cell? ⟨w4.heap.size, 0, none⟩ = some (.slice a5 l5.length c5) := by go_simp
      have f4_3_1 : (w4.alloc (.cells #[.slice a5 l5.length c5, .int .i64 r2.n] 24)).cell? ⟨w4.heap.size, 1, none⟩ = some (.int .i64 r2.n) := by go_simp
      have KK3 := Lib.hid (show ∀ W, Below (w4.alloc (.cells #[.slice a5 l5.length c5, .int .i64 r2.n] 24)).heap.size (w4.alloc (.cells #[.slice a5 l5.length c5, .int .i64 r2.n] 24)) W → W.cell? ⟨w4.heap.size, 0, none⟩ = some (.slice a5 l5.length c5) ∧ W.cell? ⟨w4.heap.size, 1, none⟩ = some (.int .i64 r2.n) from fun W h => ⟨(h.cell (p := ⟨w4.heap.size, 0, none⟩) (blt f4_3_0)).trans f4_3_0, (h.cell (p := ⟨w4.heap.size, 1, none⟩) (blt f4_3_1)).trans f4_3_1⟩)
      have C3_4 := Lib.hid (Below.refl (w4.alloc (.cells #[.slice a5 l5.length c5, .int .i64 r2.n] 24)).heap.size (w4.alloc (.cells #[.slice a5 l5.length c5, .int .i64 r2.n] 24)))
      by_cases hl : its.length ≤ 10
      · skip
        have hm1 : ¬ (its.length : Int) > 10 := by omega
        have hm2 : pageB r2 r1.n 0 10 t = -1 := hG2.2.2.trans (by rw [if_pos (by omega)])
        have hm3 : pageL r2 r1.n 0 10 t = its := hG2.2.1.trans (List.take_of_length_le hl)
        go_wp2_with fail
        refine (page_v r2 g2 a5 l5 c5 r1.n 0 10 t its (-1) 0 hg2 hm3 hm2 hG2.1 _ (HP5.out.on C3_4.out) (HE.out.onB B4.out)).mono ?_; rintro e w5 ⟨a6, c6, l6, b6, d6, rfl, hp, hs, hb⟩
        have B5 : RowKit.Hid (Below w.heap.size w (w5.alloc (.cells #[.slice a6 l6.length c6, .int .i64 g2.n] 24))) := Lib.hid (bal (btr B4.out hb) _)
        have C0_5 : RowKit.Hid (Below T.heap.size T (w5.alloc (.cells #[.slice a6 l6.length c6, .int .i64 g2.n] 24))) := Lib.hid (bal (btr C0_4.out hb) _)
        have C1_5 : RowKit.Hid (Below (w2.alloc (.cells #[.slice a3 l3.length c3, .int .i64 r1.n] 24)).heap.size (w2.alloc (.cells #[.slice a3 l3.length c3, .int .i64 r1.n] 24)) (w5.alloc (.cells #[.slice a6 l6.length c6, .int .i64 g2.n] 24))) := Lib.hid (bal (btr C1_4.out hb) _)
        have C2_5 : RowKit.Hid (Below (w3.alloc (.cells #[.slice a4 l4.length c4, .int .i64 g1.n] 24)).heap.size (w3.alloc (.cells #[.slice a4 l4.length c4, .int .i64 g1.n] 24)) (w5.alloc (.cells #[.slice a6 l6.length c6, .int .i64 g2.n] 24))) := Lib.hid (bal (btr C2_4.out hb) _)
        have C3_5 : RowKit.Hid (Below (w4.alloc (.cells #[.slice a5 l5.length c5, .int .i64 r2.n] 24)).heap.size (w4.alloc (.cells #[.slice a5 l5.length c5, .int .i64 r2.n] 24)) (w5.alloc (.cells #[.slice a6 l6.length c6, .int .i64 g2.n] 24))) := Lib.hid (bal (btr C3_4.out hb) _)
        have M0_5 : RowKit.Hid (Below w1.heap.size w1 (w5.alloc (.cells #[.slice a6 l6.length c6, .int .i64 g2.n] 24))) := Lib.hid (bal (btr M0_4.out hb) _)
        have HS6 := Lib.hid (hs.onB (show Below w5.heap.size w5 (w5.alloc (.cells #[.slice a6 l6.length c6, .int .i64 g2.n] 24)) from (bal (Below.refl w5.heap.size w5) _)))
        have hwq := HWQ.out
        clear hp hs hG2 hg2 hm2 hm3
        clear f4_0_0 f4_0_1 f4_1_0 f4_1_1 f4_2_0 f4_2_1 f4_3_0 f4_3_1 hb
        obtain ⟨f5_0_0, f5_0_1⟩ := KK0.out (w5.alloc (.cells #[.slice a6 l6.length c6, .int .i64 g2.n] 24)) C0_5.out
        obtain ⟨f5_1_0, f5_1_1⟩ := KK1.out (w5.alloc (.cells #[.slice a6 l6.length c6, .int .i64 g2.n] 24)) C1_5.out
        obtain ⟨f5_2_0, f5_2_1⟩ := KK2.out (w5.alloc (.cells #[.slice a6 l6.length c6, .int .i64 g2.n] 24)) C2_5.out
        obtain ⟨f5_3_0, f5_3_1⟩ := KK3.out (w5.alloc (.cells #[.slice a6 l6.length c6, .int .i64 g2.n] 24)) C3_5.out
        have f5_4_0 : (w5.alloc (.cells #[.slice a6 l6.length c6, .int .i64 g2.n] 24)).cell? ⟨w5.heap.size, 0, none⟩ = some (.slice a6 l6.length c6) := by go_simp
        have f5_4_1 : (w5.alloc (.cells #[.slice a6 l6.length c6, .int .i64 g2.n] 24)).cell? ⟨w5.heap.size, 1, none⟩ = some (.int .i64 g2.n) := by go_simp
        have KK4 := Lib.hid (show ∀ W, Below (w5.alloc (.cells #[.slice a6 l6.length c6, .int .i64 g2.n] 24)).heap.size (w5.alloc (.cells #[.slice a6 l6.length c6, .int .i64 g2.n] 24)) W → W.cell? ⟨w5.heap.size, 0, none⟩ = some (.slice a6 l6.length c6) ∧ W.cell? ⟨w5.heap.size, 1, none⟩ = some (.int .i64 g2.n) from fun W h => ⟨(h.cell (p := ⟨w5.heap.size, 0, none⟩) (blt f5_4_0)).trans f5_4_0, (h.cell (p := ⟨w5.heap.size, 1, none⟩) (blt f5_4_1)).trans f5_4_1⟩)
        have C4_5 := Lib.hid (Below.refl (w5.alloc (.cells #[.slice a6 l6.length c6, .int .i64 g2.n] 24)).heap.size (w5.alloc (.cells #[.slice a6 l6.length c6, .int .i64 g2.n] 24)))
        go_wp2_with fail
        refine (same_v b6 ia2 d6 ic2 its its true (by simp) _ (by omega) (by omega) (HS6.out.onB C4_5.out) (HSI.out.onB M0_5.out)).mono ?_; rintro e w6 ⟨rfl, hb⟩
        have B6 : RowKit.Hid (Below w.heap.size w w6) := Lib.hid (btr B5.out hb)
        have C0_6 : RowKit.Hid (Below T.heap.size T w6) := Lib.hid (btr C0_5.out hb)
        have C1_6 : RowKit.Hid (Below (w2.alloc (.cells #[.slice a3 l3.length c3, .int .i64 r1.n] 24)).heap.size (w2.alloc (.cells #[.slice a3 l3.length c3, .int .i64 r1.n] 24)) w6) := Lib.hid (btr C1_5.out hb)
        have C2_6 : RowKit.Hid (Below (w3.alloc (.cells #[.slice a4 l4.length c4, .int .i64 g1.n] 24)).heap.size (w3.alloc (.cells #[.slice a4 l4.length c4, .int .i64 g1.n] 24)) w6) := Lib.hid (btr C2_5.out hb)
        have C3_6 : RowKit.Hid (Below (w4.alloc (.cells #[.slice a5 l5.length c5, .int .i64 r2.n] 24)).heap.size (w4.alloc (.cells #[.slice a5 l5.length c5, .int .i64 r2.n] 24)) w6) := Lib.hid (btr C3_5.out hb)
        have C4_6 : RowKit.Hid (Below (w5.alloc (.cells #[.slice a6 l6.length c6, .int .i64 g2.n] 24)).heap.size (w5.alloc (.cells #[.slice a6 l6.length c6, .int .i64 g2.n] 24)) w6) := Lib.hid (btr C4_5.out hb)
        have M0_6 : RowKit.Hid (Below w1.heap.size w1 w6) := Lib.hid (btr M0_5.out hb)
        clear f5_0_0 f5_0_1 f5_1_0 f5_1_1 f5_2_0 f5_2_1 f5_3_0 f5_3_1 f5_4_0 f5_4_1 hb
        obtain ⟨f6_0_0, f6_0_1⟩ := KK0.out w6 C0_6.out
        obtain ⟨f6_1_0, f6_1_1⟩ := KK1.out w6 C1_6.out
        obtain ⟨f6_2_0, f6_2_1⟩ := KK2.out w6 C2_6.out
        obtain ⟨f6_3_0, f6_3_1⟩ := KK3.out w6 C3_6.out
        obtain ⟨f6_4_0, f6_4_1⟩ := KK4.out w6 C4_6.out
        go_wp2
        go_ret
        exact ⟨by rfl, B6.out⟩
      · skip
        have hm1 : (its.length : Int) > 10 := by omega
        have hm2 : pageB r2 r1.n 0 10 t = 10 := hG2.2.2.trans (by rw [if_neg (by omega)])
        have hm3 : pageL r2 r1.n 0 10 t = its.take 10 := hG2.2.1
        have hm4 : (its.take 10).length = 10 := by rw [List.length_take]; omega
        generalize its.take 10 = it10 at *
        go_wp2_with fail
        refine (page_v r2 g2 a5 l5 c5 r1.n 0 10 t it10 10 0 hg2 hm3 hm2 hG2.1 _ (HP5.out.on C3_4.out) (HE.out.onB B4.out)).mono ?_; rintro e w5 ⟨a6, c6, l6, b6, d6, rfl, hp, hs, hb⟩
        have B5 : RowKit.Hid (Below w.heap.size w (w5.alloc (.cells #[.slice a6 l6.length c6, .int .i64 g2.n] 24))) := Lib.hid (bal (btr B4.out hb) _)
        have C0_5 : RowKit.Hid (Below T.heap.size T (w5.alloc (.cells #[.slice a6 l6.length c6, .int .i64 g2.n] 24))) := Lib.hid (bal (btr C0_4.out hb) _)
        have C1_5 : RowKit.Hid (Below (w2.alloc (.cells #[.slice a3 l3.length c3, .int .i64 r1.n] 24)).heap.size (w2.alloc (.cells #[.slice a3 l3.length c3, .int .i64 r1.n] 24)) (w5.alloc (.cells #[.slice a6 l6.length c6, .int .i64 g2.n] 24))) := Lib.hid (bal (btr C1_4.out hb) _)
        have C2_5 : RowKit.Hid (Below (w3.alloc (.cells #[.slice a4 l4.length c4, .int .i64 g1.n] 24)).heap.size (w3.alloc (.cells #[.slice a4 l4.length c4, .int .i64 g1.n] 24)) (w5.alloc (.cells #[.slice a6 l6.length c6, .int .i64 g2.n] 24))) := Lib.hid (bal (btr C2_4.out hb) _)
        have C3_5 : RowKit.Hid (Below (w4.alloc (.cells #[.slice a5 l5.length c5, .int .i64 r2.n] 24)).heap.size (w4.alloc (.cells #[.slice a5 l5.length c5, .int .i64 r2.n] 24)) (w5.alloc (.cells #[.slice a6 l6.length c6, .int .i64 g2.n] 24))) := Lib.hid (bal (btr C3_4.out hb) _)
        have M0_5 : RowKit.Hid (Below w1.heap.size w1 (w5.alloc (.cells #[.slice a6 l6.length c6, .int .i64 g2.n] 24))) := Lib.hid (bal (btr M0_4.out hb) _)
        have hwq := HWQ.out
        clear hp hs hG2 hg2 hm2 hm3
        clear f4_0_0 f4_0_1 f4_1_0 f4_1_1 f4_2_0 f4_2_1 f4_3_0 f4_3_1 hb
        obtain ⟨f5_0_0, f5_0_1⟩ := KK0.out (w5.alloc (.cells #[.slice a6 l6.length c6, .int .i64 g2.n] 24)) C0_5.out
        obtain ⟨f5_1_0, f5_1_1⟩ := KK1.out (w5.alloc (.cells #[.slice a6 l6.length c6, .int .i64 g2.n] 24)) C1_5.out
        obtain ⟨f5_2_0, f5_2_1⟩ := KK2.out (w5.alloc (.cells #[.slice a6 l6.length c6, .int .i64 g2.n] 24)) C2_5.out
        obtain ⟨f5_3_0, f5_3_1⟩ := KK3.out (w5.alloc (.cells #[.slice a6 l6.length c6, .int .i64 g2.n] 24)) C3_5.out
        have f5_4_0 : (w5.alloc (.cells #[.slice a6 l6.length c6, .int .i64 g2.n] 24)).cell? ⟨w5.heap.size, 0, none⟩ = some (.slice a6 l6.length c6) := by go_simp
        have f5_4_1 : (w5.alloc (.cells #[.slice a6 l6.length c6, .int .i64 g2.n] 24)).cell? ⟨w5.heap.size, 1, none⟩ = some (.int .i64 g2.n) := by go_simp
        have KK4 := Lib.hid (show ∀ W, Below (w5.alloc (.cells #[.slice a6 l6.length c6, .int .i64 g2.n] 24)).heap.size (w5.alloc (.cells #[.slice a6 l6.length c6, .int .i64 g2.n] 24)) W → W.cell? ⟨w5.heap.size, 0, none⟩ = some (.slice a6 l6.length c6) ∧ W.cell? ⟨w5.heap.size, 1, none⟩ = some (.int .i64 g2.n) from fun W h => ⟨(h.cell (p := ⟨w5.heap.size, 0, none⟩) (blt f5_4_0)).trans f5_4_0, (h.cell (p := ⟨w5.heap.size, 1, none⟩) (blt f5_4_1)).trans f5_4_1⟩)
        have C4_5 := Lib.hid (Below.refl (w5.alloc (.cells #[.slice a6 l6.length c6, .int .i64 g2.n] 24)).heap.size (w5.alloc (.cells #[.slice a6 l6.length c6, .int .i64 g2.n] 24)))
        go_wp2
        go_ret
        exact ⟨by rfl, B5.out⟩
end Go.Proofs.YtgceecfjammnaaaDoor.L16

/- An argument that is a pool, or items, opened. (Written by hand: no generator.) -/
namespace Go.Proofs.YtgceecfjammnaaaDoor.L16
open Go.RowKit Go.ChangeShapes Go.WideShapes Go.Deep Go.Joins Go.ChangeAt

section
variable {H : Type} {enc : TypeId × Value → H} {w : World} {base : Nat} {spare : Nat → Bool} {held : Bool}
instance inhSnM : Inhabited SnM := ⟨SnM.zero⟩
theorem snapFields : ∃ f0 f1 f2 : Field, Tryd.prog.underlying 42 = some (.struct #[f0, f1, f2]) ∧ (f0.type = 3 ∧ f0.offset = 0) ∧ (f1.type = 25 ∧ f1.offset = 1) ∧ (f2.type = 3 ∧ f2.offset = 2) :=
  ⟨_, _, _, Tryd.underlying42, ⟨rfl, rfl⟩, ⟨rfl, rfl⟩, ⟨rfl, rfl⟩⟩
theorem cellsSnap : Tryd.prog.cellsOf 42 = 3 := by kernel_rfl
theorem cellsPool : Tryd.prog.cellsOf 24 = 2 := by kernel_rfl
theorem cellsSl : Tryd.prog.cellsOf 25 = 1 := by kernel_rfl
theorem cellsI : Tryd.prog.cellsOf 3 = 1 := by kernel_rfl
theorem cellsS : Tryd.prog.cellsOf 9 = 1 := by kernel_rfl
theorem open_items {fuel : Nat} {cs : List Value} {x : DataW H × List MemPlace} (h : DataW.trod enc Tryd.prog w base spare held fuel 25 cs = some x) :
    ∃ (a : Option Addr) (cap : Nat) (xs : List ByteArray), cs = [.slice a xs.length cap] ∧ StrsAt w.heap.size w a xs ∧ xs.length ≤ 9223372036854775807 ∧ ∀ s ∈ xs, s.size ≤ 9223372036854775807 := by
  rcases open_strs Tryd.underlying25 Tryd.underlying9 cellsS h with ⟨rfl, _⟩ | ⟨a, len, cap, m, S, rfl, _, hl, hm, hmm, _, hc⟩
  · exact ⟨none, 0, [], rfl, StrsAt.nil _ _ _, by simp, fun s hs => nomatch hs⟩
  · have hlm : len ≤ m := by rw [hmm]; split <;> omega
    refine ⟨some a, cap, (List.range len).map S, by simp, fun i hi => ?_, by simp; unfold maxLen at hm; omega, fun s hs => ?_⟩
    · have hi' : i < len := by simpa using hi
      have h0 := (hc i (by omega)).1
      obtain ⟨b, o, spot⟩ := a
      have hspot : spot = none := by simpa [Addr.add] using World.cell?_spot (hc 0 (by omega)).1
      subst hspot
      rw [add_at] at h0
      exact ⟨b, o, rfl, blt h0, by rw [h0]; simp⟩
    · obtain ⟨i, hi, rfl⟩ := List.mem_map.1 hs
      have := (hc i (by have := List.mem_range.1 hi; omega)).2
      unfold maxLen at this; omega
theorem open_snaps {fuel : Nat} {cs : List Value} {x : DataW H × List MemPlace} (h : DataW.trod enc Tryd.prog w base spare held fuel 22 cs = some x) :
    ∃ (a : Option Addr) (cap : Nat) (xs : List SnM), cs = [.slice a xs.length cap] ∧ PlAt w.heap.size w a xs ∧ xs.length ≤ 9223372036854775807 ∧ ∀ x ∈ xs, x.it.length ≤ 9223372036854775807 ∧ ∀ s ∈ x.it, s.size ≤ 9223372036854775807 := by
  rcases open_slice Tryd.underlying22 h with ⟨rfl, rfl⟩ | ⟨a, len, cap, m, n, D, Pl, rfl, hb, hl, hm, hmm, hx, hi⟩
  · exact ⟨none, 0, [], rfl, ⟨SnMAt.nil _ _ _, fun x hx => nomatch hx⟩, by simp, fun s hs => nomatch hs⟩
  · have hlm : len ≤ m := by rw [hmm]; split <;> omega
    rw [cellsSnap] at hi
    obtain ⟨V, hV⟩ := choose_lt (α := SnM) (n := len) (p := fun i v => (w.cell? (a.add (i * 3)) = some (.int .i64 v.c) ∧ w.cell? ((a.add (i * 3)).add 1) = some (.slice v.ita v.it.length v.itd) ∧ w.cell? ((a.add (i * 3)).add 2) = some (.int .i64 v.u)) ∧ StrsAt w.heap.size w v.ita v.it ∧ v.it.length ≤ 9223372036854775807 ∧ ∀ s ∈ v.it, s.size ≤ 9223372036854775807) (fun i hil => by
      obtain ⟨cs', h1, h2⟩ := hi i (by omega)
      obtain ⟨_, hlen, hcell⟩ := World.cells?_some h1
      match cs', hlen with
      | [c0, c1, c2], _ =>
        have e0 := hcell 0 (by omega)
        have e1 := hcell 1 (by omega)
        have e2 := hcell 2 (by omega)
        obtain ⟨f0, f1, f2, hu, ⟨t0, o0⟩, ⟨t1, o1⟩, ⟨t2, o2⟩⟩ := snapFields
        obtain ⟨ys, n', _, _, _, hyl, hf⟩ := DataW.trod_struct hu h2
        match ys, hyl with
        | [y0, y1, y2], _ =>
          have g0 := hf 0 f0 rfl
          have g1 := hf 1 f1 rfl
          have g2 := hf 2 f2 rfl
          rw [t0, o0, cellsI] at g0
          rw [t1, o1, cellsSl] at g1
          rw [t2, o2, cellsI] at g2
          obtain ⟨k0, hk0, _⟩ := DataW.trod_int Tryd.underlying3 g0
          obtain ⟨k1, d1, z1, hk1, hs1, hl1, hz1⟩ := open_items g1
          obtain ⟨k2, hk2, _⟩ := DataW.trod_int Tryd.underlying3 g2
          simp at hk0 hk1 hk2
          subst hk0 hk1 hk2
          exact ⟨⟨k0, z1, k1, d1, k2⟩, ⟨e0, e1, e2⟩, hs1, hl1, hz1⟩)
    refine ⟨some a, cap, (List.range len).map V, by simp, ⟨fun i hil => ?_, fun x hx => ?_⟩, by simp; unfold maxLen at hm; omega, fun x hx => ?_⟩
    · have hil' : i < len := by simpa using hil
      obtain ⟨b, o, spot⟩ := a
      have hs0 := (hV 0 (by omega)).1.1
      have hspot : spot = none := by
        rw [Nat.zero_mul] at hs0
        simpa [Addr.add] using World.cell?_spot hs0
      subst hspot
      obtain ⟨⟨c0, c1, c2⟩, _⟩ := hV i hil'
      rw [add_at] at c0
      rw [add_at, add_at] at c1 c2
      refine ⟨b, o, rfl, blt c0, ?_, ?_, ?_⟩
      · simpa using c0
      · simpa using c1
      · simpa using c2
    · obtain ⟨i, hi, rfl⟩ := List.mem_map.1 hx
      exact (hV i (List.mem_range.1 hi)).2.1
    · obtain ⟨i, hi, rfl⟩ := List.mem_map.1 hx
      exact (hV i (List.mem_range.1 hi)).2.2
set_option maxRecDepth 100000 in
theorem open_pool {b0 : Nat} {v : Value} {d : DataW H} {ps : List MemPlace} (hv : Value.okWide Tryd.prog w .any b0 24 v) (h : DataW.Trod enc Tryd.prog w base spare held 24 v d ps) :
    ∃ (a : Option Addr) (cap : Nat) (xs : List SnM) (n : Int), v = .agg #[.slice a xs.length cap, .int .i64 n] ∧ PlAt w.heap.size w a xs ∧ xs.length ≤ 9223372036854775807 ∧ (∀ x ∈ xs, x.it.length ≤ 9223372036854775807 ∧ ∀ s ∈ x.it, s.size ≤ 9223372036854775807) ∧ (-9223372036854775808 ≤ n ∧ n ≤ 9223372036854775807) := by
  obtain ⟨v0, v1, y0, y1, m, rfl, _, _, h0, h1⟩ := open_agg2 Tryd.underlying24 (by kernel_rfl) cellsPool hv h
  obtain ⟨a, cap, xs, e0, hp, hl, hz⟩ := open_snaps h0
  obtain ⟨n, e1, _, wn⟩ := DataW.trod_int Tryd.underlying3 h1
  simp at e0 e1
  subst e0 e1
  exact ⟨a, cap, xs, n, rfl, hp, hl, hz, bounds_i64 wn⟩
end
end Go.Proofs.YtgceecfjammnaaaDoor.L16

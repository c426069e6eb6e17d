/- The law WireBack. -/
import Derived.Test.YtdcnpcdohgecbaaDoorPF
namespace Go.Proofs.YtdcnpcdohgecbaaDoor
open Go.RowKit Go.Shelf
attribute [local go_sem] Oper.semAt_some

set_option maxRecDepth 100000 in
set_option maxHeartbeats 8000000 in
theorem back_yy (k st : Int) (d0 d s0 s t0 t a u : ByteArray) (k2 st2 n2 : Int) (d2 : ByteArray) (w : World) (hL : ErrT w) (S0 : Hid (∀ W, ErrT W → Calls Tryd.prog 10 #[] W fun x w' => x = .returned (.bool true) ∧ Below W.heap.size W w')) (CU : Hid (∀ b W, W.heap[b]? = some (.cells #[.int .i64 k, .int .i64 st, .string d0] 23 (0, 0)) → Calls Tryd.prog 11 #[.slice (some ⟨b, 0, none⟩) 1 1] W fun x w' => ∃ g c, x = .returned (.slice (some ⟨g, 0, none⟩) 1 c) ∧ w'.cell? ⟨g, 0, none⟩ = some (.int .i64 k) ∧ w'.cell? ⟨g, 1, none⟩ = some (.int .i64 st) ∧ w'.cell? ⟨g, 2, none⟩ = some (.string d) ∧ Below W.heap.size W w')) (C2 : Hid (∀ W, Calls Tryd.prog 12 #[.string s0] W fun x w' => x = .returned (.string s) ∧ Below W.heap.size W w'))
    (C3 : Hid (∀ W, Calls Tryd.prog 12 #[.string t0] W fun x w' => x = .returned (.string t) ∧ Below W.heap.size W w'))
    (E1 : Hid (∀ W, Calls Tryd.prog 13 #[.agg #[.int .i64 k, .int .i64 st, .string d]] W fun x w' => x = .returned (.tuple #[.string a, .int .i64 0]) ∧ Below W.heap.size W w'))
    (T1 : Hid (∀ W, ErrT W → Calls Tryd.prog 15 #[.string (s ++ a ++ t), .int .i64 (s.size : Int)] W fun x w' => x = .returned (.tuple #[.agg #[(.int .i64 k), (.int .i64 st), (.string d)], .int .i64 ((s.size : Int) + (a.size : Int)), .int .i64 0]) ∧ Below W.heap.size W w'))
    (T2 : Hid (∀ W, ErrT W → Calls Tryd.prog 15 #[.string t, .int .i64 0] W fun x w' => x = .returned (.tuple #[.agg #[(.int .i64 k2), (.int .i64 st2), (.string d2)], .int .i64 n2, .int .i64 0]) ∧ Below W.heap.size W w'))
    (E2 : Hid (∀ W, Calls Tryd.prog 13 #[.agg #[(.int .i64 k2), (.int .i64 st2), (.string d2)]] W fun x w' => x = .returned (.tuple #[.string u, .int .i64 0]) ∧ Below W.heap.size W w'))
    (R1 : Hid (∀ W, Calls Tryd.prog 19 #[.agg #[.int .i64 k, .int .i64 st, .string d]] W fun x w' => x = .returned (.bool true) ∧ Below W.heap.size W w'))
    (z1 : ¬ 9223372036854775807 < s.size + a.size) (z2 : ¬ 9223372036854775807 < s.size + a.size + t.size)
    (z3 : IntKind.i64.wrap ((s.size : Int) + (a.size : Int)) = (s.size : Int) + (a.size : Int))
    (n5 : 5 ≤ n2) (n6 : n2 ≤ (t.size : Int)) (SL : ∀ W, (Instr.slice 9 (.string t) none (some (.int .i64 n2)) none).run Tryd.prog W = .ok (.string u) W) :
    Calls Tryd.prog 5 #[.agg #[.int .i64 k, .int .i64 st, .string d0], .string s0, .string t0] w fun x w' => x = .returned (.bool true) ∧ Below w.heap.size w w' := by
  have HL := Lib.hid hL
  clear hL
  go_enter Tryd.func5, Tryd.ntmps5
  go_wp2_with fail
  have x0 : (w.alloc (.cells #[(.int .i64 k), (.int .i64 st), (.string d0)] 23)).cell? ⟨w.heap.size, 0, none⟩ = some ((.int .i64 k)) := by go_simp
  have z0 : (w.alloc (.cells #[(.int .i64 k), (.int .i64 st), (.string d0)] 23)).frozen? ⟨w.heap.size, 0, none⟩ = false := by go_simp
  have x1 : (w.alloc (.cells #[(.int .i64 k), (.int .i64 st), (.string d0)] 23)).cell? ⟨w.heap.size, 1, none⟩ = some ((.int .i64 st)) := by go_simp
  have z1 : (w.alloc (.cells #[(.int .i64 k), (.int .i64 st), (.string d0)] 23)).frozen? ⟨w.heap.size, 1, none⟩ = false := by go_simp
  have x2 : (w.alloc (.cells #[(.int .i64 k), (.int .i64 st), (.string d0)] 23)).cell? ⟨w.heap.size, 2, none⟩ = some ((.string d0)) := by go_simp
  have z2 : (w.alloc (.cells #[(.int .i64 k), (.int .i64 st), (.string d0)] 23)).frozen? ⟨w.heap.size, 2, none⟩ = false := by go_simp
  have BA : Below w.heap.size w (w.alloc (.cells #[(.int .i64 k), (.int .i64 st), (.string d0)] 23)) := below_alloc _ _
  generalize (w.alloc (.cells #[(.int .i64 k), (.int .i64 st), (.string d0)] 23)) = U at *
  refine (S0.out _ (HL.out.on BA)).mono ?_; rintro e w1 ⟨rfl, hb⟩
  have y0 := (hb.cell (blt x0)).trans x0
  have v0 := (hb.frozen (blt x0)).trans z0
  have y1 := (hb.cell (blt x1)).trans x1
  have v1 := (hb.frozen (blt x1)).trans z1
  have y2 := (hb.cell (blt x2)).trans x2
  have v2 := (hb.frozen (blt x2)).trans z2
  have BB := Lib.hid (btr BA hb)
  clear hb BA x0 z0 x1 z1 x2 z2
  go_wp2_with fail
  refine (CU.out _ _ (World.alloc_heap_new w1 _)).mono ?_; rintro e w2 ⟨g, cp, rfl, g0, g1, g2, hb⟩
  replace hb : Below w1.heap.size w1 w2 := (below_alloc w1 (.cells #[(.int .i64 k), (.int .i64 st), (.string d0)] 23)).trans (hb.mono (by simp))
  have x0 := (hb.cell (blt y0)).trans y0
  have z0 := (hb.frozen (blt y0)).trans v0
  have x1 := (hb.cell (blt y1)).trans y1
  have z1 := (hb.frozen (blt y1)).trans v1
  have x2 := (hb.cell (blt y2)).trans y2
  have z2 := (hb.frozen (blt y2)).trans v2
  have BC := Lib.hid (btr BB.out hb)
  clear hb BB y0 v0 y1 v1 y2 v2
  go_wp2_with fail
  have q0 : (((w2.setCell ⟨w.heap.size, 0, none⟩ ((.int .i64 k))).setCell ⟨w.heap.size, 1, none⟩ ((.int .i64 st))).setCell ⟨w.heap.size, 2, none⟩ ((.string d))).cell? ⟨w.heap.size, 0, none⟩ = some ((.int .i64 k)) := by go_simp
  have q1 : (((w2.setCell ⟨w.heap.size, 0, none⟩ ((.int .i64 k))).setCell ⟨w.heap.size, 1, none⟩ ((.int .i64 st))).setCell ⟨w.heap.size, 2, none⟩ ((.string d))).cell? ⟨w.heap.size, 1, none⟩ = some ((.int .i64 st)) := by go_simp
  have q2 : (((w2.setCell ⟨w.heap.size, 0, none⟩ ((.int .i64 k))).setCell ⟨w.heap.size, 1, none⟩ ((.int .i64 st))).setCell ⟨w.heap.size, 2, none⟩ ((.string d))).cell? ⟨w.heap.size, 2, none⟩ = some ((.string d)) := by go_simp
  have BD : Below w.heap.size w (((w2.setCell ⟨w.heap.size, 0, none⟩ ((.int .i64 k))).setCell ⟨w.heap.size, 1, none⟩ ((.int .i64 st))).setCell ⟨w.heap.size, 2, none⟩ ((.string d))) := by repeat' (first | exact BC.out | refine Below.setCell ?_ ?_ _ | (dsimp only; omega))
  clear BC x0 z0 g0 x1 z1 g1 x2 z2 g2
  generalize (((w2.setCell ⟨w.heap.size, 0, none⟩ ((.int .i64 k))).setCell ⟨w.heap.size, 1, none⟩ ((.int .i64 st))).setCell ⟨w.heap.size, 2, none⟩ ((.string d))) = U2 at *
  have B2 := Lib.hid BD
  clear BD
  have KK0 := Lib.hid (show ∀ W, Below U2.heap.size U2 W → W.cell? ⟨w.heap.size, 0, none⟩ = some ((.int .i64 k)) ∧ W.cell? ⟨w.heap.size, 1, none⟩ = some ((.int .i64 st)) ∧ W.cell? ⟨w.heap.size, 2, none⟩ = some ((.string d)) from fun W h => ⟨(h.cell (p := ⟨w.heap.size, 0, none⟩) (blt q0)).trans q0, (h.cell (p := ⟨w.heap.size, 1, none⟩) (blt q1)).trans q1, (h.cell (p := ⟨w.heap.size, 2, none⟩) (blt q2)).trans q2⟩)
  have C0_2 := Lib.hid (Below.refl U2.heap.size U2)
  refine (C2.out _).mono ?_; rintro e w3 ⟨rfl, hb⟩
  have B3 : RowKit.Hid (Below w.heap.size w w3) := Lib.hid (btr B2.out hb)
  have C0_3 : RowKit.Hid (Below U2.heap.size U2 w3) := Lib.hid (btr C0_2.out hb)
  clear q0 q1 q2 hb
  obtain ⟨f3_0_0, f3_0_1, f3_0_2⟩ := KK0.out w3 C0_3.out
  go_wp2_with fail
  refine (C3.out _).mono ?_; rintro e w4 ⟨rfl, hb⟩
  have B4 : RowKit.Hid (Below w.heap.size w w4) := Lib.hid (btr B3.out hb)
  have C0_4 : RowKit.Hid (Below U2.heap.size U2 w4) := Lib.hid (btr C0_3.out hb)
  clear f3_0_0 f3_0_1 f3_0_2 hb
  obtain ⟨f4_0_0, f4_0_1, f4_0_2⟩ := KK0.out w4 C0_4.out
  go_wp2_with fail
  refine (E1.out _).mono ?_; rintro e w5 ⟨rfl, hb⟩
  have B5 : RowKit.Hid (Below w.heap.size w w5) := Lib.hid (btr B4.out hb)
  have C0_5 : RowKit.Hid (Below U2.heap.size U2 w5) := Lib.hid (btr C0_4.out hb)
  clear f4_0_0 f4_0_1 f4_0_2 hb
  obtain ⟨f5_0_0, f5_0_1, f5_0_2⟩ := KK0.out w5 C0_5.out
  go_wp2_with fail
  refine (T1.out _ (HL.out.on B5.out)).mono ?_; rintro e w6 ⟨rfl, hb⟩
  have B6 : RowKit.Hid (Below w.heap.size w (w6.alloc (.cells #[(.int .i64 k), (.int .i64 st), (.string d)] 23))) := Lib.hid (bal (btr B5.out hb) _)
  have C0_6 : RowKit.Hid (Below U2.heap.size U2 (w6.alloc (.cells #[(.int .i64 k), (.int .i64 st), (.string d)] 23))) := Lib.hid (bal (btr C0_5.out hb) _)
  clear f5_0_0 f5_0_1 f5_0_2 hb
  obtain ⟨f6_0_0, f6_0_1, f6_0_2⟩ := KK0.out (w6.alloc (.cells #[(.int .i64 k), (.int .i64 st), (.string d)] 23)) C0_6.out
  have f6_1_0 : (w6.alloc (.cells #[(.int .i64 k), (.int .i64 st), (.string d)] 23)).cell? ⟨w6.heap.size, 0, none⟩ = some ((.int .i64 k)) := by go_simp
  have f6_1_1 : (w6.alloc (.cells #[(.int .i64 k), (.int .i64 st), (.string d)] 23)).cell? ⟨w6.heap.size, 1, none⟩ = some ((.int .i64 st)) := by go_simp
  have f6_1_2 : (w6.alloc (.cells #[(.int .i64 k), (.int .i64 st), (.string d)] 23)).cell? ⟨w6.heap.size, 2, none⟩ = some ((.string d)) := by go_simp
  have KK1 := Lib.hid (show ∀ W, Below (w6.alloc (.cells #[(.int .i64 k), (.int .i64 st), (.string d)] 23)).heap.size (w6.alloc (.cells #[(.int .i64 k), (.int .i64 st), (.string d)] 23)) W → W.cell? ⟨w6.heap.size, 0, none⟩ = some ((.int .i64 k)) ∧ W.cell? ⟨w6.heap.size, 1, none⟩ = some ((.int .i64 st)) ∧ W.cell? ⟨w6.heap.size, 2, none⟩ = some ((.string d)) from fun W h => ⟨(h.cell (p := ⟨w6.heap.size, 0, none⟩) (blt f6_1_0)).trans f6_1_0, (h.cell (p := ⟨w6.heap.size, 1, none⟩) (blt f6_1_1)).trans f6_1_1, (h.cell (p := ⟨w6.heap.size, 2, none⟩) (blt f6_1_2)).trans f6_1_2⟩)
  have C1_6 := Lib.hid (Below.refl (w6.alloc (.cells #[(.int .i64 k), (.int .i64 st), (.string d)] 23)).heap.size (w6.alloc (.cells #[(.int .i64 k), (.int .i64 st), (.string d)] 23)))
  go_wp2_with fail
  refine (T2.out _ (HL.out.on B6.out)).mono ?_; rintro e w7 ⟨rfl, hb⟩
  have B7 : RowKit.Hid (Below w.heap.size w (w7.alloc (.cells #[(.int .i64 k2), (.int .i64 st2), (.string d2)] 23))) := Lib.hid (bal (btr B6.out hb) _)
  have C0_7 : RowKit.Hid (Below U2.heap.size U2 (w7.alloc (.cells #[(.int .i64 k2), (.int .i64 st2), (.string d2)] 23))) := Lib.hid (bal (btr C0_6.out hb) _)
  have C1_7 : RowKit.Hid (Below (w6.alloc (.cells #[(.int .i64 k), (.int .i64 st), (.string d)] 23)).heap.size (w6.alloc (.cells #[(.int .i64 k), (.int .i64 st), (.string d)] 23)) (w7.alloc (.cells #[(.int .i64 k2), (.int .i64 st2), (.string d2)] 23))) := Lib.hid (bal (btr C1_6.out hb) _)
  clear f6_0_0 f6_0_1 f6_0_2 f6_1_0 f6_1_1 f6_1_2 hb
  obtain ⟨f7_0_0, f7_0_1, f7_0_2⟩ := KK0.out (w7.alloc (.cells #[(.int .i64 k2), (.int .i64 st2), (.string d2)] 23)) C0_7.out
  obtain ⟨f7_1_0, f7_1_1, f7_1_2⟩ := KK1.out (w7.alloc (.cells #[(.int .i64 k2), (.int .i64 st2), (.string d2)] 23)) C1_7.out
  have f7_2_0 : (w7.alloc (.cells #[(.int .i64 k2), (.int .i64 st2), (.string d2)] 23)).cell? ⟨w7.heap.size, 0, none⟩ = some ((.int .i64 k2)) := by go_simp
  have f7_2_1 : (w7.alloc (.cells #[(.int .i64 k2), (.int .i64 st2), (.string d2)] 23)).cell? ⟨w7.heap.size, 1, none⟩ = some ((.int .i64 st2)) := by go_simp
  have f7_2_2 : (w7.alloc (.cells #[(.int .i64 k2), (.int .i64 st2), (.string d2)] 23)).cell? ⟨w7.heap.size, 2, none⟩ = some ((.string d2)) := by go_simp
  have KK2 := Lib.hid (show ∀ W, Below (w7.alloc (.cells #[(.int .i64 k2), (.int .i64 st2), (.string d2)] 23)).heap.size (w7.alloc (.cells #[(.int .i64 k2), (.int .i64 st2), (.string d2)] 23)) W → W.cell? ⟨w7.heap.size, 0, none⟩ = some ((.int .i64 k2)) ∧ W.cell? ⟨w7.heap.size, 1, none⟩ = some ((.int .i64 st2)) ∧ W.cell? ⟨w7.heap.size, 2, none⟩ = some ((.string d2)) from fun W h => ⟨(h.cell (p := ⟨w7.heap.size, 0, none⟩) (blt f7_2_0)).trans f7_2_0, (h.cell (p := ⟨w7.heap.size, 1, none⟩) (blt f7_2_1)).trans f7_2_1, (h.cell (p := ⟨w7.heap.size, 2, none⟩) (blt f7_2_2)).trans f7_2_2⟩)
  have C2_7 := Lib.hid (Below.refl (w7.alloc (.cells #[(.int .i64 k2), (.int .i64 st2), (.string d2)] 23)).heap.size (w7.alloc (.cells #[(.int .i64 k2), (.int .i64 st2), (.string d2)] 23)))
  go_wp2_with fail
  refine (E2.out _).mono ?_; rintro e w8 ⟨rfl, hb⟩
  have B8 : RowKit.Hid (Below w.heap.size w w8) := Lib.hid (btr B7.out hb)
  have C0_8 : RowKit.Hid (Below U2.heap.size U2 w8) := Lib.hid (btr C0_7.out hb)
  have C1_8 : RowKit.Hid (Below (w6.alloc (.cells #[(.int .i64 k), (.int .i64 st), (.string d)] 23)).heap.size (w6.alloc (.cells #[(.int .i64 k), (.int .i64 st), (.string d)] 23)) w8) := Lib.hid (btr C1_7.out hb)
  have C2_8 : RowKit.Hid (Below (w7.alloc (.cells #[(.int .i64 k2), (.int .i64 st2), (.string d2)] 23)).heap.size (w7.alloc (.cells #[(.int .i64 k2), (.int .i64 st2), (.string d2)] 23)) w8) := Lib.hid (btr C2_7.out hb)
  clear f7_0_0 f7_0_1 f7_0_2 f7_1_0 f7_1_1 f7_1_2 f7_2_0 f7_2_1 f7_2_2 hb
  obtain ⟨f8_0_0, f8_0_1, f8_0_2⟩ := KK0.out w8 C0_8.out
  obtain ⟨f8_1_0, f8_1_1, f8_1_2⟩ := KK1.out w8 C1_8.out
  obtain ⟨f8_2_0, f8_2_1, f8_2_2⟩ := KK2.out w8 C2_8.out
  go_wp2_with (refine (R1.out _).mono ?_; rintro e w9 ⟨rfl, hb9⟩)
  go_ret
  exact ⟨ret_bool (by first | rfl | (simp <;> omega)), btr B8.out hb9⟩

set_option maxRecDepth 100000 in
set_option maxHeartbeats 8000000 in
theorem back_yn (k st : Int) (d0 d s0 s t0 t a u : ByteArray) (c2 : Int) (w : World) (hL : ErrT w) (S0 : Hid (∀ W, ErrT W → Calls Tryd.prog 10 #[] W fun x w' => x = .returned (.bool true) ∧ Below W.heap.size W w')) (CU : Hid (∀ b W, W.heap[b]? = some (.cells #[.int .i64 k, .int .i64 st, .string d0] 23 (0, 0)) → Calls Tryd.prog 11 #[.slice (some ⟨b, 0, none⟩) 1 1] W fun x w' => ∃ g c, x = .returned (.slice (some ⟨g, 0, none⟩) 1 c) ∧ w'.cell? ⟨g, 0, none⟩ = some (.int .i64 k) ∧ w'.cell? ⟨g, 1, none⟩ = some (.int .i64 st) ∧ w'.cell? ⟨g, 2, none⟩ = some (.string d) ∧ Below W.heap.size W w')) (C2 : Hid (∀ W, Calls Tryd.prog 12 #[.string s0] W fun x w' => x = .returned (.string s) ∧ Below W.heap.size W w'))
    (C3 : Hid (∀ W, Calls Tryd.prog 12 #[.string t0] W fun x w' => x = .returned (.string t) ∧ Below W.heap.size W w'))
    (E1 : Hid (∀ W, Calls Tryd.prog 13 #[.agg #[.int .i64 k, .int .i64 st, .string d]] W fun x w' => x = .returned (.tuple #[.string a, .int .i64 0]) ∧ Below W.heap.size W w'))
    (T1 : Hid (∀ W, ErrT W → Calls Tryd.prog 15 #[.string (s ++ a ++ t), .int .i64 (s.size : Int)] W fun x w' => x = .returned (.tuple #[.agg #[(.int .i64 k), (.int .i64 st), (.string d)], .int .i64 ((s.size : Int) + (a.size : Int)), .int .i64 0]) ∧ Below W.heap.size W w'))
    (T2 : Hid (∀ W, ErrT W → Calls Tryd.prog 15 #[.string t, .int .i64 0] W fun x w' => x = .returned (.tuple #[.agg #[(.int .i64 0), (.int .i64 0), (.string ⟨#[]⟩)], .int .i64 0, .int .i64 c2]) ∧ Below W.heap.size W w'))
    (E2 : Hid (∀ W, Calls Tryd.prog 13 #[.agg #[(.int .i64 0), (.int .i64 0), (.string ⟨#[]⟩)]] W fun x w' => x = .returned (.tuple #[.string u, .int .i64 33]) ∧ Below W.heap.size W w'))
    (R1 : Hid (∀ W, Calls Tryd.prog 19 #[.agg #[.int .i64 k, .int .i64 st, .string d]] W fun x w' => x = .returned (.bool true) ∧ Below W.heap.size W w'))
    (z1 : ¬ 9223372036854775807 < s.size + a.size) (z2 : ¬ 9223372036854775807 < s.size + a.size + t.size)
    (z3 : IntKind.i64.wrap ((s.size : Int) + (a.size : Int)) = (s.size : Int) + (a.size : Int))
    (_hc : (c2 == 0) = false) (hc' : (c2 != 0) = true) :
    Calls Tryd.prog 5 #[.agg #[.int .i64 k, .int .i64 st, .string d0], .string s0, .string t0] w fun x w' => x = .returned (.bool true) ∧ Below w.heap.size w w' := by
  have HL := Lib.hid hL
  clear hL
  go_enter Tryd.func5, Tryd.ntmps5
  go_wp2_with fail
  have x0 : (w.alloc (.cells #[(.int .i64 k), (.int .i64 st), (.string d0)] 23)).cell? ⟨w.heap.size, 0, none⟩ = some ((.int .i64 k)) := by go_simp
  have z0 : (w.alloc (.cells #[(.int .i64 k), (.int .i64 st), (.string d0)] 23)).frozen? ⟨w.heap.size, 0, none⟩ = false := by go_simp
  have x1 : (w.alloc (.cells #[(.int .i64 k), (.int .i64 st), (.string d0)] 23)).cell? ⟨w.heap.size, 1, none⟩ = some ((.int .i64 st)) := by go_simp
  have z1 : (w.alloc (.cells #[(.int .i64 k), (.int .i64 st), (.string d0)] 23)).frozen? ⟨w.heap.size, 1, none⟩ = false := by go_simp
  have x2 : (w.alloc (.cells #[(.int .i64 k), (.int .i64 st), (.string d0)] 23)).cell? ⟨w.heap.size, 2, none⟩ = some ((.string d0)) := by go_simp
  have z2 : (w.alloc (.cells #[(.int .i64 k), (.int .i64 st), (.string d0)] 23)).frozen? ⟨w.heap.size, 2, none⟩ = false := by go_simp
  have BA : Below w.heap.size w (w.alloc (.cells #[(.int .i64 k), (.int .i64 st), (.string d0)] 23)) := below_alloc _ _
  generalize (w.alloc (.cells #[(.int .i64 k), (.int .i64 st), (.string d0)] 23)) = U at *
  refine (S0.out _ (HL.out.on BA)).mono ?_; rintro e w1 ⟨rfl, hb⟩
  have y0 := (hb.cell (blt x0)).trans x0
  have v0 := (hb.frozen (blt x0)).trans z0
  have y1 := (hb.cell (blt x1)).trans x1
  have v1 := (hb.frozen (blt x1)).trans z1
  have y2 := (hb.cell (blt x2)).trans x2
  have v2 := (hb.frozen (blt x2)).trans z2
  have BB := Lib.hid (btr BA hb)
  clear hb BA x0 z0 x1 z1 x2 z2
  go_wp2_with fail
  refine (CU.out _ _ (World.alloc_heap_new w1 _)).mono ?_; rintro e w2 ⟨g, cp, rfl, g0, g1, g2, hb⟩
  replace hb : Below w1.heap.size w1 w2 := (below_alloc w1 (.cells #[(.int .i64 k), (.int .i64 st), (.string d0)] 23)).trans (hb.mono (by simp))
  have x0 := (hb.cell (blt y0)).trans y0
  have z0 := (hb.frozen (blt y0)).trans v0
  have x1 := (hb.cell (blt y1)).trans y1
  have z1 := (hb.frozen (blt y1)).trans v1
  have x2 := (hb.cell (blt y2)).trans y2
  have z2 := (hb.frozen (blt y2)).trans v2
  have BC := Lib.hid (btr BB.out hb)
  clear hb BB y0 v0 y1 v1 y2 v2
  go_wp2_with fail
  have q0 : (((w2.setCell ⟨w.heap.size, 0, none⟩ ((.int .i64 k))).setCell ⟨w.heap.size, 1, none⟩ ((.int .i64 st))).setCell ⟨w.heap.size, 2, none⟩ ((.string d))).cell? ⟨w.heap.size, 0, none⟩ = some ((.int .i64 k)) := by go_simp
  have q1 : (((w2.setCell ⟨w.heap.size, 0, none⟩ ((.int .i64 k))).setCell ⟨w.heap.size, 1, none⟩ ((.int .i64 st))).setCell ⟨w.heap.size, 2, none⟩ ((.string d))).cell? ⟨w.heap.size, 1, none⟩ = some ((.int .i64 st)) := by go_simp
  have q2 : (((w2.setCell ⟨w.heap.size, 0, none⟩ ((.int .i64 k))).setCell ⟨w.heap.size, 1, none⟩ ((.int .i64 st))).setCell ⟨w.heap.size, 2, none⟩ ((.string d))).cell? ⟨w.heap.size, 2, none⟩ = some ((.string d)) := by go_simp
  have BD : Below w.heap.size w (((w2.setCell ⟨w.heap.size, 0, none⟩ ((.int .i64 k))).setCell ⟨w.heap.size, 1, none⟩ ((.int .i64 st))).setCell ⟨w.heap.size, 2, none⟩ ((.string d))) := by repeat' (first | exact BC.out | refine Below.setCell ?_ ?_ _ | (dsimp only; omega))
  clear BC x0 z0 g0 x1 z1 g1 x2 z2 g2
  generalize (((w2.setCell ⟨w.heap.size, 0, none⟩ ((.int .i64 k))).setCell ⟨w.heap.size, 1, none⟩ ((.int .i64 st))).setCell ⟨w.heap.size, 2, none⟩ ((.string d))) = U2 at *
  have B2 := Lib.hid BD
  clear BD
  have KK0 := Lib.hid (show ∀ W, Below U2.heap.size U2 W → W.cell? ⟨w.heap.size, 0, none⟩ = some ((.int .i64 k)) ∧ W.cell? ⟨w.heap.size, 1, none⟩ = some ((.int .i64 st)) ∧ W.cell? ⟨w.heap.size, 2, none⟩ = some ((.string d)) from fun W h => ⟨(h.cell (p := ⟨w.heap.size, 0, none⟩) (blt q0)).trans q0, (h.cell (p := ⟨w.heap.size, 1, none⟩) (blt q1)).trans q1, (h.cell (p := ⟨w.heap.size, 2, none⟩) (blt q2)).trans q2⟩)
  have C0_2 := Lib.hid (Below.refl U2.heap.size U2)
  refine (C2.out _).mono ?_; rintro e w3 ⟨rfl, hb⟩
  have B3 : RowKit.Hid (Below w.heap.size w w3) := Lib.hid (btr B2.out hb)
  have C0_3 : RowKit.Hid (Below U2.heap.size U2 w3) := Lib.hid (btr C0_2.out hb)
  clear q0 q1 q2 hb
  obtain ⟨f3_0_0, f3_0_1, f3_0_2⟩ := KK0.out w3 C0_3.out
  go_wp2_with fail
  refine (C3.out _).mono ?_; rintro e w4 ⟨rfl, hb⟩
  have B4 : RowKit.Hid (Below w.heap.size w w4) := Lib.hid (btr B3.out hb)
  have C0_4 : RowKit.Hid (Below U2.heap.size U2 w4) := Lib.hid (btr C0_3.out hb)
  clear f3_0_0 f3_0_1 f3_0_2 hb
  obtain ⟨f4_0_0, f4_0_1, f4_0_2⟩ := KK0.out w4 C0_4.out
  go_wp2_with fail
  refine (E1.out _).mono ?_; rintro e w5 ⟨rfl, hb⟩
  have B5 : RowKit.Hid (Below w.heap.size w w5) := Lib.hid (btr B4.out hb)
  have C0_5 : RowKit.Hid (Below U2.heap.size U2 w5) := Lib.hid (btr C0_4.out hb)
  clear f4_0_0 f4_0_1 f4_0_2 hb
  obtain ⟨f5_0_0, f5_0_1, f5_0_2⟩ := KK0.out w5 C0_5.out
  go_wp2_with fail
  refine (T1.out _ (HL.out.on B5.out)).mono ?_; rintro e w6 ⟨rfl, hb⟩
  have B6 : RowKit.Hid (Below w.heap.size w (w6.alloc (.cells #[(.int .i64 k), (.int .i64 st), (.string d)] 23))) := Lib.hid (bal (btr B5.out hb) _)
  have C0_6 : RowKit.Hid (Below U2.heap.size U2 (w6.alloc (.cells #[(.int .i64 k), (.int .i64 st), (.string d)] 23))) := Lib.hid (bal (btr C0_5.out hb) _)
  clear f5_0_0 f5_0_1 f5_0_2 hb
  obtain ⟨f6_0_0, f6_0_1, f6_0_2⟩ := KK0.out (w6.alloc (.cells #[(.int .i64 k), (.int .i64 st), (.string d)] 23)) C0_6.out
  have f6_1_0 : (w6.alloc (.cells #[(.int .i64 k), (.int .i64 st), (.string d)] 23)).cell? ⟨w6.heap.size, 0, none⟩ = some ((.int .i64 k)) := by go_simp
  have f6_1_1 : (w6.alloc (.cells #[(.int .i64 k), (.int .i64 st), (.string d)] 23)).cell? ⟨w6.heap.size, 1, none⟩ = some ((.int .i64 st)) := by go_simp
  have f6_1_2 : (w6.alloc (.cells #[(.int .i64 k), (.int .i64 st), (.string d)] 23)).cell? ⟨w6.heap.size, 2, none⟩ = some ((.string d)) := by go_simp
  have KK1 := Lib.hid (show ∀ W, Below (w6.alloc (.cells #[(.int .i64 k), (.int .i64 st), (.string d)] 23)).heap.size (w6.alloc (.cells #[(.int .i64 k), (.int .i64 st), (.string d)] 23)) W → W.cell? ⟨w6.heap.size, 0, none⟩ = some ((.int .i64 k)) ∧ W.cell? ⟨w6.heap.size, 1, none⟩ = some ((.int .i64 st)) ∧ W.cell? ⟨w6.heap.size, 2, none⟩ = some ((.string d)) from fun W h => ⟨(h.cell (p := ⟨w6.heap.size, 0, none⟩) (blt f6_1_0)).trans f6_1_0, (h.cell (p := ⟨w6.heap.size, 1, none⟩) (blt f6_1_1)).trans f6_1_1, (h.cell (p := ⟨w6.heap.size, 2, none⟩) (blt f6_1_2)).trans f6_1_2⟩)
  have C1_6 := Lib.hid (Below.refl (w6.alloc (.cells #[(.int .i64 k), (.int .i64 st), (.string d)] 23)).heap.size (w6.alloc (.cells #[(.int .i64 k), (.int .i64 st), (.string d)] 23)))
  go_wp2_with fail
  refine (T2.out _ (HL.out.on B6.out)).mono ?_; rintro e w7 ⟨rfl, hb⟩
  have B7 : RowKit.Hid (Below w.heap.size w (w7.alloc (.cells #[(.int .i64 0), (.int .i64 0), (.string ⟨#[]⟩)] 23))) := Lib.hid (bal (btr B6.out hb) _)
  have C0_7 : RowKit.Hid (Below U2.heap.size U2 (w7.alloc (.cells #[(.int .i64 0), (.int .i64 0), (.string ⟨#[]⟩)] 23))) := Lib.hid (bal (btr C0_6.out hb) _)
  have C1_7 : RowKit.Hid (Below (w6.alloc (.cells #[(.int .i64 k), (.int .i64 st), (.string d)] 23)).heap.size (w6.alloc (.cells #[(.int .i64 k), (.int .i64 st), (.string d)] 23)) (w7.alloc (.cells #[(.int .i64 0), (.int .i64 0), (.string ⟨#[]⟩)] 23))) := Lib.hid (bal (btr C1_6.out hb) _)
  clear f6_0_0 f6_0_1 f6_0_2 f6_1_0 f6_1_1 f6_1_2 hb
  obtain ⟨f7_0_0, f7_0_1, f7_0_2⟩ := KK0.out (w7.alloc (.cells #[(.int .i64 0), (.int .i64 0), (.string ⟨#[]⟩)] 23)) C0_7.out
  obtain ⟨f7_1_0, f7_1_1, f7_1_2⟩ := KK1.out (w7.alloc (.cells #[(.int .i64 0), (.int .i64 0), (.string ⟨#[]⟩)] 23)) C1_7.out
  have f7_2_0 : (w7.alloc (.cells #[(.int .i64 0), (.int .i64 0), (.string ⟨#[]⟩)] 23)).cell? ⟨w7.heap.size, 0, none⟩ = some ((.int .i64 0)) := by go_simp
  have f7_2_1 : (w7.alloc (.cells #[(.int .i64 0), (.int .i64 0), (.string ⟨#[]⟩)] 23)).cell? ⟨w7.heap.size, 1, none⟩ = some ((.int .i64 0)) := by go_simp
  have f7_2_2 : (w7.alloc (.cells #[(.int .i64 0), (.int .i64 0), (.string ⟨#[]⟩)] 23)).cell? ⟨w7.heap.size, 2, none⟩ = some ((.string ⟨#[]⟩)) := by go_simp
  have KK2 := Lib.hid (show ∀ W, Below (w7.alloc (.cells #[(.int .i64 0), (.int .i64 0), (.string ⟨#[]⟩)] 23)).heap.size (w7.alloc (.cells #[(.int .i64 0), (.int .i64 0), (.string ⟨#[]⟩)] 23)) W → W.cell? ⟨w7.heap.size, 0, none⟩ = some ((.int .i64 0)) ∧ W.cell? ⟨w7.heap.size, 1, none⟩ = some ((.int .i64 0)) ∧ W.cell? ⟨w7.heap.size, 2, none⟩ = some ((.string ⟨#[]⟩)) from fun W h => ⟨(h.cell (p := ⟨w7.heap.size, 0, none⟩) (blt f7_2_0)).trans f7_2_0, (h.cell (p := ⟨w7.heap.size, 1, none⟩) (blt f7_2_1)).trans f7_2_1, (h.cell (p := ⟨w7.heap.size, 2, none⟩) (blt f7_2_2)).trans f7_2_2⟩)
  have C2_7 := Lib.hid (Below.refl (w7.alloc (.cells #[(.int .i64 0), (.int .i64 0), (.string ⟨#[]⟩)] 23)).heap.size (w7.alloc (.cells #[(.int .i64 0), (.int .i64 0), (.string ⟨#[]⟩)] 23)))
  go_wp2_with fail
  refine (E2.out _).mono ?_; rintro e w8 ⟨rfl, hb⟩
  have B8 : RowKit.Hid (Below w.heap.size w w8) := Lib.hid (btr B7.out hb)
  have C0_8 : RowKit.Hid (Below U2.heap.size U2 w8) := Lib.hid (btr C0_7.out hb)
  have C1_8 : RowKit.Hid (Below (w6.alloc (.cells #[(.int .i64 k), (.int .i64 st), (.string d)] 23)).heap.size (w6.alloc (.cells #[(.int .i64 k), (.int .i64 st), (.string d)] 23)) w8) := Lib.hid (btr C1_7.out hb)
  have C2_8 : RowKit.Hid (Below (w7.alloc (.cells #[(.int .i64 0), (.int .i64 0), (.string ⟨#[]⟩)] 23)).heap.size (w7.alloc (.cells #[(.int .i64 0), (.int .i64 0), (.string ⟨#[]⟩)] 23)) w8) := Lib.hid (btr C2_7.out hb)
  clear f7_0_0 f7_0_1 f7_0_2 f7_1_0 f7_1_1 f7_1_2 f7_2_0 f7_2_1 f7_2_2 hb
  obtain ⟨f8_0_0, f8_0_1, f8_0_2⟩ := KK0.out w8 C0_8.out
  obtain ⟨f8_1_0, f8_1_1, f8_1_2⟩ := KK1.out w8 C1_8.out
  obtain ⟨f8_2_0, f8_2_1, f8_2_2⟩ := KK2.out w8 C2_8.out
  go_wp2_with (refine (R1.out _).mono ?_; rintro e w9 ⟨rfl, hb9⟩)
  go_ret
  exact ⟨ret_bool (by first | rfl | (simp <;> omega)), btr B8.out hb9⟩

set_option maxRecDepth 100000 in
set_option maxHeartbeats 8000000 in
theorem back_ny (k st : Int) (d0 d s0 s t0 t a u : ByteArray) (k1 st1 n1 h1 : Int) (d1 : ByteArray) (k2 st2 n2 : Int) (d2 : ByteArray) (w : World) (hL : ErrT w) (S0 : Hid (∀ W, ErrT W → Calls Tryd.prog 10 #[] W fun x w' => x = .returned (.bool true) ∧ Below W.heap.size W w')) (CU : Hid (∀ b W, W.heap[b]? = some (.cells #[.int .i64 k, .int .i64 st, .string d0] 23 (0, 0)) → Calls Tryd.prog 11 #[.slice (some ⟨b, 0, none⟩) 1 1] W fun x w' => ∃ g c, x = .returned (.slice (some ⟨g, 0, none⟩) 1 c) ∧ w'.cell? ⟨g, 0, none⟩ = some (.int .i64 k) ∧ w'.cell? ⟨g, 1, none⟩ = some (.int .i64 st) ∧ w'.cell? ⟨g, 2, none⟩ = some (.string d) ∧ Below W.heap.size W w')) (C2 : Hid (∀ W, Calls Tryd.prog 12 #[.string s0] W fun x w' => x = .returned (.string s) ∧ Below W.heap.size W w'))
    (C3 : Hid (∀ W, Calls Tryd.prog 12 #[.string t0] W fun x w' => x = .returned (.string t) ∧ Below W.heap.size W w'))
    (E1 : Hid (∀ W, Calls Tryd.prog 13 #[.agg #[.int .i64 k, .int .i64 st, .string d]] W fun x w' => x = .returned (.tuple #[.string a, .int .i64 33]) ∧ Below W.heap.size W w'))
    (T1 : Hid (∀ W, ErrT W → Calls Tryd.prog 15 #[.string (s ++ a ++ t), .int .i64 (s.size : Int)] W fun x w' => x = .returned (.tuple #[.agg #[(.int .i64 k1), (.int .i64 st1), (.string d1)], .int .i64 n1, .int .i64 h1]) ∧ Below W.heap.size W w'))
    (T2 : Hid (∀ W, ErrT W → Calls Tryd.prog 15 #[.string t, .int .i64 0] W fun x w' => x = .returned (.tuple #[.agg #[(.int .i64 k2), (.int .i64 st2), (.string d2)], .int .i64 n2, .int .i64 0]) ∧ Below W.heap.size W w'))
    (E2 : Hid (∀ W, Calls Tryd.prog 13 #[.agg #[(.int .i64 k2), (.int .i64 st2), (.string d2)]] W fun x w' => x = .returned (.tuple #[.string u, .int .i64 0]) ∧ Below W.heap.size W w'))
    (R1 : Hid (∀ W, Calls Tryd.prog 19 #[.agg #[.int .i64 k, .int .i64 st, .string d]] W fun x w' => x = .returned (.bool false) ∧ Below W.heap.size W w'))
    (z1 : ¬ 9223372036854775807 < s.size + a.size) (z2 : ¬ 9223372036854775807 < s.size + a.size + t.size)
    (n5 : 5 ≤ n2) (n6 : n2 ≤ (t.size : Int)) (SL : ∀ W, (Instr.slice 9 (.string t) none (some (.int .i64 n2)) none).run Tryd.prog W = .ok (.string u) W) :
    Calls Tryd.prog 5 #[.agg #[.int .i64 k, .int .i64 st, .string d0], .string s0, .string t0] w fun x w' => x = .returned (.bool true) ∧ Below w.heap.size w w' := by
  have HL := Lib.hid hL
  clear hL
  go_enter Tryd.func5, Tryd.ntmps5
  go_wp2_with fail
  have x0 : (w.alloc (.cells #[(.int .i64 k), (.int .i64 st), (.string d0)] 23)).cell? ⟨w.heap.size, 0, none⟩ = some ((.int .i64 k)) := by go_simp
  have z0 : (w.alloc (.cells #[(.int .i64 k), (.int .i64 st), (.string d0)] 23)).frozen? ⟨w.heap.size, 0, none⟩ = false := by go_simp
  have x1 : (w.alloc (.cells #[(.int .i64 k), (.int .i64 st), (.string d0)] 23)).cell? ⟨w.heap.size, 1, none⟩ = some ((.int .i64 st)) := by go_simp
  have z1 : (w.alloc (.cells #[(.int .i64 k), (.int .i64 st), (.string d0)] 23)).frozen? ⟨w.heap.size, 1, none⟩ = false := by go_simp
  have x2 : (w.alloc (.cells #[(.int .i64 k), (.int .i64 st), (.string d0)] 23)).cell? ⟨w.heap.size, 2, none⟩ = some ((.string d0)) := by go_simp
  have z2 : (w.alloc (.cells #[(.int .i64 k), (.int .i64 st), (.string d0)] 23)).frozen? ⟨w.heap.size, 2, none⟩ = false := by go_simp
  have BA : Below w.heap.size w (w.alloc (.cells #[(.int .i64 k), (.int .i64 st), (.string d0)] 23)) := below_alloc _ _
  generalize (w.alloc (.cells #[(.int .i64 k), (.int .i64 st), (.string d0)] 23)) = U at *
  refine (S0.out _ (HL.out.on BA)).mono ?_; rintro e w1 ⟨rfl, hb⟩
  have y0 := (hb.cell (blt x0)).trans x0
  have v0 := (hb.frozen (blt x0)).trans z0
  have y1 := (hb.cell (blt x1)).trans x1
  have v1 := (hb.frozen (blt x1)).trans z1
  have y2 := (hb.cell (blt x2)).trans x2
  have v2 := (hb.frozen (blt x2)).trans z2
  have BB := Lib.hid (btr BA hb)
  clear hb BA x0 z0 x1 z1 x2 z2
  go_wp2_with fail
  refine (CU.out _ _ (World.alloc_heap_new w1 _)).mono ?_; rintro e w2 ⟨g, cp, rfl, g0, g1, g2, hb⟩
  replace hb : Below w1.heap.size w1 w2 := (below_alloc w1 (.cells #[(.int .i64 k), (.int .i64 st), (.string d0)] 23)).trans (hb.mono (by simp))
  have x0 := (hb.cell (blt y0)).trans y0
  have z0 := (hb.frozen (blt y0)).trans v0
  have x1 := (hb.cell (blt y1)).trans y1
  have z1 := (hb.frozen (blt y1)).trans v1
  have x2 := (hb.cell (blt y2)).trans y2
  have z2 := (hb.frozen (blt y2)).trans v2
  have BC := Lib.hid (btr BB.out hb)
  clear hb BB y0 v0 y1 v1 y2 v2
  go_wp2_with fail
  have q0 : (((w2.setCell ⟨w.heap.size, 0, none⟩ ((.int .i64 k))).setCell ⟨w.heap.size, 1, none⟩ ((.int .i64 st))).setCell ⟨w.heap.size, 2, none⟩ ((.string d))).cell? ⟨w.heap.size, 0, none⟩ = some ((.int .i64 k)) := by go_simp
  have q1 : (((w2.setCell ⟨w.heap.size, 0, none⟩ ((.int .i64 k))).setCell ⟨w.heap.size, 1, none⟩ ((.int .i64 st))).setCell ⟨w.heap.size, 2, none⟩ ((.string d))).cell? ⟨w.heap.size, 1, none⟩ = some ((.int .i64 st)) := by go_simp
  have q2 : (((w2.setCell ⟨w.heap.size, 0, none⟩ ((.int .i64 k))).setCell ⟨w.heap.size, 1, none⟩ ((.int .i64 st))).setCell ⟨w.heap.size, 2, none⟩ ((.string d))).cell? ⟨w.heap.size, 2, none⟩ = some ((.string d)) := by go_simp
  have BD : Below w.heap.size w (((w2.setCell ⟨w.heap.size, 0, none⟩ ((.int .i64 k))).setCell ⟨w.heap.size, 1, none⟩ ((.int .i64 st))).setCell ⟨w.heap.size, 2, none⟩ ((.string d))) := by repeat' (first | exact BC.out | refine Below.setCell ?_ ?_ _ | (dsimp only; omega))
  clear BC x0 z0 g0 x1 z1 g1 x2 z2 g2
  generalize (((w2.setCell ⟨w.heap.size, 0, none⟩ ((.int .i64 k))).setCell ⟨w.heap.size, 1, none⟩ ((.int .i64 st))).setCell ⟨w.heap.size, 2, none⟩ ((.string d))) = U2 at *
  have B2 := Lib.hid BD
  clear BD
  have KK0 := Lib.hid (show ∀ W, Below U2.heap.size U2 W → W.cell? ⟨w.heap.size, 0, none⟩ = some ((.int .i64 k)) ∧ W.cell? ⟨w.heap.size, 1, none⟩ = some ((.int .i64 st)) ∧ W.cell? ⟨w.heap.size, 2, none⟩ = some ((.string d)) from fun W h => ⟨(h.cell (p := ⟨w.heap.size, 0, none⟩) (blt q0)).trans q0, (h.cell (p := ⟨w.heap.size, 1, none⟩) (blt q1)).trans q1, (h.cell (p := ⟨w.heap.size, 2, none⟩) (blt q2)).trans q2⟩)
  have C0_2 := Lib.hid (Below.refl U2.heap.size U2)
  refine (C2.out _).mono ?_; rintro e w3 ⟨rfl, hb⟩
  have B3 : RowKit.Hid (Below w.heap.size w w3) := Lib.hid (btr B2.out hb)
  have C0_3 : RowKit.Hid (Below U2.heap.size U2 w3) := Lib.hid (btr C0_2.out hb)
  clear q0 q1 q2 hb
  obtain ⟨f3_0_0, f3_0_1, f3_0_2⟩ := KK0.out w3 C0_3.out
  go_wp2_with fail
  refine (C3.out _).mono ?_; rintro e w4 ⟨rfl, hb⟩
  have B4 : RowKit.Hid (Below w.heap.size w w4) := Lib.hid (btr B3.out hb)
  have C0_4 : RowKit.Hid (Below U2.heap.size U2 w4) := Lib.hid (btr C0_3.out hb)
  clear f3_0_0 f3_0_1 f3_0_2 hb
  obtain ⟨f4_0_0, f4_0_1, f4_0_2⟩ := KK0.out w4 C0_4.out
  go_wp2_with fail
  refine (E1.out _).mono ?_; rintro e w5 ⟨rfl, hb⟩
  have B5 : RowKit.Hid (Below w.heap.size w w5) := Lib.hid (btr B4.out hb)
  have C0_5 : RowKit.Hid (Below U2.heap.size U2 w5) := Lib.hid (btr C0_4.out hb)
  clear f4_0_0 f4_0_1 f4_0_2 hb
  obtain ⟨f5_0_0, f5_0_1, f5_0_2⟩ := KK0.out w5 C0_5.out
  go_wp2_with fail
  refine (T1.out _ (HL.out.on B5.out)).mono ?_; rintro e w6 ⟨rfl, hb⟩
  have B6 : RowKit.Hid (Below w.heap.size w (w6.alloc (.cells #[(.int .i64 k1), (.int .i64 st1), (.string d1)] 23))) := Lib.hid (bal (btr B5.out hb) _)
  have C0_6 : RowKit.Hid (Below U2.heap.size U2 (w6.alloc (.cells #[(.int .i64 k1), (.int .i64 st1), (.string d1)] 23))) := Lib.hid (bal (btr C0_5.out hb) _)
  clear f5_0_0 f5_0_1 f5_0_2 hb
  obtain ⟨f6_0_0, f6_0_1, f6_0_2⟩ := KK0.out (w6.alloc (.cells #[(.int .i64 k1), (.int .i64 st1), (.string d1)] 23)) C0_6.out
  have f6_1_0 : (w6.alloc (.cells #[(.int .i64 k1), (.int .i64 st1), (.string d1)] 23)).cell? ⟨w6.heap.size, 0, none⟩ = some ((.int .i64 k1)) := by go_simp
  have f6_1_1 : (w6.alloc (.cells #[(.int .i64 k1), (.int .i64 st1), (.string d1)] 23)).cell? ⟨w6.heap.size, 1, none⟩ = some ((.int .i64 st1)) := by go_simp
  have f6_1_2 : (w6.alloc (.cells #[(.int .i64 k1), (.int .i64 st1), (.string d1)] 23)).cell? ⟨w6.heap.size, 2, none⟩ = some ((.string d1)) := by go_simp
  have KK1 := Lib.hid (show ∀ W, Below (w6.alloc (.cells #[(.int .i64 k1), (.int .i64 st1), (.string d1)] 23)).heap.size (w6.alloc (.cells #[(.int .i64 k1), (.int .i64 st1), (.string d1)] 23)) W → W.cell? ⟨w6.heap.size, 0, none⟩ = some ((.int .i64 k1)) ∧ W.cell? ⟨w6.heap.size, 1, none⟩ = some ((.int .i64 st1)) ∧ W.cell? ⟨w6.heap.size, 2, none⟩ = some ((.string d1)) from fun W h => ⟨(h.cell (p := ⟨w6.heap.size, 0, none⟩) (blt f6_1_0)).trans f6_1_0, (h.cell (p := ⟨w6.heap.size, 1, none⟩) (blt f6_1_1)).trans f6_1_1, (h.cell (p := ⟨w6.heap.size, 2, none⟩) (blt f6_1_2)).trans f6_1_2⟩)
  have C1_6 := Lib.hid (Below.refl (w6.alloc (.cells #[(.int .i64 k1), (.int .i64 st1), (.string d1)] 23)).heap.size (w6.alloc (.cells #[(.int .i64 k1), (.int .i64 st1), (.string d1)] 23)))
  go_wp2_with fail
  refine (T2.out _ (HL.out.on B6.out)).mono ?_; rintro e w7 ⟨rfl, hb⟩
  have B7 : RowKit.Hid (Below w.heap.size w (w7.alloc (.cells #[(.int .i64 k2), (.int .i64 st2), (.string d2)] 23))) := Lib.hid (bal (btr B6.out hb) _)
  have C0_7 : RowKit.Hid (Below U2.heap.size U2 (w7.alloc (.cells #[(.int .i64 k2), (.int .i64 st2), (.string d2)] 23))) := Lib.hid (bal (btr C0_6.out hb) _)
  have C1_7 : RowKit.Hid (Below (w6.alloc (.cells #[(.int .i64 k1), (.int .i64 st1), (.string d1)] 23)).heap.size (w6.alloc (.cells #[(.int .i64 k1), (.int .i64 st1), (.string d1)] 23)) (w7.alloc (.cells #[(.int .i64 k2), (.int .i64 st2), (.string d2)] 23))) := Lib.hid (bal (btr C1_6.out hb) _)
  clear f6_0_0 f6_0_1 f6_0_2 f6_1_0 f6_1_1 f6_1_2 hb
  obtain ⟨f7_0_0, f7_0_1, f7_0_2⟩ := KK0.out (w7.alloc (.cells #[(.int .i64 k2), (.int .i64 st2), (.string d2)] 23)) C0_7.out
  obtain ⟨f7_1_0, f7_1_1, f7_1_2⟩ := KK1.out (w7.alloc (.cells #[(.int .i64 k2), (.int .i64 st2), (.string d2)] 23)) C1_7.out
  have f7_2_0 : (w7.alloc (.cells #[(.int .i64 k2), (.int .i64 st2), (.string d2)] 23)).cell? ⟨w7.heap.size, 0, none⟩ = some ((.int .i64 k2)) := by go_simp
  have f7_2_1 : (w7.alloc (.cells #[(.int .i64 k2), (.int .i64 st2), (.string d2)] 23)).cell? ⟨w7.heap.size, 1, none⟩ = some ((.int .i64 st2)) := by go_simp
  have f7_2_2 : (w7.alloc (.cells #[(.int .i64 k2), (.int .i64 st2), (.string d2)] 23)).cell? ⟨w7.heap.size, 2, none⟩ = some ((.string d2)) := by go_simp
  have KK2 := Lib.hid (show ∀ W, Below (w7.alloc (.cells #[(.int .i64 k2), (.int .i64 st2), (.string d2)] 23)).heap.size (w7.alloc (.cells #[(.int .i64 k2), (.int .i64 st2), (.string d2)] 23)) W → W.cell? ⟨w7.heap.size, 0, none⟩ = some ((.int .i64 k2)) ∧ W.cell? ⟨w7.heap.size, 1, none⟩ = some ((.int .i64 st2)) ∧ W.cell? ⟨w7.heap.size, 2, none⟩ = some ((.string d2)) from fun W h => ⟨(h.cell (p := ⟨w7.heap.size, 0, none⟩) (blt f7_2_0)).trans f7_2_0, (h.cell (p := ⟨w7.heap.size, 1, none⟩) (blt f7_2_1)).trans f7_2_1, (h.cell (p := ⟨w7.heap.size, 2, none⟩) (blt f7_2_2)).trans f7_2_2⟩)
  have C2_7 := Lib.hid (Below.refl (w7.alloc (.cells #[(.int .i64 k2), (.int .i64 st2), (.string d2)] 23)).heap.size (w7.alloc (.cells #[(.int .i64 k2), (.int .i64 st2), (.string d2)] 23)))
  go_wp2_with fail
  refine (E2.out _).mono ?_; rintro e w8 ⟨rfl, hb⟩
  have B8 : RowKit.Hid (Below w.heap.size w w8) := Lib.hid (btr B7.out hb)
  have C0_8 : RowKit.Hid (Below U2.heap.size U2 w8) := Lib.hid (btr C0_7.out hb)
  have C1_8 : RowKit.Hid (Below (w6.alloc (.cells #[(.int .i64 k1), (.int .i64 st1), (.string d1)] 23)).heap.size (w6.alloc (.cells #[(.int .i64 k1), (.int .i64 st1), (.string d1)] 23)) w8) := Lib.hid (btr C1_7.out hb)
  have C2_8 : RowKit.Hid (Below (w7.alloc (.cells #[(.int .i64 k2), (.int .i64 st2), (.string d2)] 23)).heap.size (w7.alloc (.cells #[(.int .i64 k2), (.int .i64 st2), (.string d2)] 23)) w8) := Lib.hid (btr C2_7.out hb)
  clear f7_0_0 f7_0_1 f7_0_2 f7_1_0 f7_1_1 f7_1_2 f7_2_0 f7_2_1 f7_2_2 hb
  obtain ⟨f8_0_0, f8_0_1, f8_0_2⟩ := KK0.out w8 C0_8.out
  obtain ⟨f8_1_0, f8_1_1, f8_1_2⟩ := KK1.out w8 C1_8.out
  obtain ⟨f8_2_0, f8_2_1, f8_2_2⟩ := KK2.out w8 C2_8.out
  go_wp2_with (refine (R1.out _).mono ?_; rintro e w9 ⟨rfl, hb9⟩)
  go_ret
  exact ⟨ret_bool (by first | rfl | (simp <;> omega)), btr B8.out hb9⟩

set_option maxRecDepth 100000 in
set_option maxHeartbeats 8000000 in
theorem back_nn (k st : Int) (d0 d s0 s t0 t a u : ByteArray) (k1 st1 n1 h1 : Int) (d1 : ByteArray) (c2 : Int) (w : World) (hL : ErrT w) (S0 : Hid (∀ W, ErrT W → Calls Tryd.prog 10 #[] W fun x w' => x = .returned (.bool true) ∧ Below W.heap.size W w')) (CU : Hid (∀ b W, W.heap[b]? = some (.cells #[.int .i64 k, .int .i64 st, .string d0] 23 (0, 0)) → Calls Tryd.prog 11 #[.slice (some ⟨b, 0, none⟩) 1 1] W fun x w' => ∃ g c, x = .returned (.slice (some ⟨g, 0, none⟩) 1 c) ∧ w'.cell? ⟨g, 0, none⟩ = some (.int .i64 k) ∧ w'.cell? ⟨g, 1, none⟩ = some (.int .i64 st) ∧ w'.cell? ⟨g, 2, none⟩ = some (.string d) ∧ Below W.heap.size W w')) (C2 : Hid (∀ W, Calls Tryd.prog 12 #[.string s0] W fun x w' => x = .returned (.string s) ∧ Below W.heap.size W w'))
    (C3 : Hid (∀ W, Calls Tryd.prog 12 #[.string t0] W fun x w' => x = .returned (.string t) ∧ Below W.heap.size W w'))
    (E1 : Hid (∀ W, Calls Tryd.prog 13 #[.agg #[.int .i64 k, .int .i64 st, .string d]] W fun x w' => x = .returned (.tuple #[.string a, .int .i64 33]) ∧ Below W.heap.size W w'))
    (T1 : Hid (∀ W, ErrT W → Calls Tryd.prog 15 #[.string (s ++ a ++ t), .int .i64 (s.size : Int)] W fun x w' => x = .returned (.tuple #[.agg #[(.int .i64 k1), (.int .i64 st1), (.string d1)], .int .i64 n1, .int .i64 h1]) ∧ Below W.heap.size W w'))
    (T2 : Hid (∀ W, ErrT W → Calls Tryd.prog 15 #[.string t, .int .i64 0] W fun x w' => x = .returned (.tuple #[.agg #[(.int .i64 0), (.int .i64 0), (.string ⟨#[]⟩)], .int .i64 0, .int .i64 c2]) ∧ Below W.heap.size W w'))
    (E2 : Hid (∀ W, Calls Tryd.prog 13 #[.agg #[(.int .i64 0), (.int .i64 0), (.string ⟨#[]⟩)]] W fun x w' => x = .returned (.tuple #[.string u, .int .i64 33]) ∧ Below W.heap.size W w'))
    (R1 : Hid (∀ W, Calls Tryd.prog 19 #[.agg #[.int .i64 k, .int .i64 st, .string d]] W fun x w' => x = .returned (.bool false) ∧ Below W.heap.size W w'))
    (z1 : ¬ 9223372036854775807 < s.size + a.size) (z2 : ¬ 9223372036854775807 < s.size + a.size + t.size)
    (_hc : (c2 == 0) = false) (hc' : (c2 != 0) = true) :
    Calls Tryd.prog 5 #[.agg #[.int .i64 k, .int .i64 st, .string d0], .string s0, .string t0] w fun x w' => x = .returned (.bool true) ∧ Below w.heap.size w w' := by
  have HL := Lib.hid hL
  clear hL
  go_enter Tryd.func5, Tryd.ntmps5
  go_wp2_with fail
  have x0 : (w.alloc (.cells #[(.int .i64 k), (.int .i64 st), (.string d0)] 23)).cell? ⟨w.heap.size, 0, none⟩ = some ((.int .i64 k)) := by go_simp
  have z0 : (w.alloc (.cells #[(.int .i64 k), (.int .i64 st), (.string d0)] 23)).frozen? ⟨w.heap.size, 0, none⟩ = false := by go_simp
  have x1 : (w.alloc (.cells #[(.int .i64 k), (.int .i64 st), (.string d0)] 23)).cell? ⟨w.heap.size, 1, none⟩ = some ((.int .i64 st)) := by go_simp
  have z1 : (w.alloc (.cells #[(.int .i64 k), (.int .i64 st), (.string d0)] 23)).frozen? ⟨w.heap.size, 1, none⟩ = false := by go_simp
  have x2 : (w.alloc (.cells #[(.int .i64 k), (.int .i64 st), (.string d0)] 23)).cell? ⟨w.heap.size, 2, none⟩ = some ((.string d0)) := by go_simp
  have z2 : (w.alloc (.cells #[(.int .i64 k), (.int .i64 st), (.string d0)] 23)).frozen? ⟨w.heap.size, 2, none⟩ = false := by go_simp
  have BA : Below w.heap.size w (w.alloc (.cells #[(.int .i64 k), (.int .i64 st), (.string d0)] 23)) := below_alloc _ _
  generalize (w.alloc (.cells #[(.int .i64 k), (.int .i64 st), (.string d0)] 23)) = U at *
  refine (S0.out _ (HL.out.on BA)).mono ?_; rintro e w1 ⟨rfl, hb⟩
  have y0 := (hb.cell (blt x0)).trans x0
  have v0 := (hb.frozen (blt x0)).trans z0
  have y1 := (hb.cell (blt x1)).trans x1
  have v1 := (hb.frozen (blt x1)).trans z1
  have y2 := (hb.cell (blt x2)).trans x2
  have v2 := (hb.frozen (blt x2)).trans z2
  have BB := Lib.hid (btr BA hb)
  clear hb BA x0 z0 x1 z1 x2 z2
  go_wp2_with fail
  refine (CU.out _ _ (World.alloc_heap_new w1 _)).mono ?_; rintro e w2 ⟨g, cp, rfl, g0, g1, g2, hb⟩
  replace hb : Below w1.heap.size w1 w2 := (below_alloc w1 (.cells #[(.int .i64 k), (.int .i64 st), (.string d0)] 23)).trans (hb.mono (by simp))
  have x0 := (hb.cell (blt y0)).trans y0
  have z0 := (hb.frozen (blt y0)).trans v0
  have x1 := (hb.cell (blt y1)).trans y1
  have z1 := (hb.frozen (blt y1)).trans v1
  have x2 := (hb.cell (blt y2)).trans y2
  have z2 := (hb.frozen (blt y2)).trans v2
  have BC := Lib.hid (btr BB.out hb)
  clear hb BB y0 v0 y1 v1 y2 v2
  go_wp2_with fail
  have q0 : (((w2.setCell ⟨w.heap.size, 0, none⟩ ((.int .i64 k))).setCell ⟨w.heap.size, 1, none⟩ ((.int .i64 st))).setCell ⟨w.heap.size, 2, none⟩ ((.string d))).cell? ⟨w.heap.size, 0, none⟩ = some ((.int .i64 k)) := by go_simp
  have q1 : (((w2.setCell ⟨w.heap.size, 0, none⟩ ((.int .i64 k))).setCell ⟨w.heap.size, 1, none⟩ ((.int .i64 st))).setCell ⟨w.heap.size, 2, none⟩ ((.string d))).cell? ⟨w.heap.size, 1, none⟩ = some ((.int .i64 st)) := by go_simp
  have q2 : (((w2.setCell ⟨w.heap.size, 0, none⟩ ((.int .i64 k))).setCell ⟨w.heap.size, 1, none⟩ ((.int .i64 st))).setCell ⟨w.heap.size, 2, none⟩ ((.string d))).cell? ⟨w.heap.size, 2, none⟩ = some ((.string d)) := by go_simp
  have BD : Below w.heap.size w (((w2.setCell ⟨w.heap.size, 0, none⟩ ((.int .i64 k))).setCell ⟨w.heap.size, 1, none⟩ ((.int .i64 st))).setCell ⟨w.heap.size, 2, none⟩ ((.string d))) := by repeat' (first | exact BC.out | refine Below.setCell ?_ ?_ _ | (dsimp only; omega))
  clear BC x0 z0 g0 x1 z1 g1 x2 z2 g2
  generalize (((w2.setCell ⟨w.heap.size, 0, none⟩ ((.int .i64 k))).setCell ⟨w.heap.size, 1, none⟩ ((.int .i64 st))).setCell ⟨w.heap.size, 2, none⟩ ((.string d))) = U2 at *
  have B2 := Lib.hid BD
  clear BD
  have KK0 := Lib.hid (show ∀ W, Below U2.heap.size U2 W → W.cell? ⟨w.heap.size, 0, none⟩ = some ((.int .i64 k)) ∧ W.cell? ⟨w.heap.size, 1, none⟩ = some ((.int .i64 st)) ∧ W.cell? ⟨w.heap.size, 2, none⟩ = some ((.string d)) from fun W h => ⟨(h.cell (p := ⟨w.heap.size, 0, none⟩) (blt q0)).trans q0, (h.cell (p := ⟨w.heap.size, 1, none⟩) (blt q1)).trans q1, (h.cell (p := ⟨w.heap.size, 2, none⟩) (blt q2)).trans q2⟩)
  have C0_2 := Lib.hid (Below.refl U2.heap.size U2)
  refine (C2.out _).mono ?_; rintro e w3 ⟨rfl, hb⟩
  have B3 : RowKit.Hid (Below w.heap.size w w3) := Lib.hid (btr B2.out hb)
  have C0_3 : RowKit.Hid (Below U2.heap.size U2 w3) := Lib.hid (btr C0_2.out hb)
  clear q0 q1 q2 hb
  obtain ⟨f3_0_0, f3_0_1, f3_0_2⟩ := KK0.out w3 C0_3.out
  go_wp2_with fail
  refine (C3.out _).mono ?_; rintro e w4 ⟨rfl, hb⟩
  have B4 : RowKit.Hid (Below w.heap.size w w4) := Lib.hid (btr B3.out hb)
  have C0_4 : RowKit.Hid (Below U2.heap.size U2 w4) := Lib.hid (btr C0_3.out hb)
  clear f3_0_0 f3_0_1 f3_0_2 hb
  obtain ⟨f4_0_0, f4_0_1, f4_0_2⟩ := KK0.out w4 C0_4.out
  go_wp2_with fail
  refine (E1.out _).mono ?_; rintro e w5 ⟨rfl, hb⟩
  have B5 : RowKit.Hid (Below w.heap.size w w5) := Lib.hid (btr B4.out hb)
  have C0_5 : RowKit.Hid (Below U2.heap.size U2 w5) := Lib.hid (btr C0_4.out hb)
  clear f4_0_0 f4_0_1 f4_0_2 hb
  obtain ⟨f5_0_0, f5_0_1, f5_0_2⟩ := KK0.out w5 C0_5.out
  go_wp2_with fail
  refine (T1.out _ (HL.out.on B5.out)).mono ?_; rintro e w6 ⟨rfl, hb⟩
  have B6 : RowKit.Hid (Below w.heap.size w (w6.alloc (.cells #[(.int .i64 k1), (.int .i64 st1), (.string d1)] 23))) := Lib.hid (bal (btr B5.out hb) _)
  have C0_6 : RowKit.Hid (Below U2.heap.size U2 (w6.alloc (.cells #[(.int .i64 k1), (.int .i64 st1), (.string d1)] 23))) := Lib.hid (bal (btr C0_5.out hb) _)
  clear f5_0_0 f5_0_1 f5_0_2 hb
  obtain ⟨f6_0_0, f6_0_1, f6_0_2⟩ := KK0.out (w6.alloc (.cells #[(.int .i64 k1), (.int .i64 st1), (.string d1)] 23)) C0_6.out
  have f6_1_0 : (w6.alloc (.cells #[(.int .i64 k1), (.int .i64 st1), (.string d1)] 23)).cell? ⟨w6.heap.size, 0, none⟩ = some ((.int .i64 k1)) := by go_simp
  have f6_1_1 : (w6.alloc (.cells #[(.int .i64 k1), (.int .i64 st1), (.string d1)] 23)).cell? ⟨w6.heap.size, 1, none⟩ = some ((.int .i64 st1)) := by go_simp
  have f6_1_2 : (w6.alloc (.cells #[(.int .i64 k1), (.int .i64 st1), (.string d1)] 23)).cell? ⟨w6.heap.size, 2, none⟩ = some ((.string d1)) := by go_simp
  have KK1 := Lib.hid (show ∀ W, Below (w6.alloc (.cells #[(.int .i64 k1), (.int .i64 st1), (.string d1)] 23)).heap.size (w6.alloc (.cells #[(.int .i64 k1), (.int .i64 st1), (.string d1)] 23)) W → W.cell? ⟨w6.heap.size, 0, none⟩ = some ((.int .i64 k1)) ∧ W.cell? ⟨w6.heap.size, 1, none⟩ = some ((.int .i64 st1)) ∧ W.cell? ⟨w6.heap.size, 2, none⟩ = some ((.string d1)) from fun W h => ⟨(h.cell (p := ⟨w6.heap.size, 0, none⟩) (blt f6_1_0)).trans f6_1_0, (h.cell (p := ⟨w6.heap.size, 1, none⟩) (blt f6_1_1)).trans f6_1_1, (h.cell (p := ⟨w6.heap.size, 2, none⟩) (blt f6_1_2)).trans f6_1_2⟩)
  have C1_6 := Lib.hid (Below.refl (w6.alloc (.cells #[(.int .i64 k1), (.int .i64 st1), (.string d1)] 23)).heap.size (w6.alloc (.cells #[(.int .i64 k1), (.int .i64 st1), (.string d1)] 23)))
  go_wp2_with fail
  refine (T2.out _ (HL.out.on B6.out)).mono ?_; rintro e w7 ⟨rfl, hb⟩
  have B7 : RowKit.Hid (Below w.heap.size w (w7.alloc (.cells #[(.int .i64 0), (.int .i64 0), (.string ⟨#[]⟩)] 23))) := Lib.hid (bal (btr B6.out hb) _)
  have C0_7 : RowKit.Hid (Below U2.heap.size U2 (w7.alloc (.cells #[(.int .i64 0), (.int .i64 0), (.string ⟨#[]⟩)] 23))) := Lib.hid (bal (btr C0_6.out hb) _)
  have C1_7 : RowKit.Hid (Below (w6.alloc (.cells #[(.int .i64 k1), (.int .i64 st1), (.string d1)] 23)).heap.size (w6.alloc (.cells #[(.int .i64 k1), (.int .i64 st1), (.string d1)] 23)) (w7.alloc (.cells #[(.int .i64 0), (.int .i64 0), (.string ⟨#[]⟩)] 23))) := Lib.hid (bal (btr C1_6.out hb) _)
  clear f6_0_0 f6_0_1 f6_0_2 f6_1_0 f6_1_1 f6_1_2 hb
  obtain ⟨f7_0_0, f7_0_1, f7_0_2⟩ := KK0.out (w7.alloc (.cells #[(.int .i64 0), (.int .i64 0), (.string ⟨#[]⟩)] 23)) C0_7.out
  obtain ⟨f7_1_0, f7_1_1, f7_1_2⟩ := KK1.out (w7.alloc (.cells #[(.int .i64 0), (.int .i64 0), (.string ⟨#[]⟩)] 23)) C1_7.out
  have f7_2_0 : (w7.alloc (.cells #[(.int .i64 0), (.int .i64 0), (.string ⟨#[]⟩)] 23)).cell? ⟨w7.heap.size, 0, none⟩ = some ((.int .i64 0)) := by go_simp
  have f7_2_1 : (w7.alloc (.cells #[(.int .i64 0), (.int .i64 0), (.string ⟨#[]⟩)] 23)).cell? ⟨w7.heap.size, 1, none⟩ = some ((.int .i64 0)) := by go_simp
  have f7_2_2 : (w7.alloc (.cells #[(.int .i64 0), (.int .i64 0), (.string ⟨#[]⟩)] 23)).cell? ⟨w7.heap.size, 2, none⟩ = some ((.string ⟨#[]⟩)) := by go_simp
  have KK2 := Lib.hid (show ∀ W, Below (w7.alloc (.cells #[(.int .i64 0), (.int .i64 0), (.string ⟨#[]⟩)] 23)).heap.size (w7.alloc (.cells #[(.int .i64 0), (.int .i64 0), (.string ⟨#[]⟩)] 23)) W → W.cell? ⟨w7.heap.size, 0, none⟩ = some ((.int .i64 0)) ∧ W.cell? ⟨w7.heap.size, 1, none⟩ = some ((.int .i64 0)) ∧ W.cell? ⟨w7.heap.size, 2, none⟩ = some ((.string ⟨#[]⟩)) from fun W h => ⟨(h.cell (p := ⟨w7.heap.size, 0, none⟩) (blt f7_2_0)).trans f7_2_0, (h.cell (p := ⟨w7.heap.size, 1, none⟩) (blt f7_2_1)).trans f7_2_1, (h.cell (p := ⟨w7.heap.size, 2, none⟩) (blt f7_2_2)).trans f7_2_2⟩)
  have C2_7 := Lib.hid (Below.refl (w7.alloc (.cells #[(.int .i64 0), (.int .i64 0), (.string ⟨#[]⟩)] 23)).heap.size (w7.alloc (.cells #[(.int .i64 0), (.int .i64 0), (.string ⟨#[]⟩)] 23)))
  go_wp2_with fail
  refine (E2.out _).mono ?_; rintro e w8 ⟨rfl, hb⟩
  have B8 : RowKit.Hid (Below w.heap.size w w8) := Lib.hid (btr B7.out hb)
  have C0_8 : RowKit.Hid (Below U2.heap.size U2 w8) := Lib.hid (btr C0_7.out hb)
  have C1_8 : RowKit.Hid (Below (w6.alloc (.cells #[(.int .i64 k1), (.int .i64 st1), (.string d1)] 23)).heap.size (w6.alloc (.cells #[(.int .i64 k1), (.int .i64 st1), (.string d1)] 23)) w8) := Lib.hid (btr C1_7.out hb)
  have C2_8 : RowKit.Hid (Below (w7.alloc (.cells #[(.int .i64 0), (.int .i64 0), (.string ⟨#[]⟩)] 23)).heap.size (w7.alloc (.cells #[(.int .i64 0), (.int .i64 0), (.string ⟨#[]⟩)] 23)) w8) := Lib.hid (btr C2_7.out hb)
  clear f7_0_0 f7_0_1 f7_0_2 f7_1_0 f7_1_1 f7_1_2 f7_2_0 f7_2_1 f7_2_2 hb
  obtain ⟨f8_0_0, f8_0_1, f8_0_2⟩ := KK0.out w8 C0_8.out
  obtain ⟨f8_1_0, f8_1_1, f8_1_2⟩ := KK1.out w8 C1_8.out
  obtain ⟨f8_2_0, f8_2_1, f8_2_2⟩ := KK2.out w8 C2_8.out
  go_wp2_with (refine (R1.out _).mono ?_; rintro e w9 ⟨rfl, hb9⟩)
  go_ret
  exact ⟨ret_bool (by first | rfl | (simp <;> omega)), btr B8.out hb9⟩
theorem tk0 {t : ByteArray} (h : tkE t 0 = 0) : rightF (frOf t 0) = true ∧ t.extract 0 (tkN t 0).toNat = ⟨(encL (frOf t 0)).toArray⟩ ∧ 5 ≤ tkN t 0 ∧ tkN t 0 ≤ (t.size : Int) := by
  have he := tkE_hd t 0 (Nat.zero_le _)
  rw [show tkE t ((0 : Nat) : Int) = 0 from h] at he
  obtain ⟨k1, k2, k3, k4⟩ := tk_hd (s := t) (n := 0) (Nat.zero_le _) h
  simp only [List.drop_zero] at he k1 k2 k3 k4
  obtain ⟨r1, r2, r3, r4⟩ := hd_frame he.symm
  have hf : frOf t 0 = (hdK t.data.toList, hdS t.data.toList, ⟨(hdD t.data.toList).toArray⟩) := by
    show (tkK t ((0 : Nat) : Int), tkS t ((0 : Nat) : Int), tkD t ((0 : Nat) : Int)) = _
    rw [k1, k2, bytes_eq k3]
  rw [← hf] at r1 r2
  have hr := (numB_range (List.take 2 (List.drop 3 t.data.toList))).1
  have hr' : 0 ≤ hdL t.data.toList := hr
  have hsz : t.data.toList.length = t.size := by simp
  have hN : tkN t 0 = 5 + hdL t.data.toList := by
    have : tkN t ((0 : Nat) : Int) = ((0 : Nat) : Int) + 5 + hdL t.data.toList := k4
    simpa using this
  have hlen : (encL (frOf t 0)).length = 5 + (hdL t.data.toList).toNat := by
    rw [encL_length, hf]
    show 5 + (hdD t.data.toList).toArray.size = _
    rw [List.size_toArray, r3]
  refine ⟨r1, ?_, by omega, by omega⟩
  refine bytes_eq ?_
  rw [sl_of (by omega) (by omega), hN]
  simp only [List.drop_zero]
  rw [show (5 + hdL t.data.toList).toNat - 0 = (encL (frOf t 0)).length by omega]
  refine (congrArg (fun x => List.take (encL (frOf t 0)).length x) r2).trans ?_
  simp
theorem enc_zero (w : World) : Calls Tryd.prog 13 #[.agg #[.int .i64 0, .int .i64 0, .string ⟨#[]⟩]] w fun x w' => x = .returned (.tuple #[.string ⟨#[]⟩, .int .i64 33]) ∧ Below w.heap.size w w' := encode_c 0 0 ⟨#[]⟩ (by decide) w
theorem frame_len (f : FrT) : (⟨(encL f).toArray⟩ : ByteArray).size = 5 + f.2.2.size := by
  show (encL f).toArray.size = _
  rw [List.size_toArray, encL_length]
theorem wireBack_c (k st : Int) (d0 : ByteArray) (hk : (Lit.int .i64 k).wf = true) (s0 t0 : ByteArray) (w : World) (hL : ErrT w) : Calls Tryd.prog 5 #[.agg #[.int .i64 k, .int .i64 st, .string d0], .string s0, .string t0] w fun x w' => x = .returned (.bool true) ∧ Below w.heap.size w w' := by
  have S0 := Lib.hid (fun W h => shown_c W h)
  have CU := Lib.hid (fun b W h => cut1_c (k, st, d0) b (0, 0) W h)
  have C2 := Lib.hid (fun W => cut2_c s0 W)
  have C3 := Lib.hid (fun W => cut2_c t0 W)
  have hs := cut2_size s0
  have ht := cut2_size t0
  have hd := cutD_size d0
  have R1 := Lib.hid (fun W => right_c k st (cutD d0) hk W)
  generalize cut2 s0 = s at *
  generalize cut2 t0 = t at *
  generalize cutD d0 = d at *
  by_cases h2 : tkE t 0 = 0
  · obtain ⟨q1, q2, q3, q4⟩ := tk0 h2
    have T2 := Lib.hid (fun W h => take_is t 0 (tkK t 0) (tkS t 0) (tkD t 0) (tkN t 0) 0 (by omega) ⟨rfl, rfl, rfl, rfl, h2⟩ W h)
    have E2 := Lib.hid (fun W => enc_yes (f := frOf t 0) q1 W)
    have SL : ∀ W, (Instr.slice 9 (.string t) none (some (.int .i64 (tkN t 0))) none).run Tryd.prog W = .ok (.string ⟨(encL (frOf t 0)).toArray⟩) W := fun W => by
      rw [run_slice_string_to_if (P := Tryd.prog) (w := W) (h := by kernel_rfl), if_pos ⟨by omega, by omega⟩, q2]
    cases hr : rightF (k, st, d) with
    | true =>
      have E1 := Lib.hid (fun W => enc_yes (f := (k, st, d)) hr W)
      have ha := frame_len (k, st, d)
      simp only at ha
      have hal : (⟨(encL (k, st, d)).toArray⟩ : ByteArray).data.toList = encL (k, st, d) := by simp
      generalize (⟨(encL (k, st, d)).toArray⟩ : ByteArray) = a at *
      obtain ⟨e0, e1, e2, e3, e4⟩ := take_at (T := s ++ a ++ t) (f := (k, st, d)) hr (S := s.data.toList) (R := t.data.toList) (by rw [← hal]; simp)
      have hsl : (s.data.toList.length : Int) = (s.size : Int) := by simp
      rw [hsl] at e0 e1 e2 e3 e4
      have hsz : (s ++ a ++ t).size = s.size + a.size + t.size := by rw [ByteArray.size_append, ByteArray.size_append]
      have T1 := Lib.hid (fun W h => take_is (s ++ a ++ t) (s.size : Int) k st d ((s.size : Int) + (a.size : Int)) 0 (by rw [hsz]; omega) ⟨e1, e2, e3, by rw [e4, ha]; simp only; omega, e0⟩ W h)
      rw [show rightW k st d.size = true from hr] at R1
      exact back_yy k st d0 d s0 s t0 t a _ _ _ _ _ w hL S0 CU C2 C3 E1 T1 T2 E2 R1 (by omega) (by omega) (IntWalk.i64_in _ (by omega)) q3 q4 SL
    | false =>
      have E1 := Lib.hid (fun W => enc_no (f := (k, st, d)) hk hr W)
      have ha : (⟨#[]⟩ : ByteArray).size = 0 := rfl
      generalize (⟨#[]⟩ : ByteArray) = a at *
      have hsz : (s ++ a ++ t).size = s.size + a.size + t.size := by rw [ByteArray.size_append, ByteArray.size_append]
      have T1 := Lib.hid (fun W h => Take_c (s ++ a ++ t) (s.size : Int) (by rw [hsz]; omega) W h)
      rw [show rightW k st d.size = false from hr] at R1
      exact back_ny k st d0 d s0 s t0 t a _ _ _ _ _ _ _ _ _ _ w hL S0 CU C2 C3 E1 T1 T2 E2 R1 (by omega) (by omega) q3 q4 SL
  · have T2 := Lib.hid (fun W h => take_is t 0 0 0 ⟨#[]⟩ 0 (tkE t 0) (by omega) (tk_err rfl h2) W h)
    have E2 := Lib.hid (fun W => enc_zero W)
    have hc : (tkE t 0 == 0) = false := by simpa using h2
    have hc' : (tkE t 0 != 0) = true := by simpa using h2
    cases hr : rightF (k, st, d) with
    | true =>
      have E1 := Lib.hid (fun W => enc_yes (f := (k, st, d)) hr W)
      have ha := frame_len (k, st, d)
      simp only at ha
      have hal : (⟨(encL (k, st, d)).toArray⟩ : ByteArray).data.toList = encL (k, st, d) := by simp
      generalize (⟨(encL (k, st, d)).toArray⟩ : ByteArray) = a at *
      obtain ⟨e0, e1, e2, e3, e4⟩ := take_at (T := s ++ a ++ t) (f := (k, st, d)) hr (S := s.data.toList) (R := t.data.toList) (by rw [← hal]; simp)
      have hsl : (s.data.toList.length : Int) = (s.size : Int) := by simp
      rw [hsl] at e0 e1 e2 e3 e4
      have hsz : (s ++ a ++ t).size = s.size + a.size + t.size := by rw [ByteArray.size_append, ByteArray.size_append]
      have T1 := Lib.hid (fun W h => take_is (s ++ a ++ t) (s.size : Int) k st d ((s.size : Int) + (a.size : Int)) 0 (by rw [hsz]; omega) ⟨e1, e2, e3, by rw [e4, ha]; simp only; omega, e0⟩ W h)
      rw [show rightW k st d.size = true from hr] at R1
      exact back_yn k st d0 d s0 s t0 t a _ _ w hL S0 CU C2 C3 E1 T1 T2 E2 R1 (by omega) (by omega) (IntWalk.i64_in _ (by omega)) hc hc'
    | false =>
      have E1 := Lib.hid (fun W => enc_no (f := (k, st, d)) hk hr W)
      have ha : (⟨#[]⟩ : ByteArray).size = 0 := rfl
      have E1' : Hid (∀ a : ByteArray, a = ⟨#[]⟩ → ∀ W, Calls Tryd.prog 13 #[.agg #[.int .i64 k, .int .i64 st, .string d]] W fun x w' => x = .returned (.tuple #[.string a, .int .i64 33]) ∧ Below W.heap.size W w') := Lib.hid (fun a h W => by rw [h]; exact E1.out W)
      obtain ⟨a, haa⟩ : ∃ a : ByteArray, a = ⟨#[]⟩ := ⟨_, rfl⟩
      have E1 := Lib.hid (E1'.out a haa)
      have ha : a.size = 0 := by rw [haa]; rfl
      have hsz : (s ++ a ++ t).size = s.size + a.size + t.size := by rw [ByteArray.size_append, ByteArray.size_append]
      have T1 := Lib.hid (fun W h => Take_c (s ++ a ++ t) (s.size : Int) (by rw [hsz]; omega) W h)
      rw [show rightW k st d.size = false from hr] at R1
      exact back_nn k st d0 d s0 s t0 t a _ _ _ _ _ _ _ w hL S0 CU C2 C3 E1 T1 T2 E2 R1 (by omega) (by omega) hc hc'
end Go.Proofs.YtdcnpcdohgecbaaDoor

/- The law WireSizes. -/
import Derived.Test.YtdcnpcdohgecbaaDoorPE
namespace Go.Proofs.YtdcnpcdohgecbaaDoor
open Go.RowKit Go.Shelf
attribute [local go_sem] Oper.semAt_some

/-- Cut of one frame. -/
theorem cut1_c (f : FrT) (b : Nat) (fz : Nat × Nat) (W : World) (h : W.heap[b]? = some (.cells #[.int .i64 f.1, .int .i64 f.2.1, .string f.2.2] 23 fz)) : Calls Tryd.prog 11 #[.slice (some ⟨b, 0, none⟩) 1 1] W fun x w' => ∃ g c, x = .returned (.slice (some ⟨g, 0, none⟩) 1 c) ∧ w'.cell? ⟨g, 0, none⟩ = some (.int .i64 f.1) ∧ w'.cell? ⟨g, 1, none⟩ = some (.int .i64 f.2.1) ∧ w'.cell? ⟨g, 2, none⟩ = some (.string (cutD f.2.2)) ∧ Below W.heap.size W w' := by
  have hb : b < W.heap.size := (Array.getElem?_eq_some_iff.1 h).1
  have hc : FramesAt W.heap.size W (some ⟨b, 0, none⟩) [f] := by
    intro k hk
    obtain rfl : k = 0 := by simpa using hk
    exact ⟨b, 0, rfl, hb, by simp [World.cell?, h], by simp [World.cell?, h], by simp [World.cell?, h]⟩
  refine (Cut_c (some ⟨b, 0, none⟩) 1 [f] (by simp) W hc).mono ?_
  rintro x w' ⟨v, rfl, ho, hB⟩
  have e : cutN [f] = 1 := rfl
  rw [e] at ho
  have ho2 : w'.ownsRow W.heap.size 23 3 v (cutL [f]).length (fCells (cutL [f])) := by rw [cutL_length]; exact ho
  obtain ⟨g, cp, rfl⟩ := ownsRow_succ ho
  obtain ⟨a, c, hv, hA⟩ := frames_of_row ho2
  cases hv
  obtain ⟨b', off, e', _, c0, c1, c2⟩ := hA 0 (by rw [cutL_length]; show 0 < min 10 1; decide)
  cases e'
  exact ⟨g, cp, rfl, c0, c1, c2, hB⟩
theorem enc_yes {f : FrT} (h : rightF f = true) (w : World) : Calls Tryd.prog 13 #[.agg #[.int .i64 f.1, .int .i64 f.2.1, .string f.2.2]] w fun x w' => x = .returned (.tuple #[.string ⟨(encL f).toArray⟩, .int .i64 0]) ∧ Below w.heap.size w w' := by
  obtain ⟨h1, h2, _⟩ := right_facts h
  have := encode_c f.1 f.2.1 f.2.2 (WalkArith.wf_i64 (by omega)) w
  unfold encOf at this
  rw [if_pos (show rightW f.1 f.2.1 f.2.2.size = true from h)] at this
  rw [bytes_eq (encL_is f)] at this
  exact this
theorem enc_no {f : FrT} (hw : (Lit.int .i64 f.1).wf = true) (h : rightF f = false) (w : World) : Calls Tryd.prog 13 #[.agg #[.int .i64 f.1, .int .i64 f.2.1, .string f.2.2]] w fun x w' => x = .returned (.tuple #[.string ⟨#[]⟩, .int .i64 33]) ∧ Below w.heap.size w w' := by
  have := encode_c f.1 f.2.1 f.2.2 hw w
  unfold encOf at this
  rw [if_neg (by rw [show rightW f.1 f.2.1 f.2.2.size = false from h]; simp)] at this
  exact this
set_option maxRecDepth 100000 in
set_option maxHeartbeats 4000000 in
theorem sizes_no (k st : Int) (d0 d : ByteArray) (w : World) (hL : ErrT w) (S0 : Hid (∀ W, ErrT W → Calls Tryd.prog 10 #[] W fun x w' => x = .returned (.bool true) ∧ Below W.heap.size W w')) (CU : Hid (∀ b W, W.heap[b]? = some (.cells #[.int .i64 k, .int .i64 st, .string d0] 23 (0, 0)) → Calls Tryd.prog 11 #[.slice (some ⟨b, 0, none⟩) 1 1] W fun x w' => ∃ g c, x = .returned (.slice (some ⟨g, 0, none⟩) 1 c) ∧ w'.cell? ⟨g, 0, none⟩ = some (.int .i64 k) ∧ w'.cell? ⟨g, 1, none⟩ = some (.int .i64 st) ∧ w'.cell? ⟨g, 2, none⟩ = some (.string d) ∧ Below W.heap.size W w')) (E1 : Hid (∀ W, Calls Tryd.prog 13 #[.agg #[.int .i64 k, .int .i64 st, .string d]] W fun x w' => x = .returned (.tuple #[.string ⟨#[]⟩, .int .i64 33]) ∧ Below W.heap.size W w')) (R1 : Hid (∀ W, Calls Tryd.prog 19 #[.agg #[.int .i64 k, .int .i64 st, .string d]] W fun x w' => x = .returned (.bool false) ∧ Below W.heap.size W w')) : Calls Tryd.prog 9 #[.agg #[.int .i64 k, .int .i64 st, .string d0]] w fun x w' => x = .returned (.bool true) ∧ Below w.heap.size w w' := by
  have HL := Lib.hid hL
  clear hL
  go_enter Tryd.func9, Tryd.ntmps9
  go_wp2_with fail
  have x0 : (w.alloc (.cells #[(.int .i64 k), (.int .i64 st), (.string d0)] 23)).cell? ⟨w.heap.size, 0, none⟩ = some ((.int .i64 k)) := by go_simp
  have z0 : (w.alloc (.cells #[(.int .i64 k), (.int .i64 st), (.string d0)] 23)).frozen? ⟨w.heap.size, 0, none⟩ = false := by go_simp
  have x1 : (w.alloc (.cells #[(.int .i64 k), (.int .i64 st), (.string d0)] 23)).cell? ⟨w.heap.size, 1, none⟩ = some ((.int .i64 st)) := by go_simp
  have z1 : (w.alloc (.cells #[(.int .i64 k), (.int .i64 st), (.string d0)] 23)).frozen? ⟨w.heap.size, 1, none⟩ = false := by go_simp
  have x2 : (w.alloc (.cells #[(.int .i64 k), (.int .i64 st), (.string d0)] 23)).cell? ⟨w.heap.size, 2, none⟩ = some ((.string d0)) := by go_simp
  have z2 : (w.alloc (.cells #[(.int .i64 k), (.int .i64 st), (.string d0)] 23)).frozen? ⟨w.heap.size, 2, none⟩ = false := by go_simp
  have BA : Below w.heap.size w (w.alloc (.cells #[(.int .i64 k), (.int .i64 st), (.string d0)] 23)) := below_alloc _ _
  generalize (w.alloc (.cells #[(.int .i64 k), (.int .i64 st), (.string d0)] 23)) = U at *
  refine (S0.out _ (HL.out.on BA)).mono ?_; rintro e w1 ⟨rfl, hb⟩
  have y0 := (hb.cell (blt x0)).trans x0
  have v0 := (hb.frozen (blt x0)).trans z0
  have y1 := (hb.cell (blt x1)).trans x1
  have v1 := (hb.frozen (blt x1)).trans z1
  have y2 := (hb.cell (blt x2)).trans x2
  have v2 := (hb.frozen (blt x2)).trans z2
  have BB := Lib.hid (btr BA hb)
  clear hb BA x0 z0 x1 z1 x2 z2
  go_wp2_with fail
  refine (CU.out _ _ (World.alloc_heap_new w1 _)).mono ?_; rintro e w2 ⟨g, cp, rfl, g0, g1, g2, hb⟩
  replace hb : Below w1.heap.size w1 w2 := (below_alloc w1 (.cells #[(.int .i64 k), (.int .i64 st), (.string d0)] 23)).trans (hb.mono (by simp))
  have x0 := (hb.cell (blt y0)).trans y0
  have z0 := (hb.frozen (blt y0)).trans v0
  have x1 := (hb.cell (blt y1)).trans y1
  have z1 := (hb.frozen (blt y1)).trans v1
  have x2 := (hb.cell (blt y2)).trans y2
  have z2 := (hb.frozen (blt y2)).trans v2
  have BC := Lib.hid (btr BB.out hb)
  clear hb BB y0 v0 y1 v1 y2 v2
  go_wp2_with fail
  have q0 : (((w2.setCell ⟨w.heap.size, 0, none⟩ ((.int .i64 k))).setCell ⟨w.heap.size, 1, none⟩ ((.int .i64 st))).setCell ⟨w.heap.size, 2, none⟩ ((.string d))).cell? ⟨w.heap.size, 0, none⟩ = some ((.int .i64 k)) := by go_simp
  have q1 : (((w2.setCell ⟨w.heap.size, 0, none⟩ ((.int .i64 k))).setCell ⟨w.heap.size, 1, none⟩ ((.int .i64 st))).setCell ⟨w.heap.size, 2, none⟩ ((.string d))).cell? ⟨w.heap.size, 1, none⟩ = some ((.int .i64 st)) := by go_simp
  have q2 : (((w2.setCell ⟨w.heap.size, 0, none⟩ ((.int .i64 k))).setCell ⟨w.heap.size, 1, none⟩ ((.int .i64 st))).setCell ⟨w.heap.size, 2, none⟩ ((.string d))).cell? ⟨w.heap.size, 2, none⟩ = some ((.string d)) := by go_simp
  have BD : Below w.heap.size w (((w2.setCell ⟨w.heap.size, 0, none⟩ ((.int .i64 k))).setCell ⟨w.heap.size, 1, none⟩ ((.int .i64 st))).setCell ⟨w.heap.size, 2, none⟩ ((.string d))) := by repeat' (first | exact BC.out | refine Below.setCell ?_ ?_ _ | (dsimp only; omega))
  clear BC x0 z0 g0 x1 z1 g1 x2 z2 g2
  generalize (((w2.setCell ⟨w.heap.size, 0, none⟩ ((.int .i64 k))).setCell ⟨w.heap.size, 1, none⟩ ((.int .i64 st))).setCell ⟨w.heap.size, 2, none⟩ ((.string d))) = U2 at *
  have B2 := Lib.hid BD
  clear BD
  have KK0 := Lib.hid (show ∀ W, Below U2.heap.size U2 W → W.cell? ⟨w.heap.size, 0, none⟩ = some ((.int .i64 k)) ∧ W.cell? ⟨w.heap.size, 1, none⟩ = some ((.int .i64 st)) ∧ W.cell? ⟨w.heap.size, 2, none⟩ = some ((.string d)) from fun W h => ⟨(h.cell (p := ⟨w.heap.size, 0, none⟩) (blt q0)).trans q0, (h.cell (p := ⟨w.heap.size, 1, none⟩) (blt q1)).trans q1, (h.cell (p := ⟨w.heap.size, 2, none⟩) (blt q2)).trans q2⟩)
  have C0_2 := Lib.hid (Below.refl U2.heap.size U2)
  refine (E1.out _).mono ?_; rintro e w3 ⟨rfl, hb⟩
  have B3 : RowKit.Hid (Below w.heap.size w w3) := Lib.hid (btr B2.out hb)
  have C0_3 : RowKit.Hid (Below U2.heap.size U2 w3) := Lib.hid (btr C0_2.out hb)
  clear q0 q1 q2 hb
  obtain ⟨f3_0_0, f3_0_1, f3_0_2⟩ := KK0.out w3 C0_3.out
  go_wp2_with (refine (R1.out _).mono ?_; rintro e w9 ⟨rfl, hb9⟩)
  go_ret
  exact ⟨ret_bool (by first | rfl | (simp <;> omega)), btr B3.out hb9⟩
set_option maxRecDepth 100000 in
set_option maxHeartbeats 8000000 in
theorem sizes_yes (k st : Int) (d0 d tt A1 A2 : ByteArray) (kb : Nat) (hkb : kb ≤ 255) (hkk : k = (kb : Int)) (w : World) (hL : ErrT w) (S0 : Hid (∀ W, ErrT W → Calls Tryd.prog 10 #[] W fun x w' => x = .returned (.bool true) ∧ Below W.heap.size W w')) (CU : Hid (∀ b W, W.heap[b]? = some (.cells #[.int .i64 k, .int .i64 st, .string d0] 23 (0, 0)) → Calls Tryd.prog 11 #[.slice (some ⟨b, 0, none⟩) 1 1] W fun x w' => ∃ g c, x = .returned (.slice (some ⟨g, 0, none⟩) 1 c) ∧ w'.cell? ⟨g, 0, none⟩ = some (.int .i64 k) ∧ w'.cell? ⟨g, 1, none⟩ = some (.int .i64 st) ∧ w'.cell? ⟨g, 2, none⟩ = some (.string d) ∧ Below W.heap.size W w')) (E1 : Hid (∀ W, Calls Tryd.prog 13 #[.agg #[.int .i64 k, .int .i64 st, .string d]] W fun x w' => x = .returned (.tuple #[.string tt, .int .i64 0]) ∧ Below W.heap.size W w')) (hsz : tt.size = 5 + d.size) (hd : d.size ≤ 600)
    (I0 : ∀ W, (Instr.index 9 (.string tt) (.int .i64 0)).run Tryd.prog W = .ok (.int .u8 (kb : Int)) W) (L1 : ∀ W, (Instr.slice 9 (.string tt) (some (.int .i64 1)) (some (.int .i64 3)) none).run Tryd.prog W = .ok (.string A1) W) (L2 : ∀ W, (Instr.slice 9 (.string tt) (some (.int .i64 3)) (some (.int .i64 5)) none).run Tryd.prog W = .ok (.string A2) W) (L3 : ∀ W, (Instr.slice 9 (.string tt) (some (.int .i64 5)) none none).run Tryd.prog W = .ok (.string d) W)
    (N1 : Hid (∀ W, Calls Tryd.prog 21 #[.string A1] W fun x w' => x = .returned (.int .i64 st) ∧ Below W.heap.size W w')) (N2 : Hid (∀ W, Calls Tryd.prog 21 #[.string A2] W fun x w' => x = .returned (.int .i64 (d.size : Int)) ∧ Below W.heap.size W w')) : Calls Tryd.prog 9 #[.agg #[.int .i64 k, .int .i64 st, .string d0]] w fun x w' => x = .returned (.bool true) ∧ Below w.heap.size w w' := by
  have HL := Lib.hid hL
  clear hL
  subst hkk
  have hz1 : (tt.size : Int) = 5 + (d.size : Int) := by omega
  have hz2 : ((tt.size : Int) != 5 + (d.size : Int)) = false := by simp [hz1]
  have hwr : IntKind.i64.wrap (5 + (d.size : Int)) = 5 + (d.size : Int) := IntWalk.i64_in _ (by omega)
  have hwk : IntKind.i64.wrap (kb : Int) = (kb : Int) := IntWalk.i64_in _ (by omega)
  go_enter Tryd.func9, Tryd.ntmps9
  go_wp2_with fail
  have x0 : (w.alloc (.cells #[(.int .i64 (kb : Int)), (.int .i64 st), (.string d0)] 23)).cell? ⟨w.heap.size, 0, none⟩ = some ((.int .i64 (kb : Int))) := by go_simp
  have z0 : (w.alloc (.cells #[(.int .i64 (kb : Int)), (.int .i64 st), (.string d0)] 23)).frozen? ⟨w.heap.size, 0, none⟩ = false := by go_simp
  have x1 : (w.alloc (.cells #[(.int .i64 (kb : Int)), (.int .i64 st), (.string d0)] 23)).cell? ⟨w.heap.size, 1, none⟩ = some ((.int .i64 st)) := by go_simp
  have z1 : (w.alloc (.cells #[(.int .i64 (kb : Int)), (.int .i64 st), (.string d0)] 23)).frozen? ⟨w.heap.size, 1, none⟩ = false := by go_simp
  have x2 : (w.alloc (.cells #[(.int .i64 (kb : Int)), (.int .i64 st), (.string d0)] 23)).cell? ⟨w.heap.size, 2, none⟩ = some ((.string d0)) := by go_simp
  have z2 : (w.alloc (.cells #[(.int .i64 (kb : Int)), (.int .i64 st), (.string d0)] 23)).frozen? ⟨w.heap.size, 2, none⟩ = false := by go_simp
  have BA : Below w.heap.size w (w.alloc (.cells #[(.int .i64 (kb : Int)), (.int .i64 st), (.string d0)] 23)) := below_alloc _ _
  generalize (w.alloc (.cells #[(.int .i64 (kb : Int)), (.int .i64 st), (.string d0)] 23)) = U at *
  refine (S0.out _ (HL.out.on BA)).mono ?_; rintro e w1 ⟨rfl, hb⟩
  have y0 := (hb.cell (blt x0)).trans x0
  have v0 := (hb.frozen (blt x0)).trans z0
  have y1 := (hb.cell (blt x1)).trans x1
  have v1 := (hb.frozen (blt x1)).trans z1
  have y2 := (hb.cell (blt x2)).trans x2
  have v2 := (hb.frozen (blt x2)).trans z2
  have BB := Lib.hid (btr BA hb)
  clear hb BA x0 z0 x1 z1 x2 z2
  go_wp2_with fail
  refine (CU.out _ _ (World.alloc_heap_new w1 _)).mono ?_; rintro e w2 ⟨g, cp, rfl, g0, g1, g2, hb⟩
  replace hb : Below w1.heap.size w1 w2 := (below_alloc w1 (.cells #[(.int .i64 (kb : Int)), (.int .i64 st), (.string d0)] 23)).trans (hb.mono (by simp))
  have x0 := (hb.cell (blt y0)).trans y0
  have z0 := (hb.frozen (blt y0)).trans v0
  have x1 := (hb.cell (blt y1)).trans y1
  have z1 := (hb.frozen (blt y1)).trans v1
  have x2 := (hb.cell (blt y2)).trans y2
  have z2 := (hb.frozen (blt y2)).trans v2
  have BC := Lib.hid (btr BB.out hb)
  clear hb BB y0 v0 y1 v1 y2 v2
  go_wp2_with fail
  have q0 : (((w2.setCell ⟨w.heap.size, 0, none⟩ ((.int .i64 (kb : Int)))).setCell ⟨w.heap.size, 1, none⟩ ((.int .i64 st))).setCell ⟨w.heap.size, 2, none⟩ ((.string d))).cell? ⟨w.heap.size, 0, none⟩ = some ((.int .i64 (kb : Int))) := by go_simp
  have q1 : (((w2.setCell ⟨w.heap.size, 0, none⟩ ((.int .i64 (kb : Int)))).setCell ⟨w.heap.size, 1, none⟩ ((.int .i64 st))).setCell ⟨w.heap.size, 2, none⟩ ((.string d))).cell? ⟨w.heap.size, 1, none⟩ = some ((.int .i64 st)) := by go_simp
  have q2 : (((w2.setCell ⟨w.heap.size, 0, none⟩ ((.int .i64 (kb : Int)))).setCell ⟨w.heap.size, 1, none⟩ ((.int .i64 st))).setCell ⟨w.heap.size, 2, none⟩ ((.string d))).cell? ⟨w.heap.size, 2, none⟩ = some ((.string d)) := by go_simp
  have BD : Below w.heap.size w (((w2.setCell ⟨w.heap.size, 0, none⟩ ((.int .i64 (kb : Int)))).setCell ⟨w.heap.size, 1, none⟩ ((.int .i64 st))).setCell ⟨w.heap.size, 2, none⟩ ((.string d))) := by repeat' (first | exact BC.out | refine Below.setCell ?_ ?_ _ | (dsimp only; omega))
  clear BC x0 z0 g0 x1 z1 g1 x2 z2 g2
  generalize (((w2.setCell ⟨w.heap.size, 0, none⟩ ((.int .i64 (kb : Int)))).setCell ⟨w.heap.size, 1, none⟩ ((.int .i64 st))).setCell ⟨w.heap.size, 2, none⟩ ((.string d))) = U2 at *
  have B2 := Lib.hid BD
  clear BD
  have KK0 := Lib.hid (show ∀ W, Below U2.heap.size U2 W → W.cell? ⟨w.heap.size, 0, none⟩ = some ((.int .i64 (kb : Int))) ∧ W.cell? ⟨w.heap.size, 1, none⟩ = some ((.int .i64 st)) ∧ W.cell? ⟨w.heap.size, 2, none⟩ = some ((.string d)) from fun W h => ⟨(h.cell (p := ⟨w.heap.size, 0, none⟩) (blt q0)).trans q0, (h.cell (p := ⟨w.heap.size, 1, none⟩) (blt q1)).trans q1, (h.cell (p := ⟨w.heap.size, 2, none⟩) (blt q2)).trans q2⟩)
  have C0_2 := Lib.hid (Below.refl U2.heap.size U2)
  refine (E1.out _).mono ?_; rintro e w3 ⟨rfl, hb⟩
  have B3 : RowKit.Hid (Below w.heap.size w w3) := Lib.hid (btr B2.out hb)
  have C0_3 : RowKit.Hid (Below U2.heap.size U2 w3) := Lib.hid (btr C0_2.out hb)
  clear q0 q1 q2 hb
  obtain ⟨f3_0_0, f3_0_1, f3_0_2⟩ := KK0.out w3 C0_3.out
  go_wp2_with fail
  have HB := Lib.hid B3.out
  generalize w3 = V3 at *
  have u0 : Below V3.heap.size V3 V3 := Below.refl _ V3
  have MK := Lib.hid (show ∀ w', Below V3.heap.size V3 w' → w'.cell? ⟨w.heap.size, 0, none⟩ = some (.int .i64 (kb : Int)) ∧ w'.cell? ⟨w.heap.size, 1, none⟩ = some (.int .i64 st) ∧ w'.cell? ⟨w.heap.size, 2, none⟩ = some (.string d) ∧ Below V3.heap.size V3 w' from
    (fun w' h => ⟨(h.cell (p := ⟨w.heap.size, 0, none⟩) (blt f3_0_0)).trans f3_0_0, (h.cell (p := ⟨w.heap.size, 1, none⟩) (blt f3_0_0)).trans f3_0_1, (h.cell (p := ⟨w.heap.size, 2, none⟩) (blt f3_0_0)).trans f3_0_2, h⟩))
  refine wp_region_held_drew (S := (fun w' => w'.cell? ⟨w.heap.size, 0, none⟩ = some (.int .i64 (kb : Int)) ∧ w'.cell? ⟨w.heap.size, 1, none⟩ = some (.int .i64 st) ∧ w'.cell? ⟨w.heap.size, 2, none⟩ = some (.string d) ∧ Below V3.heap.size V3 w')) (by kernel_rfl) ?_ (fun hHeld => ?_)
  · (first | with_reducible assumption | exact MK.out _ (by with_reducible assumption) | exact MK.out _ (below_drew (by with_reducible assumption)))
  refine takeH (i := 0) (some 36) (v := ?_) rfl rfl (by kernel_rfl) (by kernel_rfl) (by kernel_rfl) (fun _ _ _ h => h) (Or.inl ⟨by rfl, ?hy0⟩) hHeld ?rest0
  case hy0 => (intro w hSw; (try dsimp only at hSw); go_simp; (try with_reducible rfl))
  try simp only [Act.put, List.setIfInBounds_toArray, List.set_cons_zero, List.set_cons_succ]
  refine takeH (i := 1) (some 37) (v := ?_) rfl rfl (by kernel_rfl) (by kernel_rfl) (by kernel_rfl) (fun _ _ _ h => h) (Or.inl ⟨by rfl, ?hy1⟩) hHeld ?rest1
  case hy1 => (intro w hSw; (try dsimp only at hSw); go_simp; (try with_reducible rfl))
  try simp only [Act.put, List.setIfInBounds_toArray, List.set_cons_zero, List.set_cons_succ]
  refine takeH (i := 2) (some 38) (v := ?_) rfl rfl (by kernel_rfl) (by kernel_rfl) (by kernel_rfl) (fun _ _ _ h => h) (Or.inl ⟨by rfl, ?hy2⟩) hHeld ?rest2
  case hy2 => (intro w hSw; (try dsimp only at hSw); go_simp; (try with_reducible rfl))
  try simp only [Act.put, List.setIfInBounds_toArray, List.set_cons_zero, List.set_cons_succ]
  refine takeH (i := 3) (some 39) (v := ?_) rfl rfl (by kernel_rfl) (by kernel_rfl) (by kernel_rfl) (fun _ _ _ h => h) (Or.inl ⟨by rfl, ?hy3⟩) hHeld ?rest3
  case hy3 => (intro w hSw; (try dsimp only at hSw); go_simp; (try with_reducible rfl))
  try simp only [Act.put, List.setIfInBounds_toArray, List.set_cons_zero, List.set_cons_succ]
  refine takeH (i := 4) (some 40) (v := ?_) rfl rfl (by kernel_rfl) (by kernel_rfl) (by kernel_rfl) (fun _ _ _ h => h) (Or.inl ⟨by rfl, ?hy4⟩) hHeld ?rest4
  case hy4 => (intro w hSw; (try dsimp only at hSw); go_simp; (try with_reducible rfl))
  try simp only [Act.put, List.setIfInBounds_toArray, List.set_cons_zero, List.set_cons_succ]
  refine takeH (i := 5) (some 41) (v := ?_) rfl rfl (by kernel_rfl) (by kernel_rfl) (by kernel_rfl) (fun _ _ _ h => h) (Or.inl ⟨by rfl, ?hy5⟩) hHeld ?rest5
  case hy5 => (intro w hSw; (try dsimp only at hSw); go_simp; (try with_reducible rfl))
  try simp only [Act.put, List.setIfInBounds_toArray, List.set_cons_zero, List.set_cons_succ]
  refine takeH (i := 6) (some 42) (v := ?_) rfl rfl (by kernel_rfl) (by kernel_rfl) (by kernel_rfl) (fun _ _ _ h => h) (Or.inl ⟨by rfl, ?hy6⟩) hHeld ?rest6
  case hy6 => (intro w hSw; (try dsimp only at hSw); go_simp; (try with_reducible rfl))
  try simp only [Act.put, List.setIfInBounds_toArray, List.set_cons_zero, List.set_cons_succ]
  refine takeH (i := 7) (some 43) (v := ?_) rfl rfl (by kernel_rfl) (by kernel_rfl) (by kernel_rfl) (fun _ _ _ h => h) (Or.inl ⟨by rfl, ?hy7⟩) hHeld ?rest7
  case hy7 => (intro w hSw; (try dsimp only at hSw); go_simp; (try with_reducible rfl))
  try simp only [Act.put, List.setIfInBounds_toArray, List.set_cons_zero, List.set_cons_succ]
  refine takeH (i := 8) (some 44) (v := ?_) rfl rfl (by kernel_rfl) (by kernel_rfl) (by kernel_rfl) (fun _ _ _ h => h) (Or.inl ⟨by rfl, ?hy8⟩) hHeld ?rest8
  case hy8 => (intro w hSw; (try dsimp only at hSw); go_simp; (try with_reducible rfl))
  try simp only [Act.put, List.setIfInBounds_toArray, List.set_cons_zero, List.set_cons_succ]
  refine takeH (i := 9) (some 45) (v := ?_) rfl rfl (by kernel_rfl) (by kernel_rfl) (by kernel_rfl) (fun _ _ _ h => h) (Or.inl ⟨by rfl, ?hy9⟩) hHeld ?rest9
  case hy9 => (intro w hSw; (try dsimp only at hSw); go_simp; (try with_reducible rfl))
  try simp only [Act.put, List.setIfInBounds_toArray, List.set_cons_zero, List.set_cons_succ]
  refine takeH (i := 10) (some 46) (v := ?_) rfl rfl (by kernel_rfl) (by kernel_rfl) (by kernel_rfl) (fun _ _ _ h => h) (Or.inl ⟨by rfl, ?hy10⟩) hHeld ?rest10
  case hy10 => (intro w hSw; (try dsimp only at hSw); go_simp; (try with_reducible rfl))
  try simp only [Act.put, List.setIfInBounds_toArray, List.set_cons_zero, List.set_cons_succ]
  refine takeH (i := 11) (some 47) (v := ?_) rfl rfl (by kernel_rfl) (by kernel_rfl) (by kernel_rfl) (fun _ _ _ h => h) (Or.inl ⟨by rfl, ?hy11⟩) hHeld ?rest11
  case hy11 => (intro w hSw; (try dsimp only at hSw); go_simp; (try with_reducible rfl))
  try simp only [Act.put, List.setIfInBounds_toArray, List.set_cons_zero, List.set_cons_succ]
  refine takeH (i := 13) (some 49) (v := ?_) rfl rfl (by kernel_rfl) (by kernel_rfl) (by kernel_rfl) (fun _ _ _ h => h) (Or.inl ⟨by rfl, ?hy13⟩) hHeld ?rest13
  case hy13 => (intro w hSw; (try dsimp only at hSw); go_simp; (try with_reducible rfl))
  try simp only [Act.put, List.setIfInBounds_toArray, List.set_cons_zero, List.set_cons_succ]
  refine takeH (i := 14) (some 50) (v := ?_) rfl rfl (by kernel_rfl) (by kernel_rfl) (by kernel_rfl) (fun _ _ _ h => h) (Or.inl ⟨by rfl, ?hy14⟩) hHeld ?rest14
  case hy14 => (intro w hSw; (try dsimp only at hSw); go_simp; (try with_reducible rfl))
  try simp only [Act.put, List.setIfInBounds_toArray, List.set_cons_zero, List.set_cons_succ]
  refine wpAnyH_ready (rs := [12]) (by kernel_rfl) (by simp) ?_
  refine AllReadyH.cons rfl (fun K hK => ?_) AllReadyH.nil
  go_simp
  with_reducible refine (N1.out _).mono ?_; rintro e wn ⟨rfl, pB⟩; have sB := btr hHeld.2.2.2 pB; clear pB hHeld
  refine hK.out _ _ ?_ (fun hHeld => ?_)
  · (first | with_reducible assumption | exact MK.out _ (by with_reducible assumption) | exact MK.out _ (below_drew (by with_reducible assumption)))
  clear hK K
  try simp only [Act.put, List.setIfInBounds_toArray, List.set_cons_zero, List.set_cons_succ]
  refine takeH (i := 15) (some 51) (v := ?_) rfl rfl (by kernel_rfl) (by kernel_rfl) (by kernel_rfl) (fun _ _ _ h => h) (Or.inl ⟨by rfl, ?hy15⟩) hHeld ?rest15
  case hy15 => (intro w hSw; (try dsimp only at hSw); go_simp; (try with_reducible rfl))
  try simp only [Act.put, List.setIfInBounds_toArray, List.set_cons_zero, List.set_cons_succ]
  refine takeH (i := 16) (some 52) (v := ?_) rfl rfl (by kernel_rfl) (by kernel_rfl) (by kernel_rfl) (fun _ _ _ h => h) (Or.inl ⟨by rfl, ?hy16⟩) hHeld ?rest16
  case hy16 => (intro w hSw; (try dsimp only at hSw); go_simp; (try with_reducible rfl))
  try simp only [Act.put, List.setIfInBounds_toArray, List.set_cons_zero, List.set_cons_succ]
  refine takeH (i := 17) (some 53) (v := ?_) rfl rfl (by kernel_rfl) (by kernel_rfl) (by kernel_rfl) (fun _ _ _ h => h) (Or.inl ⟨by rfl, ?hy17⟩) hHeld ?rest17
  case hy17 => (intro w hSw; (try dsimp only at hSw); go_simp; (try with_reducible rfl))
  try simp only [Act.put, List.setIfInBounds_toArray, List.set_cons_zero, List.set_cons_succ]
  refine takeH (i := 18) (some 54) (v := ?_) rfl rfl (by kernel_rfl) (by kernel_rfl) (by kernel_rfl) (fun _ _ _ h => h) (Or.inl ⟨by rfl, ?hy18⟩) hHeld ?rest18
  case hy18 => (intro w hSw; (try dsimp only at hSw); go_simp; (try with_reducible rfl))
  try simp only [Act.put, List.setIfInBounds_toArray, List.set_cons_zero, List.set_cons_succ]
  refine takeH (i := 19) (some 55) (v := ?_) rfl rfl (by kernel_rfl) (by kernel_rfl) (by kernel_rfl) (fun _ _ _ h => h) (Or.inl ⟨by rfl, ?hy19⟩) hHeld ?rest19
  case hy19 => (intro w hSw; (try dsimp only at hSw); go_simp; (try with_reducible rfl))
  try simp only [Act.put, List.setIfInBounds_toArray, List.set_cons_zero, List.set_cons_succ]
  refine takeH (i := 21) (some 57) (v := ?_) rfl rfl (by kernel_rfl) (by kernel_rfl) (by kernel_rfl) (fun _ _ _ h => h) (Or.inl ⟨by rfl, ?hy21⟩) hHeld ?rest21
  case hy21 => (intro w hSw; (try dsimp only at hSw); go_simp; (try with_reducible rfl))
  try simp only [Act.put, List.setIfInBounds_toArray, List.set_cons_zero, List.set_cons_succ]
  refine takeH (i := 22) (some 58) (v := ?_) rfl rfl (by kernel_rfl) (by kernel_rfl) (by kernel_rfl) (fun _ _ _ h => h) (Or.inl ⟨by rfl, ?hy22⟩) hHeld ?rest22
  case hy22 => (intro w hSw; (try dsimp only at hSw); go_simp; (try with_reducible rfl))
  try simp only [Act.put, List.setIfInBounds_toArray, List.set_cons_zero, List.set_cons_succ]
  refine takeH (i := 23) (some 59) (v := ?_) rfl rfl (by kernel_rfl) (by kernel_rfl) (by kernel_rfl) (fun _ _ _ h => h) (Or.inl ⟨by rfl, ?hy23⟩) hHeld ?rest23
  case hy23 => (intro w hSw; (try dsimp only at hSw); go_simp; (try with_reducible rfl))
  try simp only [Act.put, List.setIfInBounds_toArray, List.set_cons_zero, List.set_cons_succ]
  refine wpAnyH_ready (rs := [20]) (by kernel_rfl) (by simp) ?_
  refine AllReadyH.cons rfl (fun K hK => ?_) AllReadyH.nil
  go_simp
  with_reducible refine (N2.out _).mono ?_; rintro e wn ⟨rfl, pB⟩; have sB := btr hHeld.2.2.2 pB; clear pB hHeld
  refine hK.out _ _ ?_ (fun hHeld => ?_)
  · (first | with_reducible assumption | exact MK.out _ (by with_reducible assumption) | exact MK.out _ (below_drew (by with_reducible assumption)))
  clear hK K
  try simp only [Act.put, List.setIfInBounds_toArray, List.set_cons_zero, List.set_cons_succ]
  refine takeH (i := 24) (some 60) (v := ?_) rfl rfl (by kernel_rfl) (by kernel_rfl) (by kernel_rfl) (fun _ _ _ h => h) (Or.inl ⟨by rfl, ?hy24⟩) hHeld ?rest24
  case hy24 => (intro w hSw; (try dsimp only at hSw); go_simp; (try with_reducible rfl))
  try simp only [Act.put, List.setIfInBounds_toArray, List.set_cons_zero, List.set_cons_succ]
  refine takeH (i := 25) (some 61) (v := ?_) rfl rfl (by kernel_rfl) (by kernel_rfl) (by kernel_rfl) (fun _ _ _ h => h) (Or.inl ⟨by rfl, ?hy25⟩) hHeld ?rest25
  case hy25 => (intro w hSw; (try dsimp only at hSw); go_simp; (try with_reducible rfl))
  try simp only [Act.put, List.setIfInBounds_toArray, List.set_cons_zero, List.set_cons_succ]
  refine takeH (i := 26) (some 62) (v := ?_) rfl rfl (by kernel_rfl) (by kernel_rfl) (by kernel_rfl) (fun _ _ _ h => h) (Or.inl ⟨by rfl, ?hy26⟩) hHeld ?rest26
  case hy26 => (intro w hSw; (try dsimp only at hSw); go_simp; (try with_reducible rfl))
  try simp only [Act.put, List.setIfInBounds_toArray, List.set_cons_zero, List.set_cons_succ]
  refine takeH (i := 27) (some 63) (v := ?_) rfl rfl (by kernel_rfl) (by kernel_rfl) (by kernel_rfl) (fun _ _ _ h => h) (Or.inl ⟨by rfl, ?hy27⟩) hHeld ?rest27
  case hy27 => (intro w hSw; (try dsimp only at hSw); go_simp; (try with_reducible rfl))
  try simp only [Act.put, List.setIfInBounds_toArray, List.set_cons_zero, List.set_cons_succ]
  refine takeH (i := 28) (some 64) (v := ?_) rfl rfl (by kernel_rfl) (by kernel_rfl) (by kernel_rfl) (fun _ _ _ h => h) (Or.inl ⟨by rfl, ?hy28⟩) hHeld ?rest28
  case hy28 => (intro w hSw; (try dsimp only at hSw); go_simp; (try with_reducible rfl))
  try simp only [Act.put, List.setIfInBounds_toArray, List.set_cons_zero, List.set_cons_succ]
  refine takeH (i := 29) (some 65) (v := ?_) rfl rfl (by kernel_rfl) (by kernel_rfl) (by kernel_rfl) (fun _ _ _ h => h) (Or.inl ⟨by rfl, ?hy29⟩) hHeld ?rest29
  case hy29 => (intro w hSw; (try dsimp only at hSw); go_simp; (try with_reducible rfl))
  try simp only [Act.put, List.setIfInBounds_toArray, List.set_cons_zero, List.set_cons_succ]
  refine takeH (i := 30) (some 66) (v := ?_) rfl rfl (by kernel_rfl) (by kernel_rfl) (by kernel_rfl) (fun _ _ _ h => h) (Or.inl ⟨by rfl, ?hy30⟩) hHeld ?rest30
  case hy30 => (intro w hSw; (try dsimp only at hSw); go_simp; (try with_reducible rfl))
  try simp only [Act.put, List.setIfInBounds_toArray, List.set_cons_zero, List.set_cons_succ]
  refine takeH (i := 31) (some 67) (v := ?_) rfl rfl (by kernel_rfl) (by kernel_rfl) (by kernel_rfl) (fun _ _ _ h => h) (Or.inl ⟨by rfl, ?hy31⟩) hHeld ?rest31
  case hy31 => (intro w hSw; (try dsimp only at hSw); go_simp; (try with_reducible rfl))
  try simp only [Act.put, List.setIfInBounds_toArray, List.set_cons_zero, List.set_cons_succ]
  refine takeH (i := 32) (some 68) (v := ?_) rfl rfl (by kernel_rfl) (by kernel_rfl) (by kernel_rfl) (fun _ _ _ h => h) (Or.inl ⟨by rfl, ?hy32⟩) hHeld ?rest32
  case hy32 => (intro w hSw; (try dsimp only at hSw); go_simp; (try with_reducible rfl))
  try simp only [Act.put, List.setIfInBounds_toArray, List.set_cons_zero, List.set_cons_succ]
  refine takeH (i := 33) (some 2) (v := ?_) rfl rfl (by kernel_rfl) (by kernel_rfl) (by kernel_rfl) (fun _ _ _ h => h) (Or.inl ⟨by rfl, ?hy33⟩) hHeld ?rest33
  case hy33 => (intro w hSw; (try dsimp only at hSw); go_simp; (try with_reducible rfl))
  try simp only [Act.put, List.setIfInBounds_toArray, List.set_cons_zero, List.set_cons_succ]
  refine wpAnyH_done (by kernel_rfl) ?_ _
  go_wp2
  go_ret
  exact ⟨ret_bool (by first | rfl | (simp <;> omega)), btr HB.out hHeld.2.2.2⟩
theorem sl_of {s : ByteArray} {i j : Nat} (_hi : i ≤ j) (_hj : j ≤ s.size) : (s.extract i j).data.toList = List.take (j - i) (List.drop i s.data.toList) := by
  rw [ByteArray.data_extract]
  simp only [Array.toList_extract, List.extract_eq_take_drop]
theorem wireSizes_c (k st : Int) (d0 : ByteArray) (hk : (Lit.int .i64 k).wf = true) (w : World) (hL : ErrT w) : Calls Tryd.prog 9 #[.agg #[.int .i64 k, .int .i64 st, .string d0]] w fun x w' => x = .returned (.bool true) ∧ Below w.heap.size w w' := by
  have S0 := Lib.hid (fun W h => shown_c W h)
  have CU := Lib.hid (fun b W h => cut1_c (k, st, d0) b (0, 0) W h)
  cases hr : rightF (k, st, cutD d0) with
  | false =>
    have E1 := Lib.hid (fun W => enc_no (f := (k, st, cutD d0)) hk hr W)
    have R1 := Lib.hid (fun W => right_c k st (cutD d0) hk W)
    rw [show rightW k st (cutD d0).size = false from hr] at R1
    exact sizes_no k st d0 (cutD d0) w hL S0 CU E1 R1
  | true =>
    obtain ⟨h1, h2, h3, h4, h5⟩ := right_facts hr
    simp only at h1 h2 h3 h4 h5
    have E1 := Lib.hid (fun W => enc_yes (f := (k, st, cutD d0)) hr W)
    have hl : (⟨(encL (k, st, cutD d0)).toArray⟩ : ByteArray).data.toList = encL (k, st, cutD d0) := by simp
    have hsz : (⟨(encL (k, st, cutD d0)).toArray⟩ : ByteArray).size = 5 + (cutD d0).size := by
      show (encL (k, st, cutD d0)).toArray.size = _
      rw [List.size_toArray, encL_length]
    generalize (⟨(encL (k, st, cutD d0)).toArray⟩ : ByteArray) = tt at *
    have hp := enc_hd hr []
    rw [List.append_nil] at hp
    have a1 : (tt.extract 1 3).data.toList = List.take 2 (List.drop 1 (encL (k, st, cutD d0))) := by rw [sl_of (by omega) (by omega), hl]
    have a2 : (tt.extract 3 5).data.toList = List.take 2 (List.drop 3 (encL (k, st, cutD d0))) := by rw [sl_of (by omega) (by omega), hl]
    have N1 := Lib.hid (fun W => number_c (tt.extract 1 3) W)
    have N2 := Lib.hid (fun W => number_c (tt.extract 3 5) W)
    rw [a1, show numB (List.take 2 (List.drop 1 (encL (k, st, cutD d0)))) = st from hp.2.2.1] at N1
    rw [a2, show numB (List.take 2 (List.drop 3 (encL (k, st, cutD d0)))) = ((cutD d0).size : Int) from hp.2.2.2.1] at N2
    refine sizes_yes k st d0 (cutD d0) tt _ _ k.toNat (by omega) (by omega) w hL S0 CU E1 hsz (by have := cutD_size d0; omega) (fun W => ?_) (fun W => ?_) (fun W => ?_) (fun W => ?_) N1 N2
    · rw [run_index_string (P := Tryd.prog) W 9 tt .i64 0 (by kernel_rfl), dif_pos ⟨by omega, by omega⟩]
      have h0 : tt[0]'(by omega) = UInt8.ofNat k.toNat := by
        have : tt.data.toList[0]? = some (UInt8.ofNat k.toNat) := by rw [hl]; rfl
        have h9 : tt.data.toList[0]? = some (tt[0]'(by omega)) := by
          rw [List.getElem?_eq_getElem (by simp; omega)]; rfl
        exact Option.some.inj (h9.symm.trans this)
      show Result.ok (Value.int .u8 ((tt[0]'(by omega)).toNat : Int)) W = _
      rw [h0, UInt8.toNat_ofNat']
      congr 2
      omega
    · rw [run_slice_string_if (P := Tryd.prog) (w := W) (h := by kernel_rfl), if_pos ⟨by omega, by omega⟩, if_pos ⟨by omega, by omega⟩]
      rfl
    · rw [run_slice_string_if (P := Tryd.prog) (w := W) (h := by kernel_rfl), if_pos ⟨by omega, by omega⟩, if_pos ⟨by omega, by omega⟩]
      rfl
    · rw [run_slice_string_from_if (P := Tryd.prog) (w := W) (h := by kernel_rfl), if_pos ⟨by omega, by omega⟩]
      congr 2
      refine bytes_ext ?_
      show (tt.extract 5 tt.size).data.toList = _
      rw [sl_of (by omega) (by omega), hl, hsz]
      show List.take (5 + (cutD d0).size - 5) (cutD d0).data.toList = _
      exact List.take_of_length_le (by simp)
end Go.Proofs.YtdcnpcdohgecbaaDoor

/- AddrHas: what it says, walked. -/
import Derived.Test.YtlmgdhhlflmghaaDoorS
namespace Go.Proofs.YtlmgdhhlflmghaaDoor
open Go.RowKit Go.Shelf
attribute [local go_sem] Oper.semAt_some


set_option maxRecDepth 100000 in
set_option maxHeartbeats 4000000 in
theorem hasL_c (A K B L a k : Int) (w : World) (hT : Tabs w) : Calls Tryd.prog 4 #[.agg #[.int .i64 A, .int .i64 K], .agg #[.int .i64 B, .int .i64 L], .int .i64 a, .int .i64 k] w fun x w' => x = .returned (.bool true) ∧ Below w.heap.size w w' := by
  have HS := Lib.hid (fun W h => shown_c W h)
  have HT := Lib.hid hT
  have E1 := fun W => ends_c A K W
  have E2 := fun W => rends_c A K W
  have O1 := fun W => of_c a k W
  have O2 := fun W => rof_c a k W
  have G1 := fun W => has_c A K a W
  have G2 := fun W => rhas_c A K a W
  have J1 := fun W => in_c A K B L W
  have J2 := fun W => rin_c A K B L W
  generalize endsA A K = x1 at *
  generalize endsT A K = x2 at *
  generalize endsE A K = x3 at *
  generalize ofA a k = x4 at *
  generalize ofK a k = x5 at *
  generalize ofE a k = x6 at *
  generalize hasB A K a = x7 at *
  generalize inB A K B L = x8 at *
  replace E1 := Lib.hid E1
  replace E2 := Lib.hid E2
  replace O1 := Lib.hid O1
  replace O2 := Lib.hid O2
  replace G1 := Lib.hid G1
  replace G2 := Lib.hid G2
  replace J1 := Lib.hid J1
  replace J2 := Lib.hid J2
  clear hT
  go_enter Tryd.func4, Tryd.ntmps4
  go_wp2_with fail
  have x00 : ((w.alloc (.cells #[.int .i64 A, .int .i64 K] 23)).alloc (.cells #[.int .i64 B, .int .i64 L] 23)).cell? ⟨w.heap.size, 0, none⟩ = some (.int .i64 A) := by go_simp
  have x01 : ((w.alloc (.cells #[.int .i64 A, .int .i64 K] 23)).alloc (.cells #[.int .i64 B, .int .i64 L] 23)).cell? ⟨w.heap.size, 1, none⟩ = some (.int .i64 K) := by go_simp
  have x10 : ((w.alloc (.cells #[.int .i64 A, .int .i64 K] 23)).alloc (.cells #[.int .i64 B, .int .i64 L] 23)).cell? ⟨w.heap.size + 1, 0, none⟩ = some (.int .i64 B) := by go_simp
  have x11 : ((w.alloc (.cells #[.int .i64 A, .int .i64 K] 23)).alloc (.cells #[.int .i64 B, .int .i64 L] 23)).cell? ⟨w.heap.size + 1, 1, none⟩ = some (.int .i64 L) := by go_simp
  have B0 : Below w.heap.size w ((w.alloc (.cells #[.int .i64 A, .int .i64 K] 23)).alloc (.cells #[.int .i64 B, .int .i64 L] 23)) := (bal ((bal (Below.refl _ _) _)) _)
  generalize ((w.alloc (.cells #[.int .i64 A, .int .i64 K] 23)).alloc (.cells #[.int .i64 B, .int .i64 L] 23)) = U at *
  have KK := Lib.hid (show ∀ W, Below U.heap.size U W → W.cell? ⟨w.heap.size, 0, none⟩ = some (.int .i64 A) ∧ W.cell? ⟨w.heap.size, 1, none⟩ = some (.int .i64 K) ∧ W.cell? ⟨w.heap.size + 1, 0, none⟩ = some (.int .i64 B) ∧ W.cell? ⟨w.heap.size + 1, 1, none⟩ = some (.int .i64 L) from fun W h => ⟨(h.cell (p := ⟨w.heap.size, 0, none⟩) (blt x00)).trans x00, (h.cell (p := ⟨w.heap.size, 1, none⟩) (blt x00)).trans x01, (h.cell (p := ⟨w.heap.size + 1, 0, none⟩) (blt x10)).trans x10, (h.cell (p := ⟨w.heap.size + 1, 1, none⟩) (blt x10)).trans x11⟩)
  refine (HS.out _ (HT.out.on B0)).mono ?_; rintro e w1 ⟨rfl, hb⟩
  have B1 := Lib.hid (btr B0 hb)
  have C1 := Lib.hid (btr (Below.refl _ _) hb)
  clear hb x00 x01 x10 x11
  obtain ⟨c1_00, c1_01, c1_10, c1_11⟩ := KK.out w1 C1.out
  go_wp2_with fail
  refine (E1.out _).mono ?_; rintro e w2 ⟨rfl, hb⟩
  have B2 := Lib.hid (btr B1.out hb)
  have C2 := Lib.hid (btr C1.out hb)
  clear hb c1_00 c1_01 c1_10 c1_11
  obtain ⟨c2_00, c2_01, c2_10, c2_11⟩ := KK.out w2 C2.out
  go_wp2_with fail
  refine (E2.out _).mono ?_; rintro e w3 ⟨rfl, hb⟩
  have B3 := Lib.hid (btr B2.out hb)
  have C3 := Lib.hid (btr C2.out hb)
  clear hb c2_00 c2_01 c2_10 c2_11
  obtain ⟨c3_00, c3_01, c3_10, c3_11⟩ := KK.out w3 C3.out
  go_wp2_with fail
  refine (O1.out _).mono ?_; rintro e w4 ⟨rfl, hb⟩
  have B4 := Lib.hid (btr B3.out hb)
  have C4 := Lib.hid (btr C3.out hb)
  clear hb c3_00 c3_01 c3_10 c3_11
  obtain ⟨c4_00, c4_01, c4_10, c4_11⟩ := KK.out w4 C4.out
  clear KK
  have bA := bal (Below.refl w4.heap.size w4) (.cells #[.int .i64 x4, .int .i64 x5] 23)
  have z0 := (bA.cell (p := ⟨w.heap.size, 0, none⟩) (blt c4_00)).trans c4_00
  have z1 := (bA.cell (p := ⟨w.heap.size, 1, none⟩) (blt c4_01)).trans c4_01
  have z2 := (bA.cell (p := ⟨w.heap.size + 1, 0, none⟩) (blt c4_10)).trans c4_10
  have z3 := (bA.cell (p := ⟨w.heap.size + 1, 1, none⟩) (blt c4_11)).trans c4_11
  have BU := bal B4.out (.cells #[.int .i64 x4, .int .i64 x5] 23)
  clear bA c4_00 c4_01 c4_10 c4_11
  go_wp2_with fail
  have y0 : (w4.alloc (.cells #[.int .i64 x4, .int .i64 x5] 23)).cell? ⟨w4.heap.size, 0, none⟩ = some (.int .i64 x4) := by go_simp
  have y1 : (w4.alloc (.cells #[.int .i64 x4, .int .i64 x5] 23)).cell? ⟨w4.heap.size, 1, none⟩ = some (.int .i64 x5) := by go_simp
  generalize (w4.alloc (.cells #[.int .i64 x4, .int .i64 x5] 23)) = X at *
  refine (O2.out _).mono ?_; rintro e w5 ⟨rfl, hb⟩
  have B5 := Lib.hid (btr BU hb)
  have bR := bal hb (.cells #[.int .i64 x4, .int .i64 x5] 23)
  have p0 := (bR.cell (p := ⟨w4.heap.size, 0, none⟩) (blt y0)).trans y0
  have p1 := (bR.cell (p := ⟨w4.heap.size, 1, none⟩) (blt y0)).trans y1
  have q0 := (bR.cell (p := ⟨w.heap.size, 0, none⟩) (blt z0)).trans z0
  have q1 := (bR.cell (p := ⟨w.heap.size, 1, none⟩) (blt z1)).trans z1
  have q2 := (bR.cell (p := ⟨w.heap.size + 1, 0, none⟩) (blt z2)).trans z2
  have q3 := (bR.cell (p := ⟨w.heap.size + 1, 1, none⟩) (blt z3)).trans z3
  have HA := Lib.hid (bal B5.out (.cells #[.int .i64 x4, .int .i64 x5] 23))
  clear hb y0 y1 z0 z1 z2 z3 BU bR
  go_wp2_with fail
  have r0 : (w5.alloc (.cells #[.int .i64 x4, .int .i64 x5] 23)).cell? ⟨w5.heap.size, 0, none⟩ = some (.int .i64 x4) := by go_simp
  have r1 : (w5.alloc (.cells #[.int .i64 x4, .int .i64 x5] 23)).cell? ⟨w5.heap.size, 1, none⟩ = some (.int .i64 x5) := by go_simp
  generalize (w5.alloc (.cells #[.int .i64 x4, .int .i64 x5] 23)) = U at *
  have u0 : Below U.heap.size U U := Below.refl _ U
  have MK := Lib.hid (show ∀ w', Below U.heap.size U w' → w'.cell? ⟨w.heap.size, 0, none⟩ = some (.int .i64 A) ∧ w'.cell? ⟨w.heap.size, 1, none⟩ = some (.int .i64 K) ∧ w'.cell? ⟨w.heap.size + 1, 0, none⟩ = some (.int .i64 B) ∧ w'.cell? ⟨w.heap.size + 1, 1, none⟩ = some (.int .i64 L) ∧ w'.cell? ⟨w4.heap.size, 0, none⟩ = some (.int .i64 x4) ∧ w'.cell? ⟨w4.heap.size, 1, none⟩ = some (.int .i64 x5) ∧ w'.cell? ⟨w5.heap.size, 0, none⟩ = some (.int .i64 x4) ∧ w'.cell? ⟨w5.heap.size, 1, none⟩ = some (.int .i64 x5) ∧ Below U.heap.size U w' from
    (fun w' h => ⟨(h.cell (p := ⟨w.heap.size, 0, none⟩) (blt q0)).trans q0, (h.cell (p := ⟨w.heap.size, 1, none⟩) (blt q0)).trans q1, (h.cell (p := ⟨w.heap.size + 1, 0, none⟩) (blt q2)).trans q2, (h.cell (p := ⟨w.heap.size + 1, 1, none⟩) (blt q2)).trans q3, (h.cell (p := ⟨w4.heap.size, 0, none⟩) (blt p0)).trans p0, (h.cell (p := ⟨w4.heap.size, 1, none⟩) (blt p0)).trans p1, (h.cell (p := ⟨w5.heap.size, 0, none⟩) (blt r0)).trans r0, (h.cell (p := ⟨w5.heap.size, 1, none⟩) (blt r0)).trans r1, h⟩))
  clear q0 q1 q2 q3 p0 p1 r0 r1
  refine wp_region_held_drew (S := (fun w' => w'.cell? ⟨w.heap.size, 0, none⟩ = some (.int .i64 A) ∧ w'.cell? ⟨w.heap.size, 1, none⟩ = some (.int .i64 K) ∧ w'.cell? ⟨w.heap.size + 1, 0, none⟩ = some (.int .i64 B) ∧ w'.cell? ⟨w.heap.size + 1, 1, none⟩ = some (.int .i64 L) ∧ w'.cell? ⟨w4.heap.size, 0, none⟩ = some (.int .i64 x4) ∧ w'.cell? ⟨w4.heap.size, 1, none⟩ = some (.int .i64 x5) ∧ w'.cell? ⟨w5.heap.size, 0, none⟩ = some (.int .i64 x4) ∧ w'.cell? ⟨w5.heap.size, 1, none⟩ = some (.int .i64 x5) ∧ Below U.heap.size U w')) (by kernel_rfl) ?_ (fun hHeld => ?_)
  · (first | with_reducible assumption | exact MK.out _ (by with_reducible assumption) | exact MK.out _ (below_drew (by with_reducible assumption)))
  refine takeH (i := 0) (some 45) (v := ?_) rfl rfl (by kernel_rfl) (by kernel_rfl) (by kernel_rfl) (fun _ _ _ h => h) (Or.inl ⟨by rfl, ?hy0⟩) hHeld ?rest0
  case hy0 => (intro w hSw; (try dsimp only at hSw); go_simp; (try with_reducible rfl))
  try simp only [Act.put, List.setIfInBounds_toArray, List.set_cons_zero, List.set_cons_succ]
  refine takeH (i := 1) (some 46) (v := ?_) rfl rfl (by kernel_rfl) (by kernel_rfl) (by kernel_rfl) (fun _ _ _ h => h) (Or.inl ⟨by rfl, ?hy1⟩) hHeld ?rest1
  case hy1 => (intro w hSw; (try dsimp only at hSw); go_simp; (try with_reducible rfl))
  try simp only [Act.put, List.setIfInBounds_toArray, List.set_cons_zero, List.set_cons_succ]
  refine takeH (i := 2) (some 47) (v := ?_) rfl rfl (by kernel_rfl) (by kernel_rfl) (by kernel_rfl) (fun _ _ _ h => h) (Or.inl ⟨by rfl, ?hy2⟩) hHeld ?rest2
  case hy2 => (intro w hSw; (try dsimp only at hSw); go_simp; (try with_reducible rfl))
  try simp only [Act.put, List.setIfInBounds_toArray, List.set_cons_zero, List.set_cons_succ]
  refine takeH (i := 3) (some 48) (v := ?_) rfl rfl (by kernel_rfl) (by kernel_rfl) (by kernel_rfl) (fun _ _ _ h => h) (Or.inl ⟨by rfl, ?hy3⟩) hHeld ?rest3
  case hy3 => (intro w hSw; (try dsimp only at hSw); go_simp; (try with_reducible rfl))
  try simp only [Act.put, List.setIfInBounds_toArray, List.set_cons_zero, List.set_cons_succ]
  refine takeH (i := 5) (some 50) (v := ?_) rfl rfl (by kernel_rfl) (by kernel_rfl) (by kernel_rfl) (fun _ _ _ h => h) (Or.inl ⟨by rfl, ?hy5⟩) hHeld ?rest5
  case hy5 => (intro w hSw; (try dsimp only at hSw); go_simp; (try with_reducible rfl))
  try simp only [Act.put, List.setIfInBounds_toArray, List.set_cons_zero, List.set_cons_succ]
  refine takeH (i := 6) (some 51) (v := ?_) rfl rfl (by kernel_rfl) (by kernel_rfl) (by kernel_rfl) (fun _ _ _ h => h) (Or.inl ⟨by rfl, ?hy6⟩) hHeld ?rest6
  case hy6 => (intro w hSw; (try dsimp only at hSw); go_simp; (try with_reducible rfl))
  try simp only [Act.put, List.setIfInBounds_toArray, List.set_cons_zero, List.set_cons_succ]
  refine wpAnyH_ready (rs := [4]) (by kernel_rfl) (by simp) ?_
  refine AllReadyH.cons rfl (fun K hK => ?_) AllReadyH.nil
  go_simp
  with_reducible refine (G1.out _).mono ?_; rintro e wn ⟨rfl, pB⟩; have sB := btr hHeld.2.2.2.2.2.2.2.2 pB; clear pB hHeld
  refine hK.out _ _ ?_ (fun hHeld => ?_)
  · (first | with_reducible assumption | exact MK.out _ (by with_reducible assumption) | exact MK.out _ (below_drew (by with_reducible assumption)))
  clear hK K
  try simp only [Act.put, List.setIfInBounds_toArray, List.set_cons_zero, List.set_cons_succ]
  refine wpAnyH_ready (rs := [7]) (by kernel_rfl) (by simp) ?_
  refine AllReadyH.cons rfl (fun K hK => ?_) AllReadyH.nil
  go_simp
  with_reducible refine (G2.out _).mono ?_; rintro e wn ⟨rfl, pB⟩; have sB := btr hHeld.2.2.2.2.2.2.2.2 pB; clear pB hHeld
  refine hK.out _ _ ?_ (fun hHeld => ?_)
  · (first | with_reducible assumption | exact MK.out _ (by with_reducible assumption) | exact MK.out _ (below_drew (by with_reducible assumption)))
  clear hK K
  try simp only [Act.put, List.setIfInBounds_toArray, List.set_cons_zero, List.set_cons_succ]
  refine takeH (i := 8) (some 53) (v := ?_) rfl rfl (by kernel_rfl) (by kernel_rfl) (by kernel_rfl) (fun _ _ _ h => h) (Or.inl ⟨by rfl, ?hy8⟩) hHeld ?rest8
  case hy8 => (intro w hSw; (try dsimp only at hSw); go_simp; (try with_reducible rfl))
  try simp only [Act.put, List.setIfInBounds_toArray, List.set_cons_zero, List.set_cons_succ]
  refine takeH (i := 9) (some 54) (v := ?_) rfl rfl (by kernel_rfl) (by kernel_rfl) (by kernel_rfl) (fun _ _ _ h => h) (Or.inl ⟨by rfl, ?hy9⟩) hHeld ?rest9
  case hy9 => (intro w hSw; (try dsimp only at hSw); go_simp; (try with_reducible rfl))
  try simp only [Act.put, List.setIfInBounds_toArray, List.set_cons_zero, List.set_cons_succ]
  refine takeH (i := 10) (some 55) (v := ?_) rfl rfl (by kernel_rfl) (by kernel_rfl) (by kernel_rfl) (fun _ _ _ h => h) (Or.inl ⟨by rfl, ?hy10⟩) hHeld ?rest10
  case hy10 => (intro w hSw; (try dsimp only at hSw); go_simp; (try with_reducible rfl))
  try simp only [Act.put, List.setIfInBounds_toArray, List.set_cons_zero, List.set_cons_succ]
  refine takeH (i := 11) (some 56) (v := ?_) rfl rfl (by kernel_rfl) (by kernel_rfl) (by kernel_rfl) (fun _ _ _ h => h) (Or.inl ⟨by rfl, ?hy11⟩) hHeld ?rest11
  case hy11 => (intro w hSw; (try dsimp only at hSw); go_simp; (try with_reducible rfl))
  try simp only [Act.put, List.setIfInBounds_toArray, List.set_cons_zero, List.set_cons_succ]
  refine takeH (i := 12) (some 57) (v := ?_) rfl rfl (by kernel_rfl) (by kernel_rfl) (by kernel_rfl) (fun _ _ _ h => h) (Or.inl ⟨by rfl, ?hy12⟩) hHeld ?rest12
  case hy12 => (intro w hSw; (try dsimp only at hSw); go_simp; (try with_reducible rfl))
  try simp only [Act.put, List.setIfInBounds_toArray, List.set_cons_zero, List.set_cons_succ]
  refine takeH (i := 14) (some 59) (v := ?_) rfl rfl (by kernel_rfl) (by kernel_rfl) (by kernel_rfl) (fun _ _ _ h => h) (Or.inl ⟨by rfl, ?hy14⟩) hHeld ?rest14
  case hy14 => (intro w hSw; (try dsimp only at hSw); go_simp; (try with_reducible rfl))
  try simp only [Act.put, List.setIfInBounds_toArray, List.set_cons_zero, List.set_cons_succ]
  refine takeH (i := 15) (some 60) (v := ?_) rfl rfl (by kernel_rfl) (by kernel_rfl) (by kernel_rfl) (fun _ _ _ h => h) (Or.inl ⟨by rfl, ?hy15⟩) hHeld ?rest15
  case hy15 => (intro w hSw; (try dsimp only at hSw); go_simp; (try with_reducible rfl))
  try simp only [Act.put, List.setIfInBounds_toArray, List.set_cons_zero, List.set_cons_succ]
  refine wpAnyH_ready (rs := [13]) (by kernel_rfl) (by simp) ?_
  refine AllReadyH.cons rfl (fun K hK => ?_) AllReadyH.nil
  go_simp
  with_reducible refine (J1.out _).mono ?_; rintro e wn ⟨rfl, pB⟩; have sB := btr hHeld.2.2.2.2.2.2.2.2 pB; clear pB hHeld
  refine hK.out _ _ ?_ (fun hHeld => ?_)
  · (first | with_reducible assumption | exact MK.out _ (by with_reducible assumption) | exact MK.out _ (below_drew (by with_reducible assumption)))
  clear hK K
  try simp only [Act.put, List.setIfInBounds_toArray, List.set_cons_zero, List.set_cons_succ]
  refine wpAnyH_ready (rs := [16]) (by kernel_rfl) (by simp) ?_
  refine AllReadyH.cons rfl (fun K hK => ?_) AllReadyH.nil
  go_simp
  with_reducible refine (J2.out _).mono ?_; rintro e wn ⟨rfl, pB⟩; have sB := btr hHeld.2.2.2.2.2.2.2.2 pB; clear pB hHeld
  refine hK.out _ _ ?_ (fun hHeld => ?_)
  · (first | with_reducible assumption | exact MK.out _ (by with_reducible assumption) | exact MK.out _ (below_drew (by with_reducible assumption)))
  clear hK K
  try simp only [Act.put, List.setIfInBounds_toArray, List.set_cons_zero, List.set_cons_succ]
  refine takeH (i := 17) (some 62) (v := ?_) rfl rfl (by kernel_rfl) (by kernel_rfl) (by kernel_rfl) (fun _ _ _ h => h) (Or.inl ⟨by rfl, ?hy17⟩) hHeld ?rest17
  case hy17 => (intro w hSw; (try dsimp only at hSw); go_simp; (try with_reducible rfl))
  try simp only [Act.put, List.setIfInBounds_toArray, List.set_cons_zero, List.set_cons_succ]
  refine takeH (i := 18) (some 63) (v := ?_) rfl rfl (by kernel_rfl) (by kernel_rfl) (by kernel_rfl) (fun _ _ _ h => h) (Or.inl ⟨by rfl, ?hy18⟩) hHeld ?rest18
  case hy18 => (intro w hSw; (try dsimp only at hSw); go_simp; (try with_reducible rfl))
  try simp only [Act.put, List.setIfInBounds_toArray, List.set_cons_zero, List.set_cons_succ]
  refine takeH (i := 19) (some 64) (v := ?_) rfl rfl (by kernel_rfl) (by kernel_rfl) (by kernel_rfl) (fun _ _ _ h => h) (Or.inl ⟨by rfl, ?hy19⟩) hHeld ?rest19
  case hy19 => (intro w hSw; (try dsimp only at hSw); go_simp; (try with_reducible rfl))
  try simp only [Act.put, List.setIfInBounds_toArray, List.set_cons_zero, List.set_cons_succ]
  refine takeH (i := 20) (some 65) (v := ?_) rfl rfl (by kernel_rfl) (by kernel_rfl) (by kernel_rfl) (fun _ _ _ h => h) (Or.inl ⟨by rfl, ?hy20⟩) hHeld ?rest20
  case hy20 => (intro w hSw; (try dsimp only at hSw); go_simp; (try with_reducible rfl))
  try simp only [Act.put, List.setIfInBounds_toArray, List.set_cons_zero, List.set_cons_succ]
  refine takeH (i := 21) (some 66) (v := ?_) rfl rfl (by kernel_rfl) (by kernel_rfl) (by kernel_rfl) (fun _ _ _ h => h) (Or.inl ⟨by rfl, ?hy21⟩) hHeld ?rest21
  case hy21 => (intro w hSw; (try dsimp only at hSw); go_simp; (try with_reducible rfl))
  try simp only [Act.put, List.setIfInBounds_toArray, List.set_cons_zero, List.set_cons_succ]
  refine takeH (i := 22) (some 67) (v := ?_) rfl rfl (by kernel_rfl) (by kernel_rfl) (by kernel_rfl) (fun _ _ _ h => h) (Or.inl ⟨by rfl, ?hy22⟩) hHeld ?rest22
  case hy22 => (intro w hSw; (try dsimp only at hSw); go_simp; (try with_reducible rfl))
  try simp only [Act.put, List.setIfInBounds_toArray, List.set_cons_zero, List.set_cons_succ]
  refine takeH (i := 23) (some 68) (v := ?_) rfl rfl (by kernel_rfl) (by kernel_rfl) (by kernel_rfl) (fun _ _ _ h => h) (Or.inl ⟨by rfl, ?hy23⟩) hHeld ?rest23
  case hy23 => (intro w hSw; (try dsimp only at hSw); go_simp; (try with_reducible rfl))
  try simp only [Act.put, List.setIfInBounds_toArray, List.set_cons_zero, List.set_cons_succ]
  refine takeH (i := 24) (some 69) (v := ?_) rfl rfl (by kernel_rfl) (by kernel_rfl) (by kernel_rfl) (fun _ _ _ h => h) (Or.inl ⟨by rfl, ?hy24⟩) hHeld ?rest24
  case hy24 => (intro w hSw; (try dsimp only at hSw); go_simp; (try with_reducible rfl))
  try simp only [Act.put, List.setIfInBounds_toArray, List.set_cons_zero, List.set_cons_succ]
  refine takeH (i := 25) (some 70) (v := ?_) rfl rfl (by kernel_rfl) (by kernel_rfl) (by kernel_rfl) (fun _ _ _ h => h) (Or.inl ⟨by rfl, ?hy25⟩) hHeld ?rest25
  case hy25 => (intro w hSw; (try dsimp only at hSw); go_simp; (try with_reducible rfl))
  try simp only [Act.put, List.setIfInBounds_toArray, List.set_cons_zero, List.set_cons_succ]
  refine takeH (i := 26) (some 71) (v := ?_) rfl rfl (by kernel_rfl) (by kernel_rfl) (by kernel_rfl) (fun _ _ _ h => h) (Or.inl ⟨by rfl, ?hy26⟩) hHeld ?rest26
  case hy26 => (intro w hSw; (try dsimp only at hSw); go_simp; (try with_reducible rfl))
  try simp only [Act.put, List.setIfInBounds_toArray, List.set_cons_zero, List.set_cons_succ]
  refine takeH (i := 27) (some 72) (v := ?_) rfl rfl (by kernel_rfl) (by kernel_rfl) (by kernel_rfl) (fun _ _ _ h => h) (Or.inl ⟨by rfl, ?hy27⟩) hHeld ?rest27
  case hy27 => (intro w hSw; (try dsimp only at hSw); go_simp; (try with_reducible rfl))
  try simp only [Act.put, List.setIfInBounds_toArray, List.set_cons_zero, List.set_cons_succ]
  refine takeH (i := 28) (some 73) (v := ?_) rfl rfl (by kernel_rfl) (by kernel_rfl) (by kernel_rfl) (fun _ _ _ h => h) (Or.inl ⟨by rfl, ?hy28⟩) hHeld ?rest28
  case hy28 => (intro w hSw; (try dsimp only at hSw); go_simp; (try with_reducible rfl))
  try simp only [Act.put, List.setIfInBounds_toArray, List.set_cons_zero, List.set_cons_succ]
  refine takeH (i := 29) (some 74) (v := ?_) rfl rfl (by kernel_rfl) (by kernel_rfl) (by kernel_rfl) (fun _ _ _ h => h) (Or.inl ⟨by rfl, ?hy29⟩) hHeld ?rest29
  case hy29 => (intro w hSw; (try dsimp only at hSw); go_simp; (try with_reducible rfl))
  try simp only [Act.put, List.setIfInBounds_toArray, List.set_cons_zero, List.set_cons_succ]
  refine takeH (i := 30) (some 75) (v := ?_) rfl rfl (by kernel_rfl) (by kernel_rfl) (by kernel_rfl) (fun _ _ _ h => h) (Or.inl ⟨by rfl, ?hy30⟩) hHeld ?rest30
  case hy30 => (intro w hSw; (try dsimp only at hSw); go_simp; (try with_reducible rfl))
  try simp only [Act.put, List.setIfInBounds_toArray, List.set_cons_zero, List.set_cons_succ]
  refine takeH (i := 31) (some 76) (v := ?_) rfl rfl (by kernel_rfl) (by kernel_rfl) (by kernel_rfl) (fun _ _ _ h => h) (Or.inl ⟨by rfl, ?hy31⟩) hHeld ?rest31
  case hy31 => (intro w hSw; (try dsimp only at hSw); go_simp; (try with_reducible rfl))
  try simp only [Act.put, List.setIfInBounds_toArray, List.set_cons_zero, List.set_cons_succ]
  refine takeH (i := 32) (some 77) (v := ?_) rfl rfl (by kernel_rfl) (by kernel_rfl) (by kernel_rfl) (fun _ _ _ h => h) (Or.inl ⟨by rfl, ?hy32⟩) hHeld ?rest32
  case hy32 => (intro w hSw; (try dsimp only at hSw); go_simp; (try with_reducible rfl))
  try simp only [Act.put, List.setIfInBounds_toArray, List.set_cons_zero, List.set_cons_succ]
  refine takeH (i := 33) (some 78) (v := ?_) rfl rfl (by kernel_rfl) (by kernel_rfl) (by kernel_rfl) (fun _ _ _ h => h) (Or.inl ⟨by rfl, ?hy33⟩) hHeld ?rest33
  case hy33 => (intro w hSw; (try dsimp only at hSw); go_simp; (try with_reducible rfl))
  try simp only [Act.put, List.setIfInBounds_toArray, List.set_cons_zero, List.set_cons_succ]
  refine takeH (i := 34) (some 79) (v := ?_) rfl rfl (by kernel_rfl) (by kernel_rfl) (by kernel_rfl) (fun _ _ _ h => h) (Or.inl ⟨by rfl, ?hy34⟩) hHeld ?rest34
  case hy34 => (intro w hSw; (try dsimp only at hSw); go_simp; (try with_reducible rfl))
  try simp only [Act.put, List.setIfInBounds_toArray, List.set_cons_zero, List.set_cons_succ]
  refine takeH (i := 35) (some 80) (v := ?_) rfl rfl (by kernel_rfl) (by kernel_rfl) (by kernel_rfl) (fun _ _ _ h => h) (Or.inl ⟨by rfl, ?hy35⟩) hHeld ?rest35
  case hy35 => (intro w hSw; (try dsimp only at hSw); go_simp; (try with_reducible rfl))
  try simp only [Act.put, List.setIfInBounds_toArray, List.set_cons_zero, List.set_cons_succ]
  refine takeH (i := 36) (some 81) (v := ?_) rfl rfl (by kernel_rfl) (by kernel_rfl) (by kernel_rfl) (fun _ _ _ h => h) (Or.inl ⟨by rfl, ?hy36⟩) hHeld ?rest36
  case hy36 => (intro w hSw; (try dsimp only at hSw); go_simp; (try with_reducible rfl))
  try simp only [Act.put, List.setIfInBounds_toArray, List.set_cons_zero, List.set_cons_succ]
  refine takeH (i := 37) (some 82) (v := ?_) rfl rfl (by kernel_rfl) (by kernel_rfl) (by kernel_rfl) (fun _ _ _ h => h) (Or.inl ⟨by rfl, ?hy37⟩) hHeld ?rest37
  case hy37 => (intro w hSw; (try dsimp only at hSw); go_simp; (try with_reducible rfl))
  try simp only [Act.put, List.setIfInBounds_toArray, List.set_cons_zero, List.set_cons_succ]
  refine takeH (i := 38) (some 83) (v := ?_) rfl rfl (by kernel_rfl) (by kernel_rfl) (by kernel_rfl) (fun _ _ _ h => h) (Or.inl ⟨by rfl, ?hy38⟩) hHeld ?rest38
  case hy38 => (intro w hSw; (try dsimp only at hSw); go_simp; (try with_reducible rfl))
  try simp only [Act.put, List.setIfInBounds_toArray, List.set_cons_zero, List.set_cons_succ]
  refine takeH (i := 39) (some 84) (v := ?_) rfl rfl (by kernel_rfl) (by kernel_rfl) (by kernel_rfl) (fun _ _ _ h => h) (Or.inl ⟨by rfl, ?hy39⟩) hHeld ?rest39
  case hy39 => (intro w hSw; (try dsimp only at hSw); go_simp; (try with_reducible rfl))
  try simp only [Act.put, List.setIfInBounds_toArray, List.set_cons_zero, List.set_cons_succ]
  refine takeH (i := 40) (some 85) (v := ?_) rfl rfl (by kernel_rfl) (by kernel_rfl) (by kernel_rfl) (fun _ _ _ h => h) (Or.inl ⟨by rfl, ?hy40⟩) hHeld ?rest40
  case hy40 => (intro w hSw; (try dsimp only at hSw); go_simp; (try with_reducible rfl))
  try simp only [Act.put, List.setIfInBounds_toArray, List.set_cons_zero, List.set_cons_succ]
  refine takeH (i := 41) (some 86) (v := ?_) rfl rfl (by kernel_rfl) (by kernel_rfl) (by kernel_rfl) (fun _ _ _ h => h) (Or.inl ⟨by rfl, ?hy41⟩) hHeld ?rest41
  case hy41 => (intro w hSw; (try dsimp only at hSw); go_simp; (try with_reducible rfl))
  try simp only [Act.put, List.setIfInBounds_toArray, List.set_cons_zero, List.set_cons_succ]
  refine takeH (i := 42) (some 87) (v := ?_) rfl rfl (by kernel_rfl) (by kernel_rfl) (by kernel_rfl) (fun _ _ _ h => h) (Or.inl ⟨by rfl, ?hy42⟩) hHeld ?rest42
  case hy42 => (intro w hSw; (try dsimp only at hSw); go_simp; (try with_reducible rfl))
  try simp only [Act.put, List.setIfInBounds_toArray, List.set_cons_zero, List.set_cons_succ]
  refine takeH (i := 43) (some 88) (v := ?_) rfl rfl (by kernel_rfl) (by kernel_rfl) (by kernel_rfl) (fun _ _ _ h => h) (Or.inl ⟨by rfl, ?hy43⟩) hHeld ?rest43
  case hy43 => (intro w hSw; (try dsimp only at hSw); go_simp; (try with_reducible rfl))
  try simp only [Act.put, List.setIfInBounds_toArray, List.set_cons_zero, List.set_cons_succ]
  refine takeH (i := 44) (some 8) (v := ?_) rfl rfl (by kernel_rfl) (by kernel_rfl) (by kernel_rfl) (fun _ _ _ h => h) (Or.inl ⟨by rfl, ?hy44⟩) hHeld ?rest44
  case hy44 => (intro w hSw; (try dsimp only at hSw); go_simp; (try with_reducible rfl))
  try simp only [Act.put, List.setIfInBounds_toArray, List.set_cons_zero, List.set_cons_succ]
  refine wpAnyH_done (by kernel_rfl) ?_ _
  go_wp2
  go_ret
  exact ⟨ret_bool (by first | rfl | simp), btr HA.out (by first | exact sB | exact below_drew sB)⟩

end Go.Proofs.YtlmgdhhlflmghaaDoor

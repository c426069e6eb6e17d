/- AddrTexts: what it says, walked. -/
import Derived.Test.YtlmgdhhlflmghaaDoorGG
namespace Go.Proofs.YtlmgdhhlflmghaaDoor
open Go.RowKit Go.Shelf
attribute [local go_sem] Oper.semAt_some


set_option maxRecDepth 100000 in
set_option maxHeartbeats 4000000 in
theorem texts_at (a A K E N F G Q1 Q2 H : Int) (r : Bool) (S1 S2 s0 s : ByteArray) (w : World) (hT : Tabs w)
    (D0' : ∀ W, Calls Tryd.prog 11 #[.string s0] W fun y w' => y = .returned (.string s) ∧ W = w')
    (D1' : ∀ W, Tabs W → Calls Tryd.prog 12 #[.int .i64 a] W fun y w' => y = .returned (.tuple #[.string S1, .int .i64 E]) ∧ Below W.heap.size W w')
    (D2' : ∀ W, Calls Tryd.prog 13 #[.int .i64 a] W fun y w' => y = .returned (.tuple #[.string S1, .int .i64 E]) ∧ Below W.heap.size W w')
    (D3' : ∀ W, Calls Tryd.prog 14 #[.string s] W fun y w' => y = .returned (.tuple #[.int .i64 N, .int .i64 F]) ∧ Below W.heap.size W w')
    (D4' : ∀ W, Calls Tryd.prog 15 #[.string s] W fun y w' => y = .returned (.tuple #[.int .i64 N, .int .i64 F]) ∧ Below W.heap.size W w')
    (D5' : ∀ W, Tabs W → Calls Tryd.prog 16 #[.agg #[.int .i64 A, .int .i64 K]] W fun y w' => y = .returned (.tuple #[.string S2, .int .i64 G]) ∧ Below W.heap.size W w')
    (D6' : ∀ W, Calls Tryd.prog 17 #[.agg #[.int .i64 A, .int .i64 K]] W fun y w' => y = .returned (.tuple #[.string S2, .int .i64 G]) ∧ Below W.heap.size W w')
    (D7' : ∀ W, Calls Tryd.prog 18 #[.string s] W fun y w' => y = .returned (.tuple #[.agg #[.int .i64 Q1, .int .i64 Q2], .int .i64 H]) ∧ Below W.heap.size W w')
    (D8' : ∀ W, Calls Tryd.prog 19 #[.string s] W fun y w' => y = .returned (.tuple #[.agg #[.int .i64 Q1, .int .i64 Q2], .int .i64 H]) ∧ Below W.heap.size W w')
    (D9' : ∀ W, Calls Tryd.prog 20 #[.agg #[.int .i64 A, .int .i64 K]] W fun y w' => y = .returned (.bool r) ∧ Below W.heap.size W w')
    (DA' : ∀ W, Calls Tryd.prog 21 #[.agg #[.int .i64 A, .int .i64 K]] W fun y w' => y = .returned (.bool r) ∧ Below W.heap.size W w')
    : Calls Tryd.prog 3 #[.int .i64 a, .agg #[.int .i64 A, .int .i64 K], .string s0] w fun y w' => y = .returned (.bool true) ∧ Below w.heap.size w w' := by
  have HS := Lib.hid (fun W h => shown_c W h)
  have HT := Lib.hid hT
  have D0 := Lib.hid D0'
  have D1 := Lib.hid D1'
  have D2 := Lib.hid D2'
  have D3 := Lib.hid D3'
  have D4 := Lib.hid D4'
  have D5 := Lib.hid D5'
  have D6 := Lib.hid D6'
  have D7 := Lib.hid D7'
  have D8 := Lib.hid D8'
  have D9 := Lib.hid D9'
  have DA := Lib.hid DA'
  clear D0' D1' D2' D3' D4' D5' D6' D7' D8' D9' DA' hT
  go_enter Tryd.func3, Tryd.ntmps3
  go_wp2_with fail
  have x00 : (w.alloc (.cells #[.int .i64 A, .int .i64 K] 23)).cell? ⟨w.heap.size, 0, none⟩ = some (.int .i64 A) := by go_simp
  have x01 : (w.alloc (.cells #[.int .i64 A, .int .i64 K] 23)).cell? ⟨w.heap.size, 1, none⟩ = some (.int .i64 K) := by go_simp
  have B0 : Below w.heap.size w (w.alloc (.cells #[.int .i64 A, .int .i64 K] 23)) := (bal (Below.refl _ _) _)
  generalize (w.alloc (.cells #[.int .i64 A, .int .i64 K] 23)) = U at *
  have KK := Lib.hid (show ∀ W, Below U.heap.size U W → W.cell? ⟨w.heap.size, 0, none⟩ = some (.int .i64 A) ∧ W.cell? ⟨w.heap.size, 1, none⟩ = some (.int .i64 K) from fun W h => ⟨(h.cell (p := ⟨w.heap.size, 0, none⟩) (blt x00)).trans x00, (h.cell (p := ⟨w.heap.size, 1, none⟩) (blt x00)).trans x01⟩)
  refine (HS.out _ (HT.out.on B0)).mono ?_; rintro e w1 ⟨rfl, hb⟩
  have B1 := Lib.hid (btr B0 hb)
  have C1 := Lib.hid (btr (Below.refl _ _) hb)
  clear hb x00 x01
  obtain ⟨c1_00, c1_01⟩ := KK.out w1 C1.out
  clear HS
  go_wp2_with fail
  refine (D0.out _).mono ?_; rintro e _ ⟨rfl, rfl⟩
  go_wp2_with fail
  refine (D1.out _ (HT.out.on B1.out)).mono ?_; rintro e w2 ⟨rfl, hb⟩
  have B2 := Lib.hid (btr B1.out hb)
  have C2 := Lib.hid (btr C1.out hb)
  clear hb c1_00 c1_01
  obtain ⟨c2_00, c2_01⟩ := KK.out w2 C2.out
  go_wp2_with fail
  refine (D2.out _).mono ?_; rintro e w3 ⟨rfl, hb⟩
  have B3 := Lib.hid (btr B2.out hb)
  have C3 := Lib.hid (btr C2.out hb)
  clear hb c2_00 c2_01
  obtain ⟨c3_00, c3_01⟩ := KK.out w3 C3.out
  go_wp2_with fail
  refine (D3.out _).mono ?_; rintro e w4 ⟨rfl, hb⟩
  have B4 := Lib.hid (btr B3.out hb)
  have C4 := Lib.hid (btr C3.out hb)
  clear hb c3_00 c3_01
  obtain ⟨c4_00, c4_01⟩ := KK.out w4 C4.out
  go_wp2_with fail
  refine (D4.out _).mono ?_; rintro e w5 ⟨rfl, hb⟩
  have B5 := Lib.hid (btr B4.out hb)
  have C5 := Lib.hid (btr C4.out hb)
  clear hb c4_00 c4_01
  obtain ⟨c5_00, c5_01⟩ := KK.out w5 C5.out
  go_wp2_with fail
  refine (D5.out _ (HT.out.on B5.out)).mono ?_; rintro e w6 ⟨rfl, hb⟩
  have B6 := Lib.hid (btr B5.out hb)
  have C6 := Lib.hid (btr C5.out hb)
  clear hb c5_00 c5_01
  obtain ⟨c6_00, c6_01⟩ := KK.out w6 C6.out
  go_wp2_with fail
  refine (D6.out _).mono ?_; rintro e w7 ⟨rfl, hb⟩
  have B7 := Lib.hid (btr B6.out hb)
  have C7 := Lib.hid (btr C6.out hb)
  clear hb c6_00 c6_01
  obtain ⟨c7_00, c7_01⟩ := KK.out w7 C7.out
  go_wp2_with fail
  refine (D7.out _).mono ?_; rintro e w8 ⟨rfl, hb⟩
  have B8 := Lib.hid (btr B7.out hb)
  have C8 := Lib.hid (btr C7.out hb)
  clear hb c7_00 c7_01
  obtain ⟨c8_00, c8_01⟩ := KK.out w8 C8.out
  clear KK
  have bA := bal (Below.refl w8.heap.size w8) (.cells #[.int .i64 Q1, .int .i64 Q2] 23)
  have z0 := (bA.cell (p := ⟨w.heap.size, 0, none⟩) (blt c8_00)).trans c8_00
  have z1 := (bA.cell (p := ⟨w.heap.size, 1, none⟩) (blt c8_00)).trans c8_01
  have BU := bal B8.out (.cells #[.int .i64 Q1, .int .i64 Q2] 23)
  clear bA c8_00 c8_01
  go_wp2_with fail
  have y0 : (w8.alloc (.cells #[.int .i64 Q1, .int .i64 Q2] 23)).cell? ⟨w8.heap.size, 0, none⟩ = some (.int .i64 Q1) := by go_simp
  have y1 : (w8.alloc (.cells #[.int .i64 Q1, .int .i64 Q2] 23)).cell? ⟨w8.heap.size, 1, none⟩ = some (.int .i64 Q2) := by go_simp
  generalize (w8.alloc (.cells #[.int .i64 Q1, .int .i64 Q2] 23)) = X at *
  refine (D8.out _).mono ?_; rintro e v ⟨rfl, hb⟩
  have BV := Lib.hid (btr BU hb)
  have bR := bal hb (.cells #[.int .i64 Q1, .int .i64 Q2] 23)
  have p0 := (bR.cell (p := ⟨w8.heap.size, 0, none⟩) (blt y0)).trans y0
  have p1 := (bR.cell (p := ⟨w8.heap.size, 1, none⟩) (blt y0)).trans y1
  have q0 := (bR.cell (p := ⟨w.heap.size, 0, none⟩) (blt z0)).trans z0
  have q1 := (bR.cell (p := ⟨w.heap.size, 1, none⟩) (blt z0)).trans z1
  have HA := Lib.hid (bal BV.out (.cells #[.int .i64 Q1, .int .i64 Q2] 23))
  clear hb y0 y1 z0 z1 BU bR
  go_wp2_with fail
  have r0 : (v.alloc (.cells #[.int .i64 Q1, .int .i64 Q2] 23)).cell? ⟨v.heap.size, 0, none⟩ = some (.int .i64 Q1) := by go_simp
  have r1 : (v.alloc (.cells #[.int .i64 Q1, .int .i64 Q2] 23)).cell? ⟨v.heap.size, 1, none⟩ = some (.int .i64 Q2) := by go_simp
  generalize (v.alloc (.cells #[.int .i64 Q1, .int .i64 Q2] 23)) = U at *
  have u0 : Below U.heap.size U U := Below.refl _ U
  have MK := Lib.hid (show ∀ w', Below U.heap.size U w' → w'.cell? ⟨w.heap.size, 0, none⟩ = some (.int .i64 A) ∧ w'.cell? ⟨w.heap.size, 1, none⟩ = some (.int .i64 K) ∧ w'.cell? ⟨w8.heap.size, 0, none⟩ = some (.int .i64 Q1) ∧ w'.cell? ⟨w8.heap.size, 1, none⟩ = some (.int .i64 Q2) ∧ w'.cell? ⟨v.heap.size, 0, none⟩ = some (.int .i64 Q1) ∧ w'.cell? ⟨v.heap.size, 1, none⟩ = some (.int .i64 Q2) ∧ Below U.heap.size U w' from
    (fun w' h => ⟨(h.cell (p := ⟨w.heap.size, 0, none⟩) (blt q0)).trans q0, (h.cell (p := ⟨w.heap.size, 1, none⟩) (blt q0)).trans q1, (h.cell (p := ⟨w8.heap.size, 0, none⟩) (blt p0)).trans p0, (h.cell (p := ⟨w8.heap.size, 1, none⟩) (blt p0)).trans p1, (h.cell (p := ⟨v.heap.size, 0, none⟩) (blt r0)).trans r0, (h.cell (p := ⟨v.heap.size, 1, none⟩) (blt r0)).trans r1, h⟩))
  clear q0 q1 p0 p1 r0 r1
  refine wp_region_held_drew (S := (fun w' => w'.cell? ⟨w.heap.size, 0, none⟩ = some (.int .i64 A) ∧ w'.cell? ⟨w.heap.size, 1, none⟩ = some (.int .i64 K) ∧ w'.cell? ⟨w8.heap.size, 0, none⟩ = some (.int .i64 Q1) ∧ w'.cell? ⟨w8.heap.size, 1, none⟩ = some (.int .i64 Q2) ∧ w'.cell? ⟨v.heap.size, 0, none⟩ = some (.int .i64 Q1) ∧ w'.cell? ⟨v.heap.size, 1, none⟩ = some (.int .i64 Q2) ∧ Below U.heap.size U w')) (by kernel_rfl) ?_ (fun hHeld => ?_)
  · (first | with_reducible assumption | exact MK.out _ (by with_reducible assumption) | exact MK.out _ (below_drew (by with_reducible assumption)))
  refine takeH (i := 0) (some 67) (v := ?_) rfl rfl (by kernel_rfl) (by kernel_rfl) (by kernel_rfl) (fun _ _ _ h => h) (Or.inl ⟨by rfl, ?hy0⟩) hHeld ?rest0
  case hy0 => (intro w hSw; (try dsimp only at hSw); go_simp; (try with_reducible rfl))
  try simp only [Act.put, List.setIfInBounds_toArray, List.set_cons_zero, List.set_cons_succ]
  refine takeH (i := 1) (some 68) (v := ?_) rfl rfl (by kernel_rfl) (by kernel_rfl) (by kernel_rfl) (fun _ _ _ h => h) (Or.inl ⟨by rfl, ?hy1⟩) hHeld ?rest1
  case hy1 => (intro w hSw; (try dsimp only at hSw); go_simp; (try with_reducible rfl))
  try simp only [Act.put, List.setIfInBounds_toArray, List.set_cons_zero, List.set_cons_succ]
  refine takeH (i := 2) (some 69) (v := ?_) rfl rfl (by kernel_rfl) (by kernel_rfl) (by kernel_rfl) (fun _ _ _ h => h) (Or.inl ⟨by rfl, ?hy2⟩) hHeld ?rest2
  case hy2 => (intro w hSw; (try dsimp only at hSw); go_simp; (try with_reducible rfl))
  try simp only [Act.put, List.setIfInBounds_toArray, List.set_cons_zero, List.set_cons_succ]
  refine takeH (i := 3) (some 70) (v := ?_) rfl rfl (by kernel_rfl) (by kernel_rfl) (by kernel_rfl) (fun _ _ _ h => h) (Or.inl ⟨by rfl, ?hy3⟩) hHeld ?rest3
  case hy3 => (intro w hSw; (try dsimp only at hSw); go_simp; (try with_reducible rfl))
  try simp only [Act.put, List.setIfInBounds_toArray, List.set_cons_zero, List.set_cons_succ]
  refine takeH (i := 4) (some 71) (v := ?_) rfl rfl (by kernel_rfl) (by kernel_rfl) (by kernel_rfl) (fun _ _ _ h => h) (Or.inl ⟨by rfl, ?hy4⟩) hHeld ?rest4
  case hy4 => (intro w hSw; (try dsimp only at hSw); go_simp; (try with_reducible rfl))
  try simp only [Act.put, List.setIfInBounds_toArray, List.set_cons_zero, List.set_cons_succ]
  refine takeH (i := 5) (some 72) (v := ?_) rfl rfl (by kernel_rfl) (by kernel_rfl) (by kernel_rfl) (fun _ _ _ h => h) (Or.inl ⟨by rfl, ?hy5⟩) hHeld ?rest5
  case hy5 => (intro w hSw; (try dsimp only at hSw); go_simp; (try with_reducible rfl))
  try simp only [Act.put, List.setIfInBounds_toArray, List.set_cons_zero, List.set_cons_succ]
  refine takeH (i := 6) (some 73) (v := ?_) rfl rfl (by kernel_rfl) (by kernel_rfl) (by kernel_rfl) (fun _ _ _ h => h) (Or.inl ⟨by rfl, ?hy6⟩) hHeld ?rest6
  case hy6 => (intro w hSw; (try dsimp only at hSw); go_simp; (try with_reducible rfl))
  try simp only [Act.put, List.setIfInBounds_toArray, List.set_cons_zero, List.set_cons_succ]
  refine takeH (i := 7) (some 74) (v := ?_) rfl rfl (by kernel_rfl) (by kernel_rfl) (by kernel_rfl) (fun _ _ _ h => h) (Or.inl ⟨by rfl, ?hy7⟩) hHeld ?rest7
  case hy7 => (intro w hSw; (try dsimp only at hSw); go_simp; (try with_reducible rfl))
  try simp only [Act.put, List.setIfInBounds_toArray, List.set_cons_zero, List.set_cons_succ]
  refine takeH (i := 8) (some 75) (v := ?_) rfl rfl (by kernel_rfl) (by kernel_rfl) (by kernel_rfl) (fun _ _ _ h => h) (Or.inl ⟨by rfl, ?hy8⟩) hHeld ?rest8
  case hy8 => (intro w hSw; (try dsimp only at hSw); go_simp; (try with_reducible rfl))
  try simp only [Act.put, List.setIfInBounds_toArray, List.set_cons_zero, List.set_cons_succ]
  refine takeH (i := 9) (some 76) (v := ?_) rfl rfl (by kernel_rfl) (by kernel_rfl) (by kernel_rfl) (fun _ _ _ h => h) (Or.inl ⟨by rfl, ?hy9⟩) hHeld ?rest9
  case hy9 => (intro w hSw; (try dsimp only at hSw); go_simp; (try with_reducible rfl))
  try simp only [Act.put, List.setIfInBounds_toArray, List.set_cons_zero, List.set_cons_succ]
  refine takeH (i := 10) (some 77) (v := ?_) rfl rfl (by kernel_rfl) (by kernel_rfl) (by kernel_rfl) (fun _ _ _ h => h) (Or.inl ⟨by rfl, ?hy10⟩) hHeld ?rest10
  case hy10 => (intro w hSw; (try dsimp only at hSw); go_simp; (try with_reducible rfl))
  try simp only [Act.put, List.setIfInBounds_toArray, List.set_cons_zero, List.set_cons_succ]
  refine takeH (i := 11) (some 78) (v := ?_) rfl rfl (by kernel_rfl) (by kernel_rfl) (by kernel_rfl) (fun _ _ _ h => h) (Or.inl ⟨by rfl, ?hy11⟩) hHeld ?rest11
  case hy11 => (intro w hSw; (try dsimp only at hSw); go_simp; (try with_reducible rfl))
  try simp only [Act.put, List.setIfInBounds_toArray, List.set_cons_zero, List.set_cons_succ]
  refine takeH (i := 12) (some 79) (v := ?_) rfl rfl (by kernel_rfl) (by kernel_rfl) (by kernel_rfl) (fun _ _ _ h => h) (Or.inl ⟨by rfl, ?hy12⟩) hHeld ?rest12
  case hy12 => (intro w hSw; (try dsimp only at hSw); go_simp; (try with_reducible rfl))
  try simp only [Act.put, List.setIfInBounds_toArray, List.set_cons_zero, List.set_cons_succ]
  refine takeH (i := 13) (some 80) (v := ?_) rfl rfl (by kernel_rfl) (by kernel_rfl) (by kernel_rfl) (fun _ _ _ h => h) (Or.inl ⟨by rfl, ?hy13⟩) hHeld ?rest13
  case hy13 => (intro w hSw; (try dsimp only at hSw); go_simp; (try with_reducible rfl))
  try simp only [Act.put, List.setIfInBounds_toArray, List.set_cons_zero, List.set_cons_succ]
  refine takeH (i := 14) (some 81) (v := ?_) rfl rfl (by kernel_rfl) (by kernel_rfl) (by kernel_rfl) (fun _ _ _ h => h) (Or.inl ⟨by rfl, ?hy14⟩) hHeld ?rest14
  case hy14 => (intro w hSw; (try dsimp only at hSw); go_simp; (try with_reducible rfl))
  try simp only [Act.put, List.setIfInBounds_toArray, List.set_cons_zero, List.set_cons_succ]
  refine takeH (i := 15) (some 82) (v := ?_) rfl rfl (by kernel_rfl) (by kernel_rfl) (by kernel_rfl) (fun _ _ _ h => h) (Or.inl ⟨by rfl, ?hy15⟩) hHeld ?rest15
  case hy15 => (intro w hSw; (try dsimp only at hSw); go_simp; (try with_reducible rfl))
  try simp only [Act.put, List.setIfInBounds_toArray, List.set_cons_zero, List.set_cons_succ]
  refine takeH (i := 16) (some 83) (v := ?_) rfl rfl (by kernel_rfl) (by kernel_rfl) (by kernel_rfl) (fun _ _ _ h => h) (Or.inl ⟨by rfl, ?hy16⟩) hHeld ?rest16
  case hy16 => (intro w hSw; (try dsimp only at hSw); go_simp; (try with_reducible rfl))
  try simp only [Act.put, List.setIfInBounds_toArray, List.set_cons_zero, List.set_cons_succ]
  refine takeH (i := 17) (some 84) (v := ?_) rfl rfl (by kernel_rfl) (by kernel_rfl) (by kernel_rfl) (fun _ _ _ h => h) (Or.inl ⟨by rfl, ?hy17⟩) hHeld ?rest17
  case hy17 => (intro w hSw; (try dsimp only at hSw); go_simp; (try with_reducible rfl))
  try simp only [Act.put, List.setIfInBounds_toArray, List.set_cons_zero, List.set_cons_succ]
  refine takeH (i := 18) (some 85) (v := ?_) rfl rfl (by kernel_rfl) (by kernel_rfl) (by kernel_rfl) (fun _ _ _ h => h) (Or.inl ⟨by rfl, ?hy18⟩) hHeld ?rest18
  case hy18 => (intro w hSw; (try dsimp only at hSw); go_simp; (try with_reducible rfl))
  try simp only [Act.put, List.setIfInBounds_toArray, List.set_cons_zero, List.set_cons_succ]
  refine takeH (i := 19) (some 86) (v := ?_) rfl rfl (by kernel_rfl) (by kernel_rfl) (by kernel_rfl) (fun _ _ _ h => h) (Or.inl ⟨by rfl, ?hy19⟩) hHeld ?rest19
  case hy19 => (intro w hSw; (try dsimp only at hSw); go_simp; (try with_reducible rfl))
  try simp only [Act.put, List.setIfInBounds_toArray, List.set_cons_zero, List.set_cons_succ]
  refine takeH (i := 20) (some 87) (v := ?_) rfl rfl (by kernel_rfl) (by kernel_rfl) (by kernel_rfl) (fun _ _ _ h => h) (Or.inl ⟨by rfl, ?hy20⟩) hHeld ?rest20
  case hy20 => (intro w hSw; (try dsimp only at hSw); go_simp; (try with_reducible rfl))
  try simp only [Act.put, List.setIfInBounds_toArray, List.set_cons_zero, List.set_cons_succ]
  refine takeH (i := 21) (some 88) (v := ?_) rfl rfl (by kernel_rfl) (by kernel_rfl) (by kernel_rfl) (fun _ _ _ h => h) (Or.inl ⟨by rfl, ?hy21⟩) hHeld ?rest21
  case hy21 => (intro w hSw; (try dsimp only at hSw); go_simp; (try with_reducible rfl))
  try simp only [Act.put, List.setIfInBounds_toArray, List.set_cons_zero, List.set_cons_succ]
  refine takeH (i := 22) (some 89) (v := ?_) rfl rfl (by kernel_rfl) (by kernel_rfl) (by kernel_rfl) (fun _ _ _ h => h) (Or.inl ⟨by rfl, ?hy22⟩) hHeld ?rest22
  case hy22 => (intro w hSw; (try dsimp only at hSw); go_simp; (try with_reducible rfl))
  try simp only [Act.put, List.setIfInBounds_toArray, List.set_cons_zero, List.set_cons_succ]
  refine takeH (i := 23) (some 90) (v := ?_) rfl rfl (by kernel_rfl) (by kernel_rfl) (by kernel_rfl) (fun _ _ _ h => h) (Or.inl ⟨by rfl, ?hy23⟩) hHeld ?rest23
  case hy23 => (intro w hSw; (try dsimp only at hSw); go_simp; (try with_reducible rfl))
  try simp only [Act.put, List.setIfInBounds_toArray, List.set_cons_zero, List.set_cons_succ]
  refine takeH (i := 24) (some 91) (v := ?_) rfl rfl (by kernel_rfl) (by kernel_rfl) (by kernel_rfl) (fun _ _ _ h => h) (Or.inl ⟨by rfl, ?hy24⟩) hHeld ?rest24
  case hy24 => (intro w hSw; (try dsimp only at hSw); go_simp; (try with_reducible rfl))
  try simp only [Act.put, List.setIfInBounds_toArray, List.set_cons_zero, List.set_cons_succ]
  refine takeH (i := 25) (some 92) (v := ?_) rfl rfl (by kernel_rfl) (by kernel_rfl) (by kernel_rfl) (fun _ _ _ h => h) (Or.inl ⟨by rfl, ?hy25⟩) hHeld ?rest25
  case hy25 => (intro w hSw; (try dsimp only at hSw); go_simp; (try with_reducible rfl))
  try simp only [Act.put, List.setIfInBounds_toArray, List.set_cons_zero, List.set_cons_succ]
  refine takeH (i := 26) (some 93) (v := ?_) rfl rfl (by kernel_rfl) (by kernel_rfl) (by kernel_rfl) (fun _ _ _ h => h) (Or.inl ⟨by rfl, ?hy26⟩) hHeld ?rest26
  case hy26 => (intro w hSw; (try dsimp only at hSw); go_simp; (try with_reducible rfl))
  try simp only [Act.put, List.setIfInBounds_toArray, List.set_cons_zero, List.set_cons_succ]
  refine takeH (i := 27) (some 94) (v := ?_) rfl rfl (by kernel_rfl) (by kernel_rfl) (by kernel_rfl) (fun _ _ _ h => h) (Or.inl ⟨by rfl, ?hy27⟩) hHeld ?rest27
  case hy27 => (intro w hSw; (try dsimp only at hSw); go_simp; (try with_reducible rfl))
  try simp only [Act.put, List.setIfInBounds_toArray, List.set_cons_zero, List.set_cons_succ]
  refine takeH (i := 28) (some 95) (v := ?_) rfl rfl (by kernel_rfl) (by kernel_rfl) (by kernel_rfl) (fun _ _ _ h => h) (Or.inl ⟨by rfl, ?hy28⟩) hHeld ?rest28
  case hy28 => (intro w hSw; (try dsimp only at hSw); go_simp; (try with_reducible rfl))
  try simp only [Act.put, List.setIfInBounds_toArray, List.set_cons_zero, List.set_cons_succ]
  refine takeH (i := 29) (some 96) (v := ?_) rfl rfl (by kernel_rfl) (by kernel_rfl) (by kernel_rfl) (fun _ _ _ h => h) (Or.inl ⟨by rfl, ?hy29⟩) hHeld ?rest29
  case hy29 => (intro w hSw; (try dsimp only at hSw); go_simp; (try with_reducible rfl))
  try simp only [Act.put, List.setIfInBounds_toArray, List.set_cons_zero, List.set_cons_succ]
  refine takeH (i := 30) (some 97) (v := ?_) rfl rfl (by kernel_rfl) (by kernel_rfl) (by kernel_rfl) (fun _ _ _ h => h) (Or.inl ⟨by rfl, ?hy30⟩) hHeld ?rest30
  case hy30 => (intro w hSw; (try dsimp only at hSw); go_simp; (try with_reducible rfl))
  try simp only [Act.put, List.setIfInBounds_toArray, List.set_cons_zero, List.set_cons_succ]
  refine takeH (i := 31) (some 98) (v := ?_) rfl rfl (by kernel_rfl) (by kernel_rfl) (by kernel_rfl) (fun _ _ _ h => h) (Or.inl ⟨by rfl, ?hy31⟩) hHeld ?rest31
  case hy31 => (intro w hSw; (try dsimp only at hSw); go_simp; (try with_reducible rfl))
  try simp only [Act.put, List.setIfInBounds_toArray, List.set_cons_zero, List.set_cons_succ]
  refine takeH (i := 32) (some 99) (v := ?_) rfl rfl (by kernel_rfl) (by kernel_rfl) (by kernel_rfl) (fun _ _ _ h => h) (Or.inl ⟨by rfl, ?hy32⟩) hHeld ?rest32
  case hy32 => (intro w hSw; (try dsimp only at hSw); go_simp; (try with_reducible rfl))
  try simp only [Act.put, List.setIfInBounds_toArray, List.set_cons_zero, List.set_cons_succ]
  refine takeH (i := 33) (some 100) (v := ?_) rfl rfl (by kernel_rfl) (by kernel_rfl) (by kernel_rfl) (fun _ _ _ h => h) (Or.inl ⟨by rfl, ?hy33⟩) hHeld ?rest33
  case hy33 => (intro w hSw; (try dsimp only at hSw); go_simp; (try with_reducible rfl))
  try simp only [Act.put, List.setIfInBounds_toArray, List.set_cons_zero, List.set_cons_succ]
  refine takeH (i := 34) (some 101) (v := ?_) rfl rfl (by kernel_rfl) (by kernel_rfl) (by kernel_rfl) (fun _ _ _ h => h) (Or.inl ⟨by rfl, ?hy34⟩) hHeld ?rest34
  case hy34 => (intro w hSw; (try dsimp only at hSw); go_simp; (try with_reducible rfl))
  try simp only [Act.put, List.setIfInBounds_toArray, List.set_cons_zero, List.set_cons_succ]
  refine takeH (i := 35) (some 102) (v := ?_) rfl rfl (by kernel_rfl) (by kernel_rfl) (by kernel_rfl) (fun _ _ _ h => h) (Or.inl ⟨by rfl, ?hy35⟩) hHeld ?rest35
  case hy35 => (intro w hSw; (try dsimp only at hSw); go_simp; (try with_reducible rfl))
  try simp only [Act.put, List.setIfInBounds_toArray, List.set_cons_zero, List.set_cons_succ]
  refine takeH (i := 36) (some 103) (v := ?_) rfl rfl (by kernel_rfl) (by kernel_rfl) (by kernel_rfl) (fun _ _ _ h => h) (Or.inl ⟨by rfl, ?hy36⟩) hHeld ?rest36
  case hy36 => (intro w hSw; (try dsimp only at hSw); go_simp; (try with_reducible rfl))
  try simp only [Act.put, List.setIfInBounds_toArray, List.set_cons_zero, List.set_cons_succ]
  refine takeH (i := 37) (some 104) (v := ?_) rfl rfl (by kernel_rfl) (by kernel_rfl) (by kernel_rfl) (fun _ _ _ h => h) (Or.inl ⟨by rfl, ?hy37⟩) hHeld ?rest37
  case hy37 => (intro w hSw; (try dsimp only at hSw); go_simp; (try with_reducible rfl))
  try simp only [Act.put, List.setIfInBounds_toArray, List.set_cons_zero, List.set_cons_succ]
  refine takeH (i := 38) (some 105) (v := ?_) rfl rfl (by kernel_rfl) (by kernel_rfl) (by kernel_rfl) (fun _ _ _ h => h) (Or.inl ⟨by rfl, ?hy38⟩) hHeld ?rest38
  case hy38 => (intro w hSw; (try dsimp only at hSw); go_simp; (try with_reducible rfl))
  try simp only [Act.put, List.setIfInBounds_toArray, List.set_cons_zero, List.set_cons_succ]
  refine takeH (i := 39) (some 106) (v := ?_) rfl rfl (by kernel_rfl) (by kernel_rfl) (by kernel_rfl) (fun _ _ _ h => h) (Or.inl ⟨by rfl, ?hy39⟩) hHeld ?rest39
  case hy39 => (intro w hSw; (try dsimp only at hSw); go_simp; (try with_reducible rfl))
  try simp only [Act.put, List.setIfInBounds_toArray, List.set_cons_zero, List.set_cons_succ]
  refine takeH (i := 40) (some 107) (v := ?_) rfl rfl (by kernel_rfl) (by kernel_rfl) (by kernel_rfl) (fun _ _ _ h => h) (Or.inl ⟨by rfl, ?hy40⟩) hHeld ?rest40
  case hy40 => (intro w hSw; (try dsimp only at hSw); go_simp; (try with_reducible rfl))
  try simp only [Act.put, List.setIfInBounds_toArray, List.set_cons_zero, List.set_cons_succ]
  refine takeH (i := 41) (some 108) (v := ?_) rfl rfl (by kernel_rfl) (by kernel_rfl) (by kernel_rfl) (fun _ _ _ h => h) (Or.inl ⟨by rfl, ?hy41⟩) hHeld ?rest41
  case hy41 => (intro w hSw; (try dsimp only at hSw); go_simp; (try with_reducible rfl))
  try simp only [Act.put, List.setIfInBounds_toArray, List.set_cons_zero, List.set_cons_succ]
  refine takeH (i := 42) (some 109) (v := ?_) rfl rfl (by kernel_rfl) (by kernel_rfl) (by kernel_rfl) (fun _ _ _ h => h) (Or.inl ⟨by rfl, ?hy42⟩) hHeld ?rest42
  case hy42 => (intro w hSw; (try dsimp only at hSw); go_simp; (try with_reducible rfl))
  try simp only [Act.put, List.setIfInBounds_toArray, List.set_cons_zero, List.set_cons_succ]
  refine takeH (i := 44) (some 111) (v := ?_) rfl rfl (by kernel_rfl) (by kernel_rfl) (by kernel_rfl) (fun _ _ _ h => h) (Or.inl ⟨by rfl, ?hy44⟩) hHeld ?rest44
  case hy44 => (intro w hSw; (try dsimp only at hSw); go_simp; (try with_reducible rfl))
  try simp only [Act.put, List.setIfInBounds_toArray, List.set_cons_zero, List.set_cons_succ]
  refine wpAnyH_ready (rs := [43]) (by kernel_rfl) (by simp) ?_
  refine AllReadyH.cons rfl (fun K hK => ?_) AllReadyH.nil
  go_simp
  with_reducible refine (D9.out _).mono ?_; rintro e wn ⟨rfl, pB⟩; have sB := btr hHeld.2.2.2.2.2.2 pB; clear pB hHeld
  refine hK.out _ _ ?_ (fun hHeld => ?_)
  · (first | with_reducible assumption | exact MK.out _ (by with_reducible assumption) | exact MK.out _ (below_drew (by with_reducible assumption)))
  clear hK K
  try simp only [Act.put, List.setIfInBounds_toArray, List.set_cons_zero, List.set_cons_succ]
  refine wpAnyH_ready (rs := [45]) (by kernel_rfl) (by simp) ?_
  refine AllReadyH.cons rfl (fun K hK => ?_) AllReadyH.nil
  go_simp
  with_reducible refine (DA.out _).mono ?_; rintro e wn ⟨rfl, pB⟩; have sB := btr hHeld.2.2.2.2.2.2 pB; clear pB hHeld
  refine hK.out _ _ ?_ (fun hHeld => ?_)
  · (first | with_reducible assumption | exact MK.out _ (by with_reducible assumption) | exact MK.out _ (below_drew (by with_reducible assumption)))
  clear hK K
  try simp only [Act.put, List.setIfInBounds_toArray, List.set_cons_zero, List.set_cons_succ]
  refine takeH (i := 46) (some 113) (v := ?_) rfl rfl (by kernel_rfl) (by kernel_rfl) (by kernel_rfl) (fun _ _ _ h => h) (Or.inl ⟨by rfl, ?hy46⟩) hHeld ?rest46
  case hy46 => (intro w hSw; (try dsimp only at hSw); go_simp; (try with_reducible rfl))
  try simp only [Act.put, List.setIfInBounds_toArray, List.set_cons_zero, List.set_cons_succ]
  refine takeH (i := 47) (some 114) (v := ?_) rfl rfl (by kernel_rfl) (by kernel_rfl) (by kernel_rfl) (fun _ _ _ h => h) (Or.inl ⟨by rfl, ?hy47⟩) hHeld ?rest47
  case hy47 => (intro w hSw; (try dsimp only at hSw); go_simp; (try with_reducible rfl))
  try simp only [Act.put, List.setIfInBounds_toArray, List.set_cons_zero, List.set_cons_succ]
  refine takeH (i := 48) (some 6) (v := ?_) rfl rfl (by kernel_rfl) (by kernel_rfl) (by kernel_rfl) (fun _ _ _ h => h) (Or.inl ⟨by rfl, ?hy48⟩) hHeld ?rest48
  case hy48 => (intro w hSw; (try dsimp only at hSw); go_simp; (try with_reducible rfl))
  try simp only [Act.put, List.setIfInBounds_toArray, List.set_cons_zero, List.set_cons_succ]
  refine wpAnyH_done (by kernel_rfl) ?_ _
  go_wp2
  go_ret
  exact ⟨ret_bool (by first | rfl | simp), btr HA.out (by first | exact sB | exact below_drew sB)⟩

theorem textsL_c (a A K : Int) (s0 : ByteArray) (w : World) (hT : Tabs w) : Calls Tryd.prog 3 #[.int .i64 a, .agg #[.int .i64 A, .int .i64 K], .string s0] w fun y w' => y = .returned (.bool true) ∧ Below w.heap.size w w' := by
  have hs := cut_size s0
  have D0 := fun W => cut11_c s0 W
  generalize cut40 s0 = s at *
  have D4 := fun W => rparse_c s.data.toList (by rw [list_size]; omega) W
  have D8 := fun W => rparsePrefix_c s.data.toList (by rw [list_size]; omega) W
  rw [← str_eq (s := s) rfl] at D4 D8
  exact texts_at a A K _ _ _ _ _ _ _ _ _ _ s0 s w hT D0 (fun W h => print_c a W h) (fun W => rprint_c a W) (fun W => parse_c s (by omega) W) D4 (fun W h => pp_c A K W h) (fun W => rppr_c A K W) (fun W => parsePrefix_c s (by omega) W) D8 (fun W => right_c A K W) (fun W => rright_c A K W)

end Go.Proofs.YtlmgdhhlflmghaaDoor

/- S4D, S4E, S4F, Td, Rn, Te -/
import Derived.Test.YtkokcfhfgnkdfaaGreatDoorZ5
import Derived.Laws.EntriesVeiled
import Derived.LoopIn
import Derived.LoopNIn
import Derived.Test.YtkokcfhfgnkdfaaGreatDoorZ3
import Derived.Maps.AppendAt
set_option linter.unusedVariables false
set_option linter.unusedSimpArgs false
/- move.to: where an event leads, and whether it may happen: its contract. -/
namespace Go.Proofs.YtkokcfhfgnkdfaaGreatDoor.L14
open Go.RowKit

theorem btr {a W W' : World} (h : Below a.heap.size a W) (k : Below W.heap.size W W') : Below a.heap.size a W' := h.trans (k.mono h.size)
theorem bal {a W : World} (h : Below a.heap.size a W) (o : Obj) : Below a.heap.size a (W.alloc o) := h.alloc h.size o
def tab : Obj := Obj.cells #[Value.nilFunc, .func (.func 109) #[] #[], .func (.func 110) #[] #[], .func (.func 111) #[] #[], .func (.func 112) #[] #[], .func (.func 113) #[] #[], .func (.func 114) #[] #[]] 159

set_option maxRecDepth 100000 in
set_option maxHeartbeats 4000000 in
theorem to_1 (s : Int) (w : World) : Calls Tryz.prog 84 #[.agg #[.int .i64 s, .int .i64 1]] w fun x w' => x = .returned (.tuple #[.int .i64 (dest s 1), .bool (goes s 1)]) ∧ Below w.heap.size w w' := by
  have hD : dest s 1 = 1 := by simp [dest]
  have hG : goes s 1 = decide (s = 0 ∧ (1 : Int) = 1) := by simp [goes]
  rw [hD, hG]
  have g0 := fun W => open_c s 1 W
  have G := Lib.hid g0
  clear g0
  go_enter Tryz.func84, Tryz.ntmps84
  go_wp2_with fail
  have hA : Below w.heap.size w ((w.alloc (Obj.cells #[.int .i64 s, .int .i64 1] 124)).alloc tab) := bal (below_alloc _ _) _
  have k0 : ((w.alloc (Obj.cells #[.int .i64 s, .int .i64 1] 124)).alloc tab).cell? ⟨w.heap.size, 0, none⟩ = some (.int .i64 s) := by unfold tab; go_simp
  have k1 : ((w.alloc (Obj.cells #[.int .i64 s, .int .i64 1] 124)).alloc tab).cell? ⟨w.heap.size, 1, none⟩ = some (.int .i64 1) := by unfold tab; go_simp
  have k2 : ((w.alloc (Obj.cells #[.int .i64 s, .int .i64 1] 124)).alloc tab).cell? ⟨w.heap.size + 1, 1, none⟩ = some (.func (.func 109) #[] #[]) := by unfold tab; go_simp
  have hz : w.heap.size + 1 < ((w.alloc (Obj.cells #[.int .i64 s, .int .i64 1] 124)).alloc tab).heap.size := by simp
  simp only [tab] at hA k0 k1 k2 hz
  generalize ((w.alloc (Obj.cells #[Value.int .i64 s, Value.int .i64 1] 124)).alloc (Obj.cells #[Value.nilFunc, Value.func (.func 109) #[] #[], Value.func (.func 110) #[] #[], Value.func (.func 111) #[] #[], Value.func (.func 112) #[] #[], Value.func (.func 113) #[] #[], Value.func (.func 114) #[] #[]] 159)) = U at *
  have u0 : Below U.heap.size U U := Below.refl _ U
  have HA := Lib.hid hA
  have MK := Lib.hid (show ∀ w', Below U.heap.size U w' → w'.cell? ⟨w.heap.size, 0, none⟩ = some (.int .i64 s) ∧ w'.cell? ⟨w.heap.size, 1, none⟩ = some (.int .i64 1) ∧ w'.cell? ⟨w.heap.size + 1, 1, none⟩ = some (.func (.func 109) #[] #[]) ∧ Below U.heap.size U w' from
    (fun w' h => ⟨(h.cell (p := ⟨w.heap.size, 0, none⟩) (by simp; omega)).trans k0, (h.cell (p := ⟨w.heap.size, 1, none⟩) (by simp; omega)).trans k1, (h.cell (p := ⟨w.heap.size + 1, 1, none⟩) hz).trans k2, h⟩))
  clear hA hz
  go_region_held3 (fun w' => w'.cell? ⟨w.heap.size, 0, none⟩ = some (.int .i64 s) ∧ w'.cell? ⟨w.heap.size, 1, none⟩ = some (.int .i64 1) ∧ w'.cell? ⟨w.heap.size + 1, 1, none⟩ = some (.func (.func 109) #[] #[]) ∧ Below U.heap.size U w')
    (first | with_reducible assumption | exact MK.out _ (by with_reducible assumption) | exact MK.out _ (below_drew (by with_reducible assumption)))
    ((first | (go_at_call 109; go_split_ands; with_reducible refine (G.out _).mono ?_; rintro e wn ⟨rfl, pB⟩; have sB := btr (by with_reducible assumption) pB; clear G pB)))
  go_wp2
  go_ret2
  exact ⟨ret_move rfl (by first | rfl | simp), btr HA.out sB⟩

set_option maxRecDepth 100000 in
set_option maxHeartbeats 4000000 in
theorem to_2 (s : Int) (w : World) : Calls Tryz.prog 84 #[.agg #[.int .i64 s, .int .i64 2]] w fun x w' => x = .returned (.tuple #[.int .i64 (dest s 2), .bool (goes s 2)]) ∧ Below w.heap.size w w' := by
  have hD : dest s 2 = 2 := by simp [dest]
  have hG : goes s 2 = decide (s = 1 ∧ (2 : Int) = 2) := by simp [goes]
  rw [hD, hG]
  have g0 := fun W => accept_c s 2 W
  have G := Lib.hid g0
  clear g0
  go_enter Tryz.func84, Tryz.ntmps84
  go_wp2_with fail
  have hA : Below w.heap.size w ((w.alloc (Obj.cells #[.int .i64 s, .int .i64 2] 124)).alloc tab) := bal (below_alloc _ _) _
  have k0 : ((w.alloc (Obj.cells #[.int .i64 s, .int .i64 2] 124)).alloc tab).cell? ⟨w.heap.size, 0, none⟩ = some (.int .i64 s) := by unfold tab; go_simp
  have k1 : ((w.alloc (Obj.cells #[.int .i64 s, .int .i64 2] 124)).alloc tab).cell? ⟨w.heap.size, 1, none⟩ = some (.int .i64 2) := by unfold tab; go_simp
  have k2 : ((w.alloc (Obj.cells #[.int .i64 s, .int .i64 2] 124)).alloc tab).cell? ⟨w.heap.size + 1, 2, none⟩ = some (.func (.func 110) #[] #[]) := by unfold tab; go_simp
  have hz : w.heap.size + 1 < ((w.alloc (Obj.cells #[.int .i64 s, .int .i64 2] 124)).alloc tab).heap.size := by simp
  simp only [tab] at hA k0 k1 k2 hz
  generalize ((w.alloc (Obj.cells #[Value.int .i64 s, Value.int .i64 2] 124)).alloc (Obj.cells #[Value.nilFunc, Value.func (.func 109) #[] #[], Value.func (.func 110) #[] #[], Value.func (.func 111) #[] #[], Value.func (.func 112) #[] #[], Value.func (.func 113) #[] #[], Value.func (.func 114) #[] #[]] 159)) = U at *
  have u0 : Below U.heap.size U U := Below.refl _ U
  have HA := Lib.hid hA
  have MK := Lib.hid (show ∀ w', Below U.heap.size U w' → w'.cell? ⟨w.heap.size, 0, none⟩ = some (.int .i64 s) ∧ w'.cell? ⟨w.heap.size, 1, none⟩ = some (.int .i64 2) ∧ w'.cell? ⟨w.heap.size + 1, 2, none⟩ = some (.func (.func 110) #[] #[]) ∧ Below U.heap.size U w' from
    (fun w' h => ⟨(h.cell (p := ⟨w.heap.size, 0, none⟩) (by simp; omega)).trans k0, (h.cell (p := ⟨w.heap.size, 1, none⟩) (by simp; omega)).trans k1, (h.cell (p := ⟨w.heap.size + 1, 2, none⟩) hz).trans k2, h⟩))
  clear hA hz
  go_region_held3 (fun w' => w'.cell? ⟨w.heap.size, 0, none⟩ = some (.int .i64 s) ∧ w'.cell? ⟨w.heap.size, 1, none⟩ = some (.int .i64 2) ∧ w'.cell? ⟨w.heap.size + 1, 2, none⟩ = some (.func (.func 110) #[] #[]) ∧ Below U.heap.size U w')
    (first | with_reducible assumption | exact MK.out _ (by with_reducible assumption) | exact MK.out _ (below_drew (by with_reducible assumption)))
    ((first | (go_at_call 110; go_split_ands; with_reducible refine (G.out _).mono ?_; rintro e wn ⟨rfl, pB⟩; have sB := btr (by with_reducible assumption) pB; clear G pB)))
  go_wp2
  go_ret2
  exact ⟨ret_move rfl (by first | rfl | simp), btr HA.out sB⟩

set_option maxRecDepth 100000 in
set_option maxHeartbeats 4000000 in
theorem to_3 (s : Int) (w : World) : Calls Tryz.prog 84 #[.agg #[.int .i64 s, .int .i64 3]] w fun x w' => x = .returned (.tuple #[.int .i64 (dest s 3), .bool (goes s 3)]) ∧ Below w.heap.size w w' := by
  have hD : dest s 3 = 6 := by simp [dest]
  have hG : goes s 3 = decide (s = 1 ∧ (3 : Int) = 3) := by simp [goes]
  rw [hD, hG]
  have g0 := fun W => refuse_c s 3 W
  have G := Lib.hid g0
  clear g0
  go_enter Tryz.func84, Tryz.ntmps84
  go_wp2_with fail
  have hA : Below w.heap.size w ((w.alloc (Obj.cells #[.int .i64 s, .int .i64 3] 124)).alloc tab) := bal (below_alloc _ _) _
  have k0 : ((w.alloc (Obj.cells #[.int .i64 s, .int .i64 3] 124)).alloc tab).cell? ⟨w.heap.size, 0, none⟩ = some (.int .i64 s) := by unfold tab; go_simp
  have k1 : ((w.alloc (Obj.cells #[.int .i64 s, .int .i64 3] 124)).alloc tab).cell? ⟨w.heap.size, 1, none⟩ = some (.int .i64 3) := by unfold tab; go_simp
  have k2 : ((w.alloc (Obj.cells #[.int .i64 s, .int .i64 3] 124)).alloc tab).cell? ⟨w.heap.size + 1, 3, none⟩ = some (.func (.func 111) #[] #[]) := by unfold tab; go_simp
  have hz : w.heap.size + 1 < ((w.alloc (Obj.cells #[.int .i64 s, .int .i64 3] 124)).alloc tab).heap.size := by simp
  simp only [tab] at hA k0 k1 k2 hz
  generalize ((w.alloc (Obj.cells #[Value.int .i64 s, Value.int .i64 3] 124)).alloc (Obj.cells #[Value.nilFunc, Value.func (.func 109) #[] #[], Value.func (.func 110) #[] #[], Value.func (.func 111) #[] #[], Value.func (.func 112) #[] #[], Value.func (.func 113) #[] #[], Value.func (.func 114) #[] #[]] 159)) = U at *
  have u0 : Below U.heap.size U U := Below.refl _ U
  have HA := Lib.hid hA
  have MK := Lib.hid (show ∀ w', Below U.heap.size U w' → w'.cell? ⟨w.heap.size, 0, none⟩ = some (.int .i64 s) ∧ w'.cell? ⟨w.heap.size, 1, none⟩ = some (.int .i64 3) ∧ w'.cell? ⟨w.heap.size + 1, 3, none⟩ = some (.func (.func 111) #[] #[]) ∧ Below U.heap.size U w' from
    (fun w' h => ⟨(h.cell (p := ⟨w.heap.size, 0, none⟩) (by simp; omega)).trans k0, (h.cell (p := ⟨w.heap.size, 1, none⟩) (by simp; omega)).trans k1, (h.cell (p := ⟨w.heap.size + 1, 3, none⟩) hz).trans k2, h⟩))
  clear hA hz
  go_region_held3 (fun w' => w'.cell? ⟨w.heap.size, 0, none⟩ = some (.int .i64 s) ∧ w'.cell? ⟨w.heap.size, 1, none⟩ = some (.int .i64 3) ∧ w'.cell? ⟨w.heap.size + 1, 3, none⟩ = some (.func (.func 111) #[] #[]) ∧ Below U.heap.size U w')
    (first | with_reducible assumption | exact MK.out _ (by with_reducible assumption) | exact MK.out _ (below_drew (by with_reducible assumption)))
    ((first | (go_at_call 111; go_split_ands; with_reducible refine (G.out _).mono ?_; rintro e wn ⟨rfl, pB⟩; have sB := btr (by with_reducible assumption) pB; clear G pB)))
  go_wp2
  go_ret2
  exact ⟨ret_move rfl (by first | rfl | simp), btr HA.out sB⟩

set_option maxRecDepth 100000 in
set_option maxHeartbeats 4000000 in
theorem to_4 (s : Int) (w : World) : Calls Tryz.prog 84 #[.agg #[.int .i64 s, .int .i64 4]] w fun x w' => x = .returned (.tuple #[.int .i64 (dest s 4), .bool (goes s 4)]) ∧ Below w.heap.size w w' := by
  have hD : dest s 4 = (if s = 4 then 5 else 3) := by simp [dest]
  have hG : goes s 4 = decide (s = 4 ∨ s = 2) := by simp [goes]
  rw [hD, hG]
  have g0 := fun W => endIn_c s 4 W
  generalize (if s = 4 then (5 : Int) else 3) = dd at *
  have G := Lib.hid g0
  clear g0
  go_enter Tryz.func84, Tryz.ntmps84
  go_wp2_with fail
  have hA : Below w.heap.size w ((w.alloc (Obj.cells #[.int .i64 s, .int .i64 4] 124)).alloc tab) := bal (below_alloc _ _) _
  have k0 : ((w.alloc (Obj.cells #[.int .i64 s, .int .i64 4] 124)).alloc tab).cell? ⟨w.heap.size, 0, none⟩ = some (.int .i64 s) := by unfold tab; go_simp
  have k1 : ((w.alloc (Obj.cells #[.int .i64 s, .int .i64 4] 124)).alloc tab).cell? ⟨w.heap.size, 1, none⟩ = some (.int .i64 4) := by unfold tab; go_simp
  have k2 : ((w.alloc (Obj.cells #[.int .i64 s, .int .i64 4] 124)).alloc tab).cell? ⟨w.heap.size + 1, 4, none⟩ = some (.func (.func 112) #[] #[]) := by unfold tab; go_simp
  have hz : w.heap.size + 1 < ((w.alloc (Obj.cells #[.int .i64 s, .int .i64 4] 124)).alloc tab).heap.size := by simp
  simp only [tab] at hA k0 k1 k2 hz
  generalize ((w.alloc (Obj.cells #[Value.int .i64 s, Value.int .i64 4] 124)).alloc (Obj.cells #[Value.nilFunc, Value.func (.func 109) #[] #[], Value.func (.func 110) #[] #[], Value.func (.func 111) #[] #[], Value.func (.func 112) #[] #[], Value.func (.func 113) #[] #[], Value.func (.func 114) #[] #[]] 159)) = U at *
  have u0 : Below U.heap.size U U := Below.refl _ U
  have HA := Lib.hid hA
  have MK := Lib.hid (show ∀ w', Below U.heap.size U w' → w'.cell? ⟨w.heap.size, 0, none⟩ = some (.int .i64 s) ∧ w'.cell? ⟨w.heap.size, 1, none⟩ = some (.int .i64 4) ∧ w'.cell? ⟨w.heap.size + 1, 4, none⟩ = some (.func (.func 112) #[] #[]) ∧ Below U.heap.size U w' from
    (fun w' h => ⟨(h.cell (p := ⟨w.heap.size, 0, none⟩) (by simp; omega)).trans k0, (h.cell (p := ⟨w.heap.size, 1, none⟩) (by simp; omega)).trans k1, (h.cell (p := ⟨w.heap.size + 1, 4, none⟩) hz).trans k2, h⟩))
  clear hA hz
  go_region_held3 (fun w' => w'.cell? ⟨w.heap.size, 0, none⟩ = some (.int .i64 s) ∧ w'.cell? ⟨w.heap.size, 1, none⟩ = some (.int .i64 4) ∧ w'.cell? ⟨w.heap.size + 1, 4, none⟩ = some (.func (.func 112) #[] #[]) ∧ Below U.heap.size U w')
    (first | with_reducible assumption | exact MK.out _ (by with_reducible assumption) | exact MK.out _ (below_drew (by with_reducible assumption)))
    ((first | (go_at_call 112; go_split_ands; with_reducible refine (G.out _).mono ?_; rintro e wn ⟨rfl, pB⟩; have sB := btr (by with_reducible assumption) pB; clear G pB)))
  go_wp2
  go_ret2
  exact ⟨ret_move rfl (by first | rfl | simp), btr HA.out sB⟩

set_option maxRecDepth 100000 in
set_option maxHeartbeats 4000000 in
theorem to_5 (s : Int) (w : World) : Calls Tryz.prog 84 #[.agg #[.int .i64 s, .int .i64 5]] w fun x w' => x = .returned (.tuple #[.int .i64 (dest s 5), .bool (goes s 5)]) ∧ Below w.heap.size w w' := by
  have hD : dest s 5 = (if s = 3 then 5 else 4) := by simp [dest]
  have hG : goes s 5 = decide (s = 3 ∨ s = 2) := by simp [goes]
  rw [hD, hG]
  have g0 := fun W => endOut_c s 5 W
  generalize (if s = 3 then (5 : Int) else 4) = dd at *
  have G := Lib.hid g0
  clear g0
  go_enter Tryz.func84, Tryz.ntmps84
  go_wp2_with fail
  have hA : Below w.heap.size w ((w.alloc (Obj.cells #[.int .i64 s, .int .i64 5] 124)).alloc tab) := bal (below_alloc _ _) _
  have k0 : ((w.alloc (Obj.cells #[.int .i64 s, .int .i64 5] 124)).alloc tab).cell? ⟨w.heap.size, 0, none⟩ = some (.int .i64 s) := by unfold tab; go_simp
  have k1 : ((w.alloc (Obj.cells #[.int .i64 s, .int .i64 5] 124)).alloc tab).cell? ⟨w.heap.size, 1, none⟩ = some (.int .i64 5) := by unfold tab; go_simp
  have k2 : ((w.alloc (Obj.cells #[.int .i64 s, .int .i64 5] 124)).alloc tab).cell? ⟨w.heap.size + 1, 5, none⟩ = some (.func (.func 113) #[] #[]) := by unfold tab; go_simp
  have hz : w.heap.size + 1 < ((w.alloc (Obj.cells #[.int .i64 s, .int .i64 5] 124)).alloc tab).heap.size := by simp
  simp only [tab] at hA k0 k1 k2 hz
  generalize ((w.alloc (Obj.cells #[Value.int .i64 s, Value.int .i64 5] 124)).alloc (Obj.cells #[Value.nilFunc, Value.func (.func 109) #[] #[], Value.func (.func 110) #[] #[], Value.func (.func 111) #[] #[], Value.func (.func 112) #[] #[], Value.func (.func 113) #[] #[], Value.func (.func 114) #[] #[]] 159)) = U at *
  have u0 : Below U.heap.size U U := Below.refl _ U
  have HA := Lib.hid hA
  have MK := Lib.hid (show ∀ w', Below U.heap.size U w' → w'.cell? ⟨w.heap.size, 0, none⟩ = some (.int .i64 s) ∧ w'.cell? ⟨w.heap.size, 1, none⟩ = some (.int .i64 5) ∧ w'.cell? ⟨w.heap.size + 1, 5, none⟩ = some (.func (.func 113) #[] #[]) ∧ Below U.heap.size U w' from
    (fun w' h => ⟨(h.cell (p := ⟨w.heap.size, 0, none⟩) (by simp; omega)).trans k0, (h.cell (p := ⟨w.heap.size, 1, none⟩) (by simp; omega)).trans k1, (h.cell (p := ⟨w.heap.size + 1, 5, none⟩) hz).trans k2, h⟩))
  clear hA hz
  go_region_held3 (fun w' => w'.cell? ⟨w.heap.size, 0, none⟩ = some (.int .i64 s) ∧ w'.cell? ⟨w.heap.size, 1, none⟩ = some (.int .i64 5) ∧ w'.cell? ⟨w.heap.size + 1, 5, none⟩ = some (.func (.func 113) #[] #[]) ∧ Below U.heap.size U w')
    (first | with_reducible assumption | exact MK.out _ (by with_reducible assumption) | exact MK.out _ (below_drew (by with_reducible assumption)))
    ((first | (go_at_call 113; go_split_ands; with_reducible refine (G.out _).mono ?_; rintro e wn ⟨rfl, pB⟩; have sB := btr (by with_reducible assumption) pB; clear G pB)))
  go_wp2
  go_ret2
  exact ⟨ret_move rfl (by first | rfl | simp), btr HA.out sB⟩

set_option maxRecDepth 100000 in
set_option maxHeartbeats 4000000 in
theorem to_6 (s : Int) (w : World) : Calls Tryz.prog 84 #[.agg #[.int .i64 s, .int .i64 6]] w fun x w' => x = .returned (.tuple #[.int .i64 (dest s 6), .bool (goes s 6)]) ∧ Below w.heap.size w w' := by
  have hD : dest s 6 = 6 := by simp [dest]
  have hG : goes s 6 = decide (1 ≤ s ∧ s ≤ 4) := by simp [goes]
  rw [hD, hG]
  have g0 := fun W => reset_c s 6 W
  have G := Lib.hid g0
  clear g0
  go_enter Tryz.func84, Tryz.ntmps84
  go_wp2_with fail
  have hA : Below w.heap.size w ((w.alloc (Obj.cells #[.int .i64 s, .int .i64 6] 124)).alloc tab) := bal (below_alloc _ _) _
  have k0 : ((w.alloc (Obj.cells #[.int .i64 s, .int .i64 6] 124)).alloc tab).cell? ⟨w.heap.size, 0, none⟩ = some (.int .i64 s) := by unfold tab; go_simp
  have k1 : ((w.alloc (Obj.cells #[.int .i64 s, .int .i64 6] 124)).alloc tab).cell? ⟨w.heap.size, 1, none⟩ = some (.int .i64 6) := by unfold tab; go_simp
  have k2 : ((w.alloc (Obj.cells #[.int .i64 s, .int .i64 6] 124)).alloc tab).cell? ⟨w.heap.size + 1, 6, none⟩ = some (.func (.func 114) #[] #[]) := by unfold tab; go_simp
  have hz : w.heap.size + 1 < ((w.alloc (Obj.cells #[.int .i64 s, .int .i64 6] 124)).alloc tab).heap.size := by simp
  simp only [tab] at hA k0 k1 k2 hz
  generalize ((w.alloc (Obj.cells #[Value.int .i64 s, Value.int .i64 6] 124)).alloc (Obj.cells #[Value.nilFunc, Value.func (.func 109) #[] #[], Value.func (.func 110) #[] #[], Value.func (.func 111) #[] #[], Value.func (.func 112) #[] #[], Value.func (.func 113) #[] #[], Value.func (.func 114) #[] #[]] 159)) = U at *
  have u0 : Below U.heap.size U U := Below.refl _ U
  have HA := Lib.hid hA
  have MK := Lib.hid (show ∀ w', Below U.heap.size U w' → w'.cell? ⟨w.heap.size, 0, none⟩ = some (.int .i64 s) ∧ w'.cell? ⟨w.heap.size, 1, none⟩ = some (.int .i64 6) ∧ w'.cell? ⟨w.heap.size + 1, 6, none⟩ = some (.func (.func 114) #[] #[]) ∧ Below U.heap.size U w' from
    (fun w' h => ⟨(h.cell (p := ⟨w.heap.size, 0, none⟩) (by simp; omega)).trans k0, (h.cell (p := ⟨w.heap.size, 1, none⟩) (by simp; omega)).trans k1, (h.cell (p := ⟨w.heap.size + 1, 6, none⟩) hz).trans k2, h⟩))
  clear hA hz
  go_region_held3 (fun w' => w'.cell? ⟨w.heap.size, 0, none⟩ = some (.int .i64 s) ∧ w'.cell? ⟨w.heap.size, 1, none⟩ = some (.int .i64 6) ∧ w'.cell? ⟨w.heap.size + 1, 6, none⟩ = some (.func (.func 114) #[] #[]) ∧ Below U.heap.size U w')
    (first | with_reducible assumption | exact MK.out _ (by with_reducible assumption) | exact MK.out _ (below_drew (by with_reducible assumption)))
    ((first | (go_at_call 114; go_split_ands; with_reducible refine (G.out _).mono ?_; rintro e wn ⟨rfl, pB⟩; have sB := btr (by with_reducible assumption) pB; clear G pB)))
  go_wp2
  go_ret2
  exact ⟨ret_move rfl (by first | rfl | simp), btr HA.out sB⟩

theorem to_c (s e : Int) (w : World) : Calls Tryz.prog 84 #[.agg #[.int .i64 s, .int .i64 e]] w fun x w' => x = .returned (.tuple #[.int .i64 (dest s e), .bool (goes s e)]) ∧ Below w.heap.size w w' := by
  by_cases h1 : e < 1
  · have hD : dest s e = 0 := by unfold dest; repeat' split
                                 all_goals first | omega | rfl
    have hG : goes s e = false := by unfold goes; repeat' split
                                     all_goals first | omega | rfl
    rw [hD, hG]
    clear hD hG
    go_enter Tryz.func84, Tryz.ntmps84
    go_wp2
    go_ret2
    exact ⟨rfl, bal (below_alloc _ _) _⟩
  · by_cases h6 : 6 < e
    · have hD : dest s e = 0 := by unfold dest; repeat' split
                                   all_goals first | omega | rfl
      have hG : goes s e = false := by unfold goes; repeat' split
                                       all_goals first | omega | rfl
      rw [hD, hG]
      clear hD hG
      go_enter Tryz.func84, Tryz.ntmps84
      go_wp2
      go_ret2
      exact ⟨rfl, bal (below_alloc _ _) _⟩
    · obtain rfl | rfl | rfl | rfl | rfl | rfl : e = 1 ∨ e = 2 ∨ e = 3 ∨ e = 4 ∨ e = 5 ∨ e = 6 := by omega
      · exact to_1 s w
      · exact to_2 s w
      · exact to_3 s w
      · exact to_4 s w
      · exact to_5 s w
      · exact to_6 s w
end Go.Proofs.YtkokcfhfgnkdfaaGreatDoor.L14

/- A move's checks; the first fault of them; the number of a fault. -/
namespace Go.Proofs.YtkokcfhfgnkdfaaGreatDoor.L14
open Go.RowKit
attribute [local go_sem] Oper.semAt_some

def errV (b : Bool) (e : Int) : Value := if b = true then .nilIface else faultV e
set_option maxHeartbeats 2000000 in
theorem isFrom_c (s e : Int) (w : World) : Calls Tryz.prog 82 #[.agg #[.int .i64 s, .int .i64 e]] w fun x w' => x = .returned (errV (isSt s) 2) ∧ Below w.heap.size w w' := by
  have hC := fun W => isState_c s W
  generalize isSt s = b at *
  have U := fun W => unless_c b 2 W
  unfold errV
  generalize (if b = true then Value.nilIface else faultV 2) = v at *
  have HC := Lib.hid hC
  have HU := Lib.hid U
  clear hC U
  go_enter Tryz.func82, Tryz.ntmps82
  go_wp2_with (first
    | (go_at_call 108; refine (HC.out _).mono ?_; rintro x w' ⟨rfl, rfl⟩)
    | (go_at_call 47; refine (HU.out _).mono ?_; rintro x w' ⟨rfl, rfl⟩))
  go_ret
  exact ⟨rfl, below_alloc _ _⟩

set_option maxHeartbeats 2000000 in
theorem mayHappen_c (s e : Int) (w : World) : Calls Tryz.prog 83 #[.agg #[.int .i64 s, .int .i64 e]] w fun x w' => x = .returned (errV (goes s e) 140) ∧ Below w.heap.size w w' := by
  have hC := fun W => to_c s e W
  generalize goes s e = b at *
  generalize dest s e = d at *
  have U := fun W => unless_c b 140 W
  unfold errV
  generalize (if b = true then Value.nilIface else faultV 140) = v at *
  have HC := Lib.hid hC
  have HU := Lib.hid U
  clear hC U
  go_enter Tryz.func83, Tryz.ntmps83
  go_wp2_with (first
    | (go_at_call 84; refine (HC.out _).mono ?_; rintro x w1 ⟨rfl, hB⟩)
    | (go_at_call 47; refine (HU.out _).mono ?_; rintro x w' ⟨rfl, rfl⟩))
  go_ret
  exact ⟨rfl, btr (below_alloc _ _) hB⟩

/-- What the two checks of a move tell together. -/
def checkV (s e : Int) : Value := if isSt s = true then errV (goes s e) 140 else faultV 2
set_option maxRecDepth 100000 in
set_option maxHeartbeats 2000000 in
theorem first_c (s e : Int) (b : Nat) (w : World) (h0 : w.cell? ⟨b, 0, none⟩ = some (.func (.func 82) #[.agg #[.int .i64 s, .int .i64 e]] #[])) (h1 : w.cell? ⟨b, 1, none⟩ = some (.func (.func 83) #[.agg #[.int .i64 s, .int .i64 e]] #[])) :
    Calls Tryz.prog 44 #[.slice (some ⟨b, 0, none⟩) 2 2] w fun x w' => x = .returned (checkV s e) ∧ Below w.heap.size w w' := by
  have hb := blt h0
  have h1' : ∀ W, Below w.heap.size w W → W.cell? ⟨b, 1, none⟩ = some (.func (.func 83) #[.agg #[.int .i64 s, .int .i64 e]] #[]) := fun W h => (h.cell (p := ⟨b, 1, none⟩) hb).trans h1
  have H1 := Lib.hid h1'
  clear h1' h1
  have C1 := fun W => isFrom_c s e W
  have C2 := fun W => mayHappen_c s e W
  unfold checkV
  cases hs : isSt s with
  | false =>
    rw [hs] at C1
    simp only [errV, faultV, Bool.false_eq_true, if_false] at C1 ⊢
    have HC := Lib.hid C1
    clear C1 C2 hs H1
    go_enter Tryz.func44, Tryz.ntmps44
    go_wp2
    refine wp_loop_rounds 3 ?_
    rw [rounds_succ]
    go_wp2_with (go_at_call 82; refine (HC.out _).mono ?_; rintro x w1 ⟨rfl, hB1⟩)
    go_ret
    exact ⟨rfl, hB1⟩
  | true =>
    rw [hs] at C1
    simp only [errV, if_true] at C1 ⊢
    have HC := Lib.hid C1
    clear C1 hs
    cases hg : goes s e with
    | false =>
      rw [hg] at C2
      simp only [errV, faultV, Bool.false_eq_true, if_false] at C2 ⊢
      have HD := Lib.hid C2
      clear C2 hg
      go_enter Tryz.func44, Tryz.ntmps44
      go_wp2
      refine wp_loop_rounds 3 ?_
      rw [rounds_succ]
      go_wp2_with (go_at_call 82; refine (HC.out _).mono ?_; rintro x w1 ⟨rfl, hB1⟩)
      have k1 := H1.out w1 hB1
      rw [rounds_succ]
      go_wp2_with (go_at_call 83; refine (HD.out _).mono ?_; rintro x w2 ⟨rfl, hB2⟩)
      go_ret
      exact ⟨rfl, btr hB1 hB2⟩
    | true =>
      rw [hg] at C2
      simp only [errV, if_true] at C2 ⊢
      have HD := Lib.hid C2
      clear C2 hg
      go_enter Tryz.func44, Tryz.ntmps44
      go_wp2
      refine wp_loop_rounds 3 ?_
      rw [rounds_succ]
      go_wp2_with (go_at_call 82; refine (HC.out _).mono ?_; rintro x w1 ⟨rfl, hB1⟩)
      have k1 := H1.out w1 hB1
      rw [rounds_succ]
      go_wp2_with (go_at_call 83; refine (HD.out _).mono ?_; rintro x w2 ⟨rfl, hB2⟩)
      rw [rounds_succ]
      go_wp2
      go_ret
      exact ⟨rfl, btr hB1 hB2⟩

/-- The variable of package errors that is read holds what it holds from the start. -/
def Laid (w : World) : Prop := w.cell? ⟨0, 0, none⟩ = some (.iface 161 (.agg #[.pointer (some ⟨1, 78, none⟩)]))
theorem Laid.on {a w : World} (h : Laid a) (b : Below a.heap.size a w) : Laid w := (b.cell (p := ⟨0, 0, none⟩) (blt h)).trans h
theorem no_nil (w : World) : Calls Tryz.prog 29 #[.nilIface] w fun x w' => x = .returned (.int .i64 0) ∧ w = w' := Go.Proofs.YtkokcfhfgnkdfaaGreatDoor.no_nil w
theorem no_fault (e : Int) (w : World) (hL : Laid w) : Calls Tryz.prog 29 #[faultV e] w fun x w' => x = .returned (.int .i64 e) ∧ Below w.heap.size w w' := no_c w e hL

/-- What Next answers. -/
def nextE (s e : Int) : Int := if isSt s = true then (if goes s e = true then 0 else 140) else 2
def nextN (s e : Int) : Int := if isSt s = true then (if goes s e = true then dest s e else 0) else 0
set_option maxRecDepth 100000 in
set_option maxHeartbeats 2000000 in
theorem next_no (s e : Int) (k : Int) (hk : checkV s e = faultV k) (w : World) (hL : Laid w) : Calls Tryz.prog 56 #[.int .i64 s, .int .i64 e] w fun x w' => x = .returned (.tuple #[.int .i64 0, .int .i64 k]) ∧ Below w.heap.size w w' := by
  have F := Lib.hid (fun b W h0 h1 => first_c s e b W h0 h1)
  rw [hk] at F
  have HL := Lib.hid hL
  have HN := Lib.hid (fun W hW => no_fault k W hW)
  clear hL hk
  simp only [faultV] at F HN
  go_enter Tryz.func56, Tryz.ntmps56
  go_wp2_with fail
  have hA : Below w.heap.size w ((w.alloc (.cells #[.int .i64 s, .int .i64 e] 124)).alloc (.cells #[.func (.func 82) #[.agg #[.int .i64 s, .int .i64 e]] #[], .func (.func 83) #[.agg #[.int .i64 s, .int .i64 e]] #[]] 90)) := bal (below_alloc _ _) _
  refine (F.out (w.heap.size + 1) _ ?_ ?_).mono ?_
  · go_simp
  · go_simp
  rintro x w1 ⟨rfl, hb1⟩
  have hB1 := btr hA hb1
  clear hA hb1 F
  go_wp2_with (go_at_call 29; refine (HN.out _ (HL.out.on hB1)).mono ?_; rintro x w2 ⟨rfl, hb2⟩)
  go_ret2
  exact ⟨rfl, btr hB1 hb2⟩

set_option maxRecDepth 100000 in
set_option maxHeartbeats 2000000 in
theorem next_ok (s e : Int) (hk : checkV s e = .nilIface) (w : World) : Calls Tryz.prog 56 #[.int .i64 s, .int .i64 e] w fun x w' => x = .returned (.tuple #[.int .i64 (dest s e), .int .i64 0]) ∧ Below w.heap.size w w' := by
  have F := Lib.hid (fun b W h0 h1 => first_c s e b W h0 h1)
  rw [hk] at F
  have HN := Lib.hid (fun W => to_c s e W)
  clear hk
  generalize dest s e = d at *
  generalize goes s e = g at *
  go_enter Tryz.func56, Tryz.ntmps56
  go_wp2_with fail
  have hA : Below w.heap.size w ((w.alloc (.cells #[.int .i64 s, .int .i64 e] 124)).alloc (.cells #[.func (.func 82) #[.agg #[.int .i64 s, .int .i64 e]] #[], .func (.func 83) #[.agg #[.int .i64 s, .int .i64 e]] #[]] 90)) := bal (below_alloc _ _) _
  refine (F.out (w.heap.size + 1) _ ?_ ?_).mono ?_
  · go_simp
  · go_simp
  rintro x w1 ⟨rfl, hb1⟩
  have k0 : w1.cell? ⟨w.heap.size, 0, none⟩ = some (.int .i64 s) := (hb1.cell (p := ⟨w.heap.size, 0, none⟩) (by simp; omega)).trans (by go_simp)
  have k1 : w1.cell? ⟨w.heap.size, 1, none⟩ = some (.int .i64 e) := (hb1.cell (p := ⟨w.heap.size, 1, none⟩) (by simp; omega)).trans (by go_simp)
  have hB1 := btr hA hb1
  clear hA hb1 F
  go_wp2_with (go_at_call 84; refine (HN.out _).mono ?_; rintro x w2 ⟨rfl, hb2⟩)
  go_ret2
  exact ⟨rfl, btr hB1 hb2⟩

theorem next_c (s e : Int) (w : World) (hL : Laid w) : Calls Tryz.prog 56 #[.int .i64 s, .int .i64 e] w fun x w' => x = .returned (.tuple #[.int .i64 (nextN s e), .int .i64 (nextE s e)]) ∧ Below w.heap.size w w' := by
  unfold nextN nextE
  cases hs : isSt s with
  | false => exact next_no s e 2 (by unfold checkV; rw [hs]; rfl) w hL
  | true =>
    cases hg : goes s e with
    | false => exact next_no s e 140 (by unfold checkV errV; rw [hs, hg]; rfl) w hL
    | true => exact next_ok s e (by unfold checkV errV; rw [hs, hg]; rfl) w
end Go.Proofs.YtkokcfhfgnkdfaaGreatDoor.L14

/- slices.Values; what flows; the walk's step. -/
namespace Go.Proofs.YtkokcfhfgnkdfaaGreatDoor.L14
open Go.RowKit Go.Shelf
attribute [local go_sem] Oper.semAt_some

/-- The cells from a hold the numbers zs, in a block below n₀. -/
def IntsAt (n₀ : Nat) (W : World) (a : Option Addr) (zs : List Int) : Prop :=
  ∀ i, (h : i < zs.length) → ∃ b off, a = some ⟨b, off, none⟩ ∧ b < n₀ ∧ W.cell? ⟨b, off + i, none⟩ = some (.int .i64 zs[i])
theorem IntsAt.below {n₀ : Nat} {A B : World} (h : Below n₀ A B) {a : Option Addr} {zs : List Int} (k : IntsAt n₀ A a zs) : IntsAt n₀ B a zs := fun i hi => by
  obtain ⟨b, off, e, hb, hc⟩ := k i hi
  exact ⟨b, off, e, hb, (h.cell (p := ⟨b, off + i, none⟩) hb).trans hc⟩
theorem IntsAt.mono {n₀ m : Nat} (h : n₀ ≤ m) {W : World} {a : Option Addr} {zs : List Int} (k : IntsAt n₀ W a zs) : IntsAt m W a zs := fun i hi => by
  obtain ⟨b, off, e, hb, hc⟩ := k i hi
  exact ⟨b, off, e, by omega, hc⟩
theorem IntsAt.nil (n₀ : Nat) (W : World) (a : Option Addr) : IntsAt n₀ W a [] := fun i hi => by simp at hi
theorem take_snoc (l : List Int) (k : Nat) (h : k < l.length) : l.take (k + 1) = l.take k ++ [l[k]] := List.take_succ_eq_append_getElem h

set_option maxRecDepth 100000 in
set_option maxHeartbeats 1000000 in
theorem grown_of_below {W W' : World} (h : Below W.heap.size W W') : W.grownBy W' none := ⟨h.os, h.tape, h.output, h.size, fun i hi _ => h.block i hi⟩

set_option maxHeartbeats 1000000 in
theorem values_in (F : Fence) (n : Nat) (h30 : F.fn 120) (hro : F.round = none) (a : Option Addr) (len cap : Nat) (w : World) :
    CallsIn F n Tryz.prog 120 #[.slice a len cap] w fun e w' => e = .returned (.func (.func 126) #[] #[.pointer (some ⟨w.heap.size, 0, none⟩)]) ∧ w' = w.alloc (.cells #[.slice a len cap] 115) := by
  refine callsIn_of_wp Tryz.func120 rfl h30 ?_ hro
  simp only [Tryz.ntmps120, List.size_toArray, List.length_cons, List.length_nil, Nat.reduceAdd, Nat.reduceSub, Array.replicate_succ, Array.replicate_zero, List.push_toArray, List.append_toArray, List.nil_append, List.cons_append]
  gi_wp2
  go_ret
  exact ⟨rfl, rfl⟩

set_option maxRecDepth 100000 in
set_option maxHeartbeats 2000000 in
theorem values1_in (F : Fence) (n : Nat) (h42 : F.fn 126) (hro : F.round = none) (hn : 1 ≤ n) (l Bs n₀ : Nat) (a : Option Addr) (cap : Nat) (zs : List Int) (hlen : zs.length ≤ 1000) (J Jx : List Int → World → Prop)
    (hY : ∀ pre x W, J pre W → pre.length < zs.length → YieldAt F (n - 1) Tryz.prog l #[.int .i64 x] W fun e W' =>
      (e = .returned (.bool true) ∧ J (pre ++ [x]) W' ∧ Below n₀ W W') ∨ (e = .returned (.bool false) ∧ Jx (pre ++ [x]) W'))
    (W : World) (hBs : W.cell? ⟨Bs, 0, none⟩ = some (.slice a zs.length cap)) (hI : IntsAt n₀ W a zs) (h0 : J [] W) :
    CallsIn F n Tryz.prog 126 #[.func (.yield l) #[] #[], .pointer (some ⟨Bs, 0, none⟩)] W fun e W' => (∃ v, e = .returned v) ∧
      ((∃ ys, ys = zs ∧ J ys W') ∨ (∃ pre, pre <+: zs ∧ Jx pre W')) := by
  generalize hL : zs.length = L at *
  have HI := Lib.hid hI
  clear hI
  refine callsIn_of_wp Tryz.func126 rfl h42 ?_ hro
  simp only [Tryz.ntmps126, List.size_toArray, List.length_cons, List.length_nil, Nat.reduceAdd, Nat.reduceSub, Array.replicate_succ, Array.replicate_zero, List.push_toArray, List.append_toArray, List.nil_append, List.cons_append]
  gi_wp2
  gi_loopw [7] (fun i wr => ∃ k : Nat, k ≤ L ∧ i = .int .i64 k ∧ J (zs.take k) wr ∧ Below n₀ W wr)
    (fun i _ => L - (intOf i).toNat)
  case atStart => exact ⟨0, Nat.zero_le _, rfl, h0, Below.refl _ _⟩
  case round =>
    obtain ⟨k, hk, rfl, hJs, hnx⟩ := hrel
    by_cases hlt : k < L
    · have hlt' : k < zs.length := by omega
      obtain ⟨b, off, rfl, hb, hc⟩ := (HI.out.below hnx) k hlt'
      obtain ⟨fn, tmps, assign, body, hy, hR⟩ := hY _ zs[k] wr hJs (by rw [List.length_take, hL]; omega)
      have Hnx := Lib.hid hnx
      have HJ := Lib.hid (take_snoc zs k hlt')
      generalize zs[k] = x at *
      clear hnx hlt'
      gi_wp2
      refine hR.mono ?_
      rintro e W3 (⟨rfl, hJ3, hk3⟩ | ⟨rfl, hJx3⟩)
      · gi_wp2
        go_roundw
        case rel => exact ⟨k + 1, by omega, by simp, by rw [HJ.out]; exact hJ3, Hnx.out.trans hk3⟩
        case measure => simp [intOf]; omega
      · gi_wp2
        refine bodyPost_ret (results_none rfl _ _ _) rfl ?_
        exact ⟨⟨_, rfl⟩, .inr ⟨_, by rw [← HJ.out]; exact List.take_prefix _ _, hJx3⟩⟩
    · obtain rfl : k = L := by omega
      gi_wp2
      go_end0
      exact ⟨⟨_, rfl⟩, .inl ⟨_, by rw [← hL, List.take_length], hJs⟩⟩

theorem values_stops (F : Fence) (n : Nat) (h42 : F.fn 126) (hro : F.round = none) (hn : 1 ≤ n) (Bs n₀ : Nat) (a : Option Addr) (cap : Nat) (zs : List Int) (hlen : zs.length ≤ 1000) (w : World) (hn₀ : n₀ ≤ w.heap.size)
    (hc : w.cell? ⟨Bs, 0, none⟩ = some (.slice a zs.length cap)) (hI : IntsAt n₀ w a zs) :
    SeqStopsK F n Tryz.prog 126 #[.pointer (some ⟨Bs, 0, none⟩)] (fun x : Int => #[Value.int .i64 x]) (Below n₀) (fun ys => ys = zs) (fun pre => pre <+: zs) zs.length w := fun l J Jx W hW _ _ hY h0 =>
  values1_in F n h42 hro hn l Bs n₀ a cap zs hlen J Jx hY W ((hW.cell (p := ⟨Bs, 0, none⟩) (blt hc)).trans hc) (hI.below (hW.mono hn₀)) h0


theorem keeps_of_below {W W' : World} (h : Below W.heap.size W W') : KeepsOthers W W' := ⟨h.size, fun k _ hk _ => (h.block k (Array.getElem?_eq_some_iff.1 hk).1).trans hk⟩

theorem flows_c (s : Int) (w : World) : Calls Tryz.prog 107 #[.int .i64 s] w fun x w' => x = .returned (.tuple #[.bool (inB s), .bool (outB s)]) ∧ w = w' := by
  by_cases h2 : s = 2
  · subst h2
    go_enter Tryz.func107, Tryz.ntmps107
    go_wp2
    go_ret2
    exact ⟨rfl, rfl⟩
  · by_cases h4 : s = 4
    · subst h4
      go_enter Tryz.func107, Tryz.ntmps107
      go_wp2
      go_ret2
      exact ⟨rfl, rfl⟩
    · by_cases h3 : s = 3
      · subst h3
        go_enter Tryz.func107, Tryz.ntmps107
        go_wp2
        go_ret2
        exact ⟨rfl, rfl⟩
      · have e1 : inB s = false := by simp only [inB, decide_eq_false_iff_not]; omega
        have e2 : outB s = false := by simp only [outB, decide_eq_false_iff_not]; omega
        rw [e1, e2]
        go_enter Tryz.func107, Tryz.ntmps107
        go_wp2
        go_ret2
        exact ⟨rfl, rfl⟩
theorem in_c (s : Int) (w : World) : Calls Tryz.prog 80 #[.int .i64 s] w fun x w' => x = .returned (.bool (inB s)) ∧ w = w' := by
  have H := Lib.hid (fun W => flows_c s W)
  generalize inB s = b at *
  generalize outB s = c at *
  go_enter Tryz.func80, Tryz.ntmps80
  go_wp2_with (go_at_call 107; refine (H.out _).mono ?_; rintro x w' ⟨rfl, rfl⟩)
  go_ret
  exact ⟨rfl, rfl⟩
theorem out_c (s : Int) (w : World) : Calls Tryz.prog 81 #[.int .i64 s] w fun x w' => x = .returned (.bool (outB s)) ∧ w = w' := by
  have H := Lib.hid (fun W => flows_c s W)
  generalize inB s = b at *
  generalize outB s = c at *
  go_enter Tryz.func81, Tryz.ntmps81
  go_wp2_with (go_at_call 107; refine (H.out _).mono ?_; rintro x w' ⟨rfl, rfl⟩)
  go_ret
  exact ⟨rfl, rfl⟩
theorem isEnd_c (s : Int) (w : World) : Calls Tryz.prog 31 #[.int .i64 s] w fun x w' => x = .returned (.bool (endB s)) ∧ w = w' := by
  by_cases h : s = 5
  · subst h
    go_enter Tryz.func31, Tryz.ntmps31
    go_wp2
    go_ret
    exact ⟨rfl, rfl⟩
  · have e : endB s = decide (s = 6) := by unfold endB; rw [Bool.eq_iff_iff]; simp [h]
    rw [e]
    go_enter Tryz.func31, Tryz.ntmps31
    go_wp2
    go_ret
    exact ⟨ret_bool (by rw [Bool.eq_iff_iff]; simp <;> omega), rfl⟩

end Go.Proofs.YtkokcfhfgnkdfaaGreatDoor.L14

/- A tunnel in memory; its directions, one after the other. -/
namespace Go.Proofs.YtkokcfhfgnkdfaaGreatDoor.L17
open Go.RowKit Go.Shelf
attribute [local go_sem] Oper.semAt_some

/-- The way of a number, of two. -/
def pick (X0 X1 k : Nat) : Nat := if k = 0 then X0 else X1
theorem idx0 (a b : Value) (w : World) : (Instr.index 65 (.agg #[a, b]) (.int .i64 0)).run Tryz.prog w = .ok a w := by kernel_rfl
theorem idx1 (a b : Value) (w : World) : (Instr.index 65 (.agg #[a, b]) (.int .i64 1)).run Tryz.prog w = .ok b w := by kernel_rfl
set_option maxRecDepth 100000 in
set_option maxHeartbeats 4000000 in
theorem sides_it (n : Nat) (hn : 2 ≤ n) (T B X0 X1 : Nat) (w : World) (h0 : w.cell? ⟨B, 0, none⟩ = some (.pointer (some ⟨T, 0, none⟩))) (h1 : w.cell? ⟨T, 1, none⟩ = some (.pointer (some ⟨X0, 0, none⟩))) (h2 : w.cell? ⟨T, 2, none⟩ = some (.pointer (some ⟨X1, 0, none⟩))) :
    Iters Fence.wide n Tryz.prog 90 #[.pointer (some ⟨B, 0, none⟩)] (fun k : Nat => #[.int .i64 (k : Int), .pointer (some ⟨pick X0 X1 k, 0, none⟩)]) (fun pre x => x = pre.length ∧ pre.length < 2) (fun xs => xs.length = 2) (fun pre => pre.length ≤ 2) (fun i => i = B) w := by
  intro l J Jx W Pv hW hcap hJ hJx hY hj
  have H0 := (hW.cell (p := ⟨B, 0, none⟩) (blt h0)).trans h0
  have H1 := (hW.cell (p := ⟨T, 1, none⟩) (blt h1)).trans h1
  have H2 := (hW.cell (p := ⟨T, 2, none⟩) (blt h2)).trans h2
  have HY := Lib.hid hY
  have hJ0 := Lib.hid hj
  have hn1 : 1 ≤ n - 1 := by omega
  clear hW hcap hJ hJx hY hj h0 h1 h2
  have i0 := idx0
  have i1 := idx1
  refine callsIn_of_wp Tryz.func90 rfl trivial ?_ rfl
  simp only [Tryz.ntmps90, List.size_toArray, List.length_cons, List.length_nil, Nat.reduceAdd, Nat.reduceSub, Array.replicate_succ, Array.replicate_zero, List.push_toArray, List.append_toArray, List.nil_append, List.cons_append]
  gi_wp2_with fail
  refine wpIn_loop_rounds 3 ?_
  rw [roundsIn_succ]
  have HY0 := HY.out [] 0 Pv W ⟨rfl, by decide⟩ hJ0.out
  change YieldAt _ _ _ _ #[.int .i64 0, .pointer (some ⟨X0, 0, none⟩)] _ _ at HY0
  obtain ⟨fn, tmps, assign, body, hy, hR⟩ := HY0
  clear hJ0
  gi_wp2
  refine ⟨fun _ => (by omega), hR.mono ?_⟩
  clear hy hR H0 H1 H2
  rintro e V2 (⟨rfl, hJ2, hM⟩ | ⟨rfl, hX2, hM⟩)
  · have HJ1 := Lib.hid hJ2
    clear hM hJ2
    gi_wp2
    rw [roundsIn_succ]
    have HY0 := HY.out [0] 1 Pv V2 ⟨rfl, by decide⟩ HJ1.out
    change YieldAt _ _ _ _ #[.int .i64 1, .pointer (some ⟨X1, 0, none⟩)] _ _ at HY0
    obtain ⟨fn, tmps, assign, body, hy, hR⟩ := HY0
    clear HJ1
    gi_wp2
    refine ⟨fun _ => (by omega), hR.mono ?_⟩
    clear hy hR
    rintro e V3 (⟨rfl, hJ3, hM⟩ | ⟨rfl, hX3, hM⟩)
    · have HJ2 := Lib.hid hJ3
      clear hM hJ3
      gi_wp2
      rw [roundsIn_succ]
      gi_wp2
      go_end0
      exact ⟨⟨_, rfl⟩, .inl ⟨_, _, rfl, HJ2.out⟩⟩
    · have HX2 := Lib.hid hX3
      clear hM hX3
      gi_wp2
      refine bodyPost_ret (results_none rfl _ _ _) rfl ?_
      exact ⟨⟨_, rfl⟩, .inr ⟨_, _, by simp, HX2.out⟩⟩
  · have HX2 := Lib.hid hX2
    clear hM hX2
    gi_wp2
    refine bodyPost_ret (results_none rfl _ _ _) rfl ?_
    exact ⟨⟨_, rfl⟩, .inr ⟨_, _, by simp, HX2.out⟩⟩
theorem sides_c (T : Nat) (w : World) : Calls Tryz.prog 60 #[.pointer (some ⟨T, 0, none⟩)] w fun x w' => x = .returned (.func (.func 90) #[] #[.pointer (some ⟨w.heap.size, 0, none⟩)]) ∧ w' = w.alloc (.cells #[.pointer (some ⟨T, 0, none⟩)] 25) := by
  go_enter Tryz.func60, Tryz.ntmps60
  go_wp2
  go_ret
  exact ⟨rfl, rfl⟩

/-- A fault of a number behind the tunnel's name, none for 0. -/
def wV (e : Int) : Value := if e = 0 then .nilIface else .iface 128 (.agg #[.string ⟨#[116, 117, 110, 110, 101, 108]⟩, .iface 103 (.agg #[.int .i64 e])])
theorem within_v (e : Int) (w : World) : Calls Tryz.prog 57 #[.string ⟨#[116, 117, 110, 110, 101, 108]⟩, ofV e] w fun x w' => x = .returned (wV e) ∧ w = w' := by
  rcases ofV_two e with ⟨h, hv⟩ | ⟨h, hv⟩
  · rw [hv, show wV e = .nilIface by unfold wV; rw [if_pos h]]
    exact within_nil _ w
  · rw [hv, show wV e = .iface 128 (.agg #[.string ⟨#[116, 117, 110, 110, 101, 108]⟩, .iface 103 (.agg #[.int .i64 e])]) by unfold wV; rw [if_neg h]]
    exact within_c _ e w
theorem no_v (e : Int) (w : World) (hL : L14.Laid w) : Calls Tryz.prog 29 #[wV e] w fun x w' => x = .returned (.int .i64 e) ∧ Below w.heap.size w w' := by
  by_cases h : e = 0
  · rw [show wV e = .nilIface by unfold wV; rw [if_pos h], h]
    exact (no_nil w).mono fun _ _ ⟨h1, h2⟩ => ⟨h1, by rw [← h2]; exact Below.refl _ _⟩
  · rw [show wV e = .iface 128 (.agg #[.string ⟨#[116, 117, 110, 110, 101, 108]⟩, .iface 103 (.agg #[.int .i64 e])]) by unfold wV; rw [if_neg h]]
    exact no_in w _ e hL
end Go.Proofs.YtkokcfhfgnkdfaaGreatDoor.L17

/- A variable that holds a row of the call's own, one append further, inside of a range. -/
namespace Go.Proofs.YtkokcfhfgnkdfaaGreatDoor
open Go.RowKit Go.Shelf

theorem row_lt {W : World} {z : Nat} {t : TypeId} {n k : Nat} {v : Value} {xs : List Value} (h : W.ownsRow z t n v k xs) {g : Nat} (hg : v.ownBlock = some g) : z ≤ g ∧ g < W.heap.size := h.lt g hg
theorem row_form {W : World} {z : Nat} {t : TypeId} {n k : Nat} {v : Value} {xs : List Value} (h : W.ownsRow z t n v k xs) : ∃ ao c, v = .slice ao k c := by
  rcases h.2 with ⟨rfl, rfl⟩ | ⟨g', cap, cur, rfl, _⟩
  · exact ⟨_, _, rfl⟩
  · exact ⟨_, _, rfl⟩
theorem Goes.boxedG {Pv : Nat → Prop} {A B : World} {b : Nat} {t : TypeId} {v : Value} (h : Goes Pv A B) (hb : Boxed A b t v) (hp : ¬ Pv b) : Boxed B b t v := h.obj hb hp
theorem More.notG {Pv Pv' : Nat → Prop} {A B : World} (hm : More Pv Pv' A B) {i : Nat} (h : ¬ Pv i) (hi : i < A.heap.size) : ¬ Pv' i := fun k => (hm i k).elim h (fun k => by omega)
/-- What an append to a row in a variable's box, and the box written, leave. -/
structure RowNext (Pv : Nat → Prop) (z B : Nat) (T E : TypeId) (sz : Nat) (w Y w4 : World) (v' : Value) (n : Nat) (xs : List Value) : Prop where
  box : Boxed (w4.setCell ⟨B, 0, none⟩ v') B T v'
  own : (w4.setCell ⟨B, 0, none⟩ v').ownsRow z E sz v' n xs
  below : Below z w (w4.setCell ⟨B, 0, none⟩ v')
  pg : ∀ g, v'.ownBlock = some g → ¬ Pv g
  pt : ∀ i, Pv i → i < (w4.setCell ⟨B, 0, none⟩ v').heap.size
  mid : Mid Pv Y (w4.setCell ⟨B, 0, none⟩ v')
  other : ∀ (b : Nat) (t : TypeId) (u : Value), Boxed Y b t u → t ≠ E → b ≠ B → Boxed (w4.setCell ⟨B, 0, none⟩ v') b t u
  maps : ∀ (b : Nat) es c, Y.heap[b]? = some (Obj.map es c) → (w4.setCell ⟨B, 0, none⟩ v').heap[b]? = some (Obj.map es c)
theorem row_next {Pv : Nat → Prop} {z B : Nat} {T E : TypeId} (hTE : T ≠ E) {sz n m : Nat} {w Y w4 : World} {v v' : Value} {xs ys : List Value} {o : Obj} (b1 : Boxed Y B T v) (ho : Y.ownsRow z E sz v n xs) (hb : Below z w Y) (hB : z ≤ B)
    (hg4 : (Y.alloc o).grownBy w4 v.ownBlock) (ho4 : w4.ownsRow z E sz v' (n + m) ys) (hat : v'.ownBlock = v.ownBlock ∨ v'.ownBlock = some (Y.alloc o).heap.size) (pB : ¬ Pv B) (pg : ∀ g, v.ownBlock = some g → ¬ Pv g) (pt : ∀ i, Pv i → i < Y.heap.size) :
    Boxed w4 B T v ∧ RowNext Pv z B T E sz w Y w4 v' (n + m) ys := by
  have hz : z ≤ Y.heap.size := by have := b1.lt; omega
  have n1 := (b1.alloc o).not_row hTE (ho.alloc o)
  have c1 := (b1.alloc o).kept hg4 n1
  have m1 := c1.not_row hTE ho4
  have hs4 : (Y.alloc o).heap.size ≤ w4.heap.size := hg4.size
  rw [World.size_alloc] at hs4
  have hss : (w4.setCell ⟨B, 0, none⟩ v').heap.size = w4.heap.size := World.size_setCell ..
  refine ⟨c1, c1.set _, ho4.kept (grownBy_setCell' w4 B _) (.inr m1.symm), ?_, ?_, ?_, ?_, ?_, ?_⟩
  · exact ((hb.alloc hz o).grown hg4 (by rw [World.size_alloc]; omega) (fun j hj => (row_lt ho hj).1)).setCell (p := ⟨B, 0, none⟩) hB _
  · intro g hg
    rcases hat with h | h
    · exact pg g (h.symm.trans hg)
    · rw [h] at hg
      cases hg
      intro k
      have := pt _ k
      rw [World.size_alloc] at this
      omega
  · intro i hi
    have := pt i hi
    omega
  · exact (((Mid.refl Pv Y).alloc o).trans (Mid.of_grown hg4 (fun r e => pg r e))).setCell _ pB
  · intro b t u hbx hte hne
    have n2 := (hbx.alloc o).not_row hte (ho.alloc o)
    exact ((hbx.alloc o).kept hg4 n2).other hne _
  · intro b es c hm
    have hbl : b < Y.heap.size := (Array.getElem?_eq_some_iff.1 hm).1
    have e1 : (Y.alloc o).heap[b]? = some (Obj.map es c) := (Below.heap_alloc Y o b hbl).trans hm
    have n2 : some b ≠ v.ownBlock := by
      intro e
      rcases ho.2 with ⟨rfl, _⟩ | ⟨g, cap, cur, rfl, _, hg, _⟩
      · cases e
      · cases e
        rw [hm] at hg
        cases hg
    have e2 : w4.heap[b]? = some (Obj.map es c) := (hg4.block b (Array.getElem?_eq_some_iff.1 e1).1 n2).trans e1
    have n3 : b ≠ B := by
      rintro rfl
      have : w4.heap[b]? = _ := c1
      rw [e2] at this
      cases this
    exact (Below.heap_setCell w4 ⟨B, 0, none⟩ v' b n3).trans e2
end Go.Proofs.YtkokcfhfgnkdfaaGreatDoor

/- on: something is done with a direction. -/
namespace Go.Proofs.YtkokcfhfgnkdfaaGreatDoor.L17
open Go.RowKit Go.Shelf
attribute [local go_sem] Oper.semAt_some

/-- What the loop of 'on' keeps: three boxes. -/
structure OnB (w : World) (side : Int) (dv : Value) (Pv : Nat → Prop) (W : World) : Prop where
  b4 : Boxed W w.heap.size 3 (.int .i64 side)
  b5 : Boxed W (w.heap.size + 1) 88 dv
  n4 : ¬ Pv w.heap.size
  n5 : ¬ Pv (w.heap.size + 1)
  n7 : ¬ Pv (w.heap.size + 2)
  pz : ∀ i, Pv i → w.heap.size ≤ i
def OnI (w : World) (side : Int) (dv : Value) (pre : List Nat) (Pv : Nat → Prop) (W : World) : Prop :=
  OnB w side dv Pv W ∧ Boxed W (w.heap.size + 2) 78 (.iface 103 (.agg #[.int .i64 170])) ∧ Below w.heap.size w W ∧ (∀ k, k < pre.length → side ≠ (k : Int))
def OnX (Post : Int → World → Prop) (w : World) (c : Code) (_ : List Nat) (Pv : Nat → Prop) (W : World) : Prop :=
  ∃ er, c = .exit 0 ∧ Boxed W (w.heap.size + 2) 78 (ofV er) ∧ Post er W ∧ ¬ Pv (w.heap.size + 2) ∧ (∀ i, Pv i → w.heap.size ≤ i)
theorem OnB.on {w A B : World} {side : Int} {dv : Value} {Pv Pv' : Nat → Prop} (h : OnB w side dv Pv A) (b7 : w.heap.size + 2 < A.heap.size) (hg : Goes Pv A B) (hm : More Pv Pv' A B) : OnB w side dv Pv' B :=
  ⟨hg.boxedG h.b4 h.n4, hg.boxedG h.b5 h.n5, hm.notG h.n4 (by omega), hm.notG h.n5 (by omega), hm.notG h.n7 b7, fun i hi => (hm i hi).elim (h.pz i) (fun k => by omega)⟩
theorem OnI.steady (w : World) (side : Int) (dv : Value) : Steady (OnI w side dv) := by
  rintro pre Pv Pv' A B ⟨h, b7, hb, hs⟩ hg hm
  exact ⟨h.on b7.lt hg hm, hg.boxedG b7 h.n7, hg.below hb h.pz, hs⟩
theorem OnX.steady (Post : Int → World → Prop) (w : World) (hst : ∀ er A B, Post er A → Goes (fun i => w.heap.size ≤ i) A B → Post er B) (c : Code) : Steady (OnX Post w c) := by
  rintro pre Pv Pv' A B ⟨er, hc, b7, hp, n7, pz⟩ hg hm
  exact ⟨er, hc, hg.boxedG b7 n7, hst er A B hp (hg.mono pz), hm.notG n7 b7.lt, fun i hi => (hm i hi).elim (pz i) (fun k => by have := b7.lt; omega)⟩
set_option maxRecDepth 100000 in
set_option maxHeartbeats 4000000 in
theorem on_in (T X0 X1 : Nat) (side : Int) (f : Nat) (cp : Array Value) (Post : Int → World → Prop) (w : World)
    (h1 : w.cell? ⟨T, 1, none⟩ = some (.pointer (some ⟨X0, 0, none⟩))) (h2 : w.cell? ⟨T, 2, none⟩ = some (.pointer (some ⟨X1, 0, none⟩)))
    (HC : ∀ k : Nat, k < 2 → side = (k : Int) → ∀ W, Below w.heap.size w W → Calls Tryz.prog f (#[.pointer (some ⟨pick X0 X1 k, 0, none⟩)] ++ cp) W fun x W' => ∃ er, x = .returned (ofV er) ∧ Post er W' ∧ Goes (fun i => i < w.heap.size) W W')
    (eg : ∀ args W, (callFunc f args).run Tryz.prog W = .ok (.enter f args) W)
    (hst : ∀ er A B, Post er A → Goes (fun i => w.heap.size ≤ i) A B → Post er B)
    (hno : ∀ W, side ≠ 0 → side ≠ 1 → Below w.heap.size w W → Post 170 W) :
    CallsIn Fence.wide 8 Tryz.prog 39 #[.pointer (some ⟨T, 0, none⟩), .int .i64 side, .func (.func f) #[] cp] w fun x w' => ∃ er, x = .returned (wV er) ∧ Post er w' := by
  have q1 : Fence.wide.fn 60 := trivial
  have q2 : Fence.wide.fn 53 := trivial
  have q3 : Fence.wide.fn 57 := trivial
  have HS := Lib.hid (fun W => sides_c T W)
  have HO := Lib.hid (fun W => of_c W 170 rfl)
  have HW := Lib.hid (fun e W => within_v e W)
  refine callsIn_of_wp_marks Tryz.func39 rfl trivial ?_ rfl
  simp only [Tryz.ntmps39, List.size_toArray, List.length_cons, List.length_nil, Nat.reduceAdd, Nat.reduceSub, Array.replicate_succ, Array.replicate_zero, List.push_toArray, List.append_toArray, List.nil_append, List.cons_append]
  gi_wp2_with fail
  refine wpIn_scope_straight ?_
  gi_wp2_with (gi_at_call 53; refine (callsIn_wide.2 (HO.out _)).mono ?_; rintro e w' ⟨rfl, rfl⟩)
  refine wpIn_label ?_
  gi_wp2_with (gi_at_call 60; refine (callsIn_wide.2 (HS.out _)).mono ?_; rintro e w' ⟨rfl, rfl⟩)
  rename_i K hK
  have HK := Lib.hid hK
  clear hK
  have hB : Below w.heap.size w ((((w.alloc (.cells #[.int .i64 side] 3)).alloc (.cells #[.func (.func f) #[] cp] 88)).alloc (.cells #[.iface 103 (.agg #[.int .i64 170])] 78)).alloc (.cells #[.pointer (some ⟨T, 0, none⟩)] 25)) := bal (bal (bal (below_alloc w _) _) _) _
  have x0 : Boxed ((((w.alloc (.cells #[.int .i64 side] 3)).alloc (.cells #[.func (.func f) #[] cp] 88)).alloc (.cells #[.iface 103 (.agg #[.int .i64 170])] 78)).alloc (.cells #[.pointer (some ⟨T, 0, none⟩)] 25)) w.heap.size 3 (.int .i64 side) := (((Boxed.new w _ _).alloc _).alloc _).alloc _
  have x1 : Boxed ((((w.alloc (.cells #[.int .i64 side] 3)).alloc (.cells #[.func (.func f) #[] cp] 88)).alloc (.cells #[.iface 103 (.agg #[.int .i64 170])] 78)).alloc (.cells #[.pointer (some ⟨T, 0, none⟩)] 25)) (w.heap.size + 1) 88 (.func (.func f) #[] cp) := by
    have := Boxed.new (w.alloc (.cells #[.int .i64 side] 3)) 88 (.func (.func f) #[] cp)
    rw [World.size_alloc] at this
    exact (this.alloc _).alloc _
  have x2 : Boxed ((((w.alloc (.cells #[.int .i64 side] 3)).alloc (.cells #[.func (.func f) #[] cp] 88)).alloc (.cells #[.iface 103 (.agg #[.int .i64 170])] 78)).alloc (.cells #[.pointer (some ⟨T, 0, none⟩)] 25)) (w.heap.size + 2) 78 (.iface 103 (.agg #[.int .i64 170])) := by
    have := Boxed.new ((w.alloc (.cells #[.int .i64 side] 3)).alloc (.cells #[.func (.func f) #[] cp] 88)) 78 (.iface 103 (.agg #[.int .i64 170]))
    rw [World.size_alloc, World.size_alloc] at this
    exact this.alloc _
  have x3 : ((((w.alloc (.cells #[.int .i64 side] 3)).alloc (.cells #[.func (.func f) #[] cp] 88)).alloc (.cells #[.iface 103 (.agg #[.int .i64 170])] 78)).alloc (.cells #[.pointer (some ⟨T, 0, none⟩)] 25)).cell? ⟨w.heap.size + 3, 0, none⟩ = some (.pointer (some ⟨T, 0, none⟩)) := by
    have := (Boxed.new (((w.alloc (.cells #[.int .i64 side] 3)).alloc (.cells #[.func (.func f) #[] cp] 88)).alloc (.cells #[.iface 103 (.agg #[.int .i64 170])] 78)) 25 (.pointer (some ⟨T, 0, none⟩))).cell
    rw [World.size_alloc, World.size_alloc, World.size_alloc] at this
    exact this
  generalize ((((w.alloc (.cells #[.int .i64 side] 3)).alloc (.cells #[.func (.func f) #[] cp] 88)).alloc (.cells #[.iface 103 (.agg #[.int .i64 170])] 78)).alloc (.cells #[.pointer (some ⟨T, 0, none⟩)] 25)) = V at *
  have hVz : w.heap.size + 3 < V.heap.size := blt x3
  have HFI := Lib.hid (sides_it 7 (by omega) T (w.heap.size + 3) X0 X1 V x3 ((hB.cell (p := ⟨T, 1, none⟩) (blt h1)).trans h1) ((hB.cell (p := ⟨T, 2, none⟩) (blt h2)).trans h2))
  have hI : OnI w side (.func (.func f) #[] cp) [] (fun i => i = w.heap.size + 3) V := ⟨⟨x0, x1, by omega, by omega, by omega, fun i h => by omega⟩, x2, hB, fun k h => absurd h (by simp)⟩
  have HCC := Lib.hid HC
  have EG := Lib.hid eg
  have HNO := Lib.hid hno
  have HST := Lib.hid hst
  clear x0 x1 x2 x3 hB HC eg hno h1 h2
  refine wpIn_range_iters (n := 8) (encs := fun k : Nat => #[.int .i64 (k : Int), .pointer (some ⟨pick X0 X1 k, 0, none⟩)]) (ps := #[16, 17]) rfl (by omega) (gf := 90) (lb := #[.pointer (some ⟨w.heap.size + 3, 0, none⟩)]) rfl trivial (enters_of Tryz.func90 (by kernel_rfl) rfl)
    HFI.out (Below.refl _ _) (fun _ => rfl) (fun i h => by omega) (OnI w side (.func (.func f) #[] cp)) (OnX Post w) (OnI.steady w side _) (OnX.steady Post w hst) hI ?round ?done ?stop
  case round =>
    rintro l pre k Pv W ⟨rfl, hk⟩ ⟨hB, b7, hbw, hs⟩ hPl hl ⟨rec, hrec⟩
    replace hl : w.heap.size ≤ l := by omega
    clear HFI hI HK hVz hst
    obtain ⟨k, hkk⟩ : ∃ k, pre.length = k := ⟨_, rfl⟩
    simp only [hkk]
    rw [hkk] at hk
    have HCK := Lib.hid (HCC.out k hk)
    obtain ⟨P, hP⟩ : ∃ P, pick X0 X1 k = P := ⟨_, rfl⟩
    rw [hP] at HCK ⊢
    have hll : l < W.heap.size := (Array.getElem?_eq_some_iff.1 hrec).1
    have n7 : ¬ l = w.heap.size + 2 := fun e => hB.n7 (e ▸ hPl)
    gi_wp2
    refine ⟨Mid.refl Pv W, fun W2 hG hr2 => ?_⟩
    have hmm : More Pv Pv W W2 := More.same Pv W W2
    have hB2 := hB.on b7.lt (hG.mono (Pv' := Pv) (fun i h => h ▸ hPl)) hmm
    have b72 := hG.boxedG b7 (fun e => hB.n7 (e ▸ hPl))
    have hbw2 : Below w.heap.size w W2 := hG.below hbw (fun i h => by rw [h]; exact hl)
    have u4 := hB2.b4.cell
    have u5 := hB2.b5.cell
    have HQ := Lib.hid (And.intro hB2 (And.intro b72 (And.intro hbw2 hs)))
    clear hB2 b72 hbw2 hs hB b7 hbw hG hr2 hmm hrec
    by_cases hk2 : side = (k : Int)
    · have HCW := Lib.hid (HCK.out hk2 W2 HQ.out.2.2.1)
      have e2 : ((k : Int) == side) = true := by rw [hk2]; simp
      have ek := EG.out (#[.pointer (some ⟨P, 0, none⟩)] ++ cp) W2
      gi_wp2_with fail
      refine ⟨trivial, ?_⟩
      refine (CallsIn.inRound l (callsIn_wide.2 HCW.out)).mono ?_
      rintro e W3 ⟨er, rfl, hPo, hG3⟩
      have b73 := hG3.boxedG HQ.out.2.1 (by omega)
      have hHP := Lib.hid hPo
      have hM3 := Lib.hid (show Mid Pv W2 W3 from ⟨hG3.size, fun i hi hp => hG3.same i hi (fun h => by have := HQ.out.1.pz i hp; omega)⟩)
      have hsv := Lib.hid (show OnX Post w (.exit 0) (pre ++ [k]) Pv (W3.setCell ⟨w.heap.size + 2, 0, none⟩ (ofV er)) from
        ⟨er, rfl, b73.set _, HST.out er W3 _ hPo (goes_set _ _ _ _ (by omega)), HQ.out.1.n7, HQ.out.1.pz⟩)
      have hsm := Lib.hid (show Mid Pv W2 (W3.setCell ⟨w.heap.size + 2, 0, none⟩ (ofV er)) from hM3.out.setCell _ HQ.out.1.n7)
      have c7 := b73.cell
      have g7 := b73.frozen
      clear hPo hG3 b73 ek
      rcases ofV_two er with ⟨-, hv⟩ | ⟨-, hv⟩
      all_goals
        rw [hv] at hsv hsm ⊢
        gi_wp2
        exact ⟨hsv.out, hsm.out⟩
    · have e2 : ((k : Int) == side) = false := by simp; omega
      gi_wp2
      refine ⟨⟨HQ.out.1, HQ.out.2.1, HQ.out.2.2.1, ?_⟩, Mid.refl _ _⟩
      intro j hj
      rw [List.length_append, hkk, List.length_singleton] at hj
      by_cases e : j = k
      · rw [e]; exact hk2
      · exact HQ.out.2.2.2 j (by omega)
  case done =>
    rintro D xs Pv W hD hPD hxs ⟨hB, b7, hbw, hs⟩ hdef
    have u7 := b7.cell
    have s0 := hs 0 (by omega)
    have s1 := hs 1 (by omega)
    have HPo := Lib.hid (HNO.out W (by simpa using s0) (by simpa using s1) hbw)
    have HD := Lib.hid hdef
    have HWI := Lib.hid (fun W => within_c ⟨#[116, 117, 110, 110, 101, 108]⟩ 170 W)
    clear hdef hB b7 hbw hs s0 s1 HFI hI
    gi_wp2
    refine HK.out _ _ ?_
    gi_wp2_with (gi_at_call 57; refine (callsIn_wide.2 (HWI.out _)).mono ?_; rintro e w' ⟨rfl, rfl⟩)
    rw [Exit.noGoto_ret]
    refine ⟨by simp, .inl ⟨_, _, rfl, run_takeDeferred HD.out, ?_⟩⟩
    exact ⟨wV 170, by simp [results, Tryz.results39, go_sem, wV], 170, rfl, HST.out 170 W _ HPo.out (Goes.putObj W _ (by omega))⟩
  case stop =>
    rintro D c xs Pv W hD hPD hSp ⟨er, rfl, b7, hPo, n7, pz⟩ hdef
    have u7 := b7.cell
    have HPo := Lib.hid hPo
    have HD := Lib.hid hdef
    have HWE := Lib.hid (fun W => HW.out er W)
    clear hdef b7 hPo n7 pz HFI hI
    obtain ⟨Z, hZ⟩ : ∃ Z, wV er = Z := ⟨_, rfl⟩
    rw [hZ] at HWE
    have hE := Lib.hid hZ
    clear hZ
    rcases ofV_two er with ⟨-, hv⟩ | ⟨-, hv⟩
    all_goals
      rw [hv] at u7 HWE
      gi_wp2
      refine HK.out _ _ ?_
      gi_wp2_with (gi_at_call 57; refine (callsIn_wide.2 (HWE.out _)).mono ?_; rintro e w' ⟨rfl, rfl⟩)
      rw [Exit.noGoto_ret]
      refine ⟨by simp, .inl ⟨_, _, rfl, run_takeDeferred HD.out, ?_⟩⟩
      exact ⟨Z, by simp [results, Tryz.results39, go_sem], er, by rw [hE.out], HST.out er W _ HPo.out (Goes.putObj W _ (by omega))⟩
theorem on_c (T X0 X1 : Nat) (side : Int) (f : Nat) (cp : Array Value) (Post : Int → World → Prop) (w : World)
    (h1 : w.cell? ⟨T, 1, none⟩ = some (.pointer (some ⟨X0, 0, none⟩))) (h2 : w.cell? ⟨T, 2, none⟩ = some (.pointer (some ⟨X1, 0, none⟩)))
    (HC : ∀ k : Nat, k < 2 → side = (k : Int) → ∀ W, Below w.heap.size w W → Calls Tryz.prog f (#[.pointer (some ⟨pick X0 X1 k, 0, none⟩)] ++ cp) W fun x W' => ∃ er, x = .returned (ofV er) ∧ Post er W' ∧ Goes (fun i => i < w.heap.size) W W')
    (eg : ∀ args W, (callFunc f args).run Tryz.prog W = .ok (.enter f args) W)
    (hst : ∀ er A B, Post er A → Goes (fun i => w.heap.size ≤ i) A B → Post er B)
    (hno : ∀ W, side ≠ 0 → side ≠ 1 → Below w.heap.size w W → Post 170 W) :
    Calls Tryz.prog 39 #[.pointer (some ⟨T, 0, none⟩), .int .i64 side, .func (.func f) #[] cp] w fun x w' => ∃ er, x = .returned (wV er) ∧ Post er w' :=
  callsIn_wide.1 (on_in T X0 X1 side f cp Post w h1 h2 HC eg hst hno)
end Go.Proofs.YtkokcfhfgnkdfaaGreatDoor.L17

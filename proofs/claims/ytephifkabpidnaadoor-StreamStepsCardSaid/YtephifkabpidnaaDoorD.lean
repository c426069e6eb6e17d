/- move.to: where an event leads, and whether it may happen: its contract. -/
import Derived.Test.YtephifkabpidnaaDoorC
import Derived.Laws.EntriesVeiled
namespace Go.Proofs.YtephifkabpidnaaDoor
open Go.RowKit

theorem btr {a W W' : World} (h : Below a.heap.size a W) (k : Below W.heap.size W W') : Below a.heap.size a W' := h.trans (k.mono h.size)
theorem bal {a W : World} (h : Below a.heap.size a W) (o : Obj) : Below a.heap.size a (W.alloc o) := h.alloc h.size o
def tab : Obj := Obj.cells #[Value.nilFunc, .func (.func 36) #[] #[], .func (.func 37) #[] #[], .func (.func 38) #[] #[], .func (.func 39) #[] #[], .func (.func 40) #[] #[], .func (.func 41) #[] #[]] 65

set_option maxRecDepth 100000 in
set_option maxHeartbeats 4000000 in
theorem to_1 (s : Int) (w : World) : Calls Tryd.prog 28 #[.agg #[.int .i64 s, .int .i64 1]] w fun x w' => x = .returned (.tuple #[.int .i64 (dest s 1), .bool (goes s 1)]) ∧ Below w.heap.size w w' := by
  have hD : dest s 1 = 1 := by simp [dest]
  have hG : goes s 1 = decide (s = 0 ∧ (1 : Int) = 1) := by simp [goes]
  rw [hD, hG]
  have g0 := fun W => open_c s 1 W
  have G := Lib.hid g0
  clear g0
  go_enter Tryd.func28, Tryd.ntmps28
  go_wp2_with fail
  have hA : Below w.heap.size w ((w.alloc (Obj.cells #[.int .i64 s, .int .i64 1] 39)).alloc tab) := bal (below_alloc _ _) _
  have k0 : ((w.alloc (Obj.cells #[.int .i64 s, .int .i64 1] 39)).alloc tab).cell? ⟨w.heap.size, 0, none⟩ = some (.int .i64 s) := by unfold tab; go_simp
  have k1 : ((w.alloc (Obj.cells #[.int .i64 s, .int .i64 1] 39)).alloc tab).cell? ⟨w.heap.size, 1, none⟩ = some (.int .i64 1) := by unfold tab; go_simp
  have k2 : ((w.alloc (Obj.cells #[.int .i64 s, .int .i64 1] 39)).alloc tab).cell? ⟨w.heap.size + 1, 1, none⟩ = some (.func (.func 36) #[] #[]) := by unfold tab; go_simp
  have hz : w.heap.size + 1 < ((w.alloc (Obj.cells #[.int .i64 s, .int .i64 1] 39)).alloc tab).heap.size := by simp
  simp only [tab] at hA k0 k1 k2 hz
  generalize ((w.alloc (Obj.cells #[Value.int .i64 s, Value.int .i64 1] 39)).alloc (Obj.cells #[Value.nilFunc, Value.func (.func 36) #[] #[], Value.func (.func 37) #[] #[], Value.func (.func 38) #[] #[], Value.func (.func 39) #[] #[], Value.func (.func 40) #[] #[], Value.func (.func 41) #[] #[]] 65)) = U at *
  have u0 : Below U.heap.size U U := Below.refl _ U
  have HA := Lib.hid hA
  have MK := Lib.hid (show ∀ w', Below U.heap.size U w' → w'.cell? ⟨w.heap.size, 0, none⟩ = some (.int .i64 s) ∧ w'.cell? ⟨w.heap.size, 1, none⟩ = some (.int .i64 1) ∧ w'.cell? ⟨w.heap.size + 1, 1, none⟩ = some (.func (.func 36) #[] #[]) ∧ Below U.heap.size U w' from
    (fun w' h => ⟨(h.cell (p := ⟨w.heap.size, 0, none⟩) (by simp; omega)).trans k0, (h.cell (p := ⟨w.heap.size, 1, none⟩) (by simp; omega)).trans k1, (h.cell (p := ⟨w.heap.size + 1, 1, none⟩) hz).trans k2, h⟩))
  clear hA hz
  go_region_held3 (fun w' => w'.cell? ⟨w.heap.size, 0, none⟩ = some (.int .i64 s) ∧ w'.cell? ⟨w.heap.size, 1, none⟩ = some (.int .i64 1) ∧ w'.cell? ⟨w.heap.size + 1, 1, none⟩ = some (.func (.func 36) #[] #[]) ∧ Below U.heap.size U w')
    (first | with_reducible assumption | exact MK.out _ (by with_reducible assumption) | exact MK.out _ (below_drew (by with_reducible assumption)))
    ((first | (go_at_call 36; go_split_ands; with_reducible refine (G.out _).mono ?_; rintro e wn ⟨rfl, pB⟩; have sB := btr (by with_reducible assumption) pB; clear G pB)))
  go_wp2
  go_ret2
  exact ⟨ret_move rfl (by first | rfl | simp), btr HA.out sB⟩

set_option maxRecDepth 100000 in
set_option maxHeartbeats 4000000 in
theorem to_2 (s : Int) (w : World) : Calls Tryd.prog 28 #[.agg #[.int .i64 s, .int .i64 2]] w fun x w' => x = .returned (.tuple #[.int .i64 (dest s 2), .bool (goes s 2)]) ∧ Below w.heap.size w w' := by
  have hD : dest s 2 = 2 := by simp [dest]
  have hG : goes s 2 = decide (s = 1 ∧ (2 : Int) = 2) := by simp [goes]
  rw [hD, hG]
  have g0 := fun W => accept_c s 2 W
  have G := Lib.hid g0
  clear g0
  go_enter Tryd.func28, Tryd.ntmps28
  go_wp2_with fail
  have hA : Below w.heap.size w ((w.alloc (Obj.cells #[.int .i64 s, .int .i64 2] 39)).alloc tab) := bal (below_alloc _ _) _
  have k0 : ((w.alloc (Obj.cells #[.int .i64 s, .int .i64 2] 39)).alloc tab).cell? ⟨w.heap.size, 0, none⟩ = some (.int .i64 s) := by unfold tab; go_simp
  have k1 : ((w.alloc (Obj.cells #[.int .i64 s, .int .i64 2] 39)).alloc tab).cell? ⟨w.heap.size, 1, none⟩ = some (.int .i64 2) := by unfold tab; go_simp
  have k2 : ((w.alloc (Obj.cells #[.int .i64 s, .int .i64 2] 39)).alloc tab).cell? ⟨w.heap.size + 1, 2, none⟩ = some (.func (.func 37) #[] #[]) := by unfold tab; go_simp
  have hz : w.heap.size + 1 < ((w.alloc (Obj.cells #[.int .i64 s, .int .i64 2] 39)).alloc tab).heap.size := by simp
  simp only [tab] at hA k0 k1 k2 hz
  generalize ((w.alloc (Obj.cells #[Value.int .i64 s, Value.int .i64 2] 39)).alloc (Obj.cells #[Value.nilFunc, Value.func (.func 36) #[] #[], Value.func (.func 37) #[] #[], Value.func (.func 38) #[] #[], Value.func (.func 39) #[] #[], Value.func (.func 40) #[] #[], Value.func (.func 41) #[] #[]] 65)) = U at *
  have u0 : Below U.heap.size U U := Below.refl _ U
  have HA := Lib.hid hA
  have MK := Lib.hid (show ∀ w', Below U.heap.size U w' → w'.cell? ⟨w.heap.size, 0, none⟩ = some (.int .i64 s) ∧ w'.cell? ⟨w.heap.size, 1, none⟩ = some (.int .i64 2) ∧ w'.cell? ⟨w.heap.size + 1, 2, none⟩ = some (.func (.func 37) #[] #[]) ∧ Below U.heap.size U w' from
    (fun w' h => ⟨(h.cell (p := ⟨w.heap.size, 0, none⟩) (by simp; omega)).trans k0, (h.cell (p := ⟨w.heap.size, 1, none⟩) (by simp; omega)).trans k1, (h.cell (p := ⟨w.heap.size + 1, 2, none⟩) hz).trans k2, h⟩))
  clear hA hz
  go_region_held3 (fun w' => w'.cell? ⟨w.heap.size, 0, none⟩ = some (.int .i64 s) ∧ w'.cell? ⟨w.heap.size, 1, none⟩ = some (.int .i64 2) ∧ w'.cell? ⟨w.heap.size + 1, 2, none⟩ = some (.func (.func 37) #[] #[]) ∧ Below U.heap.size U w')
    (first | with_reducible assumption | exact MK.out _ (by with_reducible assumption) | exact MK.out _ (below_drew (by with_reducible assumption)))
    ((first | (go_at_call 37; go_split_ands; with_reducible refine (G.out _).mono ?_; rintro e wn ⟨rfl, pB⟩; have sB := btr (by with_reducible assumption) pB; clear G pB)))
  go_wp2
  go_ret2
  exact ⟨ret_move rfl (by first | rfl | simp), btr HA.out sB⟩

set_option maxRecDepth 100000 in
set_option maxHeartbeats 4000000 in
theorem to_3 (s : Int) (w : World) : Calls Tryd.prog 28 #[.agg #[.int .i64 s, .int .i64 3]] w fun x w' => x = .returned (.tuple #[.int .i64 (dest s 3), .bool (goes s 3)]) ∧ Below w.heap.size w w' := by
  have hD : dest s 3 = 6 := by simp [dest]
  have hG : goes s 3 = decide (s = 1 ∧ (3 : Int) = 3) := by simp [goes]
  rw [hD, hG]
  have g0 := fun W => refuse_c s 3 W
  have G := Lib.hid g0
  clear g0
  go_enter Tryd.func28, Tryd.ntmps28
  go_wp2_with fail
  have hA : Below w.heap.size w ((w.alloc (Obj.cells #[.int .i64 s, .int .i64 3] 39)).alloc tab) := bal (below_alloc _ _) _
  have k0 : ((w.alloc (Obj.cells #[.int .i64 s, .int .i64 3] 39)).alloc tab).cell? ⟨w.heap.size, 0, none⟩ = some (.int .i64 s) := by unfold tab; go_simp
  have k1 : ((w.alloc (Obj.cells #[.int .i64 s, .int .i64 3] 39)).alloc tab).cell? ⟨w.heap.size, 1, none⟩ = some (.int .i64 3) := by unfold tab; go_simp
  have k2 : ((w.alloc (Obj.cells #[.int .i64 s, .int .i64 3] 39)).alloc tab).cell? ⟨w.heap.size + 1, 3, none⟩ = some (.func (.func 38) #[] #[]) := by unfold tab; go_simp
  have hz : w.heap.size + 1 < ((w.alloc (Obj.cells #[.int .i64 s, .int .i64 3] 39)).alloc tab).heap.size := by simp
  simp only [tab] at hA k0 k1 k2 hz
  generalize ((w.alloc (Obj.cells #[Value.int .i64 s, Value.int .i64 3] 39)).alloc (Obj.cells #[Value.nilFunc, Value.func (.func 36) #[] #[], Value.func (.func 37) #[] #[], Value.func (.func 38) #[] #[], Value.func (.func 39) #[] #[], Value.func (.func 40) #[] #[], Value.func (.func 41) #[] #[]] 65)) = U at *
  have u0 : Below U.heap.size U U := Below.refl _ U
  have HA := Lib.hid hA
  have MK := Lib.hid (show ∀ w', Below U.heap.size U w' → w'.cell? ⟨w.heap.size, 0, none⟩ = some (.int .i64 s) ∧ w'.cell? ⟨w.heap.size, 1, none⟩ = some (.int .i64 3) ∧ w'.cell? ⟨w.heap.size + 1, 3, none⟩ = some (.func (.func 38) #[] #[]) ∧ Below U.heap.size U w' from
    (fun w' h => ⟨(h.cell (p := ⟨w.heap.size, 0, none⟩) (by simp; omega)).trans k0, (h.cell (p := ⟨w.heap.size, 1, none⟩) (by simp; omega)).trans k1, (h.cell (p := ⟨w.heap.size + 1, 3, none⟩) hz).trans k2, h⟩))
  clear hA hz
  go_region_held3 (fun w' => w'.cell? ⟨w.heap.size, 0, none⟩ = some (.int .i64 s) ∧ w'.cell? ⟨w.heap.size, 1, none⟩ = some (.int .i64 3) ∧ w'.cell? ⟨w.heap.size + 1, 3, none⟩ = some (.func (.func 38) #[] #[]) ∧ Below U.heap.size U w')
    (first | with_reducible assumption | exact MK.out _ (by with_reducible assumption) | exact MK.out _ (below_drew (by with_reducible assumption)))
    ((first | (go_at_call 38; go_split_ands; with_reducible refine (G.out _).mono ?_; rintro e wn ⟨rfl, pB⟩; have sB := btr (by with_reducible assumption) pB; clear G pB)))
  go_wp2
  go_ret2
  exact ⟨ret_move rfl (by first | rfl | simp), btr HA.out sB⟩

set_option maxRecDepth 100000 in
set_option maxHeartbeats 4000000 in
theorem to_4 (s : Int) (w : World) : Calls Tryd.prog 28 #[.agg #[.int .i64 s, .int .i64 4]] w fun x w' => x = .returned (.tuple #[.int .i64 (dest s 4), .bool (goes s 4)]) ∧ Below w.heap.size w w' := by
  have hD : dest s 4 = (if s = 4 then 5 else 3) := by simp [dest]
  have hG : goes s 4 = decide (s = 4 ∨ s = 2) := by simp [goes]
  rw [hD, hG]
  have g0 := fun W => endIn_c s 4 W
  generalize (if s = 4 then (5 : Int) else 3) = dd at *
  have G := Lib.hid g0
  clear g0
  go_enter Tryd.func28, Tryd.ntmps28
  go_wp2_with fail
  have hA : Below w.heap.size w ((w.alloc (Obj.cells #[.int .i64 s, .int .i64 4] 39)).alloc tab) := bal (below_alloc _ _) _
  have k0 : ((w.alloc (Obj.cells #[.int .i64 s, .int .i64 4] 39)).alloc tab).cell? ⟨w.heap.size, 0, none⟩ = some (.int .i64 s) := by unfold tab; go_simp
  have k1 : ((w.alloc (Obj.cells #[.int .i64 s, .int .i64 4] 39)).alloc tab).cell? ⟨w.heap.size, 1, none⟩ = some (.int .i64 4) := by unfold tab; go_simp
  have k2 : ((w.alloc (Obj.cells #[.int .i64 s, .int .i64 4] 39)).alloc tab).cell? ⟨w.heap.size + 1, 4, none⟩ = some (.func (.func 39) #[] #[]) := by unfold tab; go_simp
  have hz : w.heap.size + 1 < ((w.alloc (Obj.cells #[.int .i64 s, .int .i64 4] 39)).alloc tab).heap.size := by simp
  simp only [tab] at hA k0 k1 k2 hz
  generalize ((w.alloc (Obj.cells #[Value.int .i64 s, Value.int .i64 4] 39)).alloc (Obj.cells #[Value.nilFunc, Value.func (.func 36) #[] #[], Value.func (.func 37) #[] #[], Value.func (.func 38) #[] #[], Value.func (.func 39) #[] #[], Value.func (.func 40) #[] #[], Value.func (.func 41) #[] #[]] 65)) = U at *
  have u0 : Below U.heap.size U U := Below.refl _ U
  have HA := Lib.hid hA
  have MK := Lib.hid (show ∀ w', Below U.heap.size U w' → w'.cell? ⟨w.heap.size, 0, none⟩ = some (.int .i64 s) ∧ w'.cell? ⟨w.heap.size, 1, none⟩ = some (.int .i64 4) ∧ w'.cell? ⟨w.heap.size + 1, 4, none⟩ = some (.func (.func 39) #[] #[]) ∧ Below U.heap.size U w' from
    (fun w' h => ⟨(h.cell (p := ⟨w.heap.size, 0, none⟩) (by simp; omega)).trans k0, (h.cell (p := ⟨w.heap.size, 1, none⟩) (by simp; omega)).trans k1, (h.cell (p := ⟨w.heap.size + 1, 4, none⟩) hz).trans k2, h⟩))
  clear hA hz
  go_region_held3 (fun w' => w'.cell? ⟨w.heap.size, 0, none⟩ = some (.int .i64 s) ∧ w'.cell? ⟨w.heap.size, 1, none⟩ = some (.int .i64 4) ∧ w'.cell? ⟨w.heap.size + 1, 4, none⟩ = some (.func (.func 39) #[] #[]) ∧ Below U.heap.size U w')
    (first | with_reducible assumption | exact MK.out _ (by with_reducible assumption) | exact MK.out _ (below_drew (by with_reducible assumption)))
    ((first | (go_at_call 39; go_split_ands; with_reducible refine (G.out _).mono ?_; rintro e wn ⟨rfl, pB⟩; have sB := btr (by with_reducible assumption) pB; clear G pB)))
  go_wp2
  go_ret2
  exact ⟨ret_move rfl (by first | rfl | simp), btr HA.out sB⟩

set_option maxRecDepth 100000 in
set_option maxHeartbeats 4000000 in
theorem to_5 (s : Int) (w : World) : Calls Tryd.prog 28 #[.agg #[.int .i64 s, .int .i64 5]] w fun x w' => x = .returned (.tuple #[.int .i64 (dest s 5), .bool (goes s 5)]) ∧ Below w.heap.size w w' := by
  have hD : dest s 5 = (if s = 3 then 5 else 4) := by simp [dest]
  have hG : goes s 5 = decide (s = 3 ∨ s = 2) := by simp [goes]
  rw [hD, hG]
  have g0 := fun W => endOut_c s 5 W
  generalize (if s = 3 then (5 : Int) else 4) = dd at *
  have G := Lib.hid g0
  clear g0
  go_enter Tryd.func28, Tryd.ntmps28
  go_wp2_with fail
  have hA : Below w.heap.size w ((w.alloc (Obj.cells #[.int .i64 s, .int .i64 5] 39)).alloc tab) := bal (below_alloc _ _) _
  have k0 : ((w.alloc (Obj.cells #[.int .i64 s, .int .i64 5] 39)).alloc tab).cell? ⟨w.heap.size, 0, none⟩ = some (.int .i64 s) := by unfold tab; go_simp
  have k1 : ((w.alloc (Obj.cells #[.int .i64 s, .int .i64 5] 39)).alloc tab).cell? ⟨w.heap.size, 1, none⟩ = some (.int .i64 5) := by unfold tab; go_simp
  have k2 : ((w.alloc (Obj.cells #[.int .i64 s, .int .i64 5] 39)).alloc tab).cell? ⟨w.heap.size + 1, 5, none⟩ = some (.func (.func 40) #[] #[]) := by unfold tab; go_simp
  have hz : w.heap.size + 1 < ((w.alloc (Obj.cells #[.int .i64 s, .int .i64 5] 39)).alloc tab).heap.size := by simp
  simp only [tab] at hA k0 k1 k2 hz
  generalize ((w.alloc (Obj.cells #[Value.int .i64 s, Value.int .i64 5] 39)).alloc (Obj.cells #[Value.nilFunc, Value.func (.func 36) #[] #[], Value.func (.func 37) #[] #[], Value.func (.func 38) #[] #[], Value.func (.func 39) #[] #[], Value.func (.func 40) #[] #[], Value.func (.func 41) #[] #[]] 65)) = U at *
  have u0 : Below U.heap.size U U := Below.refl _ U
  have HA := Lib.hid hA
  have MK := Lib.hid (show ∀ w', Below U.heap.size U w' → w'.cell? ⟨w.heap.size, 0, none⟩ = some (.int .i64 s) ∧ w'.cell? ⟨w.heap.size, 1, none⟩ = some (.int .i64 5) ∧ w'.cell? ⟨w.heap.size + 1, 5, none⟩ = some (.func (.func 40) #[] #[]) ∧ Below U.heap.size U w' from
    (fun w' h => ⟨(h.cell (p := ⟨w.heap.size, 0, none⟩) (by simp; omega)).trans k0, (h.cell (p := ⟨w.heap.size, 1, none⟩) (by simp; omega)).trans k1, (h.cell (p := ⟨w.heap.size + 1, 5, none⟩) hz).trans k2, h⟩))
  clear hA hz
  go_region_held3 (fun w' => w'.cell? ⟨w.heap.size, 0, none⟩ = some (.int .i64 s) ∧ w'.cell? ⟨w.heap.size, 1, none⟩ = some (.int .i64 5) ∧ w'.cell? ⟨w.heap.size + 1, 5, none⟩ = some (.func (.func 40) #[] #[]) ∧ Below U.heap.size U w')
    (first | with_reducible assumption | exact MK.out _ (by with_reducible assumption) | exact MK.out _ (below_drew (by with_reducible assumption)))
    ((first | (go_at_call 40; go_split_ands; with_reducible refine (G.out _).mono ?_; rintro e wn ⟨rfl, pB⟩; have sB := btr (by with_reducible assumption) pB; clear G pB)))
  go_wp2
  go_ret2
  exact ⟨ret_move rfl (by first | rfl | simp), btr HA.out sB⟩

set_option maxRecDepth 100000 in
set_option maxHeartbeats 4000000 in
theorem to_6 (s : Int) (w : World) : Calls Tryd.prog 28 #[.agg #[.int .i64 s, .int .i64 6]] w fun x w' => x = .returned (.tuple #[.int .i64 (dest s 6), .bool (goes s 6)]) ∧ Below w.heap.size w w' := by
  have hD : dest s 6 = 6 := by simp [dest]
  have hG : goes s 6 = decide (1 ≤ s ∧ s ≤ 4) := by simp [goes]
  rw [hD, hG]
  have g0 := fun W => reset_c s 6 W
  have G := Lib.hid g0
  clear g0
  go_enter Tryd.func28, Tryd.ntmps28
  go_wp2_with fail
  have hA : Below w.heap.size w ((w.alloc (Obj.cells #[.int .i64 s, .int .i64 6] 39)).alloc tab) := bal (below_alloc _ _) _
  have k0 : ((w.alloc (Obj.cells #[.int .i64 s, .int .i64 6] 39)).alloc tab).cell? ⟨w.heap.size, 0, none⟩ = some (.int .i64 s) := by unfold tab; go_simp
  have k1 : ((w.alloc (Obj.cells #[.int .i64 s, .int .i64 6] 39)).alloc tab).cell? ⟨w.heap.size, 1, none⟩ = some (.int .i64 6) := by unfold tab; go_simp
  have k2 : ((w.alloc (Obj.cells #[.int .i64 s, .int .i64 6] 39)).alloc tab).cell? ⟨w.heap.size + 1, 6, none⟩ = some (.func (.func 41) #[] #[]) := by unfold tab; go_simp
  have hz : w.heap.size + 1 < ((w.alloc (Obj.cells #[.int .i64 s, .int .i64 6] 39)).alloc tab).heap.size := by simp
  simp only [tab] at hA k0 k1 k2 hz
  generalize ((w.alloc (Obj.cells #[Value.int .i64 s, Value.int .i64 6] 39)).alloc (Obj.cells #[Value.nilFunc, Value.func (.func 36) #[] #[], Value.func (.func 37) #[] #[], Value.func (.func 38) #[] #[], Value.func (.func 39) #[] #[], Value.func (.func 40) #[] #[], Value.func (.func 41) #[] #[]] 65)) = U at *
  have u0 : Below U.heap.size U U := Below.refl _ U
  have HA := Lib.hid hA
  have MK := Lib.hid (show ∀ w', Below U.heap.size U w' → w'.cell? ⟨w.heap.size, 0, none⟩ = some (.int .i64 s) ∧ w'.cell? ⟨w.heap.size, 1, none⟩ = some (.int .i64 6) ∧ w'.cell? ⟨w.heap.size + 1, 6, none⟩ = some (.func (.func 41) #[] #[]) ∧ Below U.heap.size U w' from
    (fun w' h => ⟨(h.cell (p := ⟨w.heap.size, 0, none⟩) (by simp; omega)).trans k0, (h.cell (p := ⟨w.heap.size, 1, none⟩) (by simp; omega)).trans k1, (h.cell (p := ⟨w.heap.size + 1, 6, none⟩) hz).trans k2, h⟩))
  clear hA hz
  go_region_held3 (fun w' => w'.cell? ⟨w.heap.size, 0, none⟩ = some (.int .i64 s) ∧ w'.cell? ⟨w.heap.size, 1, none⟩ = some (.int .i64 6) ∧ w'.cell? ⟨w.heap.size + 1, 6, none⟩ = some (.func (.func 41) #[] #[]) ∧ Below U.heap.size U w')
    (first | with_reducible assumption | exact MK.out _ (by with_reducible assumption) | exact MK.out _ (below_drew (by with_reducible assumption)))
    ((first | (go_at_call 41; go_split_ands; with_reducible refine (G.out _).mono ?_; rintro e wn ⟨rfl, pB⟩; have sB := btr (by with_reducible assumption) pB; clear G pB)))
  go_wp2
  go_ret2
  exact ⟨ret_move rfl (by first | rfl | simp), btr HA.out sB⟩

theorem to_c (s e : Int) (w : World) : Calls Tryd.prog 28 #[.agg #[.int .i64 s, .int .i64 e]] w fun x w' => x = .returned (.tuple #[.int .i64 (dest s e), .bool (goes s e)]) ∧ Below w.heap.size w w' := by
  by_cases h1 : e < 1
  · have hD : dest s e = 0 := by unfold dest; repeat' split
                                 all_goals first | omega | rfl
    have hG : goes s e = false := by unfold goes; repeat' split
                                     all_goals first | omega | rfl
    rw [hD, hG]
    clear hD hG
    go_enter Tryd.func28, Tryd.ntmps28
    go_wp2
    go_ret2
    exact ⟨rfl, bal (below_alloc _ _) _⟩
  · by_cases h6 : 6 < e
    · have hD : dest s e = 0 := by unfold dest; repeat' split
                                   all_goals first | omega | rfl
      have hG : goes s e = false := by unfold goes; repeat' split
                                       all_goals first | omega | rfl
      rw [hD, hG]
      clear hD hG
      go_enter Tryd.func28, Tryd.ntmps28
      go_wp2
      go_ret2
      exact ⟨rfl, bal (below_alloc _ _) _⟩
    · obtain rfl | rfl | rfl | rfl | rfl | rfl : e = 1 ∨ e = 2 ∨ e = 3 ∨ e = 4 ∨ e = 5 ∨ e = 6 := by omega
      · exact to_1 s w
      · exact to_2 s w
      · exact to_3 s w
      · exact to_4 s w
      · exact to_5 s w
      · exact to_6 s w
end Go.Proofs.YtephifkabpidnaaDoor

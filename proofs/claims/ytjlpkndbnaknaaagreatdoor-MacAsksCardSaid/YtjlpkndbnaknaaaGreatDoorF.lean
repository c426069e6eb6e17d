/- round. -/
import Derived.Test.YtjlpkndbnaknaaaGreatDoorE
import Derived.Test.YtjlpkndbnaknaaaGreatDoorHeld
import Derived.Test.YtjlpkndbnaknaaaGreatDoorIt
namespace Go.Proofs.YtjlpkndbnaknaaaGreatDoor
open Go.RowKit Go.Shelf
attribute [local go_sem] Oper.semAt_some

/-- A state in the eight cells of a block. -/
structure StaAt (b : Nat) (s : Sta) (W : World) : Prop where
  c0 : W.cell? ⟨b, 0, none⟩ = some (.int .u32 (s.a.toNat : Int))
  c1 : W.cell? ⟨b, 1, none⟩ = some (.int .u32 (s.b.toNat : Int))
  c2 : W.cell? ⟨b, 2, none⟩ = some (.int .u32 (s.c.toNat : Int))
  c3 : W.cell? ⟨b, 3, none⟩ = some (.int .u32 (s.d.toNat : Int))
  c4 : W.cell? ⟨b, 4, none⟩ = some (.int .u32 (s.e.toNat : Int))
  c5 : W.cell? ⟨b, 5, none⟩ = some (.int .u32 (s.f.toNat : Int))
  c6 : W.cell? ⟨b, 6, none⟩ = some (.int .u32 (s.g.toNat : Int))
  c7 : W.cell? ⟨b, 7, none⟩ = some (.int .u32 (s.h.toNat : Int))
  f0 : W.frozen? ⟨b, 0, none⟩ = false
  f1 : W.frozen? ⟨b, 1, none⟩ = false
  f2 : W.frozen? ⟨b, 2, none⟩ = false
  f3 : W.frozen? ⟨b, 3, none⟩ = false
  f4 : W.frozen? ⟨b, 4, none⟩ = false
  f5 : W.frozen? ⟨b, 5, none⟩ = false
  f6 : W.frozen? ⟨b, 6, none⟩ = false
  f7 : W.frozen? ⟨b, 7, none⟩ = false
theorem StaAt.lt {b : Nat} {s : Sta} {W : World} (h : StaAt b s W) : b < W.heap.size := blt h.c0
theorem StaAt.block {b : Nat} {s : Sta} {W W' : World} (h : StaAt b s W) (k : W'.heap[b]? = W.heap[b]?) : StaAt b s W' := by
  have kc : ∀ i, W'.cell? ⟨b, i, none⟩ = W.cell? ⟨b, i, none⟩ := fun i => World.cell?_of_block (w := W) k
  have kf : ∀ i, W'.frozen? ⟨b, i, none⟩ = W.frozen? ⟨b, i, none⟩ := fun i => World.frozen?_of_block (w := W) k
  exact ⟨(kc 0).trans h.c0, (kc 1).trans h.c1, (kc 2).trans h.c2, (kc 3).trans h.c3, (kc 4).trans h.c4, (kc 5).trans h.c5, (kc 6).trans h.c6, (kc 7).trans h.c7,
    (kf 0).trans h.f0, (kf 1).trans h.f1, (kf 2).trans h.f2, (kf 3).trans h.f3, (kf 4).trans h.f4, (kf 5).trans h.f5, (kf 6).trans h.f6, (kf 7).trans h.f7⟩
theorem StaAt.on {b : Nat} {s : Sta} {W W' : World} (h : StaAt b s W) (k : Below W.heap.size W W') : StaAt b s W' := h.block (k.block b h.lt)
theorem StaAt.grown {b : Nat} {s : Sta} {W W' : World} {row : Option Nat} (h : StaAt b s W) (k : W.grownBy W' row) (hr : row ≠ some b) : StaAt b s W' := h.block (k.block b h.lt (fun e => hr e.symm))
theorem StaAt.drew {b : Nat} {s : Sta} {W : World} (h : StaAt b s W) : StaAt b s W.drew := h.block rfl
theorem gr_below {b : Nat} {w W : World} (h : Below w.heap.size w W) : w.grownBy W (some b) := ⟨h.os, h.tape, h.output, h.size, fun i hi _ => h.block i hi⟩
theorem gr_grown {b : Nat} {w W W' : World} {row : Option Nat} (h : w.grownBy W (some b)) (g : W.grownBy W' row) (hr : ∀ r, row = some r → r = b ∨ w.heap.size ≤ r) : w.grownBy W' (some b) :=
  ⟨g.os.trans h.os, g.tape.trans h.tape, g.output.trans h.output, Nat.le_trans h.size g.size, fun i hi hne => (g.block i (Nat.lt_of_lt_of_le hi h.size) (fun e => by
    rcases hr i e.symm with rfl | k
    · exact hne rfl
    · omega)).trans (h.block i hi hne)⟩
theorem gr_set {b c o : Nat} {w W : World} (h : w.grownBy W (some b)) (hc : c = b ∨ w.heap.size ≤ c) (v : Value) : w.grownBy (W.setCell ⟨c, o, none⟩ v) (some b) :=
  ⟨h.os, h.tape, h.output, Nat.le_trans h.size (Nat.le_of_eq (by simp)), fun i hi hne => (Below.heap_setCell W ⟨c, o, none⟩ v i (by
    rcases hc with rfl | hc
    · intro e; exact hne (by rw [e])
    · intro e; simp at e; omega)).trans (h.block i hi hne)⟩
theorem gr_drew {b : Nat} {w W : World} (h : w.grownBy W (some b)) : w.grownBy W.drew (some b) := ⟨h.os, h.tape, h.output, h.size, h.block⟩

theorem w_addm (x y : Wd) : ((x.toNat : Int) + (y.toNat : Int)) % 4294967296 = ((x + y).toNat : Int) := by
  rw [← w_add, IntKind.wrap_u32']
def putSta (W : World) (b : Nat) (s : Sta) : World :=
  (((((((W.setCell ⟨b, 0, none⟩ (.int .u32 (s.a.toNat : Int))).setCell ⟨b, 1, none⟩ (.int .u32 (s.b.toNat : Int))).setCell ⟨b, 2, none⟩ (.int .u32 (s.c.toNat : Int))).setCell ⟨b, 3, none⟩ (.int .u32 (s.d.toNat : Int))).setCell ⟨b, 4, none⟩ (.int .u32 (s.e.toNat : Int))).setCell ⟨b, 5, none⟩ (.int .u32 (s.f.toNat : Int))).setCell ⟨b, 6, none⟩ (.int .u32 (s.g.toNat : Int))).setCell ⟨b, 7, none⟩ (.int .u32 (s.h.toNat : Int))
set_option maxHeartbeats 4000000 in
theorem StaAt.put {b : Nat} {s : Sta} {W : World} (h : StaAt b s W) (s' : Sta) : StaAt b s' (putSta W b s') := by
  obtain ⟨c0, c1, c2, c3, c4, c5, c6, c7, f0, f1, f2, f3, f4, f5, f6, f7⟩ := h
  unfold putSta
  exact ⟨by go_simp, by go_simp, by go_simp, by go_simp, by go_simp, by go_simp, by go_simp, by go_simp, by go_simp, by go_simp, by go_simp, by go_simp, by go_simp, by go_simp, by go_simp, by go_simp⟩
theorem gr_put {b : Nat} {w W : World} (h : w.grownBy W (some b)) (s : Sta) : w.grownBy (putSta W b s) (some b) :=
  gr_set (gr_set (gr_set (gr_set (gr_set (gr_set (gr_set (gr_set h (.inl rfl) _) (.inl rfl) _) (.inl rfl) _) (.inl rfl) _) (.inl rfl) _) (.inl rfl) _) (.inl rfl) _) (.inl rfl) _
theorem cellsW : ∀ (l : List Wd) {t : TypeId} (w : World) (j : Nat) (x : Wd), l[j]? = some x → (w.alloc (Obj.cells (l.map fun y => Value.int IntKind.u32 (y.toNat : Int)).toArray t)).cell? ⟨w.heap.size, 0 + j, none⟩ = some (.int .u32 (x.toNat : Int)) := by
  intro l t w j x h
  have e : (w.alloc (Obj.cells (l.map fun y => Value.int IntKind.u32 (y.toNat : Int)).toArray t)).heap[w.heap.size]? = some (Obj.cells (l.map fun y => Value.int IntKind.u32 (y.toNat : Int)).toArray t) := World.alloc_heap_new w _
  simp only [World.cell?, e]
  simp [h]
set_option maxRecDepth 100000 in
set_option maxHeartbeats 8000000 in
theorem round_c (B : Nat) (s : Sta) (k x : Wd) (w : World) (hS : StaAt B s w) : Calls Tryz.prog 51 #[.pointer (some ⟨B, 0, none⟩), .int .u32 (k.toNat : Int), .int .u32 (x.toNat : Int)] w fun r w' => (∃ v, r = .returned v) ∧ StaAt B (roundS s k x) w' ∧ w.grownBy w' (some B) := by
  obtain ⟨a, b, c, d, e, f, g, hw⟩ := s
  have HS := Lib.hid hS
  obtain ⟨c0, c1, c2, c3, c4, c5, c6, c7, f0, f1, f2, f3, f4, f5, f6, f7⟩ := hS
  simp only [] at c0 c1 c2 c3 c4 c5 c6 c7
  have u0 : Below w.heap.size w w := Below.refl _ w
  have MK := Lib.hid (show ∀ w', Below w.heap.size w w' → w'.cell? ⟨B, 0, none⟩ = some (.int .u32 (a.toNat : Int)) ∧ w'.cell? ⟨B, 1, none⟩ = some (.int .u32 (b.toNat : Int)) ∧ w'.cell? ⟨B, 2, none⟩ = some (.int .u32 (c.toNat : Int)) ∧ w'.cell? ⟨B, 3, none⟩ = some (.int .u32 (d.toNat : Int)) ∧ w'.cell? ⟨B, 4, none⟩ = some (.int .u32 (e.toNat : Int)) ∧ w'.cell? ⟨B, 5, none⟩ = some (.int .u32 (f.toNat : Int)) ∧ w'.cell? ⟨B, 6, none⟩ = some (.int .u32 (g.toNat : Int)) ∧ w'.cell? ⟨B, 7, none⟩ = some (.int .u32 (hw.toNat : Int)) ∧ Below w.heap.size w w' from
    (fun w' h => ⟨(h.cell (p := ⟨B, 0, none⟩) (blt c0)).trans c0, (h.cell (p := ⟨B, 1, none⟩) (blt c0)).trans c1, (h.cell (p := ⟨B, 2, none⟩) (blt c0)).trans c2, (h.cell (p := ⟨B, 3, none⟩) (blt c0)).trans c3, (h.cell (p := ⟨B, 4, none⟩) (blt c0)).trans c4, (h.cell (p := ⟨B, 5, none⟩) (blt c0)).trans c5, (h.cell (p := ⟨B, 6, none⟩) (blt c0)).trans c6, (h.cell (p := ⟨B, 7, none⟩) (blt c0)).trans c7, h⟩))
  have HF := Lib.hid (fun W => fifth_c e W)
  have HG := Lib.hid (fun W => first_c a W)
  have E1 : bits .xor .u32 (bits .and .u32 (e.toNat : Int) (f.toNat : Int)) (bits .and .u32 (bits .xor .u32 IntKind.u32.max (e.toNat : Int)) (g.toNat : Int)) = (((e &&& f) ^^^ (~~~e &&& g)).toNat : Int) := by rw [show IntKind.u32.max = 4294967295 from rfl, w_not, w_and, w_and, w_xor]
  have E2 : bits .xor .u32 (bits .xor .u32 (bits .and .u32 (a.toNat : Int) (b.toNat : Int)) (bits .and .u32 (a.toNat : Int) (c.toNat : Int))) (bits .and .u32 (b.toNat : Int) (c.toNat : Int)) = ((((a &&& b) ^^^ (a &&& c)) ^^^ (b &&& c)).toNat : Int) := by rw [w_and, w_and, w_and, w_xor, w_xor]
  have hR : roundS ⟨a, b, c, d, e, f, g, hw⟩ k x = ⟨totalL [hw, fifthW e, (e &&& f) ^^^ (~~~e &&& g), k, x] + totalL [firstW a, ((a &&& b) ^^^ (a &&& c)) ^^^ (b &&& c)], a, b, c, d + totalL [hw, fifthW e, (e &&& f) ^^^ (~~~e &&& g), k, x], e, f, g⟩ := rfl
  rw [hR]
  clear hR
  generalize (e &&& f) ^^^ (~~~e &&& g) = X at *
  generalize ((a &&& b) ^^^ (a &&& c)) ^^^ (b &&& c) = Y at *
  generalize fifthW e = F at *
  generalize firstW a = G at *
  obtain ⟨TT, hTT⟩ : ∃ TT, TT = totalL [hw, F, X, k, x] := ⟨_, rfl⟩
  obtain ⟨UU, hUU⟩ : ∃ UU, UU = totalL [G, Y] := ⟨_, rfl⟩
  rw [← hTT, ← hUU]
  have HTT := Lib.hid hTT
  have HUU := Lib.hid hUU
  clear hTT hUU
  go_enter Tryz.func51, Tryz.ntmps51
  go_wp2_with fail
  refine wp_region_held_drew (S := (fun w' => w'.cell? ⟨B, 0, none⟩ = some (.int .u32 (a.toNat : Int)) ∧ w'.cell? ⟨B, 1, none⟩ = some (.int .u32 (b.toNat : Int)) ∧ w'.cell? ⟨B, 2, none⟩ = some (.int .u32 (c.toNat : Int)) ∧ w'.cell? ⟨B, 3, none⟩ = some (.int .u32 (d.toNat : Int)) ∧ w'.cell? ⟨B, 4, none⟩ = some (.int .u32 (e.toNat : Int)) ∧ w'.cell? ⟨B, 5, none⟩ = some (.int .u32 (f.toNat : Int)) ∧ w'.cell? ⟨B, 6, none⟩ = some (.int .u32 (g.toNat : Int)) ∧ w'.cell? ⟨B, 7, none⟩ = some (.int .u32 (hw.toNat : Int)) ∧ Below w.heap.size w w')) (by kernel_rfl) ?_ (fun hHeld => ?_)
  · (first | with_reducible assumption | exact MK.out _ (by with_reducible assumption) | exact MK.out _ (below_drew (by with_reducible assumption)))
  refine takeH (i := 0) (some 16) (v := ?_) rfl rfl (by kernel_rfl) (by kernel_rfl) (by kernel_rfl) (fun _ _ _ h => h) (Or.inl ⟨by rfl, ?hy0⟩) hHeld ?rest0
  case hy0 => (intro w hSw; (try dsimp only at hSw); go_simp; (try with_reducible rfl))
  try simp only [Act.put, List.setIfInBounds_toArray, List.set_cons_zero, List.set_cons_succ]
  refine takeH (i := 1) (some 17) (v := ?_) rfl rfl (by kernel_rfl) (by kernel_rfl) (by kernel_rfl) (fun _ _ _ h => h) (Or.inl ⟨by rfl, ?hy1⟩) hHeld ?rest1
  case hy1 => (intro w hSw; (try dsimp only at hSw); go_simp; (try with_reducible rfl))
  try simp only [Act.put, List.setIfInBounds_toArray, List.set_cons_zero, List.set_cons_succ]
  refine takeH (i := 2) (some 18) (v := ?_) rfl rfl (by kernel_rfl) (by kernel_rfl) (by kernel_rfl) (fun _ _ _ h => h) (Or.inl ⟨by rfl, ?hy2⟩) hHeld ?rest2
  case hy2 => (intro w hSw; (try dsimp only at hSw); go_simp; (try with_reducible rfl))
  try simp only [Act.put, List.setIfInBounds_toArray, List.set_cons_zero, List.set_cons_succ]
  refine takeH (i := 3) (some 19) (v := ?_) rfl rfl (by kernel_rfl) (by kernel_rfl) (by kernel_rfl) (fun _ _ _ h => h) (Or.inl ⟨by rfl, ?hy3⟩) hHeld ?rest3
  case hy3 => (intro w hSw; (try dsimp only at hSw); go_simp; (try with_reducible rfl))
  try simp only [Act.put, List.setIfInBounds_toArray, List.set_cons_zero, List.set_cons_succ]
  refine takeH (i := 4) (some 20) (v := ?_) rfl rfl (by kernel_rfl) (by kernel_rfl) (by kernel_rfl) (fun _ _ _ h => h) (Or.inl ⟨by rfl, ?hy4⟩) hHeld ?rest4
  case hy4 => (intro w hSw; (try dsimp only at hSw); go_simp; (try with_reducible rfl))
  try simp only [Act.put, List.setIfInBounds_toArray, List.set_cons_zero, List.set_cons_succ]
  refine takeH (i := 5) (some 21) (v := ?_) rfl rfl (by kernel_rfl) (by kernel_rfl) (by kernel_rfl) (fun _ _ _ h => h) (Or.inl ⟨by rfl, ?hy5⟩) hHeld ?rest5
  case hy5 => (intro w hSw; (try dsimp only at hSw); go_simp; (try with_reducible rfl))
  try simp only [Act.put, List.setIfInBounds_toArray, List.set_cons_zero, List.set_cons_succ]
  refine takeH (i := 6) (some 22) (v := ?_) rfl rfl (by kernel_rfl) (by kernel_rfl) (by kernel_rfl) (fun _ _ _ h => h) (Or.inl ⟨by rfl, ?hy6⟩) hHeld ?rest6
  case hy6 => (intro w hSw; (try dsimp only at hSw); go_simp; (try with_reducible rfl))
  try simp only [Act.put, List.setIfInBounds_toArray, List.set_cons_zero, List.set_cons_succ]
  refine takeH (i := 7) (some 23) (v := ?_) rfl rfl (by kernel_rfl) (by kernel_rfl) (by kernel_rfl) (fun _ _ _ h => h) (Or.inl ⟨by rfl, ?hy7⟩) hHeld ?rest7
  case hy7 => (intro w hSw; (try dsimp only at hSw); go_simp; (try with_reducible rfl))
  try simp only [Act.put, List.setIfInBounds_toArray, List.set_cons_zero, List.set_cons_succ]
  refine takeH (i := 8) (some 24) (v := ?_) rfl rfl (by kernel_rfl) (by kernel_rfl) (by kernel_rfl) (fun _ _ _ h => h) (Or.inl ⟨by rfl, ?hy8⟩) hHeld ?rest8
  case hy8 => (intro w hSw; (try dsimp only at hSw); go_simp; (try with_reducible rfl))
  try simp only [Act.put, List.setIfInBounds_toArray, List.set_cons_zero, List.set_cons_succ]
  refine takeH (i := 9) (some 25) (v := ?_) rfl rfl (by kernel_rfl) (by kernel_rfl) (by kernel_rfl) (fun _ _ _ h => h) (Or.inl ⟨by rfl, ?hy9⟩) hHeld ?rest9
  case hy9 => (intro w hSw; (try dsimp only at hSw); go_simp; (try with_reducible rfl))
  try simp only [Act.put, List.setIfInBounds_toArray, List.set_cons_zero, List.set_cons_succ]
  refine takeH (i := 10) (some 26) (v := ?_) rfl rfl (by kernel_rfl) (by kernel_rfl) (by kernel_rfl) (fun _ _ _ h => h) (Or.inl ⟨by rfl, ?hy10⟩) hHeld ?rest10
  case hy10 => (intro w hSw; (try dsimp only at hSw); go_simp; (try with_reducible rfl))
  try simp only [Act.put, List.setIfInBounds_toArray, List.set_cons_zero, List.set_cons_succ]
  refine takeH (i := 11) (some 27) (v := ?_) rfl rfl (by kernel_rfl) (by kernel_rfl) (by kernel_rfl) (fun _ _ _ h => h) (Or.inl ⟨by rfl, ?hy11⟩) hHeld ?rest11
  case hy11 => (intro w hSw; (try dsimp only at hSw); go_simp; (try with_reducible rfl))
  try simp only [Act.put, List.setIfInBounds_toArray, List.set_cons_zero, List.set_cons_succ]
  refine takeH (i := 12) (some 28) (v := ?_) rfl rfl (by kernel_rfl) (by kernel_rfl) (by kernel_rfl) (fun _ _ _ h => h) (Or.inl ⟨by rfl, ?hy12⟩) hHeld ?rest12
  case hy12 => (intro w hSw; (try dsimp only at hSw); go_simp; (try with_reducible rfl))
  try simp only [Act.put, List.setIfInBounds_toArray, List.set_cons_zero, List.set_cons_succ]
  refine takeH (i := 13) (some 29) (v := ?_) rfl rfl (by kernel_rfl) (by kernel_rfl) (by kernel_rfl) (fun _ _ _ h => h) (Or.inl ⟨by rfl, ?hy13⟩) hHeld ?rest13
  case hy13 => (intro w hSw; (try dsimp only at hSw); go_simp; (try with_reducible rfl))
  try simp only [Act.put, List.setIfInBounds_toArray, List.set_cons_zero, List.set_cons_succ]
  refine takeH (i := 14) (some 30) (v := ?_) rfl rfl (by kernel_rfl) (by kernel_rfl) (by kernel_rfl) (fun _ _ _ h => h) (Or.inl ⟨by rfl, ?hy14⟩) hHeld ?rest14
  case hy14 => (intro w hSw; (try dsimp only at hSw); go_simp; (try with_reducible rfl))
  try simp only [Act.put, List.setIfInBounds_toArray, List.set_cons_zero, List.set_cons_succ]
  refine takeH (i := 15) (some 31) (v := ?_) rfl rfl (by kernel_rfl) (by kernel_rfl) (by kernel_rfl) (fun _ _ _ h => h) (Or.inl ⟨by rfl, ?hy15⟩) hHeld ?rest15
  case hy15 => (intro w hSw; (try dsimp only at hSw); go_simp; (try with_reducible rfl))
  try simp only [Act.put, List.setIfInBounds_toArray, List.set_cons_zero, List.set_cons_succ]
  refine takeH (i := 16) (some 32) (v := ?_) rfl rfl (by kernel_rfl) (by kernel_rfl) (by kernel_rfl) (fun _ _ _ h => h) (Or.inl ⟨by rfl, ?hy16⟩) hHeld ?rest16
  case hy16 => (intro w hSw; (try dsimp only at hSw); go_simp; (try with_reducible rfl))
  try simp only [Act.put, List.setIfInBounds_toArray, List.set_cons_zero, List.set_cons_succ]
  refine takeH (i := 17) (some 33) (v := ?_) rfl rfl (by kernel_rfl) (by kernel_rfl) (by kernel_rfl) (fun _ _ _ h => h) (Or.inl ⟨by rfl, ?hy17⟩) hHeld ?rest17
  case hy17 => (intro w hSw; (try dsimp only at hSw); go_simp; (try with_reducible rfl))
  try simp only [Act.put, List.setIfInBounds_toArray, List.set_cons_zero, List.set_cons_succ]
  refine takeH (i := 18) (some 34) (v := ?_) rfl rfl (by kernel_rfl) (by kernel_rfl) (by kernel_rfl) (fun _ _ _ h => h) (Or.inl ⟨by rfl, ?hy18⟩) hHeld ?rest18
  case hy18 => (intro w hSw; (try dsimp only at hSw); go_simp; (try with_reducible rfl))
  try simp only [Act.put, List.setIfInBounds_toArray, List.set_cons_zero, List.set_cons_succ]
  refine takeH (i := 19) (some 35) (v := ?_) rfl rfl (by kernel_rfl) (by kernel_rfl) (by kernel_rfl) (fun _ _ _ h => h) (Or.inl ⟨by rfl, ?hy19⟩) hHeld ?rest19
  case hy19 => (intro w hSw; (try dsimp only at hSw); go_simp; (try with_reducible rfl))
  try simp only [Act.put, List.setIfInBounds_toArray, List.set_cons_zero, List.set_cons_succ]
  refine takeH (i := 20) (some 36) (v := ?_) rfl rfl (by kernel_rfl) (by kernel_rfl) (by kernel_rfl) (fun _ _ _ h => h) (Or.inl ⟨by rfl, ?hy20⟩) hHeld ?rest20
  case hy20 => (intro w hSw; (try dsimp only at hSw); go_simp; (try with_reducible rfl))
  try simp only [Act.put, List.setIfInBounds_toArray, List.set_cons_zero, List.set_cons_succ]
  refine takeH (i := 21) (some 37) (v := ?_) rfl rfl (by kernel_rfl) (by kernel_rfl) (by kernel_rfl) (fun _ _ _ h => h) (Or.inl ⟨by rfl, ?hy21⟩) hHeld ?rest21
  case hy21 => (intro w hSw; (try dsimp only at hSw); go_simp; (try with_reducible rfl))
  try simp only [Act.put, List.setIfInBounds_toArray, List.set_cons_zero, List.set_cons_succ]
  refine takeH (i := 22) (some 38) (v := ?_) rfl rfl (by kernel_rfl) (by kernel_rfl) (by kernel_rfl) (fun _ _ _ h => h) (Or.inl ⟨by rfl, ?hy22⟩) hHeld ?rest22
  case hy22 => (intro w hSw; (try dsimp only at hSw); go_simp; (try with_reducible rfl))
  try simp only [Act.put, List.setIfInBounds_toArray, List.set_cons_zero, List.set_cons_succ]
  refine takeH (i := 23) (some 39) (v := ?_) rfl rfl (by kernel_rfl) (by kernel_rfl) (by kernel_rfl) (fun _ _ _ h => h) (Or.inl ⟨by rfl, ?hy23⟩) hHeld ?rest23
  case hy23 => (intro w hSw; (try dsimp only at hSw); go_simp; (try with_reducible rfl))
  try simp only [Act.put, List.setIfInBounds_toArray, List.set_cons_zero, List.set_cons_succ]
  refine takeH (i := 24) (some 40) (v := ?_) rfl rfl (by kernel_rfl) (by kernel_rfl) (by kernel_rfl) (fun _ _ _ h => h) (Or.inl ⟨by rfl, ?hy24⟩) hHeld ?rest24
  case hy24 => (intro w hSw; (try dsimp only at hSw); go_simp; (try with_reducible rfl))
  try simp only [Act.put, List.setIfInBounds_toArray, List.set_cons_zero, List.set_cons_succ]
  refine takeH (i := 25) (some 41) (v := ?_) rfl rfl (by kernel_rfl) (by kernel_rfl) (by kernel_rfl) (fun _ _ _ h => h) (Or.inl ⟨by rfl, ?hy25⟩) hHeld ?rest25
  case hy25 => (intro w hSw; (try dsimp only at hSw); go_simp; (try with_reducible rfl))
  try simp only [Act.put, List.setIfInBounds_toArray, List.set_cons_zero, List.set_cons_succ]
  refine takeH (i := 26) (some 42) (v := ?_) rfl rfl (by kernel_rfl) (by kernel_rfl) (by kernel_rfl) (fun _ _ _ h => h) (Or.inl ⟨by rfl, ?hy26⟩) hHeld ?rest26
  case hy26 => (intro w hSw; (try dsimp only at hSw); go_simp; (try with_reducible rfl))
  try simp only [Act.put, List.setIfInBounds_toArray, List.set_cons_zero, List.set_cons_succ]
  refine takeH (i := 27) (some 43) (v := ?_) rfl rfl (by kernel_rfl) (by kernel_rfl) (by kernel_rfl) (fun _ _ _ h => h) (Or.inl ⟨by rfl, ?hy27⟩) hHeld ?rest27
  case hy27 => (intro w hSw; (try dsimp only at hSw); go_simp; (try with_reducible rfl))
  try simp only [Act.put, List.setIfInBounds_toArray, List.set_cons_zero, List.set_cons_succ]
  refine takeH (i := 28) (some 44) (v := ?_) rfl rfl (by kernel_rfl) (by kernel_rfl) (by kernel_rfl) (fun _ _ _ h => h) (Or.inl ⟨by rfl, ?hy28⟩) hHeld ?rest28
  case hy28 => (intro w hSw; (try dsimp only at hSw); go_simp; (try with_reducible rfl))
  try simp only [Act.put, List.setIfInBounds_toArray, List.set_cons_zero, List.set_cons_succ]
  refine takeH (i := 29) (some 45) (v := ?_) rfl rfl (by kernel_rfl) (by kernel_rfl) (by kernel_rfl) (fun _ _ _ h => h) (Or.inl ⟨by rfl, ?hy29⟩) hHeld ?rest29
  case hy29 => (intro w hSw; (try dsimp only at hSw); go_simp; (try with_reducible rfl))
  try simp only [Act.put, List.setIfInBounds_toArray, List.set_cons_zero, List.set_cons_succ]
  refine takeH (i := 30) (some 46) (v := ?_) rfl rfl (by kernel_rfl) (by kernel_rfl) (by kernel_rfl) (fun _ _ _ h => h) (Or.inl ⟨by rfl, ?hy30⟩) hHeld ?rest30
  case hy30 => (intro w hSw; (try dsimp only at hSw); go_simp; (try with_reducible rfl))
  try simp only [Act.put, List.setIfInBounds_toArray, List.set_cons_zero, List.set_cons_succ]
  refine takeH (i := 31) (some 47) (v := ?_) rfl rfl (by kernel_rfl) (by kernel_rfl) (by kernel_rfl) (fun _ _ _ h => h) (Or.inl ⟨by rfl, ?hy31⟩) hHeld ?rest31
  case hy31 => (intro w hSw; (try dsimp only at hSw); go_simp; (try with_reducible rfl))
  try simp only [Act.put, List.setIfInBounds_toArray, List.set_cons_zero, List.set_cons_succ]
  refine takeH (i := 32) (some 6) (v := ?_) rfl rfl (by kernel_rfl) (by kernel_rfl) (by kernel_rfl) (fun _ _ _ h => h) (Or.inl ⟨by rfl, ?hy32⟩) hHeld ?rest32
  case hy32 => (intro w hSw; (try dsimp only at hSw); go_simp; (try with_reducible rfl))
  try simp only [Act.put, List.setIfInBounds_toArray, List.set_cons_zero, List.set_cons_succ]
  refine takeH (i := 33) (some 7) (v := ?_) rfl rfl (by kernel_rfl) (by kernel_rfl) (by kernel_rfl) (fun _ _ _ h => h) (Or.inl ⟨by rfl, ?hy33⟩) hHeld ?rest33
  case hy33 => (intro w hSw; (try dsimp only at hSw); go_simp; (try with_reducible rfl))
  try simp only [Act.put, List.setIfInBounds_toArray, List.set_cons_zero, List.set_cons_succ]
  refine takeH (i := 34) (some 8) (v := ?_) rfl rfl (by kernel_rfl) (by kernel_rfl) (by kernel_rfl) (fun _ _ _ h => h) (Or.inl ⟨by rfl, ?hy34⟩) hHeld ?rest34
  case hy34 => (intro w hSw; (try dsimp only at hSw); go_simp; (try with_reducible rfl))
  try simp only [Act.put, List.setIfInBounds_toArray, List.set_cons_zero, List.set_cons_succ]
  refine takeH (i := 35) (some 9) (v := ?_) rfl rfl (by kernel_rfl) (by kernel_rfl) (by kernel_rfl) (fun _ _ _ h => h) (Or.inl ⟨by rfl, ?hy35⟩) hHeld ?rest35
  case hy35 => (intro w hSw; (try dsimp only at hSw); go_simp; (try with_reducible rfl))
  try simp only [Act.put, List.setIfInBounds_toArray, List.set_cons_zero, List.set_cons_succ]
  refine takeH (i := 36) (some 10) (v := ?_) rfl rfl (by kernel_rfl) (by kernel_rfl) (by kernel_rfl) (fun _ _ _ h => h) (Or.inl ⟨by rfl, ?hy36⟩) hHeld ?rest36
  case hy36 => (intro w hSw; (try dsimp only at hSw); go_simp; (try with_reducible rfl))
  try simp only [Act.put, List.setIfInBounds_toArray, List.set_cons_zero, List.set_cons_succ]
  refine takeH (i := 37) (some 11) (v := ?_) rfl rfl (by kernel_rfl) (by kernel_rfl) (by kernel_rfl) (fun _ _ _ h => h) (Or.inl ⟨by rfl, ?hy37⟩) hHeld ?rest37
  case hy37 => (intro w hSw; (try dsimp only at hSw); go_simp; (try with_reducible rfl))
  try simp only [Act.put, List.setIfInBounds_toArray, List.set_cons_zero, List.set_cons_succ]
  refine takeH (i := 38) (some 12) (v := ?_) rfl rfl (by kernel_rfl) (by kernel_rfl) (by kernel_rfl) (fun _ _ _ h => h) (Or.inl ⟨by rfl, ?hy38⟩) hHeld ?rest38
  case hy38 => (intro w hSw; (try dsimp only at hSw); go_simp; (try with_reducible rfl))
  try simp only [Act.put, List.setIfInBounds_toArray, List.set_cons_zero, List.set_cons_succ]
  refine takeH (i := 39) (some 13) (v := ?_) rfl rfl (by kernel_rfl) (by kernel_rfl) (by kernel_rfl) (fun _ _ _ h => h) (Or.inl ⟨by rfl, ?hy39⟩) hHeld ?rest39
  case hy39 => (intro w hSw; (try dsimp only at hSw); go_simp; (try with_reducible rfl))
  try simp only [Act.put, List.setIfInBounds_toArray, List.set_cons_zero, List.set_cons_succ]
  refine wpAnyH_done (by kernel_rfl) ?_ _
  go_wp2_with fail
  with_reducible refine (HF.out _).mono ?_
  rintro q w1 ⟨rfl, hb1⟩
  go_wp2_with fail
  refine (total_c [hw, F, X, k, x] w1.heap.size 0 5 _ (cellsW [hw, F, X, k, x] w1) (by simp)).mono ?_
  rintro q w2 ⟨rfl, hb2⟩
  rw [← HTT.out]
  go_wp2_with fail
  with_reducible refine (HG.out _).mono ?_
  rintro q w3 ⟨rfl, hb3⟩
  go_wp2_with fail
  refine (total_c [G, Y] w3.heap.size 0 2 _ (cellsW [G, Y] w3) (by simp)).mono ?_
  rintro q w4 ⟨rfl, hb4⟩
  rw [← HUU.out]
  have bA := btr (btr (below_drew (Below.refl w.heap.size w)) hb1) (btr (below_alloc w1 _) hb2)
  have bB := btr bA (btr hb3 (btr (below_alloc w3 _) hb4))
  have S4 := HS.out.on bB
  clear hb1 hb2 hb3 hb4
  obtain ⟨c0', c1', c2', c3', c4', c5', c6', c7', f0', f1', f2', f3', f4', f5', f6', f7'⟩ := S4
  simp only [] at c0' c1' c2' c3' c4' c5' c6' c7'
  go_wp2
  rw [w_addm, w_addm]
  go_end0
  refine ⟨⟨_, rfl⟩, (HS.out.on bB).put _, ?_⟩
  exact gr_put (gr_below bB) ⟨TT + UU, a, b, c, d + TT, e, f, g⟩
end Go.Proofs.YtjlpkndbnaknaaaGreatDoor

/- A taker's frame. -/
import Derived.Test.YtdcnpcdohgecbaaDoorQ
import Derived.Test.YtdcnpcdohgecbaaDoorH
namespace Go.Proofs.YtdcnpcdohgecbaaDoor
open Go.RowKit Go.Shelf
attribute [local go_sem] Oper.semAt_some

theorem results_cell {P : Program} {fn : Func} {p : Tmp} {ty : TypeId} (h : fn.results = #[.cell p ty]) (tmps : Array Value) (w : World) {a : Addr} {v : Value} (hp : tmps.getD p undef = .pointer (some a)) (hl : (loadVar ty a).run P w = .ok v w) : (results fn tmps).run P w = .ok v w := by
  simp only [results, h]
  have hp2 : tmps[p]?.getD undef = .pointer (some a) := by simpa using hp
  simp [asAddr, hp2, hl]
/-- What a frame's making keeps: the taker's cells, the cells of the result. -/
def FrS (w : World) (s : ByteArray) (n : Nat) (w' : World) : Prop := w'.cell? ⟨w.heap.size, 0, none⟩ = some (.string s) ∧ w'.cell? ⟨w.heap.size, 1, none⟩ = some (.int .i64 (n : Int)) ∧ Below w.heap.size w w' ∧ (∃ u0 u1 u2, w'.cell? ⟨w.heap.size + 1, 0, none⟩ = some u0 ∧ w'.cell? ⟨w.heap.size + 1, 1, none⟩ = some u1 ∧ w'.cell? ⟨w.heap.size + 1, 2, none⟩ = some u2 ∧ w'.frozen? ⟨w.heap.size + 1, 0, none⟩ = false ∧ w'.frozen? ⟨w.heap.size + 1, 1, none⟩ = false ∧ w'.frozen? ⟨w.heap.size + 1, 2, none⟩ = false)
theorem FrS.on {w : World} {s : ByteArray} {n : Nat} {A B : World} (h : FrS w s n A) (hb : Below A.heap.size A B) : FrS w s n B := by
  obtain ⟨a, b, c, u0, u1, u2, e0, e1, e2, f0, f1, f2⟩ := h
  exact ⟨(hb.cell (blt a)).trans a, (hb.cell (blt b)).trans b, btr c hb, u0, u1, u2, (hb.cell (blt e0)).trans e0, (hb.cell (blt e1)).trans e1, (hb.cell (blt e2)).trans e2, (hb.frozen (blt e0)).trans f0, (hb.frozen (blt e1)).trans f1, (hb.frozen (blt e2)).trans f2⟩
def FrS2 (w : World) (s : ByteArray) (n V : Nat) (w' : World) : Prop := w'.cell? ⟨V, 0, none⟩ = some (.string s) ∧ w'.cell? ⟨V, 1, none⟩ = some (.int .i64 (n : Int)) ∧ w.heap.size + 1 < V ∧ w'.cell? ⟨w.heap.size, 0, none⟩ = some (.string s) ∧ w'.cell? ⟨w.heap.size, 1, none⟩ = some (.int .i64 (n : Int)) ∧ Below w.heap.size w w' ∧ (∃ u0 u1 u2, w'.cell? ⟨w.heap.size + 1, 0, none⟩ = some u0 ∧ w'.cell? ⟨w.heap.size + 1, 1, none⟩ = some u1 ∧ w'.cell? ⟨w.heap.size + 1, 2, none⟩ = some u2 ∧ w'.frozen? ⟨w.heap.size + 1, 0, none⟩ = false ∧ w'.frozen? ⟨w.heap.size + 1, 1, none⟩ = false ∧ w'.frozen? ⟨w.heap.size + 1, 2, none⟩ = false)
theorem FrS2.on {w : World} {s : ByteArray} {n V : Nat} {A B : World} (h : FrS2 w s n V A) (hb : Below A.heap.size A B) : FrS2 w s n V B := by
  obtain ⟨a, b, c, k⟩ := h
  exact ⟨(hb.cell (blt a)).trans a, (hb.cell (blt b)).trans b, c, FrS.on k hb⟩
set_option maxRecDepth 100000 in
set_option maxHeartbeats 8000000 in
theorem frame_c (s : ByteArray) (n L : Nat) (hL : numAt s (n + 3) = (L : Int)) (hk : n + 5 + L ≤ s.size) (hs : (s.size : Int) ≤ 4611686018427387904) (w : World) : Calls Tryd.prog 42 #[.agg #[.string s, .int .i64 (n : Int)]] w fun x w' => x = .returned (.agg #[.int .i64 ((s.data.toList.getD n 0).toNat : Int), .int .i64 (numAt s (n + 1)), .string (s.extract (n + 5) (n + 5 + L))]) ∧ Below w.heap.size w w' := by
  have H1 := Lib.hid (fun W => kind_c s n (by omega) W)
  have H2 := Lib.hid (fun W => numbers_c s n W)
  have H3 := Lib.hid (show ∀ (b : Nat) (W : World), W.cell? ⟨b, 0, none⟩ = some (.string s) → W.cell? ⟨b, 1, none⟩ = some (.int .i64 (n : Int)) → Calls Tryd.prog 62 #[.int .i64 1, .pointer (some ⟨b, 0, none⟩)] W fun x w' => x = .returned (.int .i64 (numB (List.take 2 (List.drop (n + 1) s.data.toList)))) ∧ Below W.heap.size W w' from fun b W h0 h1 => num_c s n 1 (by omega) (by omega) b W h0 h1)
  have H4 := Lib.hid (show ∀ W, Calls Tryd.prog 43 #[.agg #[.string s, .int .i64 (n : Int)]] W fun x w' => x = .returned (.int .i64 ((n : Int) + 5 + (L : Int))) ∧ Below W.heap.size W w' from fun W => by have := end_c s n (by omega) hs W; rwa [hL] at this)
  have e1 : IntKind.i64.wrap ((n : Int) + 5) = (n : Int) + 5 := IntWalk.i64_in _ (by omega)
  have hsl : ∀ W, (Instr.slice 9 (.string s) (some (.int .i64 ((n : Int) + 5))) (some (.int .i64 ((n : Int) + 5 + (L : Int)))) none).run Tryd.prog W = .ok (.string (s.extract (n + 5) (n + 5 + L))) W := fun W => by
    rw [run_slice_string_if (P := Tryd.prog) (w := W) (h := by kernel_rfl), if_pos ⟨by omega, by omega⟩, if_pos ⟨by omega, by omega⟩]
    rfl
  have hQ : numB (List.take 2 (List.drop (n + 1) s.data.toList)) = numAt s (n + 1) := rfl
  rw [← hQ]
  clear hL hk hs hQ
  generalize numB (List.take 2 (List.drop (n + 1) s.data.toList)) = N1 at *
  generalize ((s.data.toList.getD n 0).toNat : Int) = K1 at *
  generalize s.extract (n + 5) (n + 5 + L) = D1 at *
  go_enter Tryd.func42, Tryd.ntmps42
  go_wp2_with fail
  have MK : FrS w s n ((w.alloc (.cells #[.string s, .int .i64 (n : Int)] 70)).alloc (.cells #[.int .i64 0, .int .i64 0, .string ⟨#[]⟩] 23)) := by
    refine ⟨by go_simp, by go_simp, bal (below_alloc _ _) _, _, _, _, by go_simp; rfl, by go_simp; rfl, by go_simp; rfl, by go_simp, by go_simp, by go_simp⟩
  generalize ((w.alloc (.cells #[.string s, .int .i64 (n : Int)] 70)).alloc (.cells #[.int .i64 0, .int .i64 0, .string ⟨#[]⟩] 23)) = U at *
  refine wp_region_held_drew (S := (fun w' => w'.cell? ⟨w.heap.size, 0, none⟩ = some (.string s) ∧ w'.cell? ⟨w.heap.size, 1, none⟩ = some (.int .i64 (n : Int)) ∧ Below w.heap.size w w' ∧ (∃ u0 u1 u2, w'.cell? ⟨w.heap.size + 1, 0, none⟩ = some u0 ∧ w'.cell? ⟨w.heap.size + 1, 1, none⟩ = some u1 ∧ w'.cell? ⟨w.heap.size + 1, 2, none⟩ = some u2 ∧ w'.frozen? ⟨w.heap.size + 1, 0, none⟩ = false ∧ w'.frozen? ⟨w.heap.size + 1, 1, none⟩ = false ∧ w'.frozen? ⟨w.heap.size + 1, 2, none⟩ = false))) (by kernel_rfl) ?_ (fun hHeld => ?_)
  · exact FrS.on MK (below_drew (Below.refl _ _))
  clear MK
  refine takeH (i := 0) (some 3) (v := ?_) rfl rfl (by kernel_rfl) (by kernel_rfl) (by kernel_rfl) (fun _ _ _ h => h) (Or.inl ⟨by rfl, ?hy0⟩) hHeld ?rest0
  case hy0 => (intro w hSw; (try dsimp only at hSw); go_simp; (try with_reducible rfl))
  try simp only [Act.put, List.setIfInBounds_toArray, List.set_cons_zero, List.set_cons_succ]
  refine takeH (i := 2) (some 5) (v := ?_) rfl rfl (by kernel_rfl) (by kernel_rfl) (by kernel_rfl) (fun _ _ _ h => h) (Or.inl ⟨by rfl, ?hy2⟩) hHeld ?rest2
  case hy2 => (intro w hSw; (try dsimp only at hSw); go_simp; (try with_reducible rfl))
  try simp only [Act.put, List.setIfInBounds_toArray, List.set_cons_zero, List.set_cons_succ]
  refine takeH (i := 5) (some 8) (v := ?_) rfl rfl (by kernel_rfl) (by kernel_rfl) (by kernel_rfl) (fun _ _ _ h => h) (Or.inl ⟨by rfl, ?hy5⟩) hHeld ?rest5
  case hy5 => (intro w hSw; (try dsimp only at hSw); go_simp; (try with_reducible rfl))
  try simp only [Act.put, List.setIfInBounds_toArray, List.set_cons_zero, List.set_cons_succ]
  refine takeH (i := 6) (some 9) (v := ?_) rfl rfl (by kernel_rfl) (by kernel_rfl) (by kernel_rfl) (fun _ _ _ h => h) (Or.inl ⟨by rfl, ?hy6⟩) hHeld ?rest6
  case hy6 => (intro w hSw; (try dsimp only at hSw); go_simp; (try with_reducible rfl))
  try simp only [Act.put, List.setIfInBounds_toArray, List.set_cons_zero, List.set_cons_succ]
  refine takeH (i := 7) (some 10) (v := ?_) rfl rfl (by kernel_rfl) (by kernel_rfl) (by kernel_rfl) (fun _ _ _ h => h) (Or.inl ⟨by rfl, ?hy7⟩) hHeld ?rest7
  case hy7 => (intro w hSw; (try dsimp only at hSw); go_simp; (try with_reducible rfl))
  try simp only [Act.put, List.setIfInBounds_toArray, List.set_cons_zero, List.set_cons_succ]
  refine takeH (i := 8) (some 11) (v := ?_) rfl rfl (by kernel_rfl) (by kernel_rfl) (by kernel_rfl) (fun _ _ _ h => h) (Or.inl ⟨by rfl, ?hy8⟩) hHeld ?rest8
  case hy8 => (intro w hSw; (try dsimp only at hSw); go_simp; (try with_reducible rfl))
  try simp only [Act.put, List.setIfInBounds_toArray, List.set_cons_zero, List.set_cons_succ]
  refine takeH (i := 9) (some 12) (v := ?_) rfl rfl (by kernel_rfl) (by kernel_rfl) (by kernel_rfl) (fun _ _ _ h => h) (Or.inl ⟨by rfl, ?hy9⟩) hHeld ?rest9
  case hy9 => (intro w hSw; (try dsimp only at hSw); go_simp; (try with_reducible rfl))
  try simp only [Act.put, List.setIfInBounds_toArray, List.set_cons_zero, List.set_cons_succ]
  refine takeH (i := 10) (some 13) (v := ?_) rfl rfl (by kernel_rfl) (by kernel_rfl) (by kernel_rfl) (fun _ _ _ h => h) (Or.inl ⟨by rfl, ?hy10⟩) hHeld ?rest10
  case hy10 => (intro w hSw; (try dsimp only at hSw); go_simp; (try with_reducible rfl))
  try simp only [Act.put, List.setIfInBounds_toArray, List.set_cons_zero, List.set_cons_succ]
  refine takeH (i := 11) (some 14) (v := ?_) rfl rfl (by kernel_rfl) (by kernel_rfl) (by kernel_rfl) (fun _ _ _ h => h) (Or.inl ⟨by rfl, ?hy11⟩) hHeld ?rest11
  case hy11 => (intro w hSw; (try dsimp only at hSw); go_simp; (try with_reducible rfl))
  try simp only [Act.put, List.setIfInBounds_toArray, List.set_cons_zero, List.set_cons_succ]
  refine takeH (i := 12) (some 15) (v := ?_) rfl rfl (by kernel_rfl) (by kernel_rfl) (by kernel_rfl) (fun _ _ _ h => h) (Or.inl ⟨by rfl, ?hy12⟩) hHeld ?rest12
  case hy12 => (intro w hSw; (try dsimp only at hSw); go_simp; (try with_reducible rfl))
  try simp only [Act.put, List.setIfInBounds_toArray, List.set_cons_zero, List.set_cons_succ]
  refine wpAnyH_ready (rs := [1]) (by kernel_rfl) (by simp) ?_
  refine AllReadyH.cons rfl (fun K hK => ?_) AllReadyH.nil
  go_simp
  go_at_call 55; (with_reducible refine (H1.out _).mono ?_); rintro e wn ⟨rfl, pB⟩; have sB := FrS.on (show FrS w s n _ from hHeld) pB; clear pB hHeld
  refine hK.out _ _ sB (fun hHeld => ?_)
  clear hK K
  try simp only [Act.put, List.setIfInBounds_toArray, List.set_cons_zero, List.set_cons_succ]
  clear sB
  refine wpAnyH_ready (rs := [3]) (by kernel_rfl) (by simp) ?_
  refine AllReadyH.cons rfl (fun K hK => ?_) AllReadyH.nil
  go_simp
  go_at_call 57; (with_reducible refine (H2.out _).mono ?_); rintro e wn2 ⟨rfl, rfl⟩
  have sB := FrS.on (show FrS w s n _ from hHeld) (below_alloc wn (.cells #[.string s, .int .i64 (n : Int)] 70))
  have sC : FrS2 w s n wn.heap.size (wn.alloc (.cells #[.string s, .int .i64 (n : Int)] 70)) := ⟨by go_simp, by go_simp, by obtain ⟨_, _, _, _, _, _, e0, _⟩ := hHeld; exact blt e0, sB⟩
  generalize wn.heap.size = V at *
  generalize wn.alloc (.cells #[.string s, .int .i64 (n : Int)] 70) = wm at *
  clear hHeld
  refine hK.out _ _ sB (fun hHeld => ?_)
  clear hK K hHeld sB
  try simp only [Act.put, List.setIfInBounds_toArray, List.set_cons_zero, List.set_cons_succ]
  refine wpAnyH_narrow (S2 := (fun w' => w'.cell? ⟨V, 0, none⟩ = some (.string s) ∧ w'.cell? ⟨V, 1, none⟩ = some (.int .i64 (n : Int)) ∧ w.heap.size + 1 < V ∧ w'.cell? ⟨w.heap.size, 0, none⟩ = some (.string s) ∧ w'.cell? ⟨w.heap.size, 1, none⟩ = some (.int .i64 (n : Int)) ∧ Below w.heap.size w w' ∧ (∃ u0 u1 u2, w'.cell? ⟨w.heap.size + 1, 0, none⟩ = some u0 ∧ w'.cell? ⟨w.heap.size + 1, 1, none⟩ = some u1 ∧ w'.cell? ⟨w.heap.size + 1, 2, none⟩ = some u2 ∧ w'.frozen? ⟨w.heap.size + 1, 0, none⟩ = false ∧ w'.frozen? ⟨w.heap.size + 1, 1, none⟩ = false ∧ w'.frozen? ⟨w.heap.size + 1, 2, none⟩ = false))) (fun w' h => h.2.2.2) _ _ _ _ ?_
  have hHeld := sC
  unfold FrS2 at hHeld
  clear sC
  refine wpAnyH_ready (rs := [4]) (by kernel_rfl) (by simp) ?_
  refine AllReadyH.cons rfl (fun K hK => ?_) AllReadyH.nil
  go_simp
  go_at_call 62; (with_reducible refine (H3.out _ _ hHeld.1 hHeld.2.1).mono ?_); rintro e wo ⟨rfl, pB⟩; have sB := FrS2.on (show FrS2 w s n V _ from hHeld) pB; clear pB hHeld
  refine hK.out _ _ sB (fun hHeld => ?_)
  clear hK K
  try simp only [Act.put, List.setIfInBounds_toArray, List.set_cons_zero, List.set_cons_succ]
  clear sB
  refine wpAnyH_ready (rs := [13]) (by kernel_rfl) (by simp) ?_
  refine AllReadyH.cons rfl (fun K hK => ?_) AllReadyH.nil
  go_simp
  go_at_call 43; (with_reducible refine (H4.out _).mono ?_); rintro e wp ⟨rfl, pB⟩; have sB := FrS2.on (show FrS2 w s n V _ from hHeld) pB; clear pB hHeld
  refine hK.out _ _ sB (fun hHeld => ?_)
  clear hK K
  try simp only [Act.put, List.setIfInBounds_toArray, List.set_cons_zero, List.set_cons_succ]
  clear sB
  refine takeH (i := 14) (some 17) (v := ?_) rfl rfl (by kernel_rfl) (by kernel_rfl) (by kernel_rfl) (fun _ _ _ h => h) (Or.inl ⟨by rfl, ?hy14⟩) hHeld ?rest14
  case hy14 => (intro w hSw; (try dsimp only at hSw); go_simp; (try with_reducible rfl))
  try simp only [Act.put, List.setIfInBounds_toArray, List.set_cons_zero, List.set_cons_succ]
  refine takeH (i := 15) (some 18) (v := ?_) rfl rfl (by kernel_rfl) (by kernel_rfl) (by kernel_rfl) (fun _ _ _ h => h) (Or.inl ⟨by rfl, ?hy15⟩) hHeld ?rest15
  case hy15 => (intro w hSw; (try dsimp only at hSw); go_simp; (try with_reducible rfl))
  try simp only [Act.put, List.setIfInBounds_toArray, List.set_cons_zero, List.set_cons_succ]
  refine wpAnyH_ready (rs := [16]) (by kernel_rfl) (by simp) ?_
  refine AllReadyH.cons rfl (fun K hK => ?_) AllReadyH.nil
  obtain ⟨a0, a1, bw, k0, k1, c, u0, u1, u2, r0, r1, r2, f0, f1, f2⟩ := hHeld
  go_simp
  have hne : V ≠ w.heap.size + 1 := by omega
  clear e1 hsl H1 H2 H3 H4
  refine hK.out _ _ ⟨by go_simp, by go_simp, bw, by go_simp, by go_simp, ?_, (.int .i64 K1), (.int .i64 N1), (.string D1), by go_simp, by go_simp, by go_simp, by go_simp, by go_simp, by go_simp⟩ (fun hHeld => ?_)
  · repeat' (first | exact c | refine Below.setCell ?_ ?_ _ | (dsimp only; omega))
  clear hK K
  try simp only [Act.put, List.setIfInBounds_toArray, List.set_cons_zero, List.set_cons_succ]
  refine wpAnyH_done (by kernel_rfl) ?_ _
  have t0 : ((((wp.setCell ⟨w.heap.size + 1, 0, none⟩ (.int .i64 K1)).setCell ⟨w.heap.size + 1, 1, none⟩ (.int .i64 N1)).setCell ⟨w.heap.size + 1, 2, none⟩ (.string D1))).cell? ⟨w.heap.size + 1, 0, none⟩ = some (.int .i64 K1) := by go_simp
  have t1 : ((((wp.setCell ⟨w.heap.size + 1, 0, none⟩ (.int .i64 K1)).setCell ⟨w.heap.size + 1, 1, none⟩ (.int .i64 N1)).setCell ⟨w.heap.size + 1, 2, none⟩ (.string D1))).cell? ⟨w.heap.size + 1, 1, none⟩ = some (.int .i64 N1) := by go_simp
  have t2 : ((((wp.setCell ⟨w.heap.size + 1, 0, none⟩ (.int .i64 K1)).setCell ⟨w.heap.size + 1, 1, none⟩ (.int .i64 N1)).setCell ⟨w.heap.size + 1, 2, none⟩ (.string D1))).cell? ⟨w.heap.size + 1, 2, none⟩ = some (.string D1) := by go_simp
  generalize ((((wp.setCell ⟨w.heap.size + 1, 0, none⟩ (.int .i64 K1)).setCell ⟨w.heap.size + 1, 1, none⟩ (.int .i64 N1)).setCell ⟨w.heap.size + 1, 2, none⟩ (.string D1))) = Z at *
  have HB := Lib.hid hHeld.2.2.2.2.2.1
  clear hHeld k0 k1 a0 a1 bw r0 r1 r2 f0 f1 f2 c hne
  have hl : (loadVar 23 ⟨w.heap.size + 1, 0, none⟩).run Tryd.prog Z = .ok (.agg #[.int .i64 K1, .int .i64 N1, .string D1]) Z := by simp [loadVar, isAgg, underlying, Tryd.underlying23, Result.andThen, loadCells, loadCellsFrom, Addr.add, t0, t1, t2]
  go_wp2
  refine bodyPost_ret (results_cell rfl _ _ (by rfl) hl) rfl ?_
  exact ⟨rfl, HB.out⟩
end Go.Proofs.YtdcnpcdohgecbaaDoor

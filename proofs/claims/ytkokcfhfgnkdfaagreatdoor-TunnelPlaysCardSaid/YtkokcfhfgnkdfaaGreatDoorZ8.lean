/- Ti, Hr, Tj, Tk, Tl, Tm, Op -/
import Derived.Test.YtkokcfhfgnkdfaaGreatDoorZ7
import Derived.Test.YtkokcfhfgnkdfaaGreatDoorZ0
import Derived.Test.YtkokcfhfgnkdfaaGreatDoorZ6
import Derived.Maps.AppendAt
set_option linter.unusedVariables false
set_option linter.unusedSimpArgs false
/- The tunnel's methods: Move, Counts, State. -/
namespace Go.Proofs.YtkokcfhfgnkdfaaGreatDoor.L17
open Go.RowKit Go.Shelf
open L1 (Qs Off)
open L14 (isSt goes dest inB outB endB Laid)
attribute [local go_sem] Oper.semAt_some

theorem on_tmove_c (T hi cap : Nat) (t : Tn) (side n : Int) (b3 b5 b8 : Nat) (w : World) (h3 : w.cell? ⟨b3, 0, none⟩ = some (.pointer (some ⟨T, 0, none⟩))) (h5 : w.cell? ⟨b5, 0, none⟩ = some (.int .i64 n)) (h8 : w.cell? ⟨b8, 0, none⟩ = some (.int .i64 0)) (f8 : w.frozen? ⟨b8, 0, none⟩ = false) (h : TunAt w T hi cap t) (hn : ¬ Rin T hi b8) (hm : t.Sm) :
    Calls Tryz.prog 39 #[.pointer (some ⟨T, 0, none⟩), .int .i64 side, .func (.func 43) #[] #[.pointer (some ⟨b3, 0, none⟩), .pointer (some ⟨b5, 0, none⟩), .pointer (some ⟨b8, 0, none⟩)]] w fun x w' =>
      x = .returned (wV (moveE t side n)) ∧ TunAt w' T hi cap (moveT cap t side n) ∧ w'.cell? ⟨b8, 0, none⟩ = some (.int .i64 (moveTN cap t side n : Nat)) ∧ Goes (fun i => Rin T hi i ∨ i = b8) w w' := by
  obtain ⟨X0, X1, m, q⟩ := h
  refine (on_t T X0 X1 m hi cap t side _ _ w q (fun i => i = b8) (moveE t side n) (moveT cap t side n) (fun W => W.cell? ⟨b8, 0, none⟩ = some (.int .i64 (moveTN cap t side n : Nat))) (fun i e => by rw [show i = b8 from e]; exact ⟨blt h8, hn⟩) ?_ (enters_of Tryz.func43 (by kernel_rfl) rfl) (fun A B hA hg => hg.cell hA (fun h => by have := blt h8; omega)) ?_).mono ?_
  · intro k hk hsd W hW qW hway
    have hsb := side_k hk hsd
    have e1 : moveE t side n = mvE t.st n := by unfold moveE mvE; rw [if_pos hsb]
    refine (move1_c _ _ _ cap T b3 b5 b8 _ t.st n (hm side).2.1 q.lc W hway qW.c0 ((hW.cell (blt h3)).trans h3) ((hW.cell (blt h5)).trans h5) ((hW.cell (blt h8)).trans h8) ((hW.frozen (p := ⟨b8, 0, none⟩) (blt h8)).trans f8) (fun e => hn ⟨by have := (pick_in q.lm q.lh hk e).1; omega, (pick_in q.lm q.lh hk e).2⟩)).mono ?_
    rintro x W' ⟨rfl, hw, hx, hg⟩
    refine ⟨by rw [e1], ⟨_, ?_, hw⟩, ?_, hg⟩
    · unfold moveT; rw [e1]
      by_cases hz : mvE t.st n = 0
      · rw [if_pos hz, if_pos hz]
      · rw [if_neg hz, if_neg hz]
        unfold Tn.put Tn.way
        rcases side_cases hsb with h | h <;> rw [h] <;> rfl
    · rw [hx]; unfold moveTN; rw [e1]
  · intro h0 h1
    have e0 := side_no h0 h1
    have e1 : moveE t side n = 170 := by unfold moveE; rw [if_neg (by rw [e0]; decide)]
    refine ⟨e1, by unfold moveT; rw [e1]; rfl, fun W hW => ?_⟩
    unfold moveTN; rw [e1]
    exact (hW.cell (blt h8)).trans h8
  · rintro x w' ⟨rfl, hq, hx, hg⟩
    exact ⟨rfl, ⟨X0, X1, m, hq⟩, hx, hg⟩
set_option maxRecDepth 100000 in
set_option maxHeartbeats 4000000 in
theorem tmove_c (T hi cap : Nat) (t : Tn) (side n : Int) (w : World) (hm : t.Sm) (h : TunAt w T hi cap t) (hL : Laid w) :
    Calls Tryz.prog 23 #[.pointer (some ⟨T, 0, none⟩), .int .i64 side, .int .i64 n] w fun x w' => x = .returned (.tuple #[.int .i64 (moveTN cap t side n : Nat), .int .i64 (moveE t side n)]) ∧ TunAt w' T hi cap (moveT cap t side n) ∧ Goes (Rin T hi) w w' := by
  have lg : 0 < T := by obtain ⟨_, _, _, q⟩ := h; exact q.lg
  have lz : hi ≤ w.heap.size := by obtain ⟨_, _, _, q⟩ := h; exact q.lz
  have hB : Below w.heap.size w (((w.alloc (.cells #[.pointer (some ⟨T, 0, none⟩)] 25)).alloc (.cells #[.int .i64 n] 3)).alloc (.cells #[.int .i64 0] 3)) := bal (bal (below_alloc w _) _) _
  have x0 : (((w.alloc (.cells #[.pointer (some ⟨T, 0, none⟩)] 25)).alloc (.cells #[.int .i64 n] 3)).alloc (.cells #[.int .i64 0] 3)).cell? ⟨w.heap.size, 0, none⟩ = some (.pointer (some ⟨T, 0, none⟩)) := by go_simp
  have x1 : (((w.alloc (.cells #[.pointer (some ⟨T, 0, none⟩)] 25)).alloc (.cells #[.int .i64 n] 3)).alloc (.cells #[.int .i64 0] 3)).cell? ⟨(w.heap.size + 1), 0, none⟩ = some (.int .i64 n) := by go_simp
  have x2 : (((w.alloc (.cells #[.pointer (some ⟨T, 0, none⟩)] 25)).alloc (.cells #[.int .i64 n] 3)).alloc (.cells #[.int .i64 0] 3)).cell? ⟨(w.heap.size + 2), 0, none⟩ = some (.int .i64 0) := by go_simp
  have fz : (((w.alloc (.cells #[.pointer (some ⟨T, 0, none⟩)] 25)).alloc (.cells #[.int .i64 n] 3)).alloc (.cells #[.int .i64 0] 3)).frozen? ⟨(w.heap.size + 2), 0, none⟩ = false := by go_simp
  have HON := Lib.hid (on_tmove_c T hi cap t side n w.heap.size (w.heap.size + 1) (w.heap.size + 2) (((w.alloc (.cells #[.pointer (some ⟨T, 0, none⟩)] 25)).alloc (.cells #[.int .i64 n] 3)).alloc (.cells #[.int .i64 0] 3)) x0 x1 x2 fz (h.below hB) (fun e => by have := e.2; omega) hm)
  have HL := Lib.hid (hL.on hB)
  have HB := Lib.hid hB
  clear h hL hB fz x0 x1 x2
  obtain ⟨E, hE⟩ : ∃ E, moveE t side n = E := ⟨_, rfl⟩
  obtain ⟨R, hR⟩ : ∃ R, (Value.int .i64 (moveTN cap t side n : Nat)) = R := ⟨_, rfl⟩
  rw [hE, hR] at HON
  rw [hE, hR]
  clear hE hR
  have HN := Lib.hid (fun W h => no_v E W h)
  generalize wV E = Z at *
  go_enter Tryz.func23, Tryz.ntmps23
  go_wp2_with (go_at_call 39; refine HON.out.mono ?_; rintro e w1 ⟨rfl, ht, hx, hg⟩; have HT := Lib.hid ht; have HG := Lib.hid hg; have HL1 : Hid (Laid w1) := Lib.hid (hg.cell HL.out (fun h => h.elim (fun h => by have := h.1; omega) (fun (h : _ = _) => by omega))); clear ht hg)
  rename_i K hK
  have u0 : Below w1.heap.size w1 w1 := Below.refl _ w1
  have MK := Lib.hid (show ∀ w', Below w1.heap.size w1 w' → w'.cell? ⟨(w.heap.size + 2), 0, none⟩ = some (R) ∧ Below w1.heap.size w1 w' from fun w' h => ⟨(h.cell (blt hx)).trans hx, h⟩)
  refine wp_region_held_drew (S := (fun w' => w'.cell? ⟨(w.heap.size + 2), 0, none⟩ = some (R) ∧ Below w1.heap.size w1 w')) (by kernel_rfl) ?_ (fun hHeld => ?_)
  · exact MK.out _ (below_drew u0)
  refine takeH (i := 0) (some 14) (v := ?_) rfl rfl (by kernel_rfl) (by kernel_rfl) (by kernel_rfl) (fun _ _ _ h => h) (Or.inl ⟨by rfl, ?hy0⟩) hHeld ?rest0
  case hy0 => (intro w hSw; (try dsimp only at hSw); go_simp; (try with_reducible rfl))
  try simp only [Act.put, List.setIfInBounds_toArray, List.set_cons_zero, List.set_cons_succ]
  refine takeH (i := 1) (some 15) (v := ?_) rfl rfl (by kernel_rfl) (by kernel_rfl) (by kernel_rfl) (fun _ _ _ h => h) (Or.inl ⟨by rfl, ?hy1⟩) hHeld ?rest1
  case hy1 => (intro w hSw; (try dsimp only at hSw); go_simp; (try with_reducible rfl))
  try simp only [Act.put, List.setIfInBounds_toArray, List.set_cons_zero, List.set_cons_succ]
  refine wpAnyH_ready (rs := [2]) (by kernel_rfl) (by simp) ?_
  refine AllReadyH.cons rfl (fun K2 hK2 => ?_) AllReadyH.nil
  go_simp
  with_reducible refine (HN.out _ (HL1.out.on hHeld.2)).mono ?_
  rintro e w2 ⟨rfl, hb2⟩
  refine hK2.out _ _ (MK.out _ (btr hHeld.2 hb2)) (fun hHeld => ?_)
  clear hK2 K2 hb2
  try simp only [Act.put, List.setIfInBounds_toArray, List.set_cons_zero, List.set_cons_succ]
  refine takeH (i := 3) (some 6) (v := ?_) rfl rfl (by kernel_rfl) (by kernel_rfl) (by kernel_rfl) (fun _ _ _ h => h) (Or.inl ⟨by rfl, ?hy3⟩) hHeld ?rest3
  case hy3 => (intro w hSw; (try dsimp only at hSw); go_simp; (try with_reducible rfl))
  try simp only [Act.put, List.setIfInBounds_toArray, List.set_cons_zero, List.set_cons_succ]
  refine takeH (i := 4) (some 7) (v := ?_) rfl rfl (by kernel_rfl) (by kernel_rfl) (by kernel_rfl) (fun _ _ _ h => h) (Or.inl ⟨by rfl, ?hy4⟩) hHeld ?rest4
  case hy4 => (intro w hSw; (try dsimp only at hSw); go_simp; (try with_reducible rfl))
  try simp only [Act.put, List.setIfInBounds_toArray, List.set_cons_zero, List.set_cons_succ]
  refine wpAnyH_done (by kernel_rfl) ?_ _
  refine hK _ _ ?_
  go_wp2
  go_ret2
  refine ⟨rfl, HT.out.below hHeld.2, ?_⟩
  have hg := (Goes.of_below (Pv := fun i => Rin T hi i ∨ w.heap.size ≤ i) HB.out).trans (HG.out.mono (fun i h => h.imp id (fun (h : _ = _) => by omega)))
  have hg2 := hg.trans (Goes.of_below hHeld.2)
  exact ⟨hg2.os, hg2.tape, hg2.output, hg2.size, fun i hi hp => hg2.same i hi (fun k => k.elim hp (fun k => by omega))⟩
set_option maxRecDepth 100000 in
set_option maxHeartbeats 4000000 in
theorem counts1_c (lo hi X cap b : Nat) (y : Wy) (w : World) (h : WayAt w lo hi X cap y) (h0 : w.cell? ⟨b, 0, none⟩ = some (.int .i64 0)) (h1 : w.cell? ⟨b, 1, none⟩ = some (.int .i64 0)) (h2 : w.cell? ⟨b, 2, none⟩ = some (.int .i64 0))
    (f0 : w.frozen? ⟨b, 0, none⟩ = false) (f1 : w.frozen? ⟨b, 1, none⟩ = false) (f2 : w.frozen? ⟨b, 2, none⟩ = false) (hn : ¬ Rin lo hi b) :
    Calls Tryz.prog 40 #[.pointer (some ⟨X, 0, none⟩), .pointer (some ⟨b, 0, none⟩)] w fun x w' =>
      x = .returned (ofV 0) ∧ WayAt w' lo hi X cap y ∧ (w'.cell? ⟨b, 0, none⟩ = some (.int .i64 (y.fd : Nat)) ∧ w'.cell? ⟨b, 1, none⟩ = some (.int .i64 (y.mv : Nat)) ∧ w'.cell? ⟨b, 2, none⟩ = some (.int .i64 (y.dr : Nat))) ∧ Goes (fun i => Rin lo hi i ∨ i = b) w w' := by
  have HA := Lib.hid h
  obtain ⟨F, K, G, L, q, -⟩ := h
  have c0 := q.st.c0
  have c1 := q.st.c1
  have c2 := q.st.c2
  clear q
  generalize y.fd = fd at *
  generalize y.mv = mv at *
  generalize y.dr = dr at *
  go_enter Tryz.func40, Tryz.ntmps40
  go_wp2
  go_ret
  have k1 : (w.setCell ⟨b, 0, none⟩ (.int .i64 (fd : Int))).cell? ⟨b, 1, none⟩ = some (.int .i64 0) := (cell_oth _ _ _ _ _ (by decide)).trans h1
  have k2 : ((w.setCell ⟨b, 0, none⟩ (.int .i64 (fd : Int))).setCell ⟨b, 1, none⟩ (.int .i64 (mv : Int))).cell? ⟨b, 2, none⟩ = some (.int .i64 0) := (cell_oth _ _ _ _ _ (by decide)).trans ((cell_oth _ _ _ _ _ (by decide)).trans h2)
  have hg : Goes (fun i => i = b) w (((w.setCell ⟨b, 0, none⟩ (.int .i64 (fd : Int))).setCell ⟨b, 1, none⟩ (.int .i64 (mv : Int))).setCell ⟨b, 2, none⟩ (.int .i64 (dr : Int))) := ((goes_set (Pv := fun i => i = b) _ _ _ _ rfl).trans (goes_set (Pv := fun i => i = b) _ _ _ _ rfl)).trans (goes_set (Pv := fun i => i = b) _ _ _ _ rfl)
  refine ⟨rfl, HA.out.goes hg (fun i h e => hn (e ▸ h)), ⟨?_, ?_, ?_⟩, hg.mono (fun _ h => .inr h)⟩
  · exact (cell_oth _ _ _ _ _ (by decide)).trans ((cell_oth _ _ _ _ _ (by decide)).trans (World.cell?_setCell_same' _ _ _ (by rw [h0]; rfl)))
  · exact (cell_oth _ _ _ _ _ (by decide)).trans (World.cell?_setCell_same' _ _ _ (by rw [k1]; rfl))
  · exact World.cell?_setCell_same' _ _ _ (by rw [k2]; rfl)
theorem put_way (t : Tn) {side : Int} (h : sideB side = true) : t = t.put side (t.way side) := by
  rcases side_cases h with h | h <;> rw [h] <;> rfl
def CntAt (W : World) (b : Nat) (t : Tn) (side : Int) : Prop := W.cell? ⟨b, 0, none⟩ = some (.int .i64 (cntF t side : Nat)) ∧ W.cell? ⟨b, 1, none⟩ = some (.int .i64 (cntM t side : Nat)) ∧ W.cell? ⟨b, 2, none⟩ = some (.int .i64 (cntD t side : Nat))
theorem on_counts (T hi cap : Nat) (t : Tn) (side : Int) (b : Nat) (w : World) (h0 : w.cell? ⟨b, 0, none⟩ = some (.int .i64 0)) (h1 : w.cell? ⟨b, 1, none⟩ = some (.int .i64 0)) (h2 : w.cell? ⟨b, 2, none⟩ = some (.int .i64 0))
    (f0 : w.frozen? ⟨b, 0, none⟩ = false) (f1 : w.frozen? ⟨b, 1, none⟩ = false) (f2 : w.frozen? ⟨b, 2, none⟩ = false) (h : TunAt w T hi cap t) (hn : ¬ Rin T hi b) :
    Calls Tryz.prog 39 #[.pointer (some ⟨T, 0, none⟩), .int .i64 side, .func (.func 40) #[] #[.pointer (some ⟨b, 0, none⟩)]] w fun x w' =>
      x = .returned (wV (drainE side)) ∧ TunAt w' T hi cap t ∧ CntAt w' b t side ∧ Goes (fun i => Rin T hi i ∨ i = b) w w' := by
  obtain ⟨X0, X1, m, q⟩ := h
  refine (on_t T X0 X1 m hi cap t side _ _ w q (fun i => i = b) (drainE side) t (fun W => CntAt W b t side) (fun i e => by rw [show i = b from e]; exact ⟨blt h0, hn⟩) ?_ (enters_of Tryz.func40 (by kernel_rfl) rfl) (fun A B hA hg => ⟨hg.cell hA.1 (fun h => by have := blt h0; omega), hg.cell hA.2.1 (fun h => by have := blt h0; omega), hg.cell hA.2.2 (fun h => by have := blt h0; omega)⟩) ?_).mono ?_
  · intro k hk hsd W hW qW hway
    have hsb := side_k hk hsd
    have e1 : drainE side = 0 := by unfold drainE; rw [if_pos hsb]
    refine (counts1_c _ _ _ cap b _ W hway ((hW.cell (blt h0)).trans h0) ((hW.cell (blt h1)).trans h1) ((hW.cell (blt h2)).trans h2) ((hW.frozen (p := ⟨b, 0, none⟩) (blt h0)).trans f0) ((hW.frozen (p := ⟨b, 1, none⟩) (blt h1)).trans f1) ((hW.frozen (p := ⟨b, 2, none⟩) (blt h2)).trans f2) (fun e => hn ⟨by have := (pick_in q.lm q.lh hk e).1; omega, (pick_in q.lm q.lh hk e).2⟩)).mono ?_
    rintro x W' ⟨rfl, hw, ⟨x0, x1, x2⟩, hg⟩
    refine ⟨by rw [e1], ⟨_, put_way t hsb, hw⟩, ⟨?_, ?_, ?_⟩, hg⟩
    · rw [x0]; unfold cntF; rw [if_pos hsb]
    · rw [x1]; unfold cntM; rw [if_pos hsb]
    · rw [x2]; unfold cntD; rw [if_pos hsb]
  · intro g0 g1
    have e0 := side_no g0 g1
    refine ⟨by unfold drainE; rw [if_neg (by rw [e0]; decide)], rfl, fun W hW => ⟨?_, ?_, ?_⟩⟩
    · unfold cntF; rw [if_neg (by rw [e0]; decide)]; exact (hW.cell (blt h0)).trans h0
    · unfold cntM; rw [if_neg (by rw [e0]; decide)]; exact (hW.cell (blt h1)).trans h1
    · unfold cntD; rw [if_neg (by rw [e0]; decide)]; exact (hW.cell (blt h2)).trans h2
  · rintro x w' ⟨rfl, hq, hx, hg⟩
    exact ⟨rfl, ⟨X0, X1, m, hq⟩, hx, hg⟩
set_option maxRecDepth 100000 in
set_option maxHeartbeats 4000000 in
theorem tcounts_c (T hi cap : Nat) (t : Tn) (side : Int) (w : World) (h : TunAt w T hi cap t) :
    Calls Tryz.prog 21 #[.pointer (some ⟨T, 0, none⟩), .int .i64 side] w fun x w' => x = .returned (.tuple #[.int .i64 (cntF t side : Nat), .int .i64 (cntM t side : Nat), .int .i64 (cntD t side : Nat)]) ∧ TunAt w' T hi cap t ∧ Goes (Rin T hi) w w' := by
  have lz : hi ≤ w.heap.size := by obtain ⟨_, _, _, q⟩ := h; exact q.lz
  have hB : Below w.heap.size w (w.alloc (.cells #[.int .i64 0, .int .i64 0, .int .i64 0] 83)) := below_alloc w _
  have x0 : (w.alloc (.cells #[.int .i64 0, .int .i64 0, .int .i64 0] 83)).cell? ⟨w.heap.size, 0, none⟩ = some (.int .i64 0) := by go_simp
  have x1 : (w.alloc (.cells #[.int .i64 0, .int .i64 0, .int .i64 0] 83)).cell? ⟨w.heap.size, 1, none⟩ = some (.int .i64 0) := by go_simp
  have x2 : (w.alloc (.cells #[.int .i64 0, .int .i64 0, .int .i64 0] 83)).cell? ⟨w.heap.size, 2, none⟩ = some (.int .i64 0) := by go_simp
  have f0 : (w.alloc (.cells #[.int .i64 0, .int .i64 0, .int .i64 0] 83)).frozen? ⟨w.heap.size, 0, none⟩ = false := by go_simp
  have f1 : (w.alloc (.cells #[.int .i64 0, .int .i64 0, .int .i64 0] 83)).frozen? ⟨w.heap.size, 1, none⟩ = false := by go_simp
  have f2 : (w.alloc (.cells #[.int .i64 0, .int .i64 0, .int .i64 0] 83)).frozen? ⟨w.heap.size, 2, none⟩ = false := by go_simp
  have HON := Lib.hid (on_counts T hi cap t side w.heap.size _ x0 x1 x2 f0 f1 f2 (h.below hB) (fun e => by have := e.2; omega))
  have HB := Lib.hid hB
  clear h hB x0 x1 x2 f0 f1 f2
  unfold CntAt at HON
  generalize cntF t side = nF at *
  generalize cntM t side = nM at *
  generalize cntD t side = nD at *
  generalize wV (drainE side) = Z at *
  go_enter Tryz.func21, Tryz.ntmps21
  go_wp2_with (go_at_call 39; refine HON.out.mono ?_; rintro e w1 ⟨rfl, ht, ⟨y0, y1, y2⟩, hg⟩; have HT := Lib.hid ht; have HG := Lib.hid hg; clear ht hg)
  go_quiet (fail)
  go_wp2
  refine bodyPost_ret (v := .tuple #[.int .i64 (nF : Int), .int .i64 (nM : Int), .int .i64 (nD : Int)]) (by simp [results, Tryz.results21, go_sem]) rfl ⟨rfl, HT.out.below (below_drewN (Below.refl _ _) _), ?_⟩
  have hg := (Goes.of_below (Pv := fun i => Rin T hi i ∨ w.heap.size ≤ i) HB.out).trans (HG.out.mono (fun i h => h.imp id (fun (h : _ = _) => by omega)))
  have hg2 := hg.trans (Goes.of_below (below_drewN (Below.refl _ w1) nq))
  exact ⟨hg2.os, hg2.tape, hg2.output, hg2.size, fun i hi hp => hg2.same i hi (fun k => k.elim hp (fun k => by omega))⟩
theorem tstate_c (T hi cap : Nat) (t : Tn) (w : World) (h : TunAt w T hi cap t) : Calls Tryz.prog 15 #[.pointer (some ⟨T, 0, none⟩)] w fun x w' => x = .returned (.int .i64 t.st) ∧ w = w' := by
  obtain ⟨X0, X1, m, q⟩ := h
  have c0 := q.c0
  clear q
  go_enter Tryz.func15, Tryz.ntmps15
  go_wp2
  go_ret
  exact ⟨rfl, rfl⟩
end Go.Proofs.YtkokcfhfgnkdfaaGreatDoor.L17

/- A region that draws its order, held, in a round of a range over a function. -/
namespace Go.Proofs.YtkokcfhfgnkdfaaGreatDoor
open Go.RowKit

theorem wpOpIn_of_wpOp {l n : Nat} {P : Program} {ops : Array Oper} {Q : Exit → Act → World → Prop} {i : Nat} {K K' : Act → World → Prop} {a : Act} {w : World}
    (hd : ∀ (j : Nat) (o : Oper), ops[j]? = some o → ∀ c, o.op ≠ .defer c) (hno : ¬ LetsOut Q) (hK : ∀ a w, K a w → K' a w) (h : wpOp P ops Q i K a w) : wpOpIn (Fence.wide.inRound l) n P ops Q i K' a w := by
  refine wpOpIn_mono hK ?_
  unfold wpOp at h
  unfold wpOpIn
  cases ho : ops[i]? with
  | none => rw [ho] at h; exact h
  | some o =>
    rw [ho] at h
    simp only [] at h ⊢
    by_cases hw : Region.wanted o (yielded ops a.tmps) = true
    · rw [if_pos hw] at h ⊢
      rcases h with h | ⟨_, h⟩
      · refine ⟨fun _ _ => trivial, ?_⟩
        have hs : o.semAt (Fence.wide.inRound l).round a.eval = execOp a.eval o := Oper.semAt_some l _ _ (hd _ _ ho)
        rw [hs]
        unfold Oper.wp at h
        generalize (execOp a.eval o).run P w = r at *
        cases r with
        | ok x w' =>
          cases x with
          | enter f args => exact ⟨fun k => by simp [Fence.wide] at k, CallsIn.inRound l (callsIn_wide.2 h)⟩
          | row row args => exact ⟨fun k => by simp [Fence.wide] at k, fun c cs _ => let ⟨v, w', r, s⟩ := h c cs; ⟨v, w', r, stepsIn_wide.2 s⟩⟩
          | _ => first | exact h | exact (h : False).elim
        | halt x w' => cases x <;> first | exact h | exact (h : False).elim
      · exact absurd h hno
    · rw [if_neg hw] at h ⊢
      exact ⟨fun _ _ => trivial, h⟩
theorem wpAnyIn_of_wpAny {l n : Nat} {P : Program} {md : Region.Mode} {ops : Array Oper} {Q : Exit → Act → World → Prop}
    (hd : ∀ (j : Nat) (o : Oper), ops[j]? = some o → ∀ c, o.op ≠ .defer c) (hno : ¬ LetsOut Q) : ∀ (fuel : Nat) (listed : Array Bool) (a : Act) (w : World), wpAny P md ops Q fuel listed a w → wpAnyIn (Fence.wide.inRound l) n P md ops Q fuel listed a w
  | 0, _, _, _, h => h
  | fuel + 1, _, _, _, h => ⟨h.1, fun i hi => wpOpIn_of_wpOp hd hno (fun a' w' h' => wpAnyIn_of_wpAny hd hno fuel _ a' w' h') (h.2 i hi)⟩
/-- No operation of a region is a defer statement: by a look. -/
def noDefer (ops : Array Oper) : Bool := ops.all fun o => match o.op with | .defer _ => false | _ => true
theorem noDefer_spec {ops : Array Oper} (h : noDefer ops = true) : ∀ (j : Nat) (o : Oper), ops[j]? = some o → ∀ c, o.op ≠ .defer c := by
  intro j o ho c hc
  have := (Array.all_eq_true.1 h) j (Array.getElem?_eq_some_iff.1 ho).1
  rw [(Array.getElem?_eq_some_iff.1 ho).2, hc] at this
  cases this
theorem wpIn_region_held_drew {l n : Nat} {P : Program} {ops : Array Oper} {Q : Exit → Act → World → Prop} {S : World → Prop} {id : Nat} {a : Act} {w : World} (hm : P.follows .mixedOrders = true) (hd : noDefer ops = true) (hno : ¬ LetsOut Q)
    (hS : S w.drew) (h : S w.drew → wpAnyH P .any ops Q S ops.size (Array.replicate ops.size false) a w.drew) : (Code.region id ops true).wpIn (Fence.wide.inRound l) n P Q a w :=
  wpIn_region_any hm (wpAnyIn_of_wpAny (noDefer_spec hd) hno _ _ _ _ (wpAny_of_held _ _ _ _ (h hS)))
end Go.Proofs.YtkokcfhfgnkdfaaGreatDoor

/- empty: both queues that came are cleared. -/
namespace Go.Proofs.YtkokcfhfgnkdfaaGreatDoor.L17
open Go.RowKit Go.Shelf
open L1 (Qs Off)
open L14 (isSt goes dest inB outB endB Laid)
attribute [local go_sem] Oper.semAt_some

def clr (t : Tn) (k : Nat) : Tn := if k = 0 then t else if k = 1 then { t with a := clearW t.a } else { t with a := clearW t.a, b := clearW t.b }
def sm (t : Tn) (k : Nat) : Nat := if k = 0 then 0 else if k = 1 then t.a.i.length else t.a.i.length + t.b.i.length
theorem clr_put (t : Tn) (k : Nat) (hk : k < 2) : (clr t k).put (k : Int) (clearW ((clr t k).way (k : Int))) = clr t (k + 1) ∧ sm t k + ((clr t k).way (k : Int)).i.length = sm t (k + 1) := by
  match k, hk with
  | 0, _ => exact ⟨rfl, Nat.zero_add _⟩
  | 1, _ => exact ⟨rfl, rfl⟩
theorem sm_le {t : Tn} {cap : Nat} (h : t.Ok cap) (k : Nat) : sm t k ≤ 2 * cap := by
  have := h.a.il; have := h.b.il
  unfold sm; split
  · omega
  · split <;> omega
/-- What the loop of 'empty' keeps. -/
structure EmI (w : World) (T X0 X1 m hi cap : Nat) (t : Tn) (pre : List Nat) (Pv : Nat → Prop) (W : World) : Prop where
  b3 : Boxed W w.heap.size 3 (.int .i64 (sm t pre.length : Nat))
  b4 : Boxed W (w.heap.size + 1) 106 (.func (.func 59) #[] #[])
  q : TunQ W T X0 X1 m hi cap (clr t pre.length)
  n3 : ¬ Pv w.heap.size
  n4 : ¬ Pv (w.heap.size + 1)
  pz : ∀ i, Pv i → w.heap.size ≤ i
  hz : hi ≤ w.heap.size
  gw : Goes (fun i => Rin T hi i ∨ w.heap.size ≤ i) w W
theorem EmI.steady (w : World) (T X0 X1 m hi cap : Nat) (t : Tn) : Steady (EmI w T X0 X1 m hi cap t) := by
  rintro pre Pv Pv' A B ⟨b3, b4, q, n3, n4, pz, hz, gw⟩ hg hm
  exact ⟨hg.boxedG b3 n3, hg.boxedG b4 n4, q.goes hg (fun i hi hp => by have := pz i hp; have := hi.2; omega), hm.notG n3 b3.lt, hm.notG n4 b4.lt, fun i hi => (hm i hi).elim (pz i) (fun k => by have := b3.lt; omega), hz, gw.trans (hg.mono (fun i h => .inr (pz i h)))⟩
set_option maxRecDepth 100000 in
set_option maxHeartbeats 4000000 in
theorem empty_in (T hi cap : Nat) (t : Tn) (w : World) (h : TunAt w T hi cap t) :
    CallsIn Fence.wide 8 Tryz.prog 30 #[.pointer (some ⟨T, 0, none⟩)] w fun x w' => x = .returned (.int .i64 (stopN t : Nat)) ∧ TunAt w' T hi cap ⟨t.st, clearW t.a, clearW t.b⟩ ∧ Goes (Rin T hi) w w' := by
  have q1 : Fence.wide.fn 60 := trivial
  have q2 : Fence.wide.fn 59 := trivial
  obtain ⟨X0, X1, m, q⟩ := h
  have HS := Lib.hid (fun W => sides_c T W)
  have HZ := Lib.hid (show ∀ k, (sm t k : Int) ≤ 8192 from fun k => by have := sm_le q.ok k; have := q.lc; omega)
  refine callsIn_of_wp_marks Tryz.func30 rfl trivial ?_ rfl
  simp only [Tryz.ntmps30, List.size_toArray, List.length_cons, List.length_nil, Nat.reduceAdd, Nat.reduceSub, Array.replicate_succ, Array.replicate_zero, List.push_toArray, List.append_toArray, List.nil_append, List.cons_append]
  gi_wp2_with (gi_at_call 60; refine (callsIn_wide.2 (HS.out _)).mono ?_; rintro e w' ⟨rfl, rfl⟩)
  rename_i K hK
  have HK := Lib.hid hK
  clear hK
  have hB : Below w.heap.size w (((w.alloc (.cells #[.int .i64 0] 3)).alloc (.cells #[.func (.func 59) #[] #[]] 106)).alloc (.cells #[.pointer (some ⟨T, 0, none⟩)] 25)) := bal (bal (below_alloc w _) _) _
  have x0 : Boxed (((w.alloc (.cells #[.int .i64 0] 3)).alloc (.cells #[.func (.func 59) #[] #[]] 106)).alloc (.cells #[.pointer (some ⟨T, 0, none⟩)] 25)) w.heap.size 3 (.int .i64 0) := ((Boxed.new w _ _).alloc _).alloc _
  have x1 : Boxed (((w.alloc (.cells #[.int .i64 0] 3)).alloc (.cells #[.func (.func 59) #[] #[]] 106)).alloc (.cells #[.pointer (some ⟨T, 0, none⟩)] 25)) (w.heap.size + 1) 106 (.func (.func 59) #[] #[]) := by
    have := Boxed.new (w.alloc (.cells #[.int .i64 0] 3)) 106 (.func (.func 59) #[] #[])
    rw [World.size_alloc] at this
    exact this.alloc _
  have x3 : (((w.alloc (.cells #[.int .i64 0] 3)).alloc (.cells #[.func (.func 59) #[] #[]] 106)).alloc (.cells #[.pointer (some ⟨T, 0, none⟩)] 25)).cell? ⟨w.heap.size + 2, 0, none⟩ = some (.pointer (some ⟨T, 0, none⟩)) := by
    have := (Boxed.new ((w.alloc (.cells #[.int .i64 0] 3)).alloc (.cells #[.func (.func 59) #[] #[]] 106)) 25 (.pointer (some ⟨T, 0, none⟩))).cell
    rw [World.size_alloc, World.size_alloc] at this
    exact this
  generalize (((w.alloc (.cells #[.int .i64 0] 3)).alloc (.cells #[.func (.func 59) #[] #[]] 106)).alloc (.cells #[.pointer (some ⟨T, 0, none⟩)] 25)) = V at *
  have hVz : w.heap.size + 2 < V.heap.size := blt x3
  have HFI := Lib.hid (sides_it 7 (by omega) T (w.heap.size + 2) X0 X1 V x3 ((hB.cell (p := ⟨T, 1, none⟩) (blt q.c1)).trans q.c1) ((hB.cell (p := ⟨T, 2, none⟩) (blt q.c2)).trans q.c2))
  have hI : EmI w T X0 X1 m hi cap t [] (fun i => i = w.heap.size + 2) V := ⟨x0, x1, q.below hB, by omega, by omega, fun i h => by omega, q.lz, Goes.of_below hB⟩
  clear x0 x1 x3 hB
  refine wpIn_range_iters (n := 8) (encs := fun k : Nat => #[.int .i64 (k : Int), .pointer (some ⟨pick X0 X1 k, 0, none⟩)]) (ps := #[9, 10]) rfl (by omega) (gf := 90) (lb := #[.pointer (some ⟨w.heap.size + 2, 0, none⟩)]) rfl trivial (enters_of Tryz.func90 (by kernel_rfl) rfl)
    HFI.out (Below.refl _ _) (fun _ => rfl) (fun i h => by omega) (EmI w T X0 X1 m hi cap t) (fun _ _ _ _ => False) (EmI.steady w T X0 X1 m hi cap t) (fun _ _ _ _ _ _ h => h.elim) hI ?round ?done ?stop
  case round =>
    rintro l pre k Pv W ⟨rfl, hk⟩ ⟨b3, b4, qq, n3, n4, pz, hz, gw⟩ hPl hl ⟨rec, hrec⟩
    replace hl : w.heap.size ≤ l := by omega
    clear HFI hI HK hVz q
    obtain ⟨k, hkk⟩ : ∃ k, pre.length = k := ⟨_, rfl⟩
    simp only [hkk]
    rw [hkk] at hk b3 qq
    have HWE := Lib.hid (fun W h => wempty_c (pick (T + 1) m k) (pick m hi k) (pick X0 X1 k) cap ((clr t k).way (k : Int)) W h)
    obtain ⟨P, hP⟩ : ∃ P, pick X0 X1 k = P := ⟨_, rfl⟩
    have hll : l < W.heap.size := (Array.getElem?_eq_some_iff.1 hrec).1
    gi_wp2
    refine ⟨Mid.refl Pv W, fun W2 hG hr2 => ?_⟩
    have hB2 : EmI w T X0 X1 m hi cap t pre Pv W2 := EmI.steady w T X0 X1 m hi cap t pre Pv Pv W W2 ⟨by rw [hkk]; exact b3, b4, by rw [hkk]; exact qq, n3, n4, pz, hz, gw⟩ (hG.mono (fun i h => h ▸ hPl)) (More.same Pv W W2)
    have hb3 := hB2.b3
    rw [hkk] at hb3
    have u4 := hb3.cell
    have v4 := hb3.frozen
    have u5 := hB2.b4.cell
    have hq2 := hB2.q
    rw [hkk] at hq2
    have HQ := Lib.hid (And.intro hb3 (And.intro hB2.b4 (And.intro hq2 (And.intro n3 (And.intro n4 (And.intro pz (And.intro hz hB2.gw)))))))
    clear hB2 hb3 hq2 b3 b4 qq n3 n4 pz gw hG hr2 hrec
    obtain ⟨hc1, hc2⟩ := clr_put t k hk
    have hwr : IntKind.i64.wrap (((sm t k : Nat) : Int) + ((((clr t k).way (k : Int)).i.length : Nat) : Int)) = ((sm t (k + 1) : Nat) : Int) := by have := HZ.out (k + 1); rw [IntWalk.i64_in _ (by omega)]; omega
    have HEND := Lib.hid (show ∀ V0 V1 : World, Hid (Goes (fun _ => False) W2 V0) → Hid (TunQ V0 T X0 X1 m hi cap (clr t k)) → Hid (WayAt V1 (pick (T + 1) m k) (pick m hi k) (pick X0 X1 k) cap (clearW ((clr t k).way (k : Int)))) → Hid (Goes (Rin (pick (T + 1) m k) (pick m hi k)) V0 V1) →
        EmI w T X0 X1 m hi cap t (pre ++ [k]) Pv (V1.setCell ⟨w.heap.size, 0, none⟩ (.int .i64 ((sm t (k + 1) : Nat) : Int))) ∧ Mid Pv W2 (V1.setCell ⟨w.heap.size, 0, none⟩ (.int .i64 ((sm t (k + 1) : Nat) : Int))) from by
      intro V0 V1 g0 hq hw hg
      obtain ⟨b3, b4, q2, n3, n4, pz, hz, gw⟩ := HQ.out
      have ng : ∀ i, w.heap.size ≤ i → ¬ Rin (pick (T + 1) m k) (pick m hi k) i := fun i h e => by have := (pick_in q2.lm q2.lh hk e).2; omega
      have c3 := hg.out.boxedG (g0.out.boxedG b3 (fun h => h)) (ng _ (Nat.le_refl _))
      have c4 := hg.out.boxedG (g0.out.boxedG b4 (fun h => h)) (ng _ (by omega))
      have hsub : ∀ i, Rin (pick (T + 1) m k) (pick m hi k) i → Rin T hi i := fun i e => ⟨by have := (pick_in q2.lm q2.lh hk e).1; omega, (pick_in q2.lm q2.lh hk e).2⟩
      have hq3 := hq.out.put (S := fun _ => False) k hk hw.out (hg.out.mono (fun _ h => .inl h)) (fun _ h => h.elim)
      rw [hc1] at hq3
      have hgs : Goes (fun i => i = w.heap.size) V1 (V1.setCell ⟨w.heap.size, 0, none⟩ (.int .i64 ((sm t (k + 1) : Nat) : Int))) := goes_set _ _ _ _ rfl
      have hl1 : (pre ++ [k]).length = k + 1 := by rw [List.length_append, hkk, List.length_singleton]
      refine ⟨⟨by rw [hl1]; exact c3.set _, hgs.boxedG c4 (fun (h : _ = _) => by omega), by rw [hl1]; exact hq3.goes hgs (fun i h e => by have := h.2; omega), n3, n4, pz, hz, ?_⟩, ?_⟩
      · exact ((gw.trans (g0.out.mono (fun _ h => h.elim))).trans (hg.out.mono (fun i h => .inl (hsub i h)))).trans (hgs.mono (fun i h => .inr (by omega)))
      · refine Mid.setCell ?_ _ n3
        exact ⟨Nat.le_trans g0.out.size hg.out.size, fun i hi hp => (hg.out.same i (Nat.lt_of_lt_of_le hi g0.out.size) (ng i (pz i hp))).trans (g0.out.same i hi (fun h => h))⟩)
    clear hc1 hc2
    replace HEND := HEND.out
    rw [hP] at HWE
    gi_wp2_with fail
    refine wpIn_region_held_drew (S := (fun w' => w'.cell? ⟨w.heap.size + 1, 0, none⟩ = some (.func (.func 59) #[] #[]))) (by kernel_rfl) (by kernel_rfl) (by rintro ⟨_, _, h⟩; exact h) (show W2.drew.cell? ⟨w.heap.size + 1, 0, none⟩ = some (.func (.func 59) #[] #[]) from u5) (fun hHeld => ?_)
    refine takeH (i := 1) (some 12) (v := ?_) rfl rfl (by kernel_rfl) (by kernel_rfl) (by kernel_rfl) (fun _ _ _ h => h) (Or.inl ⟨by rfl, ?hye1⟩) hHeld ?reste1
    case hye1 => (intro w hSw; (try dsimp only at hSw); go_simp; (try with_reducible rfl))
    try simp only [Act.put, List.setIfInBounds_toArray, List.set_cons_zero, List.set_cons_succ]
    refine takeH (i := 2) (some 13) (v := ?_) rfl rfl (by kernel_rfl) (by kernel_rfl) (by kernel_rfl) (fun _ _ _ h => h) (Or.inl ⟨by rfl, ?hye2⟩) hHeld ?reste2
    case hye2 => (intro w hSw; (try dsimp only at hSw); go_simp; (try with_reducible rfl))
    try simp only [Act.put, List.setIfInBounds_toArray, List.set_cons_zero, List.set_cons_succ]
    have k4 : W2.drew.cell? ⟨w.heap.size, 0, none⟩ = some (.int .i64 (sm t k : Nat)) := u4
    have g4 : W2.drew.frozen? ⟨w.heap.size, 0, none⟩ = false := v4
    have HQD : Hid (TunQ W2.drew T X0 X1 m hi cap (clr t k)) := Lib.hid (HQ.out.2.2.1.below (below_drew (Below.refl _ _)))
    have HG0 : Hid (Goes (fun _ => False) W2 W2.drew) := Lib.hid (Goes.of_below (below_drew (Below.refl _ _)))
    clear u4 v4 u5
    generalize W2.drew = V0 at *
    have HWY := Lib.hid (HQD.out.way k hk)
    rw [hP] at HWY
    refine wpAnyH_ready (rs := [0, 3]) (by kernel_rfl) (by simp) ?_
    refine AllReadyH.cons rfl (fun K2 hK2 => ?caE) (AllReadyH.cons rfl (fun K2 hK2 => ?caF) AllReadyH.nil)
    case caE =>
      go_simp
      refine hK2.out _ _ hHeld (fun hHeld => ?_)
      clear hK2 K2
      try simp only [Act.put, List.setIfInBounds_toArray, List.set_cons_zero, List.set_cons_succ]
      refine wpAnyH_ready (rs := [3]) (by kernel_rfl) (by simp) ?_
      refine AllReadyH.cons rfl (fun K2 hK2 => ?_) AllReadyH.nil
      go_simp
      with_reducible refine (HWE.out _ HWY.out).mono ?_
      rintro e V1 ⟨rfl, hw, hg⟩
      have ng : ∀ i, w.heap.size ≤ i → ¬ Rin (pick (T + 1) m k) (pick m hi k) i := fun i h e => by have := (pick_in HQD.out.lm HQD.out.lh hk e).2; omega
      refine hK2.out _ _ (hg.cell hHeld (ng _ (by omega))) (fun hHeld => ?_)
      replace g4 := (hg.frozen k4 (ng _ (Nat.le_refl _))).trans g4
      replace k4 := hg.cell k4 (ng _ (Nat.le_refl _))
      have HW1 := Lib.hid hw
      have HG1 := Lib.hid hg
      clear hw hg ng hK2 K2
      try simp only [Act.put, List.setIfInBounds_toArray, List.set_cons_zero, List.set_cons_succ]
      refine takeH (i := 4) (some 15) (v := ?_) rfl rfl (by kernel_rfl) (by kernel_rfl) (by kernel_rfl) (fun _ _ _ h => h) (Or.inl ⟨by rfl, ?hyea4⟩) hHeld ?restea4
      case hyea4 => (intro w hSw; (try dsimp only at hSw); go_simp; (try with_reducible rfl))
      try simp only [Act.put, List.setIfInBounds_toArray, List.set_cons_zero, List.set_cons_succ]
      refine wpAnyH_ready (rs := [5]) (by kernel_rfl) (by simp) ?_
      refine AllReadyH.cons rfl (fun K2 hK2 => ?_) AllReadyH.nil
      go_simp
      have hne : w.heap.size + 1 ≠ w.heap.size := by omega
      refine hK2.out _ _ ((set_other _ _ hne).trans hHeld) (fun hHeld => ?_)
      clear hK2 K2
      try simp only [Act.put, List.setIfInBounds_toArray, List.set_cons_zero, List.set_cons_succ]
      refine wpAnyH_done (by kernel_rfl) ?_ _
      rw [hP] at HEND
      exact HEND V0 V1 HG0 HQD HW1 HG1
    case caF =>
      go_simp
      with_reducible refine (HWE.out _ HWY.out).mono ?_
      rintro e V1 ⟨rfl, hw, hg⟩
      have ng : ∀ i, w.heap.size ≤ i → ¬ Rin (pick (T + 1) m k) (pick m hi k) i := fun i h e => by have := (pick_in HQD.out.lm HQD.out.lh hk e).2; omega
      refine hK2.out _ _ (hg.cell hHeld (ng _ (by omega))) (fun hHeld => ?_)
      replace g4 := (hg.frozen k4 (ng _ (Nat.le_refl _))).trans g4
      replace k4 := hg.cell k4 (ng _ (Nat.le_refl _))
      have HW1 := Lib.hid hw
      have HG1 := Lib.hid hg
      clear hw hg ng hK2 K2
      try simp only [Act.put, List.setIfInBounds_toArray, List.set_cons_zero, List.set_cons_succ]
      refine wpAnyH_ready (rs := [0]) (by kernel_rfl) (by simp) ?_
      refine AllReadyH.cons rfl (fun K2 hK2 => ?_) AllReadyH.nil
      go_simp
      refine hK2.out _ _ hHeld (fun hHeld => ?_)
      clear hK2 K2
      try simp only [Act.put, List.setIfInBounds_toArray, List.set_cons_zero, List.set_cons_succ]
      refine takeH (i := 4) (some 15) (v := ?_) rfl rfl (by kernel_rfl) (by kernel_rfl) (by kernel_rfl) (fun _ _ _ h => h) (Or.inl ⟨by rfl, ?hyeb4⟩) hHeld ?resteb4
      case hyeb4 => (intro w hSw; (try dsimp only at hSw); go_simp; (try with_reducible rfl))
      try simp only [Act.put, List.setIfInBounds_toArray, List.set_cons_zero, List.set_cons_succ]
      refine wpAnyH_ready (rs := [5]) (by kernel_rfl) (by simp) ?_
      refine AllReadyH.cons rfl (fun K2 hK2 => ?_) AllReadyH.nil
      go_simp
      have hne : w.heap.size + 1 ≠ w.heap.size := by omega
      refine hK2.out _ _ ((set_other _ _ hne).trans hHeld) (fun hHeld => ?_)
      clear hK2 K2
      try simp only [Act.put, List.setIfInBounds_toArray, List.set_cons_zero, List.set_cons_succ]
      refine wpAnyH_done (by kernel_rfl) ?_ _
      rw [hP] at HEND
      exact HEND V0 V1 HG0 HQD HW1 HG1
  case done =>
    rintro D xs Pv W hD hPD hxs ⟨b3, b4, qq, n3, n4, pz, hz, gw⟩ hdef
    rw [hxs] at b3 qq
    have u7 := b3.cell
    have HD := Lib.hid hdef
    have HQ := Lib.hid (And.intro qq (And.intro hz gw))
    clear hdef b3 b4 qq hz gw n3 n4 pz HFI hI q
    have e : sm t 2 = stopN t := rfl
    rw [e] at u7
    gi_wp2
    refine HK.out _ _ ?_
    gi_wp2
    refine ⟨by simp, .inl ⟨_, _, rfl, run_takeDeferred HD.out, ?_⟩⟩
    obtain ⟨qq, hz, gw⟩ := HQ.out
    have hpo : Goes (fun i => i = D) W (W.putObj D (Obj.deferred none)) := Goes.putObj W _ rfl
    refine ⟨.int .i64 (stopN t : Nat), by simp [results, Tryz.results30, go_sem], rfl, ⟨X0, X1, m, qq.goes hpo (fun i h e => by have := h.2; omega)⟩, ?_⟩
    have hg2 := gw.trans (hpo.mono (fun i h => .inr (by omega)))
    exact ⟨hg2.os, hg2.tape, hg2.output, hg2.size, fun i hi hp => hg2.same i hi (fun k => k.elim hp (fun k => by omega))⟩
  case stop =>
    rintro D c xs Pv W hD hPD hSp h hdef
    exact h.elim
theorem tempty_c (T hi cap : Nat) (t : Tn) (w : World) (h : TunAt w T hi cap t) :
    Calls Tryz.prog 30 #[.pointer (some ⟨T, 0, none⟩)] w fun x w' => x = .returned (.int .i64 (stopN t : Nat)) ∧ TunAt w' T hi cap ⟨t.st, clearW t.a, clearW t.b⟩ ∧ Goes (Rin T hi) w w' :=
  callsIn_wide.1 (empty_in T hi cap t w h)
end Go.Proofs.YtkokcfhfgnkdfaaGreatDoor.L17

/- Event, Stop; newWay, New. -/
namespace Go.Proofs.YtkokcfhfgnkdfaaGreatDoor.L17
open Go.RowKit Go.Shelf
open L1 (Qs Off)
open L14 (isSt goes dest inB outB endB Laid)
attribute [local go_sem] Oper.semAt_some

theorem next_ev {s e : Int} (hs : isSt s = true) : L14.nextE s e = (if goes s e = true then 0 else 140) ∧ L14.nextN s e = (if goes s e = true then dest s e else 0) := by
  unfold L14.nextE L14.nextN
  rw [if_pos hs, if_pos hs]
  exact ⟨rfl, rfl⟩
set_option maxRecDepth 100000 in
set_option maxHeartbeats 4000000 in
theorem happen_no (T : Nat) (s e : Int) (w : World) (hs : isSt s = true) (hg : goes s e = false) (c0 : w.cell? ⟨T, 0, none⟩ = some (.int .i64 s)) (hL : Laid w) :
    Calls Tryz.prog 28 #[.pointer (some ⟨T, 0, none⟩), .int .i64 e] w fun x w' => x = .returned (.iface 128 (.agg #[.string ⟨#[101, 118, 101, 110, 116]⟩, .iface 103 (.agg #[.int .i64 140])])) ∧ Below w.heap.size w w' := by
  have HN := Lib.hid (fun W h => L14.next_c s e W h)
  obtain ⟨h1, h2⟩ := @next_ev s e hs
  rw [h1, h2, hg] at HN
  simp only [Bool.false_eq_true, if_false] at HN
  have HO := Lib.hid (fun W => of_c W 140 rfl)
  have HW := Lib.hid (fun W => within_c ⟨#[101, 118, 101, 110, 116]⟩ 140 W)
  have HL := Lib.hid hL
  clear hL hg h1 h2 hs
  go_enter Tryz.func28, Tryz.ntmps28
  go_wp2_with (first
    | (go_at_call 56; refine (HN.out _ HL.out).mono ?_; rintro e w1 ⟨rfl, hb⟩)
    | (go_at_call 53; refine (HO.out _).mono ?_; rintro e w2 ⟨rfl, rfl⟩)
    | (go_at_call 57; refine (HW.out _).mono ?_; rintro e w3 ⟨rfl, rfl⟩))
  go_ret
  exact ⟨rfl, hb⟩
set_option maxRecDepth 100000 in
set_option maxHeartbeats 4000000 in
theorem happen_ok (T : Nat) (s e : Int) (w : World) (hs : isSt s = true) (hg : goes s e = true) (c0 : w.cell? ⟨T, 0, none⟩ = some (.int .i64 s)) (f0 : w.frozen? ⟨T, 0, none⟩ = false) (hL : Laid w) :
    Calls Tryz.prog 28 #[.pointer (some ⟨T, 0, none⟩), .int .i64 e] w fun x w' => x = .returned .nilIface ∧ ∃ w1, Below w.heap.size w w1 ∧ w' = w1.setCell ⟨T, 0, none⟩ (.int .i64 (dest s e)) := by
  have HN := Lib.hid (fun W h => L14.next_c s e W h)
  obtain ⟨h1, h2⟩ := @next_ev s e hs
  rw [h1, h2, hg] at HN
  simp only [if_true] at HN
  have HL := Lib.hid hL
  have lT := blt c0
  clear hL hg h1 h2 hs
  generalize dest s e = d at *
  go_enter Tryz.func28, Tryz.ntmps28
  go_wp2_with (go_at_call 56
               refine (HN.out _ HL.out).mono ?_
               rintro e w1 ⟨rfl, hb⟩
               replace f0 := (hb.frozen (p := ⟨T, 0, none⟩) lT).trans f0
               replace c0 := (hb.cell (p := ⟨T, 0, none⟩) lT).trans c0
               have HB := Lib.hid hb
               clear hb)
  go_ret
  exact ⟨rfl, w1, HB.out, rfl⟩
theorem TunQ.setSt {w : World} {T X0 X1 m hi cap : Nat} {t : Tn} (h : TunQ w T X0 X1 m hi cap t) (s : Int) (hs : isSt s = true) : TunQ (w.setCell ⟨T, 0, none⟩ (.int .i64 s)) T X0 X1 m hi cap { t with st := s } := by
  have hg : Goes (fun i => i = T) w (w.setCell ⟨T, 0, none⟩ (.int .i64 s)) := goes_set _ _ _ _ rfl
  exact ⟨World.cell?_setCell_same' _ _ _ (by rw [h.c0]; rfl), (cell_oth _ _ _ _ _ (by decide)).trans h.c1, (cell_oth _ _ _ _ _ (by decide)).trans h.c2, (World.frozen?_setCell ..).trans h.f0, h.a.goes hg (fun i hi e => by have := hi.1; omega), h.b.goes hg (fun i hi e => by have := hi.1; have := h.lm; omega), h.lm, h.lh, Nat.le_trans h.lz hg.size, h.lg, hs, h.lc⟩
set_option maxRecDepth 100000 in
set_option maxHeartbeats 4000000 in
theorem tevent_c (T hi cap : Nat) (t : Tn) (e : Int) (w : World) (h : TunAt w T hi cap t) (hL : Laid w) :
    Calls Tryz.prog 14 #[.pointer (some ⟨T, 0, none⟩), .int .i64 e] w fun x w' => x = .returned (.int .i64 (eventE t e)) ∧ TunAt w' T hi cap (eventT t e) ∧ Goes (Rin T hi) w w' := by
  obtain ⟨X0, X1, m, q⟩ := h
  have rT : Rin T hi T := ⟨Nat.le_refl _, by have := q.lm; have := q.lh; omega⟩
  cases hg : goes t.st e with
  | false =>
    have e1 : eventE t e = 140 := by unfold eventE; rw [if_neg (by rw [hg]; decide)]
    have e2 : eventT t e = t := by unfold eventT; rw [if_neg (by rw [hg]; decide)]
    rw [e1, e2]
    have HH := Lib.hid (happen_no T t.st e w q.st hg q.c0 hL)
    have HN : Hid (∀ W, Laid W → Calls Tryz.prog 29 #[(.iface 128 (.agg #[.string ⟨#[101, 118, 101, 110, 116]⟩, .iface 103 (.agg #[.int .i64 140])]))] W fun x w' => x = .returned (.int .i64 140) ∧ Below W.heap.size W w') := Lib.hid (fun W h => no_in W _ 140 h)
    have HL := Lib.hid hL
    have HQ := Lib.hid q
    clear q hL hg
    go_enter Tryz.func14, Tryz.ntmps14
    go_wp2_with (first
      | (go_at_call 28; refine HH.out.mono ?_; rintro e w1 ⟨rfl, hb⟩; have HB := Lib.hid hb; clear hb)
      | (go_at_call 29; refine (HN.out _ (HL.out.on HB.out)).mono ?_; rintro e w2 ⟨rfl, hb2⟩))
    go_ret
    exact ⟨rfl, ⟨X0, X1, m, HQ.out.below (btr HB.out hb2)⟩, Goes.of_below (btr HB.out hb2)⟩
  | true =>
    have e1 : eventE t e = 0 := by unfold eventE; rw [if_pos hg]
    rw [e1]
    have HH := Lib.hid (happen_ok T t.st e w q.st hg q.c0 q.f0 hL)
    by_cases h6 : dest t.st e = 6
    · have e2 : eventT t e = ⟨6, clearW t.a, clearW t.b⟩ := by unfold eventT; rw [if_pos hg, if_pos h6]
      rw [e2]
      rw [h6] at HH
      have HE := Lib.hid (fun W h => tempty_c T hi cap { t with st := 6 } W h)
      have HQ := Lib.hid q
      clear q hL hg h6 e1 e2
      go_enter Tryz.func14, Tryz.ntmps14
      go_wp2_with (first
        | (go_at_call 28
           refine HH.out.mono ?_
           rintro e w2 ⟨rfl, w1, hb, rfl⟩
           have hq := (HQ.out.below hb).setSt 6 rfl
           have c0 : (w1.setCell ⟨T, 0, none⟩ (.int .i64 6)).cell? ⟨T, 0, none⟩ = some (.int .i64 6) := hq.c0
           have HG2 := Lib.hid ((Goes.of_below (Pv := Rin T hi) hb).trans (goes_set w1 T 0 (.int .i64 6) rT))
           have HB := Lib.hid hb
           have HQ2 : Hid (TunAt _ T hi cap _) := Lib.hid ⟨X0, X1, m, hq⟩
           clear hb hq
           generalize (w1.setCell ⟨T, 0, none⟩ (.int .i64 6)) = V at *)
        | (go_at_call 30; refine (HE.out _ HQ2.out).mono ?_; rintro e w3 ⟨rfl, ht, hg3⟩))
      go_ret
      exact ⟨rfl, ht, HG2.out.trans hg3⟩
    · have e2 : eventT t e = { t with st := dest t.st e } := by unfold eventT; rw [if_pos hg, if_neg h6]
      rw [e2]
      have h6b : ¬ dest t.st e = 6 := h6
      have hst := L14.dest_st hg
      have HQ := Lib.hid q
      clear q hL hg h6 e1 e2
      obtain ⟨d, hd⟩ : ∃ d, dest t.st e = d := ⟨_, rfl⟩
      rw [hd] at HH h6b hst
      rw [hd]
      clear hd
      have HST := Lib.hid hst
      clear hst
      go_enter Tryz.func14, Tryz.ntmps14
      go_wp2_with fail
      go_at_call 28
      refine HH.out.mono ?_
      rintro e w2 ⟨rfl, w1, hb, rfl⟩
      have hq := (HQ.out.below hb).setSt d HST.out
      have c0 : (w1.setCell ⟨T, 0, none⟩ (.int .i64 d)).cell? ⟨T, 0, none⟩ = some (.int .i64 d) := hq.c0
      have HG2 := Lib.hid ((Goes.of_below (Pv := Rin T hi) hb).trans (goes_set w1 T 0 (.int .i64 d) rT))
      have HQ2 : Hid (TunAt _ T hi cap _) := Lib.hid ⟨X0, X1, m, hq⟩
      clear hb hq HH HQ HST rT
      generalize (w1.setCell ⟨T, 0, none⟩ (.int .i64 d)) = V at *
      go_wp2
      go_ret
      exact ⟨rfl, HQ2.out, HG2.out⟩
end Go.Proofs.YtkokcfhfgnkdfaaGreatDoor.L17

/- Stop. -/
namespace Go.Proofs.YtkokcfhfgnkdfaaGreatDoor.L17
open Go.RowKit Go.Shelf
open L1 (Qs Off)
open L14 (isSt goes dest inB outB endB Laid)
attribute [local go_sem] Oper.semAt_some
/-- What holds at a jump. -/
def AtStop (N : Nat) (P : World → Prop) (a' : Act) (w' : World) : Prop := (∃ u0 u1 u2 u4 u5 u6 u7 u8 u9 u10 u11 u12 u13 u14 u15 u16 u17 u18 : Value, a' = { tmps := #[u0, u1, u2, .int .i64 (N : Int), u4, u5, u6, u7, u8, u9, u10, u11, u12, u13, u14, u15, u16, u17, u18], defers := [] }) ∧ P w'
set_option maxRecDepth 100000 in
set_option maxHeartbeats 4000000 in
theorem tstop_c (T hi cap : Nat) (t : Tn) (w : World) (h : TunAt w T hi cap t) :
    Calls Tryz.prog 16 #[.pointer (some ⟨T, 0, none⟩)] w fun x w' => x = .returned (.int .i64 (stopN t : Nat)) ∧ TunAt w' T hi cap (stopT t) ∧ Goes (Rin T hi) w w' := by
  have HE := Lib.hid (tempty_c T hi cap t w h)
  have HI := Lib.hid (fun W => L14.isEnd_c t.st W)
  have rT : Rin T hi T := by obtain ⟨_, _, m, q⟩ := h; exact ⟨Nat.le_refl _, by have := q.lm; have := q.lh; omega⟩
  have RT := Lib.hid rT
  clear h rT
  cases he : endB t.st with
  | true =>
    have e1 : stopT t = ⟨t.st, clearW t.a, clearW t.b⟩ := by unfold stopT; rw [if_pos he]
    rw [e1]
    rw [he] at HI
    clear he e1
    generalize stopN t = N at *
    go_enter Tryz.func16, Tryz.ntmps16
    go_wp2_with fail
    refine wp_scope_jumps 0 (AtStop N (fun w' => TunAt w' T hi cap ⟨t.st, clearW t.a, clearW t.b⟩ ∧ Goes (Rin T hi) w w')) (fun _ _ => 0) rfl ?_ ?_
    · go_wp2_with (first
        | (go_at_call 30; refine HE.out.mono ?_; rintro e w1 ⟨rfl, ht, hg⟩; have c0 : w1.cell? ⟨T, 0, none⟩ = some (.int .i64 t.st) := (by obtain ⟨_, _, _, q⟩ := ht; exact q.c0); have HT := Lib.hid ht; have HG := Lib.hid hg; clear ht hg)
        | (go_at_call 31; refine (HI.out _).mono ?_; rintro e w2 ⟨rfl, rfl⟩))
      try go_step3
      refine ⟨rfl, ⟨_, _, _, _, _, _, _, _, _, _, _, _, _, _, _, _, _, _, rfl⟩, HT.out, HG.out⟩
    · rintro a' w' ⟨⟨u0, u1, u2, u4, u5, u6, u7, u8, u9, u10, u11, u12, u13, u14, u15, u16, u17, u18, rfl⟩, ht, hg⟩
      have HT := Lib.hid ht
      have HG := Lib.hid hg
      clear ht hg
      go_wp2
      simp only [Exit.jump]
      refine bodyPost_ret (v := .int .i64 (N : Int)) (by simp [results, Tryz.results16, go_sem]) rfl ⟨rfl, HT.out, HG.out⟩
  | false =>
    have e1 : stopT t = ⟨6, clearW t.a, clearW t.b⟩ := by unfold stopT; rw [if_neg (by rw [he]; decide)]
    rw [e1]
    rw [he] at HI
    clear he e1
    generalize stopN t = N at *
    go_enter Tryz.func16, Tryz.ntmps16
    go_wp2_with fail
    go_step3
    go_wp2_with (first
        | (go_at_call 30
           refine HE.out.mono ?_
           rintro e w1 ⟨rfl, ht, hg⟩
           obtain ⟨X0, X1, m, q⟩ := ht
           have c0 : w1.cell? ⟨T, 0, none⟩ = some (.int .i64 t.st) := q.c0
           have f0 := q.f0
           have HT : Hid (TunAt (w1.setCell ⟨T, 0, none⟩ (.int .i64 6)) T hi cap ⟨6, clearW t.a, clearW t.b⟩) := Lib.hid ⟨X0, X1, m, q.setSt 6 rfl⟩
           have HG := Lib.hid (hg.trans (goes_set w1 T 0 (.int .i64 6) RT.out))
           clear q hg)
        | (go_at_call 31; refine (HI.out _).mono ?_; rintro e w2 ⟨rfl, rfl⟩))
    try go_step3
    try go_wp2
    rw [Exit.noGoto_ret]
    refine bodyPost_ret (v := .int .i64 (N : Int)) (by simp [results, Tryz.results16, go_sem]) rfl ⟨rfl, HT.out, HG.out⟩
set_option maxRecDepth 100000 in
set_option maxHeartbeats 4000000 in
theorem tstop_nil (w : World) :
    Calls Tryz.prog 16 #[.pointer none] w fun x w' => x = .returned (.int .i64 0) ∧ w = w' := by
  go_enter Tryz.func16, Tryz.ntmps16
  go_wp2_with fail
  refine wp_scope_jumps 0 (AtStop 0 (fun w' => w = w')) (fun _ _ => 0) rfl ?_ ?_
  · go_wp2
    try go_step3
    refine ⟨rfl, ⟨_, _, _, _, _, _, _, _, _, _, _, _, _, _, _, _, _, _, rfl⟩, rfl⟩
  · rintro a' w' ⟨⟨u0, u1, u2, u4, u5, u6, u7, u8, u9, u10, u11, u12, u13, u14, u15, u16, u17, u18, rfl⟩, ht⟩
    go_wp2
    simp only [Exit.jump]
    refine bodyPost_ret (v := .int .i64 0) (by simp [results, Tryz.results16, go_sem]) rfl ⟨rfl, ht⟩
theorem tevent_nil (e : Int) (w : World) : Calls Tryz.prog 14 #[.pointer none, .int .i64 e] w fun x w' => x = .returned (.int .i64 1) ∧ w = w' := by
  go_enter Tryz.func14, Tryz.ntmps14
  go_wp2
  go_ret
  exact ⟨rfl, rfl⟩
theorem tstate_nil (w : World) : Calls Tryz.prog 15 #[.pointer none] w fun x w' => x = .returned (.int .i64 0) ∧ w = w' := by
  go_enter Tryz.func15, Tryz.ntmps15
  go_wp2
  go_ret
  exact ⟨rfl, rfl⟩
end Go.Proofs.YtkokcfhfgnkdfaaGreatDoor.L17

/- newWay, New. -/
namespace Go.Proofs.YtkokcfhfgnkdfaaGreatDoor.L17
open Go.RowKit Go.Shelf
open L1 (Qs Off)
open L14 (isSt goes dest inB outB endB Laid)
attribute [local go_sem] Oper.semAt_some
set_option maxRecDepth 100000 in
set_option maxHeartbeats 4000000 in
theorem newWay_ok (n : Nat) (h1 : 1 ≤ n) (h2 : n ≤ 4096) (w : World) :
    Calls Tryz.prog 26 #[.int .i64 (n : Int)] w fun x w' => ∃ X, x = .returned (.tuple #[.pointer (some ⟨X, 0, none⟩), .int .i64 0]) ∧ WayAt w' w.heap.size w'.heap.size X n Wy.zero ∧ Below w.heap.size w w' := by
  have HN := Lib.hid (fun W => L1.new_ok n h1 h2 W)
  go_enter Tryz.func26, Tryz.ntmps26
  go_wp2_with fail
  go_at_call 55
  refine (HN.out _).mono ?_
  rintro e w1 ⟨F, K, rfl, hq1, hb1, hF, hK⟩
  have HQ1 := Lib.hid hq1
  have HB1 := Lib.hid hb1
  clear hq1 hb1
  go_wp2_with fail
  go_at_call 55
  refine (HN.out _).mono ?_
  rintro e w2 ⟨G, L, rfl, hq2, hb2, hG, hL⟩
  have HQ2 := Lib.hid hq2
  have HB2 := Lib.hid hb2
  clear hq2 hb2
  go_wp2
  go_ret2
  have hb1 := HB1.out
  have hb2 := HB2.out
  have hq1 := HQ1.out.below hb2 HQ1.out.lt.1 HQ1.out.lt.2
  have l1 := HQ1.out.lt
  have l2 := HQ2.out.lt
  have s1 := hb1.size
  have s2 := hb2.size
  have hal : ∀ v : Obj, (w2.alloc v).heap.size = w2.heap.size + 1 := fun v => World.size_alloc _ _
  refine ⟨w2.heap.size, rfl, ⟨F, K, G, L, ?_, ?_, ?_, ?_, ?_, ?_⟩, bal (btr hb1 hb2) _⟩
  · refine ⟨⟨by (go_simp; rfl), by (go_simp; rfl), by (go_simp; rfl), by go_simp, by go_simp, by (go_simp; rfl), by (go_simp; rfl), fun j hj => ?_⟩, hq1.alloc _, HQ2.out.alloc _, by omega, by omega, by omega, by omega, by omega, by omega, by omega, by omega, Wy.Ok.zero _⟩
    match j, hj with
    | 0, _ => go_simp
    | 1, _ => go_simp
    | 2, _ => go_simp
    | 3, _ => go_simp
    | 4, _ => go_simp
    | 5, _ => go_simp
    | 6, _ => go_simp
  all_goals (rw [hal]; exact ⟨by omega, by omega⟩)
theorem newWay_err (n : Int) (h : n < 1 ∨ 4096 < n) (w : World) :
    Calls Tryz.prog 26 #[.int .i64 n] w fun x w' => x = .returned (.tuple #[.pointer none, .int .i64 2]) ∧ w = w' := by
  have HN := Lib.hid (fun W => L1.new_err n h W)
  clear h
  go_enter Tryz.func26, Tryz.ntmps26
  go_wp2_with (go_at_call 55; refine (HN.out _).mono ?_; rintro e w1 ⟨rfl, rfl⟩)
  go_ret2
  exact ⟨rfl, rfl⟩
set_option maxRecDepth 100000 in
set_option maxHeartbeats 4000000 in
theorem tnew_ok (n : Nat) (h1 : 1 ≤ n) (h2 : n ≤ 4096) (w : World) (hL : Laid w) :
    Calls Tryz.prog 12 #[.int .i64 (n : Int)] w fun x w' => x = .returned (.tuple #[.pointer (some ⟨w.heap.size, 0, none⟩), .int .i64 0]) ∧ TunAt w' w.heap.size w'.heap.size n Tn.new ∧ Below w.heap.size w w' := by
  have HN := Lib.hid (fun W => newWay_ok n h1 h2 W)
  have lg := blt hL
  have H2 := Lib.hid h2
  clear hL h1 h2
  have HB0 := Lib.hid (below_alloc w (.cells #[.int .i64 0, .pointer none, .pointer none] 67))
  have c0 : (w.alloc (.cells #[.int .i64 0, .pointer none, .pointer none] 67)).cell? ⟨w.heap.size, 0, none⟩ = some (.int .i64 0) := by go_simp
  have c1 : (w.alloc (.cells #[.int .i64 0, .pointer none, .pointer none] 67)).cell? ⟨w.heap.size, 1, none⟩ = some (.pointer none) := by go_simp
  have c2 : (w.alloc (.cells #[.int .i64 0, .pointer none, .pointer none] 67)).cell? ⟨w.heap.size, 2, none⟩ = some (.pointer none) := by go_simp
  have f0 : (w.alloc (.cells #[.int .i64 0, .pointer none, .pointer none] 67)).frozen? ⟨w.heap.size, 0, none⟩ = false := by go_simp
  have f1 : (w.alloc (.cells #[.int .i64 0, .pointer none, .pointer none] 67)).frozen? ⟨w.heap.size, 1, none⟩ = false := by go_simp
  have f2 : (w.alloc (.cells #[.int .i64 0, .pointer none, .pointer none] 67)).frozen? ⟨w.heap.size, 2, none⟩ = false := by go_simp
  have hsz : (w.alloc (.cells #[.int .i64 0, .pointer none, .pointer none] 67)).heap.size = w.heap.size + 1 := World.size_alloc _ _
  go_enter Tryz.func12, Tryz.ntmps12
  go_wp2_with fail
  generalize (w.alloc (.cells #[.int .i64 0, .pointer none, .pointer none] 67)) = V at *
  obtain ⟨T, hT⟩ : ∃ T, w.heap.size = T := ⟨_, rfl⟩
  rw [hT] at c0 c1 c2 f0 f1 f2 hsz
  refine wp_loop_rounds 3 ?_
  rw [rounds_succ]
  rw [hT]
  go_wp2_with (go_at_call 26
               refine (HN.out _).mono ?_
               rintro e w1 ⟨X0, rfl, ha1, hb1⟩
               have lT := blt c0
               replace c0 := (hb1.cell lT).trans c0
               replace c1 := (hb1.cell lT).trans c1
               replace c2 := (hb1.cell lT).trans c2
               replace f0 := (hb1.frozen lT).trans f0
               replace f1 := (hb1.frozen lT).trans f1
               replace f2 := (hb1.frozen lT).trans f2
               have HA1 := Lib.hid ha1
               have HB1 := Lib.hid hb1
               have lT1 := Nat.lt_of_lt_of_le lT hb1.size
               clear ha1 hb1)
  have k0 := (cell_oth w1 T 1 0 (.pointer (some ⟨X0, 0, none⟩)) (by decide)).trans c0
  have k1 := World.cell?_setCell_same' w1 ⟨T, 1, none⟩ (.pointer (some ⟨X0, 0, none⟩)) (by rw [c1]; rfl)
  have k2 := (cell_oth w1 T 1 2 (.pointer (some ⟨X0, 0, none⟩)) (by decide)).trans c2
  have g0 := (World.frozen?_setCell w1 ⟨T, 1, none⟩ ⟨T, 0, none⟩ (.pointer (some ⟨X0, 0, none⟩))).trans f0
  have g2 := (World.frozen?_setCell w1 ⟨T, 1, none⟩ ⟨T, 2, none⟩ (.pointer (some ⟨X0, 0, none⟩))).trans f2
  have hgs : Goes (fun i => i = T) w1 (w1.setCell ⟨T, 1, none⟩ (.pointer (some ⟨X0, 0, none⟩))) := goes_set _ _ _ _ rfl
  have HA2 := Lib.hid (HA1.out.goes hgs (fun i h e => by have := h.1; omega))
  have HG := Lib.hid hgs
  have hs2 : (w1.setCell ⟨T, 1, none⟩ (.pointer (some ⟨X0, 0, none⟩))).heap.size = w1.heap.size := World.size_setCell _ _ _
  clear c0 c1 c2 f0 f1 f2 hgs HA1
  generalize (w1.setCell ⟨T, 1, none⟩ (.pointer (some ⟨X0, 0, none⟩))) = V2 at *
  rw [rounds_succ]
  go_wp2_with (go_at_call 26
               refine (HN.out _).mono ?_
               rintro e w3 ⟨X1, rfl, ha3, hb3⟩
               have lT3 := blt k0
               replace k0 := (hb3.cell lT3).trans k0
               replace k1 := (hb3.cell lT3).trans k1
               replace k2 := (hb3.cell lT3).trans k2
               replace g0 := (hb3.frozen lT3).trans g0
               replace g2 := (hb3.frozen lT3).trans g2
               have HA3 := Lib.hid ha3
               have HB3 := Lib.hid hb3
               have lT4 := Nat.lt_of_lt_of_le lT3 hb3.size
               clear ha3 hb3)
  rw [rounds_succ]
  go_wp2
  go_ret2
  have hgs : Goes (fun i => i = T) w3 (w3.setCell ⟨T, 2, none⟩ (.pointer (some ⟨X1, 0, none⟩))) := goes_set _ _ _ _ rfl
  have hs4 : (w3.setCell ⟨T, 2, none⟩ (.pointer (some ⟨X1, 0, none⟩))).heap.size = w3.heap.size := World.size_setCell _ _ _
  have z1 := HB1.out.size
  have z3 := HB3.out.size
  refine ⟨by (rw [hT]; rfl), ⟨X0, X1, w1.heap.size, ?_⟩, ?_⟩
  · rw [hT]
    refine ⟨(cell_oth w3 T 2 0 _ (by decide)).trans k0, (cell_oth w3 T 2 1 _ (by decide)).trans k1, World.cell?_setCell_same' _ _ _ (by rw [k2]; rfl), (World.frozen?_setCell ..).trans g0, ?_, ?_, by omega, by rw [hs4]; omega, Nat.le_refl _, by omega, rfl, H2.out⟩
    · have := (HA2.out.below HB3.out).goes hgs (fun i h e => by have := h.1; omega)
      rw [hsz] at this
      exact this
    · have := HA3.out.goes hgs (fun i h e => by have := h.1; omega)
      rw [hs4, ← hs2]
      exact this
  · have b2 : Below w.heap.size w V2 := HG.out.below (btr HB0.out HB1.out) (fun i h => by omega)
    exact hgs.below (btr b2 HB3.out) (fun i h => by omega)
theorem tnew_err (n : Int) (h : n < 1 ∨ 4096 < n) (w : World) :
    Calls Tryz.prog 12 #[.int .i64 n] w fun x w' => x = .returned (.tuple #[.pointer none, .int .i64 2]) ∧ Below w.heap.size w w' := by
  have HN := Lib.hid (fun W => newWay_err n h W)
  clear h
  go_enter Tryz.func12, Tryz.ntmps12
  go_wp2_with fail
  refine wp_loop_rounds 3 ?_
  rw [rounds_succ]
  go_wp2_with (go_at_call 26; refine (HN.out _).mono ?_; rintro e w1 ⟨rfl, rfl⟩)
  go_ret2
  exact ⟨rfl, below_alloc _ _⟩
end Go.Proofs.YtkokcfhfgnkdfaaGreatDoor.L17

/- Calls in memory. -/
namespace Go.Proofs.YtkokcfhfgnkdfaaGreatDoor.L17
open Go.RowKit Go.Shelf
open L1 (str)
open L14 (isSt goes dest inB outB endB Laid)
attribute [local go_sem] Oper.semAt_some
def opV (x : OpV) : Value := .agg #[.int .i64 x.kind, .int .i64 x.side, .int .i64 x.n, .string x.s]
def opC (x : OpV) : List Value := [.int .i64 x.kind, .int .i64 x.side, .int .i64 x.n, .string x.s]
def opCs (l : List OpV) : List Value := l.flatMap opC
theorem opCs_append (l m : List OpV) : opCs (l ++ m) = opCs l ++ opCs m := List.flatMap_append
theorem opCs_one (l : List OpV) (x : OpV) : opCs (l ++ [x]) = opCs l ++ [.int .i64 x.kind, .int .i64 x.side, .int .i64 x.n, .string x.s] := by rw [opCs_append]; simp [opCs, opC]
theorem opCs_length : ∀ l : List OpV, (opCs l).length = l.length * 4
  | [] => rfl
  | x :: l => by
    have := opCs_length l
    simp only [opCs, List.flatMap_cons, List.length_append, List.length_cons] at this ⊢
    rw [this]; simp [opC]; omega
theorem opCs_get : ∀ (l : List OpV) (k : Nat) (h : k < l.length), (opCs l)[k * 4]? = some (.int .i64 l[k].kind) ∧ (opCs l)[k * 4 + 1]? = some (.int .i64 l[k].side) ∧ (opCs l)[k * 4 + 2]? = some (.int .i64 l[k].n) ∧ (opCs l)[k * 4 + 3]? = some (.string l[k].s)
  | x :: l, 0, h => ⟨rfl, rfl, rfl, rfl⟩
  | x :: l, k + 1, h => by
    have := opCs_get l k (by simpa using h)
    rw [show (k + 1) * 4 = k * 4 + 1 + 1 + 1 + 1 by omega]
    simpa [opCs, opC] using this
theorem opCs_cells (l : List OpV) : ∀ u ∈ opCs l, u.oneCell' = true := by
  intro u hu
  obtain ⟨x, _, hx⟩ := List.mem_flatMap.1 hu
  simp only [opC, List.mem_cons, List.not_mem_nil, or_false] at hx
  rcases hx with rfl | rfl | rfl | rfl <;> rfl
/-- A slice in memory, below n₀, that reads as a list. -/
def OpVAt (n₀ : Nat) (W : World) (a : Option Addr) (l : List OpV) : Prop := ∀ k, (h : k < l.length) → ∃ b off, a = some ⟨b, off, none⟩ ∧ b < n₀ ∧ W.cell? ⟨b, off + k * 4, none⟩ = some (.int .i64 l[k].kind) ∧ W.cell? ⟨b, off + k * 4 + 1, none⟩ = some (.int .i64 l[k].side) ∧ W.cell? ⟨b, off + k * 4 + 2, none⟩ = some (.int .i64 l[k].n) ∧ W.cell? ⟨b, off + k * 4 + 3, none⟩ = some (.string l[k].s)
theorem OpVAt.below {n₀ : Nat} {A B : World} {a : Option Addr} {l : List OpV} (h : OpVAt n₀ A a l) (hb : Below n₀ A B) : OpVAt n₀ B a l := fun k hk => by
  obtain ⟨b, off, rfl, hlt, c0, c1, c2, c3⟩ := h k hk
  exact ⟨b, off, rfl, hlt, (hb.cell (p := ⟨b, off + k * 4, none⟩) hlt).trans c0, (hb.cell (p := ⟨b, off + k * 4 + 1, none⟩) hlt).trans c1, (hb.cell (p := ⟨b, off + k * 4 + 2, none⟩) hlt).trans c2, (hb.cell (p := ⟨b, off + k * 4 + 3, none⟩) hlt).trans c3⟩
theorem OpVAt.mono {n m : Nat} {A : World} {a : Option Addr} {l : List OpV} (h : OpVAt n A a l) (hm : n ≤ m) : OpVAt m A a l := fun k hk => by
  obtain ⟨b, off, rfl, hlt, r⟩ := h k hk
  exact ⟨b, off, rfl, by omega, r⟩
theorem OpVAt.on {A B : World} {a : Option Addr} {l : List OpV} (h : OpVAt A.heap.size A a l) (hb : Below A.heap.size A B) : OpVAt B.heap.size B a l := (h.below hb).mono hb.size
theorem OpVAt.nil (n₀ : Nat) (W : World) (a : Option Addr) : OpVAt n₀ W a [] := fun k hk => absurd hk (Nat.not_lt_zero k)
theorem op_of_row {W : World} {z : Nat} {v : Value} {l : List OpV} (h : W.ownsRow z 38 4 v l.length (opCs l)) : ∃ a c, v = .slice a l.length c ∧ OpVAt W.heap.size W a l := by
  rcases h.2 with ⟨rfl, h0⟩ | ⟨g, cap, cur, rfl, hz, hg, hn, hm, hs, ht⟩
  · have e : l = [] := List.length_eq_zero_iff.1 h0
    subst e
    exact ⟨_, _, rfl, OpVAt.nil _ _ _⟩
  · refine ⟨_, _, rfl, fun k hk => ⟨g, 0, rfl, (Array.getElem?_eq_some_iff.1 hg).1, ?_⟩⟩
    have hc := fun j u (hu : (opCs l)[j]? = some u) => h.cells (g := g) rfl j u hu
    obtain ⟨g0, g1, g2, g3⟩ := opCs_get l k hk
    have e : ∀ i, (⟨g, 0, none⟩ : Addr).add i = ⟨g, 0 + i, none⟩ := fun i => by unfold Addr.add; split <;> simp_all
    refine ⟨?_, ?_, ?_, ?_⟩
    · have := hc _ _ g0; rw [e] at this; exact this
    · have := hc _ _ g1; rw [e] at this; exact this
    · have := hc _ _ g2; rw [e] at this; exact this
    · have := hc _ _ g3; rw [e] at this; exact this
theorem infoOpV : ∃ i, Tryz.prog.info? 38 = some i ∧ i.zero = some (.agg #[.int .i64 0, .int .i64 0, .int .i64 0, .string ⟨#[]⟩]) ∧ i.size = 4 ∧ i.bytes = 40 := by
  have z : (Tryz.prog.info? 38).map (fun i => (i.zero, i.size, i.bytes)) = some (some (.agg #[.int .i64 0, .int .i64 0, .int .i64 0, .string ⟨#[]⟩]), 4, 40) := by kernel_rfl
  cases hi : Tryz.prog.info? 38 with
  | none => rw [hi] at z; cases z
  | some i =>
    rw [hi] at z
    have z := Option.some.inj z
    simp only [Prod.mk.injEq] at z
    exact ⟨i, rfl, z.1, z.2.1, z.2.2⟩
theorem op_load {W : World} {b : Nat} {x : OpV} (h0 : W.cell? ⟨b, 0, none⟩ = some (.int .i64 x.kind)) (h1 : W.cell? ⟨b, 1, none⟩ = some (.int .i64 x.side)) (h2 : W.cell? ⟨b, 2, none⟩ = some (.int .i64 x.n)) (h3 : W.cell? ⟨b, 3, none⟩ = some (.string x.s)) : (loadVar 38 ⟨b, 0, none⟩).run Tryz.prog W = .ok (.agg #[.int .i64 x.kind, .int .i64 x.side, .int .i64 x.n, .string x.s]) W := by simp [loadVar, isAgg, underlying, Tryz.underlying38, Result.andThen, loadCells, loadCellsFrom, Addr.add, h0, h1, h2, h3]
end Go.Proofs.YtkokcfhfgnkdfaaGreatDoor.L17

/- wicketgatelaw13.CreditNothing: the walk. -/
import Derived.Test.YtbdklcdecknceaaJ
import Derived.Deep.RegionHeld3
import Derived.Deep.RegionWith
import Derived.Deep.DeepCutAuto
import Derived.IntWalk
namespace Go.Proofs.Ytbdklcdecknceaa
open Go.RowKit

/-- 'Left' and 'Spend' where a block below is held. -/
theorem left2_held (g s : Int) (x0 x1 : Value) (W0 : World) (b : Nat) (W : World) (h : Below W0.heap.size W0 W) (hb : b < W0.heap.size) (h0 : W.cell? ⟨b, 0, none⟩ = some x0) (h1 : W.cell? ⟨b, 1, none⟩ = some x1) :
    Calls Try.prog 15 #[.agg #[.int .i64 g, .int .i64 s]] W fun e w' => e = .returned (.int .i64 (if rightB g s = true then g - s else 0)) ∧ w'.cell? ⟨b, 0, none⟩ = some x0 ∧ w'.cell? ⟨b, 1, none⟩ = some x1 ∧ Below W0.heap.size W0 w' ∧ Below W.heap.size W w' :=
  (left2_any g s W).mono fun _ _ ⟨he, k⟩ => ⟨he, (k.cell (p := ⟨b, 0, none⟩) (Nat.lt_of_lt_of_le hb h.size)).trans h0, (k.cell (p := ⟨b, 1, none⟩) (Nat.lt_of_lt_of_le hb h.size)).trans h1, h.trans (k.mono h.size), k⟩
theorem spend_held (g s n : Int) (x0 x1 : Value) (W0 : World) (b : Nat) (W : World) (h : Below W0.heap.size W0 W) (hb : b < W0.heap.size) (h0 : W.cell? ⟨b, 0, none⟩ = some x0) (h1 : W.cell? ⟨b, 1, none⟩ = some x1) :
    Calls Try.prog 21 #[.agg #[.int .i64 g, .int .i64 s], .int .i64 n] W fun e w' => e = .returned (.tuple #[.agg #[.int .i64 (sG g s n), .int .i64 (sS g s n)], .int .i64 (sE g s n)]) ∧ w'.cell? ⟨b, 0, none⟩ = some x0 ∧ w'.cell? ⟨b, 1, none⟩ = some x1 ∧ Below W0.heap.size W0 w' ∧ Below W.heap.size W w' :=
  (Spend_any g s n W).mono fun _ _ ⟨he, k⟩ => ⟨he, (k.cell (p := ⟨b, 0, none⟩) (Nat.lt_of_lt_of_le hb h.size)).trans h0, (k.cell (p := ⟨b, 1, none⟩) (Nat.lt_of_lt_of_le hb h.size)).trans h1, h.trans (k.mono h.size), k⟩

theorem cell_alloc' {W : World} {b o : Nat} {v : Value} (X : Obj) (h : W.cell? ⟨b, o, none⟩ = some v) : (W.alloc X).cell? ⟨b, o, none⟩ = some v :=
  (World.cell?_of_block (w := W) (Below.heap_alloc W X b (World.block_lt_of_cell? W _ h))).trans h
theorem two_keep {U W : World} {b : Nat} {x0 x1 : Value} (h0 : W.cell? ⟨b, 0, none⟩ = some x0) (h1 : W.cell? ⟨b, 1, none⟩ = some x1) (h : Below U.heap.size U W) : W.cell? ⟨b, 0, none⟩ = some x0 ∧ W.cell? ⟨b, 1, none⟩ = some x1 ∧ Below U.heap.size U W := ⟨h0, h1, h⟩
theorem two_drew {U W : World} {b : Nat} {x0 x1 : Value} (h0 : W.cell? ⟨b, 0, none⟩ = some x0) (h1 : W.cell? ⟨b, 1, none⟩ = some x1) (h : Below U.heap.size U W) : W.drew.cell? ⟨b, 0, none⟩ = some x0 ∧ W.drew.cell? ⟨b, 1, none⟩ = some x1 ∧ Below U.heap.size U W.drew := ⟨h0, h1, h.drew⟩
theorem two_alloc {U W : World} {b : Nat} {x0 x1 : Value} {X : Obj} (h0 : W.cell? ⟨b, 0, none⟩ = some x0) (h1 : W.cell? ⟨b, 1, none⟩ = some x1) (h : Below U.heap.size U W) : (W.alloc X).cell? ⟨b, 0, none⟩ = some x0 ∧ (W.alloc X).cell? ⟨b, 1, none⟩ = some x1 ∧ Below U.heap.size U (W.alloc X) := ⟨cell_alloc' X h0, cell_alloc' X h1, h.alloc h.size X⟩
theorem two_alloc_drew {U W : World} {b : Nat} {x0 x1 : Value} {X : Obj} (h0 : W.cell? ⟨b, 0, none⟩ = some x0) (h1 : W.cell? ⟨b, 1, none⟩ = some x1) (h : Below U.heap.size U W) : (W.alloc X).drew.cell? ⟨b, 0, none⟩ = some x0 ∧ (W.alloc X).drew.cell? ⟨b, 1, none⟩ = some x1 ∧ Below U.heap.size U (W.alloc X).drew := ⟨cell_alloc' X h0, cell_alloc' X h1, (h.alloc h.size X).drew⟩
theorem held_set {U W : World} {b B : Nat} {x0 x1 v v' : Value} {o o' : Nat} (h0 : W.cell? ⟨b, 0, none⟩ = some x0) (h1 : W.cell? ⟨b, 1, none⟩ = some x1) (h : Below U.heap.size U W) (hb : b < U.heap.size) (hB : U.heap.size ≤ B) :
    ((W.setCell ⟨B, o, none⟩ v).setCell ⟨B, o', none⟩ v').cell? ⟨b, 0, none⟩ = some x0 ∧ ((W.setCell ⟨B, o, none⟩ v).setCell ⟨B, o', none⟩ v').cell? ⟨b, 1, none⟩ = some x1 ∧ Below U.heap.size U ((W.setCell ⟨B, o, none⟩ v).setCell ⟨B, o', none⟩ v') := by
  have k : Below U.heap.size W ((W.setCell ⟨B, o, none⟩ v).setCell ⟨B, o', none⟩ v') := ((Below.refl _ _).setCell (p := ⟨B, o, none⟩) hB _).setCell (p := ⟨B, o', none⟩) hB _
  exact ⟨(k.cell (p := ⟨b, 0, none⟩) hb).trans h0, (k.cell (p := ⟨b, 1, none⟩) hb).trans h1, h.trans k⟩

set_option maxRecDepth 100000 in
set_option maxHeartbeats 8000000 in
theorem nothing_yes (g s : Int) (w : World) (h : rightB g s = true) :
    Calls Try.prog 8 #[.agg #[.int .i64 g, .int .i64 s]] w fun e w' => e = .returned (.bool true) ∧ Below w.heap.size w w' := by
    obtain ⟨b1, b2, b3, b4⟩ := bnd_of h
    have q3 : gE g s 0 = 0 := by unfold gE; simp [h]
    have q1 : gG g s 0 = g := by unfold gG; simp [q3]
    have q2 : gS g s 0 = s := by unfold gS; simp [q3]
    have p3 : sE g s 0 = 0 := by unfold sE; simp [h]
    have p1 : sG g s 0 = g := by unfold sG; simp [p3]
    have p2 : sS g s 0 = s := by unfold sS; simp [p3]
    have r3 : sE g s (g - s) = 0 := by
      have h2 : rightB g (s + (g - s)) = true := right_of (by omega)
      unfold sE; simp [h, h2]; omega
    have r1 : sG g s (g - s) = g := by unfold sG; simp [r3]
    have r2 : sS g s (g - s) = g := by unfold sS; simp [r3]; omega
    have t3 : sE g s (g - s + 1) = 130 := by
      have h2 : rightB g (s + (g - s + 1)) = false := by rw [← Bool.not_eq_true, right_iff]; omega
      unfold sE; simp [h, h2]; omega
    have l1 : (if rightB g s = true then g - s else 0) = g - s := by simp [h]
    have l2 : (if rightB g g = true then g - g else 0) = 0 := by split <;> omega
    have wr1 : IntKind.i64.wrap (g - s + 1) = g - s + 1 := IntWalk.i64_in _ (by omega)
    go_enter Try.func8, Try.ntmps8
    go_wp2_with fail
    refine (shown_any _).mono ?_; rintro e w1 ⟨rfl, hb1⟩; obtain ⟨hc1, hf1⟩ := bcell hb1; have hz1 := hb1.size
    try simp only [World.size_alloc] at hz1
    have hW1 : Below w.heap.size w w1 := ((Below.refl w.heap.size w).alloc (by have := (Below.refl w.heap.size w).size; (try simp only [World.size_alloc]); omega) _).trans (hb1.mono (by have := (Below.refl w.heap.size w).size; (try simp only [World.size_alloc]); omega))
    have lt_w_w1 : w.heap.size < w1.heap.size := by omega
    clear hb1
    go_wp2_with fail
    refine (Grant_any g s 0 _).mono ?_; rintro e w2 ⟨rfl, hb2⟩; obtain ⟨hc2, hf2⟩ := bcell hb2; have hz2 := hb2.size
    try simp only [World.size_alloc] at hz2
    have hW2 : Below w.heap.size w w2 := (hW1).trans (hb2.mono (by have := (hW1).size; (try simp only [World.size_alloc]); omega))
    have lt_w_w2 : w.heap.size < w2.heap.size := by omega
    clear hb2
    rw [q1]
    rw [q2]
    rw [q3]
    go_wp2_with fail
    refine (Spend_any g s 0 _).mono ?_; rintro e w3 ⟨rfl, hb3⟩; obtain ⟨hc3, hf3⟩ := bcell hb3; have hz3 := hb3.size
    try simp only [World.size_alloc] at hz3
    have hW3 : Below w.heap.size w w3 := ((hW2).alloc (by have := (hW2).size; (try simp only [World.size_alloc]); omega) _).trans (hb3.mono (by have := (hW2).size; (try simp only [World.size_alloc]); omega))
    have lt_w_w3 : w.heap.size < w3.heap.size := by omega
    have lt_w2_w3 : w2.heap.size < w3.heap.size := by omega
    clear hb3
    rw [p1]
    rw [p2]
    rw [p3]
    go_wp2_with fail
    have hU : Below w.heap.size w (w3.alloc (.cells #[.int .i64 g, .int .i64 s] 23)) := hW3.alloc hW3.size _
    have c0 : (w3.alloc (.cells #[.int .i64 g, .int .i64 s] 23)).cell? ⟨w.heap.size, 0, none⟩ = some (.int .i64 g) := by go_simp
    have c1 : (w3.alloc (.cells #[.int .i64 g, .int .i64 s] 23)).cell? ⟨w.heap.size, 1, none⟩ = some (.int .i64 s) := by go_simp
    have c2 : (w3.alloc (.cells #[.int .i64 g, .int .i64 s] 23)).cell? ⟨w2.heap.size, 0, none⟩ = some (.int .i64 g) := by go_simp
    have c3 : (w3.alloc (.cells #[.int .i64 g, .int .i64 s] 23)).cell? ⟨w2.heap.size, 1, none⟩ = some (.int .i64 s) := by go_simp
    have c4 : (w3.alloc (.cells #[.int .i64 g, .int .i64 s] 23)).cell? ⟨w3.heap.size, 0, none⟩ = some (.int .i64 g) := by go_simp
    have c5 : (w3.alloc (.cells #[.int .i64 g, .int .i64 s] 23)).cell? ⟨w3.heap.size, 1, none⟩ = some (.int .i64 s) := by go_simp
    have u0 : w.heap.size < (w3.alloc (.cells #[.int .i64 g, .int .i64 s] 23)).heap.size := by simp only [World.size_alloc]; omega
    have u2 : w2.heap.size < (w3.alloc (.cells #[.int .i64 g, .int .i64 s] 23)).heap.size := by simp only [World.size_alloc]; omega
    have u3 : w3.heap.size < (w3.alloc (.cells #[.int .i64 g, .int .i64 s] 23)).heap.size := by simp only [World.size_alloc]; omega
    generalize w3.alloc (.cells #[.int .i64 g, .int .i64 s] 23) = U at *
    generalize w3.heap.size = B3 at *
    generalize w2.heap.size = B2 at *
    clear hc1 hf1 hc2 hf2 hc3 hf3 hz1 hz2 hz3 hW1 hW2 hW3 lt_w_w1 lt_w_w2 lt_w_w3 lt_w2_w3
    have hS : Below U.heap.size U U := Below.refl _ _
    go_cut [8, 9] (fun d e wx => ∃ B : Nat, d = .pointer (some ⟨B, 0, none⟩) ∧ e = .int .i64 0 ∧ U.heap.size ≤ B ∧ B < wx.heap.size ∧ wx.cell? ⟨B, 0, none⟩ = some (.int .i64 g) ∧ wx.cell? ⟨B, 1, none⟩ = some (.int .i64 g) ∧ Below U.heap.size U wx)
    case first =>
      go_region_held3 (fun w' => w'.cell? ⟨w.heap.size, 0, none⟩ = some (.int .i64 g) ∧ w'.cell? ⟨w.heap.size, 1, none⟩ = some (.int .i64 s) ∧ Below U.heap.size U w')
        (first | assumption | (go_split_ands; (try dsimp only); first | exact two_keep (by assumption) (by assumption) (by assumption) | exact two_drew (by assumption) (by assumption) (by assumption) | exact two_alloc (by assumption) (by assumption) (by assumption) | exact two_alloc_drew (by assumption) (by assumption) (by assumption) | exact held_set (by assumption) (by assumption) (by assumption) u0 (Below.size (B := U.heap.size) (by assumption)) | exact held_set (by assumption) (by assumption) (by assumption) u0 (Nat.le_refl _)))
        ((first
          | (go_at_call 15; go_split_ands; refine (left2_held _ _ _ _ U w.heap.size _ (by assumption) u0 (by assumption) (by assumption)).mono ?_; rintro e wL ⟨rfl, hk0, hk1, hkB, hkF⟩; obtain ⟨hcL, hfL⟩ := bcell hkF; have hzL := hkF.size; (try simp at hzL); (try have hltUL : U.heap.size < wL.heap.size := by omega); have hltwL : w.heap.size < wL.heap.size := Nat.lt_of_lt_of_le u0 hkB.size; clear hkF; rw [l1])
          | (go_at_call 21; go_split_ands; refine (spend_held g s (g - s) _ _ U w.heap.size _ (by assumption) u0 (by assumption) (by assumption)).mono ?_; rintro e w4 ⟨rfl, hl0, hl1, hlB, hlF⟩; obtain ⟨hc4, hf4⟩ := bcell hlF; have hz4 := hlF.size; (try simp at hz4); (try have hltL4 : wL.heap.size < w4.heap.size := by omega); (try have hltU4 : U.heap.size < w4.heap.size := by omega); have hltw4 : w.heap.size < w4.heap.size := Nat.lt_of_lt_of_le u0 hlB.size; clear hlF; rw [r1, r2, r3])))
      all_goals
        go_split_ands
        go_wp2_with fail
        go_meet
        refine ⟨_, rfl, rfl, ?_, ?_, ?_, ?_, ?_⟩
        · first | exact Below.size (B := U.heap.size) (by assumption) | exact Nat.le_refl _ | (have := hkB.size; omega)
        · first | (simp; done) | (simp; omega) | omega
        · go_simp
        · go_simp
        · first | assumption | exact Below.alloc (by assumption) (Below.size (B := U.heap.size) (by assumption)) _ | (refine Below.setCell (Below.setCell (by assumption) ?_ _) ?_ _ <;> first | exact Below.size (B := U.heap.size) (by assumption) | exact Nat.le_refl _ | (have := hkB.size; omega))
    case rest =>
      obtain ⟨B, rfl, rfl, hB1, hB2, e0, e1, hB⟩ := hcut
      have f0 := (hB.cell (p := ⟨w.heap.size, 0, none⟩) u0).trans c0
      have f1 := (hB.cell (p := ⟨w.heap.size, 1, none⟩) u0).trans c1
      have f2 := (hB.cell (p := ⟨B2, 0, none⟩) u2).trans c2
      have f3 := (hB.cell (p := ⟨B2, 1, none⟩) u2).trans c3
      have f4 := (hB.cell (p := ⟨B3, 0, none⟩) u3).trans c4
      have f5 := (hB.cell (p := ⟨B3, 1, none⟩) u3).trans c5
      have hV := hU.trans (hB.mono hU.size)
      have v0 := Nat.lt_of_lt_of_le u0 hB.size
      have v2 := Nat.lt_of_lt_of_le u2 hB.size
      have v3 := Nat.lt_of_lt_of_le u3 hB.size
      clear c0 c1 c2 c3 c4 c5 hB hS hU hB1
      clear u0 u2 u3
      generalize wc = V at *
      have hS : Below V.heap.size V V := Below.refl _ _
      go_wp2_with fail
      go_cut [11] (fun e wx => e = .int .i64 130 ∧ Below V.heap.size V wx)
      case first =>
        go_region_held3 (fun w' => w'.cell? ⟨w.heap.size, 0, none⟩ = some (.int .i64 g) ∧ w'.cell? ⟨w.heap.size, 1, none⟩ = some (.int .i64 s) ∧ Below V.heap.size V w')
          (first | assumption | (go_split_ands; (try dsimp only); first | exact two_keep (by assumption) (by assumption) (by assumption) | exact two_drew (by assumption) (by assumption) (by assumption) | exact two_alloc (by assumption) (by assumption) (by assumption) | exact two_alloc_drew (by assumption) (by assumption) (by assumption) | exact held_set (by assumption) (by assumption) (by assumption) v0 (Below.size (B := V.heap.size) (by assumption)) | exact held_set (by assumption) (by assumption) (by assumption) v0 (Nat.le_refl _)))
          ((first
            | (go_at_call 15; go_split_ands; refine (left2_held _ _ _ _ V w.heap.size _ (by assumption) v0 (by assumption) (by assumption)).mono ?_; rintro e wL ⟨rfl, hk0, hk1, hkB, hkF⟩; obtain ⟨hcL, hfL⟩ := bcell hkF; have hzL := hkF.size; (try simp at hzL); (try have hltUL : V.heap.size < wL.heap.size := by omega); have hltwL : w.heap.size < wL.heap.size := Nat.lt_of_lt_of_le v0 hkB.size; clear hkF; rw [l1])
            | (go_at_call 21; go_split_ands; refine (spend_held g s (g - s + 1) _ _ V w.heap.size _ (by assumption) v0 (by assumption) (by assumption)).mono ?_; rintro e w4 ⟨rfl, hl0, hl1, hlB, hlF⟩; obtain ⟨hc4, hf4⟩ := bcell hlF; have hz4 := hlF.size; (try simp at hz4); (try have hltL4 : wL.heap.size < w4.heap.size := by omega); (try have hltU4 : V.heap.size < w4.heap.size := by omega); have hltw4 : w.heap.size < w4.heap.size := Nat.lt_of_lt_of_le v0 hlB.size; clear hlF; rw [t3])))
        all_goals
          go_split_ands
          go_wp2_with fail
          go_meet
          refine ⟨rfl, ?_⟩
          first | assumption | exact Below.alloc (by assumption) (Below.size (B := V.heap.size) (by assumption)) _ | (refine Below.setCell (Below.setCell (by assumption) ?_ _) ?_ _ <;> first | exact Below.size (B := V.heap.size) (by assumption) | exact Nat.le_refl _ | (have := hkB.size; omega))
      case rest =>
        obtain ⟨rfl, hB⟩ := hcut
        have g0 := (hB.cell (p := ⟨w.heap.size, 0, none⟩) v0).trans f0
        have g1 := (hB.cell (p := ⟨w.heap.size, 1, none⟩) v0).trans f1
        have g2 := (hB.cell (p := ⟨B2, 0, none⟩) v2).trans f2
        have g3 := (hB.cell (p := ⟨B2, 1, none⟩) v2).trans f3
        have g4 := (hB.cell (p := ⟨B3, 0, none⟩) v3).trans f4
        have g5 := (hB.cell (p := ⟨B3, 1, none⟩) v3).trans f5
        have g6 := (hB.cell (p := ⟨B, 0, none⟩) hB2).trans e0
        have g7 := (hB.cell (p := ⟨B, 1, none⟩) hB2).trans e1
        have hX := hV.trans (hB.mono hV.size)
        clear f0 f1 f2 f3 f4 f5 e0 e1 hB hS
        have hxw : w.heap.size ≤ wc.heap.size := hX.size
        go_wp2_with fail
        refine (right_any _ _ _).mono ?_; rintro e w6 ⟨rfl, hb6⟩; obtain ⟨hc6, hf6⟩ := bcell hb6
        have hY := hX.trans (hb6.mono hX.size)
        have y0 := World.block_lt_of_cell? wc _ g0
        have y2 := World.block_lt_of_cell? wc _ g2
        have y3 := World.block_lt_of_cell? wc _ g4
        have y4 := World.block_lt_of_cell? wc _ g6
        dsimp only at y0 y2 y3 y4
        clear hb6
        go_wp2_with fail
        refine (left2_any g g _).mono ?_; rintro e w7 ⟨rfl, hb7⟩
        rw [l2]
        go_wp2
        go_ret
        exact ⟨rfl, hY.trans (hb7.mono hY.size)⟩

end Go.Proofs.Ytbdklcdecknceaa

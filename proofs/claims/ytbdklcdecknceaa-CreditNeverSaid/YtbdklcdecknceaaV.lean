/- wicketgatelaw13.CreditNever: the walk. -/
import Derived.Test.YtbdklcdecknceaaN
import Derived.Deep.RegionHeld3
import Derived.IntWalk
import Derived.Deep.Cut
import Derived.Deep.CutRange
namespace Go.Proofs.Ytbdklcdecknceaa
open Go.RowKit

theorem keep_alloc {W : World} {b o : Nat} {v : Value} (X : Obj) (h : W.cell? ⟨b, o, none⟩ = some v) : (W.alloc X).cell? ⟨b, o, none⟩ = some v :=
  (World.cell?_of_block (w := W) (Below.heap_alloc W X b (World.block_lt_of_cell? W _ h))).trans h
/-- What a region of the loop holds: the credit's two cells, and the number. -/
theorem tri_keep {U W : World} {b c o : Nat} {x0 x1 y : Value} (h0 : W.cell? ⟨b, 0, none⟩ = some x0) (h1 : W.cell? ⟨b, 1, none⟩ = some x1) (h2 : W.cell? ⟨c, o, none⟩ = some y) (h : Below U.heap.size U W) : W.cell? ⟨b, 0, none⟩ = some x0 ∧ W.cell? ⟨b, 1, none⟩ = some x1 ∧ W.cell? ⟨c, o, none⟩ = some y ∧ Below U.heap.size U W := ⟨h0, h1, h2, h⟩
theorem tri_drew {U W : World} {b c o : Nat} {x0 x1 y : Value} (h0 : W.cell? ⟨b, 0, none⟩ = some x0) (h1 : W.cell? ⟨b, 1, none⟩ = some x1) (h2 : W.cell? ⟨c, o, none⟩ = some y) (h : Below U.heap.size U W) : W.drew.cell? ⟨b, 0, none⟩ = some x0 ∧ W.drew.cell? ⟨b, 1, none⟩ = some x1 ∧ W.drew.cell? ⟨c, o, none⟩ = some y ∧ Below U.heap.size U W.drew := ⟨h0, h1, h2, h.drew⟩
theorem tri_alloc {U W : World} {b c o : Nat} {x0 x1 y : Value} {X : Obj} (h0 : W.cell? ⟨b, 0, none⟩ = some x0) (h1 : W.cell? ⟨b, 1, none⟩ = some x1) (h2 : W.cell? ⟨c, o, none⟩ = some y) (h : Below U.heap.size U W) : (W.alloc X).cell? ⟨b, 0, none⟩ = some x0 ∧ (W.alloc X).cell? ⟨b, 1, none⟩ = some x1 ∧ (W.alloc X).cell? ⟨c, o, none⟩ = some y ∧ Below U.heap.size U (W.alloc X) := ⟨keep_alloc X h0, keep_alloc X h1, keep_alloc X h2, h.alloc h.size X⟩
theorem tri_alloc_drew {U W : World} {b c o : Nat} {x0 x1 y : Value} {X : Obj} (h0 : W.cell? ⟨b, 0, none⟩ = some x0) (h1 : W.cell? ⟨b, 1, none⟩ = some x1) (h2 : W.cell? ⟨c, o, none⟩ = some y) (h : Below U.heap.size U W) : (W.alloc X).drew.cell? ⟨b, 0, none⟩ = some x0 ∧ (W.alloc X).drew.cell? ⟨b, 1, none⟩ = some x1 ∧ (W.alloc X).drew.cell? ⟨c, o, none⟩ = some y ∧ Below U.heap.size U (W.alloc X).drew := ⟨keep_alloc X h0, keep_alloc X h1, keep_alloc X h2, (h.alloc h.size X).drew⟩
theorem tri_set {U W : World} {b c o : Nat} {x0 x1 y v v' : Value} {B o1 o2 : Nat} (h0 : W.cell? ⟨b, 0, none⟩ = some x0) (h1 : W.cell? ⟨b, 1, none⟩ = some x1) (h2 : W.cell? ⟨c, o, none⟩ = some y) (h : Below U.heap.size U W) (hb : b < U.heap.size) (hc : c < U.heap.size) (hB : U.heap.size ≤ B) :
    ((W.setCell ⟨B, o1, none⟩ v).setCell ⟨B, o2, none⟩ v').cell? ⟨b, 0, none⟩ = some x0 ∧ ((W.setCell ⟨B, o1, none⟩ v).setCell ⟨B, o2, none⟩ v').cell? ⟨b, 1, none⟩ = some x1 ∧ ((W.setCell ⟨B, o1, none⟩ v).setCell ⟨B, o2, none⟩ v').cell? ⟨c, o, none⟩ = some y ∧ Below U.heap.size U ((W.setCell ⟨B, o1, none⟩ v).setCell ⟨B, o2, none⟩ v') := by
  have k : Below U.heap.size W ((W.setCell ⟨B, o1, none⟩ v).setCell ⟨B, o2, none⟩ v') := ((Below.refl _ _).setCell (p := ⟨B, o1, none⟩) hB _).setCell (p := ⟨B, o2, none⟩) hB _
  exact ⟨(k.cell (p := ⟨b, 0, none⟩) hb).trans h0, (k.cell (p := ⟨b, 1, none⟩) hb).trans h1, (k.cell (p := ⟨c, o, none⟩) hc).trans h2, h.trans k⟩
theorem tri_call {f : Nat} {args : Array Value} {r : Ending} {U W : World} {b c o : Nat} {x0 x1 y : Value} (k : Calls Try.prog f args W fun e w' => e = r ∧ Below W.heap.size W w') (hb : b < U.heap.size) (hc : c < U.heap.size)
    (h0 : W.cell? ⟨b, 0, none⟩ = some x0) (h1 : W.cell? ⟨b, 1, none⟩ = some x1) (h2 : W.cell? ⟨c, o, none⟩ = some y) (h : Below U.heap.size U W) :
    Calls Try.prog f args W fun e w' => e = r ∧ w'.cell? ⟨b, 0, none⟩ = some x0 ∧ w'.cell? ⟨b, 1, none⟩ = some x1 ∧ w'.cell? ⟨c, o, none⟩ = some y ∧ Below U.heap.size U w' ∧ Below W.heap.size W w' := by
  refine k.mono fun e w' ⟨he, hk'⟩ => ?_
  have hk := hk'.mono h.size
  exact ⟨he, (hk.cell (p := ⟨b, 0, none⟩) hb).trans h0, (hk.cell (p := ⟨b, 1, none⟩) hb).trans h1, (hk.cell (p := ⟨c, o, none⟩) hc).trans h2, h.trans hk, hk'⟩

theorem grant_right {g s n : Int} (h : rightB g s = true) (h0 : 0 ≤ n) (hE : gE g s n = 0) : rightB (g + n) s = true := by
  unfold gE at hE
  rw [if_neg (by rw [h]; simp; omega)] at hE
  cases hh : rightB (g + n) s
  · rw [if_pos (.inr hh)] at hE; omega
  · rfl
theorem spend_right {g s n : Int} (h : rightB g s = true) (h0 : 0 ≤ n) (hE : sE g s n = 0) : rightB g (s + n) = true := by
  unfold sE at hE
  rw [if_neg (by rw [h]; simp; omega)] at hE
  cases hh : rightB g (s + n)
  · rw [if_pos (.inr hh)] at hE; omega
  · rfl

set_option maxRecDepth 100000 in
set_option maxHeartbeats 2000000 in
theorem never_new (n : Int) (a : Option Addr) (len cap : Nat) (w : World) (hlc : len ≤ cap) (hcm : cap ≤ maxLen) (h : rightB n 0 = false) :
    Calls Try.prog 6 #[.int .i64 n, .slice a len cap] w fun e w' => e = .returned (.bool true) ∧ Below w.heap.size w w' := by
  have m1 : nE n = 2 := by unfold nE; simp [h]
  have m2 : nG n = 0 := by unfold nG; simp [h]
  go_enter Try.func6, Try.ntmps6
  go_wp2_with fail
  refine (shown_any _).mono ?_; rintro e w1 ⟨rfl, hb1⟩; obtain ⟨hc1, hf1⟩ := bcell hb1; have hz1 := hb1.size
  try simp only [World.size_alloc] at hz1
  have hW1 : Below w.heap.size w w1 := (Below.refl w.heap.size w).trans (hb1.mono (by have := (Below.refl w.heap.size w).size; (try simp only [World.size_alloc]); omega))
  clear hb1
  go_wp2_with fail
  refine (few_any _ _ _ _ hlc hcm).mono ?_; rintro e wf ⟨rfl, rfl⟩
  go_wp2_with fail
  refine (New_any n _).mono ?_; rintro e w2 ⟨rfl, hb2⟩; obtain ⟨hc2, hf2⟩ := bcell hb2; have hz2 := hb2.size
  try simp only [World.size_alloc] at hz2
  have hW2 : Below w.heap.size w w2 := (hW1).trans (hb2.mono (by have := (hW1).size; (try simp only [World.size_alloc]); omega))
  clear hb2
  rw [m1]
  rw [m2]
  go_wp2_with fail
  refine (right_any _ _ _).mono ?_; rintro e w3 ⟨rfl, hb3⟩
  go_wp2
  go_ret
  exact ⟨rfl, (hW2.alloc hW2.size _).trans (hb3.mono (by simp only [World.size_alloc]; have := hW2.size; omega))⟩

set_option maxRecDepth 100000 in
set_option maxHeartbeats 8000000 in
theorem never_loop (n : Int) (b off len cap : Nat) (ys : List Int) (w : World) (hlc : len ≤ cap) (hcm : cap ≤ maxLen) (hyl : ys.length = min len 20) (hbw : b < w.heap.size)
    (hc : ∀ j, j < ys.length → w.cell? ⟨b, off + j, none⟩ = some (.int .i64 (ys[j]?.getD 0))) (hr : ∀ x ∈ ys, -9223372036854775808 ≤ x ∧ x ≤ 9223372036854775807) (h : rightB n 0 = true) :
    Calls Try.prog 6 #[.int .i64 n, .slice (some ⟨b, off, none⟩) len cap] w fun e w' => e = .returned (.bool true) ∧ Below w.heap.size w w' := by
  have m1 : nE n = 0 := by unfold nE; simp [h]
  have m2 : nG n = n := by unfold nG; simp [h]
  have Hr := Lib.hid hr
  have Hc := Lib.hid hc
  clear hr hc
  go_enter Try.func6, Try.ntmps6
  go_wp2_with fail
  refine (shown_any _).mono ?_; rintro e w1 ⟨rfl, hb1⟩; obtain ⟨hc1, hf1⟩ := bcell hb1; have hz1 := hb1.size
  try simp only [World.size_alloc] at hz1
  have hW1 : Below w.heap.size w w1 := (Below.refl w.heap.size w).trans (hb1.mono (by have := (Below.refl w.heap.size w).size; (try simp only [World.size_alloc]); omega))
  clear hb1
  go_wp2_with fail
  refine (few_any _ _ _ _ hlc hcm).mono ?_; rintro e wf ⟨rfl, rfl⟩
  go_wp2_with fail
  refine (New_any n _).mono ?_; rintro e w2 ⟨rfl, hb2⟩; obtain ⟨hc2, hf2⟩ := bcell hb2; have hz2 := hb2.size
  try simp only [World.size_alloc] at hz2
  have hW2 : Below w.heap.size w w2 := (hW1).trans (hb2.mono (by have := (hW1).size; (try simp only [World.size_alloc]); omega))
  clear hb2
  rw [m1]
  rw [m2]
  rw [← hyl]
  clear m1 m2 hlc hcm
  go_wp2_with fail
  have uC0 : w2.heap.size < (w2.alloc (.cells #[.int .i64 n, .int .i64 0] 23)).heap.size := by simp
  have hU0 : Below w.heap.size w (w2.alloc (.cells #[.int .i64 n, .int .i64 0] 23)) := hW2.alloc hW2.size _
  have k0 : (w2.alloc (.cells #[.int .i64 n, .int .i64 0] 23)).cell? ⟨w2.heap.size, 0, none⟩ = some (.int .i64 n) := by go_simp
  have k1 : (w2.alloc (.cells #[.int .i64 n, .int .i64 0] 23)).cell? ⟨w2.heap.size, 1, none⟩ = some (.int .i64 0) := by go_simp
  have k2 : (w2.alloc (.cells #[.int .i64 n, .int .i64 0] 23)).frozen? ⟨w2.heap.size, 0, none⟩ = false := by go_simp
  have k3 : (w2.alloc (.cells #[.int .i64 n, .int .i64 0] 23)).frozen? ⟨w2.heap.size, 1, none⟩ = false := by go_simp
  have hCw : w.heap.size ≤ w2.heap.size := hW2.size
  generalize w2.alloc (.cells #[.int .i64 n, .int .i64 0] 23) = U0 at *
  generalize w2.heap.size = C at *
  clear hc1 hf1 hc2 hf2 hz1 hz2 hW1 hW2
  go_loopw [8, 9, 10] (fun gr sp i wr => ∃ (k : Nat) (G S : Int), k ≤ ys.length ∧ i = .int .i64 k ∧ gr = .int .i64 G ∧ sp = .int .i64 S ∧ rightB G S = true ∧
      wr.cell? ⟨C, 0, none⟩ = some (.int .i64 G) ∧ wr.cell? ⟨C, 1, none⟩ = some (.int .i64 S) ∧ wr.frozen? ⟨C, 0, none⟩ = false ∧ wr.frozen? ⟨C, 1, none⟩ = false ∧ Below w.heap.size w wr)
    (fun _ _ i _ => ys.length - (intOf i).toNat)
  case atStart => exact ⟨0, n, 0, Nat.zero_le _, rfl, rfl, rfl, h, k0, k1, k2, k3, hU0⟩
  case round =>
    clear k0 k1 k2 k3 hU0 uC0
    obtain ⟨k, G, S, hk, rfl, rfl, rfl, hR, c0, c1, f0, f1, hB⟩ := hrel
    obtain ⟨b1, b2, b3, b4⟩ := bnd_of hR
    by_cases hlt : k < ys.length
    · obtain ⟨x, hxe⟩ : ∃ x, x = ys[k]?.getD 0 := ⟨_, rfl⟩
      have hck : wr.cell? ⟨b, off + k, none⟩ = some (.int .i64 x) := (hB.cell (p := ⟨b, off + k, none⟩) hbw).trans (by rw [hxe]; exact Hc.out k hlt)
      obtain ⟨x1, x2⟩ := Hr.out x (by rw [hxe, List.getElem?_eq_getElem hlt]; simp)
      clear hxe
      have uC : C < wr.heap.size := World.block_lt_of_cell? wr _ c0
      have ub : b < wr.heap.size := Nat.lt_of_lt_of_le hbw hB.size
      obtain ⟨U, hU⟩ : ∃ U, U = wr := ⟨_, rfl⟩
      subst hU
      have hS : Below U.heap.size U U := Below.refl _ _
      have hBU : U.heap.size ≤ U.heap.size := Nat.le_refl _
      go_upto_region 11 with fail
      go_cut [11, 12] from 31 to 110 (fun d e wx => ∃ B : Nat, d = .pointer (some ⟨B, 0, none⟩) ∧ e = .int .i64 (sE G S x) ∧ U.heap.size ≤ B ∧ B < wx.heap.size ∧ wx.cell? ⟨B, 0, none⟩ = some (.int .i64 (sG G S x)) ∧ wx.cell? ⟨B, 1, none⟩ = some (.int .i64 (sS G S x)) ∧
        wx.frozen? ⟨B, 0, none⟩ = false ∧ wx.frozen? ⟨B, 1, none⟩ = false ∧ Below U.heap.size U wx)
      case first =>
        go_region_held3 (fun w' => w'.cell? ⟨C, 0, none⟩ = some (.int .i64 G) ∧ w'.cell? ⟨C, 1, none⟩ = some (.int .i64 S) ∧ w'.cell? ⟨b, off + k, none⟩ = some (.int .i64 x) ∧ Below U.heap.size U w')
          (first | assumption | (go_split_ands; (try dsimp only); first | exact tri_keep (by assumption) (by assumption) (by assumption) (by assumption) | exact tri_drew (by assumption) (by assumption) (by assumption) (by assumption) | exact tri_alloc (by assumption) (by assumption) (by assumption) (by assumption) | exact tri_alloc_drew (by assumption) (by assumption) (by assumption) (by assumption) | exact tri_set (by assumption) (by assumption) (by assumption) (by assumption) uC ub (Below.size (B := U.heap.size) (by assumption)) | exact tri_set (by assumption) (by assumption) (by assumption) (by assumption) uC ub hBU | exact tri_set (by assumption) (by assumption) (by assumption) (by assumption) uC ub (Nat.le_refl _)))
          ((first
            | (go_at_call 21; go_split_ands; refine (tri_call (Spend_any G S x _) uC ub (by assumption) (by assumption) (by assumption) (by assumption)).mono ?_; rintro e wS ⟨rfl, hk0, hk1, hk2, hkB, hkF⟩; obtain ⟨hcS, hfS⟩ := bcell hkF; have hzS := hkF.size; (try simp at hzS); (try have hltUS : U.heap.size < wS.heap.size := by omega); clear hkF)))
        all_goals
          go_split_ands
          go_wp2_with fail
          go_meet
          refine ⟨_, rfl, rfl, ?_, ?_, ?_, ?_, ?_, ?_, ?_⟩
          · first | exact Below.size (B := U.heap.size) (by assumption) | exact Nat.le_refl _
          · first | (simp; done) | (simp; omega) | omega
          · go_simp
          · go_simp
          · go_simp
          · go_simp
          · first | assumption | exact Below.alloc (by assumption) (Below.size (B := U.heap.size) (by assumption)) _ | (refine Below.setCell (Below.setCell (by assumption) ?_ _) ?_ _ <;> first | exact Below.size (B := U.heap.size) (by assumption) | exact Nat.le_refl _)
      case rest =>
        clear hBU
        obtain ⟨B, rfl, rfl, hBU, hBV, e0, e1, ef0, ef1, hV⟩ := hcut
        have v0 := (hV.cell (p := ⟨C, 0, none⟩) uC).trans c0
        have v1 := (hV.cell (p := ⟨C, 1, none⟩) uC).trans c1
        have v2 := (hV.cell (p := ⟨b, off + k, none⟩) ub).trans hck
        have vf0 := (hV.frozen (p := ⟨C, 0, none⟩) uC).trans f0
        have vf1 := (hV.frozen (p := ⟨C, 1, none⟩) uC).trans f1
        by_cases h0 : x < 0
        · have d0 : decide (x < 0) = true := decide_eq_true h0
          have wr1 : IntKind.i64.wrap (x + 1) = x + 1 := IntWalk.i64_in _ (by omega)
          have wr2 : IntKind.i64.wrap (-(x + 1)) = -(x + 1) := IntWalk.i64_in _ (by omega)
          go_upto_region 13 with fail
          go_cut [12] from 31 to 110 (fun e wx => e = .int .i64 (gE G S (-(x + 1))) ∧ B < wx.heap.size ∧ wx.cell? ⟨B, 0, none⟩ = some (.int .i64 (gG G S (-(x + 1)))) ∧ wx.cell? ⟨B, 1, none⟩ = some (.int .i64 (gS G S (-(x + 1)))) ∧
            wx.frozen? ⟨B, 0, none⟩ = false ∧ wx.frozen? ⟨B, 1, none⟩ = false ∧ Below U.heap.size U wx)
          case first =>
            go_region_held3 (fun w' => w'.cell? ⟨C, 0, none⟩ = some (.int .i64 G) ∧ w'.cell? ⟨C, 1, none⟩ = some (.int .i64 S) ∧ w'.cell? ⟨b, off + k, none⟩ = some (.int .i64 x) ∧ Below U.heap.size U w')
              (first | assumption | (go_split_ands; (try dsimp only); first | exact tri_keep (by assumption) (by assumption) (by assumption) (by assumption) | exact tri_drew (by assumption) (by assumption) (by assumption) (by assumption) | exact tri_alloc (by assumption) (by assumption) (by assumption) (by assumption) | exact tri_alloc_drew (by assumption) (by assumption) (by assumption) (by assumption) | exact tri_set (by assumption) (by assumption) (by assumption) (by assumption) uC ub (Below.size (B := U.heap.size) (by assumption)) | exact tri_set (by assumption) (by assumption) (by assumption) (by assumption) uC ub hBU | exact tri_set (by assumption) (by assumption) (by assumption) (by assumption) uC ub (Nat.le_refl _)))
              ((first
                | (go_at_call 19; go_split_ands; refine (tri_call (Grant_any G S (-(x + 1)) _) uC ub (by assumption) (by assumption) (by assumption) (by assumption)).mono ?_; rintro e wG ⟨rfl, hl0, hl1, hl2, hlB, hlF⟩; obtain ⟨hcG, hfG⟩ := bcell hlF; have hzG' : wc.heap.size ≤ wG.heap.size := hlF.size; have hltBG : B < wG.heap.size := Nat.lt_of_lt_of_le hBV hzG'; have gB0 := (hlF.cell (p := ⟨B, 0, none⟩) hBV).trans e0; have gB1 := (hlF.cell (p := ⟨B, 1, none⟩) hBV).trans e1; have gf0 := (hlF.frozen (p := ⟨B, 0, none⟩) hBV).trans ef0; have gf1 := (hlF.frozen (p := ⟨B, 1, none⟩) hBV).trans ef1; clear hlF)))
            all_goals
              go_split_ands
              go_wp2_with fail
              go_meet
              refine ⟨rfl, ?_, ?_, ?_, ?_, ?_, ?_⟩
              · first | (simp; done) | (simp; omega) | omega
              · go_simp
              · go_simp
              · go_simp
              · go_simp
              · first | assumption | (refine Below.setCell (Below.setCell (by assumption) ?_ _) ?_ _ <;> exact hBU)
          case rest =>
            clear hS e0 e1 ef0 ef1 v0 v1 v2 vf0 vf1 hBV hV
            obtain ⟨rfl, hBV, e0, e1, ef0, ef1, hZ⟩ := hcut
            have z0 := (hZ.cell (p := ⟨C, 0, none⟩) uC).trans c0
            have z1 := (hZ.cell (p := ⟨C, 1, none⟩) uC).trans c1
            have z2 := (hZ.cell (p := ⟨b, off + k, none⟩) ub).trans hck
            have zf0 := (hZ.frozen (p := ⟨C, 0, none⟩) uC).trans f0
            have zf1 := (hZ.frozen (p := ⟨C, 1, none⟩) uC).trans f1
            obtain ⟨E, hEe⟩ : ∃ E, E = gE G S (-(x + 1)) := ⟨_, rfl⟩
            obtain ⟨DG, hDGe⟩ : ∃ E, E = gG G S (-(x + 1)) := ⟨_, rfl⟩
            obtain ⟨DS, hDSe⟩ : ∃ E, E = gS G S (-(x + 1)) := ⟨_, rfl⟩
            rw [← hEe]
            rw [← hDGe] at e0
            rw [← hDSe] at e1
            have hG0 : E = 0 → DG = G - (x + 1) := fun h => by rw [hDGe]; unfold gG; rw [if_pos (hEe ▸ h)]; omega
            have hS0 : E = 0 → DS = S := fun h => by rw [hDSe]; unfold gS; rw [if_pos (hEe ▸ h)]
            have hRn : E = 0 → rightB (G - (x + 1)) S = true := fun h => by have := grant_right hR (by omega) (hEe ▸ h); rw [show G - (x + 1) = G + -(x + 1) by omega]; exact this
            clear hEe hDGe hDSe wr1 wr2 c0 c1 f0 f1 hck
            by_cases hE : E = 0
            · have hR2 := hRn hE
              rw [hG0 hE] at e0
              rw [hS0 hE] at e1
              subst hE
              clear hG0 hS0 hRn
              obtain ⟨n1, n2, n3, n4⟩ := bnd_of hR2
              have hle : (if rightB (G - (x + 1)) (S) = true then G - (x + 1) - (S) else 0) = G - (x + 1) - (S) := by rw [if_pos hR2]
              have hCz : C < wc.heap.size := Nat.lt_of_lt_of_le uC hZ.size
              have p0 : ((wc.setCell ⟨C, 0, none⟩ (.int .i64 (G - (x + 1)))).setCell ⟨C, 1, none⟩ (.int .i64 (S))).cell? ⟨C, 0, none⟩ = some (.int .i64 (G - (x + 1))) := by go_simp
              have p1 : ((wc.setCell ⟨C, 0, none⟩ (.int .i64 (G - (x + 1)))).setCell ⟨C, 1, none⟩ (.int .i64 (S))).cell? ⟨C, 1, none⟩ = some (.int .i64 (S)) := by go_simp
              have pf0 : ((wc.setCell ⟨C, 0, none⟩ (.int .i64 (G - (x + 1)))).setCell ⟨C, 1, none⟩ (.int .i64 (S))).frozen? ⟨C, 0, none⟩ = false := by go_simp
              have pf1 : ((wc.setCell ⟨C, 0, none⟩ (.int .i64 (G - (x + 1)))).setCell ⟨C, 1, none⟩ (.int .i64 (S))).frozen? ⟨C, 1, none⟩ = false := by go_simp
              have pB : Below w.heap.size w ((wc.setCell ⟨C, 0, none⟩ (.int .i64 (G - (x + 1)))).setCell ⟨C, 1, none⟩ (.int .i64 (S))) := ((hB.trans (hZ.mono hB.size)).setCell (p := ⟨C, 0, none⟩) hCw _).setCell (p := ⟨C, 1, none⟩) hCw _
              have hPs : C < ((wc.setCell ⟨C, 0, none⟩ (.int .i64 (G - (x + 1)))).setCell ⟨C, 1, none⟩ (.int .i64 (S))).heap.size := by simp; exact hCz
              go_wp2_with fail
              generalize (wc.setCell ⟨C, 0, none⟩ (.int .i64 (G - (x + 1)))).setCell ⟨C, 1, none⟩ (.int .i64 (S)) = X at *
              clear z0 z1 z2 zf0 zf1 e0 e1 ef0 ef1
              refine (left2_any _ _ _).mono ?_; rintro e w8 ⟨rfl, hb8⟩
              rw [hle]
              have r0 := (hb8.cell (p := ⟨C, 0, none⟩) hPs).trans p0
              have r1 := (hb8.cell (p := ⟨C, 1, none⟩) hPs).trans p1
              have rf0 := (hb8.frozen (p := ⟨C, 0, none⟩) hPs).trans pf0
              have rf1 := (hb8.frozen (p := ⟨C, 1, none⟩) hPs).trans pf1
              have rB := pB.trans (hb8.mono pB.size)
              have hQs := Nat.lt_of_lt_of_le hPs hb8.size
              clear p0 p1 pf0 pf1 hb8 hPs pB
              go_wp2_with fail
              refine (right_any _ _ _).mono ?_; rintro e w9 ⟨rfl, hb9⟩
              have t0 := (hb9.cell (p := ⟨C, 0, none⟩) hQs).trans r0
              have t1 := (hb9.cell (p := ⟨C, 1, none⟩) hQs).trans r1
              have tf0 := (hb9.frozen (p := ⟨C, 0, none⟩) hQs).trans rf0
              have tf1 := (hb9.frozen (p := ⟨C, 1, none⟩) hQs).trans rf1
              have tB := rB.trans (hb9.mono rB.size)
              clear hb9 r0 r1 rf0 rf1 rB
              go_wp2
              go_roundw
              case rel => first | exact ⟨k + 1, _, _, by omega, by go_num, rfl, rfl, hR2, t0, t1, tf0, tf1, tB⟩ | ((repeat apply Exists.intro); exact ⟨⟨k + 1, _, _, by omega, by go_num, rfl, rfl, hR2, t0, t1, tf0, tf1, tB⟩, rfl⟩)
              case measure => simp [intOf]; omega
            · clear hG0 hS0 hRn
              have hE1 : (E == 0) = false := by simp; exact hE
              have hE2 : (E != 0) = true := by simp; exact hE
              clear hE
              go_wp2
              go_roundw
              case rel => first | exact ⟨k + 1, G, S, by omega, by go_num, rfl, rfl, hR, z0, z1, zf0, zf1, hB.trans (hZ.mono hB.size)⟩ | ((repeat apply Exists.intro); exact ⟨⟨k + 1, G, S, by omega, by go_num, rfl, rfl, hR, z0, z1, zf0, zf1, hB.trans (hZ.mono hB.size)⟩, rfl⟩)
              case measure => simp [intOf]; omega
        · have d0 : decide (x < 0) = false := decide_eq_false h0
          have hZ := hV
          have z0 := v0
          have z1 := v1
          have z2 := v2
          have zf0 := vf0
          have zf1 := vf1
          obtain ⟨E, hEe⟩ : ∃ E, E = sE G S x := ⟨_, rfl⟩
          obtain ⟨DG, hDGe⟩ : ∃ E, E = sG G S x := ⟨_, rfl⟩
          obtain ⟨DS, hDSe⟩ : ∃ E, E = sS G S x := ⟨_, rfl⟩
          rw [← hEe]
          rw [← hDGe] at e0
          rw [← hDSe] at e1
          have hG0 : E = 0 → DG = G := fun h => by rw [hDGe]; unfold sG; rw [if_pos (hEe ▸ h)]
          have hS0 : E = 0 → DS = S + x := fun h => by rw [hDSe]; unfold sS; rw [if_pos (hEe ▸ h)]
          have hRn : E = 0 → rightB G (S + x) = true := fun h => spend_right hR (by omega) (hEe ▸ h)
          clear hEe hDGe hDSe c0 c1 f0 f1 v0 v1 v2 vf0 vf1 hV hS hck
          by_cases hE : E = 0
          · have hR2 := hRn hE
            rw [hG0 hE] at e0
            rw [hS0 hE] at e1
            subst hE
            clear hG0 hS0 hRn
            obtain ⟨n1, n2, n3, n4⟩ := bnd_of hR2
            have hle : (if rightB (G) (S + x) = true then G - (S + x) else 0) = G - (S + x) := by rw [if_pos hR2]
            have hCz : C < wc.heap.size := Nat.lt_of_lt_of_le uC hZ.size
            have p0 : ((wc.setCell ⟨C, 0, none⟩ (.int .i64 (G))).setCell ⟨C, 1, none⟩ (.int .i64 (S + x))).cell? ⟨C, 0, none⟩ = some (.int .i64 (G)) := by go_simp
            have p1 : ((wc.setCell ⟨C, 0, none⟩ (.int .i64 (G))).setCell ⟨C, 1, none⟩ (.int .i64 (S + x))).cell? ⟨C, 1, none⟩ = some (.int .i64 (S + x)) := by go_simp
            have pf0 : ((wc.setCell ⟨C, 0, none⟩ (.int .i64 (G))).setCell ⟨C, 1, none⟩ (.int .i64 (S + x))).frozen? ⟨C, 0, none⟩ = false := by go_simp
            have pf1 : ((wc.setCell ⟨C, 0, none⟩ (.int .i64 (G))).setCell ⟨C, 1, none⟩ (.int .i64 (S + x))).frozen? ⟨C, 1, none⟩ = false := by go_simp
            have pB : Below w.heap.size w ((wc.setCell ⟨C, 0, none⟩ (.int .i64 (G))).setCell ⟨C, 1, none⟩ (.int .i64 (S + x))) := ((hB.trans (hZ.mono hB.size)).setCell (p := ⟨C, 0, none⟩) hCw _).setCell (p := ⟨C, 1, none⟩) hCw _
            have hPs : C < ((wc.setCell ⟨C, 0, none⟩ (.int .i64 (G))).setCell ⟨C, 1, none⟩ (.int .i64 (S + x))).heap.size := by simp; exact hCz
            go_wp2_with fail
            generalize (wc.setCell ⟨C, 0, none⟩ (.int .i64 (G))).setCell ⟨C, 1, none⟩ (.int .i64 (S + x)) = X at *
            clear z0 z1 z2 zf0 zf1 e0 e1 ef0 ef1
            refine (left2_any _ _ _).mono ?_; rintro e w8 ⟨rfl, hb8⟩
            rw [hle]
            have r0 := (hb8.cell (p := ⟨C, 0, none⟩) hPs).trans p0
            have r1 := (hb8.cell (p := ⟨C, 1, none⟩) hPs).trans p1
            have rf0 := (hb8.frozen (p := ⟨C, 0, none⟩) hPs).trans pf0
            have rf1 := (hb8.frozen (p := ⟨C, 1, none⟩) hPs).trans pf1
            have rB := pB.trans (hb8.mono pB.size)
            have hQs := Nat.lt_of_lt_of_le hPs hb8.size
            clear p0 p1 pf0 pf1 hb8 hPs pB
            go_wp2_with fail
            refine (right_any _ _ _).mono ?_; rintro e w9 ⟨rfl, hb9⟩
            have t0 := (hb9.cell (p := ⟨C, 0, none⟩) hQs).trans r0
            have t1 := (hb9.cell (p := ⟨C, 1, none⟩) hQs).trans r1
            have tf0 := (hb9.frozen (p := ⟨C, 0, none⟩) hQs).trans rf0
            have tf1 := (hb9.frozen (p := ⟨C, 1, none⟩) hQs).trans rf1
            have tB := rB.trans (hb9.mono rB.size)
            clear hb9 r0 r1 rf0 rf1 rB
            go_wp2
            go_roundw
            case rel => first | exact ⟨k + 1, _, _, by omega, by go_num, rfl, rfl, hR2, t0, t1, tf0, tf1, tB⟩ | ((repeat apply Exists.intro); exact ⟨⟨k + 1, _, _, by omega, by go_num, rfl, rfl, hR2, t0, t1, tf0, tf1, tB⟩, rfl⟩)
            case measure => simp [intOf]; omega
          · clear hG0 hS0 hRn
            have hE1 : (E == 0) = false := by simp; exact hE
            have hE2 : (E != 0) = true := by simp; exact hE
            clear hE
            go_wp2
            go_roundw
            case rel => first | exact ⟨k + 1, G, S, by omega, by go_num, rfl, rfl, hR, z0, z1, zf0, zf1, hB.trans (hZ.mono hB.size)⟩ | ((repeat apply Exists.intro); exact ⟨⟨k + 1, G, S, by omega, by go_num, rfl, rfl, hR, z0, z1, zf0, zf1, hB.trans (hZ.mono hB.size)⟩, rfl⟩)
            case measure => simp [intOf]; omega
    · obtain rfl : k = ys.length := by omega
      go_wp2
      go_ret
      exact ⟨rfl, hB⟩

set_option maxRecDepth 100000 in
set_option maxHeartbeats 4000000 in
theorem never_empty (n : Int) (a : Option Addr) (cap : Nat) (w : World) (hcm : cap ≤ maxLen) (h : rightB n 0 = true) :
    Calls Try.prog 6 #[.int .i64 n, .slice a 0 cap] w fun e w' => e = .returned (.bool true) ∧ Below w.heap.size w w' := by
  have m1 : nE n = 0 := by unfold nE; simp [h]
  have m2 : nG n = n := by unfold nG; simp [h]
  have hlc : 0 ≤ cap := Nat.zero_le _
  go_enter Try.func6, Try.ntmps6
  go_wp2_with fail
  refine (shown_any _).mono ?_; rintro e w1 ⟨rfl, hb1⟩; obtain ⟨hc1, hf1⟩ := bcell hb1; have hz1 := hb1.size
  try simp only [World.size_alloc] at hz1
  have hW1 : Below w.heap.size w w1 := (Below.refl w.heap.size w).trans (hb1.mono (by have := (Below.refl w.heap.size w).size; (try simp only [World.size_alloc]); omega))
  clear hb1
  go_wp2_with fail
  refine (few_any _ _ _ _ hlc hcm).mono ?_; rintro e wf ⟨rfl, rfl⟩
  go_wp2_with fail
  refine (New_any n _).mono ?_; rintro e w2 ⟨rfl, hb2⟩; obtain ⟨hc2, hf2⟩ := bcell hb2; have hz2 := hb2.size
  try simp only [World.size_alloc] at hz2
  have hW2 : Below w.heap.size w w2 := (hW1).trans (hb2.mono (by have := (hW1).size; (try simp only [World.size_alloc]); omega))
  clear hb2
  rw [m1]
  rw [m2]
  have hU : Below w.heap.size w (w2.alloc (.cells #[.int .i64 n, .int .i64 0] 23)) := hW2.alloc hW2.size _
  go_wp2_with fail
  go_loop [8, 9, 10] (fun gr sp i => i = .int .i64 0) (fun _ _ _ => 0)
  case atStart => exact rfl
  case round =>
    obtain rfl := hrel
    go_wp2
    go_ret
    exact ⟨rfl, hU⟩

theorem never_walk (n : Int) (a : Option Addr) (len cap : Nat) (zs : List Int) (w : World) (_hn : -9223372036854775808 ≤ n) (_hn' : n ≤ 9223372036854775807) (hz' : zs.length = len) (hz : ∀ x ∈ zs, -9223372036854775808 ≤ x ∧ x ≤ 9223372036854775807) (hlc : len ≤ cap) (hcm : cap ≤ maxLen) (hI : Ints w.heap.size w (.slice a len cap) zs) :
    Calls Try.prog 6 #[.int .i64 n, .slice a len cap] w fun e w' => e = .returned (.bool true) ∧ Below w.heap.size w w' := by
  cases h : rightB n 0
  · exact never_new n a len cap w hlc hcm h
  · rcases hI with ⟨a', c', e, rfl⟩ | ⟨b, off, cap', e, hb, hc⟩
    · obtain ⟨rfl, rfl, rfl⟩ : a = a' ∧ len = 0 ∧ cap = c' := by simpa using e
      exact never_empty n a cap w hcm h
    · obtain ⟨rfl, rfl, rfl⟩ : a = some ⟨b, off, none⟩ ∧ len = zs.length ∧ cap = cap' := by simpa using e
      have hyl := fewOf_length zs
      have hc' : ∀ j, j < (fewOf zs).length → w.cell? ⟨b, off + j, none⟩ = some (.int .i64 ((fewOf zs)[j]?.getD 0)) := fun j hj => by
        rw [hyl] at hj
        rw [hc j (by omega)]
        unfold fewOf
        rw [List.getElem?_take_of_lt (by omega)]
      exact never_loop n b off zs.length cap (fewOf zs) w hlc hcm hyl hb hc' (fun x hx => hz x (List.mem_of_mem_take hx)) h
end Go.Proofs.Ytbdklcdecknceaa

/- RL, N9Z, N9LH -/
import Derived.Test.YtbalebnhjpjhgaaZ9
import Derived.Test.YtbalebnhjpjhgaaZ3
import Derived.Deep.Grids
import Derived.Lib.SmallJoins
import Derived.ChangeSlices
set_option linter.unusedVariables false
set_option linter.unusedSimpArgs false
/- The document's Give; Take, Give by answers. -/
namespace Go.Proofs.Ytbalebnhjpjhgaa.L9
open Go.RowKit Go.Shelf
attribute [local go_sem] Oper.semAt_some
set_option linter.unusedSimpArgs false
set_option linter.unusedVariables false
theorem rown2_c (a1 a2 a3 : Option Addr) (c1 c2 c3 L1 L2 L3 : Nat) (s : Sl) (h1 : s.g.length = L1) (h2 : s.u.length = L2) (h3 : s.f.length = L3) (l1 : L1 ≤ 1000) (l2 : L2 ≤ 1000) (l3 : L3 ≤ 1000) (w : World) (h : SlotsAt w.heap.size w a1 a2 a3 s.g s.u s.f) :
    Calls Try.prog 41 #[.agg #[.slice a1 L1 c1, .slice a2 L2 c2, .slice a3 L3 c3]] w fun e w' => ∃ b1 b2 b3 d1 d2 d3, e = .returned (.agg #[.slice b1 L1 d1, .slice b2 L2 d2, .slice b3 L3 d3]) ∧
      OwnI w.heap.size w' (.slice b1 L1 d1) s.g ∧ OwnB w.heap.size w' (.slice b2 L2 d2) s.u ∧ OwnI w.heap.size w' (.slice b3 L3 d3) s.f ∧ (∀ b, Value.ownBlock (.slice b1 L1 d1) = some b → Value.ownBlock (.slice b3 L3 d3) ≠ some b) ∧ Below w.heap.size w w' := by
  subst h1 h2 h3
  refine (rown_c a1 a2 a3 c1 c2 c3 _ _ _ s rfl rfl rfl l1 l2 l3 w h).mono ?_
  rintro e w' ⟨v1, v2, v3, rfl, o1, o2, o3, hd, hb⟩
  obtain ⟨b1, d1, rfl, _⟩ := o1.form
  obtain ⟨b2, d2, rfl, _⟩ := o2.form
  obtain ⟨b3, d3, rfl, _⟩ := o3.form
  exact ⟨b1, b2, b3, d1, d2, d3, rfl, o1, o2, o3, hd, hb⟩

set_option maxRecDepth 100000 in
set_option maxHeartbeats 2000000 in
theorem rgive_wrong (a1 a2 a3 : Option Addr) (c1 c2 c3 L1 L2 L3 : Nat) (s : Sl) (p g : Int) (h1 : s.g.length = L1) (h2 : s.u.length = L2) (h3 : s.f.length = L3) (l3 : L3 ≤ 1000) (w : World) (h : SlotsAt w.heap.size w a1 a2 a3 s.g s.u s.f) (hr : s.right = false) :
    Calls Try.prog 25 #[.agg #[.slice a1 L1 c1, .slice a2 L2 c2, .slice a3 L3 c3], .agg #[.int .i64 p, .int .i64 g]] w fun e w' => e = .returned (.tuple #[nilV, .int .i64 90]) ∧ Below w.heap.size w w' := by
  have H := Lib.hid (fun w hS => rright_c a1 a2 a3 c1 c2 c3 L1 L2 L3 s h1 h2 h3 l3 w hS)
  rw [hr] at H
  have HS := Lib.hid h
  have hA : Below w.heap.size w (((w.alloc (.cells #[.slice a1 L1 c1, .slice a2 L2 c2, .slice a3 L3 c3] 25)).alloc (.cells #[.int .i64 p, .int .i64 g] 27)).alloc (.cells #[.slice none 0 0, .slice none 0 0, .slice none 0 0] 25)) := (((Below.refl _ _).alloc (Nat.le_refl _) _).alloc (by simp) _).alloc (by simp; omega) _
  clear h hr h1 h2 h3
  go_enter Try.func25, Try.ntmps25
  go_wp2_with fail
  refine (H.out _ (HS.out.on hA)).mono ?_
  rintro e w1 ⟨rfl, hb1⟩
  have hz1 := hb1.size
  have hW := hA.trans (hb1.mono hA.size)
  have r3 := (Fr3.new ((w.alloc (.cells #[.slice a1 L1 c1, .slice a2 L2 c2, .slice a3 L3 c3] 25)).alloc (.cells #[.int .i64 p, .int .i64 g] 27)) 25).on hb1 (by simp)
  simp only [World.size_alloc] at r3 hz1
  obtain ⟨e0, e1, e2, f0, f1, f2⟩ := r3
  clear hb1 hA
  go_wp2
  refine bodyPost_ret (v := .tuple #[nilV, .int .i64 90]) (by simp [results, Try.results25, go_sem, nilV, e0, e1, e2]) rfl ⟨rfl, ?_⟩
  exact below_set3 hW (by omega) _ _ _

set_option maxRecDepth 100000 in
set_option maxHeartbeats 2000000 in
theorem rgive_old (a1 a2 a3 : Option Addr) (c1 c2 c3 L1 L2 L3 : Nat) (s : Sl) (p g : Int) (h1 : s.g.length = L1) (h2 : s.u.length = L2) (h3 : s.f.length = L3) (l3 : L3 ≤ 1000) (w : World) (h : SlotsAt w.heap.size w a1 a2 a3 s.g s.u s.f) (hr : s.right = true) (hv : s.valid (p, g) = false) :
    Calls Try.prog 25 #[.agg #[.slice a1 L1 c1, .slice a2 L2 c2, .slice a3 L3 c3], .agg #[.int .i64 p, .int .i64 g]] w fun e w' => e = .returned (.tuple #[nilV, .int .i64 91]) ∧ Below w.heap.size w w' := by
  have H := Lib.hid (fun w hS => rright_c a1 a2 a3 c1 c2 c3 L1 L2 L3 s h1 h2 h3 l3 w hS)
  have G := Lib.hid (fun w hS => rvalid_c a1 a2 a3 c1 c2 c3 L1 L2 L3 s p g h1 h2 h3 l3 w hS)
  rw [hr] at H
  rw [hv] at G
  have HS := Lib.hid h
  have hA : Below w.heap.size w (((w.alloc (.cells #[.slice a1 L1 c1, .slice a2 L2 c2, .slice a3 L3 c3] 25)).alloc (.cells #[.int .i64 p, .int .i64 g] 27)).alloc (.cells #[.slice none 0 0, .slice none 0 0, .slice none 0 0] 25)) := (((Below.refl _ _).alloc (Nat.le_refl _) _).alloc (by simp) _).alloc (by simp; omega) _
  clear h hr h1 h2 h3 hv
  go_enter Try.func25, Try.ntmps25
  go_wp2_with fail
  refine (H.out _ (HS.out.on hA)).mono ?_
  rintro e w1 ⟨rfl, hb1⟩
  have hz1 := hb1.size
  have hW := hA.trans (hb1.mono hA.size)
  have r3 := (Fr3.new ((w.alloc (.cells #[.slice a1 L1 c1, .slice a2 L2 c2, .slice a3 L3 c3] 25)).alloc (.cells #[.int .i64 p, .int .i64 g] 27)) 25).on hb1 (by simp)
  obtain ⟨hc1, hf1⟩ := bcell hb1
  simp only [World.size_alloc] at r3 hz1
  clear hb1 hA
  go_wp2_with fail
  refine (G.out _ (HS.out.on hW)).mono ?_
  rintro e w2 ⟨rfl, hb2⟩
  have hz2 := hb2.size
  have hW2 := hW.trans (hb2.mono hW.size)
  obtain ⟨e0, e1, e2, f0, f1, f2⟩ := r3.on hb2 (by omega)
  clear hb2 hW hc1 hf1 r3
  go_wp2
  refine bodyPost_ret (v := .tuple #[nilV, .int .i64 91]) (by simp [results, Try.results25, go_sem, nilV, e0, e1, e2]) rfl ⟨rfl, ?_⟩
  exact below_set3 hW2 (by omega) _ _ _

theorem rcopy4_any (a1 a2 a3 : Option Addr) (c1 c2 c3 L1 L2 L3 : Nat) (s : Sl) (h1 : s.g.length = L1) (h2 : s.u.length = L2) (h3 : s.f.length = L3) (l1 : L1 ≤ 1000) (l2 : L2 ≤ 1000) (l3 : L3 ≤ 1000) (p1 : 0 < L1) (p2 : 0 < L2) (w : World) (h : SlotsAt w.heap.size w a1 a2 a3 s.g s.u s.f) :
    Calls Try.prog 41 #[.agg #[.slice a1 L1 c1, .slice a2 L2 c2, .slice a3 L3 c3]] w fun e w' => ∃ g1 g2 b3 d1 d2 d3, e = .returned (.agg #[.slice (some ⟨g1, 0, none⟩) L1 d1, .slice (some ⟨g2, 0, none⟩) L2 d2, .slice b3 L3 d3]) ∧
      OwnI w.heap.size w' (.slice (some ⟨g1, 0, none⟩) L1 d1) s.g ∧ OwnB w.heap.size w' (.slice (some ⟨g2, 0, none⟩) L2 d2) s.u ∧ OwnI w.heap.size w' (.slice b3 L3 d3) s.f ∧ Value.ownBlock (.slice b3 L3 d3) ≠ some g1 ∧ Value.ownBlock (.slice b3 L3 d3) ≠ some g2 ∧ Below w.heap.size w w' := by
  refine (rown2_c a1 a2 a3 c1 c2 c3 L1 L2 L3 s h1 h2 h3 l1 l2 l3 w h).mono ?_
  rintro e w' ⟨b1, b2, b3, d1, d2, d3, rfl, o1, o2, o3, hd, hb⟩
  obtain ⟨g1, k1, e1, _, _⟩ := World.ownsRow.form o1 (by omega)
  obtain ⟨g2, k2, e2, _, _⟩ := World.ownsRow.form o2 (by omega)
  simp only [Value.slice.injEq] at e1 e2
  obtain ⟨rfl, _, rfl⟩ := e1
  obtain ⟨rfl, _, rfl⟩ := e2
  refine ⟨g1, g2, b3, d1, d2, d3, rfl, o1, o2, o3, hd g1 rfl, fun e => ?_, hb⟩
  rcases o3.2 with ⟨h', _⟩ | ⟨g, cap, cur, h', _, _, hc, _⟩
  · rw [h'] at e; cases e
  · rw [h'] at o3 e
    have := Option.some.inj e
    exact own_ne o3 o2 this
set_option maxRecDepth 100000 in
set_option maxHeartbeats 4000000 in
theorem rgive_ok (a1 a2 a3 : Option Addr) (c1 c2 c3 L1 L2 L3 k : Nat) (s : Sl) (g : Int) (h1 : s.g.length = L1) (h2 : s.u.length = L2) (h3 : s.f.length = L3) (w : World) (h : SlotsAt w.heap.size w a1 a2 a3 s.g s.u s.f) (hr : s.right = true) (hv : s.valid ((k : Int), g) = true) :
    Calls Try.prog 25 #[.agg #[.slice a1 L1 c1, .slice a2 L2 c2, .slice a3 L3 c3], .agg #[.int .i64 k, .int .i64 g]] w fun e w' => ∃ b1 b2 b3 d1 d2 d3, e = .returned (.tuple #[.agg #[.slice b1 L1 d1, .slice b2 L2 d2, .slice b3 (L3 + 1) d3], .int .i64 0]) ∧
      SlotsAt w'.heap.size w' b1 b2 b3 s.g (s.u.set k false) (s.f ++ [(k : Int)]) ∧ Below w.heap.size w w' := by
  obtain ⟨R1, R2, R3, R4, _⟩ := (right_iff s).1 hr
  have l3 : L3 ≤ 1000 := by omega
  have hlive : Live s ((k : Int), g) := by
    unfold Sl.valid at hv
    exact of_decide_eq_true (Bool.and_eq_true _ _ ▸ hv : _ ∧ _).2
  have hk : k < L2 := by have := hlive.2.1; simp only at this; omega
  obtain ⟨x, hx⟩ : ∃ x, s.u[k]? = some x := ⟨_, List.getElem?_eq_getElem (by omega)⟩
  have H := Lib.hid (fun w hS => rright_c a1 a2 a3 c1 c2 c3 L1 L2 L3 s h1 h2 h3 l3 w hS)
  have G := Lib.hid (fun w hS => rvalid_c a1 a2 a3 c1 c2 c3 L1 L2 L3 s k g h1 h2 h3 l3 w hS)
  have H2 := Lib.hid (fun w hS => rcopy4_any a1 a2 a3 c1 c2 c3 L1 L2 L3 s h1 h2 h3 (by omega) (by omega) (by omega) (by omega) (by omega) w hS)
  rw [hr] at H
  rw [hv] at G
  have HS := Lib.hid h
  have HL1 := Lib.hid h1
  have HL2 := Lib.hid h2
  have HL3 := Lib.hid h3
  have HX := Lib.hid hx
  have hk2 : (k : Int) < (L2 : Int) := by omega
  have hL3 : L3 ≤ 64 := by omega
  obtain ⟨i0, hi0, hz0, hzz1, hzz2⟩ := info_parts info3
  have hA : Below w.heap.size w (((w.alloc (.cells #[.slice a1 L1 c1, .slice a2 L2 c2, .slice a3 L3 c3] 25)).alloc (.cells #[.int .i64 k, .int .i64 g] 27)).alloc (.cells #[.slice none 0 0, .slice none 0 0, .slice none 0 0] 25)) := (((Below.refl _ _).alloc (Nat.le_refl _) _).alloc (by simp) _).alloc (by simp; omega) _
  clear h hr h1 h2 h3 hv hlive R1 R2 R3 R4 hx
  go_enter Try.func25, Try.ntmps25
  go_wp2_with fail
  refine (H.out _ (HS.out.on hA)).mono ?_
  rintro e w1 ⟨rfl, hb1⟩
  have hz1 := hb1.size
  have hW := hA.trans (hb1.mono hA.size)
  have r3 := (Fr3.new ((w.alloc (.cells #[.slice a1 L1 c1, .slice a2 L2 c2, .slice a3 L3 c3] 25)).alloc (.cells #[.int .i64 k, .int .i64 g] 27)) 25).on hb1 (by simp)
  obtain ⟨hc1, hf1⟩ := bcell hb1
  simp only [World.size_alloc] at r3 hz1
  clear hb1 hA
  go_wp2_with fail
  refine (G.out _ (HS.out.on hW)).mono ?_
  rintro e w2 ⟨rfl, hb2⟩
  have hz2 := hb2.size
  have hW2 := hW.trans (hb2.mono hW.size)
  have r3 := r3.on hb2 (by omega)
  obtain ⟨hc2, hf2⟩ := bcell hb2
  have q0 : w2.cell? ⟨w.heap.size + 1, 0, none⟩ = some (.int .i64 k) := (hb2.cell (p := ⟨w.heap.size + 1, 0, none⟩) (show w.heap.size + 1 < w1.heap.size by omega)).trans (by go_simp)
  clear hb2 hW
  have hy1 : w.heap.size < w1.heap.size := by omega
  go_wp2_with fail
  refine (H2.out _ (HS.out.on hW2)).mono ?_
  rintro e w3 ⟨g1, g2, b3, d1, d2, d3, rfl, o1, o2, o3, hd1, hd2, hb3⟩
  have hz3 := hb3.size
  have hW3 := hW2.trans (hb3.mono hW2.size)
  have r3 := r3.on hb3 (by omega)
  have q0 := (hb3.cell (p := ⟨w.heap.size + 1, 0, none⟩) (show w.heap.size + 1 < w2.heap.size by omega)).trans q0
  obtain ⟨lo1, hi1⟩ := o1.lt g1 rfl
  obtain ⟨lo2, hi2⟩ := o2.lt g2 rfl
  have hl3 := o3.lt
  have x2 := o2.cell HL2.out HX.out
  have fr2 := o2.frozen HL2.out k
  have ne12 : g1 ≠ g2 := own_ne o1 o2
  have hX : Below w3.heap.size w3 (w3.alloc (.cells #[.slice (some ⟨g1, 0, none⟩) L1 d1, .slice (some ⟨g2, 0, none⟩) L2 d2, .slice b3 L3 d3] 25)) := (Below.refl w3.heap.size w3).alloc (Nat.le_refl _) _
  have ne2 : g2 ≠ w3.heap.size := by omega
  have O1 : OwnI w2.heap.size ((w3.setCell ⟨g2, k, none⟩ (.bool false)).alloc (.cells #[.slice (some ⟨g1, 0, none⟩) L1 d1, .slice (some ⟨g2, 0, none⟩) L2 d2, .slice b3 L3 d3] 25)) _ _ := (o1.set_ne (B := g2) (o := k) (x := .bool false) ne12).alloc _
  have O2 : OwnB w2.heap.size ((w3.setCell ⟨g2, k, none⟩ (.bool false)).alloc (.cells #[.slice (some ⟨g1, 0, none⟩) L1 d1, .slice (some ⟨g2, 0, none⟩) L2 d2, .slice b3 L3 d3] 25)) _ _ := (o2.put HL2.out k false).alloc _
  have O3 : OwnI w2.heap.size ((w3.setCell ⟨g2, k, none⟩ (.bool false)).alloc (.cells #[.slice (some ⟨g1, 0, none⟩) L1 d1, .slice (some ⟨g2, 0, none⟩) L2 d2, .slice b3 L3 d3] 25)) _ _ := World.ownsRow.alloc (o3.kept (grownBy_setCell _ g2 k (.bool false)) (.inr hd2)) _
  have hS : Below w2.heap.size w3 (w3.setCell ⟨g2, k, none⟩ (.bool false)) := (Below.refl _ _).setCell (p := ⟨g2, k, none⟩) lo2 _
  have hSz : (w3.setCell ⟨g2, k, none⟩ (.bool false)).heap.size = w3.heap.size := by simp [World.setCell]
  have hX' : Below w2.heap.size w3 ((w3.setCell ⟨g2, k, none⟩ (.bool false)).alloc (.cells #[.slice (some ⟨g1, 0, none⟩) L1 d1, .slice (some ⟨g2, 0, none⟩) L2 d2, .slice b3 L3 d3] 25)) := hS.alloc (by omega) _
  have R3 := r3.on hX' (by omega)
  have hW4 : Below w.heap.size w ((w3.setCell ⟨g2, k, none⟩ (.bool false)).alloc (.cells #[.slice (some ⟨g1, 0, none⟩) L1 d1, .slice (some ⟨g2, 0, none⟩) L2 d2, .slice b3 L3 d3] 25)) := hW3.trans (hX'.mono (by omega))
  have hy3 : w.heap.size + 1 < w3.heap.size := by omega
  have nq2 : w.heap.size + 1 ≠ g2 := by omega
  have nr2 : w.heap.size + 1 + 1 ≠ g2 := by omega
  clear hb3 o1 o2 o3 hc1 hf1 hc2 hf2 hX
  go_upto_region 7 with fail
  obtain ⟨U, hU⟩ : ∃ U, U = ((w3.setCell ⟨g2, k, none⟩ (.bool false)).alloc (.cells #[.slice (some ⟨g1, 0, none⟩) L1 d1, .slice (some ⟨g2, 0, none⟩) L2 d2, .slice b3 L3 d3] 25)) := ⟨_, rfl⟩
  rw [← hU] at O1 O2 O3 R3 hW4 ⊢
  have t0 : U.cell? ⟨w3.heap.size, 0, none⟩ = some (.slice (some ⟨g1, 0, none⟩) L1 d1) := by rw [hU, ← hSz]; go_simp
  have t1 : U.cell? ⟨w3.heap.size, 1, none⟩ = some (.slice (some ⟨g2, 0, none⟩) L2 d2) := by rw [hU, ← hSz]; go_simp
  have t2 : U.cell? ⟨w3.heap.size, 2, none⟩ = some (.slice b3 L3 d3) := by rw [hU, ← hSz]; go_simp
  have tf2 : U.frozen? ⟨w3.heap.size, 2, none⟩ = false := by rw [hU, ← hSz]; go_simp
  have q1 : U.cell? ⟨w.heap.size + 1, 0, none⟩ = some (.int .i64 k) := by rw [hU]; go_simp
  have hUz : U.heap.size = w3.heap.size + 1 := by rw [hU, World.size_alloc, hSz]
  have hTo : Value.ownBlock (.slice b3 L3 d3) ≠ some w3.heap.size := fun e => by have := (hl3 _ e).2; omega
  have hBo : Value.ownBlock (.slice b3 L3 d3) ≠ some (w.heap.size + 1 + 1) := fun e => by have := (hl3 _ e).1; omega
  have O3r : U.ownsRow w2.heap.size 3 1 (.slice b3 L3 d3) L3 (intVs s.f) := by have := O3; unfold OwnI at this; rwa [HL3.out] at this
  have HO1 := Lib.hid O1
  have HO2 := Lib.hid O2
  have HO3 := Lib.hid O3r
  have HW4 := Lib.hid hW4
  have HR := Lib.hid R3
  clear O1 O2 O3 O3r hU hW4 R3 hS hSz hX' hW3 hW2 r3 q0 x2 fr2
  have hN : ∀ j u, [Value.int .i64 k][j]? = some u → (U.alloc (.cells #[.int .i64 k] 3)).cell? ((⟨w3.heap.size + 1, 0, none⟩ : Addr).add j) = some u := by rw [← hUz]; exact cell_one_new U _ _
  have hAz : w2.heap.size ≤ (U.alloc (.cells #[.int .i64 k] 3)).heap.size := by simp; omega
  have HN := Lib.hid hN
  have HAz := Lib.hid hAz
  clear hN hAz
  go_wp2_with (refine wpList_append_lies _ rfl _ _ _ rfl w2.heap.size 3 i0 _ 1 8 Try.underlying22 hi0 hz0 hzz1 hzz2 rfl (by omega) (.slice b3 L3 d3) L3 (intVs s.f) rfl (HO3.out.alloc _) ⟨w3.heap.size + 1, 0, none⟩ 1 1 [.int .i64 k] rfl (by rfl) HN.out (by simp [Value.oneCell']) (by omega) (by simp [maxLen]; omega) (by omega) HAz.out _ rfl ?_; intro gg cap1 w5 hown hgrow hat hlt; have HOW := Lib.hid hown; have HG := Lib.hid hgrow; have HT := Lib.hid hat; clear hown hgrow hat; have y0 := (HG.out.cell_far ⟨w3.heap.size, 0, none⟩ (by simp; omega) hTo.symm).trans (keep_alloc _ t0); have y1 := (HG.out.cell_far ⟨w3.heap.size, 1, none⟩ (by simp; omega) hTo.symm).trans (keep_alloc _ t1); have y2 := (HG.out.cell_far ⟨w3.heap.size, 2, none⟩ (by simp; omega) hTo.symm).trans (keep_alloc _ t2); have yf2 := (HG.out.frozen_far ⟨w3.heap.size, 2, none⟩ (by simp; omega) hTo.symm).trans (keep_alloc_f _ t2 tf2); have R5 := (HR.out.on ((Below.refl U.heap.size U).alloc (Nat.le_refl _) (.cells #[.int .i64 k] 3)) (by omega)).far HG.out (by simp; omega) hBo; obtain ⟨e0, e1, e2, f0, f1, f2⟩ := R5)
  have hl4 : ∀ b, Value.ownBlock (.slice b3 L3 d3) = some b → b < w3.heap.size := fun b e => (hl3 b e).2
  have hAU : Below U.heap.size U (U.alloc (.cells #[.int .i64 k] 3)) := (Below.refl U.heap.size U).alloc (Nat.le_refl _) _
  have p1 : OwnI w2.heap.size w5 (.slice (some ⟨g1, 0, none⟩) L1 d1) s.g := (HO1.out.on hAU).kept HG.out (.inr hd1.symm)
  have p2 : OwnB w2.heap.size w5 (.slice (some ⟨g2, 0, none⟩) L2 d2) (s.u.set k false) := (HO2.out.on hAU).kept HG.out (.inr hd2.symm)
  have p3 : OwnI w2.heap.size w5 (.slice (some ⟨gg, 0, none⟩) (L3 + 1) cap1) (s.f ++ [(k : Int)]) := by
    unfold OwnI
    rw [List.length_append, HL3.out]
    simpa [intVs] using HOW.out
  have ng1 : g1 ≠ w3.heap.size := by omega
  have ngg : gg ≠ w3.heap.size := by
    rcases HT.out with e | e
    · have := hl4 gg e; omega
    · simp at e; omega
  have hb2 : w.heap.size + 1 + 1 < w2.heap.size := by omega
  have pb : Below w.heap.size w w5 := (HW4.out.trans (hAU.mono (by omega))).grown HG.out (by simp; omega) (fun b e => by have := (hl3 b e).1; omega)
  have P1 := Lib.hid (OwnI.at' ((((p1.set_ne (B := w3.heap.size) (o := 2) (x := .slice (some ⟨gg, 0, none⟩) (L3 + 1) cap1) ng1).set (B := w.heap.size + 1 + 1) (o := 0) (x := .slice (some ⟨g1, 0, none⟩) L1 d1) hb2).set (B := w.heap.size + 1 + 1) (o := 1) (x := .slice (some ⟨g2, 0, none⟩) L2 d2) hb2).set (B := w.heap.size + 1 + 1) (o := 2) (x := .slice (some ⟨gg, 0, none⟩) (L3 + 1) cap1) hb2))
  have P2 := Lib.hid (OwnB.at' ((((p2.set_ne (B := w3.heap.size) (o := 2) (x := .slice (some ⟨gg, 0, none⟩) (L3 + 1) cap1) ne2).set (B := w.heap.size + 1 + 1) (o := 0) (x := .slice (some ⟨g1, 0, none⟩) L1 d1) hb2).set (B := w.heap.size + 1 + 1) (o := 1) (x := .slice (some ⟨g2, 0, none⟩) L2 d2) hb2).set (B := w.heap.size + 1 + 1) (o := 2) (x := .slice (some ⟨gg, 0, none⟩) (L3 + 1) cap1) hb2))
  have P3 := Lib.hid (OwnI.at' ((((p3.set_ne (B := w3.heap.size) (o := 2) (x := .slice (some ⟨gg, 0, none⟩) (L3 + 1) cap1) ngg).set (B := w.heap.size + 1 + 1) (o := 0) (x := .slice (some ⟨g1, 0, none⟩) L1 d1) hb2).set (B := w.heap.size + 1 + 1) (o := 1) (x := .slice (some ⟨g2, 0, none⟩) L2 d2) hb2).set (B := w.heap.size + 1 + 1) (o := 2) (x := .slice (some ⟨gg, 0, none⟩) (L3 + 1) cap1) hb2))
  have P4 := Lib.hid (below_set3 (pb.setCell (p := ⟨w3.heap.size, 2, none⟩) (show w.heap.size ≤ w3.heap.size by omega) (.slice (some ⟨gg, 0, none⟩) (L3 + 1) cap1)) (show w.heap.size ≤ w.heap.size + 1 + 1 by omega) (.slice (some ⟨g1, 0, none⟩) L1 d1) (.slice (some ⟨g2, 0, none⟩) L2 d2) (.slice (some ⟨gg, 0, none⟩) (L3 + 1) cap1))
  clear p1 p2 p3 pb hAU
  go_wp2
  refine bodyPost_ret (v := .tuple #[.agg #[.slice (some ⟨g1, 0, none⟩) L1 d1, .slice (some ⟨g2, 0, none⟩) L2 d2, .slice (some ⟨gg, 0, none⟩) (L3 + 1) cap1], .int .i64 0]) (by simp [results, Try.results25, go_sem, e0, e1, e2]) rfl ⟨_, _, _, _, _, _, rfl, ⟨P1.out, P2.out, P3.out⟩, P4.out⟩
theorem rtake_to (a1 a2 a3 : Option Addr) (c1 c2 c3 L1 L2 L3 : Nat) (s : Sl) (h1 : s.g.length = L1) (h2 : s.u.length = L2) (h3 : s.f.length = L3) (t : Sl) (p g er : Int) (ht : s.take = (t, (p, g), er)) (M1 M2 M3 : Nat) (m1 : t.g.length = M1) (m2 : t.u.length = M2) (m3 : t.f.length = M3)
    (l3 : L3 ≤ 1000) (w : World) (h : SlotsAt w.heap.size w a1 a2 a3 s.g s.u s.f) :
    Calls Try.prog 23 #[.agg #[.slice a1 L1 c1, .slice a2 L2 c2, .slice a3 L3 c3]] w fun e w' => ∃ b1 b2 b3 d1 d2 d3, e = .returned (.tuple #[.agg #[.slice b1 M1 d1, .slice b2 M2 d2, .slice b3 M3 d3], .agg #[.int .i64 p, .int .i64 g], .int .i64 er]) ∧
      SlotsAt w'.heap.size w' b1 b2 b3 t.g t.u t.f ∧ M3 ≤ d3 ∧ Below w.heap.size w w' := by
  unfold Sl.take at ht
  cases hr : s.right with
  | false =>
    rw [hr] at ht
    simp only [Bool.false_eq_true, if_false, Prod.mk.injEq] at ht
    obtain ⟨rfl, ⟨rfl, rfl⟩, rfl⟩ := ht
    simp only [nilS, List.length_nil] at m1 m2 m3
    subst m1 m2 m3
    refine (rtake_wrong a1 a2 a3 c1 c2 c3 L1 L2 L3 s h1 h2 h3 l3 w h hr).mono ?_
    rintro e w' ⟨rfl, hb⟩
    exact ⟨_, _, _, _, _, _, rfl, nil_at _ _ _ _ _, Nat.le_refl _, hb⟩
  | true =>
    rw [hr] at ht
    simp only [if_true] at ht
    have R := (right_iff s).1 hr
    cases hl : s.f.getLast? with
    | none =>
      rw [hl] at ht
      simp only [Prod.mk.injEq] at ht
      obtain ⟨rfl, ⟨rfl, rfl⟩, rfl⟩ := ht
      simp only [nilS, List.length_nil] at m1 m2 m3
      subst m1 m2 m3
      have hf : s.f = [] := List.getLast?_eq_none_iff.1 hl
      have : L3 = 0 := by rw [← h3, hf]; rfl
      subst this
      refine (rtake_none a1 a2 a3 c1 c2 c3 L1 L2 s h1 h2 hf w h hr).mono ?_
      rintro e w' ⟨rfl, hb⟩
      exact ⟨_, _, _, _, _, _, rfl, nil_at _ _ _ _ _, Nat.le_refl _, hb⟩
    | some x =>
      rw [hl] at ht
      obtain ⟨fs, hf⟩ : ∃ fs, s.f = fs ++ [x] := List.getLast?_eq_some_iff.1 hl
      have hx := R.free x (by rw [hf]; simp)
      obtain ⟨k, rfl⟩ : ∃ k : Nat, x = k := ⟨x.toNat, by have := hx.1; omega⟩
      have hk : k < L1 := by have := hx.2.1; have := R.l3; omega
      obtain ⟨q, hq⟩ : ∃ q, s.g[k]? = some q := ⟨_, List.getElem?_eq_getElem (by omega)⟩
      simp only [Int.toNat_natCast, hq, Option.getD_some] at ht
      by_cases hm : q = 1000000000
      · subst hm
        simp only [if_true, Prod.mk.injEq] at ht
        obtain ⟨rfl, ⟨rfl, rfl⟩, rfl⟩ := ht
        simp only [nilS, List.length_nil] at m1 m2 m3
        subst m1 m2 m3
        refine (rtake_max a1 a2 a3 c1 c2 c3 L1 L2 L3 fs.length k s fs h1 h2 h3 hf rfl hk hq w h hr).mono ?_
        rintro e w' ⟨rfl, hb⟩
        exact ⟨_, _, _, _, _, _, rfl, nil_at _ _ _ _ _, Nat.le_refl _, hb⟩
      · simp only [hm, if_false, Prod.mk.injEq] at ht
        obtain ⟨rfl, ⟨rfl, rfl⟩, rfl⟩ := ht
        have hg := R.gen q (by obtain ⟨hj, e⟩ := List.getElem?_eq_some_iff.1 hq; rw [← e]; exact List.getElem_mem hj)
        have hdl : s.f.dropLast = fs := by rw [hf, List.dropLast_concat]
        simp only [hdl] at m3 ⊢
        simp only [List.length_set] at m1 m2
        have e1 : L1 = M1 := by omega
        have e2 : L2 = M2 := by omega
        subst e1 e2 m3
        refine (rtake_ok a1 a2 a3 c1 c2 c3 L1 L2 L3 fs.length k q s fs h1 h2 h3 hf rfl hk hq hg.1 (by omega) w h hr).mono ?_
        rintro e w' ⟨g1, g2, g3, d1, d2, d3, rfl, hS, hl, hb⟩
        exact ⟨_, _, _, _, _, _, rfl, hS, hl, hb⟩

theorem rgive_to (a1 a2 a3 : Option Addr) (c1 c2 c3 L1 L2 L3 : Nat) (s : Sl) (h1 : s.g.length = L1) (h2 : s.u.length = L2) (h3 : s.f.length = L3) (p g : Int) (t : Sl) (er : Int) (ht : s.give (p, g) = (t, er)) (M1 M2 M3 : Nat) (m1 : t.g.length = M1) (m2 : t.u.length = M2) (m3 : t.f.length = M3)
    (l3 : L3 ≤ 1000) (w : World) (h : SlotsAt w.heap.size w a1 a2 a3 s.g s.u s.f) :
    Calls Try.prog 25 #[.agg #[.slice a1 L1 c1, .slice a2 L2 c2, .slice a3 L3 c3], .agg #[.int .i64 p, .int .i64 g]] w fun e w' => ∃ b1 b2 b3 d1 d2 d3, e = .returned (.tuple #[.agg #[.slice b1 M1 d1, .slice b2 M2 d2, .slice b3 M3 d3], .int .i64 er]) ∧
      SlotsAt w'.heap.size w' b1 b2 b3 t.g t.u t.f ∧ Below w.heap.size w w' := by
  unfold Sl.give at ht
  cases hr : s.right with
  | false =>
    rw [hr] at ht
    simp only [Bool.false_eq_true, if_false, Prod.mk.injEq] at ht
    obtain ⟨rfl, rfl⟩ := ht
    simp only [nilS, List.length_nil] at m1 m2 m3
    subst m1 m2 m3
    refine (rgive_wrong a1 a2 a3 c1 c2 c3 L1 L2 L3 s p g h1 h2 h3 l3 w h hr).mono ?_
    rintro e w' ⟨rfl, hb⟩
    exact ⟨_, _, _, _, _, _, rfl, nil_at _ _ _ _ _, hb⟩
  | true =>
    rw [hr] at ht
    simp only [if_true] at ht
    cases hv : s.valid (p, g) with
    | false =>
      rw [hv] at ht
      simp only [Bool.false_eq_true, if_false, Prod.mk.injEq] at ht
      obtain ⟨rfl, rfl⟩ := ht
      simp only [nilS, List.length_nil] at m1 m2 m3
      subst m1 m2 m3
      refine (rgive_old a1 a2 a3 c1 c2 c3 L1 L2 L3 s p g h1 h2 h3 l3 w h hr hv).mono ?_
      rintro e w' ⟨rfl, hb⟩
      exact ⟨_, _, _, _, _, _, rfl, nil_at _ _ _ _ _, hb⟩
    | true =>
      rw [hv] at ht
      simp only [if_true, Prod.mk.injEq] at ht
      obtain ⟨rfl, rfl⟩ := ht
      have hlive : Live s (p, g) := by
        unfold Sl.valid at hv
        exact of_decide_eq_true (Bool.and_eq_true _ _ ▸ hv : _ ∧ _).2
      obtain ⟨k, rfl⟩ : ∃ k : Nat, p = k := ⟨p.toNat, by have := hlive.1; simp only at this; omega⟩
      simp only [List.length_set, List.length_append, List.length_cons, List.length_nil, Int.toNat_natCast] at *
      have e1 : L1 = M1 := by omega
      have e2 : L2 = M2 := by omega
      have e3 : L3 + 1 = M3 := by omega
      subst e1 e2 e3
      exact rgive_ok a1 a2 a3 c1 c2 c3 L1 L2 L3 k s g h1 h2 h3 w h hr hv

end Go.Proofs.Ytbalebnhjpjhgaa.L9

/- New slots, taken one after the other, plainly; slots in memory where a variable is written. -/
namespace Go.Proofs.Ytbalebnhjpjhgaa.L9
open Go.RowKit

/-- New slots of which k are taken. -/
def newT (n k : Nat) : Sl := ⟨List.replicate k 1 ++ List.replicate (n - k) 0, List.replicate k true ++ List.replicate (n - k) false, frees n (n - k)⟩
theorem newT_zero (n : Nat) : newT n 0 = newS n := by simp [newT, newS]
theorem frees_mem {n m : Nat} (h : m ≤ n) {x : Int} (hx : x ∈ frees n m) : 0 ≤ x ∧ x < n := by
  obtain ⟨j, hj, rfl⟩ := List.mem_map.1 hx
  have := List.mem_range.1 hj
  omega
theorem frees_nodup (n m : Nat) : (frees n m).Nodup := by
  unfold frees
  induction m with
  | zero => simp
  | succ m ih =>
    rw [List.range_succ, List.map_append, List.nodup_append]
    refine ⟨ih, by simp, ?_⟩
    rintro a ha b hb rfl
    obtain ⟨j, hj, e⟩ := List.mem_map.1 ha
    have := List.mem_range.1 hj
    simp at hb
    omega
theorem newS_right {n : Nat} (h1 : 1 ≤ n) (h2 : n ≤ 64) : RightS (newS n) := by
  refine ⟨by simpa [newS] using h1, by simpa [newS] using h2, by simp [newS], by simp [newS, frees_length], ?_, ?_, frees_nodup _ _, ?_⟩
  · intro g hg
    simp only [newS, List.mem_replicate] at hg
    omega
  · intro x hx
    have := frees_mem (Nat.le_refl n) hx
    refine ⟨this.1, by simpa [newS] using this.2, ?_⟩
    have hl : x.toNat < n := by omega
    simp [newS, hl]
  · rw [takenOf_length]
    simp [newS, frees_length, List.count_replicate]
theorem set_mid {α : Type} (l : List α) (x y : α) (r : List α) : (l ++ x :: r).set l.length y = l ++ y :: r := by
  induction l with
  | nil => rfl
  | cons z l ih => simp [ih]
theorem set_rep {α : Type} (x y : α) (k m : Nat) : (List.replicate k y ++ List.replicate (m + 1) x).set k y = List.replicate (k + 1) y ++ List.replicate m x := by
  have := set_mid (List.replicate k y) x y (List.replicate m x)
  rw [List.length_replicate] at this
  rw [List.replicate_succ (n := m), this, List.replicate_succ' (n := k)]
  simp
theorem newT_taken {n k : Nat} (h : k < n) : newT n (k + 1) = (newT n k).taken (frees n (n - k - 1)) k 0 := by
  obtain ⟨m, rfl⟩ : ∃ m, n = k + 1 + m := ⟨n - k - 1, by omega⟩
  have e1 : k + 1 + m - (k + 1) = m := by omega
  have e2 : k + 1 + m - k = m + 1 := by omega
  unfold newT Sl.taken
  rw [e1, e2]
  simp only [Sl.mk.injEq]
  refine ⟨?_, ?_, by congr 1⟩
  · exact (set_rep _ _ k m).symm
  · exact (set_rep _ _ k m).symm
theorem newT_f {n k : Nat} (h : k < n) : (newT n k).f = frees n (n - k - 1) ++ [(k : Int)] := by
  have : n - k = n - k - 1 + 1 := by omega
  unfold newT
  simp only
  rw [this, frees_succ]
  congr 1
  simp
  omega
theorem newT_g {n k : Nat} (h : k < n) : (newT n k).g[k]? = some 0 := by
  obtain ⟨m, rfl⟩ : ∃ m, n = k + 1 + m := ⟨n - k - 1, by omega⟩
  unfold newT
  simp only
  rw [List.getElem?_append_right (by simp), List.length_replicate, Nat.sub_self, show k + 1 + m - k = m + 1 by omega]
  simp [List.replicate_succ]
theorem newT_right {n : Nat} (h1 : 1 ≤ n) (h2 : n ≤ 64) (k : Nat) (hk : k ≤ n) : RightS (newT n k) := by
  induction k with
  | zero => rw [newT_zero]; exact newS_right h1 h2
  | succ k ih =>
    rw [newT_taken (by omega)]
    exact taken_right (ih (by omega)) (newT_f (by omega)) (newT_g (by omega)) (by omega)
theorem newT_take {n k : Nat} (h1 : 1 ≤ n) (h2 : n ≤ 64) (h : k < n) : (newT n k).take = (newT n (k + 1), ((k : Int), 1), 0) := by
  have R := newT_right h1 h2 k (by omega)
  unfold Sl.take
  rw [(right_iff _).2 R, newT_f h]
  simp only [if_true, List.getLast?_append, List.getLast?_singleton, Option.some_or, Int.toNat_natCast, newT_g h, Option.getD_some, List.dropLast_concat]
  rw [newT_taken h]
  rfl
theorem newT_full {n : Nat} (h1 : 1 ≤ n) (h2 : n ≤ 64) : (newT n n).take = (nilS, (0, 0), 92) := by
  have R := newT_right h1 h2 n (Nat.le_refl _)
  unfold Sl.take
  rw [(right_iff _).2 R]
  simp [newT, frees]
theorem newT_all {n k : Nat} (h1 : 1 ≤ n) (h2 : n ≤ 64) (h : k ≤ n) : (newT n k).all.length = k := by
  unfold Sl.all
  rw [(right_iff _).2 (newT_right h1 h2 k h), if_pos rfl, takenOf_length]
  simp [newT, List.count_append, List.count_replicate]
theorem newT_len {n k : Nat} (h : k ≤ n) : (newT n k).g.length = n ∧ (newT n k).u.length = n ∧ (newT n k).f.length = n - k := by
  refine ⟨by simp [newT]; omega, by simp [newT]; omega, by simp [newT, frees_length]⟩

/-- A cell that holds a slice is none of those. -/
theorem IntsAt.over {n₀ X o : Nat} {W : World} {a : Option Addr} {zs : List Int} {v : Value} {b : Option Addr} {l c : Nat} (h : IntsAt n₀ W a zs) (hc : W.cell? ⟨X, o, none⟩ = some (.slice b l c)) : IntsAt n₀ (W.setCell ⟨X, o, none⟩ v) a zs := fun i hi => by
  obtain ⟨b', off, e, hb, hci⟩ := h i hi
  refine ⟨b', off, e, hb, ?_⟩
  rw [World.cell?_setCell_other _ _ _ _ (fun e => by rw [← e, hc] at hci; cases hci), hci]
theorem BoolsAt.over {n₀ X o : Nat} {W : World} {a : Option Addr} {zs : List Bool} {v : Value} {b : Option Addr} {l c : Nat} (h : BoolsAt n₀ W a zs) (hc : W.cell? ⟨X, o, none⟩ = some (.slice b l c)) : BoolsAt n₀ (W.setCell ⟨X, o, none⟩ v) a zs := fun i hi => by
  obtain ⟨b', off, e, hb, hci⟩ := h i hi
  refine ⟨b', off, e, hb, ?_⟩
  rw [World.cell?_setCell_other _ _ _ _ (fun e => by rw [← e, hc] at hci; cases hci), hci]
/-- A variable of slots. -/
structure VarS (X : Nat) (a1 a2 a3 : Option Addr) (L1 L2 L3 c1 c2 c3 : Nat) (W : World) : Prop where
  e0 : W.cell? ⟨X, 0, none⟩ = some (.slice a1 L1 c1)
  e1 : W.cell? ⟨X, 1, none⟩ = some (.slice a2 L2 c2)
  e2 : W.cell? ⟨X, 2, none⟩ = some (.slice a3 L3 c3)
  f0 : W.frozen? ⟨X, 0, none⟩ = false
  f1 : W.frozen? ⟨X, 1, none⟩ = false
  f2 : W.frozen? ⟨X, 2, none⟩ = false
theorem VarS.on {X n : Nat} {a1 a2 a3 : Option Addr} {L1 L2 L3 c1 c2 c3 : Nat} {W W' : World} (h : VarS X a1 a2 a3 L1 L2 L3 c1 c2 c3 W) (hb : Below n W W') (hB : X < n) : VarS X a1 a2 a3 L1 L2 L3 c1 c2 c3 W' :=
  ⟨(hb.cell (p := ⟨X, 0, none⟩) hB).trans h.e0, (hb.cell (p := ⟨X, 1, none⟩) hB).trans h.e1, (hb.cell (p := ⟨X, 2, none⟩) hB).trans h.e2, (hb.frozen (p := ⟨X, 0, none⟩) hB).trans h.f0, (hb.frozen (p := ⟨X, 1, none⟩) hB).trans h.f1, (hb.frozen (p := ⟨X, 2, none⟩) hB).trans h.f2⟩
theorem VarS.lt {X : Nat} {a1 a2 a3 : Option Addr} {L1 L2 L3 c1 c2 c3 : Nat} {W : World} (h : VarS X a1 a2 a3 L1 L2 L3 c1 c2 c3 W) : X < W.heap.size := blt h.e0
theorem VarS.new (W : World) (t : TypeId) (a1 a2 a3 : Option Addr) (L1 L2 L3 c1 c2 c3 : Nat) : VarS W.heap.size a1 a2 a3 L1 L2 L3 c1 c2 c3 (W.alloc (.cells #[.slice a1 L1 c1, .slice a2 L2 c2, .slice a3 L3 c3] t)) := by constructor <;> go_simp
/-- The world where it is written. -/
def put3 (W : World) (X : Nat) (v0 v1 v2 : Value) : World := ((W.setCell ⟨X, 0, none⟩ v0).setCell ⟨X, 1, none⟩ v1).setCell ⟨X, 2, none⟩ v2
theorem VarS.put {X : Nat} {a1 a2 a3 : Option Addr} {L1 L2 L3 c1 c2 c3 : Nat} {W : World} (h : VarS X a1 a2 a3 L1 L2 L3 c1 c2 c3 W) (b1 b2 b3 : Option Addr) (M1 M2 M3 d1 d2 d3 : Nat) :
    VarS X b1 b2 b3 M1 M2 M3 d1 d2 d3 (put3 W X (.slice b1 M1 d1) (.slice b2 M2 d2) (.slice b3 M3 d3)) := by
  obtain ⟨e0, e1, e2, f0, f1, f2⟩ := h
  unfold put3
  constructor <;> go_simp
theorem SlotsAt.put {n X : Nat} {a1 a2 a3 : Option Addr} {L1 L2 L3 c1 c2 c3 : Nat} {W : World} {x1 x2 x3 : Option Addr} {s : Sl} (k : SlotsAt n W x1 x2 x3 s.g s.u s.f) (h : VarS X a1 a2 a3 L1 L2 L3 c1 c2 c3 W) (b1 b2 b3 : Option Addr) (M1 M2 M3 d1 d2 d3 : Nat) :
    SlotsAt n (put3 W X (.slice b1 M1 d1) (.slice b2 M2 d2) (.slice b3 M3 d3)) x1 x2 x3 s.g s.u s.f := by
  have y1 : (W.setCell ⟨X, 0, none⟩ (.slice b1 M1 d1)).cell? ⟨X, 1, none⟩ = some (.slice a2 L2 c2) := (World.cell?_setCell_other _ _ _ _ (by simp)).trans h.e1
  have y2 : ((W.setCell ⟨X, 0, none⟩ (.slice b1 M1 d1)).setCell ⟨X, 1, none⟩ (.slice b2 M2 d2)).cell? ⟨X, 2, none⟩ = some (.slice a3 L3 c3) := (World.cell?_setCell_other _ _ _ _ (by simp)).trans ((World.cell?_setCell_other _ _ _ _ (by simp)).trans h.e2)
  exact ⟨((k.g.over h.e0).over y1).over y2, ((k.u.over h.e0).over y1).over y2, ((k.f.over h.e0).over y1).over y2⟩
theorem put3_size (W : World) (X : Nat) (v0 v1 v2 : Value) : (put3 W X v0 v1 v2).heap.size = W.heap.size := by simp [put3, World.setCell]
theorem put3_below {n X : Nat} {w W : World} (h : Below n w W) (hX : n ≤ X) (v0 v1 v2 : Value) : Below n w (put3 W X v0 v1 v2) := below_set3 h hX v0 v1 v2
end Go.Proofs.Ytbalebnhjpjhgaa.L9

/- An argument that is slots, opened. -/
namespace Go.Proofs.Ytbalebnhjpjhgaa.L9
open Go.RowKit Go.ChangeShapes Go.WideShapes Go.Deep Go.Joins Go.ChangeAt

section
variable {H : Type} {enc : TypeId × Value → H} {W : World} {held : Bool}
theorem one3 : Try.prog.cellsOf 3 = 1 := by kernel_rfl
theorem one4 : Try.prog.cellsOf 4 = 1 := by kernel_rfl
theorem three25 : Try.prog.cellsOf 25 = 3 := by kernel_rfl

theorem open_int_cells {fuel : Nat} {v : Value} {x : DataW H × List MemPlace} (h : DataW.trod enc Try.prog W 0 (fun _ => true) held fuel 22 [v] = some x) :
    ∃ (a : Option Addr) (c : Nat) (zs : List Int), v = .slice a zs.length c ∧ zs.length ≤ c ∧ IntsAt W.heap.size W a zs := by
  rcases open_ints Try.underlying22 Try.underlying3 one3 h with ⟨hcs, _⟩ | ⟨a, len, cap, zs, hcs, _, hl, _, hz, _, hcell, _⟩
  · simp at hcs
    exact ⟨none, 0, [], hcs, Nat.le_refl _, IntsAt.nil _ _ _⟩
  · simp at hcs
    have hz' : zs.length = cap := by simpa using hz
    refine ⟨some a, cap, zs.take len, by rw [hcs, List.length_take, hz', Nat.min_eq_left hl], by rw [List.length_take]; omega, fun i hi => ?_⟩
    have hi' : i < zs.length := by simp at hi; omega
    have hc := hcell i hi'
    obtain ⟨b, o, spot⟩ := a
    have hspot : spot = none := by simpa [Addr.add] using World.cell?_spot (hcell 0 (by omega))
    subst hspot
    rw [add_at] at hc
    exact ⟨b, o, rfl, blt hc, by rw [hc, List.getElem_take, List.getD_eq_getElem?_getD, List.getElem?_eq_getElem hi', Option.getD_some]⟩
theorem open_bool_cells {fuel : Nat} {v : Value} {x : DataW H × List MemPlace} (h : DataW.trod enc Try.prog W 0 (fun _ => true) held fuel 23 [v] = some x) :
    ∃ (a : Option Addr) (c : Nat) (us : List Bool), v = .slice a us.length c ∧ us.length ≤ c ∧ BoolsAt W.heap.size W a us := by
  rcases open_bools Try.underlying23 Try.underlying4 one4 h with ⟨hcs, _⟩ | ⟨a, len, cap, B, hcs, _, hl, _, _, hcell⟩
  · simp at hcs
    exact ⟨none, 0, [], hcs, Nat.le_refl _, BoolsAt.nil _ _ _⟩
  · simp at hcs
    refine ⟨some a, cap, (List.range len).map B, by rw [hcs]; simp, by simpa using hl, fun i hi => ?_⟩
    have hi' : i < len := by simpa using hi
    have hc := hcell i (by omega)
    obtain ⟨b, o, spot⟩ := a
    have hspot : spot = none := by simpa [Addr.add] using World.cell?_spot (hcell 0 (by omega))
    subst hspot
    rw [add_at] at hc
    exact ⟨b, o, rfl, blt hc, by rw [hc]; simp⟩
theorem open_slots {b0 : Nat} {v : Value} {d : DataW H} {ps : List MemPlace} (hv : Value.okWide Try.prog W .any b0 25 v) (h : DataW.Trod enc Try.prog W 0 (fun _ => true) held 25 v d ps) :
    ∃ (a1 a2 a3 : Option Addr) (c1 c2 c3 : Nat) (s : Sl), v = .agg #[.slice a1 s.g.length c1, .slice a2 s.u.length c2, .slice a3 s.f.length c3] ∧ (s.g.length ≤ c1 ∧ s.u.length ≤ c2 ∧ s.f.length ≤ c3) ∧ SlotsAt W.heap.size W a1 a2 a3 s.g s.u s.f := by
  obtain ⟨v0, v1, v2, y0, y1, y2, n, rfl, _, _, h0, h1, h2⟩ := open_agg3 Try.underlying25 (by kernel_rfl) three25 hv h
  obtain ⟨a1, c1, g, rfl, k1, i1⟩ := open_int_cells h0
  obtain ⟨a2, c2, u, rfl, k2, i2⟩ := open_bool_cells h1
  obtain ⟨a3, c3, f, rfl, k3, i3⟩ := open_int_cells h2
  exact ⟨a1, a2, a3, c1, c2, c3, ⟨g, u, f⟩, rfl, ⟨k1, k2, k3⟩, i1, i2, i3⟩
end
end Go.Proofs.Ytbalebnhjpjhgaa.L9

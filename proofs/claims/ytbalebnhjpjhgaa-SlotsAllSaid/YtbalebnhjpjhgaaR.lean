/- Give: the handle is valid. -/
import Derived.Test.YtbalebnhjpjhgaaQ
namespace Go.Proofs.Ytbalebnhjpjhgaa
open Go.RowKit

theorem keep_alloc_f {W : World} {b o : Nat} {v : Value} {f : Bool} (X : Obj) (h : W.cell? ⟨b, o, none⟩ = some v) (hf : W.frozen? ⟨b, o, none⟩ = f) : (W.alloc X).frozen? ⟨b, o, none⟩ = f :=
  (World.frozen?_of_block (w := W) (Below.heap_alloc W X b (blt h))).trans hf
theorem Fr3.far {B : Nat} {W W' : World} {row : Option Nat} (h : Fr3 B W) (hg : W.grownBy W' row) (hB : B < W.heap.size) (hne : row ≠ some B) : Fr3 B W' :=
  ⟨(hg.cell_far ⟨B, 0, none⟩ hB hne.symm).trans h.e0, (hg.cell_far ⟨B, 1, none⟩ hB hne.symm).trans h.e1, (hg.cell_far ⟨B, 2, none⟩ hB hne.symm).trans h.e2, (hg.frozen_far ⟨B, 0, none⟩ hB hne.symm).trans h.f0, (hg.frozen_far ⟨B, 1, none⟩ hB hne.symm).trans h.f1, (hg.frozen_far ⟨B, 2, none⟩ hB hne.symm).trans h.f2⟩

set_option maxRecDepth 100000 in
set_option maxHeartbeats 4000000 in
theorem give_ok (a1 a2 a3 : Option Addr) (c1 c2 c3 L1 L2 L3 k : Nat) (s : Sl) (g : Int) (h1 : s.g.length = L1) (h2 : s.u.length = L2) (h3 : s.f.length = L3) (w : World) (h : SlotsAt w.heap.size w a1 a2 a3 s.g s.u s.f) (hr : s.right = true) (hv : s.valid ((k : Int), g) = true) :
    Calls Try.prog 24 #[.agg #[.slice a1 L1 c1, .slice a2 L2 c2, .slice a3 L3 c3], .agg #[.int .i64 k, .int .i64 g]] w fun e w' => ∃ b1 b2 b3 d1 d2 d3, e = .returned (.tuple #[.agg #[.slice b1 L1 d1, .slice b2 L2 d2, .slice b3 (L3 + 1) d3], .int .i64 0]) ∧
      SlotsAt w'.heap.size w' b1 b2 b3 s.g (s.u.set k false) (s.f ++ [(k : Int)]) ∧ Below w.heap.size w w' := by
  obtain ⟨R1, R2, R3, R4, _⟩ := (right_iff s).1 hr
  have hlive : Live s ((k : Int), g) := by
    unfold Sl.valid at hv
    exact of_decide_eq_true (Bool.and_eq_true _ _ ▸ hv : _ ∧ _).2
  have hk : k < L2 := by have := hlive.2.1; simp only at this; omega
  obtain ⟨x, hx⟩ : ∃ x, s.u[k]? = some x := ⟨_, List.getElem?_eq_getElem (by omega)⟩
  have H := Lib.hid (fun w hS => right2_any a1 a2 a3 c1 c2 c3 L1 L2 L3 s h1 h2 h3 w hS)
  have G := Lib.hid (fun w hS => valid_any a1 a2 a3 c1 c2 c3 L1 L2 L3 s k g h1 h2 h3 w hS)
  have H2 := Lib.hid (fun w hS => copy4_any a1 a2 a3 c1 c2 c3 L1 L2 L3 s h1 h2 h3 (by omega) (by omega) (by omega) (by omega) (by omega) w hS)
  rw [hr] at H
  rw [hv] at G
  have HS := Lib.hid h
  have HL1 := Lib.hid h1
  have HL2 := Lib.hid h2
  have HL3 := Lib.hid h3
  have HX := Lib.hid hx
  have hk2 : (k : Int) < (L2 : Int) := by omega
  have hL3 : L3 ≤ 64 := by omega
  obtain ⟨i0, hi0, hz0, hzz1, hzz2⟩ := info_parts info3
  have hA : Below w.heap.size w (((w.alloc (.cells #[.slice a1 L1 c1, .slice a2 L2 c2, .slice a3 L3 c3] 25)).alloc (.cells #[.int .i64 k, .int .i64 g] 27)).alloc (.cells #[.slice none 0 0, .slice none 0 0, .slice none 0 0] 25)) := (((Below.refl _ _).alloc (Nat.le_refl _) _).alloc (by simp) _).alloc (by simp; omega) _
  clear h hr h1 h2 h3 hv hlive R1 R2 R3 R4 hx
  go_enter Try.func24, Try.ntmps24
  go_wp2_with fail
  refine (H.out _ (HS.out.on hA)).mono ?_
  rintro e w1 ⟨rfl, hb1⟩
  have hz1 := hb1.size
  have hW := hA.trans (hb1.mono hA.size)
  have r3 := (Fr3.new ((w.alloc (.cells #[.slice a1 L1 c1, .slice a2 L2 c2, .slice a3 L3 c3] 25)).alloc (.cells #[.int .i64 k, .int .i64 g] 27)) 25).on hb1 (by simp)
  obtain ⟨hc1, hf1⟩ := bcell hb1
  simp only [World.size_alloc] at r3 hz1
  clear hb1 hA
  go_wp2_with fail
  refine (G.out _ (HS.out.on hW)).mono ?_
  rintro e w2 ⟨rfl, hb2⟩
  have hz2 := hb2.size
  have hW2 := hW.trans (hb2.mono hW.size)
  have r3 := r3.on hb2 (by omega)
  obtain ⟨hc2, hf2⟩ := bcell hb2
  have q0 : w2.cell? ⟨w.heap.size + 1, 0, none⟩ = some (.int .i64 k) := (hb2.cell (p := ⟨w.heap.size + 1, 0, none⟩) (show w.heap.size + 1 < w1.heap.size by omega)).trans (by go_simp)
  clear hb2 hW
  have hy1 : w.heap.size < w1.heap.size := by omega
  go_wp2_with fail
  refine (H2.out _ (HS.out.on hW2)).mono ?_
  rintro e w3 ⟨g1, g2, b3, d1, d2, d3, rfl, o1, o2, o3, hd1, hd2, hb3⟩
  have hz3 := hb3.size
  have hW3 := hW2.trans (hb3.mono hW2.size)
  have r3 := r3.on hb3 (by omega)
  have q0 := (hb3.cell (p := ⟨w.heap.size + 1, 0, none⟩) (show w.heap.size + 1 < w2.heap.size by omega)).trans q0
  obtain ⟨lo1, hi1⟩ := o1.lt g1 rfl
  obtain ⟨lo2, hi2⟩ := o2.lt g2 rfl
  have hl3 := o3.lt
  have x2 := o2.cell HL2.out HX.out
  have fr2 := o2.frozen HL2.out k
  have ne12 : g1 ≠ g2 := own_ne o1 o2
  have hX : Below w3.heap.size w3 (w3.alloc (.cells #[.slice (some ⟨g1, 0, none⟩) L1 d1, .slice (some ⟨g2, 0, none⟩) L2 d2, .slice b3 L3 d3] 47)) := (Below.refl w3.heap.size w3).alloc (Nat.le_refl _) _
  have ne2 : g2 ≠ w3.heap.size := by omega
  have O1 : OwnI w2.heap.size ((w3.setCell ⟨g2, k, none⟩ (.bool false)).alloc (.cells #[.slice (some ⟨g1, 0, none⟩) L1 d1, .slice (some ⟨g2, 0, none⟩) L2 d2, .slice b3 L3 d3] 47)) _ _ := (o1.set_ne (B := g2) (o := k) (x := .bool false) ne12).alloc _
  have O2 : OwnB w2.heap.size ((w3.setCell ⟨g2, k, none⟩ (.bool false)).alloc (.cells #[.slice (some ⟨g1, 0, none⟩) L1 d1, .slice (some ⟨g2, 0, none⟩) L2 d2, .slice b3 L3 d3] 47)) _ _ := (o2.put HL2.out k false).alloc _
  have O3 : OwnI w2.heap.size ((w3.setCell ⟨g2, k, none⟩ (.bool false)).alloc (.cells #[.slice (some ⟨g1, 0, none⟩) L1 d1, .slice (some ⟨g2, 0, none⟩) L2 d2, .slice b3 L3 d3] 47)) _ _ := World.ownsRow.alloc (o3.kept (grownBy_setCell _ g2 k (.bool false)) (.inr hd2)) _
  have hS : Below w2.heap.size w3 (w3.setCell ⟨g2, k, none⟩ (.bool false)) := (Below.refl _ _).setCell (p := ⟨g2, k, none⟩) lo2 _
  have hSz : (w3.setCell ⟨g2, k, none⟩ (.bool false)).heap.size = w3.heap.size := by simp [World.setCell]
  have hX' : Below w2.heap.size w3 ((w3.setCell ⟨g2, k, none⟩ (.bool false)).alloc (.cells #[.slice (some ⟨g1, 0, none⟩) L1 d1, .slice (some ⟨g2, 0, none⟩) L2 d2, .slice b3 L3 d3] 47)) := hS.alloc (by omega) _
  have R3 := r3.on hX' (by omega)
  have hW4 : Below w.heap.size w ((w3.setCell ⟨g2, k, none⟩ (.bool false)).alloc (.cells #[.slice (some ⟨g1, 0, none⟩) L1 d1, .slice (some ⟨g2, 0, none⟩) L2 d2, .slice b3 L3 d3] 47)) := hW3.trans (hX'.mono (by omega))
  have hy3 : w.heap.size + 1 < w3.heap.size := by omega
  have nq2 : w.heap.size + 1 ≠ g2 := by omega
  have nr2 : w.heap.size + 1 + 1 ≠ g2 := by omega
  clear hb3 o1 o2 o3 hc1 hf1 hc2 hf2 hX
  go_upto_region 7 with fail
  obtain ⟨U, hU⟩ : ∃ U, U = ((w3.setCell ⟨g2, k, none⟩ (.bool false)).alloc (.cells #[.slice (some ⟨g1, 0, none⟩) L1 d1, .slice (some ⟨g2, 0, none⟩) L2 d2, .slice b3 L3 d3] 47)) := ⟨_, rfl⟩
  rw [← hU] at O1 O2 O3 R3 hW4 ⊢
  have t0 : U.cell? ⟨w3.heap.size, 0, none⟩ = some (.slice (some ⟨g1, 0, none⟩) L1 d1) := by rw [hU, ← hSz]; go_simp
  have t1 : U.cell? ⟨w3.heap.size, 1, none⟩ = some (.slice (some ⟨g2, 0, none⟩) L2 d2) := by rw [hU, ← hSz]; go_simp
  have t2 : U.cell? ⟨w3.heap.size, 2, none⟩ = some (.slice b3 L3 d3) := by rw [hU, ← hSz]; go_simp
  have tf2 : U.frozen? ⟨w3.heap.size, 2, none⟩ = false := by rw [hU, ← hSz]; go_simp
  have q1 : U.cell? ⟨w.heap.size + 1, 0, none⟩ = some (.int .i64 k) := by rw [hU]; go_simp
  have hUz : U.heap.size = w3.heap.size + 1 := by rw [hU, World.size_alloc, hSz]
  have hTo : Value.ownBlock (.slice b3 L3 d3) ≠ some w3.heap.size := fun e => by have := (hl3 _ e).2; omega
  have hBo : Value.ownBlock (.slice b3 L3 d3) ≠ some (w.heap.size + 1 + 1) := fun e => by have := (hl3 _ e).1; omega
  have O3r : U.ownsRow w2.heap.size 3 1 (.slice b3 L3 d3) L3 (intVs s.f) := by have := O3; unfold OwnI at this; rwa [HL3.out] at this
  have HO1 := Lib.hid O1
  have HO2 := Lib.hid O2
  have HO3 := Lib.hid O3r
  have HW4 := Lib.hid hW4
  have HR := Lib.hid R3
  clear O1 O2 O3 O3r hU hW4 R3 hS hSz hX' hW3 hW2 r3 q0 x2 fr2
  have hN : ∀ j u, [Value.int .i64 k][j]? = some u → (U.alloc (.cells #[.int .i64 k] 3)).cell? ((⟨w3.heap.size + 1, 0, none⟩ : Addr).add j) = some u := by rw [← hUz]; exact cell_one_new U _ _
  have hAz : w2.heap.size ≤ (U.alloc (.cells #[.int .i64 k] 3)).heap.size := by simp; omega
  have HN := Lib.hid hN
  have HAz := Lib.hid hAz
  clear hN hAz
  go_wp2_with (refine wpList_append_lies _ rfl _ _ _ rfl w2.heap.size 3 i0 _ 1 8 Try.underlying22 hi0 hz0 hzz1 hzz2 rfl (by omega) (.slice b3 L3 d3) L3 (intVs s.f) rfl (HO3.out.alloc _) ⟨w3.heap.size + 1, 0, none⟩ 1 1 [.int .i64 k] rfl (by rfl) HN.out (by simp [Value.oneCell']) (by omega) (by simp [maxLen]; omega) (by omega) HAz.out _ rfl ?_; intro gg cap1 w5 hown hgrow hat hlt; have HOW := Lib.hid hown; have HG := Lib.hid hgrow; have HT := Lib.hid hat; clear hown hgrow hat; have y0 := (HG.out.cell_far ⟨w3.heap.size, 0, none⟩ (by simp; omega) hTo.symm).trans (keep_alloc _ t0); have y1 := (HG.out.cell_far ⟨w3.heap.size, 1, none⟩ (by simp; omega) hTo.symm).trans (keep_alloc _ t1); have y2 := (HG.out.cell_far ⟨w3.heap.size, 2, none⟩ (by simp; omega) hTo.symm).trans (keep_alloc _ t2); have yf2 := (HG.out.frozen_far ⟨w3.heap.size, 2, none⟩ (by simp; omega) hTo.symm).trans (keep_alloc_f _ t2 tf2); have R5 := (HR.out.on ((Below.refl U.heap.size U).alloc (Nat.le_refl _) (.cells #[.int .i64 k] 3)) (by omega)).far HG.out (by simp; omega) hBo; obtain ⟨e0, e1, e2, f0, f1, f2⟩ := R5)
  have hl4 : ∀ b, Value.ownBlock (.slice b3 L3 d3) = some b → b < w3.heap.size := fun b e => (hl3 b e).2
  have hAU : Below U.heap.size U (U.alloc (.cells #[.int .i64 k] 3)) := (Below.refl U.heap.size U).alloc (Nat.le_refl _) _
  have p1 : OwnI w2.heap.size w5 (.slice (some ⟨g1, 0, none⟩) L1 d1) s.g := (HO1.out.on hAU).kept HG.out (.inr hd1.symm)
  have p2 : OwnB w2.heap.size w5 (.slice (some ⟨g2, 0, none⟩) L2 d2) (s.u.set k false) := (HO2.out.on hAU).kept HG.out (.inr hd2.symm)
  have p3 : OwnI w2.heap.size w5 (.slice (some ⟨gg, 0, none⟩) (L3 + 1) cap1) (s.f ++ [(k : Int)]) := by
    unfold OwnI
    rw [List.length_append, HL3.out]
    simpa [intVs] using HOW.out
  have ng1 : g1 ≠ w3.heap.size := by omega
  have ngg : gg ≠ w3.heap.size := by
    rcases HT.out with e | e
    · have := hl4 gg e; omega
    · simp at e; omega
  have hb2 : w.heap.size + 1 + 1 < w2.heap.size := by omega
  have pb : Below w.heap.size w w5 := (HW4.out.trans (hAU.mono (by omega))).grown HG.out (by simp; omega) (fun b e => by have := (hl3 b e).1; omega)
  have P1 := Lib.hid (OwnI.at' ((((p1.set_ne (B := w3.heap.size) (o := 2) (x := .slice (some ⟨gg, 0, none⟩) (L3 + 1) cap1) ng1).set (B := w.heap.size + 1 + 1) (o := 0) (x := .slice (some ⟨g1, 0, none⟩) L1 d1) hb2).set (B := w.heap.size + 1 + 1) (o := 1) (x := .slice (some ⟨g2, 0, none⟩) L2 d2) hb2).set (B := w.heap.size + 1 + 1) (o := 2) (x := .slice (some ⟨gg, 0, none⟩) (L3 + 1) cap1) hb2))
  have P2 := Lib.hid (OwnB.at' ((((p2.set_ne (B := w3.heap.size) (o := 2) (x := .slice (some ⟨gg, 0, none⟩) (L3 + 1) cap1) ne2).set (B := w.heap.size + 1 + 1) (o := 0) (x := .slice (some ⟨g1, 0, none⟩) L1 d1) hb2).set (B := w.heap.size + 1 + 1) (o := 1) (x := .slice (some ⟨g2, 0, none⟩) L2 d2) hb2).set (B := w.heap.size + 1 + 1) (o := 2) (x := .slice (some ⟨gg, 0, none⟩) (L3 + 1) cap1) hb2))
  have P3 := Lib.hid (OwnI.at' ((((p3.set_ne (B := w3.heap.size) (o := 2) (x := .slice (some ⟨gg, 0, none⟩) (L3 + 1) cap1) ngg).set (B := w.heap.size + 1 + 1) (o := 0) (x := .slice (some ⟨g1, 0, none⟩) L1 d1) hb2).set (B := w.heap.size + 1 + 1) (o := 1) (x := .slice (some ⟨g2, 0, none⟩) L2 d2) hb2).set (B := w.heap.size + 1 + 1) (o := 2) (x := .slice (some ⟨gg, 0, none⟩) (L3 + 1) cap1) hb2))
  have P4 := Lib.hid (below_set3 (pb.setCell (p := ⟨w3.heap.size, 2, none⟩) (show w.heap.size ≤ w3.heap.size by omega) (.slice (some ⟨gg, 0, none⟩) (L3 + 1) cap1)) (show w.heap.size ≤ w.heap.size + 1 + 1 by omega) (.slice (some ⟨g1, 0, none⟩) L1 d1) (.slice (some ⟨g2, 0, none⟩) L2 d2) (.slice (some ⟨gg, 0, none⟩) (L3 + 1) cap1))
  clear p1 p2 p3 pb hAU
  go_wp2
  refine bodyPost_ret (v := .tuple #[.agg #[.slice (some ⟨g1, 0, none⟩) L1 d1, .slice (some ⟨g2, 0, none⟩) L2 d2, .slice (some ⟨gg, 0, none⟩) (L3 + 1) cap1], .int .i64 0]) (by simp [results, Try.results24, go_sem, e0, e1, e2]) rfl ⟨_, _, _, _, _, _, rfl, ⟨P1.out, P2.out, P3.out⟩, P4.out⟩
end Go.Proofs.Ytbalebnhjpjhgaa

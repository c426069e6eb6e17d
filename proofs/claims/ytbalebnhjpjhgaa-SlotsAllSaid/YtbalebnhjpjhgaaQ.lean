/- Give. -/
import Derived.Test.YtbalebnhjpjhgaaP
namespace Go.Proofs.Ytbalebnhjpjhgaa
open Go.RowKit

theorem below_set3 {n B2 : Nat} {w W : World} (h : Below n w W) (h2 : n ≤ B2) (v0 v1 v2 : Value) :
    Below n w (((W.setCell ⟨B2, 0, none⟩ v0).setCell ⟨B2, 1, none⟩ v1).setCell ⟨B2, 2, none⟩ v2) :=
  ((h.setCell (p := ⟨B2, 0, none⟩) h2 _).setCell (p := ⟨B2, 1, none⟩) h2 _).setCell (p := ⟨B2, 2, none⟩) h2 _

set_option maxRecDepth 100000 in
set_option maxHeartbeats 2000000 in
theorem give_wrong (a1 a2 a3 : Option Addr) (c1 c2 c3 L1 L2 L3 : Nat) (s : Sl) (p g : Int) (h1 : s.g.length = L1) (h2 : s.u.length = L2) (h3 : s.f.length = L3) (w : World) (h : SlotsAt w.heap.size w a1 a2 a3 s.g s.u s.f) (hr : s.right = false) :
    Calls Try.prog 24 #[.agg #[.slice a1 L1 c1, .slice a2 L2 c2, .slice a3 L3 c3], .agg #[.int .i64 p, .int .i64 g]] w fun e w' => e = .returned (.tuple #[nilV, .int .i64 90]) ∧ Below w.heap.size w w' := by
  have H := Lib.hid (fun w hS => right2_any a1 a2 a3 c1 c2 c3 L1 L2 L3 s h1 h2 h3 w hS)
  rw [hr] at H
  have HS := Lib.hid h
  have hA : Below w.heap.size w (((w.alloc (.cells #[.slice a1 L1 c1, .slice a2 L2 c2, .slice a3 L3 c3] 25)).alloc (.cells #[.int .i64 p, .int .i64 g] 27)).alloc (.cells #[.slice none 0 0, .slice none 0 0, .slice none 0 0] 25)) := (((Below.refl _ _).alloc (Nat.le_refl _) _).alloc (by simp) _).alloc (by simp; omega) _
  clear h hr h1 h2 h3
  go_enter Try.func24, Try.ntmps24
  go_wp2_with fail
  refine (H.out _ (HS.out.on hA)).mono ?_
  rintro e w1 ⟨rfl, hb1⟩
  have hz1 := hb1.size
  have hW := hA.trans (hb1.mono hA.size)
  have r3 := (Fr3.new ((w.alloc (.cells #[.slice a1 L1 c1, .slice a2 L2 c2, .slice a3 L3 c3] 25)).alloc (.cells #[.int .i64 p, .int .i64 g] 27)) 25).on hb1 (by simp)
  simp only [World.size_alloc] at r3 hz1
  obtain ⟨e0, e1, e2, f0, f1, f2⟩ := r3
  clear hb1 hA
  go_wp2
  refine bodyPost_ret (v := .tuple #[nilV, .int .i64 90]) (by simp [results, Try.results24, go_sem, nilV, e0, e1, e2]) rfl ⟨rfl, ?_⟩
  exact below_set3 hW (by omega) _ _ _

set_option maxRecDepth 100000 in
set_option maxHeartbeats 2000000 in
theorem give_old (a1 a2 a3 : Option Addr) (c1 c2 c3 L1 L2 L3 : Nat) (s : Sl) (p g : Int) (h1 : s.g.length = L1) (h2 : s.u.length = L2) (h3 : s.f.length = L3) (w : World) (h : SlotsAt w.heap.size w a1 a2 a3 s.g s.u s.f) (hr : s.right = true) (hv : s.valid (p, g) = false) :
    Calls Try.prog 24 #[.agg #[.slice a1 L1 c1, .slice a2 L2 c2, .slice a3 L3 c3], .agg #[.int .i64 p, .int .i64 g]] w fun e w' => e = .returned (.tuple #[nilV, .int .i64 91]) ∧ Below w.heap.size w w' := by
  have H := Lib.hid (fun w hS => right2_any a1 a2 a3 c1 c2 c3 L1 L2 L3 s h1 h2 h3 w hS)
  have G := Lib.hid (fun w hS => valid_any a1 a2 a3 c1 c2 c3 L1 L2 L3 s p g h1 h2 h3 w hS)
  rw [hr] at H
  rw [hv] at G
  have HS := Lib.hid h
  have hA : Below w.heap.size w (((w.alloc (.cells #[.slice a1 L1 c1, .slice a2 L2 c2, .slice a3 L3 c3] 25)).alloc (.cells #[.int .i64 p, .int .i64 g] 27)).alloc (.cells #[.slice none 0 0, .slice none 0 0, .slice none 0 0] 25)) := (((Below.refl _ _).alloc (Nat.le_refl _) _).alloc (by simp) _).alloc (by simp; omega) _
  clear h hr h1 h2 h3 hv
  go_enter Try.func24, Try.ntmps24
  go_wp2_with fail
  refine (H.out _ (HS.out.on hA)).mono ?_
  rintro e w1 ⟨rfl, hb1⟩
  have hz1 := hb1.size
  have hW := hA.trans (hb1.mono hA.size)
  have r3 := (Fr3.new ((w.alloc (.cells #[.slice a1 L1 c1, .slice a2 L2 c2, .slice a3 L3 c3] 25)).alloc (.cells #[.int .i64 p, .int .i64 g] 27)) 25).on hb1 (by simp)
  obtain ⟨hc1, hf1⟩ := bcell hb1
  simp only [World.size_alloc] at r3 hz1
  clear hb1 hA
  go_wp2_with fail
  refine (G.out _ (HS.out.on hW)).mono ?_
  rintro e w2 ⟨rfl, hb2⟩
  have hz2 := hb2.size
  have hW2 := hW.trans (hb2.mono hW.size)
  obtain ⟨e0, e1, e2, f0, f1, f2⟩ := r3.on hb2 (by omega)
  clear hb2 hW hc1 hf1 r3
  go_wp2
  refine bodyPost_ret (v := .tuple #[nilV, .int .i64 91]) (by simp [results, Try.results24, go_sem, nilV, e0, e1, e2]) rfl ⟨rfl, ?_⟩
  exact below_set3 hW2 (by omega) _ _ _

theorem copy4_any (a1 a2 a3 : Option Addr) (c1 c2 c3 L1 L2 L3 : Nat) (s : Sl) (h1 : s.g.length = L1) (h2 : s.u.length = L2) (h3 : s.f.length = L3) (l1 : L1 ≤ 1000) (l2 : L2 ≤ 1000) (l3 : L3 ≤ 1000) (p1 : 0 < L1) (p2 : 0 < L2) (w : World) (h : SlotsAt w.heap.size w a1 a2 a3 s.g s.u s.f) :
    Calls Try.prog 39 #[.agg #[.slice a1 L1 c1, .slice a2 L2 c2, .slice a3 L3 c3]] w fun e w' => ∃ g1 g2 b3 d1 d2 d3, e = .returned (.agg #[.slice (some ⟨g1, 0, none⟩) L1 d1, .slice (some ⟨g2, 0, none⟩) L2 d2, .slice b3 L3 d3]) ∧
      OwnI w.heap.size w' (.slice (some ⟨g1, 0, none⟩) L1 d1) s.g ∧ OwnB w.heap.size w' (.slice (some ⟨g2, 0, none⟩) L2 d2) s.u ∧ OwnI w.heap.size w' (.slice b3 L3 d3) s.f ∧ Value.ownBlock (.slice b3 L3 d3) ≠ some g1 ∧ Value.ownBlock (.slice b3 L3 d3) ≠ some g2 ∧ Below w.heap.size w w' := by
  refine (copy2_any a1 a2 a3 c1 c2 c3 L1 L2 L3 s h1 h2 h3 l1 l2 l3 w h).mono ?_
  rintro e w' ⟨b1, b2, b3, d1, d2, d3, rfl, o1, o2, o3, hd, hb⟩
  obtain ⟨g1, k1, e1, _, _⟩ := World.ownsRow.form o1 (by omega)
  obtain ⟨g2, k2, e2, _, _⟩ := World.ownsRow.form o2 (by omega)
  simp only [Value.slice.injEq] at e1 e2
  obtain ⟨rfl, _, rfl⟩ := e1
  obtain ⟨rfl, _, rfl⟩ := e2
  refine ⟨g1, g2, b3, d1, d2, d3, rfl, o1, o2, o3, hd g1 rfl, fun e => ?_, hb⟩
  rcases o3.2 with ⟨h', _⟩ | ⟨g, cap, cur, h', _, _, hc, _⟩
  · rw [h'] at e; cases e
  · rw [h'] at o3 e
    have := Option.some.inj e
    exact own_ne o3 o2 this
end Go.Proofs.Ytbalebnhjpjhgaa

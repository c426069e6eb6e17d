/- Take: no slot is free, or the last one's has been used up. -/
import Derived.Test.YtbalebnhjpjhgaaJ
namespace Go.Proofs.Ytbalebnhjpjhgaa
open Go.RowKit

theorem copy2_any (a1 a2 a3 : Option Addr) (c1 c2 c3 L1 L2 L3 : Nat) (s : Sl) (h1 : s.g.length = L1) (h2 : s.u.length = L2) (h3 : s.f.length = L3) (l1 : L1 ≤ 1000) (l2 : L2 ≤ 1000) (l3 : L3 ≤ 1000) (w : World) (h : SlotsAt w.heap.size w a1 a2 a3 s.g s.u s.f) :
    Calls Try.prog 39 #[.agg #[.slice a1 L1 c1, .slice a2 L2 c2, .slice a3 L3 c3]] w fun e w' => ∃ b1 b2 b3 d1 d2 d3, e = .returned (.agg #[.slice b1 L1 d1, .slice b2 L2 d2, .slice b3 L3 d3]) ∧
      OwnI w.heap.size w' (.slice b1 L1 d1) s.g ∧ OwnB w.heap.size w' (.slice b2 L2 d2) s.u ∧ OwnI w.heap.size w' (.slice b3 L3 d3) s.f ∧ (∀ b, Value.ownBlock (.slice b1 L1 d1) = some b → Value.ownBlock (.slice b3 L3 d3) ≠ some b) ∧ Below w.heap.size w w' := by
  subst h1 h2 h3
  refine (copy_any a1 a2 a3 c1 c2 c3 s.g s.u s.f l1 l2 l3 w h).mono ?_
  rintro e w' ⟨v1, v2, v3, rfl, o1, o2, o3, hd, hb⟩
  obtain ⟨b1, d1, rfl, _⟩ := o1.form
  obtain ⟨b2, d2, rfl, _⟩ := o2.form
  obtain ⟨b3, d3, rfl, _⟩ := o3.form
  exact ⟨b1, b2, b3, d1, d2, d3, rfl, o1, o2, o3, hd, hb⟩

/-- With three lists that are not empty: where their cells lie. -/
theorem copy3_any (a1 a2 a3 : Option Addr) (c1 c2 c3 L1 L2 L3 : Nat) (s : Sl) (h1 : s.g.length = L1) (h2 : s.u.length = L2) (h3 : s.f.length = L3) (l1 : L1 ≤ 1000) (l2 : L2 ≤ 1000) (l3 : L3 ≤ 1000) (p1 : 0 < L1) (p2 : 0 < L2) (p3 : 0 < L3) (w : World) (h : SlotsAt w.heap.size w a1 a2 a3 s.g s.u s.f) :
    Calls Try.prog 39 #[.agg #[.slice a1 L1 c1, .slice a2 L2 c2, .slice a3 L3 c3]] w fun e w' => ∃ g1 g2 g3 d1 d2 d3, e = .returned (.agg #[.slice (some ⟨g1, 0, none⟩) L1 d1, .slice (some ⟨g2, 0, none⟩) L2 d2, .slice (some ⟨g3, 0, none⟩) L3 d3]) ∧
      OwnI w.heap.size w' (.slice (some ⟨g1, 0, none⟩) L1 d1) s.g ∧ OwnB w.heap.size w' (.slice (some ⟨g2, 0, none⟩) L2 d2) s.u ∧ OwnI w.heap.size w' (.slice (some ⟨g3, 0, none⟩) L3 d3) s.f ∧ g1 ≠ g3 ∧ L3 ≤ d3 ∧ Below w.heap.size w w' := by
  refine (copy2_any a1 a2 a3 c1 c2 c3 L1 L2 L3 s h1 h2 h3 l1 l2 l3 w h).mono ?_
  rintro e w' ⟨b1, b2, b3, d1, d2, d3, rfl, o1, o2, o3, hd, hb⟩
  obtain ⟨g1, k1, e1, _, _⟩ := World.ownsRow.form o1 (by omega)
  obtain ⟨g2, k2, e2, _, _⟩ := World.ownsRow.form o2 (by omega)
  obtain ⟨g3, k3, e3, _, _⟩ := World.ownsRow.form o3 (by omega)
  simp only [Value.slice.injEq] at e1 e2 e3
  obtain ⟨rfl, _, rfl⟩ := e1
  obtain ⟨rfl, _, rfl⟩ := e2
  obtain ⟨rfl, _, rfl⟩ := e3
  refine ⟨g1, g2, g3, d1, d2, d3, rfl, o1, o2, o3, fun e => hd g1 rfl (by rw [e]; rfl), ?_, hb⟩
  rcases o3.2 with ⟨h', _⟩ | ⟨g, cap, cur, h', _, _, hc, _⟩
  · simp at h'
  · simp only [Value.slice.injEq] at h'; omega

set_option maxRecDepth 100000 in
set_option maxHeartbeats 2000000 in
theorem take_none (a1 a2 a3 : Option Addr) (c1 c2 c3 L1 L2 : Nat) (s : Sl) (h1 : s.g.length = L1) (h2 : s.u.length = L2) (h3 : s.f = []) (w : World) (h : SlotsAt w.heap.size w a1 a2 a3 s.g s.u s.f) (hr : s.right = true) :
    Calls Try.prog 22 #[.agg #[.slice a1 L1 c1, .slice a2 L2 c2, .slice a3 0 c3]] w fun e w' => e = .returned (.tuple #[nilV, handV (0, 0), .int .i64 92]) ∧ Below w.heap.size w w' := by
  obtain ⟨R1, R2, R3, R4, _⟩ := (right_iff s).1 hr
  have H := Lib.hid (fun w hS => right2_any a1 a2 a3 c1 c2 c3 L1 L2 0 s h1 h2 (by rw [h3]; rfl) w hS)
  have H2 := Lib.hid (fun w hS => copy2_any a1 a2 a3 c1 c2 c3 L1 L2 0 s h1 h2 (by rw [h3]; rfl) (by omega) (by omega) (by omega) w hS)
  rw [hr] at H
  have HS := Lib.hid h
  clear h hr h1 h2 h3 R1 R2 R3 R4
  go_enter Try.func22, Try.ntmps22
  go_wp2_with fail
  have hA : Below w.heap.size w (((w.alloc (.cells #[.slice a1 L1 c1, .slice a2 L2 c2, .slice a3 0 c3] 25)).alloc (.cells #[.slice none 0 0, .slice none 0 0, .slice none 0 0] 25)).alloc (.cells #[.int .i64 0, .int .i64 0] 27)) := (((Below.refl _ _).alloc (Nat.le_refl _) _).alloc (by simp) _).alloc (by simp; omega) _
  refine (H.out _ (HS.out.on hA)).mono ?_
  rintro e w1 ⟨rfl, hb1⟩
  have hz1 := hb1.size
  have hW := hA.trans (hb1.mono hA.size)
  have r3 := ((Fr3.new (w.alloc (.cells #[.slice a1 L1 c1, .slice a2 L2 c2, .slice a3 0 c3] 25)) 25).on ((Below.refl _ _).alloc (Nat.le_refl _) (.cells #[.int .i64 0, .int .i64 0] 27)) (by simp)).on hb1 (by simp)
  have r2 := (Fr2.new ((w.alloc (.cells #[.slice a1 L1 c1, .slice a2 L2 c2, .slice a3 0 c3] 25)).alloc (.cells #[.slice none 0 0, .slice none 0 0, .slice none 0 0] 25)) 27).on hb1 (by simp)
  have k0 : w1.cell? ⟨w.heap.size, 0, none⟩ = some (.slice a1 L1 c1) := (hb1.cell (p := ⟨w.heap.size, 0, none⟩) (by simp; omega)).trans (by go_simp)
  have k1 : w1.cell? ⟨w.heap.size, 1, none⟩ = some (.slice a2 L2 c2) := (hb1.cell (p := ⟨w.heap.size, 1, none⟩) (by simp; omega)).trans (by go_simp)
  have k2 : w1.cell? ⟨w.heap.size, 2, none⟩ = some (.slice a3 0 c3) := (hb1.cell (p := ⟨w.heap.size, 2, none⟩) (by simp; omega)).trans (by go_simp)
  simp only [World.size_alloc] at r2 r3 hz1
  clear hb1 hA
  go_wp2_with fail
  refine (H2.out _ (HS.out.on hW)).mono ?_
  rintro e w2 ⟨b1, b2, b3, d1, d2, d3, rfl, o1, o2, o3, hd, hb2⟩
  have hz2 := hb2.size
  have hW2 := hW.trans (hb2.mono hW.size)
  obtain ⟨e0, e1, e2, f0, f1, f2⟩ := (r3.on hb2 (by omega)).on ((Below.refl w2.heap.size w2).alloc (Nat.le_refl _) (.cells #[.slice b1 L1 d1, .slice b2 L2 d2, .slice b3 0 d3] 47)) (by omega)
  obtain ⟨e3, e4, f3, f4⟩ := (r2.on hb2 (by omega)).on ((Below.refl w2.heap.size w2).alloc (Nat.le_refl _) (.cells #[.slice b1 L1 d1, .slice b2 L2 d2, .slice b3 0 d3] 47)) (by omega)
  have hW3 := hW2.alloc hW2.size (.cells #[.slice b1 L1 d1, .slice b2 L2 d2, .slice b3 0 d3] 47)
  clear hb2 o1 o2 o3 hd hW r3 r2 k0 k1 k2
  go_wp2_with fail
  generalize (w2.alloc (.cells #[.slice b1 L1 d1, .slice b2 L2 d2, .slice b3 0 d3] 47)) = U at *
  go_quiet (fail)
  go_wp2
  refine bodyPost_ret (v := .tuple #[nilV, handV (0, 0), .int .i64 92]) (by simp [results, Try.results22, go_sem, nilV, handV, e0, e1, e2, e3, e4]) rfl ⟨rfl, ?_⟩
  exact below_set5 (below_drewN hW3 _) (by omega) (by omega) _ _ _ _ _
end Go.Proofs.Ytbalebnhjpjhgaa

/- Take: the last slot has been used up; the last slot is taken. -/
import Derived.Test.YtbalebnhjpjhgaaK
namespace Go.Proofs.Ytbalebnhjpjhgaa
open Go.RowKit

theorem OwnI.cell {base g n cap : Nat} {W : World} {zs : List Int} (h : OwnI base W (.slice (some ⟨g, 0, none⟩) n cap) zs) (hn : zs.length = n) {j : Nat} {x : Int} (hj : zs[j]? = some x) : W.cell? ⟨g, j, none⟩ = some (.int .i64 x) := by
  subst hn
  have hl := (List.getElem?_eq_some_iff.1 hj).1
  rw [World.ownsRow.cellAt h j (by omega)]
  simp [intVs, hj]
theorem OwnB.cell {base g n cap : Nat} {W : World} {zs : List Bool} (h : OwnB base W (.slice (some ⟨g, 0, none⟩) n cap) zs) (hn : zs.length = n) {j : Nat} {x : Bool} (hj : zs[j]? = some x) : W.cell? ⟨g, j, none⟩ = some (.bool x) := by
  subst hn
  have hl := (List.getElem?_eq_some_iff.1 hj).1
  rw [World.ownsRow.cellAt h j (by omega)]
  simp [boolVs, hj]
theorem OwnI.frozen {base g n cap : Nat} {W : World} {zs : List Int} (h : OwnI base W (.slice (some ⟨g, 0, none⟩) n cap) zs) (hn : zs.length = n) (j : Nat) : W.frozen? ⟨g, j, none⟩ = false := by subst hn; exact World.ownsRow.frozenAt h j
theorem OwnB.frozen {base g n cap : Nat} {W : World} {zs : List Bool} (h : OwnB base W (.slice (some ⟨g, 0, none⟩) n cap) zs) (hn : zs.length = n) (j : Nat) : W.frozen? ⟨g, j, none⟩ = false := by subst hn; exact World.ownsRow.frozenAt h j

set_option maxRecDepth 100000 in
set_option maxHeartbeats 2000000 in
theorem take_max (a1 a2 a3 : Option Addr) (c1 c2 c3 L1 L2 L3 m k : Nat) (s : Sl) (fs : List Int) (h1 : s.g.length = L1) (h2 : s.u.length = L2) (h3 : s.f.length = L3) (hf : s.f = fs ++ [(k : Int)]) (hm : fs.length = m) (hk : k < L1) (hq : s.g[k]? = some 1000000000) (w : World) (h : SlotsAt w.heap.size w a1 a2 a3 s.g s.u s.f) (hr : s.right = true) :
    Calls Try.prog 22 #[.agg #[.slice a1 L1 c1, .slice a2 L2 c2, .slice a3 L3 c3]] w fun e w' => e = .returned (.tuple #[nilV, handV (0, 0), .int .i64 92]) ∧ Below w.heap.size w w' := by
  obtain ⟨R1, R2, R3, R4, _⟩ := (right_iff s).1 hr
  have hL3 : L3 = m + 1 := by rw [← h3, hf]; simp [hm]
  have hlast : s.f[m]? = some (k : Int) := by rw [hf, ← hm]; simp
  have H := Lib.hid (fun w hS => right2_any a1 a2 a3 c1 c2 c3 L1 L2 L3 s h1 h2 h3 w hS)
  have H2 := Lib.hid (fun w hS => copy3_any a1 a2 a3 c1 c2 c3 L1 L2 L3 s h1 h2 h3 (by omega) (by omega) (by omega) (by omega) (by omega) (by omega) w hS)
  rw [hr] at H
  have HS := Lib.hid h
  have hs1 : (L3 : Int) - 1 = (m : Int) := by omega
  have hmm : (m : Int) ≤ 1000 := by omega
  have hm3 : m < L3 := by omega
  have hd0 : decide ((m : Int) < 0) = false := decide_eq_false (by omega)
  have HF := Lib.hid hlast
  have HQ := Lib.hid hq
  have HL := Lib.hid h3
  have HL1 := Lib.hid h1
  clear h hr h1 h2 h3 R1 R2 R3 R4 hf hlast hq hL3 hm
  go_enter Try.func22, Try.ntmps22
  go_wp2_with fail
  have hA : Below w.heap.size w (((w.alloc (.cells #[.slice a1 L1 c1, .slice a2 L2 c2, .slice a3 L3 c3] 25)).alloc (.cells #[.slice none 0 0, .slice none 0 0, .slice none 0 0] 25)).alloc (.cells #[.int .i64 0, .int .i64 0] 27)) := (((Below.refl _ _).alloc (Nat.le_refl _) _).alloc (by simp) _).alloc (by simp; omega) _
  refine (H.out _ (HS.out.on hA)).mono ?_
  rintro e w1 ⟨rfl, hb1⟩
  have hz1 := hb1.size
  have hW := hA.trans (hb1.mono hA.size)
  have r3 := ((Fr3.new (w.alloc (.cells #[.slice a1 L1 c1, .slice a2 L2 c2, .slice a3 L3 c3] 25)) 25).on ((Below.refl _ _).alloc (Nat.le_refl _) (.cells #[.int .i64 0, .int .i64 0] 27)) (by simp)).on hb1 (by simp)
  have r2 := (Fr2.new ((w.alloc (.cells #[.slice a1 L1 c1, .slice a2 L2 c2, .slice a3 L3 c3] 25)).alloc (.cells #[.slice none 0 0, .slice none 0 0, .slice none 0 0] 25)) 27).on hb1 (by simp)
  have k0 : w1.cell? ⟨w.heap.size, 0, none⟩ = some (.slice a1 L1 c1) := (hb1.cell (p := ⟨w.heap.size, 0, none⟩) (by simp; omega)).trans (by go_simp)
  have k1 : w1.cell? ⟨w.heap.size, 1, none⟩ = some (.slice a2 L2 c2) := (hb1.cell (p := ⟨w.heap.size, 1, none⟩) (by simp; omega)).trans (by go_simp)
  have k2 : w1.cell? ⟨w.heap.size, 2, none⟩ = some (.slice a3 L3 c3) := (hb1.cell (p := ⟨w.heap.size, 2, none⟩) (by simp; omega)).trans (by go_simp)
  simp only [World.size_alloc] at r2 r3 hz1
  clear hb1 hA
  go_wp2_with fail
  refine (H2.out _ (HS.out.on hW)).mono ?_
  rintro e w2 ⟨g1, g2, g3, d1, d2, d3, rfl, o1, o2, o3, hd, hcd, hb2⟩
  have hz2 := hb2.size
  have hW2 := hW.trans (hb2.mono hW.size)
  have hX : Below w2.heap.size w2 (w2.alloc (.cells #[.slice (some ⟨g1, 0, none⟩) L1 d1, .slice (some ⟨g2, 0, none⟩) L2 d2, .slice (some ⟨g3, 0, none⟩) L3 d3] 47)) := (Below.refl w2.heap.size w2).alloc (Nat.le_refl _) _
  obtain ⟨e0, e1, e2, f0, f1, f2⟩ := (r3.on hb2 (by omega)).on hX (by omega)
  obtain ⟨e3, e4, f3, f4⟩ := (r2.on hb2 (by omega)).on hX (by omega)
  have x1 := (o1.on hX).cell HL1.out HQ.out
  have x3 := (o3.on hX).cell HL.out HF.out
  have t0 : (w2.alloc (.cells #[.slice (some ⟨g1, 0, none⟩) L1 d1, .slice (some ⟨g2, 0, none⟩) L2 d2, .slice (some ⟨g3, 0, none⟩) L3 d3] 47)).cell? ⟨w2.heap.size, 0, none⟩ = some (.slice (some ⟨g1, 0, none⟩) L1 d1) := by go_simp
  have t2 : (w2.alloc (.cells #[.slice (some ⟨g1, 0, none⟩) L1 d1, .slice (some ⟨g2, 0, none⟩) L2 d2, .slice (some ⟨g3, 0, none⟩) L3 d3] 47)).cell? ⟨w2.heap.size, 2, none⟩ = some (.slice (some ⟨g3, 0, none⟩) L3 d3) := by go_simp
  have hW3 := hW2.trans (hX.mono hW2.size)
  clear hb2 o1 o2 o3 hd hW r3 r2 k0 k1 k2 hX
  go_wp2_with fail
  generalize (w2.alloc (.cells #[.slice (some ⟨g1, 0, none⟩) L1 d1, .slice (some ⟨g2, 0, none⟩) L2 d2, .slice (some ⟨g3, 0, none⟩) L3 d3] 47)) = U at *
  go_quiet (fail)
  go_wp2
  refine bodyPost_ret (v := .tuple #[nilV, handV (0, 0), .int .i64 92]) (by simp [results, Try.results22, go_sem, nilV, handV, e0, e1, e2, e3, e4]) rfl ⟨rfl, ?_⟩
  exact below_set5 (below_drewN hW3 _) (by omega) (by omega) _ _ _ _ _
end Go.Proofs.Ytbalebnhjpjhgaa

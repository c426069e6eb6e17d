/- N9M, N9N, N9O, N9P, N9Q, N9R, N9S -/
import Derived.Test.YtbalebnhjpjhgaaZ1
set_option linter.unusedVariables false
set_option linter.unusedSimpArgs false
/- Take: the last slot is taken. -/
namespace Go.Proofs.Ytbalebnhjpjhgaa.L9
open Go.RowKit

theorem own_ne {base base' n n' c c' g1 g2 : Nat} {W : World} {zs : List Int} {us : List Bool} (h1 : OwnI base W (.slice (some ⟨g1, 0, none⟩) n c) zs) (h2 : OwnB base' W (.slice (some ⟨g2, 0, none⟩) n' c') us) : g1 ≠ g2 := by
  rintro rfl
  rcases h1.2 with ⟨e, _⟩ | ⟨g, _, cur, e, _, hg, _⟩
  · simp at e
  · rcases h2.2 with ⟨e', _⟩ | ⟨g', _, cur', e', _, hg', _⟩
    · simp at e'
    · simp only [Value.slice.injEq, Option.some.injEq, Addr.mk.injEq] at e e'
      obtain ⟨⟨rfl, _⟩, _⟩ := e
      obtain ⟨⟨rfl, _⟩, _⟩ := e'
      rw [hg] at hg'
      simp at hg'

theorem OwnI.set_ne {base g n c : Nat} {W : World} {x : Value} {zs : List Int} {B o : Nat} (h : OwnI base W (.slice (some ⟨g, 0, none⟩) n c) zs) (hne : g ≠ B) : OwnI base (W.setCell ⟨B, o, none⟩ x) (.slice (some ⟨g, 0, none⟩) n c) zs := h.kept (grownBy_setCell _ _ _ _) (.inr fun e => hne (Option.some.inj e))
theorem OwnB.set_ne {base g n c : Nat} {W : World} {x : Value} {zs : List Bool} {B o : Nat} (h : OwnB base W (.slice (some ⟨g, 0, none⟩) n c) zs) (hne : g ≠ B) : OwnB base (W.setCell ⟨B, o, none⟩ x) (.slice (some ⟨g, 0, none⟩) n c) zs := h.kept (grownBy_setCell _ _ _ _) (.inr fun e => hne (Option.some.inj e))
theorem OwnI.put {base g n c : Nat} {W : World} {zs : List Int} (h : OwnI base W (.slice (some ⟨g, 0, none⟩) n c) zs) (hn : zs.length = n) (j : Nat) (x : Int) : OwnI base (W.setCell ⟨g, j, none⟩ (.int .i64 x)) (.slice (some ⟨g, 0, none⟩) n c) (zs.set j x) := by
  subst hn
  have := (World.ownsRow.stored h j (.int .i64 x)).1
  unfold OwnI intVs at *
  rw [List.length_set, List.map_set]
  exact this
theorem OwnB.put {base g n c : Nat} {W : World} {zs : List Bool} (h : OwnB base W (.slice (some ⟨g, 0, none⟩) n c) zs) (hn : zs.length = n) (j : Nat) (x : Bool) : OwnB base (W.setCell ⟨g, j, none⟩ (.bool x)) (.slice (some ⟨g, 0, none⟩) n c) (zs.set j x) := by
  subst hn
  have := (World.ownsRow.stored h j (.bool x)).1
  unfold OwnB boolVs at *
  rw [List.length_set, List.map_set]
  exact this
theorem OwnI.at' {base n c : Nat} {a : Option Addr} {W : World} {zs : List Int} (h : OwnI base W (.slice a n c) zs) : IntsAt W.heap.size W a zs := by
  obtain ⟨a', c', e, hi⟩ := h.form
  simp only [Value.slice.injEq] at e
  rw [e.1]; exact hi
theorem OwnB.at' {base n c : Nat} {a : Option Addr} {W : World} {zs : List Bool} (h : OwnB base W (.slice a n c) zs) : BoolsAt W.heap.size W a zs := by
  obtain ⟨a', c', e, hi⟩ := h.form
  simp only [Value.slice.injEq] at e
  rw [e.1]; exact hi
theorem IntsAt.init {n₀ : Nat} {W : World} {a : Option Addr} {zs : List Int} {x : Int} (h : IntsAt n₀ W a (zs ++ [x])) : IntsAt n₀ W a zs := fun i hi => by
  obtain ⟨b, off, e, hb, hc⟩ := h i (by simp; omega)
  exact ⟨b, off, e, hb, by rw [hc, List.getElem_append_left hi]⟩
theorem held_set2 {n B B2 : Nat} {s1 s2 s3 v1 v2 : Value} {U W : World} (k0 : W.cell? ⟨B, 0, none⟩ = some s1) (k1 : W.cell? ⟨B, 1, none⟩ = some s2) (k2 : W.cell? ⟨B, 2, none⟩ = some s3) (hb : Below n U W) (hn : n ≤ B2) (hne : B ≠ B2) :
    ((W.setCell ⟨B2, 0, none⟩ v1).setCell ⟨B2, 1, none⟩ v2).cell? ⟨B, 0, none⟩ = some s1 ∧ ((W.setCell ⟨B2, 0, none⟩ v1).setCell ⟨B2, 1, none⟩ v2).cell? ⟨B, 1, none⟩ = some s2 ∧ ((W.setCell ⟨B2, 0, none⟩ v1).setCell ⟨B2, 1, none⟩ v2).cell? ⟨B, 2, none⟩ = some s3 ∧
    Below n U ((W.setCell ⟨B2, 0, none⟩ v1).setCell ⟨B2, 1, none⟩ v2) :=
  ⟨(set_other _ _ hne).trans ((set_other _ _ hne).trans k0), (set_other _ _ hne).trans ((set_other _ _ hne).trans k1), (set_other _ _ hne).trans ((set_other _ _ hne).trans k2),
    (hb.setCell (p := ⟨B2, 0, none⟩) hn _).setCell (p := ⟨B2, 1, none⟩) hn _⟩
theorem handle_any (a1 : Option Addr) (s2 s3 : Value) (c1 len : Nat) (gs : List Int) (hg : gs.length = len) (k : Nat) (x : Int) (hx : gs[k]? = some x) (w : World) (hI : IntsAt w.heap.size w a1 gs) :
    Calls Try.prog 40 #[.agg #[.slice a1 len c1, s2, s3], .int .i64 k] w fun e w' => e = .returned (.agg #[.int .i64 k, .int .i64 x]) ∧ Below w.heap.size w w' := by
  obtain ⟨hk, rfl⟩ := List.getElem?_eq_some_iff.1 hx
  exact (callsIn_wide (n := 2)).1 (handle_in Fence.wide 2 trivial rfl a1 s2 s3 c1 len w.heap.size gs hg k hk w (Nat.le_refl _) hI)

theorem OwnI.set5 {base B2 B3 : Nat} {W : World} {v : Value} {zs : List Int} (h : OwnI base W v zs) (h2 : B2 < base) (h3 : B3 < base) (v0 v1 v2 v3 v4 : Value) : OwnI base (((((W.setCell ⟨B2, 0, none⟩ v0).setCell ⟨B2, 1, none⟩ v1).setCell ⟨B2, 2, none⟩ v2).setCell ⟨B3, 0, none⟩ v3).setCell ⟨B3, 1, none⟩ v4) v zs :=
  ((((h.set h2).set h2).set h2).set h3).set h3
theorem OwnB.set5 {base B2 B3 : Nat} {W : World} {v : Value} {zs : List Bool} (h : OwnB base W v zs) (h2 : B2 < base) (h3 : B3 < base) (v0 v1 v2 v3 v4 : Value) : OwnB base (((((W.setCell ⟨B2, 0, none⟩ v0).setCell ⟨B2, 1, none⟩ v1).setCell ⟨B2, 2, none⟩ v2).setCell ⟨B3, 0, none⟩ v3).setCell ⟨B3, 1, none⟩ v4) v zs :=
  ((((h.set h2).set h2).set h2).set h3).set h3

set_option maxRecDepth 100000 in
set_option maxHeartbeats 8000000 in
theorem take_ok (a1 a2 a3 : Option Addr) (c1 c2 c3 L1 L2 L3 m k : Nat) (q : Int) (s : Sl) (fs : List Int) (h1 : s.g.length = L1) (h2 : s.u.length = L2) (h3 : s.f.length = L3) (hf : s.f = fs ++ [(k : Int)]) (hm : fs.length = m) (hk : k < L1) (hq : s.g[k]? = some q) (hq0 : 0 ≤ q) (hq1 : q < 1000000000) (w : World) (h : SlotsAt w.heap.size w a1 a2 a3 s.g s.u s.f) (hr : s.right = true) :
    Calls Try.prog 22 #[.agg #[.slice a1 L1 c1, .slice a2 L2 c2, .slice a3 L3 c3]] w fun e w' => ∃ g1 g2 g3 d1 d2, e = .returned (.tuple #[.agg #[.slice (some ⟨g1, 0, none⟩) L1 d1, .slice (some ⟨g2, 0, none⟩) L2 d2, .slice (some ⟨g3, 0, none⟩) m m], handV ((k : Int), q + 1), .int .i64 0]) ∧
      SlotsAt w'.heap.size w' (some ⟨g1, 0, none⟩) (some ⟨g2, 0, none⟩) (some ⟨g3, 0, none⟩) (s.g.set k (q + 1)) (s.u.set k true) fs ∧ Below w.heap.size w w' := by
  obtain ⟨R1, R2, R3, R4, _⟩ := (right_iff s).1 hr
  have hL3 : L3 = m + 1 := by rw [← h3, hf]; simp [hm]
  have hlast : s.f[m]? = some (k : Int) := by rw [hf, ← hm]; simp
  have H := Lib.hid (fun w hS => right2_any a1 a2 a3 c1 c2 c3 L1 L2 L3 s h1 h2 h3 w hS)
  have H2 := Lib.hid (fun w hS => copy3_any a1 a2 a3 c1 c2 c3 L1 L2 L3 s h1 h2 h3 (by omega) (by omega) (by omega) (by omega) (by omega) (by omega) w hS)
  rw [hr] at H
  have HS := Lib.hid h
  have hs1 : (L3 : Int) - 1 = (m : Int) := by omega
  have hmm : (m : Int) ≤ 1000 := by omega
  have hm3 : m < L3 := by omega
  have hd0 : decide ((m : Int) < 0) = false := decide_eq_false (by omega)
  have hq2 : ¬ q = 1000000000 := by omega
  have hk1 : (k : Int) < (L1 : Int) := by omega
  have hkL2 : k < L2 := by omega
  have hmd : (m : Int) ≤ (L3 : Int) := by omega
  have HF := Lib.hid hlast
  have HF2 := Lib.hid hf
  have HQ := Lib.hid hq
  have HL := Lib.hid h3
  have HL1 := Lib.hid h1
  have HL2 := Lib.hid h2
  clear h hr h1 h2 h3 R1 R2 R3 R4 hf hlast hq hL3 hm
  go_enter Try.func22, Try.ntmps22
  go_wp2_with fail
  have hA : Below w.heap.size w (((w.alloc (.cells #[.slice a1 L1 c1, .slice a2 L2 c2, .slice a3 L3 c3] 25)).alloc (.cells #[.slice none 0 0, .slice none 0 0, .slice none 0 0] 25)).alloc (.cells #[.int .i64 0, .int .i64 0] 27)) := (((Below.refl _ _).alloc (Nat.le_refl _) _).alloc (by simp) _).alloc (by simp; omega) _
  refine (H.out _ (HS.out.on hA)).mono ?_
  rintro e w1 ⟨rfl, hb1⟩
  have hz1 := hb1.size
  have hW := hA.trans (hb1.mono hA.size)
  have r3 := ((Fr3.new (w.alloc (.cells #[.slice a1 L1 c1, .slice a2 L2 c2, .slice a3 L3 c3] 25)) 25).on ((Below.refl _ _).alloc (Nat.le_refl _) (.cells #[.int .i64 0, .int .i64 0] 27)) (by simp)).on hb1 (by simp)
  have r2 := (Fr2.new ((w.alloc (.cells #[.slice a1 L1 c1, .slice a2 L2 c2, .slice a3 L3 c3] 25)).alloc (.cells #[.slice none 0 0, .slice none 0 0, .slice none 0 0] 25)) 27).on hb1 (by simp)
  have k0 : w1.cell? ⟨w.heap.size, 0, none⟩ = some (.slice a1 L1 c1) := (hb1.cell (p := ⟨w.heap.size, 0, none⟩) (by simp; omega)).trans (by go_simp)
  have k1 : w1.cell? ⟨w.heap.size, 1, none⟩ = some (.slice a2 L2 c2) := (hb1.cell (p := ⟨w.heap.size, 1, none⟩) (by simp; omega)).trans (by go_simp)
  have k2 : w1.cell? ⟨w.heap.size, 2, none⟩ = some (.slice a3 L3 c3) := (hb1.cell (p := ⟨w.heap.size, 2, none⟩) (by simp; omega)).trans (by go_simp)
  simp only [World.size_alloc] at r2 r3 hz1
  clear hb1 hA
  go_wp2_with fail
  refine (H2.out _ (HS.out.on hW)).mono ?_
  rintro e w2 ⟨g1, g2, g3, d1, d2, d3, rfl, o1, o2, o3, hd, hcd, hb2⟩
  have hz2 := hb2.size
  have hW2 := hW.trans (hb2.mono hW.size)
  have hX : Below w2.heap.size w2 (w2.alloc (.cells #[.slice (some ⟨g1, 0, none⟩) L1 d1, .slice (some ⟨g2, 0, none⟩) L2 d2, .slice (some ⟨g3, 0, none⟩) L3 d3] 47)) := (Below.refl w2.heap.size w2).alloc (Nat.le_refl _) _
  obtain ⟨e0, e1, e2, f0, f1, f2⟩ := (r3.on hb2 (by omega)).on hX (by omega)
  obtain ⟨e3, e4, f3, f4⟩ := (r2.on hb2 (by omega)).on hX (by omega)
  have x1 := (o1.on hX).cell HL1.out HQ.out
  have fr1 := (o1.on hX).frozen HL1.out k
  have fr2 := (o2.on hX).frozen HL2.out k
  have x3 := (o3.on hX).cell HL.out HF.out
  have t0 : (w2.alloc (.cells #[.slice (some ⟨g1, 0, none⟩) L1 d1, .slice (some ⟨g2, 0, none⟩) L2 d2, .slice (some ⟨g3, 0, none⟩) L3 d3] 47)).cell? ⟨w2.heap.size, 0, none⟩ = some (.slice (some ⟨g1, 0, none⟩) L1 d1) := by go_simp
  have t2 : (w2.alloc (.cells #[.slice (some ⟨g1, 0, none⟩) L1 d1, .slice (some ⟨g2, 0, none⟩) L2 d2, .slice (some ⟨g3, 0, none⟩) L3 d3] 47)).cell? ⟨w2.heap.size, 2, none⟩ = some (.slice (some ⟨g3, 0, none⟩) L3 d3) := by go_simp
  have t1 : (w2.alloc (.cells #[.slice (some ⟨g1, 0, none⟩) L1 d1, .slice (some ⟨g2, 0, none⟩) L2 d2, .slice (some ⟨g3, 0, none⟩) L3 d3] 47)).cell? ⟨w2.heap.size, 1, none⟩ = some (.slice (some ⟨g2, 0, none⟩) L2 d2) := by go_simp
  have tf2 : (w2.alloc (.cells #[.slice (some ⟨g1, 0, none⟩) L1 d1, .slice (some ⟨g2, 0, none⟩) L2 d2, .slice (some ⟨g3, 0, none⟩) L3 d3] 47)).frozen? ⟨w2.heap.size, 2, none⟩ = false := by go_simp
  obtain ⟨lo1, hi1⟩ := o1.lt g1 rfl
  obtain ⟨lo2, hi2⟩ := o2.lt g2 rfl
  obtain ⟨lo3, hi3⟩ := o3.lt g3 rfl
  have ne1 : g1 ≠ w2.heap.size := by omega
  have ne2 : g2 ≠ w2.heap.size := by omega
  have ne3 : g3 ≠ w2.heap.size := by omega
  have ne12 : g1 ≠ g2 := own_ne o1 o2
  have ne32 : g3 ≠ g2 := own_ne o3 o2
  have x2 := (o2.on hX).cell HL2.out (List.getElem?_eq_getElem (by rw [HL2.out]; omega))
  have O1 := Lib.hid (o1.on hX)
  have O2 := Lib.hid (o2.on hX)
  have O3 := Lib.hid (o3.on hX)
  have hW3 := hW2.trans (hX.mono hW2.size)
  clear hb2 o1 o2 o3 hW r3 r2 k0 k1 k2 hX
  go_wp2_with fail
  generalize (w2.alloc (.cells #[.slice (some ⟨g1, 0, none⟩) L1 d1, .slice (some ⟨g2, 0, none⟩) L2 d2, .slice (some ⟨g3, 0, none⟩) L3 d3] 47)) = U at *
  have hmcd : (m : Int) ≤ (d3 : Int) := by omega
  go_quiet (fail)
  go_upto_region 11 with fail
  have O1' := ((O1.out.on (below_drewN (Below.refl U.heap.size U) nq)).set_ne (B := w2.heap.size) (o := 2) (x := .slice (some ⟨g3, 0, none⟩) m m) ne1).set_ne (B := g2) (o := k) (x := .bool true) ne12 |>.put HL1.out k (q + 1)
  have O2' := (((O2.out.on (below_drewN (Below.refl U.heap.size U) nq)).set_ne (B := w2.heap.size) (o := 2) (x := .slice (some ⟨g3, 0, none⟩) m m) ne2).put HL2.out k true).set_ne (B := g1) (o := k) (x := .int .i64 (q + 1)) ne12.symm
  have O3' := ((O3.out.on (below_drewN (Below.refl U.heap.size U) nq)).set_ne (B := w2.heap.size) (o := 2) (x := .slice (some ⟨g3, 0, none⟩) m m) ne3).set_ne (B := g2) (o := k) (x := .bool true) ne32 |>.set_ne (B := g1) (o := k) (x := .int .i64 (q + 1)) hd.symm
  have nb1 : w.heap.size + 1 ≠ g1 := by omega
  have nb2 : w.heap.size + 1 ≠ g2 := by omega
  have nc1 : w.heap.size + 1 + 1 ≠ g1 := by omega
  have nc2 : w.heap.size + 1 + 1 ≠ g2 := by omega
  have nbT : w.heap.size + 1 ≠ w2.heap.size := by omega
  have ncT : w.heap.size + 1 + 1 ≠ w2.heap.size := by omega
  obtain ⟨V, hV⟩ : ∃ V, V = ((((U.drewN nq).setCell ⟨w2.heap.size, 2, none⟩ (.slice (some ⟨g3, 0, none⟩) m m)).setCell ⟨g2, k, none⟩ (.bool true)).setCell ⟨g1, k, none⟩ (.int .i64 (q + 1))) := ⟨_, rfl⟩
  rw [← hV] at O1' O2' O3' ⊢
  have q0 : V.cell? ⟨w2.heap.size, 0, none⟩ = some (.slice (some ⟨g1, 0, none⟩) L1 d1) := by rw [hV]; go_simp
  have q1 : V.cell? ⟨w2.heap.size, 1, none⟩ = some (.slice (some ⟨g2, 0, none⟩) L2 d2) := by rw [hV]; go_simp
  have q2 : V.cell? ⟨w2.heap.size, 2, none⟩ = some (.slice (some ⟨g3, 0, none⟩) m m) := by rw [hV]; go_simp
  have y0 : V.cell? ⟨w.heap.size + 1, 0, none⟩ = some (.slice none 0 0) := by rw [hV]; go_simp
  have y1 : V.cell? ⟨w.heap.size + 1, 1, none⟩ = some (.slice none 0 0) := by rw [hV]; go_simp
  have y2 : V.cell? ⟨w.heap.size + 1, 2, none⟩ = some (.slice none 0 0) := by rw [hV]; go_simp
  have y3 : V.cell? ⟨w.heap.size + 1 + 1, 0, none⟩ = some (.int .i64 0) := by rw [hV]; go_simp
  have y4 : V.cell? ⟨w.heap.size + 1 + 1, 1, none⟩ = some (.int .i64 0) := by rw [hV]; go_simp
  have z0 : V.frozen? ⟨w.heap.size + 1, 0, none⟩ = false := by rw [hV]; go_simp
  have z1 : V.frozen? ⟨w.heap.size + 1, 1, none⟩ = false := by rw [hV]; go_simp
  have z2 : V.frozen? ⟨w.heap.size + 1, 2, none⟩ = false := by rw [hV]; go_simp
  have z3 : V.frozen? ⟨w.heap.size + 1 + 1, 0, none⟩ = false := by rw [hV]; go_simp
  have z4 : V.frozen? ⟨w.heap.size + 1 + 1, 1, none⟩ = false := by rw [hV]; go_simp
  have hBV : Below w.heap.size w V := by
    rw [hV]
    exact (((below_drewN hW3 nq).setCell (p := ⟨w2.heap.size, 2, none⟩) (show w.heap.size ≤ w2.heap.size by omega) _).setCell (p := ⟨g2, k, none⟩) (show w.heap.size ≤ g2 by omega) _).setCell (p := ⟨g1, k, none⟩) (show w.heap.size ≤ g1 by omega) _
  have hVz : V.heap.size = U.heap.size := by rw [hV]; simp [World.setCell, World.drewN]
  have hTV : w2.heap.size < V.heap.size := blt q0
  have hnV : w.heap.size ≤ V.heap.size := by omega
  have hV1 : w.heap.size + 1 < V.heap.size := by omega
  have hV2 : w.heap.size + 1 + 1 < V.heap.size := by omega
  have G := Lib.hid (handle_any (some ⟨g1, 0, none⟩) (.slice (some ⟨g2, 0, none⟩) L2 d2) (.slice (some ⟨g3, 0, none⟩) m m) d1 L1 (s.g.set k (q + 1)) (by rw [List.length_set]; exact HL1.out) k (q + 1) (List.getElem?_set_self (by rw [HL1.out]; exact hk)))
  have OO1 := Lib.hid O1'
  have OO2 := Lib.hid O2'
  have OO3 := Lib.hid O3'
  have hI := OwnI.at' O1'
  have hUU : Below w.heap.size V V := Below.refl _ _
  have hMT : w2.heap.size ≠ w.heap.size + 1 := nbT.symm
  have hMT2 : w2.heap.size ≠ w.heap.size + 1 + 1 := ncT.symm
  clear hV O1' O2' O3' x1 x2 x3 t0 t1 t2 tf2 fr1 fr2 e0 e1 e2 e3 e4 f0 f1 f2 f3 f4 O1 O2 O3 hW3 hW2 nb1 nb2 nc1 nc2 nbT ncT ne1 ne2 ne3 ne12 ne32 lo1 lo2 lo3 hi1 hi2 hi3 hd hcd hmcd hmd hd0 hs1 hmm hm3 hk1 hq2 hkL2
  go_region_held3 (fun w' => w'.cell? ⟨w2.heap.size, 0, none⟩ = some (.slice (some ⟨g1, 0, none⟩) L1 d1) ∧ w'.cell? ⟨w2.heap.size, 1, none⟩ = some (.slice (some ⟨g2, 0, none⟩) L2 d2) ∧ w'.cell? ⟨w2.heap.size, 2, none⟩ = some (.slice (some ⟨g3, 0, none⟩) m m) ∧ Below w.heap.size V w')
    (first | with_reducible assumption | (go_split_ands; (try dsimp only); first | with_reducible exact held_stay (by with_reducible assumption) (by with_reducible assumption) (by with_reducible assumption) (by with_reducible assumption) | with_reducible exact held_drew (by with_reducible assumption) (by with_reducible assumption) (by with_reducible assumption) (by with_reducible assumption) | with_reducible exact held_set (by with_reducible assumption) (by with_reducible assumption) (by with_reducible assumption) (by with_reducible assumption) (by omega) hMT | with_reducible exact held_set2 (by with_reducible assumption) (by with_reducible assumption) (by with_reducible assumption) (by with_reducible assumption) (by omega) hMT2 | (with_reducible exact Held.on (n := w.heap.size) ⟨(by with_reducible assumption), (by with_reducible assumption), (by with_reducible assumption), (by with_reducible assumption)⟩ (by simp; omega) (by with_reducible assumption))))
    ((first
      | (go_at_call 40; refine (G.out _ ?_).mono ?_; exact hI; rintro e w4 ⟨rfl, pB⟩; have hz4 := pB.size; have s0 := (pB.cell (p := ⟨w2.heap.size, 0, none⟩) hTV).trans q0; have s1 := (pB.cell (p := ⟨w2.heap.size, 1, none⟩) hTV).trans q1; have s2 := (pB.cell (p := ⟨w2.heap.size, 2, none⟩) hTV).trans q2; have sB : Below w.heap.size V w4 := ⟨pB.os, pB.tape, pB.output, pB.size, fun i hi => pB.block i (Nat.lt_of_lt_of_le hi hnV)⟩; have pB' : Below V.heap.size V w4 := ⟨pB.os, pB.tape, pB.output, pB.size, fun i hi => pB.block i hi⟩; clear pB; have j0 := (pB'.cell (p := ⟨w.heap.size + 1, 0, none⟩) hV1).trans y0; have l0 := (pB'.frozen (p := ⟨w.heap.size + 1, 0, none⟩) hV1).trans z0; have j1 := (pB'.cell (p := ⟨w.heap.size + 1, 1, none⟩) hV1).trans y1; have l1 := (pB'.frozen (p := ⟨w.heap.size + 1, 1, none⟩) hV1).trans z1; have j2 := (pB'.cell (p := ⟨w.heap.size + 1, 2, none⟩) hV1).trans y2; have l2 := (pB'.frozen (p := ⟨w.heap.size + 1, 2, none⟩) hV1).trans z2; have j3 := (pB'.cell (p := ⟨w.heap.size + 1 + 1, 0, none⟩) hV2).trans y3; have l3 := (pB'.frozen (p := ⟨w.heap.size + 1 + 1, 0, none⟩) hV2).trans z3; have j4 := (pB'.cell (p := ⟨w.heap.size + 1 + 1, 1, none⟩) hV2).trans y4; have l4 := (pB'.frozen (p := ⟨w.heap.size + 1 + 1, 1, none⟩) hV2).trans z4)))
  have hb2 : w.heap.size + 1 < w1.heap.size := by omega
  have hb3 : w.heap.size + 1 + 1 < w1.heap.size := by omega
  have n1 := OwnI.at' ((OO1.out.on pB').set5 hb2 hb3 (.slice (some ⟨g1, 0, none⟩) L1 d1) (.slice (some ⟨g2, 0, none⟩) L2 d2) (.slice (some ⟨g3, 0, none⟩) m m) (.int .i64 k) (.int .i64 (q + 1)))
  have n2 := OwnB.at' ((OO2.out.on pB').set5 hb2 hb3 (.slice (some ⟨g1, 0, none⟩) L1 d1) (.slice (some ⟨g2, 0, none⟩) L2 d2) (.slice (some ⟨g3, 0, none⟩) m m) (.int .i64 k) (.int .i64 (q + 1)))
  have n3 := OwnI.at' ((OO3.out.on pB').set5 hb2 hb3 (.slice (some ⟨g1, 0, none⟩) L1 d1) (.slice (some ⟨g2, 0, none⟩) L2 d2) (.slice (some ⟨g3, 0, none⟩) m m) (.int .i64 k) (.int .i64 (q + 1)))
  rw [HF2.out] at n3
  have n4 := below_set5 (hBV.trans sB) (show w.heap.size ≤ w.heap.size + 1 by omega) (show w.heap.size ≤ w.heap.size + 1 + 1 by omega) (.slice (some ⟨g1, 0, none⟩) L1 d1) (.slice (some ⟨g2, 0, none⟩) L2 d2) (.slice (some ⟨g3, 0, none⟩) m m) (.int .i64 k) (.int .i64 (q + 1))
  have N1 := Lib.hid n1
  have N2 := Lib.hid n2
  have N3 := Lib.hid n3.init
  have N4 := Lib.hid n4
  clear n1 n2 n3 n4 hI pB' sB hBV
  go_wp2
  refine bodyPost_ret (v := .tuple #[.agg #[.slice (some ⟨g1, 0, none⟩) L1 d1, .slice (some ⟨g2, 0, none⟩) L2 d2, .slice (some ⟨g3, 0, none⟩) m m], handV ((k : Int), q + 1), .int .i64 0]) (by simp [results, Try.results22, go_sem, handV, j0, j1, j2, j3, j4]) rfl ⟨g1, g2, g3, d1, d2, rfl, ⟨N1.out, N2.out, N3.out⟩, N4.out⟩
end Go.Proofs.Ytbalebnhjpjhgaa.L9

/- isPlace, isUsed, isYoung. -/
namespace Go.Proofs.Ytbalebnhjpjhgaa.L9
open Go.RowKit

set_option maxRecDepth 100000 in
set_option maxHeartbeats 1000000 in
theorem place_any (s1 s3 : Value) (a2 : Option Addr) (c2 L : Nat) (p g : Int) (w : World) :
    Calls Try.prog 34 #[.agg #[s1, .slice a2 L c2, s3], .agg #[.int .i64 p, .int .i64 g]] w fun e w' => e = .returned (.bool (decide (0 ≤ p ∧ p < L))) ∧ Below w.heap.size w w' := by
  obtain ⟨b, hb⟩ : ∃ b, b = decide (0 ≤ p ∧ p < (L : Int)) := ⟨_, rfl⟩
  rw [← hb]
  have HB := Lib.hid hb
  clear hb
  by_cases h0 : p < 0
  · go_enter Try.func34, Try.ntmps34
    go_wp2
    go_ret
    exact ⟨ret_bool (by rw [HB.out, decide_eq_false (by omega)]), ((Below.refl _ _).alloc (Nat.le_refl _) _).alloc (by simp) _⟩
  have h0' : 0 ≤ p := by omega
  by_cases h1 : p < (L : Int)
  · go_enter Try.func34, Try.ntmps34
    go_wp2
    go_ret
    exact ⟨ret_bool (by rw [HB.out, decide_eq_true (by omega)]), ((Below.refl _ _).alloc (Nat.le_refl _) _).alloc (by simp) _⟩
  · go_enter Try.func34, Try.ntmps34
    go_wp2
    go_ret
    exact ⟨ret_bool (by rw [HB.out, decide_eq_false (by omega)]), ((Below.refl _ _).alloc (Nat.le_refl _) _).alloc (by simp) _⟩

set_option maxRecDepth 100000 in
set_option maxHeartbeats 1000000 in
theorem used_any (s1 s3 : Value) (a2 : Option Addr) (c2 L k : Nat) (us : List Bool) (x : Bool) (hL : us.length = L) (g : Int) (hx : us[k]? = some x) (w : World) (hU : BoolsAt w.heap.size w a2 us) :
    Calls Try.prog 35 #[.agg #[s1, .slice a2 L c2, s3], .agg #[.int .i64 k, .int .i64 g]] w fun e w' => e = .returned (.bool x) ∧ Below w.heap.size w w' := by
  obtain ⟨hk, hxe⟩ := List.getElem?_eq_some_iff.1 hx
  obtain ⟨b, off, rfl, hb, hc⟩ := hU k hk
  rw [hxe] at hc
  have hkL : (k : Int) < (L : Int) := by omega
  have hkn : k < L := by omega
  clear hU hxe hx hL hk
  go_enter Try.func35, Try.ntmps35
  go_wp2
  go_ret
  exact ⟨rfl, ((Below.refl _ _).alloc (Nat.le_refl _) _).alloc (by simp) _⟩

set_option maxRecDepth 100000 in
set_option maxHeartbeats 4000000 in
theorem young_yes (a1 : Option Addr) (s2 s3 : Value) (c1 L k : Nat) (gs : List Int) (x g : Int) (hL : gs.length = L) (hx : gs[k]? = some x) (w : World) (hI : IntsAt w.heap.size w a1 gs) (hxg : x = g) :
    Calls Try.prog 36 #[.agg #[.slice a1 L c1, s2, s3], .agg #[.int .i64 k, .int .i64 g]] w fun e w' => e = .returned (.bool true) ∧ Below w.heap.size w w' := by
  have hgx : g = x := hxg.symm
  subst hgx
  have G := Lib.hid (fun W hW => handle_any a1 s2 s3 c1 L gs hL k g hx W hW)
  have HI := Lib.hid hI
  clear hI hL hx
  go_enter Try.func36, Try.ntmps36
  go_wp2_with fail
  obtain ⟨V, hV⟩ : ∃ V, V = ((w.alloc (.cells #[.slice a1 L c1, s2, s3] 47)).alloc (.cells #[.int .i64 k, .int .i64 g] 27)) := ⟨_, rfl⟩
  have k0 : V.cell? ⟨w.heap.size, 0, none⟩ = some (.slice a1 L c1) := by rw [hV]; go_simp
  have k1 : V.cell? ⟨w.heap.size, 1, none⟩ = some s2 := by rw [hV]; go_simp
  have k2 : V.cell? ⟨w.heap.size, 2, none⟩ = some s3 := by rw [hV]; go_simp
  have k3 : V.cell? ⟨w.heap.size + 1, 0, none⟩ = some (.int .i64 k) := by rw [hV]; go_simp
  have k4 : V.cell? ⟨w.heap.size + 1, 1, none⟩ = some (.int .i64 g) := by rw [hV]; go_simp
  have hB : Below w.heap.size w V := by rw [hV]; exact ((Below.refl _ _).alloc (Nat.le_refl _) _).alloc (by simp) _
  rw [← hV]
  have hz : V.heap.size = w.heap.size + 2 := by rw [hV]; simp
  have hI : IntsAt V.heap.size V a1 gs := (HI.out.below hB).mono hB.size
  have h1V : w.heap.size + 1 < V.heap.size := by omega
  have h0V : w.heap.size < V.heap.size := by omega
  have hUU : Below w.heap.size V V := Below.refl _ _
  clear hV
  go_region_held3 (fun w' => w'.cell? ⟨w.heap.size, 0, none⟩ = some (.slice a1 L c1) ∧ w'.cell? ⟨w.heap.size, 1, none⟩ = some s2 ∧ w'.cell? ⟨w.heap.size, 2, none⟩ = some s3 ∧ w'.cell? ⟨w.heap.size + 1, 0, none⟩ = some (.int .i64 k) ∧ w'.cell? ⟨w.heap.size + 1, 1, none⟩ = some (.int .i64 g) ∧ Below w.heap.size V w')
    (first | with_reducible assumption | (go_split_ands; (try dsimp only); first
      | with_reducible exact ⟨(by with_reducible assumption), (by with_reducible assumption), (by with_reducible assumption), (by with_reducible assumption), (by with_reducible assumption), (by with_reducible assumption)⟩
      | exact ⟨k0, k1, k2, k3, k4, below_drew hUU⟩))
    ((first
      | (go_at_call 40; refine (G.out _ ?_).mono ?_; exact hI; rintro e w4 ⟨rfl, pB⟩; have s0 := (pB.cell (p := ⟨w.heap.size, 0, none⟩) h0V).trans k0; have s1 := (pB.cell (p := ⟨w.heap.size, 1, none⟩) h0V).trans k1; have s2 := (pB.cell (p := ⟨w.heap.size, 2, none⟩) h0V).trans k2; have s3 := (pB.cell (p := ⟨w.heap.size + 1, 0, none⟩) h1V).trans k3; have s4 := (pB.cell (p := ⟨w.heap.size + 1, 1, none⟩) h1V).trans k4; have sB : Below w.heap.size V w4 := ⟨pB.os, pB.tape, pB.output, pB.size, fun i hi => pB.block i (Nat.lt_trans hi h0V)⟩; clear pB)))
  go_wp2
  go_ret
  exact ⟨rfl, hB.trans sB⟩

set_option maxRecDepth 100000 in
set_option maxHeartbeats 4000000 in
theorem young_no (a1 : Option Addr) (s2 s3 : Value) (c1 L k : Nat) (gs : List Int) (x g : Int) (hL : gs.length = L) (hx : gs[k]? = some x) (w : World) (hI : IntsAt w.heap.size w a1 gs) (hxg : ¬ x = g) :
    Calls Try.prog 36 #[.agg #[.slice a1 L c1, s2, s3], .agg #[.int .i64 k, .int .i64 g]] w fun e w' => e = .returned (.bool false) ∧ Below w.heap.size w w' := by
  have G := Lib.hid (fun W hW => handle_any a1 s2 s3 c1 L gs hL k x hx W hW)
  have HI := Lib.hid hI
  clear hI hL hx
  go_enter Try.func36, Try.ntmps36
  go_wp2_with fail
  obtain ⟨V, hV⟩ : ∃ V, V = ((w.alloc (.cells #[.slice a1 L c1, s2, s3] 47)).alloc (.cells #[.int .i64 k, .int .i64 g] 27)) := ⟨_, rfl⟩
  have k0 : V.cell? ⟨w.heap.size, 0, none⟩ = some (.slice a1 L c1) := by rw [hV]; go_simp
  have k1 : V.cell? ⟨w.heap.size, 1, none⟩ = some s2 := by rw [hV]; go_simp
  have k2 : V.cell? ⟨w.heap.size, 2, none⟩ = some s3 := by rw [hV]; go_simp
  have k3 : V.cell? ⟨w.heap.size + 1, 0, none⟩ = some (.int .i64 k) := by rw [hV]; go_simp
  have k4 : V.cell? ⟨w.heap.size + 1, 1, none⟩ = some (.int .i64 g) := by rw [hV]; go_simp
  have hB : Below w.heap.size w V := by rw [hV]; exact ((Below.refl _ _).alloc (Nat.le_refl _) _).alloc (by simp) _
  rw [← hV]
  have hz : V.heap.size = w.heap.size + 2 := by rw [hV]; simp
  have hI : IntsAt V.heap.size V a1 gs := (HI.out.below hB).mono hB.size
  have h1V : w.heap.size + 1 < V.heap.size := by omega
  have h0V : w.heap.size < V.heap.size := by omega
  have hUU : Below w.heap.size V V := Below.refl _ _
  clear hV
  go_region_held3 (fun w' => w'.cell? ⟨w.heap.size, 0, none⟩ = some (.slice a1 L c1) ∧ w'.cell? ⟨w.heap.size, 1, none⟩ = some s2 ∧ w'.cell? ⟨w.heap.size, 2, none⟩ = some s3 ∧ w'.cell? ⟨w.heap.size + 1, 0, none⟩ = some (.int .i64 k) ∧ w'.cell? ⟨w.heap.size + 1, 1, none⟩ = some (.int .i64 g) ∧ Below w.heap.size V w')
    (first | with_reducible assumption | (go_split_ands; (try dsimp only); first
      | with_reducible exact ⟨(by with_reducible assumption), (by with_reducible assumption), (by with_reducible assumption), (by with_reducible assumption), (by with_reducible assumption), (by with_reducible assumption)⟩
      | exact ⟨k0, k1, k2, k3, k4, below_drew hUU⟩))
    ((first
      | (go_at_call 40; refine (G.out _ ?_).mono ?_; exact hI; rintro e w4 ⟨rfl, pB⟩; have s0 := (pB.cell (p := ⟨w.heap.size, 0, none⟩) h0V).trans k0; have s1 := (pB.cell (p := ⟨w.heap.size, 1, none⟩) h0V).trans k1; have s2 := (pB.cell (p := ⟨w.heap.size, 2, none⟩) h0V).trans k2; have s3 := (pB.cell (p := ⟨w.heap.size + 1, 0, none⟩) h1V).trans k3; have s4 := (pB.cell (p := ⟨w.heap.size + 1, 1, none⟩) h1V).trans k4; have sB : Below w.heap.size V w4 := ⟨pB.os, pB.tape, pB.output, pB.size, fun i hi => pB.block i (Nat.lt_trans hi h0V)⟩; clear pB)))
  go_wp2
  go_ret
  exact ⟨rfl, hB.trans sB⟩

theorem young_any (a1 : Option Addr) (s2 s3 : Value) (c1 L k : Nat) (gs : List Int) (x g : Int) (hL : gs.length = L) (hx : gs[k]? = some x) (w : World) (hI : IntsAt w.heap.size w a1 gs) :
    Calls Try.prog 36 #[.agg #[.slice a1 L c1, s2, s3], .agg #[.int .i64 k, .int .i64 g]] w fun e w' => e = .returned (.bool (decide (x = g))) ∧ Below w.heap.size w w' := by
  by_cases h : x = g
  · rw [decide_eq_true h]; exact young_yes a1 s2 s3 c1 L k gs x g hL hx w hI h
  · rw [decide_eq_false h]; exact young_no a1 s2 s3 c1 L k gs x g hL hx w hI h
end Go.Proofs.Ytbalebnhjpjhgaa.L9

/- has, at the three checks; Valid. -/
namespace Go.Proofs.Ytbalebnhjpjhgaa.L9
open Go.RowKit

/-- A handle is that of a slot that is used. -/
def Live (s : Sl) (h : Int × Int) : Prop := 0 ≤ h.1 ∧ h.1 < s.u.length ∧ s.u[h.1.toNat]? = some true ∧ s.g[h.1.toNat]? = some h.2
instance (s : Sl) (h : Int × Int) : Decidable (Live s h) := by unfold Live; infer_instance
def Sl.valid (s : Sl) (h : Int × Int) : Bool := s.right && decide (Live s h)

set_option maxRecDepth 100000 in
set_option maxHeartbeats 2000000 in
theorem has_any (a1 a2 a3 : Option Addr) (c1 c2 c3 L M bS : Nat) (s : Sl) (p g : Int) (hg : s.g.length = L) (hu : s.u.length = L) (w : World) (h : SlotsAt w.heap.size w a1 a2 a3 s.g s.u s.f)
    (k0 : w.cell? ⟨bS, 0, none⟩ = some (.func (.func 34) #[] #[])) (k1 : w.cell? ⟨bS, 1, none⟩ = some (.func (.func 35) #[] #[])) (k2 : w.cell? ⟨bS, 2, none⟩ = some (.func (.func 36) #[] #[])) :
    Calls Try.prog 33 #[.agg #[.slice a1 L c1, .slice a2 L c2, .slice a3 M c3], .agg #[.int .i64 p, .int .i64 g], .slice (some ⟨bS, 0, none⟩) 3 3] w fun e w' => e = .returned (.bool (decide (Live s (p, g)))) ∧ Below w.heap.size w w' := by
  have hz := blt k0
  have HS := Lib.hid h
  have hA : Below w.heap.size w ((w.alloc (.cells #[.slice a1 L c1, .slice a2 L c2, .slice a3 M c3] 47)).alloc (.cells #[.int .i64 p, .int .i64 g] 27)) := ((Below.refl _ _).alloc (Nat.le_refl _) _).alloc (by simp) _
  have HA := Lib.hid hA
  have H1 := Lib.hid (fun W => place_any (.slice a1 L c1) (.slice a3 M c3) a2 c2 L p g W)
  clear h hA
  by_cases hp : 0 ≤ p ∧ p < (L : Int)
  rotate_left
  · rw [decide_eq_false (show ¬ Live s (p, g) from fun x => hp ⟨x.1, by have := x.2.1; omega⟩)]
    rw [decide_eq_false hp] at H1
    clear hp hg hu
    go_enter Try.func33, Try.ntmps33
    go_wp2
    refine wp_loop_rounds 3 ?_
    rw [rounds_succ]
    go_wp2_with fail
    refine (H1.out _).mono ?_; rintro e w1 ⟨rfl, hb1⟩
    go_wp2
    go_ret
    exact ⟨rfl, HA.out.trans (hb1.mono HA.out.size)⟩
  rw [decide_eq_true hp] at H1
  obtain ⟨k, rfl⟩ : ∃ k : Nat, p = k := ⟨p.toNat, by omega⟩
  have hk : k < L := by omega
  obtain ⟨x, hx⟩ : ∃ x, s.u[k]? = some x := ⟨_, List.getElem?_eq_getElem (by omega)⟩
  obtain ⟨y, hy⟩ : ∃ y, s.g[k]? = some y := ⟨_, List.getElem?_eq_getElem (by omega)⟩
  have H2 := Lib.hid (fun W hW => used_any (.slice a1 L c1) (.slice a3 M c3) a2 c2 L k s.u x hu g hx W hW)
  have H3 := Lib.hid (fun W hW => young_any a1 (.slice a2 L c2) (.slice a3 M c3) c1 L k s.g y g hg hy W hW)
  have hE : decide (Live s ((k : Int), g)) = (x && decide (y = g)) := by
    rw [Bool.eq_iff_iff]
    unfold Live
    simp [hx, hy, hu]
    omega
  rw [hE]
  clear hE hx hy hp hg hu
  cases x with
  | false =>
    rw [Bool.false_and]
    go_enter Try.func33, Try.ntmps33
    go_wp2
    refine wp_loop_rounds 3 ?_
    rw [rounds_succ]
    go_wp2_with fail
    refine (H1.out _).mono ?_; rintro e w1 ⟨rfl, hb1⟩
    obtain ⟨hc1, hf1⟩ := bcell hb1; have hz1 : bS < w1.heap.size := Nat.lt_of_lt_of_le hz (Nat.le_trans HA.out.size hb1.size); have hzw : w.heap.size + 1 < w1.heap.size := Nat.lt_of_lt_of_le (by simp) hb1.size; have hzv : w.heap.size < w1.heap.size := by omega
    have HB := Lib.hid (HA.out.trans (hb1.mono HA.out.size))
    have m1 := (HB.out.cell (p := ⟨bS, 1, none⟩) hz).trans k1
    have m2 := (HB.out.cell (p := ⟨bS, 2, none⟩) hz).trans k2
    go_wp2
    rw [rounds_succ]
    go_wp2_with fail
    refine (H2.out _ ((HS.out.on HB.out).u)).mono ?_; rintro e w2 ⟨rfl, hb2⟩
    go_wp2
    go_ret
    exact ⟨rfl, HB.out.trans (hb2.mono HB.out.size)⟩
  | true =>
    rw [Bool.true_and]
    cases hyg : decide (y = g) with
    | false =>
      rw [hyg] at H3
      clear hyg
      go_enter Try.func33, Try.ntmps33
      go_wp2
      refine wp_loop_rounds 4 ?_
      rw [rounds_succ]
      go_wp2_with fail
      refine (H1.out _).mono ?_; rintro e w1 ⟨rfl, hb1⟩
      obtain ⟨hc1, hf1⟩ := bcell hb1; have hz1 : bS < w1.heap.size := Nat.lt_of_lt_of_le hz (Nat.le_trans HA.out.size hb1.size); have hzw : w.heap.size + 1 < w1.heap.size := Nat.lt_of_lt_of_le (by simp) hb1.size; have hzv : w.heap.size < w1.heap.size := by omega
      have HB := Lib.hid (HA.out.trans (hb1.mono HA.out.size))
      have m1 := (HB.out.cell (p := ⟨bS, 1, none⟩) hz).trans k1
      have m2 := (HB.out.cell (p := ⟨bS, 2, none⟩) hz).trans k2
      go_wp2
      rw [rounds_succ]
      go_wp2_with fail
      refine (H2.out _ ((HS.out.on HB.out).u)).mono ?_; rintro e w2 ⟨rfl, hb2⟩
      obtain ⟨hc2, hf2⟩ := bcell hb2; have HC := Lib.hid (HB.out.trans (hb2.mono HB.out.size))
      go_wp2
      rw [rounds_succ]
      go_wp2_with fail
      refine (H3.out _ ((HS.out.on HC.out).g)).mono ?_; rintro e w3 ⟨rfl, hb3⟩
      go_wp2
      go_ret
      exact ⟨rfl, HC.out.trans (hb3.mono HC.out.size)⟩
    | true =>
      rw [hyg] at H3
      clear hyg
      go_enter Try.func33, Try.ntmps33
      go_wp2
      refine wp_loop_rounds 4 ?_
      rw [rounds_succ]
      go_wp2_with fail
      refine (H1.out _).mono ?_; rintro e w1 ⟨rfl, hb1⟩
      obtain ⟨hc1, hf1⟩ := bcell hb1; have hz1 : bS < w1.heap.size := Nat.lt_of_lt_of_le hz (Nat.le_trans HA.out.size hb1.size); have hzw : w.heap.size + 1 < w1.heap.size := Nat.lt_of_lt_of_le (by simp) hb1.size; have hzv : w.heap.size < w1.heap.size := by omega
      have HB := Lib.hid (HA.out.trans (hb1.mono HA.out.size))
      have m1 := (HB.out.cell (p := ⟨bS, 1, none⟩) hz).trans k1
      have m2 := (HB.out.cell (p := ⟨bS, 2, none⟩) hz).trans k2
      go_wp2
      rw [rounds_succ]
      go_wp2_with fail
      refine (H2.out _ ((HS.out.on HB.out).u)).mono ?_; rintro e w2 ⟨rfl, hb2⟩
      obtain ⟨hc2, hf2⟩ := bcell hb2; have HC := Lib.hid (HB.out.trans (hb2.mono HB.out.size))
      go_wp2
      rw [rounds_succ]
      go_wp2_with fail
      refine (H3.out _ ((HS.out.on HC.out).g)).mono ?_; rintro e w3 ⟨rfl, hb3⟩
      go_wp2
      rw [rounds_succ]
      go_wp2
      go_ret
      exact ⟨rfl, HC.out.trans (hb3.mono HC.out.size)⟩
end Go.Proofs.Ytbalebnhjpjhgaa.L9

/- Valid. -/
namespace Go.Proofs.Ytbalebnhjpjhgaa.L9
open Go.RowKit

set_option maxRecDepth 100000 in
set_option maxHeartbeats 2000000 in
theorem valid_any (a1 a2 a3 : Option Addr) (c1 c2 c3 L1 L2 L3 : Nat) (s : Sl) (p g : Int) (h1 : s.g.length = L1) (h2 : s.u.length = L2) (h3 : s.f.length = L3) (w : World) (h : SlotsAt w.heap.size w a1 a2 a3 s.g s.u s.f) :
    Calls Try.prog 17 #[.agg #[.slice a1 L1 c1, .slice a2 L2 c2, .slice a3 L3 c3], .agg #[.int .i64 p, .int .i64 g]] w fun e w' => e = .returned (.bool (s.valid (p, g))) ∧ Below w.heap.size w w' := by
  have H := Lib.hid (fun w hS => right2_any a1 a2 a3 c1 c2 c3 L1 L2 L3 s h1 h2 h3 w hS)
  have HS := Lib.hid h
  have hA : Below w.heap.size w ((w.alloc (.cells #[.slice a1 L1 c1, .slice a2 L2 c2, .slice a3 L3 c3] 25)).alloc (.cells #[.int .i64 p, .int .i64 g] 27)) := ((Below.refl _ _).alloc (Nat.le_refl _) _).alloc (by simp) _
  have HA := Lib.hid hA
  clear h hA
  unfold Sl.valid
  cases hr : s.right with
  | false =>
    rw [hr] at H
    rw [Bool.false_and]
    clear h1 h2 h3 hr
    go_enter Try.func17, Try.ntmps17
    go_wp2_with fail
    refine (H.out _ (HS.out.on HA.out)).mono ?_; rintro e w1 ⟨rfl, hb1⟩
    go_wp2
    go_ret
    exact ⟨rfl, HA.out.trans (hb1.mono HA.out.size)⟩
  | true =>
    obtain ⟨R1, R2, R3, R4, _⟩ := (right_iff s).1 hr
    obtain rfl : L1 = L2 := by omega
    have G := Lib.hid (fun bS w hS k0 k1 k2 => has_any a1 a2 a3 c1 c2 c3 L1 L3 bS s p g h1 h2 w hS k0 k1 k2)
    rw [hr] at H
    rw [Bool.true_and]
    clear h1 h2 h3 hr R1 R2 R3 R4
    go_enter Try.func17, Try.ntmps17
    go_wp2_with fail
    refine (H.out _ (HS.out.on HA.out)).mono ?_; rintro e w1 ⟨rfl, hb1⟩
    obtain ⟨hc1, hf1⟩ := bcell hb1
    have hz1 := hb1.size
    simp only [World.size_alloc] at hz1
    have HB := Lib.hid (HA.out.trans (hb1.mono HA.out.size))
    clear hb1
    go_wp2_with fail
    refine (G.out _ _ (HS.out.on (HB.out.alloc HB.out.size _)) ?_ ?_ ?_).mono ?_
    · go_simp
    · go_simp
    · go_simp
    rintro e w2 ⟨rfl, hb2⟩
    go_wp2
    go_ret
    exact ⟨rfl, (HB.out.alloc HB.out.size _).trans (hb2.mono (by have := HB.out.size; simp; omega))⟩
end Go.Proofs.Ytbalebnhjpjhgaa.L9

/- Give. -/
namespace Go.Proofs.Ytbalebnhjpjhgaa.L9
open Go.RowKit

theorem below_set3 {n B2 : Nat} {w W : World} (h : Below n w W) (h2 : n ≤ B2) (v0 v1 v2 : Value) :
    Below n w (((W.setCell ⟨B2, 0, none⟩ v0).setCell ⟨B2, 1, none⟩ v1).setCell ⟨B2, 2, none⟩ v2) :=
  ((h.setCell (p := ⟨B2, 0, none⟩) h2 _).setCell (p := ⟨B2, 1, none⟩) h2 _).setCell (p := ⟨B2, 2, none⟩) h2 _

set_option maxRecDepth 100000 in
set_option maxHeartbeats 2000000 in
theorem give_wrong (a1 a2 a3 : Option Addr) (c1 c2 c3 L1 L2 L3 : Nat) (s : Sl) (p g : Int) (h1 : s.g.length = L1) (h2 : s.u.length = L2) (h3 : s.f.length = L3) (w : World) (h : SlotsAt w.heap.size w a1 a2 a3 s.g s.u s.f) (hr : s.right = false) :
    Calls Try.prog 24 #[.agg #[.slice a1 L1 c1, .slice a2 L2 c2, .slice a3 L3 c3], .agg #[.int .i64 p, .int .i64 g]] w fun e w' => e = .returned (.tuple #[nilV, .int .i64 90]) ∧ Below w.heap.size w w' := by
  have H := Lib.hid (fun w hS => right2_any a1 a2 a3 c1 c2 c3 L1 L2 L3 s h1 h2 h3 w hS)
  rw [hr] at H
  have HS := Lib.hid h
  have hA : Below w.heap.size w (((w.alloc (.cells #[.slice a1 L1 c1, .slice a2 L2 c2, .slice a3 L3 c3] 25)).alloc (.cells #[.int .i64 p, .int .i64 g] 27)).alloc (.cells #[.slice none 0 0, .slice none 0 0, .slice none 0 0] 25)) := (((Below.refl _ _).alloc (Nat.le_refl _) _).alloc (by simp) _).alloc (by simp; omega) _
  clear h hr h1 h2 h3
  go_enter Try.func24, Try.ntmps24
  go_wp2_with fail
  refine (H.out _ (HS.out.on hA)).mono ?_
  rintro e w1 ⟨rfl, hb1⟩
  have hz1 := hb1.size
  have hW := hA.trans (hb1.mono hA.size)
  have r3 := (Fr3.new ((w.alloc (.cells #[.slice a1 L1 c1, .slice a2 L2 c2, .slice a3 L3 c3] 25)).alloc (.cells #[.int .i64 p, .int .i64 g] 27)) 25).on hb1 (by simp)
  simp only [World.size_alloc] at r3 hz1
  obtain ⟨e0, e1, e2, f0, f1, f2⟩ := r3
  clear hb1 hA
  go_wp2
  refine bodyPost_ret (v := .tuple #[nilV, .int .i64 90]) (by simp [results, Try.results24, go_sem, nilV, e0, e1, e2]) rfl ⟨rfl, ?_⟩
  exact below_set3 hW (by omega) _ _ _

set_option maxRecDepth 100000 in
set_option maxHeartbeats 2000000 in
theorem give_old (a1 a2 a3 : Option Addr) (c1 c2 c3 L1 L2 L3 : Nat) (s : Sl) (p g : Int) (h1 : s.g.length = L1) (h2 : s.u.length = L2) (h3 : s.f.length = L3) (w : World) (h : SlotsAt w.heap.size w a1 a2 a3 s.g s.u s.f) (hr : s.right = true) (hv : s.valid (p, g) = false) :
    Calls Try.prog 24 #[.agg #[.slice a1 L1 c1, .slice a2 L2 c2, .slice a3 L3 c3], .agg #[.int .i64 p, .int .i64 g]] w fun e w' => e = .returned (.tuple #[nilV, .int .i64 91]) ∧ Below w.heap.size w w' := by
  have H := Lib.hid (fun w hS => right2_any a1 a2 a3 c1 c2 c3 L1 L2 L3 s h1 h2 h3 w hS)
  have G := Lib.hid (fun w hS => valid_any a1 a2 a3 c1 c2 c3 L1 L2 L3 s p g h1 h2 h3 w hS)
  rw [hr] at H
  rw [hv] at G
  have HS := Lib.hid h
  have hA : Below w.heap.size w (((w.alloc (.cells #[.slice a1 L1 c1, .slice a2 L2 c2, .slice a3 L3 c3] 25)).alloc (.cells #[.int .i64 p, .int .i64 g] 27)).alloc (.cells #[.slice none 0 0, .slice none 0 0, .slice none 0 0] 25)) := (((Below.refl _ _).alloc (Nat.le_refl _) _).alloc (by simp) _).alloc (by simp; omega) _
  clear h hr h1 h2 h3 hv
  go_enter Try.func24, Try.ntmps24
  go_wp2_with fail
  refine (H.out _ (HS.out.on hA)).mono ?_
  rintro e w1 ⟨rfl, hb1⟩
  have hz1 := hb1.size
  have hW := hA.trans (hb1.mono hA.size)
  have r3 := (Fr3.new ((w.alloc (.cells #[.slice a1 L1 c1, .slice a2 L2 c2, .slice a3 L3 c3] 25)).alloc (.cells #[.int .i64 p, .int .i64 g] 27)) 25).on hb1 (by simp)
  obtain ⟨hc1, hf1⟩ := bcell hb1
  simp only [World.size_alloc] at r3 hz1
  clear hb1 hA
  go_wp2_with fail
  refine (G.out _ (HS.out.on hW)).mono ?_
  rintro e w2 ⟨rfl, hb2⟩
  have hz2 := hb2.size
  have hW2 := hW.trans (hb2.mono hW.size)
  obtain ⟨e0, e1, e2, f0, f1, f2⟩ := r3.on hb2 (by omega)
  clear hb2 hW hc1 hf1 r3
  go_wp2
  refine bodyPost_ret (v := .tuple #[nilV, .int .i64 91]) (by simp [results, Try.results24, go_sem, nilV, e0, e1, e2]) rfl ⟨rfl, ?_⟩
  exact below_set3 hW2 (by omega) _ _ _

theorem copy4_any (a1 a2 a3 : Option Addr) (c1 c2 c3 L1 L2 L3 : Nat) (s : Sl) (h1 : s.g.length = L1) (h2 : s.u.length = L2) (h3 : s.f.length = L3) (l1 : L1 ≤ 1000) (l2 : L2 ≤ 1000) (l3 : L3 ≤ 1000) (p1 : 0 < L1) (p2 : 0 < L2) (w : World) (h : SlotsAt w.heap.size w a1 a2 a3 s.g s.u s.f) :
    Calls Try.prog 39 #[.agg #[.slice a1 L1 c1, .slice a2 L2 c2, .slice a3 L3 c3]] w fun e w' => ∃ g1 g2 b3 d1 d2 d3, e = .returned (.agg #[.slice (some ⟨g1, 0, none⟩) L1 d1, .slice (some ⟨g2, 0, none⟩) L2 d2, .slice b3 L3 d3]) ∧
      OwnI w.heap.size w' (.slice (some ⟨g1, 0, none⟩) L1 d1) s.g ∧ OwnB w.heap.size w' (.slice (some ⟨g2, 0, none⟩) L2 d2) s.u ∧ OwnI w.heap.size w' (.slice b3 L3 d3) s.f ∧ Value.ownBlock (.slice b3 L3 d3) ≠ some g1 ∧ Value.ownBlock (.slice b3 L3 d3) ≠ some g2 ∧ Below w.heap.size w w' := by
  refine (copy2_any a1 a2 a3 c1 c2 c3 L1 L2 L3 s h1 h2 h3 l1 l2 l3 w h).mono ?_
  rintro e w' ⟨b1, b2, b3, d1, d2, d3, rfl, o1, o2, o3, hd, hb⟩
  obtain ⟨g1, k1, e1, _, _⟩ := World.ownsRow.form o1 (by omega)
  obtain ⟨g2, k2, e2, _, _⟩ := World.ownsRow.form o2 (by omega)
  simp only [Value.slice.injEq] at e1 e2
  obtain ⟨rfl, _, rfl⟩ := e1
  obtain ⟨rfl, _, rfl⟩ := e2
  refine ⟨g1, g2, b3, d1, d2, d3, rfl, o1, o2, o3, hd g1 rfl, fun e => ?_, hb⟩
  rcases o3.2 with ⟨h', _⟩ | ⟨g, cap, cur, h', _, _, hc, _⟩
  · rw [h'] at e; cases e
  · rw [h'] at o3 e
    have := Option.some.inj e
    exact own_ne o3 o2 this
end Go.Proofs.Ytbalebnhjpjhgaa.L9

/- Give: the handle is valid. -/
namespace Go.Proofs.Ytbalebnhjpjhgaa.L9
open Go.RowKit

theorem keep_alloc_f {W : World} {b o : Nat} {v : Value} {f : Bool} (X : Obj) (h : W.cell? ⟨b, o, none⟩ = some v) (hf : W.frozen? ⟨b, o, none⟩ = f) : (W.alloc X).frozen? ⟨b, o, none⟩ = f :=
  (World.frozen?_of_block (w := W) (Below.heap_alloc W X b (blt h))).trans hf
theorem Fr3.far {B : Nat} {W W' : World} {row : Option Nat} (h : Fr3 B W) (hg : W.grownBy W' row) (hB : B < W.heap.size) (hne : row ≠ some B) : Fr3 B W' :=
  ⟨(hg.cell_far ⟨B, 0, none⟩ hB hne.symm).trans h.e0, (hg.cell_far ⟨B, 1, none⟩ hB hne.symm).trans h.e1, (hg.cell_far ⟨B, 2, none⟩ hB hne.symm).trans h.e2, (hg.frozen_far ⟨B, 0, none⟩ hB hne.symm).trans h.f0, (hg.frozen_far ⟨B, 1, none⟩ hB hne.symm).trans h.f1, (hg.frozen_far ⟨B, 2, none⟩ hB hne.symm).trans h.f2⟩

set_option maxRecDepth 100000 in
set_option maxHeartbeats 4000000 in
theorem give_ok (a1 a2 a3 : Option Addr) (c1 c2 c3 L1 L2 L3 k : Nat) (s : Sl) (g : Int) (h1 : s.g.length = L1) (h2 : s.u.length = L2) (h3 : s.f.length = L3) (w : World) (h : SlotsAt w.heap.size w a1 a2 a3 s.g s.u s.f) (hr : s.right = true) (hv : s.valid ((k : Int), g) = true) :
    Calls Try.prog 24 #[.agg #[.slice a1 L1 c1, .slice a2 L2 c2, .slice a3 L3 c3], .agg #[.int .i64 k, .int .i64 g]] w fun e w' => ∃ b1 b2 b3 d1 d2 d3, e = .returned (.tuple #[.agg #[.slice b1 L1 d1, .slice b2 L2 d2, .slice b3 (L3 + 1) d3], .int .i64 0]) ∧
      SlotsAt w'.heap.size w' b1 b2 b3 s.g (s.u.set k false) (s.f ++ [(k : Int)]) ∧ Below w.heap.size w w' := by
  obtain ⟨R1, R2, R3, R4, _⟩ := (right_iff s).1 hr
  have hlive : Live s ((k : Int), g) := by
    unfold Sl.valid at hv
    exact of_decide_eq_true (Bool.and_eq_true _ _ ▸ hv : _ ∧ _).2
  have hk : k < L2 := by have := hlive.2.1; simp only at this; omega
  obtain ⟨x, hx⟩ : ∃ x, s.u[k]? = some x := ⟨_, List.getElem?_eq_getElem (by omega)⟩
  have H := Lib.hid (fun w hS => right2_any a1 a2 a3 c1 c2 c3 L1 L2 L3 s h1 h2 h3 w hS)
  have G := Lib.hid (fun w hS => valid_any a1 a2 a3 c1 c2 c3 L1 L2 L3 s k g h1 h2 h3 w hS)
  have H2 := Lib.hid (fun w hS => copy4_any a1 a2 a3 c1 c2 c3 L1 L2 L3 s h1 h2 h3 (by omega) (by omega) (by omega) (by omega) (by omega) w hS)
  rw [hr] at H
  rw [hv] at G
  have HS := Lib.hid h
  have HL1 := Lib.hid h1
  have HL2 := Lib.hid h2
  have HL3 := Lib.hid h3
  have HX := Lib.hid hx
  have hk2 : (k : Int) < (L2 : Int) := by omega
  have hL3 : L3 ≤ 64 := by omega
  obtain ⟨i0, hi0, hz0, hzz1, hzz2⟩ := info_parts info3
  have hA : Below w.heap.size w (((w.alloc (.cells #[.slice a1 L1 c1, .slice a2 L2 c2, .slice a3 L3 c3] 25)).alloc (.cells #[.int .i64 k, .int .i64 g] 27)).alloc (.cells #[.slice none 0 0, .slice none 0 0, .slice none 0 0] 25)) := (((Below.refl _ _).alloc (Nat.le_refl _) _).alloc (by simp) _).alloc (by simp; omega) _
  clear h hr h1 h2 h3 hv hlive R1 R2 R3 R4 hx
  go_enter Try.func24, Try.ntmps24
  go_wp2_with fail
  refine (H.out _ (HS.out.on hA)).mono ?_
  rintro e w1 ⟨rfl, hb1⟩
  have hz1 := hb1.size
  have hW := hA.trans (hb1.mono hA.size)
  have r3 := (Fr3.new ((w.alloc (.cells #[.slice a1 L1 c1, .slice a2 L2 c2, .slice a3 L3 c3] 25)).alloc (.cells #[.int .i64 k, .int .i64 g] 27)) 25).on hb1 (by simp)
  obtain ⟨hc1, hf1⟩ := bcell hb1
  simp only [World.size_alloc] at r3 hz1
  clear hb1 hA
  go_wp2_with fail
  refine (G.out _ (HS.out.on hW)).mono ?_
  rintro e w2 ⟨rfl, hb2⟩
  have hz2 := hb2.size
  have hW2 := hW.trans (hb2.mono hW.size)
  have r3 := r3.on hb2 (by omega)
  obtain ⟨hc2, hf2⟩ := bcell hb2
  have q0 : w2.cell? ⟨w.heap.size + 1, 0, none⟩ = some (.int .i64 k) := (hb2.cell (p := ⟨w.heap.size + 1, 0, none⟩) (show w.heap.size + 1 < w1.heap.size by omega)).trans (by go_simp)
  clear hb2 hW
  have hy1 : w.heap.size < w1.heap.size := by omega
  go_wp2_with fail
  refine (H2.out _ (HS.out.on hW2)).mono ?_
  rintro e w3 ⟨g1, g2, b3, d1, d2, d3, rfl, o1, o2, o3, hd1, hd2, hb3⟩
  have hz3 := hb3.size
  have hW3 := hW2.trans (hb3.mono hW2.size)
  have r3 := r3.on hb3 (by omega)
  have q0 := (hb3.cell (p := ⟨w.heap.size + 1, 0, none⟩) (show w.heap.size + 1 < w2.heap.size by omega)).trans q0
  obtain ⟨lo1, hi1⟩ := o1.lt g1 rfl
  obtain ⟨lo2, hi2⟩ := o2.lt g2 rfl
  have hl3 := o3.lt
  have x2 := o2.cell HL2.out HX.out
  have fr2 := o2.frozen HL2.out k
  have ne12 : g1 ≠ g2 := own_ne o1 o2
  have hX : Below w3.heap.size w3 (w3.alloc (.cells #[.slice (some ⟨g1, 0, none⟩) L1 d1, .slice (some ⟨g2, 0, none⟩) L2 d2, .slice b3 L3 d3] 47)) := (Below.refl w3.heap.size w3).alloc (Nat.le_refl _) _
  have ne2 : g2 ≠ w3.heap.size := by omega
  have O1 : OwnI w2.heap.size ((w3.setCell ⟨g2, k, none⟩ (.bool false)).alloc (.cells #[.slice (some ⟨g1, 0, none⟩) L1 d1, .slice (some ⟨g2, 0, none⟩) L2 d2, .slice b3 L3 d3] 47)) _ _ := (o1.set_ne (B := g2) (o := k) (x := .bool false) ne12).alloc _
  have O2 : OwnB w2.heap.size ((w3.setCell ⟨g2, k, none⟩ (.bool false)).alloc (.cells #[.slice (some ⟨g1, 0, none⟩) L1 d1, .slice (some ⟨g2, 0, none⟩) L2 d2, .slice b3 L3 d3] 47)) _ _ := (o2.put HL2.out k false).alloc _
  have O3 : OwnI w2.heap.size ((w3.setCell ⟨g2, k, none⟩ (.bool false)).alloc (.cells #[.slice (some ⟨g1, 0, none⟩) L1 d1, .slice (some ⟨g2, 0, none⟩) L2 d2, .slice b3 L3 d3] 47)) _ _ := World.ownsRow.alloc (o3.kept (grownBy_setCell _ g2 k (.bool false)) (.inr hd2)) _
  have hS : Below w2.heap.size w3 (w3.setCell ⟨g2, k, none⟩ (.bool false)) := (Below.refl _ _).setCell (p := ⟨g2, k, none⟩) lo2 _
  have hSz : (w3.setCell ⟨g2, k, none⟩ (.bool false)).heap.size = w3.heap.size := by simp [World.setCell]
  have hX' : Below w2.heap.size w3 ((w3.setCell ⟨g2, k, none⟩ (.bool false)).alloc (.cells #[.slice (some ⟨g1, 0, none⟩) L1 d1, .slice (some ⟨g2, 0, none⟩) L2 d2, .slice b3 L3 d3] 47)) := hS.alloc (by omega) _
  have R3 := r3.on hX' (by omega)
  have hW4 : Below w.heap.size w ((w3.setCell ⟨g2, k, none⟩ (.bool false)).alloc (.cells #[.slice (some ⟨g1, 0, none⟩) L1 d1, .slice (some ⟨g2, 0, none⟩) L2 d2, .slice b3 L3 d3] 47)) := hW3.trans (hX'.mono (by omega))
  have hy3 : w.heap.size + 1 < w3.heap.size := by omega
  have nq2 : w.heap.size + 1 ≠ g2 := by omega
  have nr2 : w.heap.size + 1 + 1 ≠ g2 := by omega
  clear hb3 o1 o2 o3 hc1 hf1 hc2 hf2 hX
  go_upto_region 7 with fail
  obtain ⟨U, hU⟩ : ∃ U, U = ((w3.setCell ⟨g2, k, none⟩ (.bool false)).alloc (.cells #[.slice (some ⟨g1, 0, none⟩) L1 d1, .slice (some ⟨g2, 0, none⟩) L2 d2, .slice b3 L3 d3] 47)) := ⟨_, rfl⟩
  rw [← hU] at O1 O2 O3 R3 hW4 ⊢
  have t0 : U.cell? ⟨w3.heap.size, 0, none⟩ = some (.slice (some ⟨g1, 0, none⟩) L1 d1) := by rw [hU, ← hSz]; go_simp
  have t1 : U.cell? ⟨w3.heap.size, 1, none⟩ = some (.slice (some ⟨g2, 0, none⟩) L2 d2) := by rw [hU, ← hSz]; go_simp
  have t2 : U.cell? ⟨w3.heap.size, 2, none⟩ = some (.slice b3 L3 d3) := by rw [hU, ← hSz]; go_simp
  have tf2 : U.frozen? ⟨w3.heap.size, 2, none⟩ = false := by rw [hU, ← hSz]; go_simp
  have q1 : U.cell? ⟨w.heap.size + 1, 0, none⟩ = some (.int .i64 k) := by rw [hU]; go_simp
  have hUz : U.heap.size = w3.heap.size + 1 := by rw [hU, World.size_alloc, hSz]
  have hTo : Value.ownBlock (.slice b3 L3 d3) ≠ some w3.heap.size := fun e => by have := (hl3 _ e).2; omega
  have hBo : Value.ownBlock (.slice b3 L3 d3) ≠ some (w.heap.size + 1 + 1) := fun e => by have := (hl3 _ e).1; omega
  have O3r : U.ownsRow w2.heap.size 3 1 (.slice b3 L3 d3) L3 (intVs s.f) := by have := O3; unfold OwnI at this; rwa [HL3.out] at this
  have HO1 := Lib.hid O1
  have HO2 := Lib.hid O2
  have HO3 := Lib.hid O3r
  have HW4 := Lib.hid hW4
  have HR := Lib.hid R3
  clear O1 O2 O3 O3r hU hW4 R3 hS hSz hX' hW3 hW2 r3 q0 x2 fr2
  have hN : ∀ j u, [Value.int .i64 k][j]? = some u → (U.alloc (.cells #[.int .i64 k] 3)).cell? ((⟨w3.heap.size + 1, 0, none⟩ : Addr).add j) = some u := by rw [← hUz]; exact cell_one_new U _ _
  have hAz : w2.heap.size ≤ (U.alloc (.cells #[.int .i64 k] 3)).heap.size := by simp; omega
  have HN := Lib.hid hN
  have HAz := Lib.hid hAz
  clear hN hAz
  go_wp2_with (refine wpList_append_lies _ rfl _ _ _ rfl w2.heap.size 3 i0 _ 1 8 Try.underlying22 hi0 hz0 hzz1 hzz2 rfl (by omega) (.slice b3 L3 d3) L3 (intVs s.f) rfl (HO3.out.alloc _) ⟨w3.heap.size + 1, 0, none⟩ 1 1 [.int .i64 k] rfl (by rfl) HN.out (by simp [Value.oneCell']) (by omega) (by simp [maxLen]; omega) (by omega) HAz.out _ rfl ?_; intro gg cap1 w5 hown hgrow hat hlt; have HOW := Lib.hid hown; have HG := Lib.hid hgrow; have HT := Lib.hid hat; clear hown hgrow hat; have y0 := (HG.out.cell_far ⟨w3.heap.size, 0, none⟩ (by simp; omega) hTo.symm).trans (keep_alloc _ t0); have y1 := (HG.out.cell_far ⟨w3.heap.size, 1, none⟩ (by simp; omega) hTo.symm).trans (keep_alloc _ t1); have y2 := (HG.out.cell_far ⟨w3.heap.size, 2, none⟩ (by simp; omega) hTo.symm).trans (keep_alloc _ t2); have yf2 := (HG.out.frozen_far ⟨w3.heap.size, 2, none⟩ (by simp; omega) hTo.symm).trans (keep_alloc_f _ t2 tf2); have R5 := (HR.out.on ((Below.refl U.heap.size U).alloc (Nat.le_refl _) (.cells #[.int .i64 k] 3)) (by omega)).far HG.out (by simp; omega) hBo; obtain ⟨e0, e1, e2, f0, f1, f2⟩ := R5)
  have hl4 : ∀ b, Value.ownBlock (.slice b3 L3 d3) = some b → b < w3.heap.size := fun b e => (hl3 b e).2
  have hAU : Below U.heap.size U (U.alloc (.cells #[.int .i64 k] 3)) := (Below.refl U.heap.size U).alloc (Nat.le_refl _) _
  have p1 : OwnI w2.heap.size w5 (.slice (some ⟨g1, 0, none⟩) L1 d1) s.g := (HO1.out.on hAU).kept HG.out (.inr hd1.symm)
  have p2 : OwnB w2.heap.size w5 (.slice (some ⟨g2, 0, none⟩) L2 d2) (s.u.set k false) := (HO2.out.on hAU).kept HG.out (.inr hd2.symm)
  have p3 : OwnI w2.heap.size w5 (.slice (some ⟨gg, 0, none⟩) (L3 + 1) cap1) (s.f ++ [(k : Int)]) := by
    unfold OwnI
    rw [List.length_append, HL3.out]
    simpa [intVs] using HOW.out
  have ng1 : g1 ≠ w3.heap.size := by omega
  have ngg : gg ≠ w3.heap.size := by
    rcases HT.out with e | e
    · have := hl4 gg e; omega
    · simp at e; omega
  have hb2 : w.heap.size + 1 + 1 < w2.heap.size := by omega
  have pb : Below w.heap.size w w5 := (HW4.out.trans (hAU.mono (by omega))).grown HG.out (by simp; omega) (fun b e => by have := (hl3 b e).1; omega)
  have P1 := Lib.hid (OwnI.at' ((((p1.set_ne (B := w3.heap.size) (o := 2) (x := .slice (some ⟨gg, 0, none⟩) (L3 + 1) cap1) ng1).set (B := w.heap.size + 1 + 1) (o := 0) (x := .slice (some ⟨g1, 0, none⟩) L1 d1) hb2).set (B := w.heap.size + 1 + 1) (o := 1) (x := .slice (some ⟨g2, 0, none⟩) L2 d2) hb2).set (B := w.heap.size + 1 + 1) (o := 2) (x := .slice (some ⟨gg, 0, none⟩) (L3 + 1) cap1) hb2))
  have P2 := Lib.hid (OwnB.at' ((((p2.set_ne (B := w3.heap.size) (o := 2) (x := .slice (some ⟨gg, 0, none⟩) (L3 + 1) cap1) ne2).set (B := w.heap.size + 1 + 1) (o := 0) (x := .slice (some ⟨g1, 0, none⟩) L1 d1) hb2).set (B := w.heap.size + 1 + 1) (o := 1) (x := .slice (some ⟨g2, 0, none⟩) L2 d2) hb2).set (B := w.heap.size + 1 + 1) (o := 2) (x := .slice (some ⟨gg, 0, none⟩) (L3 + 1) cap1) hb2))
  have P3 := Lib.hid (OwnI.at' ((((p3.set_ne (B := w3.heap.size) (o := 2) (x := .slice (some ⟨gg, 0, none⟩) (L3 + 1) cap1) ngg).set (B := w.heap.size + 1 + 1) (o := 0) (x := .slice (some ⟨g1, 0, none⟩) L1 d1) hb2).set (B := w.heap.size + 1 + 1) (o := 1) (x := .slice (some ⟨g2, 0, none⟩) L2 d2) hb2).set (B := w.heap.size + 1 + 1) (o := 2) (x := .slice (some ⟨gg, 0, none⟩) (L3 + 1) cap1) hb2))
  have P4 := Lib.hid (below_set3 (pb.setCell (p := ⟨w3.heap.size, 2, none⟩) (show w.heap.size ≤ w3.heap.size by omega) (.slice (some ⟨gg, 0, none⟩) (L3 + 1) cap1)) (show w.heap.size ≤ w.heap.size + 1 + 1 by omega) (.slice (some ⟨g1, 0, none⟩) L1 d1) (.slice (some ⟨g2, 0, none⟩) L2 d2) (.slice (some ⟨gg, 0, none⟩) (L3 + 1) cap1))
  clear p1 p2 p3 pb hAU
  go_wp2
  refine bodyPost_ret (v := .tuple #[.agg #[.slice (some ⟨g1, 0, none⟩) L1 d1, .slice (some ⟨g2, 0, none⟩) L2 d2, .slice (some ⟨gg, 0, none⟩) (L3 + 1) cap1], .int .i64 0]) (by simp [results, Try.results24, go_sem, e0, e1, e2]) rfl ⟨_, _, _, _, _, _, rfl, ⟨P1.out, P2.out, P3.out⟩, P4.out⟩
end Go.Proofs.Ytbalebnhjpjhgaa.L9

/- slices.AppendSeq, slices.Collect over the handles that are taken; All. -/
namespace Go.Proofs.Ytbalebnhjpjhgaa.L9
open Go.RowKit Go.Shelf
attribute [local go_sem] Oper.semAt_some

theorem info27 : (Try.prog.info? 27).map (fun i => (i.zero, i.size, i.bytes)) = some (some (.agg #[.int .i64 0, .int .i64 0]), 2, 16) := by kernel_rfl
/-- The cells of some handles. -/
def handCells (l : List (Int × Int)) : List Value := l.flatMap fun x => [.int .i64 x.1, .int .i64 x.2]
theorem handCells_snoc (l : List (Int × Int)) (x : Int × Int) : handCells (l ++ [x]) = handCells l ++ [.int .i64 x.1, .int .i64 x.2] := by simp [handCells]
theorem handCells_length (l : List (Int × Int)) : (handCells l).length = l.length * 2 := by
  induction l with
  | nil => rfl
  | cons x r ih => simp only [handCells, List.flatMap_cons, List.length_append, List.length_cons, List.length_nil] at *; omega
/-- v owns the handles l. -/
def OwnH (base : Nat) (w : World) (v : Value) (l : List (Int × Int)) : Prop := w.ownsRow base 27 2 v l.length (handCells l)

theorem kept_of_below {n₀ Bs : Nat} {A B : World} (h : Below n₀ A B) (hB : Bs < n₀) : Kept n₀ Bs A B := ⟨h, h.block Bs hB⟩

set_option maxRecDepth 100000 in
set_option maxHeartbeats 2000000 in
theorem seq_in (F : Fence) (n : Nat) (h45 : F.fn 45) (h46 : F.fn 46) (h40 : F.fn 40) (hro : F.round = none) (hn : 5 ≤ n) (Bs : Nat) (a1 a2 : Option Addr) (s3 : Value) (c1 c2 : Nat) (gs : List Int) (us : List Bool) (hlu : us.length = gs.length) (hlen : gs.length ≤ 1000) (w : World)
    (hB0 : w.cell? ⟨Bs, 0, none⟩ = some (.slice a1 gs.length c1)) (hB1 : w.cell? ⟨Bs, 1, none⟩ = some (.slice a2 us.length c2)) (hB2 : w.cell? ⟨Bs, 2, none⟩ = some s3) (hI : IntsAt w.heap.size w a1 gs) (hU : BoolsAt w.heap.size w a2 us) :
    CallsIn F n Try.prog 45 #[.slice none 0 0, .func (.func 46) #[] #[.pointer (some ⟨Bs, 0, none⟩)]] w fun e w' => ∃ v, e = .returned v ∧ OwnH w.heap.size w' v (takenOf gs us) ∧ Below w.heap.size w w' := by
  have h1 : 1 ≤ n := by omega
  have hBw := blt hB0
  obtain ⟨i0, hi, hz0, hz1, hz2⟩ := info_parts info27
  have HS2 := Lib.hid (fun W hn hc0 hc1 hc2 hi hu => taken_stops F (n - 1) h46 h40 hro (by omega) Bs w.heap.size a1 a2 s3 c1 c2 gs us hlu hlen W hn hc0 hc1 hc2 hi hu)
  have hbO : Below w.heap.size w (w.alloc (.cells #[.slice none 0 0] 37)) := (Below.refl _ w).alloc (Nat.le_refl _) _
  have HC0 := Lib.hid (keep_alloc (.cells #[.slice none 0 0] 37) hB0)
  have HC1 := Lib.hid (keep_alloc (.cells #[.slice none 0 0] 37) hB1)
  have HC2 := Lib.hid (keep_alloc (.cells #[.slice none 0 0] 37) hB2)
  have HI := Lib.hid (hI.below hbO)
  have HU := Lib.hid (hU.below hbO)
  clear hI hU hB0 hB1 hB2
  refine callsIn_of_wp_marks Try.func45 rfl h45 ?_ hro
  simp only [Try.ntmps45, List.size_toArray, List.length_cons, List.length_nil, Nat.reduceAdd, Nat.reduceSub, Array.replicate_succ, Array.replicate_zero, List.push_toArray, List.append_toArray, List.nil_append, List.cons_append]
  gi_wp2
  have bO := Boxed.new w 37 (.slice none 0 0)
  refine wpIn_rangeFunc_ownH hro h1 (gf := 46) (lb := #[.pointer (some ⟨Bs, 0, none⟩)]) rfl h46 (enters_of Try.func46 (by kernel_rfl) rfl)
    (HS2.out _ hbO.size HC0.out HC1.out HC2.out HI.out HU.out) kept_t (kept_b (by simp) (by simp; omega)) (Below.refl _ _) (fun _ => rfl)
    (fun pre W => (∃ v, Boxed W w.heap.size 37 v ∧ W.ownsRow w.heap.size 27 2 v pre.length (handCells pre) ∧ (v = .slice none 0 0 ↔ pre = [])) ∧ Below w.heap.size w W)
    (fun _ _ _ => False)
    (OwnFrom.and (Own.from (holdsRow_own w.heap.size w.heap.size 37 27 2 (fun pre : List (Int × Int) => pre.length) handCells (fun pre v => v = .slice none 0 0 ↔ pre = [])) _) (ownFrom_below (Nat.le_refl _) (by simp)))
    (fun _ _ _ _ _ hs _ _ => hs)
    ⟨⟨_, bO, World.ownsRow_nil _ _ _ _, by simp⟩, hbO⟩
    (fun x a' W => ∃ B5, a' = { tmps := #[.slice none 0 0, .func (.func 46) #[] #[.pointer (some ⟨Bs, 0, none⟩)], .pointer (some ⟨w.heap.size, 0, none⟩), undef, .slice none 0 0, .pointer (some ⟨B5, 0, none⟩), .func (.func 46) #[] #[.pointer (some ⟨Bs, 0, none⟩)], handV x, undef, undef, undef, undef, undef], defers := [] } ∧
      W.cell? ⟨B5, 0, none⟩ = some (.int .i64 x.1) ∧ W.cell? ⟨B5, 1, none⟩ = some (.int .i64 x.2))
    (fun x a' _ _ _ row hs hg hr => by obtain ⟨B5, h1, h2, h3⟩ := hs; exact ⟨B5, h1, cell_kept h2 hg (fun r e => (hr r e).2), cell_kept h3 hg (fun r e => (hr r e).2)⟩) ?assign ?body ?done ?stop
  case assign =>
    rintro l pre x W K ⟨⟨v, hv, hrow, hnil⟩, hB⟩ hK
    have HK := Lib.hid hK
    unfold handV
    gi_wp2
    exact HK.out _ _ ((KeepsOthers.alloc W _).from _) (kept_of_below ((Below.refl _ W).alloc hB.size _) hBw) ⟨⟨v, hv.alloc _, hrow.alloc _, hnil⟩, hB.alloc hB.size _⟩ ⟨W.heap.size, rfl, by go_simp, by go_simp⟩
  case body =>
    rintro l pre x a' W hl hrec ⟨⟨v, hv, hrow, hnil⟩, hB⟩ ⟨B5, rfl, k0, k1⟩ hlt
    have hc := hv.cell
    have hBz := hB.size
    unfold handV
    gi_wp2_with (gi_at_builtin; refine wpListIn_append_own _ rfl _ _ 37 rfl w.heap.size 27 i0 (.agg #[.int .i64 0, .int .i64 0]) 2 16 Try.underlying37 hi hz0 hz1 hz2 rfl (by decide) _ _ _ rfl (hrow.alloc _) ⟨W.heap.size, 0, none⟩ 1 1 [.int .i64 x.1, .int .i64 x.2] rfl rfl (World.news_of_block (cs := #[.int .i64 x.1, .int .i64 x.2]) (t := 27) (fr := (0, 0)) (heap_alloc_new W _)) (by simp [Value.oneCell']) (by unfold maxLen; omega) (by omega) (by simp; omega) ?_; intro v' w1 hown' hgrow _; obtain ⟨g', cap', rfl⟩ := ownsRow_succ hown'; obtain ⟨hv1, hv2, hr2, hk2, hb2⟩ := hv.appended (by decide) hrow hBz (Nat.le_refl _) hown' hgrow; have hc1 := hv1.cell; have hf1 := hv1.frozen)
    exact ⟨hk2.from _, kept_of_below hb2 hBw, ⟨_, hv2, by rw [handCells_snoc, List.length_append]; exact hr2, by simp⟩, hB.trans hb2⟩
  case done =>
    rintro D ys W hD rfl ⟨⟨v, hv, hrow, hnil⟩, hB⟩ hK
    have hc := hv.cell
    gi_wp2
    refine ⟨by simp, .inl ⟨_, _, rfl, run_takeDeferred hK, ?_⟩⟩
    exact ⟨_, results_tmp rfl _ _ _, v, rfl, ownsRow_putObj hrow _ hK rfl, hB.trans (belowK_b (w := w) (Nat.le_refl _) W D _ _ (by simp at hD; omega) hK rfl rfl)⟩
  case stop =>
    rintro D c pre W _ _ h _
    exact h.elim
end Go.Proofs.Ytbalebnhjpjhgaa.L9

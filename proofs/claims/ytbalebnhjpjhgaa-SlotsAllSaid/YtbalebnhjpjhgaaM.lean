/- Take: the last slot is taken. -/
import Derived.Test.YtbalebnhjpjhgaaL
namespace Go.Proofs.Ytbalebnhjpjhgaa
open Go.RowKit

theorem own_ne {base base' n n' c c' g1 g2 : Nat} {W : World} {zs : List Int} {us : List Bool} (h1 : OwnI base W (.slice (some ⟨g1, 0, none⟩) n c) zs) (h2 : OwnB base' W (.slice (some ⟨g2, 0, none⟩) n' c') us) : g1 ≠ g2 := by
  rintro rfl
  rcases h1.2 with ⟨e, _⟩ | ⟨g, _, cur, e, _, hg, _⟩
  · simp at e
  · rcases h2.2 with ⟨e', _⟩ | ⟨g', _, cur', e', _, hg', _⟩
    · simp at e'
    · simp only [Value.slice.injEq, Option.some.injEq, Addr.mk.injEq] at e e'
      obtain ⟨⟨rfl, _⟩, _⟩ := e
      obtain ⟨⟨rfl, _⟩, _⟩ := e'
      rw [hg] at hg'
      simp at hg'

theorem OwnI.set_ne {base g n c : Nat} {W : World} {x : Value} {zs : List Int} {B o : Nat} (h : OwnI base W (.slice (some ⟨g, 0, none⟩) n c) zs) (hne : g ≠ B) : OwnI base (W.setCell ⟨B, o, none⟩ x) (.slice (some ⟨g, 0, none⟩) n c) zs := h.kept (grownBy_setCell _ _ _ _) (.inr fun e => hne (Option.some.inj e))
theorem OwnB.set_ne {base g n c : Nat} {W : World} {x : Value} {zs : List Bool} {B o : Nat} (h : OwnB base W (.slice (some ⟨g, 0, none⟩) n c) zs) (hne : g ≠ B) : OwnB base (W.setCell ⟨B, o, none⟩ x) (.slice (some ⟨g, 0, none⟩) n c) zs := h.kept (grownBy_setCell _ _ _ _) (.inr fun e => hne (Option.some.inj e))
theorem OwnI.put {base g n c : Nat} {W : World} {zs : List Int} (h : OwnI base W (.slice (some ⟨g, 0, none⟩) n c) zs) (hn : zs.length = n) (j : Nat) (x : Int) : OwnI base (W.setCell ⟨g, j, none⟩ (.int .i64 x)) (.slice (some ⟨g, 0, none⟩) n c) (zs.set j x) := by
  subst hn
  have := (World.ownsRow.stored h j (.int .i64 x)).1
  unfold OwnI intVs at *
  rw [List.length_set, List.map_set]
  exact this
theorem OwnB.put {base g n c : Nat} {W : World} {zs : List Bool} (h : OwnB base W (.slice (some ⟨g, 0, none⟩) n c) zs) (hn : zs.length = n) (j : Nat) (x : Bool) : OwnB base (W.setCell ⟨g, j, none⟩ (.bool x)) (.slice (some ⟨g, 0, none⟩) n c) (zs.set j x) := by
  subst hn
  have := (World.ownsRow.stored h j (.bool x)).1
  unfold OwnB boolVs at *
  rw [List.length_set, List.map_set]
  exact this
theorem OwnI.at' {base n c : Nat} {a : Option Addr} {W : World} {zs : List Int} (h : OwnI base W (.slice a n c) zs) : IntsAt W.heap.size W a zs := by
  obtain ⟨a', c', e, hi⟩ := h.form
  simp only [Value.slice.injEq] at e
  rw [e.1]; exact hi
theorem OwnB.at' {base n c : Nat} {a : Option Addr} {W : World} {zs : List Bool} (h : OwnB base W (.slice a n c) zs) : BoolsAt W.heap.size W a zs := by
  obtain ⟨a', c', e, hi⟩ := h.form
  simp only [Value.slice.injEq] at e
  rw [e.1]; exact hi
theorem IntsAt.init {n₀ : Nat} {W : World} {a : Option Addr} {zs : List Int} {x : Int} (h : IntsAt n₀ W a (zs ++ [x])) : IntsAt n₀ W a zs := fun i hi => by
  obtain ⟨b, off, e, hb, hc⟩ := h i (by simp; omega)
  exact ⟨b, off, e, hb, by rw [hc, List.getElem_append_left hi]⟩
theorem held_set2 {n B B2 : Nat} {s1 s2 s3 v1 v2 : Value} {U W : World} (k0 : W.cell? ⟨B, 0, none⟩ = some s1) (k1 : W.cell? ⟨B, 1, none⟩ = some s2) (k2 : W.cell? ⟨B, 2, none⟩ = some s3) (hb : Below n U W) (hn : n ≤ B2) (hne : B ≠ B2) :
    ((W.setCell ⟨B2, 0, none⟩ v1).setCell ⟨B2, 1, none⟩ v2).cell? ⟨B, 0, none⟩ = some s1 ∧ ((W.setCell ⟨B2, 0, none⟩ v1).setCell ⟨B2, 1, none⟩ v2).cell? ⟨B, 1, none⟩ = some s2 ∧ ((W.setCell ⟨B2, 0, none⟩ v1).setCell ⟨B2, 1, none⟩ v2).cell? ⟨B, 2, none⟩ = some s3 ∧
    Below n U ((W.setCell ⟨B2, 0, none⟩ v1).setCell ⟨B2, 1, none⟩ v2) :=
  ⟨(set_other _ _ hne).trans ((set_other _ _ hne).trans k0), (set_other _ _ hne).trans ((set_other _ _ hne).trans k1), (set_other _ _ hne).trans ((set_other _ _ hne).trans k2),
    (hb.setCell (p := ⟨B2, 0, none⟩) hn _).setCell (p := ⟨B2, 1, none⟩) hn _⟩
theorem handle_any (a1 : Option Addr) (s2 s3 : Value) (c1 len : Nat) (gs : List Int) (hg : gs.length = len) (k : Nat) (x : Int) (hx : gs[k]? = some x) (w : World) (hI : IntsAt w.heap.size w a1 gs) :
    Calls Try.prog 40 #[.agg #[.slice a1 len c1, s2, s3], .int .i64 k] w fun e w' => e = .returned (.agg #[.int .i64 k, .int .i64 x]) ∧ Below w.heap.size w w' := by
  obtain ⟨hk, rfl⟩ := List.getElem?_eq_some_iff.1 hx
  exact (callsIn_wide (n := 2)).1 (handle_in Fence.wide 2 trivial rfl a1 s2 s3 c1 len w.heap.size gs hg k hk w (Nat.le_refl _) hI)

theorem OwnI.set5 {base B2 B3 : Nat} {W : World} {v : Value} {zs : List Int} (h : OwnI base W v zs) (h2 : B2 < base) (h3 : B3 < base) (v0 v1 v2 v3 v4 : Value) : OwnI base (((((W.setCell ⟨B2, 0, none⟩ v0).setCell ⟨B2, 1, none⟩ v1).setCell ⟨B2, 2, none⟩ v2).setCell ⟨B3, 0, none⟩ v3).setCell ⟨B3, 1, none⟩ v4) v zs :=
  ((((h.set h2).set h2).set h2).set h3).set h3
theorem OwnB.set5 {base B2 B3 : Nat} {W : World} {v : Value} {zs : List Bool} (h : OwnB base W v zs) (h2 : B2 < base) (h3 : B3 < base) (v0 v1 v2 v3 v4 : Value) : OwnB base (((((W.setCell ⟨B2, 0, none⟩ v0).setCell ⟨B2, 1, none⟩ v1).setCell ⟨B2, 2, none⟩ v2).setCell ⟨B3, 0, none⟩ v3).setCell ⟨B3, 1, none⟩ v4) v zs :=
  ((((h.set h2).set h2).set h2).set h3).set h3

set_option maxRecDepth 100000 in
set_option maxHeartbeats 8000000 in
theorem take_ok (a1 a2 a3 : Option Addr) (c1 c2 c3 L1 L2 L3 m k : Nat) (q : Int) (s : Sl) (fs : List Int) (h1 : s.g.length = L1) (h2 : s.u.length = L2) (h3 : s.f.length = L3) (hf : s.f = fs ++ [(k : Int)]) (hm : fs.length = m) (hk : k < L1) (hq : s.g[k]? = some q) (hq0 : 0 ≤ q) (hq1 : q < 1000000000) (w : World) (h : SlotsAt w.heap.size w a1 a2 a3 s.g s.u s.f) (hr : s.right = true) :
    Calls Try.prog 22 #[.agg #[.slice a1 L1 c1, .slice a2 L2 c2, .slice a3 L3 c3]] w fun e w' => ∃ g1 g2 g3 d1 d2, e = .returned (.tuple #[.agg #[.slice (some ⟨g1, 0, none⟩) L1 d1, .slice (some ⟨g2, 0, none⟩) L2 d2, .slice (some ⟨g3, 0, none⟩) m m], handV ((k : Int), q + 1), .int .i64 0]) ∧
      SlotsAt w'.heap.size w' (some ⟨g1, 0, none⟩) (some ⟨g2, 0, none⟩) (some ⟨g3, 0, none⟩) (s.g.set k (q + 1)) (s.u.set k true) fs ∧ Below w.heap.size w w' := by
  obtain ⟨R1, R2, R3, R4, _⟩ := (right_iff s).1 hr
  have hL3 : L3 = m + 1 := by rw [← h3, hf]; simp [hm]
  have hlast : s.f[m]? = some (k : Int) := by rw [hf, ← hm]; simp
  have H := Lib.hid (fun w hS => right2_any a1 a2 a3 c1 c2 c3 L1 L2 L3 s h1 h2 h3 w hS)
  have H2 := Lib.hid (fun w hS => copy3_any a1 a2 a3 c1 c2 c3 L1 L2 L3 s h1 h2 h3 (by omega) (by omega) (by omega) (by omega) (by omega) (by omega) w hS)
  rw [hr] at H
  have HS := Lib.hid h
  have hs1 : (L3 : Int) - 1 = (m : Int) := by omega
  have hmm : (m : Int) ≤ 1000 := by omega
  have hm3 : m < L3 := by omega
  have hd0 : decide ((m : Int) < 0) = false := decide_eq_false (by omega)
  have hq2 : ¬ q = 1000000000 := by omega
  have hk1 : (k : Int) < (L1 : Int) := by omega
  have hkL2 : k < L2 := by omega
  have hmd : (m : Int) ≤ (L3 : Int) := by omega
  have HF := Lib.hid hlast
  have HF2 := Lib.hid hf
  have HQ := Lib.hid hq
  have HL := Lib.hid h3
  have HL1 := Lib.hid h1
  have HL2 := Lib.hid h2
  clear h hr h1 h2 h3 R1 R2 R3 R4 hf hlast hq hL3 hm
  go_enter Try.func22, Try.ntmps22
  go_wp2_with fail
  have hA : Below w.heap.size w (((w.alloc (.cells #[.slice a1 L1 c1, .slice a2 L2 c2, .slice a3 L3 c3] 25)).alloc (.cells #[.slice none 0 0, .slice none 0 0, .slice none 0 0] 25)).alloc (.cells #[.int .i64 0, .int .i64 0] 27)) := (((Below.refl _ _).alloc (Nat.le_refl _) _).alloc (by simp) _).alloc (by simp; omega) _
  refine (H.out _ (HS.out.on hA)).mono ?_
  rintro e w1 ⟨rfl, hb1⟩
  have hz1 := hb1.size
  have hW := hA.trans (hb1.mono hA.size)
  have r3 := ((Fr3.new (w.alloc (.cells #[.slice a1 L1 c1, .slice a2 L2 c2, .slice a3 L3 c3] 25)) 25).on ((Below.refl _ _).alloc (Nat.le_refl _) (.cells #[.int .i64 0, .int .i64 0] 27)) (by simp)).on hb1 (by simp)
  have r2 := (Fr2.new ((w.alloc (.cells #[.slice a1 L1 c1, .slice a2 L2 c2, .slice a3 L3 c3] 25)).alloc (.cells #[.slice none 0 0, .slice none 0 0, .slice none 0 0] 25)) 27).on hb1 (by simp)
  have k0 : w1.cell? ⟨w.heap.size, 0, none⟩ = some (.slice a1 L1 c1) := (hb1.cell (p := ⟨w.heap.size, 0, none⟩) (by simp; omega)).trans (by go_simp)
  have k1 : w1.cell? ⟨w.heap.size, 1, none⟩ = some (.slice a2 L2 c2) := (hb1.cell (p := ⟨w.heap.size, 1, none⟩) (by simp; omega)).trans (by go_simp)
  have k2 : w1.cell? ⟨w.heap.size, 2, none⟩ = some (.slice a3 L3 c3) := (hb1.cell (p := ⟨w.heap.size, 2, none⟩) (by simp; omega)).trans (by go_simp)
  simp only [World.size_alloc] at r2 r3 hz1
  clear hb1 hA
  go_wp2_with fail
  refine (H2.out _ (HS.out.on hW)).mono ?_
  rintro e w2 ⟨g1, g2, g3, d1, d2, d3, rfl, o1, o2, o3, hd, hcd, hb2⟩
  have hz2 := hb2.size
  have hW2 := hW.trans (hb2.mono hW.size)
  have hX : Below w2.heap.size w2 (w2.alloc (.cells #[.slice (some ⟨g1, 0, none⟩) L1 d1, .slice (some ⟨g2, 0, none⟩) L2 d2, .slice (some ⟨g3, 0, none⟩) L3 d3] 47)) := (Below.refl w2.heap.size w2).alloc (Nat.le_refl _) _
  obtain ⟨e0, e1, e2, f0, f1, f2⟩ := (r3.on hb2 (by omega)).on hX (by omega)
  obtain ⟨e3, e4, f3, f4⟩ := (r2.on hb2 (by omega)).on hX (by omega)
  have x1 := (o1.on hX).cell HL1.out HQ.out
  have fr1 := (o1.on hX).frozen HL1.out k
  have fr2 := (o2.on hX).frozen HL2.out k
  have x3 := (o3.on hX).cell HL.out HF.out
  have t0 : (w2.alloc (.cells #[.slice (some ⟨g1, 0, none⟩) L1 d1, .slice (some ⟨g2, 0, none⟩) L2 d2, .slice (some ⟨g3, 0, none⟩) L3 d3] 47)).cell? ⟨w2.heap.size, 0, none⟩ = some (.slice (some ⟨g1, 0, none⟩) L1 d1) := by go_simp
  have t2 : (w2.alloc (.cells #[.slice (some ⟨g1, 0, none⟩) L1 d1, .slice (some ⟨g2, 0, none⟩) L2 d2, .slice (some ⟨g3, 0, none⟩) L3 d3] 47)).cell? ⟨w2.heap.size, 2, none⟩ = some (.slice (some ⟨g3, 0, none⟩) L3 d3) := by go_simp
  have t1 : (w2.alloc (.cells #[.slice (some ⟨g1, 0, none⟩) L1 d1, .slice (some ⟨g2, 0, none⟩) L2 d2, .slice (some ⟨g3, 0, none⟩) L3 d3] 47)).cell? ⟨w2.heap.size, 1, none⟩ = some (.slice (some ⟨g2, 0, none⟩) L2 d2) := by go_simp
  have tf2 : (w2.alloc (.cells #[.slice (some ⟨g1, 0, none⟩) L1 d1, .slice (some ⟨g2, 0, none⟩) L2 d2, .slice (some ⟨g3, 0, none⟩) L3 d3] 47)).frozen? ⟨w2.heap.size, 2, none⟩ = false := by go_simp
  obtain ⟨lo1, hi1⟩ := o1.lt g1 rfl
  obtain ⟨lo2, hi2⟩ := o2.lt g2 rfl
  obtain ⟨lo3, hi3⟩ := o3.lt g3 rfl
  have ne1 : g1 ≠ w2.heap.size := by omega
  have ne2 : g2 ≠ w2.heap.size := by omega
  have ne3 : g3 ≠ w2.heap.size := by omega
  have ne12 : g1 ≠ g2 := own_ne o1 o2
  have ne32 : g3 ≠ g2 := own_ne o3 o2
  have x2 := (o2.on hX).cell HL2.out (List.getElem?_eq_getElem (by rw [HL2.out]; omega))
  have O1 := Lib.hid (o1.on hX)
  have O2 := Lib.hid (o2.on hX)
  have O3 := Lib.hid (o3.on hX)
  have hW3 := hW2.trans (hX.mono hW2.size)
  clear hb2 o1 o2 o3 hW r3 r2 k0 k1 k2 hX
  go_wp2_with fail
  generalize (w2.alloc (.cells #[.slice (some ⟨g1, 0, none⟩) L1 d1, .slice (some ⟨g2, 0, none⟩) L2 d2, .slice (some ⟨g3, 0, none⟩) L3 d3] 47)) = U at *
  have hmcd : (m : Int) ≤ (d3 : Int) := by omega
  go_quiet (fail)
  go_upto_region 11 with fail
  have O1' := ((O1.out.on (below_drewN (Below.refl U.heap.size U) nq)).set_ne (B := w2.heap.size) (o := 2) (x := .slice (some ⟨g3, 0, none⟩) m m) ne1).set_ne (B := g2) (o := k) (x := .bool true) ne12 |>.put HL1.out k (q + 1)
  have O2' := (((O2.out.on (below_drewN (Below.refl U.heap.size U) nq)).set_ne (B := w2.heap.size) (o := 2) (x := .slice (some ⟨g3, 0, none⟩) m m) ne2).put HL2.out k true).set_ne (B := g1) (o := k) (x := .int .i64 (q + 1)) ne12.symm
  have O3' := ((O3.out.on (below_drewN (Below.refl U.heap.size U) nq)).set_ne (B := w2.heap.size) (o := 2) (x := .slice (some ⟨g3, 0, none⟩) m m) ne3).set_ne (B := g2) (o := k) (x := .bool true) ne32 |>.set_ne (B := g1) (o := k) (x := .int .i64 (q + 1)) hd.symm
  have nb1 : w.heap.size + 1 ≠ g1 := by omega
  have nb2 : w.heap.size + 1 ≠ g2 := by omega
  have nc1 : w.heap.size + 1 + 1 ≠ g1 := by omega
  have nc2 : w.heap.size + 1 + 1 ≠ g2 := by omega
  have nbT : w.heap.size + 1 ≠ w2.heap.size := by omega
  have ncT : w.heap.size + 1 + 1 ≠ w2.heap.size := by omega
  obtain ⟨V, hV⟩ : ∃ V, V = ((((U.drewN nq).setCell ⟨w2.heap.size, 2, none⟩ (.slice (some ⟨g3, 0, none⟩) m m)).setCell ⟨g2, k, none⟩ (.bool true)).setCell ⟨g1, k, none⟩ (.int .i64 (q + 1))) := ⟨_, rfl⟩
  rw [← hV] at O1' O2' O3' ⊢
  have q0 : V.cell? ⟨w2.heap.size, 0, none⟩ = some (.slice (some ⟨g1, 0, none⟩) L1 d1) := by rw [hV]; go_simp
  have q1 : V.cell? ⟨w2.heap.size, 1, none⟩ = some (.slice (some ⟨g2, 0, none⟩) L2 d2) := by rw [hV]; go_simp
  have q2 : V.cell? ⟨w2.heap.size, 2, none⟩ = some (.slice (some ⟨g3, 0, none⟩) m m) := by rw [hV]; go_simp
  have y0 : V.cell? ⟨w.heap.size + 1, 0, none⟩ = some (.slice none 0 0) := by rw [hV]; go_simp
  have y1 : V.cell? ⟨w.heap.size + 1, 1, none⟩ = some (.slice none 0 0) := by rw [hV]; go_simp
  have y2 : V.cell? ⟨w.heap.size + 1, 2, none⟩ = some (.slice none 0 0) := by rw [hV]; go_simp
  have y3 : V.cell? ⟨w.heap.size + 1 + 1, 0, none⟩ = some (.int .i64 0) := by rw [hV]; go_simp
  have y4 : V.cell? ⟨w.heap.size + 1 + 1, 1, none⟩ = some (.int .i64 0) := by rw [hV]; go_simp
  have z0 : V.frozen? ⟨w.heap.size + 1, 0, none⟩ = false := by rw [hV]; go_simp
  have z1 : V.frozen? ⟨w.heap.size + 1, 1, none⟩ = false := by rw [hV]; go_simp
  have z2 : V.frozen? ⟨w.heap.size + 1, 2, none⟩ = false := by rw [hV]; go_simp
  have z3 : V.frozen? ⟨w.heap.size + 1 + 1, 0, none⟩ = false := by rw [hV]; go_simp
  have z4 : V.frozen? ⟨w.heap.size + 1 + 1, 1, none⟩ = false := by rw [hV]; go_simp
  have hBV : Below w.heap.size w V := by
    rw [hV]
    exact (((below_drewN hW3 nq).setCell (p := ⟨w2.heap.size, 2, none⟩) (show w.heap.size ≤ w2.heap.size by omega) _).setCell (p := ⟨g2, k, none⟩) (show w.heap.size ≤ g2 by omega) _).setCell (p := ⟨g1, k, none⟩) (show w.heap.size ≤ g1 by omega) _
  have hVz : V.heap.size = U.heap.size := by rw [hV]; simp [World.setCell, World.drewN]
  have hTV : w2.heap.size < V.heap.size := blt q0
  have hnV : w.heap.size ≤ V.heap.size := by omega
  have hV1 : w.heap.size + 1 < V.heap.size := by omega
  have hV2 : w.heap.size + 1 + 1 < V.heap.size := by omega
  have G := Lib.hid (handle_any (some ⟨g1, 0, none⟩) (.slice (some ⟨g2, 0, none⟩) L2 d2) (.slice (some ⟨g3, 0, none⟩) m m) d1 L1 (s.g.set k (q + 1)) (by rw [List.length_set]; exact HL1.out) k (q + 1) (List.getElem?_set_self (by rw [HL1.out]; exact hk)))
  have OO1 := Lib.hid O1'
  have OO2 := Lib.hid O2'
  have OO3 := Lib.hid O3'
  have hI := OwnI.at' O1'
  have hUU : Below w.heap.size V V := Below.refl _ _
  have hMT : w2.heap.size ≠ w.heap.size + 1 := nbT.symm
  have hMT2 : w2.heap.size ≠ w.heap.size + 1 + 1 := ncT.symm
  clear hV O1' O2' O3' x1 x2 x3 t0 t1 t2 tf2 fr1 fr2 e0 e1 e2 e3 e4 f0 f1 f2 f3 f4 O1 O2 O3 hW3 hW2 nb1 nb2 nc1 nc2 nbT ncT ne1 ne2 ne3 ne12 ne32 lo1 lo2 lo3 hi1 hi2 hi3 hd hcd hmcd hmd hd0 hs1 hmm hm3 hk1 hq2 hkL2
  go_region_held3 (fun w' => w'.cell? ⟨w2.heap.size, 0, none⟩ = some (.slice (some ⟨g1, 0, none⟩) L1 d1) ∧ w'.cell? ⟨w2.heap.size, 1, none⟩ = some (.slice (some ⟨g2, 0, none⟩) L2 d2) ∧ w'.cell? ⟨w2.heap.size, 2, none⟩ = some (.slice (some ⟨g3, 0, none⟩) m m) ∧ Below w.heap.size V w')
    (first | with_reducible assumption | (go_split_ands; (try dsimp only); first | with_reducible exact held_stay (by with_reducible assumption) (by with_reducible assumption) (by with_reducible assumption) (by with_reducible assumption) | with_reducible exact held_drew (by with_reducible assumption) (by with_reducible assumption) (by with_reducible assumption) (by with_reducible assumption) | with_reducible exact held_set (by with_reducible assumption) (by with_reducible assumption) (by with_reducible assumption) (by with_reducible assumption) (by omega) hMT | with_reducible exact held_set2 (by with_reducible assumption) (by with_reducible assumption) (by with_reducible assumption) (by with_reducible assumption) (by omega) hMT2 | (with_reducible exact Held.on (n := w.heap.size) ⟨(by with_reducible assumption), (by with_reducible assumption), (by with_reducible assumption), (by with_reducible assumption)⟩ (by simp; omega) (by with_reducible assumption))))
    ((first
      | (go_at_call 40; refine (G.out _ ?_).mono ?_; exact hI; rintro e w4 ⟨rfl, pB⟩; have hz4 := pB.size; have s0 := (pB.cell (p := ⟨w2.heap.size, 0, none⟩) hTV).trans q0; have s1 := (pB.cell (p := ⟨w2.heap.size, 1, none⟩) hTV).trans q1; have s2 := (pB.cell (p := ⟨w2.heap.size, 2, none⟩) hTV).trans q2; have sB : Below w.heap.size V w4 := ⟨pB.os, pB.tape, pB.output, pB.size, fun i hi => pB.block i (Nat.lt_of_lt_of_le hi hnV)⟩; have pB' : Below V.heap.size V w4 := ⟨pB.os, pB.tape, pB.output, pB.size, fun i hi => pB.block i hi⟩; clear pB; have j0 := (pB'.cell (p := ⟨w.heap.size + 1, 0, none⟩) hV1).trans y0; have l0 := (pB'.frozen (p := ⟨w.heap.size + 1, 0, none⟩) hV1).trans z0; have j1 := (pB'.cell (p := ⟨w.heap.size + 1, 1, none⟩) hV1).trans y1; have l1 := (pB'.frozen (p := ⟨w.heap.size + 1, 1, none⟩) hV1).trans z1; have j2 := (pB'.cell (p := ⟨w.heap.size + 1, 2, none⟩) hV1).trans y2; have l2 := (pB'.frozen (p := ⟨w.heap.size + 1, 2, none⟩) hV1).trans z2; have j3 := (pB'.cell (p := ⟨w.heap.size + 1 + 1, 0, none⟩) hV2).trans y3; have l3 := (pB'.frozen (p := ⟨w.heap.size + 1 + 1, 0, none⟩) hV2).trans z3; have j4 := (pB'.cell (p := ⟨w.heap.size + 1 + 1, 1, none⟩) hV2).trans y4; have l4 := (pB'.frozen (p := ⟨w.heap.size + 1 + 1, 1, none⟩) hV2).trans z4)))
  have hb2 : w.heap.size + 1 < w1.heap.size := by omega
  have hb3 : w.heap.size + 1 + 1 < w1.heap.size := by omega
  have n1 := OwnI.at' ((OO1.out.on pB').set5 hb2 hb3 (.slice (some ⟨g1, 0, none⟩) L1 d1) (.slice (some ⟨g2, 0, none⟩) L2 d2) (.slice (some ⟨g3, 0, none⟩) m m) (.int .i64 k) (.int .i64 (q + 1)))
  have n2 := OwnB.at' ((OO2.out.on pB').set5 hb2 hb3 (.slice (some ⟨g1, 0, none⟩) L1 d1) (.slice (some ⟨g2, 0, none⟩) L2 d2) (.slice (some ⟨g3, 0, none⟩) m m) (.int .i64 k) (.int .i64 (q + 1)))
  have n3 := OwnI.at' ((OO3.out.on pB').set5 hb2 hb3 (.slice (some ⟨g1, 0, none⟩) L1 d1) (.slice (some ⟨g2, 0, none⟩) L2 d2) (.slice (some ⟨g3, 0, none⟩) m m) (.int .i64 k) (.int .i64 (q + 1)))
  rw [HF2.out] at n3
  have n4 := below_set5 (hBV.trans sB) (show w.heap.size ≤ w.heap.size + 1 by omega) (show w.heap.size ≤ w.heap.size + 1 + 1 by omega) (.slice (some ⟨g1, 0, none⟩) L1 d1) (.slice (some ⟨g2, 0, none⟩) L2 d2) (.slice (some ⟨g3, 0, none⟩) m m) (.int .i64 k) (.int .i64 (q + 1))
  have N1 := Lib.hid n1
  have N2 := Lib.hid n2
  have N3 := Lib.hid n3.init
  have N4 := Lib.hid n4
  clear n1 n2 n3 n4 hI pB' sB hBV
  go_wp2
  refine bodyPost_ret (v := .tuple #[.agg #[.slice (some ⟨g1, 0, none⟩) L1 d1, .slice (some ⟨g2, 0, none⟩) L2 d2, .slice (some ⟨g3, 0, none⟩) m m], handV ((k : Int), q + 1), .int .i64 0]) (by simp [results, Try.results22, go_sem, handV, j0, j1, j2, j3, j4]) rfl ⟨g1, g2, g3, d1, d2, rfl, ⟨N1.out, N2.out, N3.out⟩, N4.out⟩
end Go.Proofs.Ytbalebnhjpjhgaa

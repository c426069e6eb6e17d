/- Take. -/
import Derived.Test.YtbalebnhjpjhgaaI
namespace Go.Proofs.Ytbalebnhjpjhgaa
open Go.RowKit

/-- Slots, plainly. -/
structure Sl where
  g : List Int
  u : List Bool
  f : List Int
def Sl.right (s : Sl) : Bool := rightB s.g s.u s.f
def nilV : Value := .agg #[.slice none 0 0, .slice none 0 0, .slice none 0 0]

structure RightS (s : Sl) : Prop where
  l1 : 1 ≤ s.g.length
  l2 : s.g.length ≤ 64
  l3 : s.u.length = s.g.length
  l4 : s.f.length ≤ s.g.length
  gen : ∀ g ∈ s.g, 0 ≤ g ∧ g ≤ 1000000000
  free : ∀ x ∈ s.f, isFree s.u x
  nodup : s.f.Nodup
  count : s.f.length + (takenOf s.g s.u).length = s.u.length
theorem right_iff (s : Sl) : s.right = true ↔ RightS s := by
  unfold Sl.right rightB sizesB sz gensB freeB
  simp only [Bool.and_eq_true, decide_eq_true_eq]
  constructor
  · rintro ⟨⟨⟨h1, h2, h3, h4⟩, h5⟩, h6, h7, h8⟩; exact ⟨h1, h2, h3, h4, h5, h6, h7, h8⟩
  · rintro ⟨h1, h2, h3, h4, h5, h6, h7, h8⟩; exact ⟨⟨⟨h1, h2, h3, h4⟩, h5⟩, h6, h7, h8⟩

theorem right2_any (a1 a2 a3 : Option Addr) (c1 c2 c3 L1 L2 L3 : Nat) (s : Sl) (h1 : s.g.length = L1) (h2 : s.u.length = L2) (h3 : s.f.length = L3) (w : World) (h : SlotsAt w.heap.size w a1 a2 a3 s.g s.u s.f) :
    Calls Try.prog 14 #[.agg #[.slice a1 L1 c1, .slice a2 L2 c2, .slice a3 L3 c3]] w fun e w' => e = .returned (.bool s.right) ∧ Below w.heap.size w w' := by
  subst h1 h2 h3
  exact right_any a1 a2 a3 c1 c2 c3 s.g s.u s.f w h

/-- A block of three nil slices that may be written. -/
structure Fr3 (B : Nat) (W : World) : Prop where
  e0 : W.cell? ⟨B, 0, none⟩ = some (.slice none 0 0)
  e1 : W.cell? ⟨B, 1, none⟩ = some (.slice none 0 0)
  e2 : W.cell? ⟨B, 2, none⟩ = some (.slice none 0 0)
  f0 : W.frozen? ⟨B, 0, none⟩ = false
  f1 : W.frozen? ⟨B, 1, none⟩ = false
  f2 : W.frozen? ⟨B, 2, none⟩ = false
theorem Fr3.on {B n : Nat} {W W' : World} (h : Fr3 B W) (hb : Below n W W') (hB : B < n) : Fr3 B W' :=
  ⟨(hb.cell (p := ⟨B, 0, none⟩) hB).trans h.e0, (hb.cell (p := ⟨B, 1, none⟩) hB).trans h.e1, (hb.cell (p := ⟨B, 2, none⟩) hB).trans h.e2, (hb.frozen (p := ⟨B, 0, none⟩) hB).trans h.f0, (hb.frozen (p := ⟨B, 1, none⟩) hB).trans h.f1, (hb.frozen (p := ⟨B, 2, none⟩) hB).trans h.f2⟩
theorem Fr3.new (W : World) (t : TypeId) : Fr3 W.heap.size (W.alloc (.cells #[.slice none 0 0, .slice none 0 0, .slice none 0 0] t)) := by constructor <;> go_simp
/-- A handle's block that may be written. -/
structure Fr2 (B : Nat) (W : World) : Prop where
  e0 : W.cell? ⟨B, 0, none⟩ = some (.int .i64 0)
  e1 : W.cell? ⟨B, 1, none⟩ = some (.int .i64 0)
  f0 : W.frozen? ⟨B, 0, none⟩ = false
  f1 : W.frozen? ⟨B, 1, none⟩ = false
theorem Fr2.on {B n : Nat} {W W' : World} (h : Fr2 B W) (hb : Below n W W') (hB : B < n) : Fr2 B W' :=
  ⟨(hb.cell (p := ⟨B, 0, none⟩) hB).trans h.e0, (hb.cell (p := ⟨B, 1, none⟩) hB).trans h.e1, (hb.frozen (p := ⟨B, 0, none⟩) hB).trans h.f0, (hb.frozen (p := ⟨B, 1, none⟩) hB).trans h.f1⟩
theorem Fr2.new (W : World) (t : TypeId) : Fr2 W.heap.size (W.alloc (.cells #[.int .i64 0, .int .i64 0] t)) := by constructor <;> go_simp
theorem below_set5 {n B2 B3 : Nat} {w W : World} (h : Below n w W) (h2 : n ≤ B2) (h3 : n ≤ B3) (v0 v1 v2 v3 v4 : Value) :
    Below n w (((((W.setCell ⟨B2, 0, none⟩ v0).setCell ⟨B2, 1, none⟩ v1).setCell ⟨B2, 2, none⟩ v2).setCell ⟨B3, 0, none⟩ v3).setCell ⟨B3, 1, none⟩ v4) :=
  ((((h.setCell (p := ⟨B2, 0, none⟩) h2 _).setCell (p := ⟨B2, 1, none⟩) h2 _).setCell (p := ⟨B2, 2, none⟩) h2 _).setCell (p := ⟨B3, 0, none⟩) h3 _).setCell (p := ⟨B3, 1, none⟩) h3 _

set_option maxRecDepth 100000 in
set_option maxHeartbeats 1000000 in
theorem take_wrong (a1 a2 a3 : Option Addr) (c1 c2 c3 L1 L2 L3 : Nat) (s : Sl) (h1 : s.g.length = L1) (h2 : s.u.length = L2) (h3 : s.f.length = L3) (w : World) (h : SlotsAt w.heap.size w a1 a2 a3 s.g s.u s.f) (hr : s.right = false) :
    Calls Try.prog 22 #[.agg #[.slice a1 L1 c1, .slice a2 L2 c2, .slice a3 L3 c3]] w fun e w' => e = .returned (.tuple #[nilV, handV (0, 0), .int .i64 90]) ∧ Below w.heap.size w w' := by
  have H := Lib.hid (fun w hS => right2_any a1 a2 a3 c1 c2 c3 L1 L2 L3 s h1 h2 h3 w hS)
  rw [hr] at H
  have HS := Lib.hid h
  clear h hr h1 h2 h3
  go_enter Try.func22, Try.ntmps22
  go_wp2_with fail
  refine (H.out _ ?_).mono ?_
  · exact HS.out.on ((((Below.refl _ _).alloc (Nat.le_refl _) _).alloc (by simp) _).alloc (by simp; omega) _)
  rintro e w1 ⟨rfl, hb1⟩
  have hz1 := hb1.size
  have hW : Below w.heap.size w w1 := ((((Below.refl _ _).alloc (Nat.le_refl _) _).alloc (by simp) _).alloc (by simp; omega) _).trans (hb1.mono (by simp; omega))
  have r3 := ((Fr3.new (w.alloc (.cells #[.slice a1 L1 c1, .slice a2 L2 c2, .slice a3 L3 c3] 25)) 25).on ((Below.refl _ _).alloc (Nat.le_refl _) (.cells #[.int .i64 0, .int .i64 0] 27)) (by simp)).on hb1 (by simp)
  have r2 := (Fr2.new ((w.alloc (.cells #[.slice a1 L1 c1, .slice a2 L2 c2, .slice a3 L3 c3] 25)).alloc (.cells #[.slice none 0 0, .slice none 0 0, .slice none 0 0] 25)) 27).on hb1 (by simp)
  simp only [World.size_alloc] at r2 r3 hz1
  obtain ⟨e0, e1, e2, f0, f1, f2⟩ := r3
  obtain ⟨e3, e4, f3, f4⟩ := r2
  clear hb1
  go_wp2
  refine bodyPost_ret (v := .tuple #[nilV, handV (0, 0), .int .i64 90]) (by simp [results, Try.results22, go_sem, nilV, handV, e0, e1, e2, e3, e4]) rfl ⟨rfl, ?_⟩
  exact below_set5 hW (by omega) (by omega) _ _ _ _ _
end Go.Proofs.Ytbalebnhjpjhgaa

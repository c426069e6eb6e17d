/- has, at the three checks; Valid. -/
import Derived.Test.YtbalebnhjpjhgaaN
namespace Go.Proofs.Ytbalebnhjpjhgaa
open Go.RowKit

/-- A handle is that of a slot that is used. -/
def Live (s : Sl) (h : Int × Int) : Prop := 0 ≤ h.1 ∧ h.1 < s.u.length ∧ s.u[h.1.toNat]? = some true ∧ s.g[h.1.toNat]? = some h.2
instance (s : Sl) (h : Int × Int) : Decidable (Live s h) := by unfold Live; infer_instance
def Sl.valid (s : Sl) (h : Int × Int) : Bool := s.right && decide (Live s h)

set_option maxRecDepth 100000 in
set_option maxHeartbeats 2000000 in
theorem has_any (a1 a2 a3 : Option Addr) (c1 c2 c3 L M bS : Nat) (s : Sl) (p g : Int) (hg : s.g.length = L) (hu : s.u.length = L) (w : World) (h : SlotsAt w.heap.size w a1 a2 a3 s.g s.u s.f)
    (k0 : w.cell? ⟨bS, 0, none⟩ = some (.func (.func 34) #[] #[])) (k1 : w.cell? ⟨bS, 1, none⟩ = some (.func (.func 35) #[] #[])) (k2 : w.cell? ⟨bS, 2, none⟩ = some (.func (.func 36) #[] #[])) :
    Calls Try.prog 33 #[.agg #[.slice a1 L c1, .slice a2 L c2, .slice a3 M c3], .agg #[.int .i64 p, .int .i64 g], .slice (some ⟨bS, 0, none⟩) 3 3] w fun e w' => e = .returned (.bool (decide (Live s (p, g)))) ∧ Below w.heap.size w w' := by
  have hz := blt k0
  have HS := Lib.hid h
  have hA : Below w.heap.size w ((w.alloc (.cells #[.slice a1 L c1, .slice a2 L c2, .slice a3 M c3] 47)).alloc (.cells #[.int .i64 p, .int .i64 g] 27)) := ((Below.refl _ _).alloc (Nat.le_refl _) _).alloc (by simp) _
  have HA := Lib.hid hA
  have H1 := Lib.hid (fun W => place_any (.slice a1 L c1) (.slice a3 M c3) a2 c2 L p g W)
  clear h hA
  by_cases hp : 0 ≤ p ∧ p < (L : Int)
  rotate_left
  · rw [decide_eq_false (show ¬ Live s (p, g) from fun x => hp ⟨x.1, by have := x.2.1; omega⟩)]
    rw [decide_eq_false hp] at H1
    clear hp hg hu
    go_enter Try.func33, Try.ntmps33
    go_wp2
    refine wp_loop_rounds 3 ?_
    rw [rounds_succ]
    go_wp2_with fail
    refine (H1.out _).mono ?_; rintro e w1 ⟨rfl, hb1⟩
    go_wp2
    go_ret
    exact ⟨rfl, HA.out.trans (hb1.mono HA.out.size)⟩
  rw [decide_eq_true hp] at H1
  obtain ⟨k, rfl⟩ : ∃ k : Nat, p = k := ⟨p.toNat, by omega⟩
  have hk : k < L := by omega
  obtain ⟨x, hx⟩ : ∃ x, s.u[k]? = some x := ⟨_, List.getElem?_eq_getElem (by omega)⟩
  obtain ⟨y, hy⟩ : ∃ y, s.g[k]? = some y := ⟨_, List.getElem?_eq_getElem (by omega)⟩
  have H2 := Lib.hid (fun W hW => used_any (.slice a1 L c1) (.slice a3 M c3) a2 c2 L k s.u x hu g hx W hW)
  have H3 := Lib.hid (fun W hW => young_any a1 (.slice a2 L c2) (.slice a3 M c3) c1 L k s.g y g hg hy W hW)
  have hE : decide (Live s ((k : Int), g)) = (x && decide (y = g)) := by
    rw [Bool.eq_iff_iff]
    unfold Live
    simp [hx, hy, hu]
    omega
  rw [hE]
  clear hE hx hy hp hg hu
  cases x with
  | false =>
    rw [Bool.false_and]
    go_enter Try.func33, Try.ntmps33
    go_wp2
    refine wp_loop_rounds 3 ?_
    rw [rounds_succ]
    go_wp2_with fail
    refine (H1.out _).mono ?_; rintro e w1 ⟨rfl, hb1⟩
    obtain ⟨hc1, hf1⟩ := bcell hb1; have hz1 : bS < w1.heap.size := Nat.lt_of_lt_of_le hz (Nat.le_trans HA.out.size hb1.size); have hzw : w.heap.size + 1 < w1.heap.size := Nat.lt_of_lt_of_le (by simp) hb1.size; have hzv : w.heap.size < w1.heap.size := by omega
    have HB := Lib.hid (HA.out.trans (hb1.mono HA.out.size))
    have m1 := (HB.out.cell (p := ⟨bS, 1, none⟩) hz).trans k1
    have m2 := (HB.out.cell (p := ⟨bS, 2, none⟩) hz).trans k2
    go_wp2
    rw [rounds_succ]
    go_wp2_with fail
    refine (H2.out _ ((HS.out.on HB.out).u)).mono ?_; rintro e w2 ⟨rfl, hb2⟩
    go_wp2
    go_ret
    exact ⟨rfl, HB.out.trans (hb2.mono HB.out.size)⟩
  | true =>
    rw [Bool.true_and]
    cases hyg : decide (y = g) with
    | false =>
      rw [hyg] at H3
      clear hyg
      go_enter Try.func33, Try.ntmps33
      go_wp2
      refine wp_loop_rounds 4 ?_
      rw [rounds_succ]
      go_wp2_with fail
      refine (H1.out _).mono ?_; rintro e w1 ⟨rfl, hb1⟩
      obtain ⟨hc1, hf1⟩ := bcell hb1; have hz1 : bS < w1.heap.size := Nat.lt_of_lt_of_le hz (Nat.le_trans HA.out.size hb1.size); have hzw : w.heap.size + 1 < w1.heap.size := Nat.lt_of_lt_of_le (by simp) hb1.size; have hzv : w.heap.size < w1.heap.size := by omega
      have HB := Lib.hid (HA.out.trans (hb1.mono HA.out.size))
      have m1 := (HB.out.cell (p := ⟨bS, 1, none⟩) hz).trans k1
      have m2 := (HB.out.cell (p := ⟨bS, 2, none⟩) hz).trans k2
      go_wp2
      rw [rounds_succ]
      go_wp2_with fail
      refine (H2.out _ ((HS.out.on HB.out).u)).mono ?_; rintro e w2 ⟨rfl, hb2⟩
      obtain ⟨hc2, hf2⟩ := bcell hb2; have HC := Lib.hid (HB.out.trans (hb2.mono HB.out.size))
      go_wp2
      rw [rounds_succ]
      go_wp2_with fail
      refine (H3.out _ ((HS.out.on HC.out).g)).mono ?_; rintro e w3 ⟨rfl, hb3⟩
      go_wp2
      go_ret
      exact ⟨rfl, HC.out.trans (hb3.mono HC.out.size)⟩
    | true =>
      rw [hyg] at H3
      clear hyg
      go_enter Try.func33, Try.ntmps33
      go_wp2
      refine wp_loop_rounds 4 ?_
      rw [rounds_succ]
      go_wp2_with fail
      refine (H1.out _).mono ?_; rintro e w1 ⟨rfl, hb1⟩
      obtain ⟨hc1, hf1⟩ := bcell hb1; have hz1 : bS < w1.heap.size := Nat.lt_of_lt_of_le hz (Nat.le_trans HA.out.size hb1.size); have hzw : w.heap.size + 1 < w1.heap.size := Nat.lt_of_lt_of_le (by simp) hb1.size; have hzv : w.heap.size < w1.heap.size := by omega
      have HB := Lib.hid (HA.out.trans (hb1.mono HA.out.size))
      have m1 := (HB.out.cell (p := ⟨bS, 1, none⟩) hz).trans k1
      have m2 := (HB.out.cell (p := ⟨bS, 2, none⟩) hz).trans k2
      go_wp2
      rw [rounds_succ]
      go_wp2_with fail
      refine (H2.out _ ((HS.out.on HB.out).u)).mono ?_; rintro e w2 ⟨rfl, hb2⟩
      obtain ⟨hc2, hf2⟩ := bcell hb2; have HC := Lib.hid (HB.out.trans (hb2.mono HB.out.size))
      go_wp2
      rw [rounds_succ]
      go_wp2_with fail
      refine (H3.out _ ((HS.out.on HC.out).g)).mono ?_; rintro e w3 ⟨rfl, hb3⟩
      go_wp2
      rw [rounds_succ]
      go_wp2
      go_ret
      exact ⟨rfl, HC.out.trans (hb3.mono HC.out.size)⟩
end Go.Proofs.Ytbalebnhjpjhgaa

/- Valid. -/
import Derived.Test.YtbalebnhjpjhgaaO
namespace Go.Proofs.Ytbalebnhjpjhgaa
open Go.RowKit

set_option maxRecDepth 100000 in
set_option maxHeartbeats 2000000 in
theorem valid_any (a1 a2 a3 : Option Addr) (c1 c2 c3 L1 L2 L3 : Nat) (s : Sl) (p g : Int) (h1 : s.g.length = L1) (h2 : s.u.length = L2) (h3 : s.f.length = L3) (w : World) (h : SlotsAt w.heap.size w a1 a2 a3 s.g s.u s.f) :
    Calls Try.prog 17 #[.agg #[.slice a1 L1 c1, .slice a2 L2 c2, .slice a3 L3 c3], .agg #[.int .i64 p, .int .i64 g]] w fun e w' => e = .returned (.bool (s.valid (p, g))) ∧ Below w.heap.size w w' := by
  have H := Lib.hid (fun w hS => right2_any a1 a2 a3 c1 c2 c3 L1 L2 L3 s h1 h2 h3 w hS)
  have HS := Lib.hid h
  have hA : Below w.heap.size w ((w.alloc (.cells #[.slice a1 L1 c1, .slice a2 L2 c2, .slice a3 L3 c3] 25)).alloc (.cells #[.int .i64 p, .int .i64 g] 27)) := ((Below.refl _ _).alloc (Nat.le_refl _) _).alloc (by simp) _
  have HA := Lib.hid hA
  clear h hA
  unfold Sl.valid
  cases hr : s.right with
  | false =>
    rw [hr] at H
    rw [Bool.false_and]
    clear h1 h2 h3 hr
    go_enter Try.func17, Try.ntmps17
    go_wp2_with fail
    refine (H.out _ (HS.out.on HA.out)).mono ?_; rintro e w1 ⟨rfl, hb1⟩
    go_wp2
    go_ret
    exact ⟨rfl, HA.out.trans (hb1.mono HA.out.size)⟩
  | true =>
    obtain ⟨R1, R2, R3, R4, _⟩ := (right_iff s).1 hr
    obtain rfl : L1 = L2 := by omega
    have G := Lib.hid (fun bS w hS k0 k1 k2 => has_any a1 a2 a3 c1 c2 c3 L1 L3 bS s p g h1 h2 w hS k0 k1 k2)
    rw [hr] at H
    rw [Bool.true_and]
    clear h1 h2 h3 hr R1 R2 R3 R4
    go_enter Try.func17, Try.ntmps17
    go_wp2_with fail
    refine (H.out _ (HS.out.on HA.out)).mono ?_; rintro e w1 ⟨rfl, hb1⟩
    obtain ⟨hc1, hf1⟩ := bcell hb1
    have hz1 := hb1.size
    simp only [World.size_alloc] at hz1
    have HB := Lib.hid (HA.out.trans (hb1.mono HA.out.size))
    clear hb1
    go_wp2_with fail
    refine (G.out _ _ (HS.out.on (HB.out.alloc HB.out.size _)) ?_ ?_ ?_).mono ?_
    · go_simp
    · go_simp
    · go_simp
    rintro e w2 ⟨rfl, hb2⟩
    go_wp2
    go_ret
    exact ⟨rfl, (HB.out.alloc HB.out.size _).trans (hb2.mono (by have := HB.out.size; simp; omega))⟩
end Go.Proofs.Ytbalebnhjpjhgaa

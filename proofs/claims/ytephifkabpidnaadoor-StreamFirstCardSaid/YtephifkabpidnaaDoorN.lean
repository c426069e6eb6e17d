/- StreamEnds: what it says, walked. -/
import Derived.Test.YtephifkabpidnaaDoorM
namespace Go.Proofs.YtephifkabpidnaaDoor
open Go.RowKit Go.Shelf
attribute [local go_sem] Oper.semAt_some

theorem runS_st {s : Int} (l : List Int) (hs : isSt s = true) : isSt (runS s l) = true := by unfold runS; rw [if_pos hs]; exact run_st l hs
theorem run_vals {s : Int} (l : List Int) (hs : isSt s = true) : runS s l = run s l ∧ runN s l = cnt s l ∧ runE s = 0 := by unfold runS runN runE; simp [hs]
theorem run_vals0 {s : Int} (l : List Int) (hs : isSt s = false) : runS s l = 0 ∧ runN s l = 0 ∧ runE s = 2 := by unfold runS runN runE; simp [hs]
theorem ends_pure {s : Int} (l : List Int) (hs : isSt s = true) : runN s l ≤ 4 ∧ (endB s = true → runN s l = 0 ∧ runS s l = s) ∧ (leastB (runS s l) 5 || leastB (runS s l) 6) = true ∧ (endB (runS s l) || leastB (runS s l) 6) = true := by
  obtain ⟨e1, e2, _⟩ := run_vals l hs
  rw [e1, e2]
  refine ⟨by have := cnt_four s l; omega, fun h => ?_, ?_⟩
  · obtain ⟨h1, h2⟩ := end_stays l h
    exact ⟨by rw [h2]; rfl, h1⟩
  · rcases isSt_cases (run_st l hs) with h | h | h | h | h | h | h <;> rw [h] <;> decide +kernel

set_option maxRecDepth 100000 in
set_option maxHeartbeats 4000000 in
theorem ends_c (s : Int) (a : Option Addr) (l : List Int) (cap : Nat) (w : World) (hL : Laid w) (hc : l.length ≤ cap) (hm : cap ≤ maxLen) (hI : IntsAt w.heap.size w a l) :
    Calls Tryd.prog 4 #[.int .i64 s, .slice a l.length cap] w fun x w' => x = .returned (.bool true) ∧ Below w.heap.size w w' := by
  have hl : (l.take 20).length ≤ 1000 := by rw [List.length_take]; omega
  have HS := Lib.hid (shown_c w hL)
  have HF := Lib.hid (fun W => few_c a l cap W hc hm)
  have HI := Lib.hid (hI.take 20)
  clear hL hI hc hm
  have HR := Lib.hid (fun W (h : Below w.heap.size w W) => run_c s a cap (l.take 20) hl W ((HI.out.below h).mono h.size))
  cases hs : isSt s with
  | false =>
    obtain ⟨e1, e2, e3⟩ := run_vals0 (l.take 20) hs
    rw [e1, e2, e3] at HR
    clear hs e1 e2 e3 HI hl
    go_enter Tryd.func4, Tryd.ntmps4
    go_wp2_with fail
    refine (HS.out).mono ?_; rintro e w1 ⟨rfl, hb1⟩
    go_wp2_with fail
    refine (HF.out _).mono ?_; rintro e w2 ⟨rfl, rfl⟩
    generalize (l.take 20).length = len at *
    go_wp2_with fail
    refine (HR.out _ hb1).mono ?_; rintro e w2 ⟨rfl, hb2⟩
    have HB2 := Lib.hid (btr hb1 hb2)
    clear hb1 hb2 HS HF HR
    go_wp2
    go_ret
    exact ⟨rfl, HB2.out⟩
  | true =>
    obtain ⟨p1, p2, p3, p4⟩ := ends_pure (l.take 20) hs
    have e3 := (run_vals (l.take 20) hs).2.2
    rw [e3] at HR
    have hN : 0 ≤ runN s (l.take 20) := by rw [(run_vals (l.take 20) hs).2.1]; omega
    generalize runS s (l.take 20) = r at *
    generalize runN s (l.take 20) = n at *
    cases he : endB s <;> cases ho : leastB r 5 <;> cases hk : leastB r 6 <;> cases her : endB r <;> rw [ho, hk] at p3 <;> rw [her, hk] at p4 <;> (try (exact absurd p3 (by decide))) <;> (try (exact absurd p4 (by decide)))
    all_goals
      rw [he] at p2
      clear p3 p4 hs e3 HI hl
      try (obtain ⟨rfl, rfl⟩ := p2 rfl)
      try (exact absurd (he.symm.trans her) (by decide))
    all_goals
      clear p2
      go_enter Tryd.func4, Tryd.ntmps4
      go_wp2_with fail
      refine (HS.out).mono ?_; rintro e w1 ⟨rfl, hb1⟩
      go_wp2_with fail
      refine (HF.out _).mono ?_; rintro e w2 ⟨rfl, rfl⟩
      generalize (l.take 20).length = len at *
      go_wp2_with fail
      refine (HR.out _ hb1).mono ?_; rintro e w2 ⟨rfl, hb2⟩
      have HB2 := Lib.hid (btr hb1 hb2)
      clear hb1 hb2 HS HF HR
      go_wp2_with fail
      refine (least_c _ _ _).mono ?_; rintro e w3 ⟨rfl, hb3⟩; rw [ho]
      have HB3 := Lib.hid (btr HB2.out hb3)
      clear hb3 HB2
      go_wp2_with fail
      refine (least_c _ _ _).mono ?_; rintro e w4 ⟨rfl, hb4⟩; rw [hk]
      have HB4 := Lib.hid (btr HB3.out hb4)
      clear hb4 HB3
      go_wp2_with (go_at_call 22; refine (isEnd_c _ _).mono ?_; rintro e w5 ⟨rfl, rfl⟩; first | rw [he] | rw [her])
      go_ret
      exact ⟨rfl, HB4.out⟩
end Go.Proofs.YtephifkabpidnaaDoor

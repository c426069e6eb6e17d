/- StreamLeast: what it says, walked. -/
import Derived.Test.YtephifkabpidnaaDoorN
namespace Go.Proofs.YtephifkabpidnaaDoor
open Go.RowKit Go.Shelf
attribute [local go_sem] Oper.semAt_some

theorem least_pure {s : Int} (l : List Int) (hs : isSt s = true) : leastB s (runS s l) = true ∧ leastN s (runS s l) ≤ runN s l ∧ (leastN s (runS s l) = 0 ↔ runS s l = s) := by
  obtain ⟨e1, e2, _⟩ := run_vals l hs
  obtain ⟨m, h1, _, h3, h4⟩ := least_run l hs
  rw [e1, e2]
  unfold leastB leastN
  rw [h1]
  exact ⟨rfl, h3, h4⟩

set_option maxRecDepth 100000 in
set_option maxHeartbeats 4000000 in
theorem leasts_c (s : Int) (a : Option Addr) (l : List Int) (cap : Nat) (w : World) (hL : Laid w) (hc : l.length ≤ cap) (hm : cap ≤ maxLen) (hI : IntsAt w.heap.size w a l) :
    Calls Tryd.prog 7 #[.int .i64 s, .slice a l.length cap] w fun x w' => x = .returned (.bool true) ∧ Below w.heap.size w w' := by
  have hl : (l.take 20).length ≤ 1000 := by rw [List.length_take]; omega
  have HS := Lib.hid (shown_c w hL)
  have HF := Lib.hid (fun W => few_c a l cap W hc hm)
  have HI := Lib.hid (hI.take 20)
  clear hL hI hc hm
  have HR := Lib.hid (fun W (h : Below w.heap.size w W) => run_c s a cap (l.take 20) hl W ((HI.out.below h).mono h.size))
  cases hs : isSt s with
  | false =>
    obtain ⟨e1, e2, e3⟩ := run_vals0 (l.take 20) hs
    rw [e1, e2, e3] at HR
    have hb : leastB s 0 = false := by unfold leastB; rw [reach_none hs]; rfl
    clear hs e1 e2 e3 HI hl
    go_enter Tryd.func7, Tryd.ntmps7
    go_wp2_with fail
    refine (HS.out).mono ?_; rintro e w1 ⟨rfl, hb1⟩
    go_wp2_with fail
    refine (HF.out _).mono ?_; rintro e w2 ⟨rfl, rfl⟩
    generalize (l.take 20).length = len at *
    go_wp2_with fail
    refine (HR.out _ hb1).mono ?_; rintro e w2 ⟨rfl, hb2⟩
    have HB2 := Lib.hid (btr hb1 hb2)
    clear hb1 hb2 HS HF HR
    go_wp2_with fail
    refine (least_c _ _ _).mono ?_; rintro e w3 ⟨rfl, hb3⟩; rw [hb]
    have HB3 := Lib.hid (btr HB2.out hb3)
    clear hb3 HB2
    go_wp2
    go_ret
    exact ⟨rfl, HB3.out⟩
  | true =>
    obtain ⟨p1, p2, p3⟩ := least_pure (l.take 20) hs
    have e3 := (run_vals (l.take 20) hs).2.2
    rw [e3] at HR
    generalize runS s (l.take 20) = r at *
    generalize runN s (l.take 20) = n at *
    have HB' := Lib.hid p1
    generalize hmm : leastN s r = mm at *
    by_cases hrs : r = s
    · have hz : mm = 0 := p3.2 hrs
      subst hz hrs
      clear p1 p3 HI hl hs e3
      go_enter Tryd.func7, Tryd.ntmps7
      go_wp2_with fail
      refine (HS.out).mono ?_; rintro e w1 ⟨rfl, hb1⟩
      go_wp2_with fail
      refine (HF.out _).mono ?_; rintro e w2 ⟨rfl, rfl⟩
      generalize (l.take 20).length = len at *
      go_wp2_with fail
      refine (HR.out _ hb1).mono ?_; rintro e w2 ⟨rfl, hb2⟩
      have HB2 := Lib.hid (btr hb1 hb2)
      clear hb1 hb2 HS HF HR
      go_wp2_with fail
      refine (least_c _ _ _).mono ?_; rintro e w3 ⟨rfl, hb3⟩; rw [HB'.out, hmm]
      have HB3 := Lib.hid (btr HB2.out hb3)
      clear hb3 HB2 hmm
      go_wp2
      go_ret
      exact ⟨rfl, HB3.out⟩
    · have hz : (mm == 0) = false := by have := fun h => hrs (p3.1 h); simpa using this
      have hd : (r == s) = false := by simpa using hrs
      clear p1 p3 HI hl hs e3 hrs
      go_enter Tryd.func7, Tryd.ntmps7
      go_wp2_with fail
      refine (HS.out).mono ?_; rintro e w1 ⟨rfl, hb1⟩
      go_wp2_with fail
      refine (HF.out _).mono ?_; rintro e w2 ⟨rfl, rfl⟩
      generalize (l.take 20).length = len at *
      go_wp2_with fail
      refine (HR.out _ hb1).mono ?_; rintro e w2 ⟨rfl, hb2⟩
      have HB2 := Lib.hid (btr hb1 hb2)
      clear hb1 hb2 HS HF HR
      go_wp2_with fail
      refine (least_c _ _ _).mono ?_; rintro e w3 ⟨rfl, hb3⟩; rw [HB'.out, hmm]
      have HB3 := Lib.hid (btr HB2.out hb3)
      clear hb3 HB2 hmm
      go_wp2
      go_ret
      exact ⟨rfl, HB3.out⟩
end Go.Proofs.YtephifkabpidnaaDoor

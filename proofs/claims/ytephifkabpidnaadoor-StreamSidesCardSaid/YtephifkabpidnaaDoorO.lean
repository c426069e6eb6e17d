/- StreamSides: what it says, walked. -/
import Derived.Test.YtephifkabpidnaaDoorN
namespace Go.Proofs.YtephifkabpidnaaDoor
open Go.RowKit Go.Shelf
attribute [local go_sem] Oper.semAt_some

theorem sides_pure {r : Int} (m : List Int) (hs : isSt r = true) : (r = 3 → inB (runS r m) = false) ∧ (r = 4 → outB (runS r m) = false) ∧ (r = 5 ∨ r = 6 → runS r m = r) := by
  rw [(run_vals m hs).1]
  exact ⟨fun h => in_stays m (.inl h), fun h => out_stays m (.inl h), fun h => (end_stays m (by rcases h with rfl | rfl <;> decide)).1⟩
theorem flowV : inB 0 = false ∧ inB 1 = false ∧ inB 2 = true ∧ inB 3 = false ∧ inB 4 = true ∧ inB 5 = false ∧ inB 6 = false ∧ outB 0 = false ∧ outB 1 = false ∧ outB 2 = true ∧ outB 3 = true ∧ outB 4 = false ∧ outB 5 = false ∧ outB 6 = false := by decide +kernel
theorem endV : endB 0 = false ∧ endB 1 = false ∧ endB 2 = false ∧ endB 3 = false ∧ endB 4 = false ∧ endB 5 = true ∧ endB 6 = true := by decide +kernel

set_option maxRecDepth 100000 in
set_option maxHeartbeats 4000000 in
theorem sides_c (s : Int) (a : Option Addr) (l : List Int) (cap : Nat) (a2 : Option Addr) (m : List Int) (cap2 : Nat) (w : World) (hL : Laid w) (hc : l.length ≤ cap) (hm : cap ≤ maxLen) (hI : IntsAt w.heap.size w a l)
    (hc2 : m.length ≤ cap2) (hm2 : cap2 ≤ maxLen) (hI2 : IntsAt w.heap.size w a2 m) :
    Calls Tryd.prog 5 #[.int .i64 s, .slice a l.length cap, .slice a2 m.length cap2] w fun x w' => x = .returned (.bool true) ∧ Below w.heap.size w w' := by
  have hl : (l.take 20).length ≤ 1000 := by rw [List.length_take]; omega
  have hl2 : (m.take 20).length ≤ 1000 := by rw [List.length_take]; omega
  have HS := Lib.hid (shown_c w hL)
  have HF := Lib.hid (fun W => few_c a l cap W hc hm)
  have HF2 := Lib.hid (fun W => few_c a2 m cap2 W hc2 hm2)
  have HI := Lib.hid (hI.take 20)
  have HI2 := Lib.hid (hI2.take 20)
  clear hL hI hc hm hI2 hc2 hm2
  generalize l.take 20 = zs at *
  generalize m.take 20 = zs2 at *
  have HR := Lib.hid (fun W (h : Below w.heap.size w W) => run_c s a cap zs hl W ((HI.out.below h).mono h.size))
  have HR2 := Lib.hid (fun r W (h : Below w.heap.size w W) => run_c r a2 cap2 zs2 hl2 W ((HI2.out.below h).mono h.size))
  cases hs : isSt s with
  | false =>
    obtain ⟨e1, e2, e3⟩ := run_vals0 zs hs
    rw [e1, e2, e3] at HR
    have HR3 := HR2.out 0
    rw [show runE 0 = 0 by decide] at HR3
    have HR4 := Lib.hid HR3
    clear hs e1 e2 e3 HI hl HR2 HR3 HI2 hl2
    go_enter Tryd.func5, Tryd.ntmps5
    go_wp2_with fail
    refine (HS.out).mono ?_; rintro e w1 ⟨rfl, hb1⟩
    go_wp2_with fail
    refine (HF.out _).mono ?_; rintro e w2 ⟨rfl, rfl⟩
    go_wp2_with fail
    refine (HF2.out _).mono ?_; rintro e w2 ⟨rfl, rfl⟩
    go_wp2_with fail
    refine (HR.out _ hb1).mono ?_; rintro e w2 ⟨rfl, hb2⟩
    have HB2 := Lib.hid (btr hb1 hb2)
    clear hb1 hb2 HS HF HR HF2
    go_wp2_with fail
    refine (HR4.out _ HB2.out).mono ?_; rintro e w3 ⟨rfl, hb3⟩
    have HB3 := Lib.hid (btr HB2.out hb3)
    clear hb3 HB2 HR4
    generalize runS 0 zs2 = t at *
    generalize runN 0 zs2 = n at *
    go_wp2
    go_ret
    exact ⟨rfl, HB3.out⟩
  | true =>
    have hr := runS_st zs hs
    have e3 := (run_vals zs hs).2.2
    rw [e3] at HR
    generalize runS s zs = r at *
    generalize runN s zs = n at *
    obtain ⟨q1, q2, q3⟩ := sides_pure zs2 hr
    have HR3 := HR2.out r
    rw [(run_vals zs2 hr).2.2] at HR3
    have HR4 := Lib.hid HR3
    clear HR2 HR3 HI HI2 hl hl2 e3 hs
    generalize runS r zs2 = t at *
    generalize runN r zs2 = n2 at *
    rcases isSt_cases hr with rfl | rfl | rfl | rfl | rfl | rfl | rfl
    all_goals
      try (have q1 := q1 rfl)
      try (have q2 := q2 rfl)
      try (obtain rfl := q3 (.inl rfl))
      try (obtain rfl := q3 (.inr rfl))
      clear q3 hr
      go_enter Tryd.func5, Tryd.ntmps5
      go_wp2_with fail
      refine (HS.out).mono ?_; rintro e w1 ⟨rfl, hb1⟩
      go_wp2_with fail
      refine (HF.out _).mono ?_; rintro e w2 ⟨rfl, rfl⟩
      go_wp2_with fail
      refine (HF2.out _).mono ?_; rintro e w2 ⟨rfl, rfl⟩
      go_wp2_with fail
      refine (HR.out _ hb1).mono ?_; rintro e w2 ⟨rfl, hb2⟩
      have HB2 := Lib.hid (btr hb1 hb2)
      clear hb1 hb2 HS HF HR HF2
      go_wp2_with fail
      refine (HR4.out _ HB2.out).mono ?_; rintro e w3 ⟨rfl, hb3⟩
      have HB3 := Lib.hid (btr HB2.out hb3)
      clear hb3 HB2 HR4
      go_wp2_with (first
        | (go_at_call 18; refine (in_c _ _).mono ?_; rintro e w5 ⟨rfl, rfl⟩; first | simp only [flowV] | rw [q1])
        | (go_at_call 20; refine (out_c _ _).mono ?_; rintro e w5 ⟨rfl, rfl⟩; first | simp only [flowV] | rw [q2])
        | (go_at_call 22; refine (isEnd_c _ _).mono ?_; rintro e w5 ⟨rfl, rfl⟩; simp only [endV]))
      go_ret
      exact ⟨rfl, HB3.out⟩
end Go.Proofs.YtephifkabpidnaaDoor

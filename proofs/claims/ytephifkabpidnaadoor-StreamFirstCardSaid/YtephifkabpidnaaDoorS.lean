/- StreamFirst: what it says, walked. -/
import Derived.Test.YtephifkabpidnaaDoorR
namespace Go.Proofs.YtephifkabpidnaaDoor
open Go.RowKit Go.Shelf
attribute [local go_sem] Oper.semAt_some

theorem goes_idle {e : Int} : goes 0 e = decide (e = 1) := by
  unfold goes
  repeat' split
  all_goals simp_all
theorem first_pure (l : List Int) : (inB (runS 0 l) = false ∧ outB (runS 0 l) = false) ∨ ((2 ≤ runN 0 l) ∧ ∃ r, l = 1 :: 2 :: r) := by
  obtain ⟨h1, h2, _⟩ := run_vals (s := 0) l (by decide)
  rw [h1, h2]
  cases l with
  | nil => exact .inl (by decide +kernel)
  | cons x l =>
    by_cases hx : x = 1
    · subst hx
      have hd : goes 0 1 = true := by decide +kernel
      have he : dest 0 1 = 1 := by decide +kernel
      simp only [run, cnt, hd, if_true, he]
      cases l with
      | nil => exact .inl (by decide +kernel)
      | cons y l =>
        by_cases hg : goes 1 y = true
        · rcases goes_cases hg with ⟨h, _⟩ | ⟨_, rfl⟩ | ⟨_, rfl⟩ | ⟨_, rfl⟩ | ⟨h, _⟩ | ⟨h, _⟩ | ⟨h, _⟩ | ⟨h, _⟩ | ⟨h, _⟩ | ⟨h, _⟩ | ⟨h, _⟩ <;> try omega
          · have h3 : goes 1 2 = true := by decide +kernel
            exact .inr ⟨by simp only [cnt, h3, if_true]; omega, l, rfl⟩
          · have h3 : goes 1 3 = true := by decide +kernel
            have h4 : dest 1 3 = 6 := by decide +kernel
            simp only [run, h3, if_true, h4]
            rw [(end_stays l (show endB 6 = true by decide +kernel)).1]
            exact .inl (by decide +kernel)
          · have h3 : goes 1 6 = true := by decide +kernel
            have h4 : dest 1 6 = 6 := by decide +kernel
            simp only [run, h3, if_true, h4]
            rw [(end_stays l (show endB 6 = true by decide +kernel)).1]
            exact .inl (by decide +kernel)
        · have hg' : goes 1 y = false := by simpa using hg
          simp only [run, hg', Bool.false_eq_true, if_false]
          exact .inl (by decide +kernel)
    · have hd : goes 0 x = false := by rw [goes_idle]; simpa using hx
      simp only [run, hd, Bool.false_eq_true, if_false]
      exact .inl (by decide +kernel)
theorem next_idle (e : Int) : (e = 1 ∧ nextN 0 e = 1 ∧ nextE 0 e = 0) ∨ (e ≠ 1 ∧ nextN 0 e = 0 ∧ nextE 0 e = 140) := by
  by_cases h : e = 1
  · subst h; exact .inl (by decide +kernel)
  · have hd : goes 0 e = false := by rw [goes_idle]; simpa using h
    refine .inr ⟨h, ?_, ?_⟩
    · unfold nextN; rw [if_pos (by decide), hd]; rfl
    · unfold nextE; rw [if_pos (by decide), hd]; rfl

set_option maxRecDepth 100000 in
set_option maxHeartbeats 4000000 in
/-- By the answers. -/
theorem first_at (ev C G : Int) (hev : (ev = 1 ∧ C = 1 ∧ G = 0) ∨ (ev ≠ 1 ∧ C = 0 ∧ G = 140)) (h1 : nextN 0 ev = C ∧ nextE 0 ev = G) (a : Option Addr) (l : List Int) (cap : Nat) (w : World) (hL : Laid w) (hc : l.length ≤ cap) (hm : cap ≤ maxLen) (hI : IntsAt w.heap.size w a l) :
    Calls Tryd.prog 9 #[.int .i64 ev, .slice a l.length cap] w fun x w' => x = .returned (.bool true) ∧ Below w.heap.size w w' := by
  have hl : (l.take 20).length ≤ 1000 := by rw [List.length_take]; omega
  have HS := Lib.hid (shown_c w hL)
  have HF := Lib.hid (fun W => few_c a l cap W hc hm)
  have HI := Lib.hid (hI.take 20)
  have HL := Lib.hid hL
  clear hL hI hc hm
  have HN := Lib.hid (fun W (h : Below w.heap.size w W) => next_c 0 ev W (HL.out.on h))
  rw [h1.1, h1.2] at HN
  generalize l.take 20 = zs at *
  have HR := Lib.hid (fun W (h : Below w.heap.size w W) => run_c 0 a cap zs hl W ((HI.out.below h).mono h.size))
  rw [show runE 0 = 0 by decide] at HR
  have hp := first_pure zs
  generalize hr : runS 0 zs = r at *
  generalize runN 0 zs = n at *
  clear hr hl h1 HL
  rcases hp with ⟨hi, ho⟩ | ⟨hn, zr, rfl⟩
  · have hx : ev ≠ 1 → (ev == 1) = false := fun h => by simpa using h
    clear HI
    rcases hev with ⟨rfl, rfl, rfl⟩ | ⟨h1, rfl, rfl⟩
    all_goals
      try (have hx' := hx h1)
      clear hx
      go_enter Tryd.func9, Tryd.ntmps9
      go_wp2_with fail
      refine (HS.out).mono ?_; rintro e w1 ⟨rfl, hb1⟩
      go_wp2_with fail
      refine (HF.out _).mono ?_; rintro e w2 ⟨rfl, rfl⟩
      go_wp2_with fail
      refine (HN.out _ hb1).mono ?_; rintro e w2 ⟨rfl, hb2⟩
      have HB2 := Lib.hid (btr hb1 hb2)
      clear hb1 hb2 HS HF HN
      go_wp2_with fail
      refine (HR.out _ HB2.out).mono ?_; rintro e w3 ⟨rfl, hb3⟩
      have HB3 := Lib.hid (btr HB2.out hb3)
      clear hb3 HB2 HR
      go_wp2_with (first
        | (go_at_call 18; refine (in_c _ _).mono ?_; rintro e w5 ⟨rfl, rfl⟩; rw [hi])
        | (go_at_call 20; refine (out_c _ _).mono ?_; rintro e w5 ⟨rfl, rfl⟩; rw [ho]))
      go_ret
      exact ⟨rfl, HB3.out⟩
  · have hx : ev ≠ 1 → (ev == 1) = false := fun h => by simpa using h
    have C0 := HI.out 0 (by simp)
    have C1 := HI.out 1 (by simp)
    obtain ⟨b, off, rfl, hb, hc0⟩ := C0
    obtain ⟨b', off', hab, _, hc1⟩ := C1
    cases hab
    have hlen : (1 :: 2 :: zr).length = zr.length + 1 + 1 := rfl
    rw [hlen] at HF HR
    simp only [List.getElem_cons_zero, List.getElem_cons_succ] at hc0 hc1
    clear HI hlen
    generalize zr.length = lr at *
    have HC0 := Lib.hid (fun W (h : Below w.heap.size w W) => (h.cell (p := ⟨b, off + 0, none⟩) hb).trans hc0)
    have HC1 := Lib.hid (fun W (h : Below w.heap.size w W) => (h.cell (p := ⟨b, off + 1, none⟩) hb).trans hc1)
    clear hc0 hc1 hb
    rcases hev with ⟨rfl, rfl, rfl⟩ | ⟨h1, rfl, rfl⟩
    all_goals
      try (have hx' := hx h1)
      clear hx
      cases hi : inB r <;> cases ho : outB r
    all_goals
      go_enter Tryd.func9, Tryd.ntmps9
      go_wp2_with fail
      refine (HS.out).mono ?_; rintro e w1 ⟨rfl, hb1⟩
      go_wp2_with fail
      refine (HF.out _).mono ?_; rintro e w2 ⟨rfl, rfl⟩
      go_wp2_with fail
      refine (HN.out _ hb1).mono ?_; rintro e w2 ⟨rfl, hb2⟩
      have HB2 := Lib.hid (btr hb1 hb2)
      clear hb1 hb2 HS HF HN
      go_wp2_with fail
      refine (HR.out _ HB2.out).mono ?_; rintro e w3 ⟨rfl, hb3⟩
      have HB3 := Lib.hid (btr HB2.out hb3)
      have hc0 := HC0.out _ HB3.out
      have hc1 := HC1.out _ HB3.out
      clear hb3 HB2 HR HC0 HC1
      simp only [Nat.add_zero] at hc0
      go_wp2_with (first
        | (go_at_call 18; refine (in_c _ _).mono ?_; rintro e w5 ⟨rfl, rfl⟩; rw [hi])
        | (go_at_call 20; refine (out_c _ _).mono ?_; rintro e w5 ⟨rfl, rfl⟩; rw [ho]))
      go_ret
      exact ⟨rfl, HB3.out⟩

theorem firsts_c (ev : Int) (a : Option Addr) (l : List Int) (cap : Nat) (w : World) (hL : Laid w) (hc : l.length ≤ cap) (hm : cap ≤ maxLen) (hI : IntsAt w.heap.size w a l) :
    Calls Tryd.prog 9 #[.int .i64 ev, .slice a l.length cap] w fun x w' => x = .returned (.bool true) ∧ Below w.heap.size w w' :=
  first_at ev _ _ (next_idle ev) ⟨rfl, rfl⟩ a l cap w hL hc hm hI
end Go.Proofs.YtephifkabpidnaaDoor

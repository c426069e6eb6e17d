/- StreamEither: what it says, walked. -/
import Derived.Test.YtephifkabpidnaaDoorN
namespace Go.Proofs.YtephifkabpidnaaDoor
open Go.RowKit Go.Shelf
attribute [local go_sem] Oper.semAt_some

theorem ints2 (W : World) (x y : Int) : IntsAt (W.alloc (.cells #[.int .i64 x, .int .i64 y] 3)).heap.size (W.alloc (.cells #[.int .i64 x, .int .i64 y] 3)) (some ⟨W.heap.size, 0, none⟩) [x, y] := by
  intro i hi
  have : i = 0 ∨ i = 1 := by simp at hi; omega
  rcases this with rfl | rfl <;> exact ⟨W.heap.size, 0, rfl, by simp, by simp⟩
theorem flowV' : inB 0 = false ∧ inB 1 = false ∧ inB 2 = true ∧ inB 3 = false ∧ inB 4 = true ∧ inB 5 = false ∧ inB 6 = false ∧ outB 0 = false ∧ outB 1 = false ∧ outB 2 = true ∧ outB 3 = true ∧ outB 4 = false ∧ outB 5 = false ∧ outB 6 = false := by decide +kernel
theorem endV' : endB 0 = false ∧ endB 1 = false ∧ endB 2 = false ∧ endB 3 = false ∧ endB 4 = false ∧ endB 5 = true ∧ endB 6 = true := by decide +kernel

set_option maxRecDepth 100000 in
set_option maxHeartbeats 4000000 in
/-- At states whose answers are known. -/
theorem either_at (s A NA B NB E C G : Int) (i o d : Bool) (h1 : runS s [4, 5] = A ∧ runN s [4, 5] = NA ∧ runE s = E) (h2 : runS s [5, 4] = B ∧ runN s [5, 4] = NB) (h3 : nextN s 6 = C ∧ nextE s 6 = G) (h4 : inB s = i ∧ outB s = o ∧ endB s = d)
    (hall : (E = 2 ∧ G = 2) ∨ (E = 0 ∧ ((s = 0 ∧ i = false ∧ d = false ∧ G = 140) ∨ (s = 1 ∧ i = false ∧ d = false ∧ G = 0 ∧ C = 6) ∨ (s = 2 ∧ i = true ∧ o = true ∧ d = false ∧ G = 0 ∧ C = 6 ∧ A = 5 ∧ B = 5 ∧ NA = 2 ∧ NB = 2) ∨ (s = 3 ∧ i = false ∧ d = false ∧ G = 0 ∧ C = 6) ∨ (s = 4 ∧ i = true ∧ o = false ∧ d = false ∧ G = 0 ∧ C = 6) ∨ (s = 5 ∧ i = false ∧ d = true ∧ G = 140) ∨ (s = 6 ∧ i = false ∧ d = true ∧ G = 140))))
    (w : World) (hL : Laid w) : Calls Tryd.prog 8 #[.int .i64 s] w fun x w' => x = .returned (.bool true) ∧ Below w.heap.size w w' := by
  have HS := Lib.hid (shown_c w hL)
  have HL := Lib.hid hL
  have HR := Lib.hid (fun W => run_c s (some ⟨W.heap.size, 0, none⟩) 2 [4, 5] (by decide) _ (ints2 W 4 5))
  have HR2 := Lib.hid (fun W => run_c s (some ⟨W.heap.size, 0, none⟩) 2 [5, 4] (by decide) _ (ints2 W 5 4))
  have HN := Lib.hid (fun W (h : Laid W) => next_c s 6 W h)
  rw [h1.1, h1.2.1, h1.2.2] at HR
  rw [h2.1, h2.2, h1.2.2] at HR2
  rw [h3.1, h3.2] at HN
  obtain ⟨hi, ho, hd⟩ := h4
  clear h1 h2 h3 hL
  rcases hall with ⟨rfl, rfl⟩ | ⟨rfl, ⟨rfl, rfl, rfl, rfl⟩ | ⟨rfl, rfl, rfl, rfl, rfl⟩ | ⟨rfl, rfl, rfl, rfl, rfl, rfl, rfl, rfl, rfl, rfl⟩ | ⟨rfl, rfl, rfl, rfl, rfl⟩ | ⟨rfl, rfl, rfl, rfl, rfl, rfl⟩ | ⟨rfl, rfl, rfl, rfl⟩ | ⟨rfl, rfl, rfl, rfl⟩⟩
  all_goals
    go_enter Tryd.func8, Tryd.ntmps8
    go_wp2_with fail
    refine (HS.out).mono ?_; rintro e w1 ⟨rfl, hb1⟩
    have HB1 := Lib.hid hb1
    clear hb1 HS
    go_wp2_with fail
    refine (HR.out _).mono ?_; rintro e w2 ⟨rfl, hb2⟩
    have HB2 := Lib.hid (btr (bal HB1.out _) hb2)
    clear hb2 HB1 HR
    go_wp2_with fail
    refine (HR2.out _).mono ?_; rintro e w3 ⟨rfl, hb3⟩
    have HB3 := Lib.hid (btr (bal HB2.out _) hb3)
    clear hb3 HB2 HR2
    go_wp2_with fail
    refine (HN.out _ (HL.out.on HB3.out)).mono ?_; rintro e w4 ⟨rfl, hb4⟩
    have HB4 := Lib.hid (btr HB3.out hb4)
    clear hb4 HB3 HN HL
    go_wp2_with (first
      | (go_at_call 18; refine (in_c _ _).mono ?_; rintro e w5 ⟨rfl, rfl⟩; rw [hi])
      | (go_at_call 20; refine (out_c _ _).mono ?_; rintro e w5 ⟨rfl, rfl⟩; rw [ho])
      | (go_at_call 22; refine (isEnd_c _ _).mono ?_; rintro e w5 ⟨rfl, rfl⟩; rw [hd]))
    go_ret
    exact ⟨rfl, HB4.out⟩

theorem either_c (s : Int) (w : World) (hL : Laid w) : Calls Tryd.prog 8 #[.int .i64 s] w fun x w' => x = .returned (.bool true) ∧ Below w.heap.size w w' := by
  cases hs : isSt s with
  | false =>
    have e : nextE s 6 = 2 := by unfold nextE; rw [if_neg (by simp [hs])]
    exact either_at s _ _ _ _ _ _ _ _ _ _ ⟨rfl, rfl, rfl⟩ ⟨rfl, rfl⟩ ⟨rfl, rfl⟩ ⟨rfl, rfl, rfl⟩ (.inl ⟨(run_vals0 [] hs).2.2, e⟩) w hL
  | true =>
    refine either_at s _ _ _ _ _ _ _ _ _ _ ⟨rfl, rfl, rfl⟩ ⟨rfl, rfl⟩ ⟨rfl, rfl⟩ ⟨rfl, rfl, rfl⟩ (.inr ⟨(run_vals [] hs).2.2, ?_⟩) w hL
    rcases isSt_cases hs with rfl | rfl | rfl | rfl | rfl | rfl | rfl <;> decide +kernel
end Go.Proofs.YtephifkabpidnaaDoor

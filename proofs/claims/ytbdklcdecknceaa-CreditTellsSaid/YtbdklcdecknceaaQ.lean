/- wicketgatelaw13.CreditTells: the document's New and Most; the walk. -/
import Derived.Test.YtbdklcdecknceaaN
import Derived.Deep.RegionHeld3
namespace Go.Proofs.Ytbdklcdecknceaa
open Go.RowKit

set_option maxHeartbeats 1000000 in
theorem refNew_any (n : Int) (w : World) :
    Calls Try.prog 12 #[.int .i64 n] w fun e w' => e = .returned (.tuple #[.agg #[.int .i64 (nG n), .int .i64 0], .int .i64 (nE n)]) ∧ Below w.heap.size w w' := by
  by_cases h0 : n < 0
  · have hr : rightB n 0 = false := by rw [← Bool.not_eq_true, right_iff]; omega
    rw [show nE n = 2 by simp [nE, hr], show nG n = 0 by simp [nG, hr]]
    have d0 : decide (n < 0) = true := decide_eq_true h0
    clear hr
    go_enter Try.func12, Try.ntmps12
    go_wp2
    refine bodyPost_ret (v := .tuple #[.agg #[.int .i64 0, .int .i64 0], .int .i64 2]) ?_ rfl ⟨rfl, (Below.refl _ _).alloc (Nat.le_refl _) _⟩
    simp [results, Try.results12, go_sem]
  · have d0 : decide (n < 0) = false := decide_eq_false h0
    by_cases h1 : 65536 < n
    · have hr : rightB n 0 = false := by rw [← Bool.not_eq_true, right_iff]; omega
      rw [show nE n = 2 by simp [nE, hr], show nG n = 0 by simp [nG, hr]]
      have d1 : decide (65536 < n) = true := decide_eq_true h1
      clear hr
      go_enter Try.func12, Try.ntmps12
      go_wp2
      refine bodyPost_ret (v := .tuple #[.agg #[.int .i64 0, .int .i64 0], .int .i64 2]) ?_ rfl ⟨rfl, (Below.refl _ _).alloc (Nat.le_refl _) _⟩
      simp [results, Try.results12, go_sem]
    · have hr : rightB n 0 = true := right_of (by omega)
      rw [show nE n = 0 by simp [nE, hr], show nG n = n by simp [nG, hr]]
      have d1 : decide (65536 < n) = false := decide_eq_false h1
      clear hr
      go_enter Try.func12, Try.ntmps12
      go_wp2
      refine bodyPost_ret (v := .tuple #[.agg #[.int .i64 n, .int .i64 0], .int .i64 0]) ?_ rfl ⟨rfl, (Below.refl _ _).alloc (Nat.le_refl _) _⟩
      simp [results, Try.results12, go_sem]

theorem most_max (g s : Int) (zs : List Int) : mostR g s zs = max (lowest (if rightB g s = true then g - s else 0) zs) 0 := by
  unfold mostR
  by_cases h : rightB g s = true
  · obtain ⟨b1, b2, b3, b4⟩ := bnd_of h
    rw [if_pos h]
    by_cases hall : ∀ x ∈ zs, 0 ≤ x
    · rw [if_pos ⟨h, hall⟩]
      have := lowest_nonneg (g - s) zs (by omega) hall
      omega
    · rw [if_neg (fun x => hall x.2)]
      have := lowest_neg (g - s) zs hall
      omega
  · rw [if_neg h, if_neg (fun x => h x.1)]
    have := lowest_le_start 0 zs
    omega

set_option maxRecDepth 100000 in
set_option maxHeartbeats 1000000 in
theorem refMost_empty (g s : Int) (a : Option Addr) (cap : Nat) (w : World) :
    Calls Try.prog 18 #[.agg #[.int .i64 g, .int .i64 s], .slice a 0 cap] w fun e w' => e = .returned (.int .i64 (mostR g s [])) ∧ Below w.heap.size w w' := by
  have Hm := Lib.hid (most_max g s [])
  go_enter Try.func18, Try.ntmps18
  go_wp2_with fail
  refine (refLeft_any _ _ _).mono ?_; rintro e w1 ⟨rfl, hb1⟩
  have hW : Below w.heap.size w w1 := ((Below.refl _ _).alloc (Nat.le_refl _) _).trans (hb1.mono (by simp))
  clear hb1
  obtain ⟨m, hm⟩ : ∃ m, m = (if rightB g s = true then g - s else 0) := ⟨_, rfl⟩
  rw [← hm]
  rw [← hm] at Hm
  clear hm
  go_wp2_with fail
  go_loop [5, 6] (fun l i => i = .int .i64 0 ∧ l = .int .i64 m) (fun _ _ => 0)
  case atStart => exact ⟨rfl, rfl⟩
  case round =>
    obtain ⟨rfl, rfl⟩ := hrel
    go_wp2
    all_goals
      go_ret
      exact ⟨ret_int (by rw [Hm.out]; unfold lowest; simp only [List.foldl_nil]; omega), hW⟩

set_option maxRecDepth 100000 in
set_option maxHeartbeats 2000000 in
theorem refMost_some (g s : Int) (b off cap len : Nat) (ys : List Int) (hl : ys.length = len) (hlen : len ≤ 20) (w : World) (hbw : b < w.heap.size) (hc : ∀ j, j < ys.length → w.cell? ⟨b, off + j, none⟩ = some (.int .i64 (ys[j]?.getD 0))) :
    Calls Try.prog 18 #[.agg #[.int .i64 g, .int .i64 s], .slice (some ⟨b, off, none⟩) len cap] w fun e w' => e = .returned (.int .i64 (mostR g s ys)) ∧ Below w.heap.size w w' := by
  have Hm := Lib.hid (most_max g s ys)
  have Hc := Lib.hid hc
  clear hc
  subst hl
  go_enter Try.func18, Try.ntmps18
  go_wp2_with fail
  refine (refLeft_any _ _ _).mono ?_; rintro e w1 ⟨rfl, hb1⟩
  have hW : Below w.heap.size w w1 := ((Below.refl _ _).alloc (Nat.le_refl _) _).trans (hb1.mono (by simp))
  clear hb1
  obtain ⟨m, hm⟩ : ∃ m, m = (if rightB g s = true then g - s else 0) := ⟨_, rfl⟩
  rw [← hm]
  rw [← hm] at Hm
  clear hm
  go_wp2_with fail
  go_loop [5, 6] (fun l i => ∃ k : Nat, k ≤ ys.length ∧ i = .int .i64 k ∧ l = .int .i64 (lowest m (ys.take k))) (fun _ i => ys.length - (intOf i).toNat)
  case atStart => exact ⟨0, Nat.zero_le _, rfl, rfl⟩
  case round =>
    obtain ⟨k, hk, rfl, rfl⟩ := hrel
    by_cases hlt : k < ys.length
    · obtain ⟨x, hxe⟩ : ∃ x, x = ys[k]?.getD 0 := ⟨_, rfl⟩
      have hck : w1.cell? ⟨b, off + k, none⟩ = some (.int .i64 x) := (hW.cell (p := ⟨b, off + k, none⟩) hbw).trans (by rw [hxe]; exact Hc.out k hlt)
      have hts := take_snoc ys k hlt
      have HS : Hid (lowest m (ys.take (k + 1)) = min (lowest m (ys.take k)) x) := Lib.hid (by rw [hts, lowest_snoc, hxe])
      clear hts hxe
      go_wp2
      all_goals
        go_round
        case rel => exact ⟨k + 1, by omega, by go_num, by rw [HS.out, Int.min_def]; split <;> first | rfl | (exact congrArg _ (by omega))⟩
        case measure => simp [intOf]; omega
    · obtain rfl : k = ys.length := by omega
      rw [List.take_length]
      go_wp2
      all_goals
        go_ret
        exact ⟨ret_int (by rw [Hm.out]; omega), hW⟩

theorem refMost_any (g s : Int) (a : Option Addr) (len cap : Nat) (ys : List Int) (hlen : ys.length ≤ 20) (w : World) (hI : Ints w.heap.size w (.slice a len cap) ys) :
    Calls Try.prog 18 #[.agg #[.int .i64 g, .int .i64 s], .slice a len cap] w fun e w' => e = .returned (.int .i64 (mostR g s ys)) ∧ Below w.heap.size w w' := by
  rcases hI with ⟨a', c', e, rfl⟩ | ⟨b, off, cap', e, hb, hc⟩
  · obtain ⟨rfl, rfl, rfl⟩ : a = a' ∧ len = 0 ∧ cap = c' := by simpa using e
    exact refMost_empty g s a cap w
  · obtain ⟨rfl, rfl, rfl⟩ : a = some ⟨b, off, none⟩ ∧ len = ys.length ∧ cap = cap' := by simpa using e
    exact refMost_some g s b off cap ys.length ys rfl hlen w hb hc
end Go.Proofs.Ytbdklcdecknceaa

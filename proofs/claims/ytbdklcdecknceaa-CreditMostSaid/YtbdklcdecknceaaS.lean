/- wicketgatelaw13.CreditMost: the walk. -/
import Derived.Test.YtbdklcdecknceaaN
namespace Go.Proofs.Ytbdklcdecknceaa
open Go.RowKit

set_option maxRecDepth 100000 in
set_option maxHeartbeats 4000000 in
theorem most_no (g s : Int) (a : Option Addr) (len cap : Nat) (zs : List Int) (w : World) (hz' : zs.length = len) (hlc : len ≤ cap) (hcm : cap ≤ maxLen) (hI : Ints w.heap.size w (.slice a len cap) zs) (h : rightB g s = false) :
    Calls Try.prog 7 #[.agg #[.int .i64 g, .int .i64 s], .slice a len cap] w fun e w' => e = .returned (.bool true) ∧ Below w.heap.size w w' := by
  have hI' := Lib.hid hI
  clear hI
  have m1 : mostR g s (fewOf zs) = 0 := by unfold mostR; rw [h]; simp
  have m2 : sE g s 0 = 2 := by unfold sE; simp [h]
  go_enter Try.func7, Try.ntmps7
  go_wp2_with fail
  refine (shown_any _).mono ?_; rintro e w1 ⟨rfl, hb1⟩; obtain ⟨hc1, hf1⟩ := bcell hb1; have hz1 := hb1.size
  try simp only [World.size_alloc] at hz1
  have hW1 : Below w.heap.size w w1 := ((Below.refl w.heap.size w).alloc (by have := (Below.refl w.heap.size w).size; (try simp only [World.size_alloc]); omega) _).trans (hb1.mono (by have := (Below.refl w.heap.size w).size; (try simp only [World.size_alloc]); omega))
  have lt_w_w1 : w.heap.size < w1.heap.size := by omega
  clear hb1
  go_wp2_with fail
  refine (few_any _ _ _ _ hlc hcm).mono ?_; rintro e wf ⟨rfl, rfl⟩
  go_wp2_with fail
  refine (Most_any g s _ _ _ (fewOf zs) (by rw [fewOf_length]; omega) _ (((hI'.out.few hz').below hW1).mono hW1.size)).mono ?_; rintro e w2 ⟨rfl, hb2⟩; obtain ⟨hc2, hf2⟩ := bcell hb2; have hz2 := hb2.size
  try simp only [World.size_alloc] at hz2
  have hW2 : Below w.heap.size w w2 := (hW1).trans (hb2.mono (by have := (hW1).size; (try simp only [World.size_alloc]); omega))
  have lt_w_w2 : w.heap.size < w2.heap.size := by omega
  clear hb2
  rw [m1]
  go_wp2_with fail
  refine (Spend_any g s _ _).mono ?_; rintro e w3 ⟨rfl, hb3⟩; obtain ⟨hc3, hf3⟩ := bcell hb3; have hz3 := hb3.size
  try simp only [World.size_alloc] at hz3
  have hW3 : Below w.heap.size w w3 := (hW2).trans (hb3.mono (by have := (hW2).size; (try simp only [World.size_alloc]); omega))
  have lt_w_w3 : w.heap.size < w3.heap.size := by omega
  clear hb3
  rw [m2]
  go_wp2_with fail
  refine (right_any _ _ _).mono ?_; rintro e w4 ⟨rfl, hb4⟩; obtain ⟨hc4, hf4⟩ := bcell hb4; have hz4 := hb4.size
  try simp only [World.size_alloc] at hz4
  have hW4 : Below w.heap.size w w4 := ((hW3).alloc (by have := (hW3).size; (try simp only [World.size_alloc]); omega) _).trans (hb4.mono (by have := (hW3).size; (try simp only [World.size_alloc]); omega))
  have lt_w_w4 : w.heap.size < w4.heap.size := by omega
  have lt_w3_w4 : w3.heap.size < w4.heap.size := by omega
  clear hb4
  go_wp2
  go_ret
  exact ⟨rfl, hW4⟩


set_option maxRecDepth 100000 in
set_option maxHeartbeats 4000000 in
theorem most_pos (g s n L : Int) (b off : Nat) (len cap : Nat) (zs ys : List Int) (w : World) (hz' : zs.length = len) (hlc : len ≤ cap) (hcm : cap ≤ maxLen) (hI : Ints w.heap.size w (.slice (some ⟨b, off, none⟩) len cap) zs) (h : rightB g s = true) (hm : mostR g s (fewOf zs) = n) (he : sE g s n = 0) (hyl : ys.length = min len 20) (hHL : Hid (lowest (g - s) ys = L)) (hbw : b < w.heap.size) (hc : ∀ j, j < ys.length → w.cell? ⟨b, off + j, none⟩ = some (.int .i64 (ys[j]?.getD 0))) (hn0 : 0 < n) (hn : ∀ x ∈ ys, n ≤ x) (hL : n = L) :
    Calls Try.prog 7 #[.agg #[.int .i64 g, .int .i64 s], .slice (some ⟨b, off, none⟩) len cap] w fun e w' => e = .returned (.bool true) ∧ Below w.heap.size w w' := by
  have hI' := Lib.hid hI
  clear hI
  have l1 : (if rightB g s = true then g - s else 0) = g - s := by simp [h]
  have m1 := hm
  have m2 := he
  clear hm he
  have HL := hHL
  have Hn := Lib.hid hn
  subst hL
  clear hn hHL
  have dn : decide (0 < n) = true := decide_eq_true hn0
  go_enter Try.func7, Try.ntmps7
  go_wp2_with fail
  refine (shown_any _).mono ?_; rintro e w1 ⟨rfl, hb1⟩; obtain ⟨hc1, hf1⟩ := bcell hb1; have hz1 := hb1.size
  try simp only [World.size_alloc] at hz1
  have hW1 : Below w.heap.size w w1 := ((Below.refl w.heap.size w).alloc (by have := (Below.refl w.heap.size w).size; (try simp only [World.size_alloc]); omega) _).trans (hb1.mono (by have := (Below.refl w.heap.size w).size; (try simp only [World.size_alloc]); omega))
  have lt_w_w1 : w.heap.size < w1.heap.size := by omega
  clear hb1
  go_wp2_with fail
  refine (few_any _ _ _ _ hlc hcm).mono ?_; rintro e wf ⟨rfl, rfl⟩
  go_wp2_with fail
  refine (Most_any g s _ _ _ (fewOf zs) (by rw [fewOf_length]; omega) _ (((hI'.out.few hz').below hW1).mono hW1.size)).mono ?_; rintro e w2 ⟨rfl, hb2⟩; obtain ⟨hc2, hf2⟩ := bcell hb2; have hz2 := hb2.size
  try simp only [World.size_alloc] at hz2
  have hW2 : Below w.heap.size w w2 := (hW1).trans (hb2.mono (by have := (hW1).size; (try simp only [World.size_alloc]); omega))
  have lt_w_w2 : w.heap.size < w2.heap.size := by omega
  clear hb2
  rw [m1]
  go_wp2_with fail
  refine (Spend_any g s _ _).mono ?_; rintro e w3 ⟨rfl, hb3⟩; obtain ⟨hc3, hf3⟩ := bcell hb3; have hz3 := hb3.size
  try simp only [World.size_alloc] at hz3
  have hW3 : Below w.heap.size w w3 := (hW2).trans (hb3.mono (by have := (hW2).size; (try simp only [World.size_alloc]); omega))
  have lt_w_w3 : w.heap.size < w3.heap.size := by omega
  clear hb3
  rw [m2]
  go_wp2_with fail
  refine (right_any _ _ _).mono ?_; rintro e w4 ⟨rfl, hb4⟩; obtain ⟨hc4, hf4⟩ := bcell hb4; have hz4 := hb4.size
  try simp only [World.size_alloc] at hz4
  have hW4 : Below w.heap.size w w4 := ((hW3).alloc (by have := (hW3).size; (try simp only [World.size_alloc]); omega) _).trans (hb4.mono (by have := (hW3).size; (try simp only [World.size_alloc]); omega))
  have lt_w_w4 : w.heap.size < w4.heap.size := by omega
  have lt_w3_w4 : w3.heap.size < w4.heap.size := by omega
  clear hb4
  go_wp2_with fail
  refine (left2_any _ _ _).mono ?_; rintro e w5 ⟨rfl, hb5⟩; obtain ⟨hc5, hf5⟩ := bcell hb5; have hz5 := hb5.size
  try simp only [World.size_alloc] at hz5
  have hW5 : Below w.heap.size w w5 := (hW4).trans (hb5.mono (by have := (hW4).size; (try simp only [World.size_alloc]); omega))
  have lt_w_w5 : w.heap.size < w5.heap.size := by omega
  have lt_w3_w5 : w3.heap.size < w5.heap.size := by omega
  clear hb5
  rw [l1]
  have hcell : ∀ j, j < ys.length → w5.cell? ⟨b, off + j, none⟩ = some (.int .i64 (ys[j]?.getD 0)) := fun j hj => (hW5.cell (p := ⟨b, off + j, none⟩) hbw).trans (hc j hj)
  clear hc hc1 hf1 hc2 hf2 hc3 hf3 hc4 hf4 hc5 hf5 hz1 hz2 hz3 hz4 hz5 hW1 hW2 hW3 hW4
  have Hcell := Lib.hid hcell
  clear hcell
  go_wp2_with fail
  go_loop [9, 10] (fun l i => ∃ k : Nat, k ≤ ys.length ∧ i = .int .i64 k ∧ l = .int .i64 (lowest (g - s) (ys.take k))) (fun _ i => ys.length - (intOf i).toNat)
  case atStart => exact ⟨0, Nat.zero_le _, rfl, rfl⟩
  case round =>
    obtain ⟨k, hk, rfl, rfl⟩ := hrel
    by_cases hlt : k < ys.length
    · obtain ⟨x, hxe⟩ : ∃ x, x = ys[k]?.getD 0 := ⟨_, rfl⟩
      have hck := Hcell.out k hlt
      rw [← hxe] at hck
      have hnk := Hn.out x (by rw [hxe, List.getElem?_eq_getElem hlt]; simp)
      have dk : decide (x < n) = false := decide_eq_false (by omega)
      have hts := take_snoc ys k hlt
      have HS : Hid (lowest (g - s) (ys.take (k + 1)) = min (lowest (g - s) (ys.take k)) x) := Lib.hid (by rw [hts, lowest_snoc, hxe])
      clear hts hxe
      go_wp2
      all_goals
        go_round
        case rel => exact ⟨k + 1, by omega, by go_num, by rw [HS.out, Int.min_def]; split <;> first | rfl | (exact congrArg _ (by omega))⟩
        case measure => simp [intOf]; omega
    · obtain rfl : k = ys.length := by omega
      have hfin : lowest (g - s) (ys.take ys.length) = n := by rw [List.take_length]; exact HL.out
      rw [hfin]
      clear hfin
      go_wp2
      go_ret
      exact ⟨rfl, hW5⟩

set_option maxRecDepth 100000 in
set_option maxHeartbeats 4000000 in
theorem most_zero (g s : Int) (b off : Nat) (len cap : Nat) (zs ys : List Int) (w : World) (hz' : zs.length = len) (hlc : len ≤ cap) (hcm : cap ≤ maxLen) (hI : Ints w.heap.size w (.slice (some ⟨b, off, none⟩) len cap) zs) (h : rightB g s = true) (hm : mostR g s (fewOf zs) = 0) (he : sE g s 0 = 0) (hyl : ys.length = min len 20) (hHL : Hid (lowest (g - s) ys = 0)) (hbw : b < w.heap.size) (hc : ∀ j, j < ys.length → w.cell? ⟨b, off + j, none⟩ = some (.int .i64 (ys[j]?.getD 0))) :
    Calls Try.prog 7 #[.agg #[.int .i64 g, .int .i64 s], .slice (some ⟨b, off, none⟩) len cap] w fun e w' => e = .returned (.bool true) ∧ Below w.heap.size w w' := by
  have hI' := Lib.hid hI
  clear hI
  have l1 : (if rightB g s = true then g - s else 0) = g - s := by simp [h]
  have m1 := hm
  have m2 := he
  clear hm he
  have HL := hHL
  clear hHL
  go_enter Try.func7, Try.ntmps7
  go_wp2_with fail
  refine (shown_any _).mono ?_; rintro e w1 ⟨rfl, hb1⟩; obtain ⟨hc1, hf1⟩ := bcell hb1; have hz1 := hb1.size
  try simp only [World.size_alloc] at hz1
  have hW1 : Below w.heap.size w w1 := ((Below.refl w.heap.size w).alloc (by have := (Below.refl w.heap.size w).size; (try simp only [World.size_alloc]); omega) _).trans (hb1.mono (by have := (Below.refl w.heap.size w).size; (try simp only [World.size_alloc]); omega))
  have lt_w_w1 : w.heap.size < w1.heap.size := by omega
  clear hb1
  go_wp2_with fail
  refine (few_any _ _ _ _ hlc hcm).mono ?_; rintro e wf ⟨rfl, rfl⟩
  go_wp2_with fail
  refine (Most_any g s _ _ _ (fewOf zs) (by rw [fewOf_length]; omega) _ (((hI'.out.few hz').below hW1).mono hW1.size)).mono ?_; rintro e w2 ⟨rfl, hb2⟩; obtain ⟨hc2, hf2⟩ := bcell hb2; have hz2 := hb2.size
  try simp only [World.size_alloc] at hz2
  have hW2 : Below w.heap.size w w2 := (hW1).trans (hb2.mono (by have := (hW1).size; (try simp only [World.size_alloc]); omega))
  have lt_w_w2 : w.heap.size < w2.heap.size := by omega
  clear hb2
  rw [m1]
  go_wp2_with fail
  refine (Spend_any g s _ _).mono ?_; rintro e w3 ⟨rfl, hb3⟩; obtain ⟨hc3, hf3⟩ := bcell hb3; have hz3 := hb3.size
  try simp only [World.size_alloc] at hz3
  have hW3 : Below w.heap.size w w3 := (hW2).trans (hb3.mono (by have := (hW2).size; (try simp only [World.size_alloc]); omega))
  have lt_w_w3 : w.heap.size < w3.heap.size := by omega
  clear hb3
  rw [m2]
  go_wp2_with fail
  refine (right_any _ _ _).mono ?_; rintro e w4 ⟨rfl, hb4⟩; obtain ⟨hc4, hf4⟩ := bcell hb4; have hz4 := hb4.size
  try simp only [World.size_alloc] at hz4
  have hW4 : Below w.heap.size w w4 := ((hW3).alloc (by have := (hW3).size; (try simp only [World.size_alloc]); omega) _).trans (hb4.mono (by have := (hW3).size; (try simp only [World.size_alloc]); omega))
  have lt_w_w4 : w.heap.size < w4.heap.size := by omega
  have lt_w3_w4 : w3.heap.size < w4.heap.size := by omega
  clear hb4
  go_wp2_with fail
  refine (left2_any _ _ _).mono ?_; rintro e w5 ⟨rfl, hb5⟩; obtain ⟨hc5, hf5⟩ := bcell hb5; have hz5 := hb5.size
  try simp only [World.size_alloc] at hz5
  have hW5 : Below w.heap.size w w5 := (hW4).trans (hb5.mono (by have := (hW4).size; (try simp only [World.size_alloc]); omega))
  have lt_w_w5 : w.heap.size < w5.heap.size := by omega
  have lt_w3_w5 : w3.heap.size < w5.heap.size := by omega
  clear hb5
  rw [l1]
  have hcell : ∀ j, j < ys.length → w5.cell? ⟨b, off + j, none⟩ = some (.int .i64 (ys[j]?.getD 0)) := fun j hj => (hW5.cell (p := ⟨b, off + j, none⟩) hbw).trans (hc j hj)
  clear hc hc1 hf1 hc2 hf2 hc3 hf3 hc4 hf4 hc5 hf5 hz1 hz2 hz3 hz4 hz5 hW1 hW2 hW3 hW4
  have Hcell := Lib.hid hcell
  clear hcell
  go_wp2_with fail
  go_loop [9, 10] (fun l i => ∃ k : Nat, k ≤ ys.length ∧ i = .int .i64 k ∧ l = .int .i64 (lowest (g - s) (ys.take k))) (fun _ i => ys.length - (intOf i).toNat)
  case atStart => exact ⟨0, Nat.zero_le _, rfl, rfl⟩
  case round =>
    obtain ⟨k, hk, rfl, rfl⟩ := hrel
    by_cases hlt : k < ys.length
    · obtain ⟨x, hxe⟩ : ∃ x, x = ys[k]?.getD 0 := ⟨_, rfl⟩
      have hck := Hcell.out k hlt
      rw [← hxe] at hck
      have hts := take_snoc ys k hlt
      have HS : Hid (lowest (g - s) (ys.take (k + 1)) = min (lowest (g - s) (ys.take k)) x) := Lib.hid (by rw [hts, lowest_snoc, hxe])
      clear hts hxe
      go_wp2
      all_goals
        go_round
        case rel => exact ⟨k + 1, by omega, by go_num, by rw [HS.out, Int.min_def]; split <;> first | rfl | (exact congrArg _ (by omega))⟩
        case measure => simp [intOf]; omega
    · obtain rfl : k = ys.length := by omega
      have hfin : lowest (g - s) (ys.take ys.length) = 0 := by rw [List.take_length]; exact HL.out
      rw [hfin]
      clear hfin
      go_wp2
      go_ret
      exact ⟨rfl, hW5⟩

set_option maxRecDepth 100000 in
set_option maxHeartbeats 4000000 in
theorem most_below (g s L : Int) (b off : Nat) (len cap : Nat) (zs ys : List Int) (w : World) (hz' : zs.length = len) (hlc : len ≤ cap) (hcm : cap ≤ maxLen) (hI : Ints w.heap.size w (.slice (some ⟨b, off, none⟩) len cap) zs) (h : rightB g s = true) (hm : mostR g s (fewOf zs) = 0) (he : sE g s 0 = 0) (hyl : ys.length = min len 20) (hHL : Hid (lowest (g - s) ys = L)) (hbw : b < w.heap.size) (hc : ∀ j, j < ys.length → w.cell? ⟨b, off + j, none⟩ = some (.int .i64 (ys[j]?.getD 0))) (hL : L < 0) :
    Calls Try.prog 7 #[.agg #[.int .i64 g, .int .i64 s], .slice (some ⟨b, off, none⟩) len cap] w fun e w' => e = .returned (.bool true) ∧ Below w.heap.size w w' := by
  have hI' := Lib.hid hI
  clear hI
  have l1 : (if rightB g s = true then g - s else 0) = g - s := by simp [h]
  have m1 := hm
  have m2 := he
  clear hm he
  have HL := hHL
  have dL : decide (L < 0) = true := decide_eq_true hL
  have dL2 : ((0 : Int) == L) = false := by simp; omega
  clear hHL
  go_enter Try.func7, Try.ntmps7
  go_wp2_with fail
  refine (shown_any _).mono ?_; rintro e w1 ⟨rfl, hb1⟩; obtain ⟨hc1, hf1⟩ := bcell hb1; have hz1 := hb1.size
  try simp only [World.size_alloc] at hz1
  have hW1 : Below w.heap.size w w1 := ((Below.refl w.heap.size w).alloc (by have := (Below.refl w.heap.size w).size; (try simp only [World.size_alloc]); omega) _).trans (hb1.mono (by have := (Below.refl w.heap.size w).size; (try simp only [World.size_alloc]); omega))
  have lt_w_w1 : w.heap.size < w1.heap.size := by omega
  clear hb1
  go_wp2_with fail
  refine (few_any _ _ _ _ hlc hcm).mono ?_; rintro e wf ⟨rfl, rfl⟩
  go_wp2_with fail
  refine (Most_any g s _ _ _ (fewOf zs) (by rw [fewOf_length]; omega) _ (((hI'.out.few hz').below hW1).mono hW1.size)).mono ?_; rintro e w2 ⟨rfl, hb2⟩; obtain ⟨hc2, hf2⟩ := bcell hb2; have hz2 := hb2.size
  try simp only [World.size_alloc] at hz2
  have hW2 : Below w.heap.size w w2 := (hW1).trans (hb2.mono (by have := (hW1).size; (try simp only [World.size_alloc]); omega))
  have lt_w_w2 : w.heap.size < w2.heap.size := by omega
  clear hb2
  rw [m1]
  go_wp2_with fail
  refine (Spend_any g s _ _).mono ?_; rintro e w3 ⟨rfl, hb3⟩; obtain ⟨hc3, hf3⟩ := bcell hb3; have hz3 := hb3.size
  try simp only [World.size_alloc] at hz3
  have hW3 : Below w.heap.size w w3 := (hW2).trans (hb3.mono (by have := (hW2).size; (try simp only [World.size_alloc]); omega))
  have lt_w_w3 : w.heap.size < w3.heap.size := by omega
  clear hb3
  rw [m2]
  go_wp2_with fail
  refine (right_any _ _ _).mono ?_; rintro e w4 ⟨rfl, hb4⟩; obtain ⟨hc4, hf4⟩ := bcell hb4; have hz4 := hb4.size
  try simp only [World.size_alloc] at hz4
  have hW4 : Below w.heap.size w w4 := ((hW3).alloc (by have := (hW3).size; (try simp only [World.size_alloc]); omega) _).trans (hb4.mono (by have := (hW3).size; (try simp only [World.size_alloc]); omega))
  have lt_w_w4 : w.heap.size < w4.heap.size := by omega
  have lt_w3_w4 : w3.heap.size < w4.heap.size := by omega
  clear hb4
  go_wp2_with fail
  refine (left2_any _ _ _).mono ?_; rintro e w5 ⟨rfl, hb5⟩; obtain ⟨hc5, hf5⟩ := bcell hb5; have hz5 := hb5.size
  try simp only [World.size_alloc] at hz5
  have hW5 : Below w.heap.size w w5 := (hW4).trans (hb5.mono (by have := (hW4).size; (try simp only [World.size_alloc]); omega))
  have lt_w_w5 : w.heap.size < w5.heap.size := by omega
  have lt_w3_w5 : w3.heap.size < w5.heap.size := by omega
  clear hb5
  rw [l1]
  have hcell : ∀ j, j < ys.length → w5.cell? ⟨b, off + j, none⟩ = some (.int .i64 (ys[j]?.getD 0)) := fun j hj => (hW5.cell (p := ⟨b, off + j, none⟩) hbw).trans (hc j hj)
  clear hc hc1 hf1 hc2 hf2 hc3 hf3 hc4 hf4 hc5 hf5 hz1 hz2 hz3 hz4 hz5 hW1 hW2 hW3 hW4
  have Hcell := Lib.hid hcell
  clear hcell
  go_wp2_with fail
  go_loop [9, 10] (fun l i => ∃ k : Nat, k ≤ ys.length ∧ i = .int .i64 k ∧ l = .int .i64 (lowest (g - s) (ys.take k))) (fun _ i => ys.length - (intOf i).toNat)
  case atStart => exact ⟨0, Nat.zero_le _, rfl, rfl⟩
  case round =>
    obtain ⟨k, hk, rfl, rfl⟩ := hrel
    by_cases hlt : k < ys.length
    · obtain ⟨x, hxe⟩ : ∃ x, x = ys[k]?.getD 0 := ⟨_, rfl⟩
      have hck := Hcell.out k hlt
      rw [← hxe] at hck
      have hts := take_snoc ys k hlt
      have HS : Hid (lowest (g - s) (ys.take (k + 1)) = min (lowest (g - s) (ys.take k)) x) := Lib.hid (by rw [hts, lowest_snoc, hxe])
      clear hts hxe
      go_wp2
      all_goals
        go_round
        case rel => exact ⟨k + 1, by omega, by go_num, by rw [HS.out, Int.min_def]; split <;> first | rfl | (exact congrArg _ (by omega))⟩
        case measure => simp [intOf]; omega
    · obtain rfl : k = ys.length := by omega
      have hfin : lowest (g - s) (ys.take ys.length) = L := by rw [List.take_length]; exact HL.out
      rw [hfin]
      clear hfin
      go_wp2
      go_ret
      exact ⟨rfl, hW5⟩

set_option maxRecDepth 100000 in
set_option maxHeartbeats 4000000 in
theorem most_empty (g s : Int) (a : Option Addr) (cap : Nat) (zs : List Int) (w : World) (hz' : zs.length = 0) (hcm : cap ≤ maxLen) (hI : Ints w.heap.size w (.slice a 0 cap) zs) (h : rightB g s = true) (hm : mostR g s (fewOf zs) = g - s) (he : sE g s (g - s) = 0) :
    Calls Try.prog 7 #[.agg #[.int .i64 g, .int .i64 s], .slice a 0 cap] w fun e w' => e = .returned (.bool true) ∧ Below w.heap.size w w' := by
  have hI' := Lib.hid hI
  clear hI
  have l1 : (if rightB g s = true then g - s else 0) = g - s := by simp [h]
  have m1 := hm
  have m2 := he
  clear hm he
  go_enter Try.func7, Try.ntmps7
  go_wp2_with fail
  refine (shown_any _).mono ?_; rintro e w1 ⟨rfl, hb1⟩; obtain ⟨hc1, hf1⟩ := bcell hb1; have hz1 := hb1.size
  try simp only [World.size_alloc] at hz1
  have hW1 : Below w.heap.size w w1 := ((Below.refl w.heap.size w).alloc (by have := (Below.refl w.heap.size w).size; (try simp only [World.size_alloc]); omega) _).trans (hb1.mono (by have := (Below.refl w.heap.size w).size; (try simp only [World.size_alloc]); omega))
  have lt_w_w1 : w.heap.size < w1.heap.size := by omega
  clear hb1
  go_wp2_with fail
  refine (few_any _ _ _ _ (Nat.zero_le _) hcm).mono ?_; rintro e wf ⟨rfl, rfl⟩
  go_wp2_with fail
  refine (Most_any g s _ _ _ (fewOf zs) (by rw [fewOf_length]; omega) _ (((hI'.out.few hz').below hW1).mono hW1.size)).mono ?_; rintro e w2 ⟨rfl, hb2⟩; obtain ⟨hc2, hf2⟩ := bcell hb2; have hz2 := hb2.size
  try simp only [World.size_alloc] at hz2
  have hW2 : Below w.heap.size w w2 := (hW1).trans (hb2.mono (by have := (hW1).size; (try simp only [World.size_alloc]); omega))
  have lt_w_w2 : w.heap.size < w2.heap.size := by omega
  clear hb2
  rw [m1]
  go_wp2_with fail
  refine (Spend_any g s _ _).mono ?_; rintro e w3 ⟨rfl, hb3⟩; obtain ⟨hc3, hf3⟩ := bcell hb3; have hz3 := hb3.size
  try simp only [World.size_alloc] at hz3
  have hW3 : Below w.heap.size w w3 := (hW2).trans (hb3.mono (by have := (hW2).size; (try simp only [World.size_alloc]); omega))
  have lt_w_w3 : w.heap.size < w3.heap.size := by omega
  clear hb3
  rw [m2]
  go_wp2_with fail
  refine (right_any _ _ _).mono ?_; rintro e w4 ⟨rfl, hb4⟩; obtain ⟨hc4, hf4⟩ := bcell hb4; have hz4 := hb4.size
  try simp only [World.size_alloc] at hz4
  have hW4 : Below w.heap.size w w4 := ((hW3).alloc (by have := (hW3).size; (try simp only [World.size_alloc]); omega) _).trans (hb4.mono (by have := (hW3).size; (try simp only [World.size_alloc]); omega))
  have lt_w_w4 : w.heap.size < w4.heap.size := by omega
  have lt_w3_w4 : w3.heap.size < w4.heap.size := by omega
  clear hb4
  go_wp2_with fail
  refine (left2_any _ _ _).mono ?_; rintro e w5 ⟨rfl, hb5⟩; obtain ⟨hc5, hf5⟩ := bcell hb5; have hz5 := hb5.size
  try simp only [World.size_alloc] at hz5
  have hW5 : Below w.heap.size w w5 := (hW4).trans (hb5.mono (by have := (hW4).size; (try simp only [World.size_alloc]); omega))
  have lt_w_w5 : w.heap.size < w5.heap.size := by omega
  have lt_w3_w5 : w3.heap.size < w5.heap.size := by omega
  clear hb5
  rw [l1]
  go_wp2_with fail
  go_loop [9, 10] (fun l i => i = .int .i64 0 ∧ l = .int .i64 (g - s)) (fun _ _ => 0)
  case atStart => exact ⟨rfl, rfl⟩
  case round =>
    obtain ⟨rfl, rfl⟩ := hrel
    go_wp2
    go_ret
    exact ⟨rfl, hW5⟩

theorem most_walk (g s : Int) (a : Option Addr) (len cap : Nat) (zs : List Int) (w : World) (hz' : zs.length = len) (_hz : ∀ x ∈ zs, -9223372036854775808 ≤ x ∧ x ≤ 9223372036854775807) (hlc : len ≤ cap) (hcm : cap ≤ maxLen) (hI : Ints w.heap.size w (.slice a len cap) zs) :
    Calls Try.prog 7 #[.agg #[.int .i64 g, .int .i64 s], .slice a len cap] w fun e w' => e = .returned (.bool true) ∧ Below w.heap.size w w' := by
  cases h : rightB g s
  · exact most_no g s a len cap zs w hz' hlc hcm hI h
  · obtain ⟨b1, b2, b3, b4⟩ := bnd_of h
    have hsp : ∀ n, 0 ≤ n → n ≤ g - s → sE g s n = 0 := fun n h0 h1 => by
      have h2 : rightB g (s + n) = true := right_of (by omega)
      unfold sE
      rw [if_neg (by rw [h]; simp; omega), if_neg (by rw [h2]; simp; omega)]
    rcases hI with ⟨a', c', e, rfl⟩ | ⟨b, off, cap', e, hb, hc⟩
    · obtain ⟨rfl, rfl, rfl⟩ : a = a' ∧ len = 0 ∧ cap = c' := by simpa using e
      exact most_empty g s a cap [] w rfl hcm (.inl ⟨_, _, rfl, rfl⟩) h (by unfold mostR fewOf; rw [if_pos ⟨h, by simp⟩]; rfl) (hsp _ (by omega) (by omega))
    · obtain ⟨rfl, rfl, rfl⟩ : a = some ⟨b, off, none⟩ ∧ len = zs.length ∧ cap = cap' := by simpa using e
      have hI : Ints w.heap.size w (.slice (some ⟨b, off, none⟩) zs.length cap) zs := .inr ⟨b, off, cap, rfl, hb, hc⟩
      have hyl := fewOf_length zs
      have hc' : ∀ j, j < (fewOf zs).length → w.cell? ⟨b, off + j, none⟩ = some (.int .i64 ((fewOf zs)[j]?.getD 0)) := fun j hj => by
        rw [hyl] at hj
        rw [hc j (by omega)]
        unfold fewOf
        rw [List.getElem?_take_of_lt (by omega)]
      by_cases hall : ∀ x ∈ fewOf zs, 0 ≤ x
      · have hm : mostR g s (fewOf zs) = lowest (g - s) (fewOf zs) := by unfold mostR; rw [if_pos ⟨h, hall⟩]
        have h0 := lowest_nonneg (g - s) (fewOf zs) (by omega) hall
        have h1 := lowest_le_start (g - s) (fewOf zs)
        by_cases hp : 0 < lowest (g - s) (fewOf zs)
        · exact most_pos g s _ _ b off zs.length cap zs (fewOf zs) w rfl hlc hcm hI h hm (hsp _ h0 h1) hyl (Lib.hid rfl) hb hc' hp (lowest_le _ _) rfl
        · have hz : lowest (g - s) (fewOf zs) = 0 := by omega
          exact most_zero g s b off zs.length cap zs (fewOf zs) w rfl hlc hcm hI h (hm.trans hz) (hsp _ (by omega) (by omega)) hyl (Lib.hid hz) hb hc'
      · exact most_below g s _ b off zs.length cap zs (fewOf zs) w rfl hlc hcm hI h (by unfold mostR; rw [if_neg (fun x => hall x.2)]) (hsp _ (by omega) (by omega)) hyl (Lib.hid rfl) hb hc' (lowest_neg _ _ hall)

end Go.Proofs.Ytbdklcdecknceaa

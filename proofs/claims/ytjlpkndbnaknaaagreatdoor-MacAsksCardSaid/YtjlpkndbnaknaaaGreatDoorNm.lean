/- The document's own Num. -/
import Derived.Test.YtjlpkndbnaknaaaGreatDoorCg
import Derived.Test.YtjlpkndbnaknaaaGreatDoorHeld
namespace Go.Proofs.YtjlpkndbnaknaaaGreatDoor
open Go.RowKit Go.Shelf
attribute [local go_sem] Oper.semAt_some

theorem dig_at : ∀ d : Nat, d < 10 → (⟨#[48, 49, 50, 51, 52, 53, 54, 55, 56, 57]⟩ : ByteArray).extract d (d + 1) = ⟨#[UInt8.ofNat (48 + d)]⟩ := by decide +kernel
theorem itoa_one (v : Nat) (h : v < 10) : Lib.itoa (v : Int) = [UInt8.ofNat (48 + v)] := by rw [Lib.itoa_nonneg, Lib.decDigits_one h]
theorem itoa_next (v : Nat) (h : 10 ≤ v) : Lib.itoa (v : Int) = Lib.itoa ((v / 10 : Nat) : Int) ++ [UInt8.ofNat (48 + v % 10)] := by
  rw [Lib.itoa_nonneg, Lib.itoa_nonneg, Lib.decDigits, dif_neg (by omega)]
theorem bytes_app (a b : List UInt8) : (⟨a.toArray⟩ : ByteArray) ++ (⟨b.toArray⟩ : ByteArray) = ⟨(a ++ b).toArray⟩ := by
  have h : ((⟨a.toArray⟩ : ByteArray) ++ (⟨b.toArray⟩ : ByteArray)).data = a.toArray ++ b.toArray := by simp
  rw [List.append_toArray] at h
  exact ByteArray.ext h
set_option maxRecDepth 100000 in
set_option maxHeartbeats 4000000 in
theorem num_1 (v : Nat) (h : v < 10) (w : World) : Calls Tryz.prog 30 #[.int .i64 (v : Int)] w fun x w' => x = .returned (.string (itB (v : Int))) ∧ Below w.heap.size w w' := by
  have e : itB (v : Int) = ⟨#[UInt8.ofNat (48 + v)]⟩ := by unfold itB; rw [itoa_one v h]
  have e2 := dig_at v h
  have h0 : (v : Int) < 10 := by omega
  rw [e]
  generalize UInt8.ofNat (48 + v) = c at *
  clear e
  go_enter Tryz.func30, Tryz.ntmps30
  go_wp2
  go_ret
  exact ⟨rfl, Below.refl _ _⟩
set_option maxRecDepth 100000 in
set_option maxHeartbeats 4000000 in
theorem num_step (v m q : Nat) (h0 : 10 ≤ v) (h1 : v ≤ 2147483647) (hm : v / 10 = m) (hq : v % 10 = q) (t : ByteArray) (ht : t.size ≤ 21) (HM' : ∀ W, Calls Tryz.prog 30 #[.int .i64 (m : Int)] W fun x w' => x = .returned (.string t) ∧ Below W.heap.size W w') (w : World) :
    Calls Tryz.prog 30 #[.int .i64 (v : Int)] w fun x w' => x = .returned (.string (t ++ (⟨#[UInt8.ofNat (48 + q)]⟩ : ByteArray))) ∧ Below w.heap.size w w' := by
  have HM := Lib.hid HM'
  have e2 := dig_at q (by omega)
  have g1 : ((v : Int)).tdiv 10 = (m : Int) := by rw [Int.tdiv_eq_ediv_of_nonneg (by omega)]; omega
  have g2 : ((v : Int)).tmod 10 = (q : Int) := by rw [Int.tmod_eq_emod_of_nonneg (by omega)]; omega
  have g3 : ¬ (v : Int) < 10 := by omega
  have g4 : q < 10 := by omega
  have m1 : ¬ 9223372036854775807 < t.size + 1 := by omega
  generalize UInt8.ofNat (48 + q) = c at *
  have gw : IntKind.i64.wrap ((q : Int) + 1) = (q : Int) + 1 := IntWalk.i64_in _ (by omega)
  have gm : IntKind.i64.wrap (m : Int) = (m : Int) := IntWalk.i64_in _ (by omega)
  have gz : (q : Int) + 1 ≤ 10 := by omega
  have ga : (0 : Int) ≤ (q : Int) + 1 := by omega
  have gb : (q : Int) ≤ (q : Int) + 1 := by omega
  clear HM' hm hq
  go_enter Tryz.func30, Tryz.ntmps30
  go_wp2_with fail
  have u0 : Below w.heap.size w w := Below.refl _ w
  have MK := Lib.hid (show ∀ w', Below w.heap.size w w' → Below w.heap.size w w' from fun _ h => h)
  refine wp_region_held_drew (S := (fun w' => Below w.heap.size w w')) (by kernel_rfl) ?_ (fun hHeld => ?_)
  · (first | with_reducible assumption | exact MK.out _ (by with_reducible assumption) | exact MK.out _ (below_drew (by with_reducible assumption)))
  refine takeH (i := 0) (some 9) (v := ?_) rfl rfl (by kernel_rfl) (by kernel_rfl) (by kernel_rfl) (fun _ _ _ h => h) (Or.inl ⟨by rfl, ?hy0⟩) hHeld ?rest0
  case hy0 => (intro w hSw; (try dsimp only at hSw); go_simp; (try with_reducible rfl))
  try simp only [Act.put, List.setIfInBounds_toArray, List.set_cons_zero, List.set_cons_succ]
  refine takeH (i := 1) (some 10) (v := ?_) rfl rfl (by kernel_rfl) (by kernel_rfl) (by kernel_rfl) (fun _ _ _ h => h) (Or.inl ⟨by rfl, ?hy1⟩) hHeld ?rest1
  case hy1 => (intro w hSw; (try dsimp only at hSw); go_simp; (try with_reducible rfl))
  try simp only [Act.put, List.setIfInBounds_toArray, List.set_cons_zero, List.set_cons_succ]
  refine takeH (i := 3) (some 12) (v := ?_) rfl rfl (by kernel_rfl) (by kernel_rfl) (by kernel_rfl) (fun _ _ _ h => h) (Or.inl ⟨by rfl, ?hy3⟩) hHeld ?rest3
  case hy3 => (intro w hSw; (try dsimp only at hSw); go_simp; (try with_reducible rfl))
  try simp only [Act.put, List.setIfInBounds_toArray, List.set_cons_zero, List.set_cons_succ]
  refine takeH (i := 4) (some 13) (v := ?_) rfl rfl (by kernel_rfl) (by kernel_rfl) (by kernel_rfl) (fun _ _ _ h => h) (Or.inl ⟨by rfl, ?hy4⟩) hHeld ?rest4
  case hy4 => (intro w hSw; (try dsimp only at hSw); go_simp; (try with_reducible rfl))
  try simp only [Act.put, List.setIfInBounds_toArray, List.set_cons_zero, List.set_cons_succ]
  refine takeH (i := 5) (some 14) (v := ?_) rfl rfl (by kernel_rfl) (by kernel_rfl) (by kernel_rfl) (fun _ _ _ h => h) (Or.inl ⟨by rfl, ?hy5⟩) hHeld ?rest5
  case hy5 => (intro w hSw; (try dsimp only at hSw); go_simp; (try with_reducible rfl))
  try simp only [Act.put, List.setIfInBounds_toArray, List.set_cons_zero, List.set_cons_succ]
  refine takeH (i := 6) (some 15) (v := ?_) rfl rfl (by kernel_rfl) (by kernel_rfl) (by kernel_rfl) (fun _ _ _ h => h) (Or.inl ⟨by rfl, ?hy6⟩) hHeld ?rest6
  case hy6 => (intro w hSw; (try dsimp only at hSw); go_simp; (try with_reducible rfl))
  try simp only [Act.put, List.setIfInBounds_toArray, List.set_cons_zero, List.set_cons_succ]
  refine takeH (i := 7) (some 16) (v := ?_) rfl rfl (by kernel_rfl) (by kernel_rfl) (by kernel_rfl) (fun _ _ _ h => h) (Or.inl ⟨by rfl, ?hy7⟩) hHeld ?rest7
  case hy7 => (intro w hSw; (try dsimp only at hSw); go_simp; (try with_reducible rfl))
  try simp only [Act.put, List.setIfInBounds_toArray, List.set_cons_zero, List.set_cons_succ]
  refine takeH (i := 8) (some 17) (v := ?_) rfl rfl (by kernel_rfl) (by kernel_rfl) (by kernel_rfl) (fun _ _ _ h => h) (Or.inl ⟨by rfl, ?hy8⟩) hHeld ?rest8
  case hy8 => (intro w hSw; (try dsimp only at hSw); go_simp; (try with_reducible rfl))
  try simp only [Act.put, List.setIfInBounds_toArray, List.set_cons_zero, List.set_cons_succ]
  refine wpAnyH_ready (rs := [2]) (by kernel_rfl) (by simp) ?_
  refine AllReadyH.cons rfl (fun K hK => ?_) AllReadyH.nil
  go_simp
  with_reducible refine (HM.out _).mono ?_; rintro e wn ⟨rfl, pB⟩; have sB := btr hHeld pB; clear pB hHeld
  refine hK.out _ _ ?_ (fun hHeld => ?_)
  · (first | with_reducible assumption | exact MK.out _ (by with_reducible assumption) | exact MK.out _ (below_drew (by with_reducible assumption)))
  clear hK K
  try simp only [Act.put, List.setIfInBounds_toArray, List.set_cons_zero, List.set_cons_succ]
  refine takeH (i := 9) (some 18) (v := ?_) rfl rfl (by kernel_rfl) (by kernel_rfl) (by kernel_rfl) (fun _ _ _ h => h) (Or.inl ⟨by rfl, ?hy9⟩) hHeld ?rest9
  case hy9 => (intro w hSw; (try dsimp only at hSw); go_simp; (try with_reducible rfl))
  try simp only [Act.put, List.setIfInBounds_toArray, List.set_cons_zero, List.set_cons_succ]
  refine takeH (i := 10) (some 2) (v := ?_) rfl rfl (by kernel_rfl) (by kernel_rfl) (by kernel_rfl) (fun _ _ _ h => h) (Or.inl ⟨by rfl, ?hy10⟩) hHeld ?rest10
  case hy10 => (intro w hSw; (try dsimp only at hSw); go_simp; (try with_reducible rfl))
  try simp only [Act.put, List.setIfInBounds_toArray, List.set_cons_zero, List.set_cons_succ]
  refine wpAnyH_done (by kernel_rfl) ?_ _
  go_wp2
  exact bodyPost_ret (v := .string (t ++ (⟨#[c]⟩ : ByteArray))) (by simp [results, Tryz.results30, go_sem]) rfl ⟨rfl, by first | exact hHeld | exact below_drew hHeld⟩
theorem itB_next (v : Nat) (h : 10 ≤ v) : itB (v : Int) = itB ((v / 10 : Nat) : Int) ++ (⟨#[UInt8.ofNat (48 + v % 10)]⟩ : ByteArray) := by
  unfold itB
  rw [itoa_next v h, show (⟨#[UInt8.ofNat (48 + v % 10)]⟩ : ByteArray) = ⟨([UInt8.ofNat (48 + v % 10)]).toArray⟩ from rfl, bytes_app]
theorem num_c (v : Nat) : v ≤ 2147483647 → ∀ w : World, Calls Tryz.prog 30 #[.int .i64 (v : Int)] w fun x w' => x = .returned (.string (itB (v : Int))) ∧ Below w.heap.size w w' := by
  induction v using Nat.strongRecOn with
  | ind v ih =>
    intro h w
    by_cases h1 : v < 10
    · exact num_1 v h1 w
    · rw [itB_next v (by omega)]
      exact num_step v (v / 10) (v % 10) (by omega) h rfl rfl _ (itB_size _ (by omega) (by omega)) (fun W => ih (v / 10) (by omega) (by omega) W) w
end Go.Proofs.YtjlpkndbnaknaaaGreatDoor

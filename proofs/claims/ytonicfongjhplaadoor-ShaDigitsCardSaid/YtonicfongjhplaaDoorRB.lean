/- the document's own Hex. -/
import Derived.Test.YtonicfongjhplaaDoorK
namespace Go.Proofs.YtonicfongjhplaaDoor
open Go.RowKit Go.Shelf
attribute [local go_sem] Oper.semAt_some

theorem dig_one (p : Nat) (h : p < 16) : (⟨#[48, 49, 50, 51, 52, 53, 54, 55, 56, 57, 97, 98, 99, 100, 101, 102]⟩ : ByteArray).extract p (p + 1) = ofL [digC p] := by
  apply bL_inj
  have : ∀ q : Fin 16, bL ((⟨#[48, 49, 50, 51, 52, 53, 54, 55, 56, 57, 97, 98, 99, 100, 101, 102]⟩ : ByteArray).extract q.val (q.val + 1)) = bL (ofL [digC q.val]) := by decide +kernel
  exact this ⟨p, h⟩
set_option maxRecDepth 100000 in
set_option maxHeartbeats 8000000 in
theorem rHex_c (s : ByteArray) (hs : s.size ≤ 100000) (w : World) : Calls Tryd.prog 18 #[.string s] w fun r w' => r = .returned (.string (ofL (hexL (bL s)))) ∧ Below w.heap.size w w' := by
  go_enter Tryd.func18, Tryd.ntmps18
  go_wp2
  have HX := Lib.hid (fun p h => dig_one p h)
  obtain ⟨D, hD⟩ : ∃ D : ByteArray, D = ⟨#[48, 49, 50, 51, 52, 53, 54, 55, 56, 57, 97, 98, 99, 100, 101, 102]⟩ := ⟨_, rfl⟩
  have HDz := Lib.hid (show D.size = 16 by rw [hD]; rfl)
  rw [← hD] at HX
  rw [← hD]
  clear hD
  go_loopw [4, 5] (fun o i wr => ∃ k : Nat, k ≤ s.size ∧ i = .int .i64 (k : Int) ∧ (∃ O : ByteArray, o = .string O ∧ Hid (O = ofL (hexL ((bL s).take k)))) ∧ Hid (Below w.heap.size w wr)) (fun _ i _ => s.size - (intOf i).toNat)
  case atStart => exact ⟨0, by omega, rfl, ⟨_, rfl, Lib.hid rfl⟩, Lib.hid (Below.refl _ _)⟩
  case round =>
    obtain ⟨k, hk, rfl, ⟨O, rfl, hO⟩, hbk⟩ := hrel
    by_cases hlt : k < s.size
    · have hlt' : (k : Int) < (s.size : Int) := by omega
      have HT := Lib.hid (hexL_take s k hlt)
      have hv := (s[k]'hlt).toNat_lt
      have hOz : O.size = 2 * k := by rw [hO.out, ofL_size, hexL_length, List.length_take, bL_length]; omega
      obtain ⟨v, hsv⟩ : ∃ v, (s[k]'hlt).toNat = v := ⟨_, rfl⟩
      rw [hsv] at HT hv
      obtain ⟨p, hp⟩ : ∃ p, v / 16 = p := ⟨_, rfl⟩
      obtain ⟨q, hq⟩ : ∃ q, v % 16 = q := ⟨_, rfl⟩
      rw [hp, hq] at HT
      have hp16 : p < 16 := by omega
      have hq16 : q < 16 := by omega
      have e1 : (v : Int).tdiv 16 = (p : Int) := by rw [Int.tdiv_eq_ediv_of_nonneg (by omega)]; omega
      have e2 : (v : Int).tmod 16 = (q : Int) := by rw [Int.tmod_eq_emod_of_nonneg (by omega)]; omega
      have x1 := HX.out p hp16
      have x2 := HX.out q hq16
      have HO := Lib.hid (show ofL (hexL ((bL s).take (k + 1))) = O ++ ofL [digC p] ++ ofL [digC q] by rw [HT.out, ofL_append, hO.out, show [digC p, digC q] = [digC p] ++ [digC q] from rfl, ofL_append, ByteArray.append_assoc])
      have z1 : (ofL [digC p]).size = 1 := ofL_size _
      have z2 : (ofL [digC q]).size = 1 := ofL_size _
      obtain ⟨A1, hA1⟩ : ∃ A, ofL [digC p] = A := ⟨_, rfl⟩
      obtain ⟨A2, hA2⟩ : ∃ A, ofL [digC q] = A := ⟨_, rfl⟩
      rw [hA1] at x1 HO z1
      rw [hA2] at x2 HO z2
      clear hA1 hA2
      have n1 : ¬ 9223372036854775807 < O.size + A1.size := by omega
      have n2 : ¬ 9223372036854775807 < O.size + A1.size + A2.size := by omega
      have hDz := HDz.out
      have b1 : (0 : Int) ≤ (p : Int) ∧ (p : Int) ≤ (p : Int) + 1 ∧ (p : Int) + 1 ≤ (D.size : Int) := by omega
      have b2 : (0 : Int) ≤ (q : Int) ∧ (q : Int) ≤ (q : Int) + 1 ∧ (q : Int) + 1 ≤ (D.size : Int) := by omega
      have b3 : (p : Int) + 1 ≤ (D.size : Int) := by omega
      have b4 : (q : Int) + 1 ≤ (D.size : Int) := by omega
      have b5 : (p : Int) ≤ (p : Int) + 1 := by omega
      have b6 : (q : Int) ≤ (q : Int) + 1 := by omega
      have b7 : p + 1 ≤ D.size := by omega
      have b8 : q + 1 ≤ D.size := by omega
      clear hp hq z1 z2 hOz hDz
      have WW : (IntKind.i64.wrap (v : Int) = (v : Int) ∧ wrap64 (v : Int) = (v : Int)) ∧ (IntKind.i64.wrap (p : Int) = (p : Int) ∧ wrap64 (p : Int) = (p : Int) ∧ IntKind.i64.wrap ((p : Int) + 1) = (p : Int) + 1) ∧ (IntKind.i64.wrap (q : Int) = (q : Int) ∧ IntKind.i64.wrap ((q : Int) + 1) = (q : Int) + 1) :=
        ⟨⟨IntWalk.i64_in _ (by omega), IntWalk.wrap64_in _ (by omega)⟩, ⟨IntWalk.i64_in _ (by omega), IntWalk.wrap64_in _ (by omega), IntWalk.i64_in _ (by omega)⟩, ⟨IntWalk.i64_in _ (by omega), IntWalk.i64_in _ (by omega)⟩⟩
      obtain ⟨⟨e3, e3'⟩, ⟨e4, e4', e5⟩, ⟨e6, e7⟩⟩ := WW
      go_wp2_with fail
      refine wp_region_held_drew (S := (fun _ => True)) (by kernel_rfl) ?_ (fun hHeld => ?_)
      · exact trivial
      refine takeH (i := 0) (some 24) (v := ?_) rfl rfl (by kernel_rfl) (by kernel_rfl) (by kernel_rfl) (fun _ _ _ h => h) (Or.inl ⟨by rfl, ?hyH0⟩) hHeld ?restH0
      case hyH0 => (intro w hSw; (try dsimp only at hSw); go_simp; (try with_reducible rfl))
      try simp only [Act.put, List.setIfInBounds_toArray, List.set_cons_zero, List.set_cons_succ]
      refine takeH (i := 1) (some 25) (v := ?_) rfl rfl (by kernel_rfl) (by kernel_rfl) (by kernel_rfl) (fun _ _ _ h => h) (Or.inl ⟨by rfl, ?hyH1⟩) hHeld ?restH1
      case hyH1 => (intro w hSw; (try dsimp only at hSw); go_simp; (try with_reducible rfl))
      try simp only [Act.put, List.setIfInBounds_toArray, List.set_cons_zero, List.set_cons_succ]
      refine takeH (i := 2) (some 26) (v := ?_) rfl rfl (by kernel_rfl) (by kernel_rfl) (by kernel_rfl) (fun _ _ _ h => h) (Or.inl ⟨by rfl, ?hyH2⟩) hHeld ?restH2
      case hyH2 => (intro w hSw; (try dsimp only at hSw); go_simp; (try with_reducible rfl))
      try simp only [Act.put, List.setIfInBounds_toArray, List.set_cons_zero, List.set_cons_succ]
      refine takeH (i := 3) (some 27) (v := ?_) rfl rfl (by kernel_rfl) (by kernel_rfl) (by kernel_rfl) (fun _ _ _ h => h) (Or.inl ⟨by rfl, ?hyH3⟩) hHeld ?restH3
      case hyH3 => (intro w hSw; (try dsimp only at hSw); go_simp; (try with_reducible rfl))
      try simp only [Act.put, List.setIfInBounds_toArray, List.set_cons_zero, List.set_cons_succ]
      refine takeH (i := 4) (some 28) (v := ?_) rfl rfl (by kernel_rfl) (by kernel_rfl) (by kernel_rfl) (fun _ _ _ h => h) (Or.inl ⟨by rfl, ?hyH4⟩) hHeld ?restH4
      case hyH4 => (intro w hSw; (try dsimp only at hSw); go_simp; (try with_reducible rfl))
      try simp only [Act.put, List.setIfInBounds_toArray, List.set_cons_zero, List.set_cons_succ]
      refine takeH (i := 5) (some 29) (v := ?_) rfl rfl (by kernel_rfl) (by kernel_rfl) (by kernel_rfl) (fun _ _ _ h => h) (Or.inl ⟨by rfl, ?hyH5⟩) hHeld ?restH5
      case hyH5 => (intro w hSw; (try dsimp only at hSw); go_simp; (try with_reducible rfl))
      try simp only [Act.put, List.setIfInBounds_toArray, List.set_cons_zero, List.set_cons_succ]
      refine takeH (i := 6) (some 30) (v := ?_) rfl rfl (by kernel_rfl) (by kernel_rfl) (by kernel_rfl) (fun _ _ _ h => h) (Or.inl ⟨by rfl, ?hyH6⟩) hHeld ?restH6
      case hyH6 => (intro w hSw; (try dsimp only at hSw); go_simp; (try with_reducible rfl))
      try simp only [Act.put, List.setIfInBounds_toArray, List.set_cons_zero, List.set_cons_succ]
      refine takeH (i := 7) (some 31) (v := ?_) rfl rfl (by kernel_rfl) (by kernel_rfl) (by kernel_rfl) (fun _ _ _ h => h) (Or.inl ⟨by rfl, ?hyH7⟩) hHeld ?restH7
      case hyH7 => (intro w hSw; (try dsimp only at hSw); go_simp; (try with_reducible rfl))
      try simp only [Act.put, List.setIfInBounds_toArray, List.set_cons_zero, List.set_cons_succ]
      refine takeH (i := 8) (some 32) (v := ?_) rfl rfl (by kernel_rfl) (by kernel_rfl) (by kernel_rfl) (fun _ _ _ h => h) (Or.inl ⟨by rfl, ?hyH8⟩) hHeld ?restH8
      case hyH8 => (intro w hSw; (try dsimp only at hSw); go_simp; (try with_reducible rfl))
      try simp only [Act.put, List.setIfInBounds_toArray, List.set_cons_zero, List.set_cons_succ]
      refine takeH (i := 9) (some 33) (v := ?_) rfl rfl (by kernel_rfl) (by kernel_rfl) (by kernel_rfl) (fun _ _ _ h => h) (Or.inl ⟨by rfl, ?hyH9⟩) hHeld ?restH9
      case hyH9 => (intro w hSw; (try dsimp only at hSw); go_simp; (try with_reducible rfl))
      try simp only [Act.put, List.setIfInBounds_toArray, List.set_cons_zero, List.set_cons_succ]
      refine takeH (i := 10) (some 34) (v := ?_) rfl rfl (by kernel_rfl) (by kernel_rfl) (by kernel_rfl) (fun _ _ _ h => h) (Or.inl ⟨by rfl, ?hyH10⟩) hHeld ?restH10
      case hyH10 => (intro w hSw; (try dsimp only at hSw); go_simp; (try with_reducible rfl))
      try simp only [Act.put, List.setIfInBounds_toArray, List.set_cons_zero, List.set_cons_succ]
      refine takeH (i := 11) (some 35) (v := ?_) rfl rfl (by kernel_rfl) (by kernel_rfl) (by kernel_rfl) (fun _ _ _ h => h) (Or.inl ⟨by rfl, ?hyH11⟩) hHeld ?restH11
      case hyH11 => (intro w hSw; (try dsimp only at hSw); go_simp; (try with_reducible rfl))
      try simp only [Act.put, List.setIfInBounds_toArray, List.set_cons_zero, List.set_cons_succ]
      refine takeH (i := 12) (some 36) (v := ?_) rfl rfl (by kernel_rfl) (by kernel_rfl) (by kernel_rfl) (fun _ _ _ h => h) (Or.inl ⟨by rfl, ?hyH12⟩) hHeld ?restH12
      case hyH12 => (intro w hSw; (try dsimp only at hSw); go_simp; (try with_reducible rfl))
      try simp only [Act.put, List.setIfInBounds_toArray, List.set_cons_zero, List.set_cons_succ]
      refine takeH (i := 13) (some 4) (v := ?_) rfl rfl (by kernel_rfl) (by kernel_rfl) (by kernel_rfl) (fun _ _ _ h => h) (Or.inl ⟨by rfl, ?hyH13⟩) hHeld ?restH13
      case hyH13 => (intro w hSw; (try dsimp only at hSw); go_simp; (try with_reducible rfl))
      try simp only [Act.put, List.setIfInBounds_toArray, List.set_cons_zero, List.set_cons_succ]
      refine wpAnyH_done (by kernel_rfl) ?_ _
      rw [← HO.out]
      clear e3 e3' e4 e4' e5 e6 e7 e1 e2
      go_wp2
      go_roundw
      case rel => exact ⟨k + 1, by omega, by go_num, ⟨_, rfl, Lib.hid rfl⟩, Lib.hid (below_drew hbk.out)⟩
      case measure => simp [intOf]; omega
    · have hlt' : ¬ (k : Int) < (s.size : Int) := by omega
      obtain rfl : k = s.size := by omega
      have hO' := hO.out
      rw [show (bL s).take s.size = bL s by rw [← bL_length, List.take_length]] at hO'
      go_wp2
      go_ret
      exact ⟨rfl, hbk.out⟩
end Go.Proofs.YtonicfongjhplaaDoor

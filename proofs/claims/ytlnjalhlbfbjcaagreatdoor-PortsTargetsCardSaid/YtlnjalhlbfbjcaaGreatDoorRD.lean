/- The document's own Number: its contract. -/
import Derived.Test.YtlnjalhlbfbjcaaGreatDoorRC
namespace Go.Proofs.YtlnjalhlbfbjcaaGreatDoor
open Go.RowKit

set_option maxRecDepth 100000 in
set_option maxHeartbeats 4000000 in
theorem rnum_c (s : ByteArray) (hsz : s.size ≤ 1000) (most : Int) (hm0 : 0 ≤ most) (hm1 : most ≤ 100000) (w : World) : Calls Tryz.prog 29 #[.string s, .int .i64 most] w fun x w' =>
    ((numR most s.data.toList = none ∧ ∃ n, x = .returned (.tuple #[.int .i64 n, .bool false])) ∨ (∃ n, numR most s.data.toList = some n ∧ x = .returned (.tuple #[.int .i64 n, .bool true]))) ∧ Below w.heap.size w w' := by
  have HN := Lib.hid (fun (v : Nat) h W => num_c v h W)
  go_enter Tryz.func29, Tryz.ntmps29
  go_wp2
  go_loop [6, 7] (fun n i => ∃ k : Nat, k ≤ s.size ∧ i = .int .i64 (k : Int) ∧ n = .int .i64 (valD (s.data.toList.take k)) ∧ (∀ c ∈ s.data.toList.take k, isDg c) ∧ valD (s.data.toList.take k) ≤ 10 * most + 9) (fun _ i => s.size - (intOf i).toNat)
  case atStart => exact ⟨0, Nat.zero_le _, rfl, rfl, by simp, by simp [valD]; omega⟩
  case round =>
    obtain ⟨k, hk, rfl, rfl, hc, hv⟩ := hrel
    have hv0 := valD_nonneg (s.data.toList.take k)
    by_cases hlt : k < s.size
    · have h1 : (k : Int) < (s.size : Int) := by omega
      have es := split_at s k hlt
      have ev := valD_snoc (s.data.toList.take k) (s[k]'hlt)
      have et := takeS s k hlt
      rw [← et] at ev
      have hin : (s[k]'hlt) ∈ s.data.toList := by rw [es]; simp
      have hct := (s[k]'hlt).toNat_lt
      generalize hq : valD (s.data.toList.take k) = q at *
      by_cases c1 : ((s[k]'hlt).toNat : Int) < 48
      · have hn := Lib.hid (show numR most s.data.toList = none from numR_bad hm1 hin (by unfold isDg; omega))
        clear es ev et hin
        go_wp2
        exact bodyPost_ret (v := .tuple #[.int .i64 0, .bool false]) (by simp [results, Tryz.results29, go_sem]) rfl ⟨.inl ⟨hn.out, _, rfl⟩, Below.refl _ _⟩
      · by_cases c2 : 57 < ((s[k]'hlt).toNat : Int)
        · have hn := Lib.hid (show numR most s.data.toList = none from numR_bad hm1 hin (by unfold isDg; omega))
          clear es ev et hin
          go_wp2
          exact bodyPost_ret (v := .tuple #[.int .i64 0, .bool false]) (by simp [results, Tryz.results29, go_sem]) rfl ⟨.inl ⟨hn.out, _, rfl⟩, Below.refl _ _⟩
        · by_cases c3 : most < q
          · have hn := Lib.hid (show numR most s.data.toList = none from by rw [es]; exact numR_big (by omega))
            clear es ev et hin
            go_wp2
            exact bodyPost_ret (v := .tuple #[.int .i64 0, .bool false]) (by simp [results, Tryz.results29, go_sem]) rfl ⟨.inl ⟨hn.out, _, rfl⟩, Below.refl _ _⟩
          · clear es hin
            go_wp2
            go_round
            case rel => exact ⟨k + 1, by omega, by go_num, by rw [ev]; congr 1; omega, by
              rw [et]
              intro x hx
              rcases List.mem_append.1 hx with e | e
              · exact hc x e
              · rw [List.mem_singleton.1 e]; unfold isDg; omega, by rw [ev]; omega⟩
            case measure => simp [intOf]; omega
    · obtain rfl : k = s.size := by omega
      rw [List.take_of_length_le (show s.data.toList.length ≤ s.size from Nat.le_refl _)] at hc hv hv0 ⊢
      obtain ⟨v, hve⟩ : ∃ v : Nat, valD s.data.toList = v := ⟨(valD s.data.toList).toNat, by omega⟩
      rw [hve] at hv hv0 ⊢
      by_cases c1 : (v : Int) ≤ most
      · by_cases c2 : Lib.itoa (v : Int) = s.data.toList
        · have hn := Lib.hid (show numR most s.data.toList = some (v : Int) from by unfold numR; rw [hve, if_pos ⟨c1, c2⟩])
          have HN' := HN.out v (by omega)
          rw [c2, ← str_eq rfl] at HN'
          have HM := Lib.hid HN'
          clear HN' HN
          go_wp2_with (go_at_call 23; refine (HM.out _).mono ?_; rintro x w1 ⟨rfl, hB1⟩)
          exact bodyPost_ret (v := .tuple #[.int .i64 (v : Int), .bool true]) (by simp [results, Tryz.results29, go_sem]) rfl ⟨.inr ⟨_, hn.out, rfl⟩, hB1⟩
        · have hn := Lib.hid (show numR most s.data.toList = none from by unfold numR; rw [hve, if_neg (fun h => c2 h.2)])
          have HM := Lib.hid (HN.out v (by omega))
          have hne : ¬ Lib.itoa (v : Int) = s.toList := by rw [ByteArray.toList_eq]; exact c2
          clear HN
          go_wp2_with (go_at_call 23; refine (HM.out _).mono ?_; rintro x w1 ⟨rfl, hB1⟩)
          exact bodyPost_ret (v := .tuple #[.int .i64 (v : Int), .bool false]) (by simp [results, Tryz.results29, go_sem, hne]) rfl ⟨.inl ⟨hn.out, _, rfl⟩, hB1⟩
      · have hn := Lib.hid (show numR most s.data.toList = none from by unfold numR; rw [hve, if_neg (fun h => c1 h.1)])
        go_wp2
        exact bodyPost_ret (v := .tuple #[.int .i64 (v : Int), .bool false]) (by simp [results, Tryz.results29, go_sem]) rfl ⟨.inl ⟨hn.out, _, rfl⟩, Below.refl _ _⟩

end Go.Proofs.YtlnjalhlbfbjcaaGreatDoor

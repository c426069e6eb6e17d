/- The document's own layer 2 Right: its contract. -/
import Derived.Test.YtbkoldjblkbpeaaDoorT
namespace Go.Proofs.YtbkoldjblkbpeaaDoor
open Go.RowKit Go.Shelf
attribute [local go_sem] Oper.semAt_some

set_option maxRecDepth 100000 in
set_option maxHeartbeats 2000000 in
theorem plain_c (s : ByteArray) (hs : s.size ≤ 1000) (w : World) : Calls Tryd.prog 40 #[.string s] w fun x w' => x = .returned (.bool (okL s.data.toList)) ∧ w = w' := by
  have hsl : s.data.toList.length = s.size := rfl
  generalize hb : okL s.data.toList = ok at *
  have HOK := Lib.hid hb
  clear hb
  go_enter Tryd.func40, Tryd.ntmps40
  go_wp2
  go_loop [3] (fun i => ∃ k : Nat, k ≤ s.size ∧ i = .int .i64 (k : Int) ∧ okL (s.data.toList.take k) = true) (fun i => s.size - (intOf i).toNat)
  case atStart => exact ⟨0, Nat.zero_le _, rfl, by simp [okL]⟩
  case round =>
    obtain ⟨k, hk, rfl, hok⟩ := hrel
    by_cases hlt : k < s.size
    · have hlt' : (k : Int) < (s.size : Int) := by omega
      have hT := takeS s k hlt
      have HS := Lib.hid (show okL (s.data.toList.take (k + 1)) = (okL (s.data.toList.take k) && decide (32 ≤ (s[k]'hlt).toNat ∧ (s[k]'hlt).toNat ≤ 126)) by rw [hT, okL_snoc])
      have HNo := Lib.hid (fun h => okL_not (in_list s k hlt) h)
      have HK := Lib.hid hok
      clear hT hok
      by_cases h1 : (s[k]'hlt).toNat < 32
      · have hf : ok = false := by rw [← HOK.out]; exact HNo.out (by omega)
        subst hf
        go_wp2
        go_ret
        exact ⟨rfl, rfl⟩
      · by_cases h2 : 126 < (s[k]'hlt).toNat
        · have hf : ok = false := by rw [← HOK.out]; exact HNo.out (by omega)
          subst hf
          go_wp2
          go_ret
          exact ⟨rfl, rfl⟩
        · go_wp2
          go_round
          case rel => exact ⟨k + 1, by omega, by go_num, by rw [HS.out, HK.out, Bool.true_and, decide_eq_true_eq]; omega⟩
          case measure => simp [intOf]; omega
    · obtain rfl : k = s.size := by omega
      have hf : ok = true := by rw [← HOK.out, ← hok, List.take_of_length_le (by omega)]
      subst hf
      clear hok
      go_wp2
      go_ret
      exact ⟨rfl, rfl⟩

set_option maxRecDepth 100000 in
set_option maxHeartbeats 2000000 in
theorem right02_c (s : ByteArray) (hs : s.size ≤ 1000) (w : World) : Calls Tryd.prog 35 #[.string s] w fun x w' => x = .returned (.bool (wordOK s)) ∧ w = w' := by
  have HP := Lib.hid (fun W => plain_c s hs W)
  unfold wordOK
  generalize okL s.data.toList = ok at *
  by_cases h : s.size ≤ 64
  · have h' : (s.size : Int) ≤ 64 := by omega
    rw [decide_eq_true h, Bool.true_and]
    go_enter Tryd.func35, Tryd.ntmps35
    go_wp2_with (go_at_call 40; refine (HP.out _).mono ?_; rintro e w' ⟨rfl, rfl⟩)
    go_ret
    exact ⟨rfl, rfl⟩
  · have h' : ¬ (s.size : Int) ≤ 64 := by omega
    rw [decide_eq_false h, Bool.false_and]
    go_enter Tryd.func35, Tryd.ntmps35
    go_wp2_with (go_at_call 40; refine (HP.out _).mono ?_; rintro e w' ⟨rfl, rfl⟩)
    go_ret
    exact ⟨rfl, rfl⟩
end Go.Proofs.YtbkoldjblkbpeaaDoor

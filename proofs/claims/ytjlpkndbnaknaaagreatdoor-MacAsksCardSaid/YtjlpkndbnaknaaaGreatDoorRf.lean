/- The document's own Right, pad, Mac, Challenge, Answer. -/
import Derived.Test.YtjlpkndbnaknaaaGreatDoorVa
import Derived.Test.YtjlpkndbnaknaaaGreatDoorNm
import Derived.Test.YtjlpkndbnaknaaaGreatDoorRF
namespace Go.Proofs.YtjlpkndbnaknaaaGreatDoor
open Go.RowKit Go.Shelf
attribute [local go_sem] Oper.semAt_some

theorem padK_take (l : List Nat) (m k : Nat) (h : k < 64) : (padK l m).take (k + 1) = (padK l m).take k ++ [(l.getD k 0) ^^^ m] := by
  rw [List.take_add_one, padK_get l m k h]
  rfl
theorem padK_all (l : List Nat) (m : Nat) : (padK l m).take 64 = padK l m := by
  rw [List.take_of_length_le (by rw [padK_length]; omega)]
theorem getD_in (s : ByteArray) (k : Nat) (h : k < s.size) : (bL s).getD k 0 = (s[k]'h).toNat := by
  rw [List.getD_eq_getElem?_getD, bL_get s k h]
  rfl
theorem getD_out (s : ByteArray) (k : Nat) (h : s.size ≤ k) : (bL s).getD k 0 = 0 := by
  rw [List.getD_eq_getElem?_getD, List.getElem?_eq_none (by rw [bL_length]; exact h)]
  rfl
theorem macL_pads (k s : ByteArray) : macL (bL k) (bL s) = sumL (bL (ofL (padK (bL k) 92) ++ ofL (sumL (bL (ofL (padK (bL k) 54) ++ s))))) := by
  rw [bL_append, bL_append, bL_ofL _ (padK_lt _ _ (bL_lt k) (by omega)), bL_ofL _ (padK_lt _ _ (bL_lt k) (by omega)), bL_ofL _ (sumL_lt _)]
  rfl
set_option maxRecDepth 100000 in
set_option maxHeartbeats 4000000 in
theorem rRight_c (key : ByteArray) (w : World) : Calls Tryz.prog 10 #[.string key] w fun r w' => r = .returned (.bool (isKeyB key)) ∧ Below w.heap.size w w' := by
  by_cases h0 : 1 ≤ key.size
  · by_cases h1 : key.size ≤ 64
    · have e : isKeyB key = true := decide_eq_true ⟨h0, h1⟩
      have h0' : (1 : Int) ≤ (key.size : Int) := by omega
      have h1' : (key.size : Int) ≤ 64 := by omega
      rw [e]
      go_enter Tryz.func10, Tryz.ntmps10
      go_wp2
      go_ret
      exact ⟨rfl, Below.refl _ _⟩
    · have e : isKeyB key = false := decide_eq_false (fun h => h1 h.2)
      have h0' : (1 : Int) ≤ (key.size : Int) := by omega
      have h1' : ¬ (key.size : Int) ≤ 64 := by omega
      rw [e]
      go_enter Tryz.func10, Tryz.ntmps10
      go_wp2
      go_ret
      exact ⟨rfl, Below.refl _ _⟩
  · have e : isKeyB key = false := decide_eq_false (fun h => h0 h.1)
    have h0' : ¬ (1 : Int) ≤ (key.size : Int) := by omega
    rw [e]
    go_enter Tryz.func10, Tryz.ntmps10
    go_wp2
    go_ret
    exact ⟨rfl, Below.refl _ _⟩
set_option maxRecDepth 100000 in
set_option maxHeartbeats 4000000 in
theorem pad_c (key : ByteArray) (m : Nat) (hm : m < 256) (w : World) : Calls Tryz.prog 24 #[.string key, .int .u8 (m : Int)] w fun r w' => r = .returned (.string (ofL (padK (bL key) m))) ∧ Below w.heap.size w w' := by
  have hp := padK_length (bL key) m
  have HC := Lib.hid (fun b c W h => conv_cells (padK (bL key) m) (padK_lt _ _ (bL_lt key) hm) b c W h)
  rw [hp] at HC
  obtain ⟨i0, hi, hz0, hz1, hz2⟩ := info_by
  clear hp
  go_enter Tryz.func24, Tryz.ntmps24
  go_wp2
  go_loopw [5, 6] (fun v1 i wr => ∃ k : Nat, k ≤ 64 ∧ i = .int .i64 (k : Int) ∧ wr.ownsRow w.heap.size 5 1 v1 k (byVs ((padK (bL key) m).take k)) ∧ Below w.heap.size w wr) (fun _ i _ => 64 - (intOf i).toNat)
  case atStart => exact ⟨0, by omega, rfl, World.ownsRow_nil _ _ _ _, Below.refl _ _⟩
  case round =>
    obtain ⟨k, hk, rfl, h1, hbk⟩ := hrel
    have O1 := Lib.hid h1
    have B0 := Lib.hid hbk
    clear h1 hbk
    by_cases hlt : k < 64
    · have hlt' : (k : Int) < 64 := by omega
      have T1 := padK_take (bL key) m k hlt
      by_cases hik : k < key.size
      · have hik' : (k : Int) < (key.size : Int) := by omega
        rw [getD_in key k hik] at T1
        have l1 := (key[k]'hik).toNat_lt
        obtain ⟨c, hc⟩ : ∃ c, (key[k]'hik).toNat = c := ⟨_, rfl⟩
        rw [hc] at T1 l1
        have x1 := u8_xor_nat c m l1 hm
        obtain ⟨p, hp⟩ : ∃ p, c ^^^ m = p := ⟨_, rfl⟩
        rw [hp] at T1 x1
        clear hp
        have N1 := Lib.hid (show byVs ((padK (bL key) m).take (k + 1)) = byVs ((padK (bL key) m).take k) ++ [.int .u8 (p : Int)] by rw [T1, byVs_append]; rfl)
        clear T1 l1
        obtain ⟨L1, hL1⟩ : ∃ L, (padK (bL key) m).take k = L := ⟨_, rfl⟩
        rw [hL1] at O1 N1
        clear hL1
        go_wp2_with (at_builtin; refine wpList_append_own _ rfl (.tmp 19) (.tmp 23) 53 rfl w.heap.size 5 i0 (.int .u8 0) 1 1 Tryz.underlying53 hi hz0 hz2 hz1 rfl (by decide) _ k (byVs L1) rfl (O1.out.alloc _) ⟨wr.heap.size, 0, none⟩ 1 1 [.int .u8 (p : Int)] rfl rfl (World.news_of_block (cs := #[.int .u8 (p : Int)]) (t := 5) (fr := (0, 0)) (heap_alloc_new wr _)) (by simp [Value.oneCell']) (by unfold maxLen; omega) (by omega) ?z1 ?_; (case z1 => (have := B0.out.size; simp; omega)); intro u1 w3 hown hgrow _; have HA := Lib.hid (bal B0.out (.cells #[.int .u8 (p : Int)] 5)); have B3 := Lib.hid (HA.out.grown hgrow HA.out.size (fun j hj => (O1.out.lt j hj).1)); have O13 := Lib.hid hown; clear hown hgrow HA)
        go_roundw
        case rel => exact ⟨k + 1, by omega, by go_num, by rw [N1.out]; exact O13.out, B3.out⟩
        case measure => simp [intOf]; omega
      · have hik' : ¬ (k : Int) < (key.size : Int) := by omega
        rw [getD_out key k (by omega), Nat.zero_xor] at T1
        have x1 := u8_xor_nat 0 m (by omega) hm
        rw [Nat.zero_xor, show ((0 : Nat) : Int) = 0 from rfl] at x1
        have N1 := Lib.hid (show byVs ((padK (bL key) m).take (k + 1)) = byVs ((padK (bL key) m).take k) ++ [.int .u8 (m : Int)] by rw [T1, byVs_append]; rfl)
        clear T1
        obtain ⟨L1, hL1⟩ : ∃ L, (padK (bL key) m).take k = L := ⟨_, rfl⟩
        rw [hL1] at O1 N1
        clear hL1
        go_wp2_with (at_builtin; refine wpList_append_own _ rfl (.tmp 19) (.tmp 23) 53 rfl w.heap.size 5 i0 (.int .u8 0) 1 1 Tryz.underlying53 hi hz0 hz2 hz1 rfl (by decide) _ k (byVs L1) rfl (O1.out.alloc _) ⟨wr.heap.size, 0, none⟩ 1 1 [.int .u8 (m : Int)] rfl rfl (World.news_of_block (cs := #[.int .u8 (m : Int)]) (t := 5) (fr := (0, 0)) (heap_alloc_new wr _)) (by simp [Value.oneCell']) (by unfold maxLen; omega) (by omega) ?z1 ?_; (case z1 => (have := B0.out.size; simp; omega)); intro u1 w3 hown hgrow _; have HA := Lib.hid (bal B0.out (.cells #[.int .u8 (m : Int)] 5)); have B3 := Lib.hid (HA.out.grown hgrow HA.out.size (fun j hj => (O1.out.lt j hj).1)); have O13 := Lib.hid hown; clear hown hgrow HA)
        go_roundw
        case rel => exact ⟨k + 1, by omega, by go_num, by rw [N1.out]; exact O13.out, B3.out⟩
        case measure => simp [intOf]; omega
    · have hlt' : ¬ (k : Int) < 64 := by omega
      obtain rfl : k = 64 := by omega
      have h1 := O1.out
      rw [padK_all] at h1
      obtain ⟨g1, c1, rfl⟩ := ownsRow_succ (n := 63) h1
      have hcv1 := HC.out g1 c1 wr (fun j n h => by
        have := h1.cells (g := g1) rfl j (.int .u8 (n : Int)) (by simp [byVs, h, byV])
        rw [add_at] at this
        exact this)
      clear HC h1 O1 hlt
      go_wp2
      go_ret
      exact ⟨rfl, B0.out⟩
set_option maxRecDepth 100000 in
set_option maxHeartbeats 4000000 in
theorem rMac_c (key s : ByteArray) (hs : s.size ≤ 80000) (w : World) (hC : TabC w) : Calls Tryz.prog 8 #[.string key, .string s] w fun r w' => r = .returned (macV key s) ∧ Below w.heap.size w w' := by
  have HC := Lib.hid hC
  have HR := Lib.hid (fun W => rRight_c key W)
  clear hC
  cases h : isKeyB key
  · rw [h] at HR
    have e : macV key s = .tuple #[.string ⟨#[]⟩, .int .i64 50] := by unfold macV; rw [h]; rfl
    rw [e]
    clear h e
    go_enter Tryz.func8, Tryz.ntmps8
    go_wp2_with fail
    refine (HR.out _).mono ?_; rintro e w1 ⟨rfl, hb⟩
    go_wp2
    go_ret2
    exact ⟨rfl, hb⟩
  · rw [h] at HR
    have e : macV key s = .tuple #[.string (ofL (macL (bL key) (bL s))), .int .i64 0] := by unfold macV; rw [h]; rfl
    rw [macL_pads key s] at e
    have P1 := Lib.hid (fun W => pad_c key 54 (by omega) W)
    have P2 := Lib.hid (fun W => pad_c key 92 (by omega) W)
    rw [show ((54 : Nat) : Int) = 54 from rfl] at P1
    rw [show ((92 : Nat) : Int) = 92 from rfl] at P2
    have hp1 := padK_length (bL key) 54
    have hp2 := padK_length (bL key) 92
    have S1 := Lib.hid (fun W h => rSum_c (ofL (padK (bL key) 54) ++ s) (by rw [ByteArray.size_append, ofL_size, hp1]; omega) W h)
    have hx : (ofL (sumL (bL (ofL (padK (bL key) 54) ++ s)))).size = 32 := by rw [ofL_size, sumL_length]
    obtain ⟨X, hX⟩ : ∃ X, ofL (sumL (bL (ofL (padK (bL key) 54) ++ s))) = X := ⟨_, rfl⟩
    rw [hX] at e S1 hx
    clear hX
    have S2 := Lib.hid (fun W h => rSum_c (ofL (padK (bL key) 92) ++ X) (by rw [ByteArray.size_append, ofL_size, hp2]; omega) W h)
    obtain ⟨Y, hY⟩ : ∃ Y, ofL (sumL (bL (ofL (padK (bL key) 92) ++ X))) = Y := ⟨_, rfl⟩
    rw [hY] at e S2
    rw [e]
    clear hY e h
    have hi1 : (ofL (padK (bL key) 54)).size = 64 := by rw [ofL_size, hp1]
    have hi2 : (ofL (padK (bL key) 92)).size = 64 := by rw [ofL_size, hp2]
    clear hp1 hp2
    generalize ofL (padK (bL key) 54) = IS at *
    generalize ofL (padK (bL key) 92) = OS at *
    have n1 : ¬ 9223372036854775807 < IS.size + s.size := by omega
    have n2 : ¬ 9223372036854775807 < OS.size + X.size := by omega
    clear hi1 hi2 hx hs
    go_enter Tryz.func8, Tryz.ntmps8
    have B0 := Lib.hid (Below.refl w.heap.size w)
    go_wp2_with fail
    refine (HR.out _).mono ?_; rintro e w1 ⟨rfl, hb⟩
    have B1 := Lib.hid (btr B0.out hb); clear hb
    go_wp2_with fail
    refine (P1.out _).mono ?_; rintro e w2 ⟨rfl, hb⟩
    have B2 := Lib.hid (btr B1.out hb); clear hb
    go_wp2_with fail
    refine (S1.out _ (HC.out.on B2.out)).mono ?_; rintro e w3 ⟨rfl, hb⟩
    have B3 := Lib.hid (btr B2.out hb); clear hb
    go_wp2_with fail
    refine (P2.out _).mono ?_; rintro e w4 ⟨rfl, hb⟩
    have B4 := Lib.hid (btr B3.out hb); clear hb
    go_wp2_with fail
    refine (S2.out _ (HC.out.on B4.out)).mono ?_; rintro e w5 ⟨rfl, hb⟩
    have B5 := Lib.hid (btr B4.out hb); clear hb
    go_wp2
    go_ret2
    exact ⟨rfl, B5.out⟩
set_option maxRecDepth 100000 in
set_option maxHeartbeats 4000000 in
theorem rAnswer_c (key ch name : ByteArray) (hn : name.size ≤ 1000) (w : World) (hC : TabC w) : Calls Tryz.prog 15 #[.string key, .string ch, .string name] w fun r w' => r = .returned (ansV key ch name) ∧ Below w.heap.size w w' := by
  have HC := Lib.hid hC
  have HR := Lib.hid (fun W => rRight_c key W)
  clear hC
  cases h : isKeyB key
  · rw [h] at HR
    have e : ansV key ch name = .tuple #[.string ⟨#[]⟩, .int .i64 50] := by unfold ansV; rw [h]; rfl
    rw [e]
    clear h e
    go_enter Tryz.func15, Tryz.ntmps15
    go_wp2_with fail
    refine (HR.out _).mono ?_; rintro e w1 ⟨rfl, hb⟩
    go_wp2
    go_ret2
    exact ⟨rfl, hb⟩
  · rw [h] at HR
    by_cases hc : ch.size = 32
    · have e : ansV key ch name = macV key (ch ++ name) := by
        unfold ansV macV
        rw [show isChB ch = true from decide_eq_true hc]
        rfl
      have M1 := Lib.hid (fun W h => rMac_c key (ch ++ name) (by rw [ByteArray.size_append]; omega) W h)
      obtain ⟨a, g, hag⟩ : ∃ a g, macV key (ch ++ name) = .tuple #[.string a, .int .i64 g] := by
        unfold macV; rw [h]; exact ⟨_, _, rfl⟩
      rw [hag] at M1 e
      rw [e]
      have hc' : (ch.size : Int) = 32 := by omega
      have n1 : ¬ 9223372036854775807 < ch.size + name.size := by omega
      clear h e hag hn
      go_enter Tryz.func15, Tryz.ntmps15
      have B0 := Lib.hid (Below.refl w.heap.size w)
      go_wp2_with fail
      refine (HR.out _).mono ?_; rintro e w1 ⟨rfl, hb⟩
      have B1 := Lib.hid (btr B0.out hb); clear hb
      go_wp2_with fail
      refine (M1.out _ (HC.out.on B1.out)).mono ?_; rintro e w2 ⟨rfl, hb⟩
      have B2 := Lib.hid (btr B1.out hb); clear hb
      go_wp2
      go_ret2
      exact ⟨rfl, B2.out⟩
    · have e : ansV key ch name = .tuple #[.string ⟨#[]⟩, .int .i64 2] := by
        unfold ansV
        rw [h, show isChB ch = false from decide_eq_false hc]
        rfl
      have hc' : ¬ (ch.size : Int) = 32 := by omega
      rw [e]
      clear h e
      go_enter Tryz.func15, Tryz.ntmps15
      go_wp2_with fail
      refine (HR.out _).mono ?_; rintro e w1 ⟨rfl, hb⟩
      go_wp2
      go_ret2
      exact ⟨rfl, hb⟩
theorem chT_size (a b : Nat) (ha : a ≤ 2147483647) (hb : b ≤ 2147483647) : (chT a b).size ≤ 60 := by
  have h1 := itB_size a (by omega) (by omega)
  have h2 := itB_size b (by omega) (by omega)
  unfold chT
  rw [ByteArray.size_append, ByteArray.size_append, ByteArray.size_append]
  have z1 : (⟨#[99, 104, 97, 108, 108, 101, 110, 103, 101, 32]⟩ : ByteArray).size = 10 := rfl
  have z2 : (⟨#[32]⟩ : ByteArray).size = 1 := rfl
  omega
set_option maxRecDepth 100000 in
set_option maxHeartbeats 4000000 in
theorem rChallenge_no (a b : Int) (h : isAskB a = false ∨ isAskB b = false) (w : World) : Calls Tryz.prog 13 #[.int .i64 a, .int .i64 b] w fun r w' => r = .returned (chV a b) ∧ Below w.heap.size w w' := by
  have e : chV a b = .tuple #[.string ⟨#[]⟩, .int .i64 2] := by
    unfold chV
    cases ha : isAskB a
    · rfl
    · rw [ha] at h
      rcases h with h | h
      · cases h
      · rw [h]; rfl
  rw [e]
  have h' : a < 0 ∨ 2147483647 < a ∨ b < 0 ∨ 2147483647 < b := by
    rcases h with h | h
    · have := of_decide_eq_false h; omega
    · have := of_decide_eq_false h; omega
  clear h e
  by_cases a0 : a < 0
  · go_enter Tryz.func13, Tryz.ntmps13
    go_wp2
    go_ret2
    exact ⟨rfl, Below.refl _ _⟩
  · by_cases a1 : 2147483647 < a
    · go_enter Tryz.func13, Tryz.ntmps13
      go_wp2
      go_ret2
      exact ⟨rfl, Below.refl _ _⟩
    · by_cases b0 : b < 0
      · clear h'
        go_enter Tryz.func13, Tryz.ntmps13
        go_wp2
        go_ret2
        exact ⟨rfl, Below.refl _ _⟩
      · have b1 : 2147483647 < b := by omega
        clear h'
        go_enter Tryz.func13, Tryz.ntmps13
        go_wp2
        go_ret2
        exact ⟨rfl, Below.refl _ _⟩
set_option maxRecDepth 100000 in
set_option maxHeartbeats 4000000 in
theorem rChallenge_yes (a b : Nat) (ha : a ≤ 2147483647) (hb : b ≤ 2147483647) (w : World) (hC : TabC w) : Calls Tryz.prog 13 #[.int .i64 (a : Int), .int .i64 (b : Int)] w fun r w' => r = .returned (.tuple #[.string (ofL (sumL (bL (chT a b)))), .int .i64 0]) ∧ Below w.heap.size w w' := by
  have HC := Lib.hid hC
  have N1 := Lib.hid (fun W => num_c a ha W)
  have N2 := Lib.hid (fun W => num_c b hb W)
  have z1 := itB_size a (by omega) (by omega)
  have z2 := itB_size b (by omega) (by omega)
  have hz := chT_size a b ha hb
  have S1 := Lib.hid (fun W h => rSum_c (chT a b) (by omega) W h)
  obtain ⟨Y, hY⟩ : ∃ Y, ofL (sumL (bL (chT a b))) = Y := ⟨_, rfl⟩
  rw [hY] at S1 ⊢
  clear hY hC hz
  unfold chT at S1
  generalize itB (a : Int) = A at *
  generalize itB (b : Int) = B at *
  have a0 : ¬ (a : Int) < 0 := by omega
  have a1 : ¬ 2147483647 < (a : Int) := by omega
  have b0 : ¬ (b : Int) < 0 := by omega
  have b1 : ¬ 2147483647 < (b : Int) := by omega
  have n1 : ¬ 9223372036854775807 < 10 + A.size := by omega
  have n2 : ¬ 9223372036854775807 < 10 + A.size + 1 := by omega
  have n3 : ¬ 9223372036854775807 < 10 + A.size + 1 + B.size := by omega
  clear ha hb
  go_enter Tryz.func13, Tryz.ntmps13
  have B0 := Lib.hid (Below.refl w.heap.size w)
  go_wp2_with fail
  refine (N1.out _).mono ?_; rintro e w1 ⟨rfl, hb⟩
  have B1 := Lib.hid (btr B0.out hb); clear hb
  go_wp2_with fail
  refine (N2.out _).mono ?_; rintro e w2 ⟨rfl, hb⟩
  have B2 := Lib.hid (btr B1.out hb); clear hb
  go_wp2_with fail
  refine (S1.out _ (HC.out.on B2.out)).mono ?_; rintro e w3 ⟨rfl, hb⟩
  have B3 := Lib.hid (btr B2.out hb); clear hb
  go_wp2
  go_ret2
  exact ⟨rfl, B3.out⟩
theorem rChallenge_c (a b : Int) (w : World) (hC : TabC w) : Calls Tryz.prog 13 #[.int .i64 a, .int .i64 b] w fun r w' => r = .returned (chV a b) ∧ Below w.heap.size w w' := by
  cases ha : isAskB a
  · exact rChallenge_no a b (.inl ha) w
  · cases hb : isAskB b
    · exact rChallenge_no a b (.inr hb) w
    · have h1 : 0 ≤ a ∧ a ≤ 2147483647 := of_decide_eq_true ha
      have h2 : 0 ≤ b ∧ b ≤ 2147483647 := of_decide_eq_true hb
      obtain ⟨A, rfl⟩ : ∃ A : Nat, a = (A : Int) := ⟨a.toNat, by omega⟩
      obtain ⟨B, rfl⟩ : ∃ B : Nat, b = (B : Int) := ⟨b.toNat, by omega⟩
      have e : chV (A : Int) (B : Int) = .tuple #[.string (ofL (sumL (bL (chT A B)))), .int .i64 0] := by unfold chV; rw [ha, hb]; rfl
      rw [e]
      exact rChallenge_yes A B (by omega) (by omega) w hC
end Go.Proofs.YtjlpkndbnaknaaaGreatDoor

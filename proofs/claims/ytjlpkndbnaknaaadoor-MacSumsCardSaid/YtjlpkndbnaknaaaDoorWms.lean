/- MacSums. -/
import Derived.Test.YtjlpkndbnaknaaaDoorVa
import Derived.Maps.AppendAt
namespace Go.Proofs.YtjlpkndbnaknaaaDoor
open Go.RowKit Go.Shelf
attribute [local go_sem] Oper.semAt_some

theorem padK_take (l : List Nat) (m k : Nat) (h : k < 64) : (padK l m).take (k + 1) = (padK l m).take k ++ [(l.getD k 0) ^^^ m] := by
  rw [List.take_add_one, padK_get l m k h]
  rfl
theorem padK_all (l : List Nat) (m : Nat) : (padK l m).take 64 = padK l m := by
  rw [List.take_of_length_le (by rw [padK_length]; omega)]
theorem getD_in (s : ByteArray) (k : Nat) (h : k < s.size) : (bL s).getD k 0 = (s[k]'h).toNat := by
  rw [List.getD_eq_getElem?_getD, bL_get s k h]
  rfl
theorem getD_out (s : ByteArray) (k : Nat) (h : s.size ≤ k) : (bL s).getD k 0 = 0 := by
  rw [List.getD_eq_getElem?_getD, List.getElem?_eq_none (by rw [bL_length]; exact h)]
  rfl
theorem macL_pads (k s : ByteArray) : macL (bL k) (bL s) = sumL (bL (ofL (padK (bL k) 92) ++ ofL (sumL (bL (ofL (padK (bL k) 54) ++ s))))) := by
  rw [bL_append, bL_append, bL_ofL _ (padK_lt _ _ (bL_lt k) (by omega)), bL_ofL _ (padK_lt _ _ (bL_lt k) (by omega)), bL_ofL _ (sumL_lt _)]
  rfl
/-- Two rows are not one. -/
def Apart (v u : Value) : Prop := ∀ g, v.ownBlock = some g → u.ownBlock ≠ some g
theorem Apart.ne {v u : Value} (h : Apart v u) : u.ownBlock = none ∨ u.ownBlock ≠ v.ownBlock := by
  cases hu : u.ownBlock with
  | none => exact .inl rfl
  | some g => exact .inr fun e => h g e.symm hu
theorem Apart.symm {v u : Value} (h : Apart v u) : Apart u v := fun g h1 h2 => h g h2 h1
theorem Apart.next {W : World} {base e size n : Nat} {xs : List Value} {v v' u : Value} (h : Apart v u) (hu : W.ownsRow base e size u n xs) (ha : v'.ownBlock = v.ownBlock ∨ v'.ownBlock = some W.heap.size) : Apart v' u := by
  intro g h1 h2
  rcases ha with ha | ha
  · exact h g (ha.symm.trans h1) h2
  · rw [ha] at h1
    cases h1
    exact Nat.lt_irrefl _ (hu.lt _ h2).2
theorem isKey_true {k : ByteArray} (h : isKeyB k = true) : 1 ≤ k.size := (of_decide_eq_true h).1
theorem isKey_false {k : ByteArray} (h : isKeyB k = false) (h64 : k.size ≤ 64) : k = ⟨#[]⟩ := by
  have h0 : ¬ (1 ≤ k.size ∧ k.size ≤ 64) := of_decide_eq_false h
  have h1 : k.size = 0 := by omega
  exact ByteArray.ext (Array.eq_empty_of_size_eq_zero h1)
theorem mac_empty' {key : ByteArray} (h : isKeyB key = false) (s : ByteArray) : macV key s = .tuple #[.string ⟨#[]⟩, .int .i64 50] := by unfold macV; rw [h]; rfl
theorem mac_right' {key : ByteArray} (h : isKeyB key = true) (s : ByteArray) : macV key s = .tuple #[.string (ofL (macL (bL key) (bL s))), .int .i64 0] := by unfold macV; rw [h]; rfl
set_option maxRecDepth 100000 in
set_option maxHeartbeats 4000000 in
theorem sums_mac_law (k0 s0 : ByteArray) (w : World) (hL : Lay w) : Calls Tryd.prog 5 #[.string k0, .string s0] w fun x w' => x = .returned (.bool true) ∧ Below w.heap.size w w' := by
  have HL := Lib.hid hL
  have SH := Lib.hid (shown_c w hL)
  have K2 := Lib.hid (fun W => cut2_c s0 W)
  have hs := cut2_size s0
  generalize cut2 s0 = s at *
  obtain ⟨N, hN⟩ : ∃ N : Nat, min (k0.size : Int) 64 = (N : Int) := ⟨(min (k0.size : Int) 64).toNat, by omega⟩
  have hN1 : N ≤ k0.size := by omega
  have hN2 : N ≤ 64 := by omega
  obtain ⟨key, hk⟩ : ∃ key, key = k0.extract 0 N := ⟨_, rfl⟩
  have hks : key.size ≤ 64 := by rw [hk, ByteArray.size_extract]; omega
  have M1 := Lib.hid (fun W h => Mac_c key s (by omega) W h)
  clear hL
  cases h1 : isKeyB key
  · rw [mac_empty' h1] at M1
    obtain rfl := isKey_false h1 hks
    clear h1 hks
    go_enter Tryd.func5, Tryd.ntmps5
    have B0 := Lib.hid (Below.refl w.heap.size w)
    go_wp2_with fail
    refine (SH.out).mono ?_; rintro e w1 ⟨rfl, hb⟩
    have B1 := Lib.hid (btr B0.out hb); clear hb
    go_wp2_with fail
    refine (K2.out _).mono ?_; rintro e w2 ⟨rfl, hb⟩
    have B2 := Lib.hid (btr B1.out hb); clear hb
    go_wp2_with fail
    rw [← hk]
    have HN := Lib.hid (And.intro hN (And.intro hN1 (And.intro hN2 hk)))
    clear hN hN1 hN2 hk
    (with_reducible refine (M1.out _ (HL.out.on B2.out)).mono ?_); rintro e w3 ⟨rfl, hb⟩
    have B3 := Lib.hid (btr B2.out hb); clear hb
    go_wp2
    go_ret
    exact ⟨ret_bool (by first | rfl | simp), B3.out⟩
  · rw [mac_right' h1, macL_pads key s] at M1
    have hp1 := padK_length (bL key) 54
    have hp2 := padK_length (bL key) 92
    have S1 := Lib.hid (fun W h => Sum_c (ofL (padK (bL key) 54) ++ s) (by rw [ByteArray.size_append, ofL_size, hp1]; omega) W h)
    have hx : (ofL (sumL (bL (ofL (padK (bL key) 54) ++ s)))).size = 32 := by rw [ofL_size, sumL_length]
    obtain ⟨X, hX⟩ : ∃ X, ofL (sumL (bL (ofL (padK (bL key) 54) ++ s))) = X := ⟨_, rfl⟩
    rw [hX] at M1 S1 hx
    clear hX
    have S2 := Lib.hid (fun W h => Sum_c (ofL (padK (bL key) 92) ++ X) (by rw [ByteArray.size_append, ofL_size, hp2]; omega) W h)
    obtain ⟨Y, hY⟩ : ∃ Y, ofL (sumL (bL (ofL (padK (bL key) 92) ++ X))) = Y := ⟨_, rfl⟩
    rw [hY] at M1 S2
    clear hY
    have hi1 : (ofL (padK (bL key) 54)).size = 64 := by rw [ofL_size, hp1]
    have hi2 : (ofL (padK (bL key) 92)).size = 64 := by rw [ofL_size, hp2]
    have HC1 := Lib.hid (fun b c W h => conv_cells (padK (bL key) 54) (padK_lt _ _ (bL_lt key) (by omega)) b c W h)
    have HC2 := Lib.hid (fun b c W h => conv_cells (padK (bL key) 92) (padK_lt _ _ (bL_lt key) (by omega)) b c W h)
    rw [hp1] at HC1
    rw [hp2] at HC2
    have HQ := Lib.hid (And.intro hp1 hp2)
    clear hp1 hp2
    obtain ⟨i0, hi, hz0, hz1, hz2⟩ := info_by
    clear h1
    go_enter Tryd.func5, Tryd.ntmps5
    have B0 := Lib.hid (Below.refl w.heap.size w)
    go_wp2_with fail
    refine (SH.out).mono ?_; rintro e w1 ⟨rfl, hb⟩
    have B1 := Lib.hid (btr B0.out hb); clear hb
    go_wp2_with fail
    refine (K2.out _).mono ?_; rintro e w2 ⟨rfl, hb⟩
    have B2 := Lib.hid (btr B1.out hb); clear hb
    go_wp2_with fail
    rw [← hk]
    (with_reducible refine (M1.out _ (HL.out.on B2.out)).mono ?_); rintro e w3 ⟨rfl, hb⟩
    have B3 := Lib.hid (btr B2.out hb); clear hb
    have HN := Lib.hid (And.intro hN (And.intro hN1 (And.intro hN2 hk)))
    clear hN hN1 hN2 hk B0 B1 B2 SH K2 M1
    go_wp2
    go_loopw [8, 9, 10] (fun v1 v2 i wr => ∃ k : Nat, k ≤ 64 ∧ i = .int .i64 (k : Int) ∧ wr.ownsRow w.heap.size 5 1 v1 k (byVs ((padK (bL key) 54).take k)) ∧ wr.ownsRow w.heap.size 5 1 v2 k (byVs ((padK (bL key) 92).take k)) ∧ Apart v1 v2 ∧ Below w.heap.size w wr) (fun _ _ i _ => 64 - (intOf i).toNat)
    case atStart => exact ⟨0, by omega, rfl, World.ownsRow_nil _ _ _ _, World.ownsRow_nil _ _ _ _, (fun g h => by cases h), B3.out⟩
    case round =>
      obtain ⟨k, hk, rfl, h1, h2, hap, hbk⟩ := hrel
      clear B3
      have O1 := Lib.hid h1
      have O2 := Lib.hid h2
      have AP := Lib.hid hap
      have B0 := Lib.hid hbk
      clear h1 h2 hap hbk
      by_cases hlt : k < 64
      · have hlt' : (k : Int) < 64 := by omega
        have T1 := padK_take (bL key) 54 k hlt
        have T2 := padK_take (bL key) 92 k hlt
        by_cases hik : k < key.size
        · have hik' : (k : Int) < (key.size : Int) := by omega
          rw [getD_in key k hik] at T1 T2
          have l1 := (key[k]'hik).toNat_lt
          obtain ⟨c, hc⟩ : ∃ c, (key[k]'hik).toNat = c := ⟨_, rfl⟩
          rw [hc] at T1 T2 l1
          have x1 := u8_xor_nat c 54 l1 (by omega)
          have x2 := u8_xor_nat c 92 l1 (by omega)
          rw [show ((54 : Nat) : Int) = 54 from rfl] at x1
          rw [show ((92 : Nat) : Int) = 92 from rfl] at x2
          obtain ⟨p, hp⟩ : ∃ p, c ^^^ 54 = p := ⟨_, rfl⟩
          obtain ⟨q, hq⟩ : ∃ q, c ^^^ 92 = q := ⟨_, rfl⟩
          rw [hp] at T1 x1
          rw [hq] at T2 x2
          clear hp hq
          have N1 := Lib.hid (show byVs ((padK (bL key) 54).take (k + 1)) = byVs ((padK (bL key) 54).take k) ++ [.int .u8 (p : Int)] by rw [T1, byVs_append]; rfl)
          have N2 := Lib.hid (show byVs ((padK (bL key) 92).take (k + 1)) = byVs ((padK (bL key) 92).take k) ++ [.int .u8 (q : Int)] by rw [T2, byVs_append]; rfl)
          clear T1 T2 l1
          obtain ⟨L1, hL1⟩ : ∃ L, (padK (bL key) 54).take k = L := ⟨_, rfl⟩
          obtain ⟨L2, hL2⟩ : ∃ L, (padK (bL key) 92).take k = L := ⟨_, rfl⟩
          rw [hL1] at O1 N1
          rw [hL2] at O2 N2
          clear hL1 hL2
          go_wp2_with (first | (at_builtin; refine wpList_append_own_at _ rfl (.tmp 48) (.tmp 51) 27 rfl w.heap.size 5 i0 (.int .u8 0) 1 1 Tryd.underlying27 hi hz0 hz2 hz1 rfl (by decide) _ k (byVs L1) rfl (O1.out.alloc _) ⟨wr.heap.size, 0, none⟩ 1 1 [.int .u8 (p : Int)] rfl rfl (World.news_of_block (cs := #[.int .u8 (p : Int)]) (t := 5) (fr := (0, 0)) (heap_alloc_new wr _)) (by simp [Value.oneCell']) (by unfold maxLen; omega) (by omega) ?z1 ?_; (case z1 => (have := B0.out.size; simp; omega)); intro u1 w3 hown hgrow _ hat; have HA := Lib.hid (bal B0.out (.cells #[.int .u8 (p : Int)] 5)); have B3 := Lib.hid (HA.out.grown hgrow HA.out.size (fun j hj => (O1.out.lt j hj).1)); have O13 := Lib.hid hown; have O23 := Lib.hid ((O2.out.alloc _).kept hgrow AP.out.ne); have AP3 := Lib.hid (AP.out.next (O2.out.alloc (.cells #[.int .u8 (p : Int)] 5)) hat); clear hown hgrow hat HA) | (at_builtin; refine wpList_append_own_at _ rfl (.tmp 53) (.tmp 56) 27 rfl w.heap.size 5 i0 (.int .u8 0) 1 1 Tryd.underlying27 hi hz0 hz2 hz1 rfl (by decide) _ k (byVs L2) rfl (O23.out.alloc _) ⟨w3.heap.size, 0, none⟩ 1 1 [.int .u8 (q : Int)] rfl rfl (World.news_of_block (cs := #[.int .u8 (q : Int)]) (t := 5) (fr := (0, 0)) (heap_alloc_new w3 _)) (by simp [Value.oneCell']) (by unfold maxLen; omega) (by omega) ?z2 ?_; (case z2 => (have := B3.out.size; simp; omega)); intro u2 w4 hown hgrow _ hat; have HA := Lib.hid (bal B3.out (.cells #[.int .u8 (q : Int)] 5)); have B4 := Lib.hid (HA.out.grown hgrow HA.out.size (fun j hj => (O23.out.lt j hj).1)); have O24 := Lib.hid hown; have O14 := Lib.hid ((O13.out.alloc _).kept hgrow AP3.out.symm.ne); have AP4 := Lib.hid ((AP3.out.symm.next (O13.out.alloc (.cells #[.int .u8 (q : Int)] 5)) hat).symm); clear hown hgrow hat HA))
          go_roundw
          case rel => exact ⟨k + 1, by omega, by go_num, by rw [N1.out]; exact O14.out, by rw [N2.out]; exact O24.out, AP4.out, B4.out⟩
          case measure => simp [intOf]; omega
        · have hik' : ¬ (k : Int) < (key.size : Int) := by omega
          rw [getD_out key k (by omega), Nat.zero_xor] at T1 T2
          have N1 := Lib.hid (show byVs ((padK (bL key) 54).take (k + 1)) = byVs ((padK (bL key) 54).take k) ++ [.int .u8 54] by rw [T1, byVs_append]; rfl)
          have N2 := Lib.hid (show byVs ((padK (bL key) 92).take (k + 1)) = byVs ((padK (bL key) 92).take k) ++ [.int .u8 92] by rw [T2, byVs_append]; rfl)
          clear T1 T2
          have x1 : bits .xor .u8 0 54 = 54 := by decide
          have x2 : bits .xor .u8 0 92 = 92 := by decide
          obtain ⟨L1, hL1⟩ : ∃ L, (padK (bL key) 54).take k = L := ⟨_, rfl⟩
          obtain ⟨L2, hL2⟩ : ∃ L, (padK (bL key) 92).take k = L := ⟨_, rfl⟩
          rw [hL1] at O1 N1
          rw [hL2] at O2 N2
          clear hL1 hL2
          go_wp2_with (first | (at_builtin; refine wpList_append_own_at _ rfl (.tmp 48) (.tmp 51) 27 rfl w.heap.size 5 i0 (.int .u8 0) 1 1 Tryd.underlying27 hi hz0 hz2 hz1 rfl (by decide) _ k (byVs L1) rfl (O1.out.alloc _) ⟨wr.heap.size, 0, none⟩ 1 1 [.int .u8 54] rfl rfl (World.news_of_block (cs := #[.int .u8 54]) (t := 5) (fr := (0, 0)) (heap_alloc_new wr _)) (by simp [Value.oneCell']) (by unfold maxLen; omega) (by omega) ?z1 ?_; (case z1 => (have := B0.out.size; simp; omega)); intro u1 w3 hown hgrow _ hat; have HA := Lib.hid (bal B0.out (.cells #[.int .u8 54] 5)); have B3 := Lib.hid (HA.out.grown hgrow HA.out.size (fun j hj => (O1.out.lt j hj).1)); have O13 := Lib.hid hown; have O23 := Lib.hid ((O2.out.alloc _).kept hgrow AP.out.ne); have AP3 := Lib.hid (AP.out.next (O2.out.alloc (.cells #[.int .u8 54] 5)) hat); clear hown hgrow hat HA) | (at_builtin; refine wpList_append_own_at _ rfl (.tmp 53) (.tmp 56) 27 rfl w.heap.size 5 i0 (.int .u8 0) 1 1 Tryd.underlying27 hi hz0 hz2 hz1 rfl (by decide) _ k (byVs L2) rfl (O23.out.alloc _) ⟨w3.heap.size, 0, none⟩ 1 1 [.int .u8 92] rfl rfl (World.news_of_block (cs := #[.int .u8 92]) (t := 5) (fr := (0, 0)) (heap_alloc_new w3 _)) (by simp [Value.oneCell']) (by unfold maxLen; omega) (by omega) ?z2 ?_; (case z2 => (have := B3.out.size; simp; omega)); intro u2 w4 hown hgrow _ hat; have HA := Lib.hid (bal B3.out (.cells #[.int .u8 92] 5)); have B4 := Lib.hid (HA.out.grown hgrow HA.out.size (fun j hj => (O23.out.lt j hj).1)); have O24 := Lib.hid hown; have O14 := Lib.hid ((O13.out.alloc _).kept hgrow AP3.out.symm.ne); have AP4 := Lib.hid ((AP3.out.symm.next (O13.out.alloc (.cells #[.int .u8 92] 5)) hat).symm); clear hown hgrow hat HA))
          go_roundw
          case rel => exact ⟨k + 1, by omega, by go_num, by rw [N1.out]; exact O14.out, by rw [N2.out]; exact O24.out, AP4.out, B4.out⟩
          case measure => simp [intOf]; omega
      · have hlt' : ¬ (k : Int) < 64 := by omega
        obtain rfl : k = 64 := by omega
        have h1 := O1.out
        have h2 := O2.out
        rw [padK_all] at h1 h2
        obtain ⟨g1, c1, rfl⟩ := ownsRow_succ (n := 63) h1
        obtain ⟨g2, c2, rfl⟩ := ownsRow_succ (n := 63) h2
        have hcv1 : ∀ W, Below wr.heap.size wr W → (convert 27 9 (.slice (some ⟨g1, 0, none⟩) 64 c1)).run Tryd.prog W = .ok (.string (ofL (padK (bL key) 54))) W := fun W hW => HC1.out g1 c1 W (fun j n h => by
          have := h1.cells (g := g1) rfl j (.int .u8 (n : Int)) (by simp [byVs, h, byV])
          rw [add_at] at this
          exact (hW.cell (blt this)).trans this)
        have hcv2 : ∀ W, Below wr.heap.size wr W → (convert 27 9 (.slice (some ⟨g2, 0, none⟩) 64 c2)).run Tryd.prog W = .ok (.string (ofL (padK (bL key) 92))) W := fun W hW => HC2.out g2 c2 W (fun j n h => by
          have := h2.cells (g := g2) rfl j (.int .u8 (n : Int)) (by simp [byVs, h, byV])
          rw [add_at] at this
          exact (hW.cell (blt this)).trans this)
        clear HC1 HC2 h1 h2 O1 O2 AP hlt
        generalize ofL (padK (bL key) 54) = IS at *
        generalize ofL (padK (bL key) 92) = OS at *
        have HT := Lib.hid ((HL.out.on B0.out).tabs)
        have n1 : ¬ 9223372036854775807 < IS.size + s.size := by omega
        have n2 : ¬ 9223372036854775807 < OS.size + X.size := by omega
        clear hi1 hi2 hx hs hk
        obtain ⟨U, hU⟩ : ∃ U, U = wr := ⟨_, rfl⟩
        subst hU
        have u0 : Below U.heap.size U U := Below.refl _ U
        have MK := Lib.hid (show ∀ w', Below U.heap.size U w' → Below U.heap.size U w' from fun _ h => h)
        go_wp2_with fail
        refine wp_region_held_drew (S := (fun w' => Below U.heap.size U w')) (by kernel_rfl) ?_ (fun hHeld => ?_)
        · (first | with_reducible assumption | exact MK.out _ (by with_reducible assumption) | exact MK.out _ (below_drew (by with_reducible assumption)))
        refine takeH (i := 0) (some 58) (v := ?_) rfl rfl (by kernel_rfl) (by kernel_rfl) (by kernel_rfl) (fun _ _ _ h => h) (Or.inl ⟨by rfl, ?hy0⟩) hHeld ?rest0
        case hy0 => (intro w hSw; (try dsimp only at hSw); go_simp; (try with_reducible rfl))
        try simp only [Act.put, List.setIfInBounds_toArray, List.set_cons_zero, List.set_cons_succ]
        refine takeH (i := 1) (some 59) (v := ?_) rfl rfl (by kernel_rfl) (by kernel_rfl) (by kernel_rfl) (fun _ _ _ h => h) (Or.inl ⟨by rfl, ?hy1⟩) hHeld ?rest1
        case hy1 => (intro w hSw; (try dsimp only at hSw); go_simp; (try with_reducible rfl))
        try simp only [Act.put, List.setIfInBounds_toArray, List.set_cons_zero, List.set_cons_succ]
        refine takeH (i := 2) (some 60) (v := ?_) rfl rfl (by kernel_rfl) (by kernel_rfl) (by kernel_rfl) (fun _ _ _ h => h) (Or.inl ⟨by rfl, ?hy2⟩) hHeld ?rest2
        case hy2 => (intro w hSw; (try dsimp only at hSw); go_simp; (try with_reducible rfl))
        try simp only [Act.put, List.setIfInBounds_toArray, List.set_cons_zero, List.set_cons_succ]
        refine takeH (i := 3) (some 61) (v := ?_) rfl rfl (by kernel_rfl) (by kernel_rfl) (by kernel_rfl) (fun _ _ _ h => h) (Or.inl ⟨by rfl, ?hy3⟩) hHeld ?rest3
        case hy3 => (intro w hSw; (try dsimp only at hSw); go_simp; (try with_reducible rfl))
        try simp only [Act.put, List.setIfInBounds_toArray, List.set_cons_zero, List.set_cons_succ]
        refine takeH (i := 4) (some 62) (v := ?_) rfl rfl (by kernel_rfl) (by kernel_rfl) (by kernel_rfl) (fun _ _ _ h => h) (Or.inl ⟨by rfl, ?hy4⟩) hHeld ?rest4
        case hy4 => (intro w hSw; (try dsimp only at hSw); go_simp; (try with_reducible rfl))
        try simp only [Act.put, List.setIfInBounds_toArray, List.set_cons_zero, List.set_cons_succ]
        refine takeH (i := 5) (some 63) (v := ?_) rfl rfl (by kernel_rfl) (by kernel_rfl) (by kernel_rfl) (fun _ _ _ h => h) (Or.inl ⟨by rfl, ?hy5⟩) hHeld ?rest5
        case hy5 => (intro w hSw; (try dsimp only at hSw); go_simp; (try with_reducible rfl))
        try simp only [Act.put, List.setIfInBounds_toArray, List.set_cons_zero, List.set_cons_succ]
        refine takeH (i := 6) (some 64) (v := ?_) rfl rfl (by kernel_rfl) (by kernel_rfl) (by kernel_rfl) (fun _ _ _ h => h) (Or.inl ⟨by rfl, ?hy6⟩) hHeld ?rest6
        case hy6 => (intro w hSw; (try dsimp only at hSw); go_simp; (try with_reducible rfl))
        try simp only [Act.put, List.setIfInBounds_toArray, List.set_cons_zero, List.set_cons_succ]
        refine takeH (i := 7) (some 65) (v := ?_) rfl rfl (by kernel_rfl) (by kernel_rfl) (by kernel_rfl) (fun _ _ _ h => h) (Or.inl ⟨by rfl, ?hy7⟩) hHeld ?rest7
        case hy7 => (intro w hSw; (try dsimp only at hSw); go_simp; (try with_reducible rfl))
        try simp only [Act.put, List.setIfInBounds_toArray, List.set_cons_zero, List.set_cons_succ]
        refine takeH (i := 8) (some 66) (v := ?_) rfl rfl (by kernel_rfl) (by kernel_rfl) (by kernel_rfl) (fun _ _ _ h => h) (Or.inl ⟨by rfl, ?hy8⟩) hHeld ?rest8
        case hy8 => (intro w hSw; (try dsimp only at hSw); go_simp; (try with_reducible rfl))
        try simp only [Act.put, List.setIfInBounds_toArray, List.set_cons_zero, List.set_cons_succ]
        refine wpAnyH_ready (rs := [9]) (by kernel_rfl) (by simp) ?_
        refine AllReadyH.cons rfl (fun K hK => ?_) AllReadyH.nil
        go_simp
        with_reducible refine (S1.out _ (HT.out.on hHeld)).mono ?_; rintro e wn ⟨rfl, pB⟩; have sB := btr hHeld pB; clear pB hHeld
        refine hK.out _ _ ?_ (fun hHeld => ?_)
        · (first | with_reducible assumption | exact MK.out _ (by with_reducible assumption) | exact MK.out _ (below_drew (by with_reducible assumption)))
        clear hK K
        try simp only [Act.put, List.setIfInBounds_toArray, List.set_cons_zero, List.set_cons_succ]
        refine takeH (i := 10) (some 68) (v := ?_) rfl rfl (by kernel_rfl) (by kernel_rfl) (by kernel_rfl) (fun _ _ _ h => h) (Or.inl ⟨by rfl, ?hy10⟩) hHeld ?rest10
        case hy10 => (intro w hSw; (try dsimp only at hSw); go_simp; (try with_reducible rfl))
        try simp only [Act.put, List.setIfInBounds_toArray, List.set_cons_zero, List.set_cons_succ]
        refine wpAnyH_ready (rs := [11]) (by kernel_rfl) (by simp) ?_
        refine AllReadyH.cons rfl (fun K hK => ?_) AllReadyH.nil
        go_simp
        with_reducible refine (S2.out _ (HT.out.on hHeld)).mono ?_; rintro e wn ⟨rfl, pB⟩; have sB := btr hHeld pB; clear pB hHeld
        refine hK.out _ _ ?_ (fun hHeld => ?_)
        · (first | with_reducible assumption | exact MK.out _ (by with_reducible assumption) | exact MK.out _ (below_drew (by with_reducible assumption)))
        clear hK K
        try simp only [Act.put, List.setIfInBounds_toArray, List.set_cons_zero, List.set_cons_succ]
        refine takeH (i := 12) (some 70) (v := ?_) rfl rfl (by kernel_rfl) (by kernel_rfl) (by kernel_rfl) (fun _ _ _ h => h) (Or.inl ⟨by rfl, ?hy12⟩) hHeld ?rest12
        case hy12 => (intro w hSw; (try dsimp only at hSw); go_simp; (try with_reducible rfl))
        try simp only [Act.put, List.setIfInBounds_toArray, List.set_cons_zero, List.set_cons_succ]
        refine takeH (i := 13) (some 71) (v := ?_) rfl rfl (by kernel_rfl) (by kernel_rfl) (by kernel_rfl) (fun _ _ _ h => h) (Or.inl ⟨by rfl, ?hy13⟩) hHeld ?rest13
        case hy13 => (intro w hSw; (try dsimp only at hSw); go_simp; (try with_reducible rfl))
        try simp only [Act.put, List.setIfInBounds_toArray, List.set_cons_zero, List.set_cons_succ]
        refine takeH (i := 14) (some 4) (v := ?_) rfl rfl (by kernel_rfl) (by kernel_rfl) (by kernel_rfl) (fun _ _ _ h => h) (Or.inl ⟨by rfl, ?hy14⟩) hHeld ?rest14
        case hy14 => (intro w hSw; (try dsimp only at hSw); go_simp; (try with_reducible rfl))
        try simp only [Act.put, List.setIfInBounds_toArray, List.set_cons_zero, List.set_cons_succ]
        refine wpAnyH_done (by kernel_rfl) ?_ _
        have HB := Lib.hid (btr B0.out hHeld)
        go_wp2
        go_ret
        exact ⟨ret_bool (by first | rfl | simp), HB.out⟩
end Go.Proofs.YtjlpkndbnaknaaaDoor

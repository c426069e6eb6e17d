/- the document's own Unhex. -/
import Derived.Test.YtonicfongjhplaaDoorU
import Derived.Test.YtonicfongjhplaaDoorRA
namespace Go.Proofs.YtonicfongjhplaaDoor
open Go.RowKit Go.Shelf
attribute [local go_sem] Oper.semAt_some

theorem unhex_next (s : ByteArray) (k : Nat) (us : List Nat) (hu : unhexL ((bL s).take (2 * k)) = some us) :
    (2 * k + 1 = s.size → unhexL (bL s) = none) ∧
    (∀ c d, (bL s)[2 * k]? = some c → (bL s)[2 * k + 1]? = some d → (digN c = none ∨ digN d = none → unhexL (bL s) = none) ∧ ∀ m n, digN c = some m → digN d = some n → unhexL ((bL s).take (2 * (k + 1))) = some (us ++ [16 * m + n])) := by
  have hl : (bL s).length = s.size := bL_length s
  have hap : 2 * k ≤ s.size → unhexL (bL s) = match unhexL ((bL s).take (2 * k)), unhexL ((bL s).drop (2 * k)) with
      | some x, some y => some (x ++ y)
      | _, _ => none := fun h => by
    have := unhexL_append ((bL s).take (2 * k)) ((bL s).drop (2 * k)) (by rw [List.length_take, hl]; omega)
    rwa [List.take_append_drop] at this
  refine ⟨fun h => ?_, fun c d hc hd => ?_⟩
  · exact unhexL_odd _ (by rw [hl]; omega)
  · have hlt : 2 * k + 1 < s.size := by
      rw [← hl]
      exact (List.getElem?_eq_some_iff.1 hd).1
    have hdr : (bL s).drop (2 * k) = c :: d :: (bL s).drop (2 * k + 2) := by
      rw [List.drop_eq_getElem_cons (by rw [hl]; omega), List.drop_eq_getElem_cons (by rw [hl]; omega)]
      congr 1
      · exact (List.getElem?_eq_some_iff.1 hc).2
      · congr 1
        exact (List.getElem?_eq_some_iff.1 hd).2
    refine ⟨fun h => ?_, fun m n hm hn => ?_⟩
    · rw [hap (by omega), hu, hdr, unhexL]
      rcases h with h | h
      · rw [h]
      · rw [h]; cases digN c <;> rfl
    · have e : (bL s).take (2 * (k + 1)) = (bL s).take (2 * k) ++ [c, d] := by
        rw [show 2 * (k + 1) = 2 * k + 1 + 1 by omega, List.take_add_one, List.take_add_one, hc, hd, List.append_assoc]
        rfl
      rw [e, unhexL_append _ _ (by rw [List.length_take, hl]; omega), hu, unhexL, hm, hn, unhexL]
theorem conv_by (b : Nat) (h : b < 256) (B : Nat) (w : World) : (convert 42 9 (.slice (some ⟨B, 0, none⟩) 1 1)).run Tryd.prog (w.alloc (.cells #[.int .u8 (b : Int)] 5)) = .ok (.string (ofL [b])) (w.alloc (.cells #[.int .u8 (b : Int)] 5)) → True := fun _ => trivial
theorem conv_newd (b : Nat) (h : b < 256) (w : World) : (convert 42 9 (.slice (some ⟨w.heap.size, 0, none⟩) 1 1)).run Tryd.prog (w.alloc (.cells #[.int .u8 (b : Int)] 5)).drew = .ok (.string (ofL [b])) (w.alloc (.cells #[.int .u8 (b : Int)] 5)).drew :=
  conv_cells [b] (by simpa using h) w.heap.size 1 _ (fun j n hj => (BysAt.new [b] w).cell hj)
theorem conv_new (b : Nat) (h : b < 256) (w : World) : (convert 42 9 (.slice (some ⟨w.heap.size, 0, none⟩) 1 1)).run Tryd.prog (w.alloc (.cells #[.int .u8 (b : Int)] 5)) = .ok (.string (ofL [b])) (w.alloc (.cells #[.int .u8 (b : Int)] 5)) :=
  conv_cells [b] (by simpa using h) w.heap.size 1 _ (fun j n hj => (BysAt.new [b] w).cell hj)
set_option maxRecDepth 100000 in
set_option maxHeartbeats 8000000 in
theorem rUnhex_c (s : ByteArray) (hs : s.size ≤ 100000) (w : World) : Calls Tryd.prog 16 #[.string s] w fun r w' => r = .returned (.tuple #[.string (unS s), .int .i64 (unE s)]) ∧ Below w.heap.size w w' := by
  have HD := Lib.hid (fun c h W => digit_c c h W)
  go_enter Tryd.func16, Tryd.ntmps16
  go_wp2
  go_loopw [4, 5] (fun o i wr => ∃ k : Nat, 2 * k ≤ s.size + 1 ∧ i = .int .i64 ((2 * k : Nat) : Int) ∧ (∃ O : ByteArray, o = .string O ∧ ∃ us, Hid (2 * k ≤ s.size → unhexL ((bL s).take (2 * k)) = some us ∧ O = ofL us)) ∧ Hid (2 * k ≤ s.size) ∧ Hid (Below w.heap.size w wr)) (fun _ i _ => s.size + 2 - (intOf i).toNat)
  case atStart => exact ⟨0, by omega, rfl, ⟨_, rfl, [], Lib.hid (fun _ => ⟨rfl, rfl⟩)⟩, Lib.hid (by omega), Lib.hid (Below.refl _ _)⟩
  case round =>
    obtain ⟨k, hk, rfl, ⟨O, rfl, us, hO⟩, hk2, hbk⟩ := hrel
    obtain ⟨hu, hOo⟩ := hO.out hk2.out
    obtain ⟨ho, hx⟩ := unhex_next s k us hu
    have c0 : ((2 * k : Nat) : Int) = 2 * (k : Int) := by omega
    by_cases hlt : 2 * k < s.size
    · have hlt' : 2 * (k : Int) < (s.size : Int) := by omega
      have w1 : IntKind.i64.wrap (2 * (k : Int) + 1) = 2 * (k : Int) + 1 := IntWalk.i64_in _ (by omega)
      by_cases hodd : 2 * k + 1 = s.size
      · have HE := Lib.hid (un_none (ho hodd))
        have hge : (s.size : Int) ≤ 2 * (k : Int) + 1 := by omega
        clear hx ho hu hOo hO hodd
        go_wp2
        go_ret2
        refine ⟨?_, hbk.out⟩
        rw [HE.out.1, HE.out.2]
        rfl
      · have hge : ¬ (s.size : Int) ≤ 2 * (k : Int) + 1 := by omega
        have hlt2 : 2 * k + 1 < s.size := by omega
        have hlt2' : 2 * (k : Int) + 1 < (s.size : Int) := by omega
        have hb1 := bL_get s (2 * k) hlt
        have hb2 := bL_get s (2 * k + 1) hlt2
        obtain ⟨hn, hs2⟩ := hx _ _ hb1 hb2
        have l1 := (s[2 * k]'hlt).toNat_lt
        have l2 := (s[2 * k + 1]'hlt2).toNat_lt
        have HD1 := Lib.hid (HD.out _ l1)
        have HD2 := Lib.hid (HD.out _ l2)
        obtain ⟨c, hc⟩ : ∃ c, (s[2 * k]'hlt).toNat = c := ⟨_, rfl⟩
        obtain ⟨d, hd⟩ : ∃ d, (s[2 * k + 1]'hlt2).toNat = d := ⟨_, rfl⟩
        rw [hc] at HD1 hn hs2
        rw [hd] at HD2 hn hs2
        clear hx ho hu hO hodd hb1 hb2 l1 l2 HD
        cases hdc : digN c with
        | none =>
          have HE := Lib.hid (un_none (hn (.inl hdc)))
          rw [digI_none hdc] at HD1
          clear hn hs2 hOo hdc
          go_wp2_with (first | (with_reducible refine (HD1.out _).mono ?_; rintro e wa ⟨rfl, rfl⟩))
          go_ret2
          refine ⟨?_, hbk.out⟩
          rw [HE.out.1, HE.out.2]
          rfl
        | some m =>
          rw [digI_some hdc] at HD1
          cases hdd : digN d with
          | none =>
            have HE := Lib.hid (un_none (hn (.inr hdd)))
            rw [digI_none hdd] at HD2
            clear hn hs2 hOo hdc hdd
            go_wp2_with (first | (with_reducible refine (HD1.out _).mono ?_; rintro e wa ⟨rfl, rfl⟩) | (with_reducible refine (HD2.out _).mono ?_; rintro e wa ⟨rfl, rfl⟩))
            go_ret2
            refine ⟨?_, hbk.out⟩
            rw [HE.out.1, HE.out.2]
            rfl
          | some n =>
            rw [digI_some hdd] at HD2
            have hm16 := (digC_digN hdc).2
            have hn16 := (digC_digN hdd).2
            have HU := Lib.hid (hs2 m n hdc hdd)
            have hOz : O.size ≤ s.size := by
              have hq := hexL_unhexL _ _ (hs2 m n hdc hdd)
              rw [List.length_take, bL_length, List.length_append] at hq
              have := hq.2.1
              rw [hOo, ofL_size]
              simp at this
              omega
            have HOo := Lib.hid hOo
            clear hn hs2 hOo hdc hdd
            obtain ⟨v, hv⟩ : ∃ v, 16 * m + n = v := ⟨_, rfl⟩
            have hv256 : v < 256 := by omega
            have e1 : IntKind.i64.wrap (16 * (m : Int)) = 16 * (m : Int) := IntWalk.i64_in _ (by omega)
            have e2 : 16 * (m : Int) + (n : Int) = (v : Int) := by omega
            have e3 : IntKind.i64.wrap (v : Int) = (v : Int) := IntWalk.i64_in _ (by omega)
            have e4 : IntKind.u8.wrap (v : Int) = (v : Int) := by show (v : Int) % 256 = _; omega
            have e5 : (v : Int) % 256 = (v : Int) := by omega
            have e6 : IntKind.i64.wrap (2 * (k : Int) + 2) = 2 * (k : Int) + 2 := IntWalk.i64_in _ (by omega)
            have t1 : (2 * (k : Int)).toNat = 2 * k := by omega
            have t2 : (2 * (k : Int) + 1).toNat = 2 * k + 1 := by omega
            have k00 : (0 : Int) ≤ 2 * (k : Int) := by omega
            have k01 : (0 : Int) ≤ 2 * (k : Int) + 1 := by omega
            have m0 : ¬ (m : Int) < 0 := by omega
            have n0 : ¬ (n : Int) < 0 := by omega
            have HCV := Lib.hid (fun W => conv_newd v hv256 W)
            rw [hv] at HU
            have HO2 := Lib.hid (show ofL (us ++ [v]) = O ++ ofL [v] by rw [ofL_append, HOo.out])
            have z1 : (ofL [v]).size = 1 := ofL_size _
            obtain ⟨A1, hA1⟩ : ∃ A, ofL [v] = A := ⟨_, rfl⟩
            rw [hA1] at HO2 z1
            have HCV2 : RowKit.Hid (∀ W : World, (convert 42 9 (.slice (some ⟨W.heap.size, 0, none⟩) 1 1)).run Tryd.prog (W.alloc (.cells #[.int .u8 (v : Int)] 5)).drew = .ok (.string A1) (W.alloc (.cells #[.int .u8 (v : Int)] 5)).drew) := Lib.hid (fun W => by rw [← hA1]; exact HCV.out W)
            clear hA1 HCV
            have n1 : ¬ 9223372036854775807 < O.size + A1.size := by omega
            clear hv z1 hOz
            have HCVv := fun W => HCV2.out W
            go_wp2_with (first | (with_reducible refine (HD1.out _).mono ?_; rintro e wa ⟨rfl, rfl⟩) | (with_reducible refine (HD2.out _).mono ?_; rintro e wa ⟨rfl, rfl⟩))
            refine wp_region_held_drew (S := (fun _ => True)) (by kernel_rfl) ?_ (fun hHeld => ?_)
            · exact trivial
            refine takeH (i := 0) (some 32) (v := ?_) rfl rfl (by kernel_rfl) (by kernel_rfl) (by kernel_rfl) (fun _ _ _ h => h) (Or.inl ⟨by rfl, ?hyU0⟩) hHeld ?restU0
            case hyU0 => (intro w hSw; (try dsimp only at hSw); go_simp; (try with_reducible rfl))
            try simp only [Act.put, List.setIfInBounds_toArray, List.set_cons_zero, List.set_cons_succ]
            refine takeH (i := 1) (some 33) (v := ?_) rfl rfl (by kernel_rfl) (by kernel_rfl) (by kernel_rfl) (fun _ _ _ h => h) (Or.inl ⟨by rfl, ?hyU1⟩) hHeld ?restU1
            case hyU1 => (intro w hSw; (try dsimp only at hSw); go_simp; (try with_reducible rfl))
            try simp only [Act.put, List.setIfInBounds_toArray, List.set_cons_zero, List.set_cons_succ]
            refine takeH (i := 2) (some 34) (v := ?_) rfl rfl (by kernel_rfl) (by kernel_rfl) (by kernel_rfl) (fun _ _ _ h => h) (Or.inl ⟨by rfl, ?hyU2⟩) hHeld ?restU2
            case hyU2 => (intro w hSw; (try dsimp only at hSw); go_simp; (try with_reducible rfl))
            try simp only [Act.put, List.setIfInBounds_toArray, List.set_cons_zero, List.set_cons_succ]
            refine takeH (i := 3) (some 35) (v := ?_) rfl rfl (by kernel_rfl) (by kernel_rfl) (by kernel_rfl) (fun _ _ _ h => h) (Or.inl ⟨by rfl, ?hyU3⟩) hHeld ?restU3
            case hyU3 => (intro w hSw; (try dsimp only at hSw); go_simp; (try with_reducible rfl))
            try simp only [Act.put, List.setIfInBounds_toArray, List.set_cons_zero, List.set_cons_succ]
            refine takeH (i := 6) (some 38) (v := ?_) rfl rfl (by kernel_rfl) (by kernel_rfl) (by kernel_rfl) (fun _ _ _ h => h) (Or.inl ⟨by rfl, ?hyU6⟩) hHeld ?restU6
            case hyU6 => (intro w hSw; (try dsimp only at hSw); go_simp; (try with_reducible rfl))
            try simp only [Act.put, List.setIfInBounds_toArray, List.set_cons_zero, List.set_cons_succ]
            refine takeH (i := 7) (some 39) (v := ?_) rfl rfl (by kernel_rfl) (by kernel_rfl) (by kernel_rfl) (fun _ _ _ h => h) (Or.inl ⟨by rfl, ?hyU7⟩) hHeld ?restU7
            case hyU7 => (intro w hSw; (try dsimp only at hSw); go_simp; (try with_reducible rfl))
            try simp only [Act.put, List.setIfInBounds_toArray, List.set_cons_zero, List.set_cons_succ]
            refine takeH (i := 8) (some 40) (v := ?_) rfl rfl (by kernel_rfl) (by kernel_rfl) (by kernel_rfl) (fun _ _ _ h => h) (Or.inl ⟨by rfl, ?hyU8⟩) hHeld ?restU8
            case hyU8 => (intro w hSw; (try dsimp only at hSw); go_simp; (try with_reducible rfl))
            try simp only [Act.put, List.setIfInBounds_toArray, List.set_cons_zero, List.set_cons_succ]
            refine takeH (i := 9) (some 41) (v := ?_) rfl rfl (by kernel_rfl) (by kernel_rfl) (by kernel_rfl) (fun _ _ _ h => h) (Or.inl ⟨by rfl, ?hyU9⟩) hHeld ?restU9
            case hyU9 => (intro w hSw; (try dsimp only at hSw); go_simp; (try with_reducible rfl))
            try simp only [Act.put, List.setIfInBounds_toArray, List.set_cons_zero, List.set_cons_succ]
            refine wpAnyH_ready (rs := [4]) (by kernel_rfl) (by simp) ?_
            refine AllReadyH.cons rfl (fun K hK => ?_) AllReadyH.nil
            go_simp
            with_reducible refine (HD1.out _).mono ?_; rintro e wa ⟨rfl, rfl⟩
            refine hK.out _ _ ?_ (fun hHeld => ?_)
            · exact trivial
            clear hK K
            try simp only [Act.put, List.setIfInBounds_toArray, List.set_cons_zero, List.set_cons_succ]
            refine takeH (i := 5) (some 37) (v := ?_) rfl rfl (by kernel_rfl) (by kernel_rfl) (by kernel_rfl) (fun _ _ _ h => h) (Or.inl ⟨by rfl, ?hyU5⟩) hHeld ?restU5
            case hyU5 => (intro w hSw; (try dsimp only at hSw); go_simp; (try with_reducible rfl))
            try simp only [Act.put, List.setIfInBounds_toArray, List.set_cons_zero, List.set_cons_succ]
            refine wpAnyH_ready (rs := [10]) (by kernel_rfl) (by simp) ?_
            refine AllReadyH.cons rfl (fun K hK => ?_) AllReadyH.nil
            go_simp
            with_reducible refine (HD2.out _).mono ?_; rintro e wb ⟨rfl, rfl⟩
            refine hK.out _ _ ?_ (fun hHeld => ?_)
            · exact trivial
            clear hK K
            try simp only [Act.put, List.setIfInBounds_toArray, List.set_cons_zero, List.set_cons_succ]
            refine takeH (i := 11) (some 43) (v := ?_) rfl rfl (by kernel_rfl) (by kernel_rfl) (by kernel_rfl) (fun _ _ _ h => h) (Or.inl ⟨by rfl, ?hyU11⟩) hHeld ?restU11
            case hyU11 => (intro w hSw; (try dsimp only at hSw); go_simp; (try with_reducible rfl))
            try simp only [Act.put, List.setIfInBounds_toArray, List.set_cons_zero, List.set_cons_succ]
            refine takeH (i := 12) (some 44) (v := ?_) rfl rfl (by kernel_rfl) (by kernel_rfl) (by kernel_rfl) (fun _ _ _ h => h) (Or.inl ⟨by rfl, ?hyU12⟩) hHeld ?restU12
            case hyU12 => (intro w hSw; (try dsimp only at hSw); go_simp; (try with_reducible rfl))
            try simp only [Act.put, List.setIfInBounds_toArray, List.set_cons_zero, List.set_cons_succ]
            refine wpAnyH_ready (rs := [13]) (by kernel_rfl) (by simp) ?_
            refine AllReadyH.cons rfl (fun K hK => ?_) AllReadyH.nil
            go_simp
            refine hK.out _ _ ?_ (fun hHeld => ?_)
            · exact trivial
            clear hK K
            try simp only [Act.put, List.setIfInBounds_toArray, List.set_cons_zero, List.set_cons_succ]
            refine wpAnyH_ready (rs := [14]) (by kernel_rfl) (by simp) ?_
            refine AllReadyH.cons rfl (fun K hK => ?_) AllReadyH.nil
            go_simp
            refine hK.out _ _ ?_ (fun hHeld => ?_)
            · exact trivial
            clear hK K
            try simp only [Act.put, List.setIfInBounds_toArray, List.set_cons_zero, List.set_cons_succ]
            refine takeH (i := 15) (some 47) (v := ?_) rfl rfl (by kernel_rfl) (by kernel_rfl) (by kernel_rfl) (fun _ _ _ h => h) (Or.inl ⟨by rfl, ?hyU15⟩) hHeld ?restU15
            case hyU15 => (intro w hSw; (try dsimp only at hSw); go_simp; (try with_reducible rfl))
            try simp only [Act.put, List.setIfInBounds_toArray, List.set_cons_zero, List.set_cons_succ]
            refine takeH (i := 16) (some 4) (v := ?_) rfl rfl (by kernel_rfl) (by kernel_rfl) (by kernel_rfl) (fun _ _ _ h => h) (Or.inl ⟨by rfl, ?hyU16⟩) hHeld ?restU16
            case hyU16 => (intro w hSw; (try dsimp only at hSw); go_simp; (try with_reducible rfl))
            try simp only [Act.put, List.setIfInBounds_toArray, List.set_cons_zero, List.set_cons_succ]
            refine wpAnyH_done (by kernel_rfl) ?_ _
            have HRel : ∃ us', RowKit.Hid (2 * (k + 1) ≤ s.size → unhexL ((bL s).take (2 * (k + 1))) = some us' ∧ O ++ A1 = ofL us') := ⟨us ++ [v], Lib.hid (fun _ => ⟨HU.out, HO2.out.symm⟩)⟩
            clear e1 e3 e4 e5 e6
            go_wp2
            go_roundw
            case rel => exact ⟨k + 1, by omega, by go_num, ⟨_, rfl, HRel⟩, Lib.hid (by omega), Lib.hid (by first | exact below_drew (bal (below_drew hbk.out) _) | exact bal (below_drew hbk.out) _ | exact below_drew (bal hbk.out _) | exact below_drew (bal (below_drew (below_drew hbk.out)) _))⟩
            case measure => simp [intOf]; omega
    · have hlt' : ¬ 2 * (k : Int) < (s.size : Int) := by omega
      have hkk : 2 * k = s.size := by have := hk2.out; omega
      rw [hkk, ← bL_length, List.take_length] at hu
      have HE := Lib.hid (un_some hu)
      have HOo := Lib.hid hOo
      clear hx ho hu hOo hO
      go_wp2
      go_ret2
      refine ⟨?_, hbk.out⟩
      rw [HE.out.1, HE.out.2, ← HOo.out]
      rfl
end Go.Proofs.YtonicfongjhplaaDoor

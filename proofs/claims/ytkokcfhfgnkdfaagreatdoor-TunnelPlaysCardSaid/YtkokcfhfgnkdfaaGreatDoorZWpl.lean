/- Wpl -/
import Derived.Test.YtkokcfhfgnkdfaaGreatDoorZ9
import Derived.Test.YtkokcfhfgnkdfaaGreatDoorZWcr
import Derived.Test.YtkokcfhfgnkdfaaGreatDoorZWal
import Derived.Test.YtkokcfhfgnkdfaaGreatDoorZ13
import Derived.Test.YtkokcfhfgnkdfaaGreatDoorZ4
/- The law: calls, one by one. -/
namespace Go.Proofs.YtkokcfhfgnkdfaaGreatDoor.L17
open Go.RowKit Go.Shelf
open L1 (str)
open L14 (isSt goes dest inB outB endB Laid)
attribute [local go_sem] Oper.semAt_some
set_option maxRecDepth 100000 in
set_option maxHeartbeats 4000000 in
theorem plays_ok (n : Nat) (h1 : 1 ≤ n) (h2 : n ≤ 4096) (a : Option Addr) (c : Nat) (xs : List OpV) (w : World) (hx : xs.length ≤ 9223372036854775807) (hA : OpVAt w.heap.size w a xs) (hL : Laid w) :
    Calls Tryz.prog 3 #[.int .i64 (n : Int), .slice a xs.length c] w fun e w' => e = .returned (.bool true) ∧ Below w.heap.size w w' := by
  have HSh := Lib.hid (shown_c w hL)
  have HL0 := Lib.hid hL
  have HA := Lib.hid hA
  clear hA
  clear hL
  go_enter Tryz.func3, Tryz.ntmps3
  go_wp2_with fail
  go_at_call 10
  refine HSh.out.mono ?_
  rintro e v0 ⟨rfl, hb⟩
  have HB0 := Lib.hid hb
  have HLv0 := Lib.hid (HL0.out.on hb)
  clear hb
  go_wp2_with fail
  have hc := Cut_s a c xs hx v0 (HA.out.on HB0.out)
  go_at_call 11
  refine hc.mono ?_
  clear hc
  rintro e v1 ⟨az, cz, rfl, hoz, hb⟩
  have HO := Lib.hid hoz
  have HLv1 := Lib.hid (HLv0.out.on hb)
  have HB1 := Lib.hid (btr HB0.out hb)
  have hln := cutL_len xs
  have HZ := Lib.hid (And.intro (cutL_size xs) hln)
  obtain ⟨zs, hzs⟩ : ∃ zs, cutL xs = zs := ⟨_, rfl⟩
  rw [hzs] at HO HZ hln ⊢
  clear hoz hb hzs
  go_wp2_with fail
  have hc := tnew_ok n h1 h2 v1 HLv1.out
  go_at_call 12
  refine hc.mono ?_
  clear hc
  rintro e v2 ⟨rfl, ht, hb⟩
  obtain ⟨T, hT⟩ : ∃ T, v1.heap.size = T := ⟨_, rfl⟩
  have HB2 := Lib.hid (btr HB1.out hb)
  have HO2 := Lib.hid (HO.out.below hb)
  have HLv2 := Lib.hid (HLv1.out.on hb)
  have lg : 0 < T := by rw [← hT]; exact blt HLv1.out
  have hTz := HB1.out.size
  have hTs := hb.size
  rw [hT] at ht HO2 hTz hTs ⊢
  obtain ⟨hi, hhi⟩ : ∃ hi, v2.heap.size = hi := ⟨_, rfl⟩
  rw [hhi] at ht hTs
  have HTn2 := Lib.hid ht
  clear ht hb HO
  go_wp2_with fail
  have hc := rtnew_ok n h1 h2 v2
  go_at_call 13
  refine hc.mono ?_
  clear hc
  rintro e v3 ⟨R, hj, rfl, hr, hRz, hb⟩
  rw [hhi] at hRz
  have HB3 := Lib.hid (btr HB2.out hb)
  have HO3 := Lib.hid (HO2.out.below (hb.mono (by rw [hhi]; exact hTs)))
  have HLv3 := Lib.hid (HLv2.out.on hb)
  have HTn3 := Lib.hid (HTn2.out.below hb)
  have HRn3 := Lib.hid hr
  have hz3 := hb.size
  rw [hhi] at hz3
  clear hr hb HO2 HTn2 HLv2 HB2
  go_wp2_with fail
  go_loopw [10] (fun i wr => ∃ (k : Nat) (t : Tn), k ≤ zs.length ∧ i = .int .i64 (k : Int) ∧ Hid (TunAt wr T hi n t) ∧ Hid (RefAt wr R hj n t) ∧ Hid (t.Cn (50 * k)) ∧ Hid (Goes (fun i => T ≤ i) v3 wr)) (fun i _ => zs.length - (intOf i).toNat)
  case atStart => exact ⟨0, Tn.new, Nat.zero_le _, rfl, HTn3, HRn3, Lib.hid new_cn, Lib.hid (Goes.refl _ _)⟩
  case round =>
    obtain ⟨k, t, hk, rfl, HT, HR, HC, HG⟩ := hrel
    by_cases hlt : k < zs.length
    · have hlt' : (k : Int) < (zs.length : Int) := by omega
      obtain ⟨b, off, rfl, hbn, d0, d1, d2, d3⟩ := (HO3.out.goes HG.out (fun i h => h)) k hlt
      have hxs := HZ.out.1 zs[k] (List.getElem_mem hlt)
      have HLr : Hid (Laid wr) := Lib.hid (HG.out.cell HLv3.out (fun e => by omega))
      generalize zs[k] = x at *
      have hCs := HC.out.sm (by omega)
      have HD := Lib.hid (fun W h hl => do_c T hi n t x (by omega) hCs W h hl)
      have HW := Lib.hid (fun W h => want_c R hj n t x (by omega) hCs W h)
      have HC2 := Lib.hid (HC.out.step (cap := n) x hxs)
      unfold opV at HD HW
      obtain ⟨N6, hN6⟩ : ∃ v : Int, (doN n t x : Int) = v := ⟨_, rfl⟩
      rw [hN6] at HD HW
      generalize str (doS t x) = S6 at *
      generalize doE t x = E6 at *
      generalize doT n t x = t2 at *
      have HSm := Lib.hid (fun d W h k => same_c T hi R hj n t2 d W h k hRz)
      have HSt := Lib.hid (fun W h => tstate_c T hi n t2 W h)
      have nb : ¬ Rin T hi b := fun e => by have := e.1; omega
      have nc : ¬ Rin R hj b := fun e => by have := e.1; omega
      have nR : ¬ Rin T hi R := fun e => by have := e.2; omega
      clear HC hxs hCs hN6
      go_wp2_with fail
      refine wp_region_held_drew (S := fun w' => w'.cell? ⟨b, off + k * 4, none⟩ = some (.int .i64 x.kind) ∧ w'.cell? ⟨b, off + k * 4 + 1, none⟩ = some (.int .i64 x.side) ∧ w'.cell? ⟨b, off + k * 4 + 2, none⟩ = some (.int .i64 x.n) ∧ w'.cell? ⟨b, off + k * 4 + 3, none⟩ = some (.string x.s)) (by kernel_rfl) ?_ (fun hHeld => ?_)
      · exact ⟨d0, d1, d2, d3⟩
      refine takeH (i := 0) (some 51) (v := ?_) rfl rfl (by kernel_rfl) (by kernel_rfl) (by kernel_rfl) (fun _ _ _ h => h) (Or.inl ⟨by rfl, ?hypl0⟩) hHeld ?restpl0
      case hypl0 => (intro w hSw; (try dsimp only at hSw); go_simp; (try with_reducible rfl))
      try simp only [Act.put, List.setIfInBounds_toArray, List.set_cons_zero, List.set_cons_succ]
      refine takeH (i := 1) (some 52) (v := ?_) rfl rfl (by kernel_rfl) (by kernel_rfl) (by kernel_rfl) (fun _ _ _ h => h) (Or.inl ⟨by rfl, ?hypl1⟩) hHeld ?restpl1
      case hypl1 => (intro w hSw; (try dsimp only at hSw); go_simp; (try with_reducible rfl))
      try simp only [Act.put, List.setIfInBounds_toArray, List.set_cons_zero, List.set_cons_succ]
      refine takeH (i := 2) (some 53) (v := ?_) rfl rfl (by kernel_rfl) (by kernel_rfl) (by kernel_rfl) (fun _ _ _ h => h) (Or.inl ⟨by rfl, ?hypl2⟩) hHeld ?restpl2
      case hypl2 => (intro w hSw; (try dsimp only at hSw); go_simp; (try with_reducible rfl))
      try simp only [Act.put, List.setIfInBounds_toArray, List.set_cons_zero, List.set_cons_succ]
      refine takeH (i := 3) (some 54) (v := ?_) rfl rfl (by kernel_rfl) (by kernel_rfl) (by kernel_rfl) (fun _ _ _ h => h) (Or.inl ⟨by rfl, ?hypl3⟩) hHeld ?restpl3
      case hypl3 => (intro w hSw; (try dsimp only at hSw); go_simp; (try with_reducible rfl))
      try simp only [Act.put, List.setIfInBounds_toArray, List.set_cons_zero, List.set_cons_succ]
      refine takeH (i := 4) (some 55) (v := ?_) rfl rfl (by kernel_rfl) (by kernel_rfl) (by kernel_rfl) (fun _ _ _ h => h) (Or.inl ⟨by rfl, ?hypl4⟩) hHeld ?restpl4
      case hypl4 => (intro w hSw; (try dsimp only at hSw); go_simp; (try with_reducible rfl))
      try simp only [Act.put, List.setIfInBounds_toArray, List.set_cons_zero, List.set_cons_succ]
      refine takeH (i := 6) (some 57) (v := ?_) rfl rfl (by kernel_rfl) (by kernel_rfl) (by kernel_rfl) (fun _ _ _ h => h) (Or.inl ⟨by rfl, ?hypl6⟩) hHeld ?restpl6
      case hypl6 => (intro w hSw; (try dsimp only at hSw); go_simp; (try with_reducible rfl))
      try simp only [Act.put, List.setIfInBounds_toArray, List.set_cons_zero, List.set_cons_succ]
      refine takeH (i := 7) (some 58) (v := ?_) rfl rfl (by kernel_rfl) (by kernel_rfl) (by kernel_rfl) (fun _ _ _ h => h) (Or.inl ⟨by rfl, ?hypl7⟩) hHeld ?restpl7
      case hypl7 => (intro w hSw; (try dsimp only at hSw); go_simp; (try with_reducible rfl))
      try simp only [Act.put, List.setIfInBounds_toArray, List.set_cons_zero, List.set_cons_succ]
      refine takeH (i := 8) (some 59) (v := ?_) rfl rfl (by kernel_rfl) (by kernel_rfl) (by kernel_rfl) (fun _ _ _ h => h) (Or.inl ⟨by rfl, ?hypl8⟩) hHeld ?restpl8
      case hypl8 => (intro w hSw; (try dsimp only at hSw); go_simp; (try with_reducible rfl))
      try simp only [Act.put, List.setIfInBounds_toArray, List.set_cons_zero, List.set_cons_succ]
      refine takeH (i := 9) (some 60) (v := ?_) rfl rfl (by kernel_rfl) (by kernel_rfl) (by kernel_rfl) (fun _ _ _ h => h) (Or.inl ⟨by rfl, ?hypl9⟩) hHeld ?restpl9
      case hypl9 => (intro w hSw; (try dsimp only at hSw); go_simp; (try with_reducible rfl))
      try simp only [Act.put, List.setIfInBounds_toArray, List.set_cons_zero, List.set_cons_succ]
      refine takeH (i := 10) (some 61) (v := ?_) rfl rfl (by kernel_rfl) (by kernel_rfl) (by kernel_rfl) (fun _ _ _ h => h) (Or.inl ⟨by rfl, ?hypl10⟩) hHeld ?restpl10
      case hypl10 => (intro w hSw; (try dsimp only at hSw); go_simp; (try with_reducible rfl))
      try simp only [Act.put, List.setIfInBounds_toArray, List.set_cons_zero, List.set_cons_succ]
      refine wpAnyH_ready (rs := [5]) (by kernel_rfl) (by simp) ?_
      refine AllReadyH.cons rfl (fun K hK => ?_) AllReadyH.nil
      go_simp
      refine (HD.out _ (HT.out.below (below_drew (Below.refl _ _))) (HLr.out.on (below_drew (Below.refl _ _)))).mono ?_
      rintro e w6 ⟨rfl, ht, hg⟩
      have HT6 := Lib.hid ht
      have HR6 := Lib.hid ((HR.out.below (below_drew (Below.refl _ _))).goes hg (fun i h e => by have := h.1; have := e.2; omega))
      have HG6 := Lib.hid ((HG.out.trans (Goes.of_below (below_drew (Below.refl _ _)))).trans (hg.mono (fun i h => h.1)))
      refine hK.out _ _ ⟨hg.cell hHeld.1 nb, hg.cell hHeld.2.1 nb, hg.cell hHeld.2.2.1 nb, hg.cell hHeld.2.2.2 nb⟩ (fun hHeld => ?_)
      clear hK K
      try simp only [Act.put, List.setIfInBounds_toArray, List.set_cons_zero, List.set_cons_succ]
      refine wpAnyH_ready (rs := [11]) (by kernel_rfl) (by simp) ?_
      refine AllReadyH.cons rfl (fun K hK => ?_) AllReadyH.nil
      go_simp
      refine (HW.out _ HR6.out).mono ?_
      rintro e w7 ⟨rfl, hr, hg7⟩
      have HT7 := Lib.hid (HT6.out.goes hg7 (fun i h e => by have := h.2; have := e.1; omega))
      have HR7 := Lib.hid hr
      have HG7 := Lib.hid (HG6.out.trans (hg7.mono (fun i h => by have := h.1; omega)))
      have hrc : w7.cell? ⟨R, 0, none⟩ = some (.int .i64 t2.st) := by obtain ⟨_, _, _, q⟩ := hr; exact q.c0
      refine hK.out _ _ ⟨hg7.cell hHeld.1 nc, hg7.cell hHeld.2.1 nc, hg7.cell hHeld.2.2.1 nc, hg7.cell hHeld.2.2.2 nc⟩ (fun hHeld => ?_)
      clear hK K
      try simp only [Act.put, List.setIfInBounds_toArray, List.set_cons_zero, List.set_cons_succ]
      refine wpAnyH_narrow (S2 := fun w' => w'.cell? ⟨b, off + k * 4, none⟩ = some (.int .i64 x.kind) ∧ w'.cell? ⟨b, off + k * 4 + 1, none⟩ = some (.int .i64 x.side) ∧ w'.cell? ⟨b, off + k * 4 + 2, none⟩ = some (.int .i64 x.n) ∧ w'.cell? ⟨b, off + k * 4 + 3, none⟩ = some (.string x.s) ∧ w'.cell? ⟨R, 0, none⟩ = some (.int .i64 t2.st)) (fun w h => ⟨h.1, h.2.1, h.2.2.1, h.2.2.2.1⟩) _ _ _ _ ?_
      replace hHeld := (show w7.cell? ⟨b, off + k * 4, none⟩ = some (.int .i64 x.kind) ∧ w7.cell? ⟨b, off + k * 4 + 1, none⟩ = some (.int .i64 x.side) ∧ w7.cell? ⟨b, off + k * 4 + 2, none⟩ = some (.int .i64 x.n) ∧ w7.cell? ⟨b, off + k * 4 + 3, none⟩ = some (.string x.s) ∧ w7.cell? ⟨R, 0, none⟩ = some (.int .i64 t2.st) from ⟨hHeld.1, hHeld.2.1, hHeld.2.2.1, hHeld.2.2.2, hrc⟩)
      refine takeH (i := 12) (some 63) (v := ?_) rfl rfl (by kernel_rfl) (by kernel_rfl) (by kernel_rfl) (fun _ _ _ h => h) (Or.inl ⟨by rfl, ?hypl12⟩) hHeld ?restpl12
      case hypl12 => (intro w hSw; (try dsimp only at hSw); go_simp; (try with_reducible rfl))
      try simp only [Act.put, List.setIfInBounds_toArray, List.set_cons_zero, List.set_cons_succ]
      refine takeH (i := 13) (some 64) (v := ?_) rfl rfl (by kernel_rfl) (by kernel_rfl) (by kernel_rfl) (fun _ _ _ h => h) (Or.inl ⟨by rfl, ?hypl13⟩) hHeld ?restpl13
      case hypl13 => (intro w hSw; (try dsimp only at hSw); go_simp; (try with_reducible rfl))
      try simp only [Act.put, List.setIfInBounds_toArray, List.set_cons_zero, List.set_cons_succ]
      refine takeH (i := 14) (some 65) (v := ?_) rfl rfl (by kernel_rfl) (by kernel_rfl) (by kernel_rfl) (fun _ _ _ h => h) (Or.inl ⟨by rfl, ?hypl14⟩) hHeld ?restpl14
      case hypl14 => (intro w hSw; (try dsimp only at hSw); go_simp; (try with_reducible rfl))
      try simp only [Act.put, List.setIfInBounds_toArray, List.set_cons_zero, List.set_cons_succ]
      refine takeH (i := 16) (some 67) (v := ?_) rfl rfl (by kernel_rfl) (by kernel_rfl) (by kernel_rfl) (fun _ _ _ h => h) (Or.inl ⟨by rfl, ?hypl16⟩) hHeld ?restpl16
      case hypl16 => (intro w hSw; (try dsimp only at hSw); go_simp; (try with_reducible rfl))
      try simp only [Act.put, List.setIfInBounds_toArray, List.set_cons_zero, List.set_cons_succ]
      refine takeH (i := 17) (some 68) (v := ?_) rfl rfl (by kernel_rfl) (by kernel_rfl) (by kernel_rfl) (fun _ _ _ h => h) (Or.inl ⟨by rfl, ?hypl17⟩) hHeld ?restpl17
      case hypl17 => (intro w hSw; (try dsimp only at hSw); go_simp; (try with_reducible rfl))
      try simp only [Act.put, List.setIfInBounds_toArray, List.set_cons_zero, List.set_cons_succ]
      refine takeH (i := 18) (some 69) (v := ?_) rfl rfl (by kernel_rfl) (by kernel_rfl) (by kernel_rfl) (fun _ _ _ h => h) (Or.inl ⟨by rfl, ?hypl18⟩) hHeld ?restpl18
      case hypl18 => (intro w hSw; (try dsimp only at hSw); go_simp; (try with_reducible rfl))
      try simp only [Act.put, List.setIfInBounds_toArray, List.set_cons_zero, List.set_cons_succ]
      refine takeH (i := 19) (some 70) (v := ?_) rfl rfl (by kernel_rfl) (by kernel_rfl) (by kernel_rfl) (fun _ _ _ h => h) (Or.inl ⟨by rfl, ?hypl19⟩) hHeld ?restpl19
      case hypl19 => (intro w hSw; (try dsimp only at hSw); go_simp; (try with_reducible rfl))
      try simp only [Act.put, List.setIfInBounds_toArray, List.set_cons_zero, List.set_cons_succ]
      refine wpAnyH_ready (rs := [15]) (by kernel_rfl) (by simp) ?_
      refine AllReadyH.cons rfl (fun K hK => ?_) AllReadyH.nil
      go_simp
      refine (HSt.out _ HT7.out).mono ?_
      rintro e w8 ⟨rfl, rfl⟩
      refine hK.out _ _ hHeld (fun hHeld => ?_)
      clear hK K
      try simp only [Act.put, List.setIfInBounds_toArray, List.set_cons_zero, List.set_cons_succ]
      refine takeH (i := 20) (some 71) (v := ?_) rfl rfl (by kernel_rfl) (by kernel_rfl) (by kernel_rfl) (fun _ _ _ h => h) (Or.inl ⟨by rfl, ?hypl20⟩) hHeld ?restpl20
      case hypl20 => (intro w hSw; (try dsimp only at hSw); go_simp; (try with_reducible rfl))
      try simp only [Act.put, List.setIfInBounds_toArray, List.set_cons_zero, List.set_cons_succ]
      refine takeH (i := 21) (some 72) (v := ?_) rfl rfl (by kernel_rfl) (by kernel_rfl) (by kernel_rfl) (fun _ _ _ h => h) (Or.inl ⟨by rfl, ?hypl21⟩) hHeld ?restpl21
      case hypl21 => (intro w hSw; (try dsimp only at hSw); go_simp; (try with_reducible rfl))
      try simp only [Act.put, List.setIfInBounds_toArray, List.set_cons_zero, List.set_cons_succ]
      refine takeH (i := 22) (some 73) (v := ?_) rfl rfl (by kernel_rfl) (by kernel_rfl) (by kernel_rfl) (fun _ _ _ h => h) (Or.inl ⟨by rfl, ?hypl22⟩) hHeld ?restpl22
      case hypl22 => (intro w hSw; (try dsimp only at hSw); go_simp; (try with_reducible rfl))
      try simp only [Act.put, List.setIfInBounds_toArray, List.set_cons_zero, List.set_cons_succ]
      refine takeH (i := 23) (some 74) (v := ?_) rfl rfl (by kernel_rfl) (by kernel_rfl) (by kernel_rfl) (fun _ _ _ h => h) (Or.inl ⟨by rfl, ?hypl23⟩) hHeld ?restpl23
      case hypl23 => (intro w hSw; (try dsimp only at hSw); go_simp; (try with_reducible rfl))
      try simp only [Act.put, List.setIfInBounds_toArray, List.set_cons_zero, List.set_cons_succ]
      refine takeH (i := 24) (some 75) (v := ?_) rfl rfl (by kernel_rfl) (by kernel_rfl) (by kernel_rfl) (fun _ _ _ h => h) (Or.inl ⟨by rfl, ?hypl24⟩) hHeld ?restpl24
      case hypl24 => (intro w hSw; (try dsimp only at hSw); go_simp; (try with_reducible rfl))
      try simp only [Act.put, List.setIfInBounds_toArray, List.set_cons_zero, List.set_cons_succ]
      refine wpAnyH_ready (rs := [25]) (by kernel_rfl) (by simp) ?_
      refine AllReadyH.cons rfl (fun K hK => ?_) AllReadyH.nil
      go_simp
      refine (HSm.out _ _ HT7.out HR7.out).mono ?_
      rintro e v8 ⟨rfl, ht8, hr8, hg8⟩
      have HT8 := Lib.hid ht8
      have HR8 := Lib.hid hr8
      have HG8 := Lib.hid (HG7.out.trans (hg8.mono (fun i h => h.1)))
      refine hK.out _ _ ⟨hg8.cell hHeld.1 nb, hg8.cell hHeld.2.1 nb, hg8.cell hHeld.2.2.1 nb, hg8.cell hHeld.2.2.2.1 nb, hg8.cell hHeld.2.2.2.2 nR⟩ (fun hHeld => ?_)
      clear hK K
      try simp only [Act.put, List.setIfInBounds_toArray, List.set_cons_zero, List.set_cons_succ]
      refine takeH (i := 26) (some 77) (v := ?_) rfl rfl (by kernel_rfl) (by kernel_rfl) (by kernel_rfl) (fun _ _ _ h => h) (Or.inl ⟨by rfl, ?hypl26⟩) hHeld ?restpl26
      case hypl26 => (intro w hSw; (try dsimp only at hSw); go_simp; (try with_reducible rfl))
      try simp only [Act.put, List.setIfInBounds_toArray, List.set_cons_zero, List.set_cons_succ]
      refine takeH (i := 27) (some 78) (v := ?_) rfl rfl (by kernel_rfl) (by kernel_rfl) (by kernel_rfl) (fun _ _ _ h => h) (Or.inl ⟨by rfl, ?hypl27⟩) hHeld ?restpl27
      case hypl27 => (intro w hSw; (try dsimp only at hSw); go_simp; (try with_reducible rfl))
      try simp only [Act.put, List.setIfInBounds_toArray, List.set_cons_zero, List.set_cons_succ]
      refine takeH (i := 28) (some 79) (v := ?_) rfl rfl (by kernel_rfl) (by kernel_rfl) (by kernel_rfl) (fun _ _ _ h => h) (Or.inl ⟨by rfl, ?hypl28⟩) hHeld ?restpl28
      case hypl28 => (intro w hSw; (try dsimp only at hSw); go_simp; (try with_reducible rfl))
      try simp only [Act.put, List.setIfInBounds_toArray, List.set_cons_zero, List.set_cons_succ]
      refine takeH (i := 29) (some 80) (v := ?_) rfl rfl (by kernel_rfl) (by kernel_rfl) (by kernel_rfl) (fun _ _ _ h => h) (Or.inl ⟨by rfl, ?hypl29⟩) hHeld ?restpl29
      case hypl29 => (intro w hSw; (try dsimp only at hSw); go_simp; (try with_reducible rfl))
      try simp only [Act.put, List.setIfInBounds_toArray, List.set_cons_zero, List.set_cons_succ]
      refine takeH (i := 30) (some 81) (v := ?_) rfl rfl (by kernel_rfl) (by kernel_rfl) (by kernel_rfl) (fun _ _ _ h => h) (Or.inl ⟨by rfl, ?hypl30⟩) hHeld ?restpl30
      case hypl30 => (intro w hSw; (try dsimp only at hSw); go_simp; (try with_reducible rfl))
      try simp only [Act.put, List.setIfInBounds_toArray, List.set_cons_zero, List.set_cons_succ]
      refine wpAnyH_ready (rs := [31]) (by kernel_rfl) (by simp) ?_
      refine AllReadyH.cons rfl (fun K hK => ?_) AllReadyH.nil
      go_simp
      refine (HSm.out _ _ HT8.out HR8.out).mono ?_
      rintro e v9 ⟨rfl, ht9, hr9, hg9⟩
      have HT9 := Lib.hid ht9
      have HR9 := Lib.hid hr9
      have HG9 := Lib.hid (HG8.out.trans (hg9.mono (fun i h => h.1)))
      refine hK.out _ _ ⟨hg9.cell hHeld.1 nb, hg9.cell hHeld.2.1 nb, hg9.cell hHeld.2.2.1 nb, hg9.cell hHeld.2.2.2.1 nb, hg9.cell hHeld.2.2.2.2 nR⟩ (fun hHeld => ?_)
      clear hK K
      try simp only [Act.put, List.setIfInBounds_toArray, List.set_cons_zero, List.set_cons_succ]
      refine takeH (i := 32) (some 83) (v := ?_) rfl rfl (by kernel_rfl) (by kernel_rfl) (by kernel_rfl) (fun _ _ _ h => h) (Or.inl ⟨by rfl, ?hypl32⟩) hHeld ?restpl32
      case hypl32 => (intro w hSw; (try dsimp only at hSw); go_simp; (try with_reducible rfl))
      try simp only [Act.put, List.setIfInBounds_toArray, List.set_cons_zero, List.set_cons_succ]
      refine takeH (i := 33) (some 84) (v := ?_) rfl rfl (by kernel_rfl) (by kernel_rfl) (by kernel_rfl) (fun _ _ _ h => h) (Or.inl ⟨by rfl, ?hypl33⟩) hHeld ?restpl33
      case hypl33 => (intro w hSw; (try dsimp only at hSw); go_simp; (try with_reducible rfl))
      try simp only [Act.put, List.setIfInBounds_toArray, List.set_cons_zero, List.set_cons_succ]
      refine takeH (i := 34) (some 85) (v := ?_) rfl rfl (by kernel_rfl) (by kernel_rfl) (by kernel_rfl) (fun _ _ _ h => h) (Or.inl ⟨by rfl, ?hypl34⟩) hHeld ?restpl34
      case hypl34 => (intro w hSw; (try dsimp only at hSw); go_simp; (try with_reducible rfl))
      try simp only [Act.put, List.setIfInBounds_toArray, List.set_cons_zero, List.set_cons_succ]
      refine takeH (i := 35) (some 86) (v := ?_) rfl rfl (by kernel_rfl) (by kernel_rfl) (by kernel_rfl) (fun _ _ _ h => h) (Or.inl ⟨by rfl, ?hypl35⟩) hHeld ?restpl35
      case hypl35 => (intro w hSw; (try dsimp only at hSw); go_simp; (try with_reducible rfl))
      try simp only [Act.put, List.setIfInBounds_toArray, List.set_cons_zero, List.set_cons_succ]
      refine takeH (i := 36) (some 87) (v := ?_) rfl rfl (by kernel_rfl) (by kernel_rfl) (by kernel_rfl) (fun _ _ _ h => h) (Or.inl ⟨by rfl, ?hypl36⟩) hHeld ?restpl36
      case hypl36 => (intro w hSw; (try dsimp only at hSw); go_simp; (try with_reducible rfl))
      try simp only [Act.put, List.setIfInBounds_toArray, List.set_cons_zero, List.set_cons_succ]
      refine takeH (i := 37) (some 88) (v := ?_) rfl rfl (by kernel_rfl) (by kernel_rfl) (by kernel_rfl) (fun _ _ _ h => h) (Or.inl ⟨by rfl, ?hypl37⟩) hHeld ?restpl37
      case hypl37 => (intro w hSw; (try dsimp only at hSw); go_simp; (try with_reducible rfl))
      try simp only [Act.put, List.setIfInBounds_toArray, List.set_cons_zero, List.set_cons_succ]
      refine takeH (i := 38) (some 89) (v := ?_) rfl rfl (by kernel_rfl) (by kernel_rfl) (by kernel_rfl) (fun _ _ _ h => h) (Or.inl ⟨by rfl, ?hypl38⟩) hHeld ?restpl38
      case hypl38 => (intro w hSw; (try dsimp only at hSw); go_simp; (try with_reducible rfl))
      try simp only [Act.put, List.setIfInBounds_toArray, List.set_cons_zero, List.set_cons_succ]
      refine takeH (i := 39) (some 90) (v := ?_) rfl rfl (by kernel_rfl) (by kernel_rfl) (by kernel_rfl) (fun _ _ _ h => h) (Or.inl ⟨by rfl, ?hypl39⟩) hHeld ?restpl39
      case hypl39 => (intro w hSw; (try dsimp only at hSw); go_simp; (try with_reducible rfl))
      try simp only [Act.put, List.setIfInBounds_toArray, List.set_cons_zero, List.set_cons_succ]
      refine takeH (i := 40) (some 91) (v := ?_) rfl rfl (by kernel_rfl) (by kernel_rfl) (by kernel_rfl) (fun _ _ _ h => h) (Or.inl ⟨by rfl, ?hypl40⟩) hHeld ?restpl40
      case hypl40 => (intro w hSw; (try dsimp only at hSw); go_simp; (try with_reducible rfl))
      try simp only [Act.put, List.setIfInBounds_toArray, List.set_cons_zero, List.set_cons_succ]
      refine takeH (i := 41) (some 92) (v := ?_) rfl rfl (by kernel_rfl) (by kernel_rfl) (by kernel_rfl) (fun _ _ _ h => h) (Or.inl ⟨by rfl, ?hypl41⟩) hHeld ?restpl41
      case hypl41 => (intro w hSw; (try dsimp only at hSw); go_simp; (try with_reducible rfl))
      try simp only [Act.put, List.setIfInBounds_toArray, List.set_cons_zero, List.set_cons_succ]
      refine wpAnyH_ready (rs := [42]) (by kernel_rfl) (by simp) ?_
      refine AllReadyH.cons rfl (fun K hK => ?_) AllReadyH.nil
      go_simp
      refine (HSm.out _ _ HT9.out HR9.out).mono ?_
      rintro e v10 ⟨rfl, ht10, hr10, hg10⟩
      have HT10 := Lib.hid ht10
      have HR10 := Lib.hid hr10
      have HG10 := Lib.hid (HG9.out.trans (hg10.mono (fun i h => h.1)))
      refine hK.out _ _ ⟨hg10.cell hHeld.1 nb, hg10.cell hHeld.2.1 nb, hg10.cell hHeld.2.2.1 nb, hg10.cell hHeld.2.2.2.1 nb, hg10.cell hHeld.2.2.2.2 nR⟩ (fun hHeld => ?_)
      clear hK K
      try simp only [Act.put, List.setIfInBounds_toArray, List.set_cons_zero, List.set_cons_succ]
      refine takeH (i := 43) (some 94) (v := ?_) rfl rfl (by kernel_rfl) (by kernel_rfl) (by kernel_rfl) (fun _ _ _ h => h) (Or.inl ⟨by rfl, ?hypl43⟩) hHeld ?restpl43
      case hypl43 => (intro w hSw; (try dsimp only at hSw); go_simp; (try with_reducible rfl))
      try simp only [Act.put, List.setIfInBounds_toArray, List.set_cons_zero, List.set_cons_succ]
      refine takeH (i := 44) (some 95) (v := ?_) rfl rfl (by kernel_rfl) (by kernel_rfl) (by kernel_rfl) (fun _ _ _ h => h) (Or.inl ⟨by rfl, ?hypl44⟩) hHeld ?restpl44
      case hypl44 => (intro w hSw; (try dsimp only at hSw); go_simp; (try with_reducible rfl))
      try simp only [Act.put, List.setIfInBounds_toArray, List.set_cons_zero, List.set_cons_succ]
      refine wpAnyH_done (by kernel_rfl) ?_ _
      go_wp2_with fail
      go_roundw
      case rel => exact ⟨k + 1, t2, by omega, by go_num, HT10, HR10, Lib.hid (HC2.out.mono' (by omega)), HG10⟩
      case measure => simp [intOf]; omega
    · obtain rfl : k = zs.length := by omega
      have hlt' : ¬ (zs.length : Int) < (zs.length : Int) := by omega
      go_wp2
      go_ret
      exact ⟨rfl, HG.out.below HB3.out (fun i h => by omega)⟩
theorem plays_law (n : Int) (a : Option Addr) (c : Nat) (xs : List OpV) (w : World) (hx : xs.length ≤ 9223372036854775807) (hA : OpVAt w.heap.size w a xs) (hL : Laid w) :
    Calls Tryz.prog 3 #[.int .i64 n, .slice a xs.length c] w fun e w' => e = .returned (.bool true) ∧ Below w.heap.size w w' := by
  rcases cap_cases n with ⟨k, rfl, h1, h2⟩ | h
  · exact plays_ok k h1 h2 a c xs w hx hA hL
  · have HM := Lib.hid (fun W => tnew_err n h W)
    have HM2 := Lib.hid (fun W => rtnew_err n h W)
    clear h
    have HA := Lib.hid hA
    clear hA
    have HSh := Lib.hid (shown_c w hL)
    have HL0 := Lib.hid hL
    clear hL
    go_enter Tryz.func3, Tryz.ntmps3
    go_wp2_with fail
    go_at_call 10
    refine HSh.out.mono ?_
    rintro e v0 ⟨rfl, hb⟩
    have HB0 := Lib.hid hb
    have HLv0 := Lib.hid (HL0.out.on hb)
    clear hb
    go_wp2_with fail
    have hc := Cut_s a c xs hx v0 (HA.out.on HB0.out)
    go_at_call 11
    refine hc.mono ?_
    clear hc
    rintro e v1 ⟨az, cz, rfl, hoz, hb1⟩
    have HB1 := Lib.hid (btr HB0.out hb1)
    clear hb1 hoz
    go_wp2_with (first
      | (go_at_call 12; refine (HM.out _).mono ?_; rintro e v2 ⟨rfl, hb⟩
         have HB2 := Lib.hid (btr HB1.out hb)
         clear hb)
      | (go_at_call 13; refine (HM2.out _).mono ?_; rintro e v3 ⟨rfl, hb⟩
         have HB3 := Lib.hid (btr HB2.out hb)
         clear hb)
      | (go_at_call 14; refine (tevent_nil 1 _).mono ?_; rintro e v4 ⟨rfl, rfl⟩)
      | (go_at_call 15; refine (tstate_nil _).mono ?_; rintro e v4 ⟨rfl, rfl⟩)
      | (go_at_call 16; refine (tstop_nil _).mono ?_; rintro e v4 ⟨rfl, rfl⟩))
    go_ret
    exact ⟨rfl, HB3.out⟩
end Go.Proofs.YtkokcfhfgnkdfaaGreatDoor.L17

/- Wap -/
import Derived.Test.YtkokcfhfgnkdfaaGreatDoorZ9
/- The law of two directions. -/
namespace Go.Proofs.YtkokcfhfgnkdfaaGreatDoor.L17
open Go.RowKit Go.Shelf
open L1 (str)
open L14 (isSt goes dest inB outB endB Laid)
attribute [local go_sem] Oper.semAt_some
set_option maxRecDepth 100000 in
set_option maxHeartbeats 4000000 in
theorem apart_0 (n : Nat) (h1 : 1 ≤ n) (h2 : n ≤ 4096) (a : Option Addr) (c : Nat) (xs : List OpV) (a2 : Option Addr) (c2 : Nat) (ys : List OpV) (w : World) (hx : xs.length ≤ 9223372036854775807) (hy : ys.length ≤ 9223372036854775807) (hA : OpVAt w.heap.size w a xs) (hB : OpVAt w.heap.size w a2 ys) (hL : Laid w) :
    Calls Tryz.prog 8 #[.int .i64 (n : Int), .slice a xs.length c, .slice a2 ys.length c2, .int .i64 0] w fun e w' => e = .returned (.bool true) ∧ Below w.heap.size w w' := by
  have HSh := Lib.hid (shown_c w hL)
  have HL0 := Lib.hid hL
  have HA := Lib.hid hA
  have HBy := Lib.hid hB
  clear hA hB
  clear hL
  go_enter Tryz.func8, Tryz.ntmps8
  go_wp2_with fail
  go_at_call 10
  refine HSh.out.mono ?_
  rintro e v0 ⟨rfl, hb⟩
  have HB0 := Lib.hid hb
  have HLv0 := Lib.hid (HL0.out.on hb)
  clear hb
  go_wp2_with fail
  have hc := Made_ok n h1 h2 a c xs hx v0 (HA.out.on HB0.out) HLv0.out
  go_at_call 20
  refine hc.mono ?_
  clear hc
  rintro e v1 ⟨T, hi, rfl, ht, hTz, hb⟩
  have HTn1 := Lib.hid ht
  have HB1 := Lib.hid (btr HB0.out hb)
  have HLv1 := Lib.hid (HLv0.out.on hb)
  have lg : 0 < T := by obtain ⟨_, _, _, q⟩ := ht; exact q.lg
  have hzT : w.heap.size ≤ T := Nat.le_trans HB0.out.size hTz
  clear ht hb
  obtain ⟨S0, ht0⟩ : ∃ t, runT n upT (cutL xs) = t := ⟨_, rfl⟩
  have HC0 := Lib.hid (show S0.Cn 2500 by rw [← ht0]; exact (up_cn.run (cap := n) (cutL xs) (cutL_size xs)).mono' (by have := cutL_len xs; omega))
  rw [ht0] at HTn1
  clear ht0
  go_wp2_with fail
  have hc := tcounts_c T hi n S0 1 _ HTn1.out
  change Calls Tryz.prog _ _ _ (fun x w' => x = .returned (.tuple #[.int .i64 (S0.b.fd : Nat), .int .i64 (S0.b.mv : Nat), .int .i64 (S0.b.dr : Nat)]) ∧ _ ∧ _) at hc
  go_at_call 21
  refine hc.mono ?_
  clear hc
  rintro e v2 ⟨rfl, ht, hg⟩
  have HTn2 := Lib.hid ht
  have HLv2 := Lib.hid (laid_on HLv1.out hg lg)
  have HB2 := Lib.hid (goes_b HB1.out hg hzT)
  clear ht hg
  go_wp2_with fail
  have hc := Cut_c a2 c2 ys hy v2 (HBy.out.on HB2.out)
  go_at_call 11
  refine hc.mono ?_
  clear hc
  rintro e v3 ⟨v, rfl, ho, hb⟩
  obtain ⟨az, cz, rfl, hof⟩ := row_out (T := T) (hi := hi) ho HTn2.out.lz
  have HOF := Lib.hid hof
  have HTn3 := Lib.hid (HTn2.out.below hb)
  have HLv3 := Lib.hid (HLv2.out.on hb)
  have HB3 := Lib.hid (btr HB2.out hb)
  have hln := cutL_len ys
  have HZ := Lib.hid (And.intro (cutL_size ys) hln)
  obtain ⟨zs, hzs⟩ : ∃ zs, cutL ys = zs := ⟨_, rfl⟩
  rw [hzs] at HOF HZ hln ⊢
  clear ho hof hb hzs
  go_wp2
  go_loopw [15] (fun i wr => ∃ (k : Nat) (t : Tn), k ≤ zs.length ∧ i = .int .i64 (k : Int) ∧ Hid (TunAt wr T hi n t) ∧ Hid (t.Cn (2500 + 50 * k)) ∧ Hid (t.b.fd = S0.b.fd ∧ t.b.mv = S0.b.mv ∧ t.b.dr = S0.b.dr) ∧ Hid (Goes (Rin T hi) v3 wr)) (fun i _ => zs.length - (intOf i).toNat)
  case atStart => exact ⟨0, S0, Nat.zero_le _, rfl, HTn3, Lib.hid HC0.out, Lib.hid ⟨rfl, rfl, rfl⟩, Lib.hid (Goes.refl _ _)⟩
  case round =>
    obtain ⟨k, t, hk, rfl, HT, HCt, HE, HG⟩ := hrel
    by_cases hlt : k < zs.length
    · have hlt' : (k : Int) < (zs.length : Int) := by omega
      obtain ⟨b, off, rfl, hbn, d0, d1, d2, d3⟩ := (HOF.out.goes HG.out) k hlt
      have hxs := HZ.out.1 zs[k] (List.getElem_mem hlt)
      generalize zs[k] = x at *
      have HXS := Lib.hid hxs
      clear hbn hxs
      have hB1 : Below wr.heap.size wr (wr.alloc (.cells #[.int .i64 x.kind, .int .i64 0, .int .i64 x.n, .string x.s] 38)) := below_alloc wr _
      have HT2 := Lib.hid (HT.out.below hB1)
      have HGB := Lib.hid (HG.out.trans (Goes.of_below hB1))
      clear hB1
      by_cases hk1 : 1 ≤ x.kind
      · by_cases hk2 : x.kind ≤ 4
        · have HD := Lib.hid (do_c T hi n t ⟨x.kind, 0, x.n, x.s⟩ (show x.s.size ≤ 5000 by have := HXS.out; omega) (HCt.out.sm (by omega)) _ HT2.out (laid_on HLv3.out HGB.out lg))
          have HCs := Lib.hid (HCt.out.step (cap := n) (B := 50) ⟨x.kind, 0, x.n, x.s⟩ HXS.out)
          have HO := Lib.hid (other_step n t ⟨x.kind, 0, x.n, x.s⟩ (d := 1) (e := 0) rfl rfl (by decide) hk1 hk2)
          unfold opV at HD
          go_wp2_with (go_at_call 17; refine HD.out.mono ?_; rintro e w6 ⟨rfl, ht6, hg6⟩; have HT6 := Lib.hid ht6; have HG6 := Lib.hid hg6; clear ht6 hg6)
          go_roundw
          case rel =>
            refine ⟨k + 1, _, by omega, by go_num, HT6, Lib.hid (HCs.out.mono' (by omega)), Lib.hid ⟨?_, ?_, ?_⟩, Lib.hid (HGB.out.trans HG6.out)⟩
            · exact HO.out.1.trans HE.out.1
            · exact HO.out.2.1.trans HE.out.2.1
            · exact HO.out.2.2.trans HE.out.2.2
          case measure => simp [intOf]; omega
        · go_wp2
          go_roundw
          case rel => exact ⟨k + 1, t, by omega, by go_num, HT2, Lib.hid (HCt.out.mono' (by omega)), HE, HGB⟩
          case measure => simp [intOf]; omega
      · go_wp2
        go_roundw
        case rel => exact ⟨k + 1, t, by omega, by go_num, HT2, Lib.hid (HCt.out.mono' (by omega)), HE, HGB⟩
        case measure => simp [intOf]; omega
    · obtain rfl : k = zs.length := by omega
      have hlt' : ¬ (zs.length : Int) < (zs.length : Int) := by omega
      obtain ⟨e1, e2, e3⟩ := HE.out
      have HBw := Lib.hid (goes_b HB3.out HG.out hzT)
      have hc0 := tcounts_c T hi n t 1 wr HT.out
      change Calls Tryz.prog _ _ _ (fun x w' => x = .returned (.tuple #[.int .i64 (t.b.fd : Nat), .int .i64 (t.b.mv : Nat), .int .i64 (t.b.dr : Nat)]) ∧ _ ∧ _) at hc0
      rw [e1, e2, e3] at hc0
      have HC1 := Lib.hid hc0
      clear hc0 e1 e2 e3 HE HCt HC0
      generalize S0.b.fd = af at *
      generalize S0.b.mv = am at *
      generalize S0.b.dr = ad at *
      go_wp2_with (go_at_call 21; refine HC1.out.mono ?_; rintro e v6 ⟨rfl, ht, hg⟩; have HB6 := Lib.hid (goes_b HBw.out hg hzT); clear ht hg)
      go_ret
      exact ⟨rfl, HB6.out⟩
set_option maxRecDepth 100000 in
set_option maxHeartbeats 4000000 in
theorem apart_1 (n : Nat) (h1 : 1 ≤ n) (h2 : n ≤ 4096) (a : Option Addr) (c : Nat) (xs : List OpV) (a2 : Option Addr) (c2 : Nat) (ys : List OpV) (w : World) (hx : xs.length ≤ 9223372036854775807) (hy : ys.length ≤ 9223372036854775807) (hA : OpVAt w.heap.size w a xs) (hB : OpVAt w.heap.size w a2 ys) (hL : Laid w) :
    Calls Tryz.prog 8 #[.int .i64 (n : Int), .slice a xs.length c, .slice a2 ys.length c2, .int .i64 1] w fun e w' => e = .returned (.bool true) ∧ Below w.heap.size w w' := by
  have HSh := Lib.hid (shown_c w hL)
  have HL0 := Lib.hid hL
  have HA := Lib.hid hA
  have HBy := Lib.hid hB
  clear hA hB
  clear hL
  go_enter Tryz.func8, Tryz.ntmps8
  go_wp2_with fail
  go_at_call 10
  refine HSh.out.mono ?_
  rintro e v0 ⟨rfl, hb⟩
  have HB0 := Lib.hid hb
  have HLv0 := Lib.hid (HL0.out.on hb)
  clear hb
  go_wp2_with fail
  have hc := Made_ok n h1 h2 a c xs hx v0 (HA.out.on HB0.out) HLv0.out
  go_at_call 20
  refine hc.mono ?_
  clear hc
  rintro e v1 ⟨T, hi, rfl, ht, hTz, hb⟩
  have HTn1 := Lib.hid ht
  have HB1 := Lib.hid (btr HB0.out hb)
  have HLv1 := Lib.hid (HLv0.out.on hb)
  have lg : 0 < T := by obtain ⟨_, _, _, q⟩ := ht; exact q.lg
  have hzT : w.heap.size ≤ T := Nat.le_trans HB0.out.size hTz
  clear ht hb
  obtain ⟨S0, ht0⟩ : ∃ t, runT n upT (cutL xs) = t := ⟨_, rfl⟩
  have HC0 := Lib.hid (show S0.Cn 2500 by rw [← ht0]; exact (up_cn.run (cap := n) (cutL xs) (cutL_size xs)).mono' (by have := cutL_len xs; omega))
  rw [ht0] at HTn1
  clear ht0
  go_wp2_with fail
  have hc := tcounts_c T hi n S0 0 _ HTn1.out
  change Calls Tryz.prog _ _ _ (fun x w' => x = .returned (.tuple #[.int .i64 (S0.a.fd : Nat), .int .i64 (S0.a.mv : Nat), .int .i64 (S0.a.dr : Nat)]) ∧ _ ∧ _) at hc
  go_at_call 21
  refine hc.mono ?_
  clear hc
  rintro e v2 ⟨rfl, ht, hg⟩
  have HTn2 := Lib.hid ht
  have HLv2 := Lib.hid (laid_on HLv1.out hg lg)
  have HB2 := Lib.hid (goes_b HB1.out hg hzT)
  clear ht hg
  go_wp2_with fail
  have hc := Cut_c a2 c2 ys hy v2 (HBy.out.on HB2.out)
  go_at_call 11
  refine hc.mono ?_
  clear hc
  rintro e v3 ⟨v, rfl, ho, hb⟩
  obtain ⟨az, cz, rfl, hof⟩ := row_out (T := T) (hi := hi) ho HTn2.out.lz
  have HOF := Lib.hid hof
  have HTn3 := Lib.hid (HTn2.out.below hb)
  have HLv3 := Lib.hid (HLv2.out.on hb)
  have HB3 := Lib.hid (btr HB2.out hb)
  have hln := cutL_len ys
  have HZ := Lib.hid (And.intro (cutL_size ys) hln)
  obtain ⟨zs, hzs⟩ : ∃ zs, cutL ys = zs := ⟨_, rfl⟩
  rw [hzs] at HOF HZ hln ⊢
  clear ho hof hb hzs
  go_wp2
  go_loopw [15] (fun i wr => ∃ (k : Nat) (t : Tn), k ≤ zs.length ∧ i = .int .i64 (k : Int) ∧ Hid (TunAt wr T hi n t) ∧ Hid (t.Cn (2500 + 50 * k)) ∧ Hid (t.a.fd = S0.a.fd ∧ t.a.mv = S0.a.mv ∧ t.a.dr = S0.a.dr) ∧ Hid (Goes (Rin T hi) v3 wr)) (fun i _ => zs.length - (intOf i).toNat)
  case atStart => exact ⟨0, S0, Nat.zero_le _, rfl, HTn3, Lib.hid HC0.out, Lib.hid ⟨rfl, rfl, rfl⟩, Lib.hid (Goes.refl _ _)⟩
  case round =>
    obtain ⟨k, t, hk, rfl, HT, HCt, HE, HG⟩ := hrel
    by_cases hlt : k < zs.length
    · have hlt' : (k : Int) < (zs.length : Int) := by omega
      obtain ⟨b, off, rfl, hbn, d0, d1, d2, d3⟩ := (HOF.out.goes HG.out) k hlt
      have hxs := HZ.out.1 zs[k] (List.getElem_mem hlt)
      generalize zs[k] = x at *
      have HXS := Lib.hid hxs
      clear hbn hxs
      have hB1 : Below wr.heap.size wr (wr.alloc (.cells #[.int .i64 x.kind, .int .i64 1, .int .i64 x.n, .string x.s] 38)) := below_alloc wr _
      have HT2 := Lib.hid (HT.out.below hB1)
      have HGB := Lib.hid (HG.out.trans (Goes.of_below hB1))
      clear hB1
      by_cases hk1 : 1 ≤ x.kind
      · by_cases hk2 : x.kind ≤ 4
        · have HD := Lib.hid (do_c T hi n t ⟨x.kind, 1, x.n, x.s⟩ (show x.s.size ≤ 5000 by have := HXS.out; omega) (HCt.out.sm (by omega)) _ HT2.out (laid_on HLv3.out HGB.out lg))
          have HCs := Lib.hid (HCt.out.step (cap := n) (B := 50) ⟨x.kind, 1, x.n, x.s⟩ HXS.out)
          have HO := Lib.hid (other_step n t ⟨x.kind, 1, x.n, x.s⟩ (d := 0) (e := 1) rfl rfl (by decide) hk1 hk2)
          unfold opV at HD
          go_wp2_with (go_at_call 17; refine HD.out.mono ?_; rintro e w6 ⟨rfl, ht6, hg6⟩; have HT6 := Lib.hid ht6; have HG6 := Lib.hid hg6; clear ht6 hg6)
          go_roundw
          case rel =>
            refine ⟨k + 1, _, by omega, by go_num, HT6, Lib.hid (HCs.out.mono' (by omega)), Lib.hid ⟨?_, ?_, ?_⟩, Lib.hid (HGB.out.trans HG6.out)⟩
            · exact HO.out.1.trans HE.out.1
            · exact HO.out.2.1.trans HE.out.2.1
            · exact HO.out.2.2.trans HE.out.2.2
          case measure => simp [intOf]; omega
        · go_wp2
          go_roundw
          case rel => exact ⟨k + 1, t, by omega, by go_num, HT2, Lib.hid (HCt.out.mono' (by omega)), HE, HGB⟩
          case measure => simp [intOf]; omega
      · go_wp2
        go_roundw
        case rel => exact ⟨k + 1, t, by omega, by go_num, HT2, Lib.hid (HCt.out.mono' (by omega)), HE, HGB⟩
        case measure => simp [intOf]; omega
    · obtain rfl : k = zs.length := by omega
      have hlt' : ¬ (zs.length : Int) < (zs.length : Int) := by omega
      obtain ⟨e1, e2, e3⟩ := HE.out
      have HBw := Lib.hid (goes_b HB3.out HG.out hzT)
      have hc0 := tcounts_c T hi n t 0 wr HT.out
      change Calls Tryz.prog _ _ _ (fun x w' => x = .returned (.tuple #[.int .i64 (t.a.fd : Nat), .int .i64 (t.a.mv : Nat), .int .i64 (t.a.dr : Nat)]) ∧ _ ∧ _) at hc0
      rw [e1, e2, e3] at hc0
      have HC1 := Lib.hid hc0
      clear hc0 e1 e2 e3 HE HCt HC0
      generalize S0.a.fd = af at *
      generalize S0.a.mv = am at *
      generalize S0.a.dr = ad at *
      go_wp2_with (go_at_call 21; refine HC1.out.mono ?_; rintro e v6 ⟨rfl, ht, hg⟩; have HB6 := Lib.hid (goes_b HBw.out hg hzT); clear ht hg)
      go_ret
      exact ⟨rfl, HB6.out⟩
theorem apart_law (n : Int) (a : Option Addr) (c : Nat) (xs : List OpV) (a2 : Option Addr) (c2 : Nat) (ys : List OpV) (side : Int) (w : World) (hx : xs.length ≤ 9223372036854775807) (hA : OpVAt w.heap.size w a xs) (hy : ys.length ≤ 9223372036854775807) (hB : OpVAt w.heap.size w a2 ys) (hL : Laid w) :
    Calls Tryz.prog 8 #[.int .i64 n, .slice a xs.length c, .slice a2 ys.length c2, .int .i64 side] w fun e w' => e = .returned (.bool true) ∧ Below w.heap.size w w' := by
  rcases cap_cases n with ⟨n, rfl, h1, h2⟩ | h
  · by_cases s0 : side = 0
    · subst s0; exact apart_0 n h1 h2 a c xs a2 c2 ys w hx hy hA hB hL
    by_cases s1 : side = 1
    · subst s1; exact apart_1 n h1 h2 a c xs a2 c2 ys w hx hy hA hB hL
    by_cases s2 : side < 0
    · have HA := Lib.hid hA
      clear hA hB
      have HSh := Lib.hid (shown_c w hL)
      have HL0 := Lib.hid hL
      clear hL
      go_enter Tryz.func8, Tryz.ntmps8
      go_wp2_with fail
      go_at_call 10
      refine HSh.out.mono ?_
      rintro e v0 ⟨rfl, hb⟩
      have HB0 := Lib.hid hb
      have HLv0 := Lib.hid (HL0.out.on hb)
      clear hb
      go_wp2_with fail
      have hc := Made_ok n h1 h2 a c xs hx v0 (HA.out.on HB0.out) HLv0.out
      go_at_call 20
      refine hc.mono ?_
      clear hc
      rintro e v1 ⟨T, hi, rfl, ht, hTz, hb⟩
      have HTn1 := Lib.hid ht
      have HB1 := Lib.hid (btr HB0.out hb)
      have HLv1 := Lib.hid (HLv0.out.on hb)
      have lg : 0 < T := by obtain ⟨_, _, _, q⟩ := ht; exact q.lg
      have hzT : w.heap.size ≤ T := Nat.le_trans HB0.out.size hTz
      clear ht hb
      go_wp2
      go_ret
      exact ⟨rfl, HB1.out⟩
    · have s3 : side > 1 := by omega
      have HA := Lib.hid hA
      clear hA hB
      have HSh := Lib.hid (shown_c w hL)
      have HL0 := Lib.hid hL
      clear hL
      go_enter Tryz.func8, Tryz.ntmps8
      go_wp2_with fail
      go_at_call 10
      refine HSh.out.mono ?_
      rintro e v0 ⟨rfl, hb⟩
      have HB0 := Lib.hid hb
      have HLv0 := Lib.hid (HL0.out.on hb)
      clear hb
      go_wp2_with fail
      have hc := Made_ok n h1 h2 a c xs hx v0 (HA.out.on HB0.out) HLv0.out
      go_at_call 20
      refine hc.mono ?_
      clear hc
      rintro e v1 ⟨T, hi, rfl, ht, hTz, hb⟩
      have HTn1 := Lib.hid ht
      have HB1 := Lib.hid (btr HB0.out hb)
      have HLv1 := Lib.hid (HLv0.out.on hb)
      have lg : 0 < T := by obtain ⟨_, _, _, q⟩ := ht; exact q.lg
      have hzT : w.heap.size ≤ T := Nat.le_trans HB0.out.size hTz
      clear ht hb
      go_wp2
      go_ret
      exact ⟨rfl, HB1.out⟩
  · have HM := Lib.hid (fun sv W => Made_err n h sv W)
    clear h
    have HSh := Lib.hid (shown_c w hL)
    have HL0 := Lib.hid hL
    clear hL
    go_enter Tryz.func8, Tryz.ntmps8
    go_wp2_with fail
    go_at_call 10
    refine HSh.out.mono ?_
    rintro e v0 ⟨rfl, hb⟩
    have HB0 := Lib.hid hb
    have HLv0 := Lib.hid (HL0.out.on hb)
    clear hb
    go_wp2_with (go_at_call 20; refine (HM.out _ _).mono ?_; rintro e v1 ⟨rfl, hb⟩)
    go_ret
    exact ⟨rfl, btr HB0.out hb⟩
end Go.Proofs.YtkokcfhfgnkdfaaGreatDoor.L17

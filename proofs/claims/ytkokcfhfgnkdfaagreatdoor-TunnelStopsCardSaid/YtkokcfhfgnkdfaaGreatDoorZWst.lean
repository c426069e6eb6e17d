/- Wst -/
import Derived.Test.YtkokcfhfgnkdfaaGreatDoorZ9
/- The law of what is behind Stop. -/
namespace Go.Proofs.YtkokcfhfgnkdfaaGreatDoor.L17
open Go.RowKit Go.Shelf
open L1 (str)
open L14 (isSt goes dest inB outB endB Laid)
attribute [local go_sem] Oper.semAt_some
set_option maxRecDepth 100000 in
set_option maxHeartbeats 4000000 in
theorem stops_ok (n : Nat) (h1 : 1 ≤ n) (h2 : n ≤ 4096) (a : Option Addr) (c : Nat) (xs : List OpV) (a2 : Option Addr) (c2 : Nat) (ys : List OpV) (w : World) (hx : xs.length ≤ 9223372036854775807) (hy : ys.length ≤ 9223372036854775807) (hA : OpVAt w.heap.size w a xs) (hB : OpVAt w.heap.size w a2 ys) (hL : Laid w) :
    Calls Tryz.prog 6 #[.int .i64 (n : Int), .slice a xs.length c, .slice a2 ys.length c2] w fun e w' => e = .returned (.bool true) ∧ Below w.heap.size w w' := by
  have HSh := Lib.hid (shown_c w hL)
  have HL0 := Lib.hid hL
  have HA := Lib.hid hA
  have HBy := Lib.hid hB
  clear hA hB
  clear hL
  go_enter Tryz.func6, Tryz.ntmps6
  go_wp2_with fail
  go_at_call 10
  refine HSh.out.mono ?_
  rintro e v0 ⟨rfl, hb⟩
  have HB0 := Lib.hid hb
  have HLv0 := Lib.hid (HL0.out.on hb)
  clear hb
  go_wp2_with fail
  have hc := Made_ok n h1 h2 a c xs hx v0 (HA.out.on HB0.out) HLv0.out
  go_at_call 20
  refine hc.mono ?_
  clear hc
  rintro e v1 ⟨T, hi, rfl, ht, hTz, hb⟩
  have HTn1 := Lib.hid ht
  have HB1 := Lib.hid (btr HB0.out hb)
  have HLv1 := Lib.hid (HLv0.out.on hb)
  have lg : 0 < T := by obtain ⟨_, _, _, q⟩ := ht; exact q.lg
  have hzT : w.heap.size ≤ T := Nat.le_trans HB0.out.size hTz
  clear ht hb
  obtain ⟨t0, ht0⟩ : ∃ t, runT n upT (cutL xs) = t := ⟨_, rfl⟩
  have HC0 := Lib.hid (show t0.Cn 2500 by rw [← ht0]; exact (up_cn.run (cap := n) (cutL xs) (cutL_size xs)).mono' (by have := cutL_len xs; omega))
  rw [ht0] at HTn1
  clear ht0
  go_wp2_with fail
  have hc := tstop_c T hi n t0 _ HTn1.out
  go_at_call 16
  refine hc.mono ?_
  clear hc
  rintro e v2 ⟨rfl, ht, hg⟩
  have HTn2 := Lib.hid ht
  have HLv2 := Lib.hid (laid_on HLv1.out hg lg)
  have HB2 := Lib.hid (goes_b HB1.out hg hzT)
  clear ht hg
  obtain ⟨S0, hS0⟩ : ∃ s, stopT t0 = s := ⟨_, rfl⟩
  have HEN := Lib.hid (fun l hl => stops_end (cap := n) t0 HC0.out l hl)
  have HCn := Lib.hid (stop_cn HC0.out)
  have hCn : 2500 ≤ 1000000 := by decide
  rw [hS0] at HTn2 HEN HCn
  clear hS0
  go_wp2_with fail
  have hc := tcounts_c T hi n S0 0 _ HTn2.out
  change Calls Tryz.prog _ _ _ (fun x w' => x = .returned (.tuple #[.int .i64 (S0.a.fd : Nat), .int .i64 (S0.a.mv : Nat), .int .i64 (S0.a.dr : Nat)]) ∧ _ ∧ _) at hc
  go_at_call 21
  refine hc.mono ?_
  clear hc
  rintro e v3 ⟨rfl, ht, hg⟩
  have HTn3 := Lib.hid ht
  have HLv3 := Lib.hid (laid_on HLv2.out hg lg)
  have HB3 := Lib.hid (goes_b HB2.out hg hzT)
  clear ht hg
  go_wp2_with fail
  have hc := tcounts_c T hi n S0 1 _ HTn3.out
  change Calls Tryz.prog _ _ _ (fun x w' => x = .returned (.tuple #[.int .i64 (S0.b.fd : Nat), .int .i64 (S0.b.mv : Nat), .int .i64 (S0.b.dr : Nat)]) ∧ _ ∧ _) at hc
  go_at_call 21
  refine hc.mono ?_
  clear hc
  rintro e v4 ⟨rfl, ht, hg⟩
  have HTn4 := Lib.hid ht
  have HLv4 := Lib.hid (laid_on HLv3.out hg lg)
  have HB4 := Lib.hid (goes_b HB3.out hg hzT)
  clear ht hg
  go_wp2_with fail
  have hc := Cut_c a2 c2 ys hy v4 (HBy.out.on HB4.out)
  go_at_call 11
  refine hc.mono ?_
  clear hc
  rintro e v5 ⟨v, rfl, ho, hb⟩
  obtain ⟨az, cz, rfl, hof⟩ := row_out (T := T) (hi := hi) ho HTn4.out.lz
  have HOF := Lib.hid hof
  have HTn5 := Lib.hid (HTn4.out.below hb)
  have HLv5 := Lib.hid (HLv4.out.on hb)
  have HB5 := Lib.hid (btr HB4.out hb)
  have hln := cutL_len ys
  have HZ := Lib.hid (And.intro (cutL_size ys) hln)
  obtain ⟨zs, hzs⟩ : ∃ zs, cutL ys = zs := ⟨_, rfl⟩
  rw [hzs] at HOF HZ hln ⊢
  clear ho hof hb hzs
  go_wp2
  go_loopw [16] (fun i wr => ∃ k : Nat, k ≤ zs.length ∧ i = .int .i64 (k : Int) ∧ Hid (TunAt wr T hi n (runT n S0 (zs.take k))) ∧ Hid (Goes (Rin T hi) v5 wr)) (fun i _ => zs.length - (intOf i).toNat)
  case atStart => exact ⟨0, Nat.zero_le _, rfl, Lib.hid (by simpa [runT] using HTn5.out), Lib.hid (Goes.refl _ _)⟩
  case round =>
    obtain ⟨k, hk, rfl, HT, HG⟩ := hrel
    by_cases hlt : k < zs.length
    · have hlt' : (k : Int) < (zs.length : Int) := by omega
      obtain ⟨b, off, rfl, hbn, d0, d1, d2, d3⟩ := (HOF.out.goes HG.out) k hlt
      have hstep := Lib.hid (run_take n S0 zs k hlt)
      have hxs := HZ.out.1 zs[k] (List.getElem_mem hlt)
      have HD := Lib.hid (do_c T hi n (runT n S0 (zs.take k)) zs[k] (by omega) (run_cn HCn.out hCn HZ.out.1 HZ.out.2 k) wr HT.out (laid_on HLv5.out HG.out lg))
      unfold opV at HD
      generalize zs[k] = x at *
      clear hbn hxs
      go_wp2_with (go_at_call 17; refine HD.out.mono ?_; rintro e w6 ⟨rfl, ht6, hg6⟩; have HT6 := Lib.hid ht6; have HG6 := Lib.hid hg6; clear ht6 hg6)
      go_roundw
      case rel => exact ⟨k + 1, by omega, by go_num, by rw [hstep.out]; exact HT6, Lib.hid (HG.out.trans HG6.out)⟩
      case measure => simp [intOf]; omega
    · obtain rfl : k = zs.length := by omega
      have hlt' : ¬ (zs.length : Int) < (zs.length : Int) := by omega
      rw [List.take_length] at HT
      obtain ⟨e1, e2, e3, e4, e5, e6, e7⟩ := HEN.out zs HZ.out.1
      obtain ⟨t1, ht1⟩ : ∃ t, runT n S0 zs = t := ⟨_, rfl⟩
      rw [ht1] at HT e1 e2 e3 e4 e5 e6 e7
      have g3 : (t1.a.dr : Int) ≤ (S0.a.mv : Int) := by omega
      have g6 : (t1.b.dr : Int) ≤ (S0.b.mv : Int) := by omega
      have HE7 := Lib.hid e7
      have HLw := Lib.hid (laid_on HLv5.out HG.out lg)
      have HBw := Lib.hid (goes_b HB5.out HG.out hzT)
      have hc0 := tcounts_c T hi n t1 0 wr HT.out
      change Calls Tryz.prog _ _ _ (fun x w' => x = .returned (.tuple #[.int .i64 (t1.a.fd : Nat), .int .i64 (t1.a.mv : Nat), .int .i64 (t1.a.dr : Nat)]) ∧ _ ∧ _) at hc0
      rw [e1, e2] at hc0
      have hc1 := fun W h => tcounts_c T hi n t1 1 W h
      have hc1' : ∀ W, TunAt W T hi n t1 → Calls Tryz.prog 21 #[.pointer (some ⟨T, 0, none⟩), .int .i64 1] W (fun x w' => x = .returned (.tuple #[.int .i64 (S0.b.fd : Nat), .int .i64 (S0.b.mv : Nat), .int .i64 (t1.b.dr : Nat)]) ∧ TunAt w' T hi n t1 ∧ Goes (Rin T hi) W w') := by rw [← e4, ← e5]; exact hc1
      have HC0' := Lib.hid hc0
      have HC1' := Lib.hid hc1'
      clear e1 e2 e3 e4 e5 e6 e7 hc0 hc1 hc1' ht1
      have HSt := Lib.hid (fun W h => tstate_c T hi n t1 W h)
      generalize S0.a.fd = af at *
      generalize S0.a.mv = am at *
      generalize S0.b.fd = bf at *
      generalize S0.b.mv = bm at *
      generalize t1.a.dr = ad at *
      generalize t1.b.dr = bd at *
      obtain ⟨s, hs⟩ : ∃ s, t1.st = s := ⟨_, rfl⟩
      rw [hs] at HE7 HSt
      clear hs
      go_wp2_with fail
      go_at_call 21
      refine HC0'.out.mono ?_
      rintro e v6 ⟨rfl, ht, hg⟩
      have HTn6 := Lib.hid ht
      have HB6 := Lib.hid (goes_b HBw.out hg hzT)
      clear ht hg
      go_wp2_with fail
      go_at_call 21
      refine (HC1'.out _ HTn6.out).mono ?_
      rintro e v7 ⟨rfl, ht, hg⟩
      have HTn7 := Lib.hid ht
      have HB7 := Lib.hid (goes_b HB6.out hg hzT)
      clear ht hg
      rcases HE7.out with rfl | rfl
      · go_wp2_with (go_at_call 15; refine (HSt.out _ HTn7.out).mono ?_; rintro e v8 ⟨rfl, rfl⟩)
        go_ret
        exact ⟨rfl, HB7.out⟩
      · go_wp2_with (go_at_call 15; refine (HSt.out _ HTn7.out).mono ?_; rintro e v8 ⟨rfl, rfl⟩)
        go_ret
        exact ⟨rfl, HB7.out⟩
theorem stops_law (n : Int) (a : Option Addr) (c : Nat) (xs : List OpV) (a2 : Option Addr) (c2 : Nat) (ys : List OpV) (w : World) (hx : xs.length ≤ 9223372036854775807) (hA : OpVAt w.heap.size w a xs) (hy : ys.length ≤ 9223372036854775807) (hB : OpVAt w.heap.size w a2 ys) (hL : Laid w) :
    Calls Tryz.prog 6 #[.int .i64 n, .slice a xs.length c, .slice a2 ys.length c2] w fun e w' => e = .returned (.bool true) ∧ Below w.heap.size w w' := by
  rcases cap_cases n with ⟨k, rfl, h1, h2⟩ | h
  · exact stops_ok k h1 h2 a c xs a2 c2 ys w hx hy hA hB hL
  · have HM := Lib.hid (fun sv W => Made_err n h sv W)
    clear h
    have HSh := Lib.hid (shown_c w hL)
    have HL0 := Lib.hid hL
    clear hL
    go_enter Tryz.func6, Tryz.ntmps6
    go_wp2_with fail
    go_at_call 10
    refine HSh.out.mono ?_
    rintro e v0 ⟨rfl, hb⟩
    have HB0 := Lib.hid hb
    have HLv0 := Lib.hid (HL0.out.on hb)
    clear hb
    go_wp2_with (go_at_call 20; refine (HM.out _ _).mono ?_; rintro e v1 ⟨rfl, hb⟩)
    go_ret
    exact ⟨rfl, btr HB0.out hb⟩
end Go.Proofs.YtkokcfhfgnkdfaaGreatDoor.L17

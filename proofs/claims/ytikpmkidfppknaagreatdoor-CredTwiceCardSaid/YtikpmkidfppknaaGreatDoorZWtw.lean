/- Wtw -/
import Derived.Test.YtikpmkidfppknaaGreatDoorZ11
/- CredTwice. -/
namespace Go.Proofs.YtikpmkidfppknaaGreatDoor
open Go.RowKit Go.Shelf
attribute [local go_sem] Oper.semAt_some

theorem twice_row {l : List Crd} {ka kb : ByteArray} {now overlap span at_ : Int} (h2 : rotK l ka now overlap span = true) (h3 : rotF l ka now overlap span = false) (k2 : rotK (rotL l ka now overlap span) kb now overlap span = true) (k3 : rotF (rotL l ka now overlap span) kb now overlap span = false) (ha : now ≤ at_) :
    (∀ y ∈ holdL (rotL (rotL l ka now overlap span) kb now overlap span) at_, y.i = grtL l + 1 + 1 ∨ at_ < now + overlap) ∧ inB (holdL (rotL (rotL l ka now overlap span) kb now overlap span) at_) (grtL l + 1 + 1) = decide (at_ < now + span) ∧ inB (holdL (rotL (rotL l ka now overlap span) kb now overlap span) at_) (grtL l + 1) = (decide (at_ < now + span) && decide (at_ < now + overlap)) := by
  obtain ⟨f1, f2, f3, f4, f5, f6⟩ := rotK_facts h2
  have hg : grtL (rotL l ka now overlap span) = grtL l + 1 := rotL_last ..
  have hr1 := rot_right h2 h3
  refine ⟨fun y hy => ?_, ?_, ?_⟩
  · unfold holdL at hy
    rw [if_pos (rot_right k2 k3)] at hy
    obtain ⟨hy, hb⟩ := List.mem_filter.1 hy
    have hb := (holdB_iff _ _).1 hb
    unfold rotL at hy
    rcases List.mem_append.1 hy with h | h
    · obtain ⟨x, hx, hs, rfl⟩ := mem_ch.1 h
      right
      have : at_ < min x.t (now + overlap) := hb.2
      omega
    · rw [List.mem_singleton] at h
      left
      subst h
      show grtL (rotL l ka now overlap span) + 1 = _
      rw [hg]
  · have := rot_new k2 k3 ha
    rw [hg] at this
    exact this
  · have hx : (⟨grtL l + 1, ka, now, now + span⟩ : Crd) ∈ holdL (rotL l ka now overlap span) now := by
      unfold holdL
      rw [if_pos hr1]
      refine List.mem_filter.2 ⟨by unfold rotL; simp, (holdB_iff _ _).2 ⟨Int.le_refl _, ?_⟩⟩
      show now < now + span
      omega
    exact rot_old k2 k3 ha hx
set_option maxRecDepth 100000 in
set_option maxHeartbeats 4000000 in
theorem twice_law (a0 : Option Addr) (cap0 : Nat) (l0 : List Crd) (ka0 kb0 : ByteArray) (now overlap span at_ : Int) (w : World) (hs0 : l0.length ≤ 9223372036854775807) (hA0 : CrdAt w.heap.size w a0 l0) (hL : Lay w) :
    Calls Tryz.prog 7 #[.slice a0 l0.length cap0, .string ka0, .string kb0, .int .i64 now, .int .i64 overlap, .int .i64 span, .int .i64 at_] w fun y w' => y = .returned (.bool true) ∧ Below w.heap.size w w' := by
  have HL := Lib.hid hL
  have HS := Lib.hid (shown_c w hL)
  have A0_0 := Lib.hid hA0
  have HF := Lib.hid (fun W h => few_w a0 cap0 l0 hs0 W h)
  have hl6 := fewL_len l0
  generalize fewL l0 = l at *
  have HCA := Lib.hid (fun W => cut1_c ka0 W)
  generalize cut1 ka0 = ka at *
  have HCB := Lib.hid (fun W => cut1_c kb0 W)
  generalize cut1 kb0 = kb at *
  have HR1 := Lib.hid (fun a c W h1 h2 => rot_w a c l (by omega) ka now overlap span W h1 h2)
  have hm4 : (rotM l ka now overlap span).length ≤ 4 := rotM_len
  have HR2 := Lib.hid (fun a c W h1 h2 => rot_w a c (rotM l ka now overlap span) (by omega) kb now overlap span W h1 h2)
  have B0 := Lib.hid (Below.refl w.heap.size w)
  clear hL hA0
  rcases rot_two l ka now overlap span with ⟨h1, h2, h3, h4, h5⟩ | ⟨h1, h4, h5⟩
  · rcases rot_two (rotM l ka now overlap span) kb now overlap span with ⟨k1, k2, k3, k4, k5⟩ | ⟨k1, k4, k5⟩
    · rw [k1, k4, k5] at HR2
      rw [h1, h5] at HR1
      rw [h4] at HR1 HR2 k2 k3 k4
      have hrr := right_len (rot_right k2 k3)
      obtain ⟨f1, f2, ⟨f3, f4⟩, ⟨f5, f6⟩, ⟨f7, f8⟩, f9⟩ := rotK_facts h2
      have HT := Lib.hid (fun ha : now ≤ at_ => twice_row h2 h3 k2 k3 ha)
      rw [rotL_last] at HR2
      have hgb := grtL_bound (right_ids f1)
      clear h1 h2 h3 h4 h5 k1 k2 k3 k4 k5 f1 f2 hm4
      generalize rotL l ka now overlap span = M1 at *
      generalize rotL M1 kb now overlap span = M2 at *
      generalize grtL l = g at *
      have HTH := Lib.hid (fun a c W (h : CrdAt W.heap.size W a M2) => hold_w a c M2 (by omega) at_ W h)
      have htl := hold_len M2 at_
      by_cases q0 : at_ < now
      · clear HT HTH
        go_enter Tryz.func7, Tryz.ntmps7
        go_wp2_with fail
        (with_reducible refine (HS.out).mono ?_); rintro e w1 ⟨rfl, hb⟩
        have B1 := Lib.hid (btr B0.out hb)
        have A0_1 := Lib.hid (A0_0.out.on hb)
        clear hb
        go_wp2_with fail
        (with_reducible refine (HF.out _ A0_1.out).mono ?_); rintro e w2 ⟨a1, q1, rfl, hA, hb⟩
        have B2 := Lib.hid (btr B1.out hb)
        have A1_2 := Lib.hid hA
        clear hA
        clear hb
        go_wp2_with fail
        (with_reducible refine (HCA.out _).mono ?_); rintro e w3 ⟨rfl, hb⟩
        have B3 := Lib.hid (btr B2.out hb)
        have A1_3 := Lib.hid (A1_2.out.on hb)
        clear hb
        go_wp2_with fail
        (with_reducible refine (HCB.out _).mono ?_); rintro e w4 ⟨rfl, hb⟩
        have B4 := Lib.hid (btr B3.out hb)
        have A1_4 := Lib.hid (A1_3.out.on hb)
        clear hb
        go_wp2_with fail
        (with_reducible refine (HR1.out _ _ _ A1_4.out (HL.out.on B4.out).et).mono ?_); rintro e w5 ⟨a2, q2, rfl, hA, hb⟩
        have B5 := Lib.hid (btr B4.out hb)
        have A2_5 := Lib.hid hA
        clear hA
        clear hb
        go_wp2_with fail
        (with_reducible refine (HR2.out _ _ _ A2_5.out (HL.out.on B5.out).et).mono ?_); rintro e w6 ⟨a3, q3, rfl, hA, hb⟩
        have B6 := Lib.hid (btr B5.out hb)
        have A3_6 := Lib.hid hA
        clear hA
        clear hb
        go_wp2
        go_ret
        exact ⟨ret_bool (by first | rfl | (simp; done)), B6.out⟩
      · obtain ⟨t1, t2, t3⟩ := HT.out (by omega)
        clear HT
        generalize holdL M2 at_ = Th at *
        have HIJ := Lib.hid (fun a c W (h : CrdAt W.heap.size W a Th) => by have := in_c a c Th (by omega) (g + 1 + 1) W h; rw [t2] at this; exact this)
        have HII := Lib.hid (fun a c W (h : CrdAt W.heap.size W a Th) => by have := in_c a c Th (by omega) (g + 1) W h; rw [t3] at this; exact this)
        have HT1 := Lib.hid t1
        have hns : IntKind.i64.wrap (now + span) = now + span := IntWalk.i64_in _ (by omega)
        have hno : IntKind.i64.wrap (now + overlap) = now + overlap := IntWalk.i64_in _ (by omega)
        have hgg : IntKind.i64.wrap (g + 1 + 1) = g + 1 + 1 := IntWalk.i64_in _ (by omega)
        have hg1 : 0 ≤ g + 1 := by omega
        have hg2 : g + 1 ≤ 1000000001 := by omega
        have htl2 : Th.length ≤ 100000 := by omega
        clear t1 t2 t3 hgb hl6 hrr htl
        by_cases p1 : at_ < now + span
        all_goals by_cases p2 : at_ < now + overlap
        all_goals first | rw [decide_eq_true p1] at HIJ HII | rw [decide_eq_false p1] at HIJ HII
        all_goals first | rw [decide_eq_true p2] at HII | rw [decide_eq_false p2] at HII
        all_goals
          go_enter Tryz.func7, Tryz.ntmps7
          go_wp2_with fail
          (with_reducible refine (HS.out).mono ?_); rintro e w1 ⟨rfl, hb⟩
          have B1 := Lib.hid (btr B0.out hb)
          have A0_1 := Lib.hid (A0_0.out.on hb)
          clear hb
          go_wp2_with fail
          (with_reducible refine (HF.out _ A0_1.out).mono ?_); rintro e w2 ⟨a1, q1, rfl, hA, hb⟩
          have B2 := Lib.hid (btr B1.out hb)
          have A1_2 := Lib.hid hA
          clear hA
          clear hb
          go_wp2_with fail
          (with_reducible refine (HCA.out _).mono ?_); rintro e w3 ⟨rfl, hb⟩
          have B3 := Lib.hid (btr B2.out hb)
          have A1_3 := Lib.hid (A1_2.out.on hb)
          clear hb
          go_wp2_with fail
          (with_reducible refine (HCB.out _).mono ?_); rintro e w4 ⟨rfl, hb⟩
          have B4 := Lib.hid (btr B3.out hb)
          have A1_4 := Lib.hid (A1_3.out.on hb)
          clear hb
          go_wp2_with fail
          (with_reducible refine (HR1.out _ _ _ A1_4.out (HL.out.on B4.out).et).mono ?_); rintro e w5 ⟨a2, q2, rfl, hA, hb⟩
          have B5 := Lib.hid (btr B4.out hb)
          have A2_5 := Lib.hid hA
          clear hA
          clear hb
          go_wp2_with fail
          (with_reducible refine (HR2.out _ _ _ A2_5.out (HL.out.on B5.out).et).mono ?_); rintro e w6 ⟨a3, q3, rfl, hA, hb⟩
          have B6 := Lib.hid (btr B5.out hb)
          have A3_6 := Lib.hid hA
          clear hA
          clear hb
          go_wp2_with fail
          (with_reducible refine (HTH.out _ _ _ A3_6.out).mono ?_); rintro e w7 ⟨a4, q4, rfl, hA, hb⟩
          have B7 := Lib.hid (btr B6.out hb)
          have A4_7 := Lib.hid hA
          clear hA
          clear hb
          clear hns hno hgg
          go_wp2
          go_loop [23] (fun i => ∃ k : Nat, k ≤ Th.length ∧ i = .int .i64 (k : Int)) (fun i => Th.length - (intOf i).toNat)
          case atStart => exact ⟨0, Nat.zero_le _, rfl⟩
          case round =>
            obtain ⟨k, hk, rfl⟩ := hrel
            by_cases hlt : k < Th.length
            · have hlt' : (k : Int) < (Th.length : Int) := by omega
              have hx := HT1.out _ (List.getElem_mem hlt)
              obtain ⟨b, off, rfl, hbn, c0, c1⟩ := A4_7.out k hlt
              clear c1 hbn
              generalize Th[k].i = xi at *
              by_cases hd : xi = g + 1 + 1
              · subst hd
                go_wp2
                go_round
                case rel => exact ⟨k + 1, by omega, by go_num⟩
                case measure => simp [intOf]; omega
              · have p3 : at_ < now + overlap := by rcases hx with h | h; exact absurd h hd; exact h
                have hd2 : (xi != g + 1 + 1) = true := bne_iff_ne.2 hd
                clear hx
                first | (exfalso; clear hd2; omega) | (clear hd p3; go_wp2; go_round; (case rel => exact ⟨k + 1, by omega, by go_num⟩); (case measure => simp [intOf]; omega))
            · have hge : ¬ (k : Int) < (Th.length : Int) := by omega
              clear hlt
              go_wp2_with fail
              (with_reducible refine (HIJ.out _ _ _ A4_7.out).mono ?_); rintro e w8 ⟨rfl, rfl⟩
              go_wp2_with fail
              (with_reducible refine (HII.out _ _ _ A4_7.out).mono ?_); rintro e w9 ⟨rfl, rfl⟩
              go_wp2
              go_ret
              exact ⟨ret_bool (by first | rfl | (simp; done) | (simp; omega)), B7.out⟩
    · rw [h1] at HR1
      obtain ⟨N2, hN2⟩ : ∃ N, rotN (rotM l ka now overlap span) kb now overlap span = N := ⟨_, rfl⟩
      rw [hN2] at HR2 k1
      generalize rotM (rotM l ka now overlap span) kb now overlap span = M2 at *
      generalize rotI (rotM l ka now overlap span) kb now overlap span = I2 at *
      generalize rotM l ka now overlap span = M1 at *
      generalize rotI l ka now overlap span = I1 at *
      clear hN2 h1 h2 h3 h4 h5 k4 k5
      go_enter Tryz.func7, Tryz.ntmps7
      go_wp2_with fail
      (with_reducible refine (HS.out).mono ?_); rintro e w1 ⟨rfl, hb⟩
      have B1 := Lib.hid (btr B0.out hb)
      have A0_1 := Lib.hid (A0_0.out.on hb)
      clear hb
      go_wp2_with fail
      (with_reducible refine (HF.out _ A0_1.out).mono ?_); rintro e w2 ⟨a1, q1, rfl, hA, hb⟩
      have B2 := Lib.hid (btr B1.out hb)
      have A1_2 := Lib.hid hA
      clear hA
      clear hb
      go_wp2_with fail
      (with_reducible refine (HCA.out _).mono ?_); rintro e w3 ⟨rfl, hb⟩
      have B3 := Lib.hid (btr B2.out hb)
      have A1_3 := Lib.hid (A1_2.out.on hb)
      clear hb
      go_wp2_with fail
      (with_reducible refine (HCB.out _).mono ?_); rintro e w4 ⟨rfl, hb⟩
      have B4 := Lib.hid (btr B3.out hb)
      have A1_4 := Lib.hid (A1_3.out.on hb)
      clear hb
      go_wp2_with fail
      (with_reducible refine (HR1.out _ _ _ A1_4.out (HL.out.on B4.out).et).mono ?_); rintro e w5 ⟨a2, q2, rfl, hA, hb⟩
      have B5 := Lib.hid (btr B4.out hb)
      have A2_5 := Lib.hid hA
      clear hA
      clear hb
      go_wp2_with fail
      (with_reducible refine (HR2.out _ _ _ A2_5.out (HL.out.on B5.out).et).mono ?_); rintro e w6 ⟨a3, q3, rfl, hA, hb⟩
      have B6 := Lib.hid (btr B5.out hb)
      have A3_6 := Lib.hid hA
      clear hA
      clear hb
      go_wp2
      go_ret
      exact ⟨ret_bool (by first | rfl | (simp; done)), B6.out⟩
  · obtain ⟨N1, hN1⟩ : ∃ N, rotN l ka now overlap span = N := ⟨_, rfl⟩
    rw [hN1] at HR1 h1
    generalize rotN (rotM l ka now overlap span) kb now overlap span = N2 at *
    generalize rotM (rotM l ka now overlap span) kb now overlap span = M2 at *
    generalize rotI (rotM l ka now overlap span) kb now overlap span = I2 at *
    generalize rotM l ka now overlap span = M1 at *
    generalize rotI l ka now overlap span = I1 at *
    clear hN1 h4 h5
    go_enter Tryz.func7, Tryz.ntmps7
    go_wp2_with fail
    (with_reducible refine (HS.out).mono ?_); rintro e w1 ⟨rfl, hb⟩
    have B1 := Lib.hid (btr B0.out hb)
    have A0_1 := Lib.hid (A0_0.out.on hb)
    clear hb
    go_wp2_with fail
    (with_reducible refine (HF.out _ A0_1.out).mono ?_); rintro e w2 ⟨a1, q1, rfl, hA, hb⟩
    have B2 := Lib.hid (btr B1.out hb)
    have A1_2 := Lib.hid hA
    clear hA
    clear hb
    go_wp2_with fail
    (with_reducible refine (HCA.out _).mono ?_); rintro e w3 ⟨rfl, hb⟩
    have B3 := Lib.hid (btr B2.out hb)
    have A1_3 := Lib.hid (A1_2.out.on hb)
    clear hb
    go_wp2_with fail
    (with_reducible refine (HCB.out _).mono ?_); rintro e w4 ⟨rfl, hb⟩
    have B4 := Lib.hid (btr B3.out hb)
    have A1_4 := Lib.hid (A1_3.out.on hb)
    clear hb
    go_wp2_with fail
    (with_reducible refine (HR1.out _ _ _ A1_4.out (HL.out.on B4.out).et).mono ?_); rintro e w5 ⟨a2, q2, rfl, hA, hb⟩
    have B5 := Lib.hid (btr B4.out hb)
    have A2_5 := Lib.hid hA
    clear hA
    clear hb
    go_wp2_with fail
    (with_reducible refine (HR2.out _ _ _ A2_5.out (HL.out.on B5.out).et).mono ?_); rintro e w6 ⟨a3, q3, rfl, hA, hb⟩
    have B6 := Lib.hid (btr B5.out hb)
    have A3_6 := Lib.hid hA
    clear hA
    clear hb
    go_wp2
    go_ret
    exact ⟨ret_bool (by first | rfl | (simp; done)), B6.out⟩
end Go.Proofs.YtikpmkidfppknaaGreatDoor

/- FifoParts' walk. -/
import Derived.Test.YtoddlldjhaacnaaR
namespace Go.Proofs.Ytoddlldjhaacnaa
open Go.RowKit

theorem parts_list (l t : List UInt8) (cap a : Nat) (hl : l.length ≤ cap) (ha : a ≤ t.length) :
    (l ++ (t.take a).take (cap - l.length)) ++ (t.drop a).take (cap - (l ++ (t.take a).take (cap - l.length)).length) = l ++ t.take (cap - l.length) := by
  have e : cap - (l ++ (t.take a).take (cap - l.length)).length = (cap - l.length) - (t.take a).length := by
    simp only [List.length_append, List.length_take]; omega
  rw [e, List.append_assoc, ← List.take_append, List.take_append_drop]
theorem parts_fits (n cap a s : Nat) (hl : n ≤ cap) (ha : a ≤ s) : fits cap n s = fits cap n a + fits cap (n + min a (cap - n)) (s - a) := by
  unfold fits; omega

theorem ext_list (t : ByteArray) (i j : Nat) : (t.extract i j).data.toList = (t.data.toList.take j).drop i := by
  simp [ByteArray.data_extract, Array.toList_extract, List.extract, List.take_drop]
  by_cases h : i ≤ j
  · rw [Nat.add_sub_cancel' h]
  · rw [List.drop_of_length_le (by simp; omega), List.drop_of_length_le (by simp; omega)]
theorem push_one (F K cap : Nat) (l : List UInt8) (t : ByteArray) (ht : t.size ≤ 100) (w : World) (h : Qs w F K cap l) :
    Calls Try.prog 13 #[.pointer (some ⟨F, 0, none⟩), .string t] w fun e w' =>
      e = .returned (.int .i64 (fits cap l.length t.size : Nat)) ∧ Hid (Qs w' F K cap (l ++ t.data.toList.take (cap - l.length))) ∧ Hid (Off F K w w') :=
  push_any F K cap l t (by omega) w h
theorem push_first (F K cap : Nat) (l : List UInt8) (t : ByteArray) (ht : t.size ≤ 100) (a : Nat) (ha : a ≤ t.size) (w : World) (h : Qs w F K cap l) :
    Calls Try.prog 13 #[.pointer (some ⟨F, 0, none⟩), .string (t.extract 0 a)] w fun e w' =>
      e = .returned (.int .i64 (fits cap l.length a : Nat)) ∧ Hid (Qs w' F K cap (l ++ (t.data.toList.take a).take (cap - l.length))) ∧ Hid (Off F K w w') := by
  refine (push_any F K cap l _ (by simp; omega) w h).mono fun e w' ⟨h1, h2, h3⟩ => ⟨?_, Lib.hid ?_, Lib.hid h3⟩
  · rw [h1]; exact ret_int (by simp [Nat.min_eq_left ha])
  · rw [ext_list, List.drop_zero] at h2; exact h2
theorem push_second (F K cap : Nat) (l : List UInt8) (t : ByteArray) (ht : t.size ≤ 100) (a : Nat) (ha : a ≤ t.size) (w : World) (h : Qs w F K cap (l ++ (t.data.toList.take a).take (cap - l.length))) (hl : l.length ≤ cap) :
    Calls Try.prog 13 #[.pointer (some ⟨F, 0, none⟩), .string (t.extract a t.size)] w fun e w' =>
      e = .returned (.int .i64 (fits cap (l.length + min a (cap - l.length)) (t.size - a) : Nat)) ∧ Hid (Qs w' F K cap (l ++ t.data.toList.take (cap - l.length))) ∧ Hid (Off F K w w') := by
  have hsz : t.data.toList.length = t.size := rfl
  refine (push_any F K cap _ _ (by simp; omega) w h).mono fun e w' ⟨h1, h2, h3⟩ => ⟨?_, Lib.hid ?_, Lib.hid h3⟩
  · rw [h1]
    refine ret_int ?_
    have e1 : (l ++ (t.data.toList.take a).take (cap - l.length)).length = l.length + min a (cap - l.length) := by
      simp only [List.length_append, List.length_take, hsz]; omega
    have e2 : (t.extract a t.size).size = t.size - a := by simp
    rw [e1, e2]
  · have e3 : t.data.toList.take t.size = t.data.toList := List.take_of_length_le (by rw [hsz]; exact Nat.le_refl _)
    rw [ext_list, e3, parts_list l _ cap a hl (by rw [hsz]; exact ha)] at h2
    exact h2

set_option maxRecDepth 100000 in
set_option maxHeartbeats 2000000 in
theorem parts_any (n : Int) (a : Option Addr) (c : Nat) (xs : List OpV) (s : ByteArray) (hs : s.size ≤ maxLen) (m : Int) (w : World) (h : OpsIn w.heap.size w a xs) :
    Calls Try.prog 5 #[.int .i64 n, .slice a xs.length c, .string s, .int .i64 m] w fun e w' => e = .returned (.bool true) ∧ Below w.heap.size w w' := by
  have HO := Lib.hid h
  clear h
  unfold maxLen at hs
  go_enter Try.func5, Try.ntmps5
  go_upto_region 3 with (first
      | (go_at_call 8; refine (shown_any _).mono ?_; rintro e w1 ⟨rfl, hb1⟩)
      | (go_at_call 9; refine (cut_post a c xs _ ((HO.out.below hb1).mono hb1.size)).mono ?_; rintro e w2 ⟨a2, c2, rfl, ho2, hb2'⟩; have hb2 := hb1.trans (hb2'.mono hb1.size); have hys := cutAll_size xs; (have hyl : (cutAll xs).length ≤ 40 := by rw [cutAll_length]; omega); have HO2 := Lib.hid ho2; have HYS := Lib.hid hys; clear ho2 hb2' hys hb1; generalize cutAll xs = ys at *))
  go_cut [2] (fun v wx => (∃ t : ByteArray, t.size ≤ 100 ∧ v = .string t) ∧ w2 = wx)
  case first =>
    by_cases h100 : s.size ≤ 100
    · go_wp2_with fail
      go_meet
      exact ⟨⟨_, h100, rfl⟩, rfl⟩
    · go_wp2_with fail
      all_goals
        go_meet
        refine ⟨⟨_, ?_, rfl⟩, rfl⟩
        simp
        try omega
  case rest =>
    obtain ⟨⟨t, ht, rfl⟩, rfl⟩ := hcut
    clear hs s
    by_cases hn : 1 ≤ n ∧ n ≤ 4096
    · obtain ⟨n1, n2⟩ := hn
      obtain ⟨cap, rfl⟩ : ∃ cap : Nat, n = cap := ⟨n.toNat, by omega⟩
      have HN1 := Lib.hid n1
      have HN2 := Lib.hid n2
      clear n1 n2
      go_upto_region 6 with (first
        | (go_at_call 10; refine (new_ok cap (by have := HN1.out; omega) (by have := HN2.out; omega) _).mono ?_; rintro e w3 ⟨F, K, rfl, hq, hb3', hF, hK⟩; have HQ3 := Lib.hid hq; have hb3 := hb2.trans (hb3'.mono hb2.size); (have h23 := hb2.size); have hb23 := hb3'; clear hq hb3' hb2)
        | (go_at_call 10; refine (new_ok cap (by have := HN1.out; omega) (by have := HN2.out; omega) _).mono ?_; rintro e w4 ⟨F2, K2, rfl, hq, hb4', hF2, hK2⟩; have HQ4 := Lib.hid hq; have HQ3' := Lib.hid (HQ3.out.below hb4' HQ3.out.lt.1 HQ3.out.lt.2); have hlt3 := HQ3.out.lt; have hb4 := hb3.trans (hb4'.mono hb3.size); (have h34 := hb23.size); have hb24 := hb23.trans (hb4'.mono h34); clear hq hb4' hb3 hb23))
      by_cases hm : 0 ≤ m ∧ m ≤ t.size
      · obtain ⟨m1, m2⟩ := hm
        obtain ⟨at', rfl⟩ : ∃ at' : Nat, m = at' := ⟨m.toNat, by omega⟩
        have hat : at' ≤ t.size := by omega
        have b1 : decide ((at' : Int) < 0) = false := by simp
        have b2 : decide (t.size < at') = false := by simp; omega
        go_wp2_with fail
        go_loopw [14] (fun i wr => ∃ k : Nat, k ≤ ys.length ∧ i = .int .i64 k ∧ Qs wr F K cap (runL cap [] (ys.take k)) ∧ Qs wr F2 K2 cap (runL cap [] (ys.take k)) ∧ Below w2.heap.size w2 wr ∧ Below w.heap.size w wr)
          (fun i _ => ys.length - (intOf i).toNat)
        case atStart => exact ⟨0, Nat.zero_le _, rfl, HQ3'.out, HQ4.out, hb24, hb4⟩
        case round =>
          obtain ⟨k, hk, rfl, hq, hq2, hb4, hb5⟩ := hrel
          have HQ := Lib.hid hq
          have HP := Lib.hid hq2
          have HB4 := Lib.hid hb4
          have HB5 := Lib.hid hb5
          clear hq hq2 hb4 hb5
          have n1 : F2 ≠ F := by omega
          have n2 : F2 ≠ K := by omega
          have n3 : K2 ≠ F := by omega
          have n4 : K2 ≠ K := by omega
          by_cases hlt : k < ys.length
          · obtain ⟨b, off, rfl, hbl, c0, c1, c2'⟩ := (HO2.out.below HB4.out) k hlt
            rw [Nat.mul_comm 3 k] at c0 c1 c2'
            have HL := Lib.hid (runL_take cap [] ys k hlt)
            have hsz := HYS.out ys[k] (List.getElem_mem hlt)
            have hi1 : (k : Int) < (ys.length : Int) := by omega
            generalize ys[k] = x at *
            have f1 : b ≠ F := by omega
            have f2 : b ≠ K := by omega
            go_wp2_with (first
              | (go_at_call 15; refine (do_any F K cap _ x (by omega) _ HQ.out).mono ?_; rintro e w6 ⟨rfl, hq, ho⟩; have HQ6 := Lib.hid hq; have HO6 := Lib.hid ho; have HP6 := Lib.hid (HP.out.off ho n1 n2 n3 n4); (have d0 := (ho.cell (blt c0) f1 f2).trans c0); (have d1 := (ho.cell (blt c1) f1 f2).trans c1); (have d2 := (ho.cell (blt c2') f1 f2).trans c2'); clear c0 c1 c2'; clear hq ho HP HQ)
              | (go_at_call 15; refine (do_any F2 K2 cap _ x (by omega) _ HP6.out).mono ?_; rintro e w7 ⟨rfl, hq, ho⟩; have HP7 := Lib.hid hq; have HO7 := Lib.hid ho; have HQ7 := Lib.hid (HQ6.out.off ho n1.symm n3.symm n2.symm n4.symm); clear hq ho HP6 HQ6))
            go_roundw
            case rel => exact ⟨k + 1, by omega, by go_num, by rw [HL.out]; exact HQ7.out, by rw [HL.out]; exact HP7.out,
              (HB4.out.trans (HO6.out.below HB4.out.size hF hK)).trans (HO7.out.below (Nat.le_trans HB4.out.size HO6.out.size) (by omega) (by omega)),
              (HB5.out.trans (HO6.out.below HB5.out.size (by omega) (by omega))).trans (HO7.out.below (Nat.le_trans HB5.out.size HO6.out.size) (by omega) (by omega))⟩
            case measure => simp [intOf]; omega
          · obtain rfl : k = ys.length := by omega
            rw [List.take_length] at HQ HP
            generalize runL cap [] ys = l at *
            have hll := HQ.out.le
            have h1 := fun W hq => push_one F K cap l t ht W hq
            have h2 := fun W hq => push_first F2 K2 cap l t ht at' hat W hq
            have h3 := fun W hq => push_second F2 K2 cap l t ht at' hat W hq hll
            have hsum : ((fits cap l.length t.size : Nat) : Int) = (fits cap l.length at' : Nat) + (fits cap (l.length + min at' (cap - l.length)) (t.size - at') : Nat) := by
              rw [parts_fits l.length cap at' t.size hll hat]; omega
            have hp1 : fits cap l.length at' ≤ 100 := by unfold fits; omega
            have hp2 : fits cap (l.length + min at' (cap - l.length)) (t.size - at') ≤ 100 := by unfold fits; omega
            generalize fits cap l.length t.size = p at *
            generalize fits cap l.length at' = p1 at *
            generalize fits cap (l.length + min at' (cap - l.length)) (t.size - at') = p2 at *
            have H1 := Lib.hid h1
            have H2 := Lib.hid h2
            have H3 := Lib.hid h3
            clear h1 h2 h3
            go_wp2_with (first
              | (go_at_call 13; refine (H1.out _ HQ.out).mono ?_; rintro e w8 ⟨rfl, HQ8, HO8⟩; have HP8 := Lib.hid (HP.out.off HO8.out n1 n2 n3 n4); clear HP HQ H1)
              | (go_at_call 13; refine (H2.out _ HP8.out).mono ?_; rintro e w9 ⟨rfl, HP9, HO9⟩; have HQ9 := Lib.hid (HQ8.out.off HO9.out n1.symm n3.symm n2.symm n4.symm); clear HP8 HQ8 H2)
              | (go_at_call 13; refine (H3.out _ HP9.out).mono ?_; rintro e w10 ⟨rfl, HP10, HO10⟩; have HQ10 := Lib.hid (HQ9.out.off HO10.out n1.symm n3.symm n2.symm n4.symm); clear HP9 HQ9 H3)
              | (go_at_call 18; refine (peek_any F K cap _ 5000 _ HQ10.out).mono ?_; rintro e w11 ⟨rfl, hb11⟩; have HB11 := Lib.hid hb11; have HP11 := Lib.hid (HP10.out.below hb11 HP10.out.lt.1 HP10.out.lt.2); clear hb11 HP10 HQ10)
              | (go_at_call 18; refine (peek_any F2 K2 cap _ 5000 _ HP11.out).mono ?_; rintro e w12 ⟨rfl, hb12⟩; have HB12 := Lib.hid hb12; clear hb12))
            go_ret
            have z1 := HB5.out.size
            have z2 := Nat.le_trans z1 HO8.out.size
            have z3 := Nat.le_trans z2 HO9.out.size
            have z4 := Nat.le_trans z3 HO10.out.size
            have z5 := Nat.le_trans z4 HB11.out.size
            refine ⟨by simp, ?_⟩
            exact HB5.out.trans ((HO8.out.below z1 (by omega) (by omega)).trans ((HO9.out.below z2 (by omega) (by omega)).trans ((HO10.out.below z3 (by omega) (by omega)).trans ((HB11.out.mono z4).trans (HB12.out.mono z5)))))
      · have HM := Lib.hid hm
        by_cases m0 : m < 0
        · clear hm HM
          go_wp2
          go_ret
          exact ⟨rfl, hb4⟩
        · have m1 : ¬ m ≤ t.size := by have := HM.out; omega
          clear hm HM
          go_wp2
          go_ret
          exact ⟨rfl, hb4⟩
    · have HN := Lib.hid (show n < 1 ∨ 4096 < n by omega)
      clear hn
      go_wp2_with (first
        | (go_at_call 10; refine (new_err n HN.out _).mono ?_; rintro e w1 ⟨rfl, rfl⟩))
      go_ret
      exact ⟨rfl, hb2⟩
end Go.Proofs.Ytoddlldjhaacnaa

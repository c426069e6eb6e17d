/- FifoOrder's walk. -/
import Derived.Test.YtoddlldjhaacnaaU
namespace Go.Proofs.Ytoddlldjhaacnaa
open Go.RowKit

theorem ext_string (s : ByteArray) (p : Nat) : s.extract 0 p = str (s.data.toList.take p) := by
  have := ext_list s 0 p
  rw [List.drop_zero] at this
  rw [← this]; rfl

set_option maxRecDepth 100000 in
set_option maxHeartbeats 4000000 in
theorem order_any (n : Int) (a : Option Addr) (c : Nat) (xs : List OpV) (w : World) (h : OpsIn w.heap.size w a xs) :
    Calls Try.prog 4 #[.int .i64 n, .slice a xs.length c] w fun e w' => e = .returned (.bool true) ∧ Below w.heap.size w w' := by
  have HO := Lib.hid h
  clear h
  by_cases hn : 1 ≤ n ∧ n ≤ 4096
  · obtain ⟨n1, n2⟩ := hn
    obtain ⟨cap, rfl⟩ : ∃ cap : Nat, n = cap := ⟨n.toNat, by omega⟩
    have HN1 := Lib.hid n1
    have HN2 := Lib.hid n2
    clear n1 n2
    go_enter Try.func4, Try.ntmps4
    go_wp2_with (first
      | (go_at_call 8; refine (shown_any _).mono ?_; rintro e w1 ⟨rfl, hb1⟩)
      | (go_at_call 9; refine (cut_post a c xs _ ((HO.out.below hb1).mono hb1.size)).mono ?_; rintro e w2 ⟨a2, c2, rfl, ho2, hb2'⟩; have hb2 := hb1.trans (hb2'.mono hb1.size); have hys := cutAll_size xs; (have hyl : (cutAll xs).length ≤ 40 := by rw [cutAll_length]; omega); have HO2 := Lib.hid ho2; have HYS := Lib.hid hys; clear ho2 hb2' hys hb1; generalize cutAll xs = ys at *)
      | (go_at_call 10; refine (new_ok cap (by have := HN1.out; omega) (by have := HN2.out; omega) _).mono ?_; rintro e w3 ⟨F, K, rfl, hq, hb3', hF, hK⟩; have HQ3 := Lib.hid hq; have hb3 := hb2.trans (hb3'.mono hb2.size); (have h23 := hb2.size); have hb23 := hb3'; clear hq hb3' hb2))
    go_loopw [8, 9, 10] (fun ti tz i wr => ∃ (k : Nat) (o l : List UInt8), k ≤ ys.length ∧ i = .int .i64 k ∧ ti = .string (str (o ++ l)) ∧ tz = .string (str o) ∧ o.length + l.length ≤ 100 * k ∧ Qs wr F K cap l ∧ Below w2.heap.size w2 wr ∧ Below w.heap.size w wr)
      (fun _ _ i _ => ys.length - (intOf i).toNat)
    case atStart => exact ⟨0, [], [], Nat.zero_le _, rfl, rfl, rfl, by simp, HQ3.out, hb23, hb3⟩
    case round =>
      obtain ⟨k, o, l, hk, rfl, rfl, rfl, hol, hq, hb4, hb5⟩ := hrel
      have HQ := Lib.hid hq
      have HB4 := Lib.hid hb4
      have HB5 := Lib.hid hb5
      have hll := hq.le
      have hcap := hq.cap_le
      have hAsz := str_size (o ++ l)
      have hOsz := str_size o
      have hA1 : (str (o ++ l)).size ≤ 4000 := by rw [hAsz, List.length_append]; omega
      have hO1 : (str o).size ≤ 4000 := by rw [hOsz]; omega
      clear hq hb4 hb5 hAsz hOsz
      by_cases hlt : k < ys.length
      · obtain ⟨b, off, rfl, hbl, c0, c1, c2'⟩ := (HO2.out.below HB4.out) k hlt
        rw [Nat.mul_comm 3 k] at c0 c1 c2'
        have hsz := HYS.out ys[k] (List.getElem_mem hlt)
        have hi1 : (k : Int) < (ys.length : Int) := by omega
        have f1 : b ≠ F := by omega
        have f2 : b ≠ K := by omega
        generalize ys[k] = x at *
        obtain ⟨kd, n, s⟩ := x
        dsimp only at hsz c0 c1 c2'
        by_cases k0 : kd = 0
        · subst k0
          have hp1 : fits cap l.length s.size ≤ s.size := by unfold fits; omega
          have hp2 : s.data.toList.take (cap - l.length) = s.data.toList.take (fits cap l.length s.size) := by
            unfold fits
            have e : s.data.toList.length = s.size := rfl
            rcases Nat.le_total s.size (cap - l.length) with h | h
            · rw [Nat.min_eq_left h, List.take_of_length_le (by rw [e]; exact h), List.take_of_length_le (by rw [e]; exact Nat.le_refl _)]
            · rw [Nat.min_eq_right h]
          have hd := fun l2 hl W hq => do_push F K cap l l2 n s _ hsz rfl hl W hq
          generalize fits cap l.length s.size = p at *
          obtain ⟨l2, hl2⟩ : ∃ l2, l ++ s.data.toList.take (cap - l.length) = l2 := ⟨_, rfl⟩
          have HD := Lib.hid (hd l2 hl2)
          have HL2 := Lib.hid hl2
          have HP2 := Lib.hid hp2
          have hl2n : l2.length ≤ l.length + p := by rw [← HL2.out, HP2.out, List.length_append, List.length_take]; omega
          have b1 : decide (s.size < p) = false := by simp; omega
          have hx : (s.extract 0 p).size ≤ 100 := by simp; omega
          clear hd hl2 hp2
          obtain ⟨r, hr⟩ : ∃ r, cap - l2.length = r := ⟨_, rfl⟩
          have HR := Lib.hid hr
          clear hr
          go_wp2_with (first
            | (go_at_call 15; refine (HD.out _ HQ.out).mono ?_; rintro e w6 ⟨rfl, HQ6, HO6⟩; (have d0 := (HO6.out.cell (blt c0) f1 f2).trans c0); (have d1 := (HO6.out.cell (blt c1) f1 f2).trans c1); (have d2 := (HO6.out.cell (blt c2') f1 f2).trans c2'); clear c0 c1 c2'; (have hle6 := HQ6.out.le); (have hsum : (l2.length : Int) + (r : Int) = (cap : Int) := by have := HR.out; omega))
            | (go_at_call 12; refine (len_any F K cap l2 _ HQ6.out).mono ?_; rintro e w7 ⟨rfl, rfl⟩)
            | (go_at_call 17; refine (room_q F K cap l2 r HR.out _ HQ6.out).mono ?_; rintro e w8 ⟨rfl, q, rfl⟩))
          go_roundw
          case rel => exact ⟨k + 1, o, l2, by omega, by go_num, by rw [ext_string, str_append, List.append_assoc, ← HP2.out, HL2.out], rfl, by omega, HQ6.out.drewN q, below_drewN (HB4.out.trans (HO6.out.below HB4.out.size hF hK)) q, below_drewN (HB5.out.trans (HO6.out.below HB5.out.size (by omega) (by omega))) q⟩
          case measure => simp [intOf]; omega
        · by_cases k1 : kd = 1
          · subst k1
            have hp := fun W hq => do_pop F K cap l (l.drop n.toNat) (l.take n.toNat) n s hsz rfl rfl W hq
            have hta : l.take n.toNat ++ l.drop n.toNat = l := List.take_append_drop _ _
            generalize l.drop n.toNat = l2 at *
            generalize l.take n.toNat = t at *
            have HD := Lib.hid hp
            have HT := Lib.hid hta
            have hlen : t.length + l2.length = l.length := by rw [← HT.out, List.length_append]
            have ht1 : (str t).size ≤ 4096 := by rw [str_size]; omega
            have hs3 : (str o).size + (str t).size ≤ 9223372036854775807 := by omega
            clear hp hta
            obtain ⟨r, hr⟩ : ∃ r, cap - (l2 : List UInt8).length = r := ⟨_, rfl⟩
            have HR := Lib.hid hr
            clear hr
            go_wp2_with (first
              | (go_at_call 15; refine (HD.out _ HQ.out).mono ?_; rintro e w6 ⟨rfl, HQ6, HO6⟩; (have d0 := (HO6.out.cell (blt c0) f1 f2).trans c0); (have d1 := (HO6.out.cell (blt c1) f1 f2).trans c1); (have d2 := (HO6.out.cell (blt c2') f1 f2).trans c2'); clear c0 c1 c2'; (have hle6 := HQ6.out.le); (have hsum : (l2.length : Int) + (r : Int) = (cap : Int) := by have := HR.out; omega))
              | (go_at_call 12; refine (len_any F K cap l2 _ HQ6.out).mono ?_; rintro e w7 ⟨rfl, rfl⟩)
              | (go_at_call 17; refine (room_q F K cap l2 r HR.out _ HQ6.out).mono ?_; rintro e w8 ⟨rfl, q, rfl⟩))
            go_roundw
            case rel => exact ⟨k + 1, o ++ t, l2, by omega, by go_num, by rw [List.append_assoc, HT.out], by rw [str_append], by rw [List.length_append]; omega, HQ6.out.drewN q, below_drewN (HB4.out.trans (HO6.out.below HB4.out.size hF hK)) q, below_drewN (HB5.out.trans (HO6.out.below HB5.out.size (by omega) (by omega))) q⟩
            case measure => simp [intOf]; omega
          · by_cases k2 : kd = 2
            · subst k2
              have hp := fun W hq => do_peek F K cap l (l.take n.toNat) n s hsz rfl W hq
              generalize l.take n.toNat = t at *
              have HD := Lib.hid hp
              clear hp
              obtain ⟨r, hr⟩ : ∃ r, cap - (l : List UInt8).length = r := ⟨_, rfl⟩
              have HR := Lib.hid hr
              clear hr
              go_wp2_with (first
                | (go_at_call 15; refine (HD.out _ HQ.out).mono ?_; rintro e w6 ⟨rfl, HQ6, HO6⟩; (have d0 := (HO6.out.cell (blt c0) f1 f2).trans c0); (have d1 := (HO6.out.cell (blt c1) f1 f2).trans c1); (have d2 := (HO6.out.cell (blt c2') f1 f2).trans c2'); clear c0 c1 c2'; (have hle6 := HQ6.out.le); (have hsum : (l.length : Int) + (r : Int) = (cap : Int) := by have := HR.out; omega))
                | (go_at_call 12; refine (len_any F K cap l _ HQ6.out).mono ?_; rintro e w7 ⟨rfl, rfl⟩)
                | (go_at_call 17; refine (room_q F K cap l r HR.out _ HQ6.out).mono ?_; rintro e w8 ⟨rfl, q, rfl⟩))
              go_roundw
              case rel => exact ⟨k + 1, o, l, by omega, by go_num, rfl, rfl, by omega, HQ6.out.drewN q, below_drewN (HB4.out.trans (HO6.out.below HB4.out.size hF hK)) q, below_drewN (HB5.out.trans (HO6.out.below HB5.out.size (by omega) (by omega))) q⟩
              case measure => simp [intOf]; omega
            · by_cases k3 : kd = 3
              · subst k3
                have hp := fun W hq => do_clear F K cap l n s hsz W hq
                have HD := Lib.hid hp
                clear hp
                have HP := Lib.hid (peek_whole F K cap l 5000 (by omega))
                have hl1 : (str l).size ≤ 4096 := by rw [str_size]; omega
                have hs3 : (str o).size + (str l).size ≤ 9223372036854775807 := by omega
                obtain ⟨r, hr⟩ : ∃ r, cap - (([] : List UInt8) : List UInt8).length = r := ⟨_, rfl⟩
                have HR := Lib.hid hr
                clear hr
                go_wp2_with (first
                  | (go_at_call 18; refine (HP.out _ HQ.out).mono ?_; rintro e w5 ⟨rfl, HB7⟩; (have c0 := (HB7.out.cell (p := ⟨b, off + k * 3, none⟩) (blt c0)).trans c0); (have c1 := (HB7.out.cell (p := ⟨b, off + k * 3 + 1, none⟩) (blt c1)).trans c1); (have c2' := (HB7.out.cell (p := ⟨b, off + k * 3 + 2, none⟩) (blt c2')).trans c2'); (have HQ := Lib.hid (HQ.out.below HB7.out HQ.out.lt.1 HQ.out.lt.2)); (have HB4 := Lib.hid (HB4.out.trans (HB7.out.mono HB4.out.size))); (have HB5 := Lib.hid (HB5.out.trans (HB7.out.mono HB5.out.size))); clear HP)
                  | (go_at_call 15; refine (HD.out _ HQ.out).mono ?_; rintro e w6 ⟨rfl, HQ6, HO6⟩; (have d0 := (HO6.out.cell (blt c0) f1 f2).trans c0); (have d1 := (HO6.out.cell (blt c1) f1 f2).trans c1); (have d2 := (HO6.out.cell (blt c2') f1 f2).trans c2'); clear c0 c1 c2'; (have hle6 := HQ6.out.le); (have hsum : (r : Int) = (cap : Int) := by have := HR.out; simp at this; omega))
                  | (go_at_call 12; refine (len_any F K cap ([] : List UInt8) _ HQ6.out).mono ?_; rintro e w7 ⟨rfl, rfl⟩)
                  | (go_at_call 17; refine (room_q F K cap ([] : List UInt8) r HR.out _ HQ6.out).mono ?_; rintro e w8 ⟨rfl, q, rfl⟩))
                go_roundw
                case rel => exact ⟨k + 1, o ++ l, ([] : List UInt8), by omega, by go_num, by rw [List.append_nil], by rw [str_append], by simp; omega, HQ6.out.drewN q, below_drewN (HB4.out.trans (HO6.out.below HB4.out.size hF hK)) q, below_drewN (HB5.out.trans (HO6.out.below HB5.out.size (by omega) (by omega))) q⟩
                case measure => simp [intOf]; omega
              · skip
                have hp := fun W hq => do_else F K cap l kd n s hsz k0 k1 k2 k3 W hq
                have HD := Lib.hid hp
                clear hp
                have b0 : (kd == 0) = false := by simpa using k0
                have b1 : (kd == 1) = false := by simpa using k1
                have b3 : (kd == 3) = false := by simpa using k3
                obtain ⟨r, hr⟩ : ∃ r, cap - (l : List UInt8).length = r := ⟨_, rfl⟩
                have HR := Lib.hid hr
                clear hr
                go_wp2_with (first
                  | (go_at_call 15; refine (HD.out _ HQ.out).mono ?_; rintro e w6 ⟨rfl, HQ6, HO6⟩; (have d0 := (HO6.out.cell (blt c0) f1 f2).trans c0); (have d1 := (HO6.out.cell (blt c1) f1 f2).trans c1); (have d2 := (HO6.out.cell (blt c2') f1 f2).trans c2'); clear c0 c1 c2'; (have hle6 := HQ6.out.le); (have hsum : (l.length : Int) + (r : Int) = (cap : Int) := by have := HR.out; omega))
                  | (go_at_call 12; refine (len_any F K cap l _ HQ6.out).mono ?_; rintro e w7 ⟨rfl, rfl⟩)
                  | (go_at_call 17; refine (room_q F K cap l r HR.out _ HQ6.out).mono ?_; rintro e w8 ⟨rfl, q, rfl⟩))
                go_roundw
                case rel => exact ⟨k + 1, o, l, by omega, by go_num, rfl, rfl, by omega, HQ6.out.drewN q, below_drewN (HB4.out.trans (HO6.out.below HB4.out.size hF hK)) q, below_drewN (HB5.out.trans (HO6.out.below HB5.out.size (by omega) (by omega))) q⟩
                case measure => simp [intOf]; omega
      · obtain rfl : k = ys.length := by omega
        have HP := Lib.hid (peek_whole F K cap l cap (by omega))
        have hx := str_append o l
        have hl1 : (str l).size ≤ 4096 := by rw [str_size]; omega
        have hs3 : (str o).size + (str l).size ≤ 9223372036854775807 := by omega
        go_wp2_with (first
          | (go_at_call 18; refine (HP.out _ HQ.out).mono ?_; rintro e w7 ⟨rfl, HB7⟩))
        go_ret
        exact ⟨rfl, HB5.out.trans (HB7.out.mono HB5.out.size)⟩
  · have HN := Lib.hid (show n < 1 ∨ 4096 < n by omega)
    clear hn
    go_enter Try.func4, Try.ntmps4
    go_wp2_with (first
      | (go_at_call 8; refine (shown_any _).mono ?_; rintro e w1 ⟨rfl, hb1⟩)
      | (go_at_call 9; refine (cut_post a c xs _ ((HO.out.below hb1).mono hb1.size)).mono ?_; rintro e w2 ⟨a2, c2, rfl, ho2, hb2'⟩; have hb2 := hb1.trans (hb2'.mono hb1.size); clear ho2 hb2' hb1)
      | (go_at_call 10; refine (new_err n HN.out _).mono ?_; rintro e w1 ⟨rfl, rfl⟩))
    go_ret
    exact ⟨rfl, hb2⟩
end Go.Proofs.Ytoddlldjhaacnaa
